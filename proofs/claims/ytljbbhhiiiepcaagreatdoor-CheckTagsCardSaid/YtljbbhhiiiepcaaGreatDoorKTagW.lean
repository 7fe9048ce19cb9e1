import Derived.Test.YtljbbhhiiiepcaaGreatDoorKCode
import Derived.Test.YtljbbhhiiiepcaaGreatDoorKTagN
/- What the walk of CheckTags is told of a program of the feed. -/
set_option linter.unusedSimpArgs false
set_option linter.unusedVariables false
set_option maxHeartbeats 8000000
set_option maxRecDepth 100000
namespace Go.Proofs.YtljbbhhiiiepcaaGreatDoor.Ck
open Go Go.RowKit Go.Proofs.YtljbbhhiiiepcaaGreatDoor
theorem tgN_le:∀(m:Nat) (l:List ST),Szs l < m→tgN l≤cnts l:=by
 intro m
 induction m with
 | zero=>intro l h;omega
 | succ m ih =>
  intro l
  induction l with
  | nil=>intro _;simp[tgN,tgSs]
  | cons S r ihr =>
   intro hm
   rw[Szs] at hm
   have hb:=zc7 S
   have h1:(tgSs S.body).length≤cnts S.body:=ih S.body (by omega)
   have h2:(tgSs S.els).length≤cnts S.els:=ih S.els (by omega)
   have h3:(tgSs r).length≤cnts r:=ihr (by omega)
   have h4:(tgS S).length=(if 0 < S.tag then 1 else 0)+((tgSs S.body).length+(tgSs S.els).length):=zek S
   have h5:=zd9 S
   rw[tgN,tgSs,List.length_append,cnts]
   have h6:(if 0 < S.tag then 1 else 0)≤1:=by split<;>omega
   omega
structure TagP (w0:World) (N:Nat) (k:Int) (a:Option Addr) (c:Nat) (l:List ST):Prop where
 cell:w0.cell? ⟨N,11,none⟩=some (.slice a l.length c)
 lt:N < w0.heap.size
 lim:l.length≤9223372036854775807
 inn:SsIn w0 0 a 0 l
 few:tgN l≤31
 crit:∀W,Past w0 W→∀(va:Option Addr) (vc:Nat) (L:List ByteArray) (e:Nat),L.length≤9→StrsIn W 0 va L→(L=[]∧e=0∨L=[wD,wA]∧e=0∨L=[wA,wXs]∧e=7∨L=[wP]∧e=6) →
  Calls Tryz.prog 17 #[.agg #[.slice (some ⟨N,0,none⟩) 3 3],.int .i64 k,.slice va L.length vc] W fun e' w'=>e'=.returned (.int .i64 (orE (if 0 < k∧k≤(tgN l:Int) then 0 else 9) e:Nat))∧Below W.heap.size W w'
theorem tagP_of {w w':World} {e:Ending} (h:FeedP w e w') {k:Int} (hk:0≤k∧k < 20):∃(N:Nat) (a:Option Addr) (c:Nat) (l:List ST),e=.returned (.agg #[.slice (some ⟨N,0,none⟩) 3 3])∧TagP w' N k a c l∧Below w.heap.size w w':=by
 obtain⟨N,p1,v1,b1,p2,v2,b2,p3,v3,b3,c1,d1,e1,c2,d2,e2,c3,d3,e3,l1,l2,l3,rfl,hin,hr,hs,hn,hl,hf,hp,hb⟩:=h
 have hin0:=hin.mono (Nat.zero_le _)
 have hM:=hin0.fs 2 (by simp[zbm])
 obtain⟨_,_,_,c4,hlt⟩:=zbf (hin0.row 2 (by simp[zbm])) (Past.refl w')
 have hsm:Small (zbm p1 v1 b1 p2 v2 b2 p3 v3 b3 c1 d1 e1 c2 d2 e2 c3 d3 e3 l1 l2 l3):=by
  refine⟨by omega,fun i hi=>?_⟩
  match i,hi with
  | 0,_=>exact⟨by simp[zbm,mG,mH,mM],by simp[zbm,mG,mH,mM]⟩
  | 1,_=>exact⟨by simp[zbm,mG,mH,mM],by simp[zbm,mG,mH,mM]⟩
  | 2,_=>exact⟨by simp[zbm,mG,mH,mM],by simp[zbm,mG,mH,mM]⟩
 have hfew:tgN l3≤31:=by
  have h1:=tgN_le _ l3 (Nat.lt_succ_self _)
  have h2:cnts l1+(cnts l2+(cnts l3+0))≤31:=hs
  omega
 refine⟨N,b3,e3,l3,rfl,⟨c4,hlt,hM.bl,hM.ss,hfew,fun W hW va vc L e hL hss he=>?_⟩,hb⟩
 have h:=crit_any (w0:=W) (hin0.on hW) hsm 3 k (by omega) va vc L (by omega) hss W (Past.refl _)
 have hv:critF (zbm p1 v1 b1 p2 v2 b2 p3 v3 b3 c1 d1 e1 c2 d2 e2 c3 d3 e3 l1 l2 l3) k L=orE (if 0 < k∧k≤(tgN l3:Int) then 0 else 9) e:=by
  rw[crit_made _ _ _ _ _ _ _ _ _ _ _ _ _ _ _ _ _ _ _ _ _ hp k L,tg9_made (Int.le_refl 0)]
  rcases he with ⟨rfl,rfl⟩ | ⟨rfl,rfl⟩ | ⟨rfl,rfl⟩ | ⟨rfl,rfl⟩<;>rfl
 rw[hv] at h
 exact h
theorem strs_none (W:World):StrsIn W 0 none []:=fun i h=>absurd h (by simp)
theorem strs_row {W:World} {b:Nat} {L:List ByteArray} {t:TypeId} {fr:Nat×Nat} (h:W.heap[b]?=some (.cells (L.map Value.string).toArray t fr)):StrsIn W 0 (some ⟨b,0,none⟩) L:=ps_of h (Nat.zero_le _)
theorem TagP.there {w0:World} {N c:Nat} {k:Int} {a:Option Addr} {l:List ST} (h:TagP w0 N k a c l) (hk:0 < k∧k≤(tgN l:Int)):(∀W:World,Past w0 W→Calls Tryz.prog 17 #[.agg #[.slice (some ⟨N,0,none⟩) 3 3],.int .i64 k,.slice none 0 0] W fun e w'=>e=.returned (.int .i64 0)∧Below W.heap.size W w') ∧
  (∀(W:World) (b:Nat),Past w0 W→W.heap[b]?=some (.cells #[.string wD,.string wA] 9 (0,0))→Calls Tryz.prog 17 #[.agg #[.slice (some ⟨N,0,none⟩) 3 3],.int .i64 k,.slice (some ⟨b,0,none⟩) 2 2] W fun e w'=>e=.returned (.int .i64 0)∧Below W.heap.size W w') ∧
  (∀(W:World) (b:Nat),Past w0 W→W.heap[b]?=some (.cells #[.string wA,.string wXs] 9 (0,0))→Calls Tryz.prog 17 #[.agg #[.slice (some ⟨N,0,none⟩) 3 3],.int .i64 k,.slice (some ⟨b,0,none⟩) 2 2] W fun e w'=>e=.returned (.int .i64 7)∧Below W.heap.size W w') ∧
  (∀(W:World) (b:Nat),Past w0 W→W.heap[b]?=some (.cells #[.string wP] 9 (0,0))→Calls Tryz.prog 17 #[.agg #[.slice (some ⟨N,0,none⟩) 3 3],.int .i64 k,.slice (some ⟨b,0,none⟩) 1 1] W fun e w'=>e=.returned (.int .i64 6)∧Below W.heap.size W w'):=
 ⟨fun W hW=>by have h1:=h.crit W hW none 0 [] 0 (by simp) (strs_none W) (by simp);rw[if_pos hk] at h1;exact h1,
 fun W b hW hb=>by have h1:=h.crit W hW (some ⟨b,0,none⟩) 2 [wD,wA] 0 (by simp) (strs_row (L:=[wD,wA]) hb) (by simp);rw[if_pos hk] at h1;exact h1,
 fun W b hW hb=>by have h1:=h.crit W hW (some ⟨b,0,none⟩) 2 [wA,wXs] 7 (by simp) (strs_row (L:=[wA,wXs]) hb) (by simp);rw[if_pos hk] at h1;exact h1,
 fun W b hW hb=>by have h1:=h.crit W hW (some ⟨b,0,none⟩) 1 [wP] 6 (by simp) (strs_row (L:=[wP]) hb) (by simp);rw[if_pos hk] at h1;exact h1⟩
theorem TagP.away {w0:World} {N c:Nat} {k:Int} {a:Option Addr} {l:List ST} (h:TagP w0 N k a c l) (hk:¬(0 < k∧k≤(tgN l:Int))):(∀W:World,Past w0 W→Calls Tryz.prog 17 #[.agg #[.slice (some ⟨N,0,none⟩) 3 3],.int .i64 k,.slice none 0 0] W fun e w'=>e=.returned (.int .i64 9)∧Below W.heap.size W w') ∧
  (∀(W:World) (b:Nat),Past w0 W→W.heap[b]?=some (.cells #[.string wD,.string wA] 9 (0,0))→Calls Tryz.prog 17 #[.agg #[.slice (some ⟨N,0,none⟩) 3 3],.int .i64 k,.slice (some ⟨b,0,none⟩) 2 2] W fun e w'=>e=.returned (.int .i64 9)∧Below W.heap.size W w'):=
 ⟨fun W hW=>by have h1:=h.crit W hW none 0 [] 0 (by simp) (strs_none W) (by simp);rw[if_neg hk] at h1;exact h1,
 fun W b hW hb=>by have h1:=h.crit W hW (some ⟨b,0,none⟩) 2 [wD,wA] 0 (by simp) (strs_row (L:=[wD,wA]) hb) (by simp);rw[if_neg hk] at h1;exact h1⟩
end Go.Proofs.YtljbbhhiiiepcaaGreatDoor.Ck

/- Each tag of main may be asked for, with each of its numbers, and no other one: the walk of CheckTags. -/
set_option linter.unusedSimpArgs false
set_option linter.unusedVariables false
set_option maxHeartbeats 8000000
set_option maxRecDepth 100000
namespace Go.Proofs.YtljbbhhiiiepcaaGreatDoor.Ck
open Go Go.RowKit Go.Proofs.YtljbbhhiiiepcaaGreatDoor Go.Proofs.YtljbbhhiiiepcaaGreatDoor.Pm
open Go.Lib (hid)
theorem checkTags_walk (v0:Value) (a1:Int) (w1:(Lit.int .u8 a1).wf=true) (w:World) (H:Wo w) (c0:CodeIn w v0):
  Calls Tryz.prog 5 #[v0,.int .u8 a1] w fun e w'=>e=.returned (.bool true)∧Below w.heap.size w w':=by
 have h1:0≤a1∧a1≤255:=by
  simp only[Lit.wf,IntKind.min,IntKind.max,Bool.and_eq_true] at w1
  exact⟨of_decide_eq_true w1.1,of_decide_eq_true w1.2⟩
 obtain⟨k,hk⟩:∃k:Nat,a1.tmod 20=k:=⟨(a1 % 20).toNat,by rw[Int.tmod_eq_emod_of_nonneg h1.1];omega⟩
 have hk20:k < 20:=by rw[Int.tmod_eq_emod_of_nonneg h1.1] at hk;omega
 obtain⟨pa,pn,pc,own,la,ln,lc,zl,ga,gn,gc,zg,rfl,r0,r1,hg⟩:=c0
 have HP:=hid H
 have R0:=hid r0
 have R1:=hid r1
 have GC:=hid hg
 clear H r0 r1 hg w1
 have hfd:∀(N:Nat) (w:World),(Instr.field 24 (.agg #[.slice (some ⟨N,0,none⟩) 3 3]) 0).run Tryz.prog w=.ok (.slice (some ⟨N,0,none⟩) 3 3) w:=fun _ _=>by kernel_rfl
 go_enter Tryz.func5,Tryz.ntmps5
 go_upto_region 7 with (first
  | (go_at_call 9;refine(code_any _ (R0.out.on ?_) (R1.out.on ?_) GC.out).mono ?_;(repeat (first | with_reducible exact HB1.out | (with_reducible refine Below.setCell ?_ ?_ _) | simp));intro e w3 hq3;obtain⟨N,a,c,l,rfl,hm3,hb3⟩:=tagP_of (k:=(k:Int)) (feedP_of hq3) (by omega);clear x0 x1 x2 x3 fx hq3;have HB3:Hid (Below w.heap.size w w3):=hid (Below.trans (show Below w.heap.size w _ from by (repeat (first | with_reducible exact HB1.out | (with_reducible refine Below.setCell ?_ ?_ _) | simp))) (hb3.mono (by simp[World.setCell];have:=HB1.out.size;omega)));have HM3:=hid hm3;have y0:=hm3.cell;have y1:=hm3.lt;clear hb3 hm3)
  | (go_at_call 8;refine(ex_any (HP.out.on ((Past.refl w).alloc _))).mono ?_;rintro e w1 ⟨rfl,hb1⟩;have hX:=(hb1.block w.heap.size (by simp)).trans (zaj w _);have x0:=zab (k:=0) hX rfl;have x1:=zab (k:=1) hX rfl;have x2:=zab (k:=2) hX rfl;have x3:=zab (k:=3) hX rfl;have fx:=fun k=>zac (k:=k) hX;have lx:=lt_of_block hX;have HX:=hid hX;have HB1:Hid (Below w.heap.size w w1):=hid (zal ((Below.refl _ _).alloc (Nat.le_refl _) _) hb1);clear hX hb1))
 rcases Nat.eq_zero_or_pos k with hk0 | hk0
 ·have d1:decide ((0:Int) < (k:Int))=false:=decide_eq_false (by omega)
  have d2:decide (0 < k)=false:=decide_eq_false (by omega)
  have HT:=HM3.out.away (by omega)
  clear hk0
  have HC0:=hid HT.1
  have HC1:=hid HT.2
  have HP4:Hid (Past w3 (w3.alloc (.cells #[.slice (some ⟨N,0,none⟩) 3 3] 24 (0,0)))):=hid ((Past.refl w3).alloc _)
  have HX4:Hid ((w3.alloc (.cells #[.slice (some ⟨N,0,none⟩) 3 3] 24 (0,0))).heap[w3.heap.size]?=some (.cells #[.slice (some ⟨N,0,none⟩) 3 3] 24 (0,0))):=hid (zaj w3 _)
  have HZ4:Hid (w3.heap.size < (w3.alloc (.cells #[.slice (some ⟨N,0,none⟩) 3 3] 24 (0,0))).heap.size):=hid (by simp)
  clear HT
  go_wp2_with (first
   | (go_at_call 17;((with_reducible refine(HC1.out _ w5.heap.size (HP5.out.alloc _) (zaj w5 _)).mono ?_);rintro e w6 ⟨rfl,hb6⟩);have hX6:=(hb6.block w3.heap.size (by have:=HZ5.out;first | exact this | (simp;omega))).trans (zah _ HX5.out);have HX6:=hid hX6;have HP6:=hid ((HP5.out.alloc _).on hb6);have HZ6:Hid (w3.heap.size < w6.heap.size):=hid (lt_of_block hX6);have z6:=zab (k:=0) hX6 rfl;have y6:=lt_of_block hX6;clear hb6 hX6)
   | (go_at_call 17;((with_reducible refine(HC0.out _ HP4.out).mono ?_);rintro e w5 ⟨rfl,hb5⟩);have hX5:=(hb5.block w3.heap.size (by have:=HZ4.out;first | exact this | (simp;omega))).trans HX4.out;have HX5:=hid hX5;have HP5:=hid (HP4.out.on hb5);have HZ5:Hid (w3.heap.size < w5.heap.size):=hid (lt_of_block hX5);have z5:=zab (k:=0) hX5 rfl;have y5:=lt_of_block hX5;clear hb5 hX5))
  go_ret
  exact⟨by simp,zal HB3.out HP6.out⟩
 ·have d1:decide ((0:Int) < (k:Int))=true:=decide_eq_true (by omega)
  have d2:decide (0 < k)=true:=decide_eq_true hk0
  by_cases hku:k≤tgN l
  ·have d3:decide (k≤tgN l)=true:=decide_eq_true hku
   have HT:=HM3.out.there ⟨by omega,by omega⟩
   have HC0:=hid HT.1
   have HC1:=hid HT.2.1
   have HC2:=hid HT.2.2.1
   have HC3:=hid HT.2.2.2
   clear HT
   go_wp2_with (first
    | (go_at_call 17;((with_reducible refine(HC3.out _ w7.heap.size (HP7.out.alloc _) (zaj w7 _)).mono ?_);rintro e w8 ⟨rfl,hb8⟩);have hX8:=(hb8.block w3.heap.size (by have:=HZ7.out;first | exact this | (simp;omega))).trans (zah _ HX7.out);have HX8:=hid hX8;have HP8:=hid ((HP7.out.alloc _).on hb8);have HZ8:Hid (w3.heap.size < w8.heap.size):=hid (lt_of_block hX8);have z8:=zab (k:=0) hX8 rfl;have y8:=lt_of_block hX8;clear hb8 hX8)
    | (go_at_call 17;((with_reducible refine(HC2.out _ w6.heap.size (HP6.out.alloc _) (zaj w6 _)).mono ?_);rintro e w7 ⟨rfl,hb7⟩);have hX7:=(hb7.block w3.heap.size (by have:=HZ6.out;first | exact this | (simp;omega))).trans (zah _ HX6.out);have HX7:=hid hX7;have HP7:=hid ((HP6.out.alloc _).on hb7);have HZ7:Hid (w3.heap.size < w7.heap.size):=hid (lt_of_block hX7);have z7:=zab (k:=0) hX7 rfl;have y7:=lt_of_block hX7;clear hb7 hX7)
    | (go_at_call 17;((with_reducible refine(HC1.out _ w5.heap.size (HP5.out.alloc _) (zaj w5 _)).mono ?_);rintro e w6 ⟨rfl,hb6⟩);have hX6:=(hb6.block w3.heap.size (by have:=HZ5.out;first | exact this | (simp;omega))).trans (zah _ HX5.out);have HX6:=hid hX6;have HP6:=hid ((HP5.out.alloc _).on hb6);have HZ6:Hid (w3.heap.size < w6.heap.size):=hid (lt_of_block hX6);have z6:=zab (k:=0) hX6 rfl;have y6:=lt_of_block hX6;clear hb6 hX6)
    | (go_at_call 17;((with_reducible refine(HC0.out _ HP4.out).mono ?_);rintro e w5 ⟨rfl,hb5⟩);have hX5:=(hb5.block w3.heap.size (by have:=HZ4.out;first | exact this | (simp;omega))).trans HX4.out;have HX5:=hid hX5;have HP5:=hid (HP4.out.on hb5);have HZ5:Hid (w3.heap.size < w5.heap.size):=hid (lt_of_block hX5);have z5:=zab (k:=0) hX5 rfl;have y5:=lt_of_block hX5;clear hb5 hX5)
    | (go_at_call 26;(refine(tags_any (w0:=w3) (Szs l+1) a c l (by omega) HM3.out.lim (by have:=HM3.out.few;omega) HM3.out.inn _ ((Past.refl w3).alloc _)).mono ?_);rintro e w4 ⟨rfl,hb4⟩;have hX4:=(hb4.block w3.heap.size (by simp)).trans (zaj w3 _);have HX4:=hid hX4;have HZ4:Hid (w3.heap.size < w4.heap.size):=hid (lt_of_block hX4);have HP4:Hid (Past w3 w4):=hid (zal ((Below.refl _ _).alloc (Nat.le_refl _) _) hb4);have z4:=zab (k:=0) hX4 rfl;have y4:=lt_of_block hX4;clear hX4 hb4))
   go_ret
   exact⟨by simp,zal HB3.out HP8.out⟩
  ·have d3:decide (k≤tgN l)=false:=decide_eq_false hku
   have HT:=HM3.out.away (by omega)
   have HC0:=hid HT.1
   have HC1:=hid HT.2
   clear HT
   go_wp2_with (first
    | (go_at_call 17;((with_reducible refine(HC1.out _ w5.heap.size (HP5.out.alloc _) (zaj w5 _)).mono ?_);rintro e w6 ⟨rfl,hb6⟩);have hX6:=(hb6.block w3.heap.size (by have:=HZ5.out;first | exact this | (simp;omega))).trans (zah _ HX5.out);have HX6:=hid hX6;have HP6:=hid ((HP5.out.alloc _).on hb6);have HZ6:Hid (w3.heap.size < w6.heap.size):=hid (lt_of_block hX6);have z6:=zab (k:=0) hX6 rfl;have y6:=lt_of_block hX6;clear hb6 hX6)
    | (go_at_call 17;((with_reducible refine(HC0.out _ HP4.out).mono ?_);rintro e w5 ⟨rfl,hb5⟩);have hX5:=(hb5.block w3.heap.size (by have:=HZ4.out;first | exact this | (simp;omega))).trans HX4.out;have HX5:=hid hX5;have HP5:=hid (HP4.out.on hb5);have HZ5:Hid (w3.heap.size < w5.heap.size):=hid (lt_of_block hX5);have z5:=zab (k:=0) hX5 rfl;have y5:=lt_of_block hX5;clear hb5 hX5)
    | (go_at_call 26;(refine(tags_any (w0:=w3) (Szs l+1) a c l (by omega) HM3.out.lim (by have:=HM3.out.few;omega) HM3.out.inn _ ((Past.refl w3).alloc _)).mono ?_);rintro e w4 ⟨rfl,hb4⟩;have hX4:=(hb4.block w3.heap.size (by simp)).trans (zaj w3 _);have HX4:=hid hX4;have HZ4:Hid (w3.heap.size < w4.heap.size):=hid (lt_of_block hX4);have HP4:Hid (Past w3 w4):=hid (zal ((Below.refl _ _).alloc (Nat.le_refl _) _) hb4);have z4:=zab (k:=0) hX4 rfl;have y4:=lt_of_block hX4;clear hX4 hb4))
   go_ret
   exact⟨by simp,zal HB3.out HP6.out⟩
end Go.Proofs.YtljbbhhiiiepcaaGreatDoor.Ck
