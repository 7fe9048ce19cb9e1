/- What the walk of FlowWays is told of the nodes. -/
import Derived.Test.YtagnmppdhfmgdaaGreatDoorFBfs
set_option linter.unusedSimpArgs false
set_option linter.unusedVariables false
set_option maxHeartbeats 8000000
set_option maxRecDepth 100000
namespace Go.Proofs.YtagnmppdhfmgdaaGreatDoor.Fl
open Go Go.RowKit Go.Proofs.YtagnmppdhfmgdaaGreatDoor
open Go.Lib (hid)
theorem bool_info:(Tryz.prog.info? 4).map (fun i=>(i.zero,i.size,i.bytes))=some (some (.bool false),1,1):=by kernel_rfl
theorem made_bools (n:Nat) (hn:n≤1000001) (W:World):(Instr.makeSlice 54 (.int .i64 (n:Nat)) (.int .i64 (n:Nat))).run Tryz.prog W=.ok (.slice (some ⟨W.heap.size,0,none⟩) n n) (W.alloc (.cells (List.replicate n (.bool false)).toArray 4)):=by
 obtain⟨ei,hin,hz0,hz1,hz2⟩:=info_parts bool_info
 have h:=run_make (P:=Tryz.prog) (w:=W) 54 4 ei _ Tryz.underlying54 hin hz0 .i64 .i64 (n:Nat) (n:Nat) (by omega) (by omega) (by rw[hz2];omega) (by omega)
 simp only[Int.toNat_natCast,hz1,Nat.mul_one] at h
 rw[h]
 show Result.ok _ (W.alloc (.cells (madeCells #[.bool false] n) 4))=_
 rw[made_eq]
theorem EdgeAt.cap {w:World} {g X i:Nat} {E:List (List Int)} {r:List Int} (h:EdgeAt w g X E) (hr:E[i]?=some r) {ra:Option Addr} {n rc:Nat} (hc:w.cell? ⟨g,i,none⟩=some (.slice ra n rc)):ra=none→rc=0:=by
 obtain⟨hi,e⟩:=List.getElem?_eq_some_iff.1 hr
 subst e
 obtain⟨b,o,ra',rc',e,hc',hl,hN⟩:=h.rows i hi
 simp only[Option.some.injEq,Addr.mk.injEq,and_true] at e
 obtain⟨rfl,rfl⟩:=e
 rw[Nat.zero_add,hc,Option.some.injEq,Value.slice.injEq] at hc'
 obtain⟨rfl,-,rfl⟩:=hc'
 exact hl.2
theorem Rc.app' {W W':World} {B gt cap m L:Nat} {mk:List Bool} {td r:List Int} {v:Value} (h:Rc W B mk td gt cap) (hL:td.length=L) (hm:m=r.length) (hlt:0 < L) (ho:W'.ownsRow B 3 1 v (L+m) (ints td++ints r)) (hg:W.grownBy W' (Value.slice (some ⟨gt,0,none⟩) L cap).ownBlock):
  ∃g' c',v=.slice (some ⟨g',0,none⟩) (L+m) c'∧Rc W' B mk (td++r) g' c':=by
 subst hL
 obtain⟨g',c',h1,h2⟩:=h.app hm.symm hlt ho hg
 rw[List.length_append,←hm] at h1
 exact⟨g',c',h1,h2⟩
theorem ints_one (r:List Int):∀u∈ints r,u.oneCell'=true:=by
 intro u hu
 simp only[ints,List.mem_map] at hu
 obtain⟨z,-,rfl⟩:=hu
 rfl
structure Told (w:World) (E:List (List Int)) (X s b:Nat):Prop where
 ex:∃mk:List Bool,mk.length=X∧w.heap[b]?=some (.cells (mk.map Value.bool).toArray 4 (0,0))∧∀j,Way E s j→j < X→mk[j]?=some true
theorem reach_any {w0:World} {g X:Nat} {E:List (List Int)} (hE:EdgeAt w0 g X E) (h3:∀r∈E,r.length≤3) (hX:X≤10000) (s:Nat) (w:World) (hp:Past w0 w):
  Calls Tryz.prog 23 #[.slice (some ⟨g,0,none⟩) X X,.int .i64 s] w fun e w'=>(∃b,e=.returned (.slice (some ⟨b,0,none⟩) X X)∧Told w' E X s b)∧Below w.heap.size w w':=by
 have HE:=hid (And.intro hE (And.intro h3 hp))
 have hmk:=made_bools X (by omega)
 obtain⟨ii,hii,hi0,hi1,hi2⟩:=info_parts zcp
 clear hE h3 hp
 go_enter Tryz.func23,Tryz.ntmps23
 go_wp2
 have hs0:Rc ((w.alloc (.cells (Array.replicate X (.bool false)) 4)).alloc (.cells #[.int .i64 s] 3)) w.heap.size (List.replicate X false) [(s:Int)] (w.heap.size+1) 1:=by
  refine⟨?_,?_⟩
  ·have:=zaf (.cells #[.int .i64 s] 3) (zai w (.cells (Array.replicate X (.bool false)) 4))
   rw[this]
   simp
  ·have:=World.ownsRow_lit (base:=w.heap.size) (e:=3) (size:=1) (w.alloc (.cells (Array.replicate X (.bool false)) 4)) #[.int .i64 s] 1 (by simp) (by decide) (by simp)
   simpa[ints] using this
 have hb0:Below w.heap.size w ((w.alloc (.cells (Array.replicate X (.bool false)) 4)).alloc (.cells #[.int .i64 s] 3)):=((Below.refl _ _).alloc (Nat.le_refl _) _).alloc (by simp) _
 have HS:=hid (And.intro hs0 hb0)
 clear hs0 hb0
 generalize (w.alloc (.cells (Array.replicate X (.bool false)) 4)).alloc (.cells #[.int .i64 s] 3)=w2 at HS ⊢
 generalize w.heap.size+1=g1 at HS ⊢
 obtain⟨B,hB⟩:∃B,w.heap.size=B:=⟨_,rfl⟩
 rw[hB] at HS ⊢
 have HB:=hid hB
 clear hB hmk
 go_loopw [6,7] (fun t v wr=>∃(k:Nat) (mk:List Bool) (td:List Int) (gt cap:Nat),t=.slice (some ⟨gt,0,none⟩) td.length cap∧v=.int .i64 k∧Bfs E X s k mk td∧Rc wr B mk td gt cap∧Below B w wr) (fun _ v _=>3*X+2 - (intOf v).toNat)
 case atStart=>exact⟨0,_,_,g1,1,rfl,rfl,Bfs.start E X s,HS.out.1,HS.out.2⟩
 case round =>
  obtain⟨k,mk,td,gt,cap,rfl,rfl,hb,hr,hbl⟩:=hrel
  obtain⟨L,hL⟩:∃L,td.length=L:=⟨_,rfl⟩
  rw[hL]
  have hsh:=hb.short
  have hat:=hb.at_
  rw[hL] at hsh hat
  have HW:=hid (And.intro hb (And.intro hr (And.intro hbl hL)))
  by_cases hlt:k < L
  ·obtain⟨z,hz⟩:∃z,td[k]?=some z:=⟨_,List.getElem?_eq_getElem (by omega)⟩
   have c0:=hr.todo hz
   have HZ:=hid hz
   clear hz hL
   by_cases hz0:z < 0
   ·clear hb hr hbl
    go_wp2
    go_roundw
    case rel=>exact⟨k+1,mk,td,gt,cap,by rw[HW.out.2.2.2],by go_num,HW.out.1.skip HZ.out (.inl hz0),HW.out.2.1,HW.out.2.2.1⟩
    case measure=>simp[intOf];omega
   ·by_cases hzX:(X:Int)≤z
    ·clear hb hr hbl
     go_wp2
     go_roundw
     case rel=>exact⟨k+1,mk,td,gt,cap,by rw[HW.out.2.2.2],by go_num,HW.out.1.skip HZ.out (.inr (.inl hzX)),HW.out.2.1,HW.out.2.2.1⟩
     case measure=>simp[intOf];omega
    ·obtain⟨n,rfl⟩:∃n:Nat,z=(n:Int):=⟨z.toNat,by omega⟩
     have hnX:n < X:=by omega
     have hnm:n < mk.length:=by rw[hb.len];exact hnX
     obtain⟨b,hm⟩:∃b,mk[n]?=some b:=⟨_,List.getElem?_eq_getElem hnm⟩
     have c1:=hr.cell hm
     have HM:=hid hm
     cases b with
     | true =>
      clear hb hr hbl hm hnm
      go_wp2
      go_roundw
      case rel=>exact⟨k+1,mk,td,gt,cap,by rw[HW.out.2.2.2],by go_num,HW.out.1.skip HZ.out (.inr (.inr ⟨n,rfl,HM.out⟩)),HW.out.2.1,HW.out.2.2.1⟩
      case measure=>simp[intOf];omega
     | false =>
      have hBl:=lt_of_block hr.out
      have hBf:wr.frozen? ⟨B,n,none⟩=false:=zac hr.out
      obtain⟨r,her⟩:∃r,E[n]?=some r:=⟨_,List.getElem?_eq_getElem (by rw[HE.out.1.len];exact hnX)⟩
      have hr3:r.length≤3:=HE.out.2.1 r (List.mem_of_getElem? her)
      obtain⟨ra,rc,n1,hn1,-,q1,q2,-⟩:=HE.out.1.has her
      have hp1:Past w0 (wr.setCell ⟨B,n,none⟩ (.bool true)):=zaE HE.out.2.2 (by rw[HB.out];exact hbl.setCell (p:=⟨B,n,none⟩) (Nat.le_refl _) _)
      have c2:=q1 _ hp1
      have hN:=q2 _ hp1
      have hset:=hr.set (n:=n) true
      have hbl1:=hbl.setCell (p:=⟨B,n,none⟩) (Nat.le_refl _) (.bool true)
      have hmark:=hb.mark HZ.out HM.out her hr3
      have HX:=hid (And.intro hset (And.intro hbl1 (And.intro hmark (And.intro hn1 hN))))
      have hrow:=hset.row
      rw[HW.out.2.2.2] at hrow
      have hBw:B≤(wr.setCell ⟨B,n,none⟩ (.bool true)).heap.size:=by simp[World.setCell];omega
      have hcap:=HE.out.1.cap her (q1 _ (Past.refl _))
      have HROW:=hid hrow
      clear hb hr hbl hm hnm her q1 q2 hp1 hset hbl1 hmark hrow
      cases ra with
      | none =>
       obtain rfl:rc=0:=hcap rfl
       have hr0:r=[]:=by
        cases r with
        | nil=>rfl
        | cons x r=>obtain⟨b,o,e,-⟩:=hN 0 (by simp);cases e
       subst hr0
       obtain rfl:n1=0:=hn1
       clear hN hcap
       go_wp2_with (at_builtin;refine wpList_append_own_none rfl _ _ 29 rfl B 3 ii 1 Tryz.underlying29 hii _ _ _ rfl HROW.out rfl ?_)
       go_roundw
       case rel =>
        obtain⟨x1,x2,x3,-⟩:=HX.out
        rw[List.append_nil] at x3
        exact⟨k+1,_,td,gt,cap,by rw[HW.out.2.2.2],by go_num,x3,x1,x2⟩
       case measure=>simp[intOf];omega
      | some ad =>
       have HC:=hid (And.intro (news_of hN) (And.intro (show(ints r).length=n1*1 by simp[ints,hn1]) (ints_one r)))
       clear hN hcap hn1
       go_wp2_with (at_builtin;refine wpList_append_own _ rfl _ _ 29 rfl B 3 ii _ 1 8 Tryz.underlying29 hii hi0 hi1 hi2 rfl (by decide) _ _ _ rfl HROW.out ad n1 rc (ints r) rfl HC.out.2.1 HC.out.1 HC.out.2.2 (by have:=HX.out.2.2.2.1;unfold maxLen;omega) (by have:=HX.out.2.2.2.1;omega) hBw ?_;intro v' w5 hown hgrow hx;clear hx;obtain⟨x1,x2,x3,x4,-⟩:=HX.out;obtain⟨g',c',rfl,hrc⟩:=x1.app' HW.out.2.2.2 x4 (by omega) hown hgrow;have hb5:=x2.grown hgrow hBw (fun q hq=>(HROW.out.lt q hq).1);have HY:=hid (And.intro x3 (And.intro x4 (And.intro hrc hb5)));clear hown hgrow x1 x2 x3 x4 hrc hb5)
       go_roundw
       case rel =>
        obtain⟨x3,x4,hrc,hb5⟩:=HY.out
        exact⟨k+1,_,td++r,g',c',by rw[List.length_append,HW.out.2.2.2,x4],by go_num,x3,hrc,hb5⟩
       case measure=>simp[intOf];omega
  ·obtain rfl:k=L:=by omega
   clear hb hr hbl hL
   go_wp2
   go_ret
   obtain⟨hb,hr,hbl,hL⟩:=HW.out
   rw[←hL] at hb
   exact⟨⟨B,rfl,mk,hb.len,hr.out,fun j hj hjX=>hb.all HE.out.1.len hj hjX⟩,by rw[HB.out];exact hbl⟩
end Go.Proofs.YtagnmppdhfmgdaaGreatDoor.Fl

namespace Go.Proofs.YtagnmppdhfmgdaaGreatDoor.Fl
open Go Go.RowKit Go.Proofs.YtagnmppdhfmgdaaGreatDoor
open Go.Proofs.YtagnmppdhfmgdaaGreatDoor.Pm (Wo)
theorem edges_three (l:List ST) (j:Bool):∀r∈zbR (zaV l) (zaZ l) j,r.length≤3:=by
 intro r hr
 obtain⟨i,hi,e⟩:=List.mem_iff_getElem.1 hr
 rw[zcd,zcc] at hi
 have h2:∃q,(zaV l)[i]?=some q∧q.length≤2:=by
  rcases Nat.lt_or_ge i (cnts l) with h | h
  ·have hl:i < (zaY l).length:=by rw[zav];exact h
   refine⟨_,zdQ (List.getElem?_eq_getElem hl),?_⟩
   rw[next_len];split<;>omega
  ·obtain rfl:i=cnts l:=by omega
   refine⟨[],?_,by simp⟩
   unfold zaV
   rw[List.getElem?_append_right (by rw[List.length_mapIdx,zav];exact Nat.le_refl _),List.length_mapIdx,zav,Nat.sub_self];rfl
 obtain⟨q,hq,hq2⟩:=h2
 have h3:=zdR (os:=zaZ l) (j:=j) hq
 rw[List.getElem?_eq_getElem (by rw[zcd,zcc];exact hi),e,Option.some.injEq] at h3
 rw[h3]
 split
 ·rw[List.length_append];simp;omega
 ·omega
theorem told_cell {w:World} {E:List (List Int)} {X s b j:Nat} (h:Told w E X s b) (hw:Way E s j) (hj:j < X):w.cell? ⟨b,j,none⟩=some (.bool true):=by
 obtain⟨mk,hl,hb,ha⟩:=h.ex
 exact zab hb (by rw[List.getElem?_toArray,List.getElem?_map,ha j hw hj];rfl)
structure WayF (w:World) (M gv ga i:Nat):Prop where
 ex:∃(ra:Option Addr) (rc ln:Nat) (ra2:Option Addr) (rc2 ln2:Nat),(∀W,Past w W→W.cell? ⟨gv,i,none⟩=some (.slice ra ln rc)∧W.cell? ⟨ga,i,none⟩=some (.slice ra2 ln2 rc2))∧(i < M→1≤ln)∧(i=M→ln=0)∧ln≤ln2∧ln2≤100000
theorem way_of {w w7:World} {B M gv g7 cv:Nat} {l:List ST} {rv:List Value} (hM:cnts l=M) (g1:w.ownsRow B 29 1 (.slice (some ⟨gv,0,none⟩) (M+1) cv) (M+1) rv)
  (g4:∀(i:Nat) (r:List Int),(zaV l)[i]?=some r→∃u,rv[i]?=some u∧w.ownsRow B 3 1 u r.length (ints r)) (h7:EdgeAt w7 g7 (M+1) (zbR (zaV l) (zaZ l) true)) (hp:Past w w7) (i:Nat) (hi:i≤M):WayF w7 M gv g7 i:=by
 subst hM
 have hl:i < (zaV l).length:=by rw[zcc];omega
 obtain⟨r,hr⟩:∃r,(zaV l)[i]?=some r:=⟨_,List.getElem?_eq_getElem hl⟩
 obtain⟨u,hu,hro⟩:=g4 i r hr
 obtain⟨ra,rc,rfl,-,-⟩:=zdb hro
 have hc:w.cell? ⟨gv,i,none⟩=some (.slice ra r.length rc):=by rw[g1.cellAt i (by omega),hu]
 have he:=zdR (os:=zaZ l) (j:=true) hr
 obtain⟨ra2,rc2,q1,q2,-⟩:=h7.row he
 refine⟨ra,rc,r.length,ra2,rc2,_,fun W hW=>⟨zar (zaE hp hW) _ _ (Nat.zero_le _) hc,q1 W hW⟩,fun h=>?_,fun h=>?_,?_,q2⟩
 ·have hn:i < (zaY l).length:=by rw[zav];exact h
  have:=zdQ (List.getElem?_eq_getElem hn)
  rw[hr,Option.some.injEq] at this
  rw[this,next_len]
  split<;>omega
 ·subst h
  unfold zaV at hr
  rw[List.getElem?_append_right (by rw[List.length_mapIdx,zav];exact Nat.le_refl _),List.length_mapIdx,zav,Nat.sub_self] at hr
  simp only[List.getElem?_cons_zero,Option.some.injEq] at hr
  rw[←hr];rfl
 ·split
  ·rw[List.length_append];omega
  ·exact Nat.le_refl _
end Go.Proofs.YtagnmppdhfmgdaaGreatDoor.Fl
