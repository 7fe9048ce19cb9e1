/- What is wrong in a function is told of that function, of the first such: the walk of CheckWhere. -/
import Derived.Test.YtljbbhhiiiepcaaGreatDoorKLists
import Derived.Test.YtljbbhhiiiepcaaGreatDoorKEx
import Derived.Test.YtljbbhhiiiepcaaGreatDoorKWhF
import Derived.Test.YtljbbhhiiiepcaaGreatDoorTStmts
set_option linter.unusedSimpArgs false
set_option linter.unusedVariables false
set_option maxHeartbeats 8000000
set_option maxRecDepth 100000
namespace Go.Proofs.YtljbbhhiiiepcaaGreatDoor.Ck
open Go Go.RowKit Go.Proofs.YtljbbhhiiiepcaaGreatDoor Go.Proofs.YtljbbhhiiiepcaaGreatDoor.Pm
open Go.Lib (hid)
def WhL (W:World) (N q:Nat) (o t h:Bool) (want:Int) (p1 v1 p2 v2 p3 v3:Option Addr) (c1 d1 c2 d2 c3 d3:Nat) (l1 l2 l3:List ST):Prop:=∃(b1 b2 b3:Option Addr) (e1 e2 e3:Nat),
 Wh W N (za0 p1 v1 b1 p2 v2 b2 p3 v3 b3 c1 d1 e1 c2 d2 e2 c3 d3 e3 (wr (o&&decide (q=0)) l1) (wr (t&&decide (q≤1)) l2) (wr (h&&decide (q≤2)) l3)) ∧
 want=if (o&&decide (q=0))=true then 0 else if (t&&decide (q≤1))=true then 1 else if (h&&decide (q≤2))=true then 2 else -1
theorem wr_len (x:Bool) (l:List ST):(wr x l).length≤l.length+1:=by
 cases x
 ·exact Nat.le_succ _
 ·exact Nat.le_of_eq (List.length_append ..)
theorem whl_round {W:World} {N q:Nat} {o t h:Bool} {want:Int} {p1 v1 p2 v2 p3 v3:Option Addr} {c1 d1 c2 d2 c3 d3:Nat} {l1 l2 l3:List ST} (H:WhL W N (q+1) o t h want p1 v1 p2 v2 p3 v3 c1 d1 c2 d2 c3 d3 l1 l2 l3) (hq:q < 3) (hl:l1.length≤4∧l2.length≤3∧l3.length≤14):
  ∃(l:List FT) (h3:l.length=3),Wh W N l∧(l[q]'(by omega)).body.length≤14 ∧
   ((if q=0 then o else if q=1 then t else h)=false→WhL W N q o t h want p1 v1 p2 v2 p3 v3 c1 d1 c2 d2 c3 d3 l1 l2 l3) ∧
   ((if q=0 then o else if q=1 then t else h)=true→∀(W2:World) (a:Option Addr) (c:Nat),Wh W2 N (l.set q (FT.more (l[q]'(by omega)) a c))→WhL W2 N q o t h q p1 v1 p2 v2 p3 v3 c1 d1 c2 d2 c3 d3 l1 l2 l3):=by
 obtain⟨b1,b2,b3,e1,e2,e3,hw,hz⟩:=H
 match q,hq with
 | 0,_ =>
  refine⟨_,rfl,hw,?_,fun hf=>?_,fun hf W2 a c h2=>?_⟩
  ·show(wr (o&&decide (0+1=0)) l1).length≤14
   have:=wr_len (o&&decide (0+1=0)) l1
   omega
  ·have hf':o=false:=hf
   subst hf'
   exact⟨b1,b2,b3,e1,e2,e3,hw,hz⟩
  ·have hf':o=true:=hf
   subst hf'
   exact⟨a,b2,b3,c,e2,e3,h2,rfl⟩
 | 1,_ =>
  refine⟨_,rfl,hw,?_,fun hf=>?_,fun hf W2 a c h2=>?_⟩
  ·show(wr (t&&decide (1+1≤1)) l2).length≤14
   have:=wr_len (t&&decide (1+1≤1)) l2
   omega
  ·have hf':t=false:=hf
   subst hf'
   exact⟨b1,b2,b3,e1,e2,e3,by cases o<;>exact hw,by rw[hz];cases o<;>rfl⟩
  ·have hf':t=true:=hf
   subst hf'
   exact⟨b1,a,b3,e1,c,e3,by cases o<;>exact h2,by cases o<;>rfl⟩
 | 2,_ =>
  refine⟨_,rfl,hw,?_,fun hf=>?_,fun hf W2 a c h2=>?_⟩
  ·show(wr (h&&decide (2+1≤2)) l3).length≤14
   have h1:(h&&decide (2+1≤2))=false:=by cases h<;>rfl
   rw[h1]
   exact hl.2.2
  ·have hf':h=false:=hf
   subst hf'
   exact⟨b1,b2,b3,e1,e2,e3,by cases o<;>cases t<;>exact hw,by rw[hz];cases o<;>cases t<;>rfl⟩
  ·have hf':h=true:=hf
   subst hf'
   exact⟨b1,b2,a,e1,e2,c,by cases o<;>cases t<;>exact h2,by cases o<;>cases t<;>rfl⟩
theorem run_row {W:World} {B:Nat} {a:Option Addr} {l:List ST} (hin:SsIn W 0 a 0 l) (c:Nat) (hl:l.length≤100) (hB:B≤W.heap.size):
  ∃v' w',(Builtin.append_ #[45,45] 45 #[.slice none 0 0,.slice a l.length c]).run Tryz.prog W=.ok v' w'∧w'.ownsRow B 66 7 v' l.length (l.flatMap fun S=>S.cells.toList)∧W.grownBy w' none∧(v'.ownBlock=none∨v'.ownBlock=some W.heap.size):=by
 obtain⟨ei,hi,hz0,hz1,hz2⟩:=info_parts zdp
 rcases src_of hin with ⟨rfl,h0⟩ | ⟨ad,rfl,hc⟩
 ·obtain rfl:l=[]:=List.eq_nil_of_length_eq_zero h0
  refine⟨.slice none 0 0,W,run_append_zero B _ _ 66 ei 7 Tryz.underlying45 hi (World.ownsRow_nil W B _ 7) c,World.ownsRow_nil _ _ _ _,zaf _ _,Or.inl rfl⟩
 ·obtain⟨v',w',hr,hown,hg,-,hat⟩:=run_append_own_at (P:=Tryz.prog) W B 45 45 66 ei _ 7 120 Tryz.underlying45 hi hz0 hz1 hz2 rfl (by decide) (.slice none 0 0) 0 [] (World.ownsRow_nil W B _ 7) ad l.length c _ (flat_len l) hc (flat_one l) (by unfold maxLen;omega) (by omega) hB
  rw[Nat.zero_add,List.nil_append] at hown
  exact⟨v',w',hr,hown,hg,hat⟩
theorem run_more {W:World} {B b n:Nat} {v:Value} {xs:List Value} (hown:W.ownsRow B 66 7 v n xs) (hb:W.heap[b]?=some (.cells #[.int .i64 7,.int .i64 0,.string ⟨#[]⟩,.string ⟨#[]⟩,.slice none 0 0,.slice none 0 0,.slice none 0 0] 66 (0,0))) (hn:n≤100) (hB:B≤W.heap.size):
  ∃v' w',(Builtin.append_ #[45,45] 45 #[v,.slice (some ⟨b,0,none⟩) 1 1]).run Tryz.prog W=.ok v' w'∧w'.ownsRow B 66 7 v' (n+1) (xs++zdc.cells.toList)∧W.grownBy w' v.ownBlock:=by
 obtain⟨ei,hi,hz0,hz1,hz2⟩:=info_parts zdp
 obtain⟨v',w',hr,hown',hg,-,hat⟩:=run_append_own_at (P:=Tryz.prog) W B 45 45 66 ei _ 7 120 Tryz.underlying45 hi hz0 hz1 hz2 rfl (by decide) v n xs hown ⟨b,0,none⟩ 1 1 zdc.cells.toList rfl (World.news_of_block hb) (by
  intro u hu
  have e:zdc.cells.toList=[.int .i64 7,.int .i64 0,.string ⟨#[]⟩,.string ⟨#[]⟩,.slice none 0 0,.slice none 0 0,.slice none 0 0]:=rfl
  rw[e] at hu
  simp at hu
  rcases hu with rfl | rfl | rfl | rfl | rfl<;>rfl) (by unfold maxLen;omega) (by omega) hB
 exact⟨v',w',hr,hown',hg⟩
theorem zcV {P:Program} {o:Oper} {a:Act} {W w':World} {next:Act→World→Prop} {Q:Exit→Act→World→Prop} (s x:Operand) (t:TypeId) (ho:o.op=.call {callee:=.builtin .append,args:=#[s,x],argTypes:=#[t,t]}) {v xv v':Value} (hs:a.eval s=v) (hx:a.eval x=xv)
  (hr:(Builtin.append_ #[t,t] o.type #[v,xv]).run P W=.ok v' w') (k:next (a.put o.dst v') w'):Oper.wp P o a W next Q:=by
 unfold Oper.wp
 simp[execOp,ho,resolve,invoke,builtin,hs,hx,hr,Result.andThen]
 exact k
theorem checkWhere_walk (v0:Value) (o t h:Bool) (w:World) (H:Wo w) (c0:CodeIn w v0):
  Calls Tryz.prog 6 #[v0,.bool o,.bool t,.bool h] w fun e w'=>e=.returned (.bool true)∧Below w.heap.size w w':=by
 obtain⟨pa,pn,pc,own,la,ln,lc,zl,ga,gn,gc,zg,rfl,r0,r1,hg⟩:=c0
 have HP:=hid H
 have R0:=hid r0
 have R1:=hid r1
 have GC:=hid hg
 clear H r0 r1 hg
 have hfd:∀(N:Nat) (w:World),(Instr.field 24 (.agg #[.slice (some ⟨N,0,none⟩) 3 3]) 0).run Tryz.prog w=.ok (.slice (some ⟨N,0,none⟩) 3 3) w:=fun _ _=>by kernel_rfl
 go_enter Tryz.func6,Tryz.ntmps6
 go_upto_region 8 with (first
  | (go_at_call 9;refine(code_any _ (R0.out.on ?_) (R1.out.on ?_) GC.out).mono ?_;(repeat (first | with_reducible exact HB1.out | (with_reducible refine Below.setCell ?_ ?_ _) | simp));intro e w3 hq3;obtain⟨N,p1,v1,b1,p2,v2,b2,p3,v3,b3,c1,d1,e1,c2,d2,e2,c3,d3,e3,l1,l2,l3,rfl,hin,hr,hs,hn,hl,hf,hp,hb3,hap⟩:=feedP_of hq3;clear x0 x1 x2 x3 fx hq3;have HB3:Hid (Below w.heap.size w w3):=hid (Below.trans (show Below w.heap.size w _ from by (repeat (first | with_reducible exact HB1.out | (with_reducible refine Below.setCell ?_ ?_ _) | simp))) (hb3.mono (by simp[World.setCell];have:=HB1.out.size;omega)));have HW3:=hid (Wh.of hin hap);have HFD:=hid (And.intro (show w.heap.size≤N from(by have h1:=HB1.out.size;obtain⟨b,o9,e9,h2,-⟩:=hin.row 0 (by simp[za0]);simp only[Option.some.injEq,Addr.mk.injEq] at e9;have h3:=e9.1;simp[World.setCell] at h2;omega)) (And.intro hr (And.intro hs (And.intro hl hf))));clear hb3 hin hr hs hn hl hf hp hap)
  | (go_at_call 8;refine(ex_any (HP.out.on ((Past.refl w).alloc _))).mono ?_;rintro e w1 ⟨rfl,hb1⟩;have hX:=(hb1.block w.heap.size (by simp)).trans (zaj w _);have x0:=zab (k:=0) hX rfl;have x1:=zab (k:=1) hX rfl;have x2:=zab (k:=2) hX rfl;have x3:=zab (k:=3) hX rfl;have fx:=fun k=>zac (k:=k) hX;have lx:=lt_of_block hX;have HX:=hid hX;have HB1:Hid (Below w.heap.size w w1):=hid (zan ((Below.refl _ _).alloc (Nat.le_refl _) _) hb1);clear hX hb1))
 go_wp2
 have lN:N < w3.heap.size:=by obtain⟨cs,hcs,-⟩:=HW3.out.row;exact lt_of_block hcs
 have lwN:w.heap.size≤N:=HFD.out.1
 have HX0:Hid (((w3.alloc (.cells #[.slice (some ⟨N,0,none⟩) 3 3] 24 (0,0))).alloc (.cells #[.bool o,.bool t,.bool h] 4 (0,0))).heap[w3.heap.size]?=some (.cells #[.slice (some ⟨N,0,none⟩) 3 3] 24 (0,0))):=hid (zai _ (zaj w3 _))
 have HY0:Hid (((w3.alloc (.cells #[.slice (some ⟨N,0,none⟩) 3 3] 24 (0,0))).alloc (.cells #[.bool o,.bool t,.bool h] 4 (0,0))).heap[w3.heap.size+1]?=some (.cells #[.bool o,.bool t,.bool h] 4 (0,0))):=hid (zao _ (by simp))
 have HW0:Hid (Wh ((w3.alloc (.cells #[.slice (some ⟨N,0,none⟩) 3 3] 24 (0,0))).alloc (.cells #[.bool o,.bool t,.bool h] 4 (0,0))) N (za0 p1 v1 b1 p2 v2 b2 p3 v3 b3 c1 d1 e1 c2 d2 e2 c3 d3 e3 l1 l2 l3)∧Below w.heap.size w ((w3.alloc (.cells #[.slice (some ⟨N,0,none⟩) 3 3] 24 (0,0))).alloc (.cells #[.bool o,.bool t,.bool h] 4 (0,0)))):=hid ⟨HW3.out.on (((Below.refl _ _).alloc (Nat.le_refl _) _).alloc (by simp) _),(HB3.out.alloc HB3.out.size _).alloc (by have:=HB3.out.size;simp;omega) _⟩
 clear HX HB1 lx hfd HP R0 R1 GC HW3
 go_loopw [11,13] (fun wv i wq=>∃(q:Nat) (z:Int),q≤3∧i=.int .i64 ((q:Int) - 1)∧wv=.int .i64 z∧WhL wq N q o t h z p1 v1 p2 v2 p3 v3 c1 d1 c2 d2 c3 d3 l1 l2 l3∧wq.heap[w3.heap.size]?=some (.cells #[.slice (some ⟨N,0,none⟩) 3 3] 24 (0,0))∧wq.heap[w3.heap.size+1]?=some (.cells #[.bool o,.bool t,.bool h] 4 (0,0))∧Below w.heap.size w wq) (fun _ i _=>(intOf i+1).toNat)
 case atStart=>exact⟨3,-1,Nat.le_refl _,rfl,rfl,⟨b1,b2,b3,e1,e2,e3,by cases o<;>cases t<;>cases h<;>exact HW0.out.1,by cases o<;>cases t<;>cases h<;>rfl⟩,HX0.out,HY0.out,HW0.out.2⟩
 case round =>
  obtain⟨q1,z,hq,rfl,rfl,hL,hX,hY,hb⟩:=hrel
  rcases q1 with _ | q
  ·rw[show(((0:Nat):Int) - 1)=-1 from rfl]
   obtain⟨r1,r2,r3,s1,s2,s3,hw,hz⟩:=hL
   have hw':Wh wr N (za0 p1 v1 r1 p2 v2 r2 p3 v3 r3 c1 d1 s1 c2 d2 s2 c3 d3 s3 (Ck.wr o l1) (Ck.wr t l2) (Ck.wr h l3)):=by cases o<;>cases t<;>cases h<;>exact hw
   obtain⟨hr,hs,-,f1,f2,f3⟩:=HFD.out.2
   obtain⟨k1,k2⟩:=wh_check hr hs f1 f2 f3 o t h hw'
   have hE:((if o||t||h then 8 else 0:Int)=8∧0≤z∧(if o then 0 else if t then 1 else if h then 2 else -1:Int)=z)∨((if o||t||h then 8 else 0:Int)=0∧z=-1∧(if o then 0 else if t then 1 else if h then 2 else -1:Int)=z):=by
    rw[hz]
    cases o<;>cases t<;>cases h<;>simp
   have HX:=hid hX
   have HB:=hid hb
   have HW:=hid hw'
   have HK2:=hid k2
   have x4:=zab (k:=0) hX rfl
   have lx4:=lt_of_block hX
   rcases hE with ⟨g1,g2,g3⟩ | ⟨g1,rfl,g3⟩
   ·rw[g1,g3] at k1
    have HK1:=hid k1
    have d1:decide (z < 0)=false:=decide_eq_false (by omega)
    clear hw hz hw' hr hs f1 f2 f3 k1 k2 g1 g2 g3 hX hY hb
    go_wp2_with (first
     | (go_at_call 11;(with_reducible refine(HK2.out _ HB5.out).mono ?_);rintro e w6 ⟨rfl,hb6⟩;have HB6:Hid (Below (w5.setCell ⟨N,8,none⟩ (.string wG)).heap.size (w5.setCell ⟨N,8,none⟩ (.string wG)) w6):=hid (by simpa[World.setCell] using hb6);clear hb6)
     | (go_at_call 11;(with_reducible refine HK1.out.mono ?_);rintro e w5 ⟨rfl,hb5⟩;have hX5:=(hb5.block w3.heap.size (lt_of_block HX.out)).trans HX.out;have x5:=zab (k:=0) hX5 rfl;have lx5:=lt_of_block hX5;have x6:(w5.setCell ⟨N,8,none⟩ (.string {data:=#[103]})).cell? ⟨w3.heap.size,0,none⟩=some (.slice (some ⟨N,0,none⟩) 3 3):=zab (k:=0) ((Below.heap_setCell _ _ _ _ (by simp;omega)).trans hX5) rfl;obtain⟨cs,hcs,hc⟩:=(HW.out.on hb5).row;obtain⟨u8,y8⟩:∃u,w5.cell? ⟨N,8,none⟩=some u:=⟨_,zab hcs (hc 2 (by simp[za0]) 0 _ rfl)⟩;have f8:w5.frozen? ⟨N,8,none⟩=false:=zac hcs;have l8:=lt_of_block hcs;have HB5:Hid (Past wr w5):=hid hb5;clear hb5 hX5 hcs hc))
    go_ret
    exact⟨by simp,zan ((zan HB.out HB5.out).setCell lwN _) HB6.out⟩
   ·rw[g1,g3] at k1
    have HK1:=hid k1
    clear hw hz hw' hr hs f1 f2 f3 k1 k2 g1 g3 hX hY hb
    go_wp2_with (first
     | (go_at_call 11;(with_reducible refine(HK2.out _ HB5.out).mono ?_);rintro e w6 ⟨rfl,hb6⟩;have HB6:Hid (Below (w5.setCell ⟨N,8,none⟩ (.string wG)).heap.size (w5.setCell ⟨N,8,none⟩ (.string wG)) w6):=hid (by simpa[World.setCell] using hb6);clear hb6)
     | (go_at_call 11;(with_reducible refine HK1.out.mono ?_);rintro e w5 ⟨rfl,hb5⟩;have hX5:=(hb5.block w3.heap.size (lt_of_block HX.out)).trans HX.out;have x5:=zab (k:=0) hX5 rfl;have lx5:=lt_of_block hX5;have x6:(w5.setCell ⟨N,8,none⟩ (.string {data:=#[103]})).cell? ⟨w3.heap.size,0,none⟩=some (.slice (some ⟨N,0,none⟩) 3 3):=zab (k:=0) ((Below.heap_setCell _ _ _ _ (by simp;omega)).trans hX5) rfl;obtain⟨cs,hcs,hc⟩:=(HW.out.on hb5).row;obtain⟨u8,y8⟩:∃u,w5.cell? ⟨N,8,none⟩=some u:=⟨_,zab hcs (hc 2 (by simp[za0]) 0 _ rfl)⟩;have f8:w5.frozen? ⟨N,8,none⟩=false:=zac hcs;have l8:=lt_of_block hcs;have HB5:Hid (Past wr w5):=hid hb5;clear hb5 hX5 hcs hc))
    go_ret
    exact⟨by simp,zan ((zan HB.out HB5.out).setCell lwN _) HB6.out⟩
  ·have e0:(((q+1:Nat):Int) - 1)=(q:Int):=by omega
   rw[e0]
   obtain⟨l,h3,hw,hlen,hfs,htr⟩:=whl_round hL (by omega) HFD.out.2.2.2.1
   have q3:q < 3:=by omega
   have y0:∃f,(if q=0 then o else if q=1 then t else h)=f∧wr.cell? ⟨w3.heap.size+1,q,none⟩=some (.bool f):=by
    refine⟨_,rfl,zab hY ?_⟩
    match q,q3 with
    | 0,_=>rfl
    | 1,_=>rfl
    | 2,_=>rfl
   obtain⟨f,hf,y0⟩:=y0
   rw[hf] at hfs htr
   have i0:(0:Int)≤(q:Int):=by omega
   have i1:(q:Int) < 3:=by omega
   have i2:decide ((0:Int)≤(q:Int))=true:=decide_eq_true i0
   have wq1:IntKind.i64.wrap ((q:Int) - 1)=(q:Int) - 1:=IntWalk.i64_in _ (by omega)
   have ly:=lt_of_block hY
   have HL:=hid hL
   have HXY:=hid (And.intro hX (And.intro hY hb))
   have HRL:=hid (And.intro hfs htr)
   cases f
   ·clear hf hfs htr hL hX hY hb hw hlen
    go_wp2
    go_round
    case rel=>exact⟨q,z,by omega,by go_num,rfl,HRL.out.1 rfl,HXY.out.1,HXY.out.2.1,HXY.out.2.2⟩
    case measure=>first | (simp[intOf];done) | (simp[intOf];omega)
   ·obtain⟨ba,hba⟩:∃ba,(l[q]'(by omega)).ba=ba:=⟨_,rfl⟩
    obtain⟨bd,hbd⟩:∃bd,(l[q]'(by omega)).body=bd:=⟨_,rfl⟩
    obtain⟨bc,hbc⟩:∃bc,(l[q]'(by omega)).bc=bc:=⟨_,rfl⟩
    have HSX:Hid (∀W,Past wr W→W.cell? ⟨w3.heap.size,0,none⟩=some (.slice (some ⟨N,0,none⟩) 3 3)):=hid fun W hW=>zab ((hW.block _ (lt_of_block hX)).trans hX) rfl
    have HSN:Hid (∀W,Past wr W→W.cell? ⟨N,q*4+3,none⟩=some (.slice ba bd.length bc)):=hid fun W hW=>by
     obtain⟨cs,hcs,hc⟩:=hw.row
     refine zab ((hW.block _ (lt_of_block hcs)).trans hcs) ?_
     rw[←hba,←hbd,←hbc]
     exact hc q (by omega) 3 _ rfl
    have HZ:Hid (∀(W:World) (n:Nat) (a:Option Addr) (c:Nat),Past wr W→(W.setCell ⟨N,q*4+3,none⟩ (.slice a n c)).heap[w3.heap.size]?=some (.cells #[.slice (some ⟨N,0,none⟩) 3 3] 24 (0,0))∧(W.setCell ⟨N,q*4+3,none⟩ (.slice a n c)).heap[w3.heap.size+1]?=some (.cells #[.bool o,.bool t,.bool h] 4 (0,0))∧Below w.heap.size w (W.setCell ⟨N,q*4+3,none⟩ (.slice a n c))):=hid fun W n a c hW=>by
     refine⟨(Below.heap_setCell _ _ _ _ (by simp;omega)).trans ((hW.block _ (lt_of_block hX)).trans hX),(Below.heap_setCell _ _ _ _ (by simp;omega)).trans ((hW.block _ (lt_of_block hY)).trans hY),(zan hb hW).setCell lwN _⟩
    have HSZ:Hid (∀(W:World) (n:Nat) (a:Option Addr) (c:Nat),Past wr W→(W.setCell ⟨N,q*4+3,none⟩ (.slice a n c)).cell? ⟨w3.heap.size,0,none⟩=some (.slice (some ⟨N,0,none⟩) 3 3)):=hid fun W n a c hW=>zab (HZ.out W n a c hW).1 rfl
    have lNr:N < wr.heap.size:=by omega
    have HSS:Hid (∀W,Past wr W→SsIn W 0 ba 0 bd):=hid fun W hW=>by
     rw[←hba,←hbd]
     exact((hw.fs _ (List.getElem_mem (by omega))).ss.keep fun p v _ hc=>(zav.1 hc).2).on hW
    have HLN:Hid (bd.length≤100):=hid (by rw[←hbd];omega)
    have HWW:=hid hw
    have hc:Hid (Past wr wr.drew):=hid ((Past.refl _).drew)
    clear hf hfs htr hL hX hY hb hw hlen
    go_wp2
    refine wp_region_held_drew (S:=fun w'=>w'.cell? ⟨w3.heap.size,0,none⟩=some (.slice (some ⟨N,0,none⟩) 3 3)) (by kernel_rfl) ?_ (fun hHeld=>?_)
    ·with_reducible exact HSX.out _ hc.out
    generalize wr.drew=wd at *
    refine wpAnyH_take (i:=0) (v:=?_) (opAt rfl) (by kernel_rfl) (by kernel_rfl) (by kernel_rfl) (fun _ _ _ h=>h) (Or.inl ⟨by rfl,?_⟩) (by assumption) ?_
    rotate_left
    ·intro w' hSw;(try dsimp only at hSw);go_simp;(try with_reducible rfl)
    try simp only[Act.put,List.setIfInBounds_toArray,List.set_cons_zero,List.set_cons_succ]
    refine wpAnyH_take (i:=1) (v:=?_) (opAt rfl) (by kernel_rfl) (by kernel_rfl) (by kernel_rfl) (fun _ _ _ h=>h) (Or.inl ⟨by rfl,?_⟩) (by assumption) ?_
    rotate_left
    ·intro w' hSw;(try dsimp only at hSw);go_simp;(try with_reducible rfl)
    try simp only[Act.put,List.setIfInBounds_toArray,List.set_cons_zero,List.set_cons_succ]
    refine wpAnyH_take (i:=2) (v:=?_) (opAt rfl) (by kernel_rfl) (by kernel_rfl) (by kernel_rfl) (fun _ _ _ h=>h) (Or.inl ⟨by rfl,?_⟩) (by assumption) ?_
    rotate_left
    ·intro w' hSw;(try dsimp only at hSw);go_simp;(try with_reducible rfl)
    try simp only[Act.put,List.setIfInBounds_toArray,List.set_cons_zero,List.set_cons_succ]
    refine wpAnyH_take (i:=3) (v:=?_) (opAt rfl) (by kernel_rfl) (by kernel_rfl) (by kernel_rfl) (fun _ _ _ h=>h) (Or.inl ⟨by rfl,?_⟩) (by assumption) ?_
    rotate_left
    ·intro w' hSw;(try dsimp only at hSw);go_simp;(try with_reducible rfl)
    try simp only[Act.put,List.setIfInBounds_toArray,List.set_cons_zero,List.set_cons_succ]
    refine wpAnyH_take (i:=4) (v:=?_) (opAt rfl) (by kernel_rfl) (by kernel_rfl) (by kernel_rfl) (fun _ _ _ h=>h) (Or.inl ⟨by rfl,?_⟩) (by assumption) ?_
    rotate_left
    ·intro w' hSw;(try dsimp only at hSw);go_simp;(try with_reducible rfl)
    try simp only[Act.put,List.setIfInBounds_toArray,List.set_cons_zero,List.set_cons_succ]
    refine wpAnyH_take (i:=5) (v:=?_) (opAt rfl) (by kernel_rfl) (by kernel_rfl) (by kernel_rfl) (fun _ _ _ h=>h) (Or.inl ⟨by rfl,?_⟩) (by assumption) ?_
    rotate_left
    ·intro w' hSw;(try dsimp only at hSw);go_simp;(try with_reducible rfl)
    try simp only[Act.put,List.setIfInBounds_toArray,List.set_cons_zero,List.set_cons_succ]
    refine wpAnyH_take (i:=6) (v:=?_) (opAt rfl) (by kernel_rfl) (by kernel_rfl) (by kernel_rfl) (fun _ _ _ h=>h) (Or.inl ⟨by rfl,?_⟩) (by assumption) ?_
    rotate_left
    ·intro w' hSw;(try dsimp only at hSw);go_simp;(try with_reducible rfl)
    try simp only[Act.put,List.setIfInBounds_toArray,List.set_cons_zero,List.set_cons_succ]
    refine wpAnyH_take (i:=7) (v:=?_) (opAt rfl) (by kernel_rfl) (by kernel_rfl) (by kernel_rfl) (fun _ _ _ h=>h) (Or.inl ⟨by rfl,?_⟩) (by assumption) ?_
    rotate_left
    ·intro w' hSw;(try dsimp only at hSw);go_simp;(try with_reducible rfl)
    try simp only[Act.put,List.setIfInBounds_toArray,List.set_cons_zero,List.set_cons_succ]
    refine wpAnyH_take (i:=10) (v:=?_) (opAt rfl) (by kernel_rfl) (by kernel_rfl) (by kernel_rfl) (fun _ _ _ h=>h) (Or.inl ⟨by rfl,?_⟩) (by assumption) ?_
    rotate_left
    ·intro w' hSw;(try dsimp only at hSw);go_simp;(try with_reducible rfl)
    try simp only[Act.put,List.setIfInBounds_toArray,List.set_cons_zero,List.set_cons_succ]
    refine wpAnyH_ready (rs:=[8,11]) (by kernel_rfl) (by simp) ?_
    refine AllReadyH.cons (opAt rfl) (fun K hK=>?_) (AllReadyH.cons (opAt rfl) (fun K hK=>?_) AllReadyH.nil)
    ·have y8:=HSN.out _ hc.out
     go_simp
     refine hK.out _ _ (HSX.out _ hc.out) (fun hHeld2=>?_)
     clear hK K hHeld
     have hHeld:=hHeld2
     clear hHeld2
     try simp only[Act.put,List.setIfInBounds_toArray,List.set_cons_zero,List.set_cons_succ]
     clear y8
     refine wpAnyH_ready (rs:=[9,11]) (by kernel_rfl) (by simp) ?_
     refine AllReadyH.cons (opAt rfl) (fun K hK=>?_) (AllReadyH.cons (opAt rfl) (fun K hK=>?_) AllReadyH.nil)
     ·obtain⟨v5,w5,hr5,ho5,hg5,hat5⟩:=run_row (W:=wd) (B:=wr.heap.size) (HSS.out _ hc.out) bc HLN.out hc.out.size
      refine zcV _ _ 45 rfl rfl rfl hr5 ?_
      have HO:=hid ho5
      have hc2:Hid (Past wr w5):=hid (Below.grown hc.out hg5 hc.out.size (by simp))
      clear hc
      have hc:=hc2
      clear hc2
      clear hr5 ho5 hg5 hat5
      refine hK.out _ _ (HSX.out _ hc.out) (fun hHeld2=>?_)
      clear hK K hHeld
      have hHeld:=hHeld2
      clear hHeld2
      try simp only[Act.put,List.setIfInBounds_toArray,List.set_cons_zero,List.set_cons_succ]
      refine wpAnyH_ready (rs:=[11]) (by kernel_rfl) (by simp) ?_
      refine AllReadyH.cons (opAt rfl) (fun K hK=>?_) AllReadyH.nil
      go_simp
      have HRB:Hid ((w5.alloc (.cells #[.int .i64 7,.int .i64 0,.string ⟨#[]⟩,.string ⟨#[]⟩,.slice none 0 0,.slice none 0 0,.slice none 0 0] 66 (0,0))).heap[w5.heap.size]?=some (.cells #[.int .i64 7,.int .i64 0,.string ⟨#[]⟩,.string ⟨#[]⟩,.slice none 0 0,.slice none 0 0,.slice none 0 0] 66 (0,0))):=hid (zaj w5 _)
      have HO2:Hid ((w5.alloc (.cells #[.int .i64 7,.int .i64 0,.string ⟨#[]⟩,.string ⟨#[]⟩,.slice none 0 0,.slice none 0 0,.slice none 0 0] 66 (0,0))).ownsRow _ _ _ _ _ _):=hid (HO.out.alloc _)
      clear HO
      have HO:=HO2
      clear HO2
      have hc2:Hid (Past wr (w5.alloc (.cells #[.int .i64 7,.int .i64 0,.string ⟨#[]⟩,.string ⟨#[]⟩,.slice none 0 0,.slice none 0 0,.slice none 0 0] 66 (0,0)))):=hid (hc.out.alloc _)
      clear hc
      have hc:=hc2
      clear hc2
      refine hK.out _ _ (HSX.out _ hc.out) (fun hHeld2=>?_)
      clear hK K hHeld
      have hHeld:=hHeld2
      clear hHeld2
      try simp only[Act.put,List.setIfInBounds_toArray,List.set_cons_zero,List.set_cons_succ]
      refine wpAnyH_ready (rs:=[12]) (by kernel_rfl) (by simp) ?_
      refine AllReadyH.cons (opAt rfl) (fun K hK=>?_) AllReadyH.nil
      obtain⟨v7,w7,hr7,ho7,hg7⟩:=run_more (W:=(w5.alloc (.cells #[.int .i64 7,.int .i64 0,.string ⟨#[]⟩,.string ⟨#[]⟩,.slice none 0 0,.slice none 0 0,.slice none 0 0] 66 (0,0)))) (B:=wr.heap.size) HO.out HRB.out HLN.out hc.out.size
      refine zcV _ _ 45 rfl rfl rfl hr7 ?_
      have hc2:Hid (Past wr w7):=hid (Below.grown hc.out hg7 hc.out.size (fun k hk=>(HO.out.lt k hk).1))
      clear hc
      have hc:=hc2
      clear hc2
      rw[←hbd] at ho7
      obtain⟨a9,c9,rfl,hw9⟩:=Wh.more HWW.out (by omega) lNr hc.out (by rw[hbd];exact HLN.out) ho7
      rw[hbd] at hw9 ⊢
      have HW9:=hid hw9
      clear hr7 ho7 hg7 hw9 HO HRB
      refine hK.out _ _ (HSX.out _ hc.out) (fun hHeld2=>?_)
      clear hK K hHeld
      have hHeld:=hHeld2
      clear hHeld2
      try simp only[Act.put,List.setIfInBounds_toArray,List.set_cons_zero,List.set_cons_succ]
      obtain⟨cs,hcs,-⟩:=(HWW.out.on hc.out).row
      have y8:=HSN.out _ hc.out
      have fz:w7.frozen? ⟨N,q*4+3,none⟩=false:=zac hcs
      have lz:=lt_of_block hcs
      clear hcs
      refine wpAnyH_take (i:=13) (v:=?_) (opAt rfl) (by kernel_rfl) (by kernel_rfl) (by kernel_rfl) (fun _ _ _ h=>h) (Or.inl ⟨by rfl,?_⟩) (by assumption) ?_
      rotate_left
      ·intro w' hSw;(try dsimp only at hSw);go_simp;(try with_reducible rfl)
      try simp only[Act.put,List.setIfInBounds_toArray,List.set_cons_zero,List.set_cons_succ]
      refine wpAnyH_take (i:=14) (v:=?_) (opAt rfl) (by kernel_rfl) (by kernel_rfl) (by kernel_rfl) (fun _ _ _ h=>h) (Or.inl ⟨by rfl,?_⟩) (by assumption) ?_
      rotate_left
      ·intro w' hSw;(try dsimp only at hSw);go_simp;(try with_reducible rfl)
      try simp only[Act.put,List.setIfInBounds_toArray,List.set_cons_zero,List.set_cons_succ]
      refine wpAnyH_ready (rs:=[15]) (by kernel_rfl) (by simp) ?_
      refine AllReadyH.cons (opAt rfl) (fun K hK=>?_) AllReadyH.nil
      go_simp
      refine hK.out _ _ (HSZ.out _ (bd.length+1) a9 c9 hc.out) (fun hHeld2=>?_)
      clear hK K hHeld hHeld2
      try simp only[Act.put,List.setIfInBounds_toArray,List.set_cons_zero,List.set_cons_succ]
      refine wpAnyH_done (by kernel_rfl) ?_ _
      clear y8 fz lz
      go_wp2
      go_roundw
      case rel=>exact⟨q,q,by omega,by go_num,rfl,HRL.out.2 (by first | rfl | trivial) _ _ _ HW9.out,HZ.out _ _ _ _ hc.out⟩
      case measure=>first | (simp[intOf];done) | (simp[intOf];omega)
     ·go_simp
      have HRB:Hid ((wd.alloc (.cells #[.int .i64 7,.int .i64 0,.string ⟨#[]⟩,.string ⟨#[]⟩,.slice none 0 0,.slice none 0 0,.slice none 0 0] 66 (0,0))).heap[wd.heap.size]?=some (.cells #[.int .i64 7,.int .i64 0,.string ⟨#[]⟩,.string ⟨#[]⟩,.slice none 0 0,.slice none 0 0,.slice none 0 0] 66 (0,0))):=hid (zaj wd _)
      have hc2:Hid (Past wr (wd.alloc (.cells #[.int .i64 7,.int .i64 0,.string ⟨#[]⟩,.string ⟨#[]⟩,.slice none 0 0,.slice none 0 0,.slice none 0 0] 66 (0,0)))):=hid (hc.out.alloc _)
      clear hc
      have hc:=hc2
      clear hc2
      refine hK.out _ _ (HSX.out _ hc.out) (fun hHeld2=>?_)
      clear hK K hHeld
      have hHeld:=hHeld2
      clear hHeld2
      try simp only[Act.put,List.setIfInBounds_toArray,List.set_cons_zero,List.set_cons_succ]
      refine wpAnyH_ready (rs:=[9]) (by kernel_rfl) (by simp) ?_
      refine AllReadyH.cons (opAt rfl) (fun K hK=>?_) AllReadyH.nil
      obtain⟨v5,w5,hr5,ho5,hg5,hat5⟩:=run_row (W:=(wd.alloc (.cells #[.int .i64 7,.int .i64 0,.string ⟨#[]⟩,.string ⟨#[]⟩,.slice none 0 0,.slice none 0 0,.slice none 0 0] 66 (0,0)))) (B:=wr.heap.size) (HSS.out _ hc.out) bc HLN.out hc.out.size
      refine zcV _ _ 45 rfl rfl rfl hr5 ?_
      have HO:=hid ho5
      have HRB2:=hid ((hg5.block _ (lt_of_block HRB.out) (by simp)).trans HRB.out)
      clear HRB
      have HRB:=HRB2
      clear HRB2
      have hc2:Hid (Past wr w5):=hid (Below.grown hc.out hg5 hc.out.size (by simp))
      clear hc
      have hc:=hc2
      clear hc2
      clear hr5 ho5 hg5 hat5
      refine hK.out _ _ (HSX.out _ hc.out) (fun hHeld2=>?_)
      clear hK K hHeld
      have hHeld:=hHeld2
      clear hHeld2
      try simp only[Act.put,List.setIfInBounds_toArray,List.set_cons_zero,List.set_cons_succ]
      refine wpAnyH_ready (rs:=[12]) (by kernel_rfl) (by simp) ?_
      refine AllReadyH.cons (opAt rfl) (fun K hK=>?_) AllReadyH.nil
      obtain⟨v7,w7,hr7,ho7,hg7⟩:=run_more (W:=w5) (B:=wr.heap.size) HO.out HRB.out HLN.out hc.out.size
      refine zcV _ _ 45 rfl rfl rfl hr7 ?_
      have hc2:Hid (Past wr w7):=hid (Below.grown hc.out hg7 hc.out.size (fun k hk=>(HO.out.lt k hk).1))
      clear hc
      have hc:=hc2
      clear hc2
      rw[←hbd] at ho7
      obtain⟨a9,c9,rfl,hw9⟩:=Wh.more HWW.out (by omega) lNr hc.out (by rw[hbd];exact HLN.out) ho7
      rw[hbd] at hw9 ⊢
      have HW9:=hid hw9
      clear hr7 ho7 hg7 hw9 HO HRB
      refine hK.out _ _ (HSX.out _ hc.out) (fun hHeld2=>?_)
      clear hK K hHeld
      have hHeld:=hHeld2
      clear hHeld2
      try simp only[Act.put,List.setIfInBounds_toArray,List.set_cons_zero,List.set_cons_succ]
      obtain⟨cs,hcs,-⟩:=(HWW.out.on hc.out).row
      have y8:=HSN.out _ hc.out
      have fz:w7.frozen? ⟨N,q*4+3,none⟩=false:=zac hcs
      have lz:=lt_of_block hcs
      clear hcs
      refine wpAnyH_take (i:=13) (v:=?_) (opAt rfl) (by kernel_rfl) (by kernel_rfl) (by kernel_rfl) (fun _ _ _ h=>h) (Or.inl ⟨by rfl,?_⟩) (by assumption) ?_
      rotate_left
      ·intro w' hSw;(try dsimp only at hSw);go_simp;(try with_reducible rfl)
      try simp only[Act.put,List.setIfInBounds_toArray,List.set_cons_zero,List.set_cons_succ]
      refine wpAnyH_take (i:=14) (v:=?_) (opAt rfl) (by kernel_rfl) (by kernel_rfl) (by kernel_rfl) (fun _ _ _ h=>h) (Or.inl ⟨by rfl,?_⟩) (by assumption) ?_
      rotate_left
      ·intro w' hSw;(try dsimp only at hSw);go_simp;(try with_reducible rfl)
      try simp only[Act.put,List.setIfInBounds_toArray,List.set_cons_zero,List.set_cons_succ]
      refine wpAnyH_ready (rs:=[15]) (by kernel_rfl) (by simp) ?_
      refine AllReadyH.cons (opAt rfl) (fun K hK=>?_) AllReadyH.nil
      go_simp
      refine hK.out _ _ (HSZ.out _ (bd.length+1) a9 c9 hc.out) (fun hHeld2=>?_)
      clear hK K hHeld hHeld2
      try simp only[Act.put,List.setIfInBounds_toArray,List.set_cons_zero,List.set_cons_succ]
      refine wpAnyH_done (by kernel_rfl) ?_ _
      clear y8 fz lz
      go_wp2
      go_roundw
      case rel=>exact⟨q,q,by omega,by go_num,rfl,HRL.out.2 (by first | rfl | trivial) _ _ _ HW9.out,HZ.out _ _ _ _ hc.out⟩
      case measure=>first | (simp[intOf];done) | (simp[intOf];omega)
    ·go_simp
     have HRB:Hid ((wd.alloc (.cells #[.int .i64 7,.int .i64 0,.string ⟨#[]⟩,.string ⟨#[]⟩,.slice none 0 0,.slice none 0 0,.slice none 0 0] 66 (0,0))).heap[wd.heap.size]?=some (.cells #[.int .i64 7,.int .i64 0,.string ⟨#[]⟩,.string ⟨#[]⟩,.slice none 0 0,.slice none 0 0,.slice none 0 0] 66 (0,0))):=hid (zaj wd _)
     have hc2:Hid (Past wr (wd.alloc (.cells #[.int .i64 7,.int .i64 0,.string ⟨#[]⟩,.string ⟨#[]⟩,.slice none 0 0,.slice none 0 0,.slice none 0 0] 66 (0,0)))):=hid (hc.out.alloc _)
     clear hc
     have hc:=hc2
     clear hc2
     refine hK.out _ _ (HSX.out _ hc.out) (fun hHeld2=>?_)
     clear hK K hHeld
     have hHeld:=hHeld2
     clear hHeld2
     try simp only[Act.put,List.setIfInBounds_toArray,List.set_cons_zero,List.set_cons_succ]
     refine wpAnyH_ready (rs:=[8]) (by kernel_rfl) (by simp) ?_
     refine AllReadyH.cons (opAt rfl) (fun K hK=>?_) AllReadyH.nil
     have y8:=HSN.out _ hc.out
     go_simp
     refine hK.out _ _ (HSX.out _ hc.out) (fun hHeld2=>?_)
     clear hK K hHeld
     have hHeld:=hHeld2
     clear hHeld2
     try simp only[Act.put,List.setIfInBounds_toArray,List.set_cons_zero,List.set_cons_succ]
     clear y8
     refine wpAnyH_ready (rs:=[9]) (by kernel_rfl) (by simp) ?_
     refine AllReadyH.cons (opAt rfl) (fun K hK=>?_) AllReadyH.nil
     obtain⟨v5,w5,hr5,ho5,hg5,hat5⟩:=run_row (W:=(wd.alloc (.cells #[.int .i64 7,.int .i64 0,.string ⟨#[]⟩,.string ⟨#[]⟩,.slice none 0 0,.slice none 0 0,.slice none 0 0] 66 (0,0)))) (B:=wr.heap.size) (HSS.out _ hc.out) bc HLN.out hc.out.size
     refine zcV _ _ 45 rfl rfl rfl hr5 ?_
     have HO:=hid ho5
     have HRB2:=hid ((hg5.block _ (lt_of_block HRB.out) (by simp)).trans HRB.out)
     clear HRB
     have HRB:=HRB2
     clear HRB2
     have hc2:Hid (Past wr w5):=hid (Below.grown hc.out hg5 hc.out.size (by simp))
     clear hc
     have hc:=hc2
     clear hc2
     clear hr5 ho5 hg5 hat5
     refine hK.out _ _ (HSX.out _ hc.out) (fun hHeld2=>?_)
     clear hK K hHeld
     have hHeld:=hHeld2
     clear hHeld2
     try simp only[Act.put,List.setIfInBounds_toArray,List.set_cons_zero,List.set_cons_succ]
     refine wpAnyH_ready (rs:=[12]) (by kernel_rfl) (by simp) ?_
     refine AllReadyH.cons (opAt rfl) (fun K hK=>?_) AllReadyH.nil
     obtain⟨v7,w7,hr7,ho7,hg7⟩:=run_more (W:=w5) (B:=wr.heap.size) HO.out HRB.out HLN.out hc.out.size
     refine zcV _ _ 45 rfl rfl rfl hr7 ?_
     have hc2:Hid (Past wr w7):=hid (Below.grown hc.out hg7 hc.out.size (fun k hk=>(HO.out.lt k hk).1))
     clear hc
     have hc:=hc2
     clear hc2
     rw[←hbd] at ho7
     obtain⟨a9,c9,rfl,hw9⟩:=Wh.more HWW.out (by omega) lNr hc.out (by rw[hbd];exact HLN.out) ho7
     rw[hbd] at hw9 ⊢
     have HW9:=hid hw9
     clear hr7 ho7 hg7 hw9 HO HRB
     refine hK.out _ _ (HSX.out _ hc.out) (fun hHeld2=>?_)
     clear hK K hHeld
     have hHeld:=hHeld2
     clear hHeld2
     try simp only[Act.put,List.setIfInBounds_toArray,List.set_cons_zero,List.set_cons_succ]
     obtain⟨cs,hcs,-⟩:=(HWW.out.on hc.out).row
     have y8:=HSN.out _ hc.out
     have fz:w7.frozen? ⟨N,q*4+3,none⟩=false:=zac hcs
     have lz:=lt_of_block hcs
     clear hcs
     refine wpAnyH_take (i:=13) (v:=?_) (opAt rfl) (by kernel_rfl) (by kernel_rfl) (by kernel_rfl) (fun _ _ _ h=>h) (Or.inl ⟨by rfl,?_⟩) (by assumption) ?_
     rotate_left
     ·intro w' hSw;(try dsimp only at hSw);go_simp;(try with_reducible rfl)
     try simp only[Act.put,List.setIfInBounds_toArray,List.set_cons_zero,List.set_cons_succ]
     refine wpAnyH_take (i:=14) (v:=?_) (opAt rfl) (by kernel_rfl) (by kernel_rfl) (by kernel_rfl) (fun _ _ _ h=>h) (Or.inl ⟨by rfl,?_⟩) (by assumption) ?_
     rotate_left
     ·intro w' hSw;(try dsimp only at hSw);go_simp;(try with_reducible rfl)
     try simp only[Act.put,List.setIfInBounds_toArray,List.set_cons_zero,List.set_cons_succ]
     refine wpAnyH_ready (rs:=[15]) (by kernel_rfl) (by simp) ?_
     refine AllReadyH.cons (opAt rfl) (fun K hK=>?_) AllReadyH.nil
     go_simp
     refine hK.out _ _ (HSZ.out _ (bd.length+1) a9 c9 hc.out) (fun hHeld2=>?_)
     clear hK K hHeld hHeld2
     try simp only[Act.put,List.setIfInBounds_toArray,List.set_cons_zero,List.set_cons_succ]
     refine wpAnyH_done (by kernel_rfl) ?_ _
     clear y8 fz lz
     go_wp2
     go_roundw
     case rel=>exact⟨q,q,by omega,by go_num,rfl,HRL.out.2 (by first | rfl | trivial) _ _ _ HW9.out,HZ.out _ _ _ _ hc.out⟩
     case measure=>first | (simp[intOf];done) | (simp[intOf];omega)
    -- /R12
end Go.Proofs.YtljbbhhiiiepcaaGreatDoor.Ck
