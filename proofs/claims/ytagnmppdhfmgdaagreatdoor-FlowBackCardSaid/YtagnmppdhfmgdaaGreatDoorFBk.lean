/- What goes to a node and back: the walk of FlowBack. -/
import Derived.Test.YtagnmppdhfmgdaaGreatDoorFCode
import Derived.Test.YtagnmppdhfmgdaaGreatDoorFExW
set_option linter.unusedSimpArgs false
set_option linter.unusedVariables false
set_option maxHeartbeats 8000000
set_option maxRecDepth 100000
namespace Go.Proofs.YtagnmppdhfmgdaaGreatDoor.Fl
open Go Go.RowKit Go.Proofs.YtagnmppdhfmgdaaGreatDoor
open Go.Lib (hid)
open Go.Proofs.YtagnmppdhfmgdaaGreatDoor.Pm (Wo)
open Go.Lib (hid)
theorem flowBack_walk (v0:Value) (jumps:Bool) (w:World) (H:Wo w) (c0:CodeIn w v0):
  Calls Tryz.prog 5 #[v0,.bool jumps] w fun e w'=>e=.returned (.bool true)∧Below w.heap.size w w':=by
 obtain⟨pa,pn,pc,own,la,ln,lc,zl,ga,gn,gc,zg,rfl,r0,r1,hg⟩:=c0
 have HP:=hid H
 have R0:=hid r0
 have R1:=hid r1
 have GC:=hid hg
 clear H r0 r1 hg
 have hfd:∀(N:Nat) (w:World),(Instr.field 24 (.agg #[.slice (some ⟨N,0,none⟩) 3 3]) 0).run Tryz.prog w=.ok (.slice (some ⟨N,0,none⟩) 3 3) w:=fun _ _=>by kernel_rfl
 go_enter Tryz.func5,Tryz.ntmps5
 go_wp2_with (first
  | (go_at_call 20;(refine(back_of H6.out.1 hq w6 (Past.refl _)).mono ?_);rintro e w7 ⟨g7,rfl,t7,b7⟩;have H7:=hid (And.intro t7 b7);clear t7 b7)
  | (go_at_call 20;(refine(back_of H5.out.1 hq w5 (Past.refl _)).mono ?_);rintro e w6 ⟨g6,rfl,t6,b6⟩;have H6:=hid (And.intro t6 b6);clear t6 b6)
  | (go_at_call 18;(refine(edges_of jumps HME.out HM3.out.few HG4.out.1 HG4.out.2.1 HG4.out.2.2.2 w4 (Past.refl _)).mono ?_);rintro e w5 ⟨g5,rfl,t5,b5⟩;have hq:M+1≤10000:=(by have:=HM3.out.few;have:=HME.out;omega);have H5:=hid (And.intro t5 b5);clear t5 b5)
  | (go_at_call 11;(refine(of_any (w0:=w3) a c l HM3.out.lim HM3.out.inn (by have:=HM3.out.few;omega) w3 (Past.refl _)).mono ?_);rintro e w4 ⟨v,rfl,hg4,hb4⟩;obtain⟨gv,go,ai,cv,co,ci,rv,rfl,g1,g2,g3,g4⟩:=hg4.ex;obtain⟨gi,rfl,-,-,-,-,-,-⟩:=zbj g3 (by omega);obtain⟨M,hM⟩:∃M,cnts l=M:=⟨_,rfl⟩;rw[hM] at g1 g2 g3 ⊢;have HME:=hid hM;have HG4:=hid (And.intro g1 (And.intro g2 (And.intro g3 g4)));have HB4:=hid hb4;clear g1 g2 g3 g4 hg4 hb4 hM)
  | (go_at_call 9;refine(main_call _ (R0.out.on ?_) (R1.out.on ?_) GC.out).mono ?_;(repeat (first | with_reducible exact HB1.out | (with_reducible refine Below.setCell ?_ ?_ _) | simp));rintro e w3 ⟨N,a,c,l,rfl,hm3,hb3⟩;clear x0 x1 x2 x3 fx;have HB3:Hid (Below w.heap.size w w3):=hid (Below.trans (show Below w.heap.size w _ from by (repeat (first | with_reducible exact HB1.out | (with_reducible refine Below.setCell ?_ ?_ _) | simp))) (hb3.mono (by simp[World.setCell];have:=HB1.out.size;omega)));have HM3:=hid hm3;have y0:=hm3.cell;have y1:=hm3.lt;clear hb3 hm3)
  | (go_at_call 8;refine(ex_any (HP.out.on ((Past.refl w).alloc _))).mono ?_;rintro e w1 ⟨rfl,hb1⟩;have hX:=(hb1.block w.heap.size (by simp)).trans (zai w _);have x0:=zac (k:=0) hX rfl;have x1:=zac (k:=1) hX rfl;have x2:=zac (k:=2) hX rfl;have x3:=zac (k:=3) hX rfl;have fx:=fun k=>zab (k:=k) hX;have lx:=lt_of_block hX;have HX:=hid hX;have HB1:Hid (Below w.heap.size w w1):=hid (za3 ((Below.refl _ _).alloc (Nat.le_refl _) _) hb1);clear hX hb1))
 obtain⟨E,hE⟩:∃E,zb9 (zbg l) (zbe l) jumps=E:=⟨_,rfl⟩
 rw[hE] at H5 H6 H7
 have b7:Below w.heap.size w w7:=za3 (za3 HB3.out (za3 HB4.out H5.out.2)) (za3 H6.out.2 H7.out.2)
 have HA:=hid (And.intro (H5.out.1.on (za3 H6.out.2 H7.out.2)) (And.intro (H6.out.1.on H7.out.2) (And.intro H7.out.1 b7)))
 clear hE b7 H5 H6 H7 HG4 HM3 HB4 HB3 HME y0 y1 HX HB1 lx hfd HP R0 R1 GC
 go_loopw [9] (fun i wr=>∃k:Nat,k≤M+1∧i=.int .i64 k∧Past w7 wr) (fun i _=>M+1 - (intOf i).toNat)
 case atStart=>exact⟨0,Nat.zero_le _,rfl,Past.refl _⟩
 case round =>
  obtain⟨i,hi,rfl,hp0⟩:=hrel
  by_cases hlt:i < M+1
  ·have HP0:=hid hp0
   clear hp0
   have hdi:decide ((i:Int) < (M:Int)+1)=true:=decide_eq_true (by omega)
   go_wp2
   (try rw[hdi])
   clear hdi
   go_loopw [10] (fun v wr=>∃k:Nat,k≤M+1∧v=.int .i64 k∧Past w7 wr) (fun v _=>M+1 - (intOf v).toNat)
   case atStart=>exact⟨0,Nat.zero_le _,rfl,HP0.out⟩
   case round =>
    obtain⟨k,hk,rfl,hp0⟩:=hrel
    by_cases hltk:k < M+1
    ·obtain⟨e5,e6,e7,-⟩:=HA.out
     obtain⟨r,b,c,r1,r2,r3,d1,d2⟩:=three_rows (E:=E) (i:=i) (k:=k) (by rw[e5.len];exact hlt) (by rw[e5.len];exact hltk)
     obtain⟨ra1,rc1,n1,-,-,q1,-,h1⟩:=e5.has r1
     obtain⟨ra2,rc2,n2,-,-,q2,-,h2⟩:=e6.has r2
     obtain⟨ra3,rc3,n3,-,-,q3,-,h3⟩:=e7.has r3
     have h1:=h1 (k:Int)
     have h2:=h2 (i:Int)
     have h3:=h3 (k:Int)
     rw[d1] at h2
     rw[d2] at h3
     obtain⟨d,hd⟩:∃d,decide ((k:Int)∈r)=d:=⟨_,rfl⟩
     rw[hd] at h1 h2 h3
     unfold HasF at h1 h2 h3
     have hp:=hid hp0
     have y1:=q1 _ hp0
     have y2:=q2 _ hp0
     have y3:=q3 _ hp0
     have HQ:=hid (And.intro q1 (And.intro q2 q3))
     have HC1:=hid h1
     have HC2:=hid h2
     have HC3:=hid h3
     clear e5 e6 e7 r1 r2 r3 d1 d2 q1 q2 q3 h1 h2 h3 hd hp0
     cases d<;>go_wp2_with (first
      | (go_at_call 24;((with_reducible refine(HC1.out _ hp.out).mono ?_);rintro e wk ⟨rfl,hb⟩);have hq2:=hid (hp.out.on hb);clear hp hb y1 y2 y3;have hp:=hq2;clear hq2;have y1:=HQ.out.1 _ hp.out;have y2:=HQ.out.2.1 _ hp.out;have y3:=HQ.out.2.2 _ hp.out)
      | (go_at_call 24;((with_reducible refine(HC2.out _ hp.out).mono ?_);rintro e wk ⟨rfl,hb⟩);have hq2:=hid (hp.out.on hb);clear hp hb y1 y2 y3;have hp:=hq2;clear hq2;have y1:=HQ.out.1 _ hp.out;have y2:=HQ.out.2.1 _ hp.out;have y3:=HQ.out.2.2 _ hp.out)
      | (go_at_call 24;((with_reducible refine(HC3.out _ hp.out).mono ?_);rintro e wk ⟨rfl,hb⟩);have hq2:=hid (hp.out.on hb);clear hp hb y1 y2 y3;have hp:=hq2;clear hq2;have y1:=HQ.out.1 _ hp.out;have y2:=HQ.out.2.1 _ hp.out;have y3:=HQ.out.2.2 _ hp.out))
     all_goals go_roundw
     all_goals (first | exact⟨k+1,by omega,by go_num,hp.out⟩ | (simp[intOf];omega))
    ·have hdk:decide ((k:Int) < (M:Int)+1)=false:=decide_eq_false (by omega)
     obtain⟨-,e6,-,-⟩:=HA.out
     have hb:=back_at (E:=E) (k:=i) (by have:=HA.out.1.len;omega)
     obtain⟨ra,rc,n,hn,hn1,q1,q2,-⟩:=e6.has hb
     have hp:=hid hp0
     have y1:=q1 _ hp0
     have HQ:=hid (And.intro q1 (And.intro q2 hn))
     clear e6 hb q1 q2 hn hp0
     go_wp2
     (try rw[hdk])
     clear hdk
     go_loopw [12] (fun v wr=>∃m:Nat,(m+1≤n∨m=0)∧v=.int .i64 ((m:Int)+1)∧Past w7 wr) (fun v _=>n+1 - (intOf v).toNat)
     case atStart=>exact⟨0,.inr rfl,rfl,hp.out⟩
     case round =>
      obtain⟨m,hm,rfl,hp0⟩:=hrel
      clear hp y1
      have y1:=HQ.out.1 _ hp0
      have hp:=hid hp0
      by_cases hltm:m+1 < n
      ·have hN:=HQ.out.2.1 _ hp0
       have hl:=HQ.out.2.2
       obtain⟨b1,o1,rfl,c1⟩:=hN m (by omega)
       obtain⟨b2,o2,e2,c2⟩:=hN (m+1) (by omega)
       simp only[Option.some.injEq,Addr.mk.injEq,and_true] at e2
       obtain⟨rfl,rfl⟩:=e2
       have hup:=backR_up E i m _ _ (List.getElem?_eq_getElem (by omega)) (List.getElem?_eq_getElem (by omega))
       obtain⟨z1,hz1⟩:∃z,(zdw E i)[m]=z:=⟨_,rfl⟩
       obtain⟨z2,hz2⟩:∃z,(zdw E i)[m+1]=z:=⟨_,rfl⟩
       rw[hz1] at c1 hup
       rw[hz2] at c2 hup
       have hle:¬z2≤z1:=by omega
       clear hN hl hz1 hz2 hup hp0
       have ej:((m:Int)+1 - 1)=m:=by omega
       go_wp2
       go_quiet (fail)
       go_wp2
       go_roundw
       case rel=>exact⟨m+1,.inl (by omega),by go_num,za3 hp.out (below_dN _ _)⟩
       case measure=>simp[intOf];omega
      ·go_wp2
       go_roundw
       case rel=>exact⟨i+1,by omega,by go_num,hp.out⟩
       case measure=>simp[intOf];omega
  ·obtain rfl:i=M+1:=by omega
   go_wp2
   go_ret
   exact⟨by simp,za3 HA.out.2.2.2 hp0⟩
end Go.Proofs.YtagnmppdhfmgdaaGreatDoor.Fl
