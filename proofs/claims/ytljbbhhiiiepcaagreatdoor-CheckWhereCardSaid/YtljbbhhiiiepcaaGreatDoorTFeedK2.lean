/- Statements of the feed: a loop, a branch. -/
import Derived.Test.YtljbbhhiiiepcaaGreatDoorTFeedS
import Derived.Deep.AppendLies
import Derived.OwnWalk
import Derived.Deep.RegionLaw
set_option linter.unusedSimpArgs false
set_option linter.unusedVariables false
set_option maxHeartbeats 8000000
set_option maxRecDepth 100000
namespace Go.Proofs.YtljbbhhiiiepcaaGreatDoor
open Go Go.RowKit
open Go.Lib (hid)
section
variable {F:FeedC} {B f:Nat}
theorem tail_7 (D:Nat) (loop:Bool) (dv v t tag' left:Int) (X q0:Nat) (v0:0≤v) (v1:v≤255) (hdv:dv=(D:Int)+1) (hD:D≤9) (H:Deeper F B f D) (kk:Int) (hkk:kk=7∨kk=8):Tail F B f (D+1) kk loop dv v t tag' left X q0:=by
 rcases hkk with rfl | rfl
 all_goals
  intro w wc K K1 hK1' hK' HT HM0
  intros
  conv at hK1'=>intro a w';arg 1;arg 2;whnf
  conv at hK'=>intro a w';arg 1;arg 2;whnf
  conv=>arg 2;whnf
  obtain⟨HB,⟨x0,x1,x2,x3,x4,x5,x6⟩,yy,⟨r0,r1,r2,r3,r4,r5,r6⟩,zz,HXR,hXlt,hRlt,HBX,HPR,HPX,ne1,ne3,ne4,ne5⟩:=zbi HM0.out
  obtain⟨y0,y2,y3,y4,y5,y6,z0,z1,z2,z3,z4,z5,z6⟩:_∧_∧_∧_∧_∧_∧_∧_∧_∧_∧_∧_∧_:=⟨yy 0,yy 2,yy 3,yy 4,yy 5,yy 6,zz 0,zz 1,zz 2,zz 3,zz 4,zz 5,zz 6⟩
  clear yy zz
  have HD:=hid H
  clear H
  subst hdv
  have k8:IntKind.i64.wrap ((D:Int)+1 - 1)=D:=by rw[Int.add_sub_cancel];exact IntWalk.i64_in _ (by omega)
  have k7:IntKind.i64.wrap (D:Int)=D:=IntWalk.i64_in _ (by omega)
  go_wp2_with
   (first
    | (go_at_call 57;refine MidS.call_stmts (F:=F) (B:=B) (w:=w) (X:=X) (left:=left) (tag:=tag') (q:=q2) (c:=upd (upd (st0 t) 0 (.int .i64 5)) 4 (.slice (some ⟨w2.heap.size,0,none⟩) 1 1)) (e:=(D:Int)) (m':=3) HD.out 3 rfl (by decide) (by decide) (by have:=HT.out;omega) true ?_ ?_;(repeat (first | with_reducible exact HM2.out | with_reducible refine MidS.set ?_ (by decide) _ | with_reducible refine MidS.drew ?_ | with_reducible refine MidS.drewN ?_ _ | with_reducible refine MidS.alloc ?_ _));intro l a kc q3 left3 tag3 w3 hG3 hin3 hA3 hb3 hm3 hk3;have hX:w3.heap[X]?=some (.cells #[.int .i64 5,.int .i64 t,.string {data:=#[]},.string {data:=#[]},.slice (some ⟨w2.heap.size,0,none⟩) 1 1,.slice none 0 0,.slice none 0 0] 66 (0,0)):=hm3.hX;have hR:=hm3.hR;obtain⟨x0,x1,x2,x3,x4,x5,x6⟩:=zaR hX;have y0:=zac (k:=0) hX;have y2:=zac (k:=2) hX;have y3:=zac (k:=3) hX;have y4:=zac (k:=4) hX;have y5:=zac (k:=5) hX;have y6:=zac (k:=6) hX;obtain⟨r0,r1,r2,r3,r4,r5,r6⟩:=zaR hR;have z0:=zac (k:=0) hR;have z1:=zac (k:=1) hR;have z2:=zac (k:=2) hR;have z3:=zac (k:=3) hR;have z4:=zac (k:=4) hR;have z5:=zac (k:=5) hR;have z6:=zac (k:=6) hR;have hXlt:X < w3.heap.size:=lt_of_block hX;have hRlt:w.heap.size < w3.heap.size:=lt_of_block hR;clear hX hR;have hrow:w3.heap[w2.heap.size]?=some (.cells (five T) 68 (0,0)):=(hk3.block w2.heap.size (by simp;try omega) (HM2.out.three HM2.out.xlt _ (Nat.le_refl _))).trans (zao _ (by simp));have HROW:=hid hrow;clear hrow;have hk23:KeptP (Three f w.heap.size X) w2 w3:=KeptP.trans (by repeat (first | with_reducible exact KeptP.refl _ _ | with_reducible refine KeptP.set ?_ HPR.out _ _ | with_reducible refine KeptP.set ?_ HPX.out _ _ | with_reducible refine KeptP.drew ?_ | with_reducible refine KeptP.drewN ?_ _ | with_reducible refine KeptP.alloc ?_ _)) hk3;have HK23:=hid hk23;clear hk23;have HM3:=hid hm3;have HG3:=hid (And.intro hG3 (And.intro hin3 hA3));have HB3:=hid hb3;clear hm3 hk3 hG3 hin3 hA3 hb3)
    | (go_at_call 134;refine MidS.call_expr (F:=F) (B:=B) (w:=w) (X:=X) (left:=left) (tag:=tag') (q:=q0) (c:=upd (st0 t) 0 (.int .i64 5)) (e:=2) 2 (by decide) (by decide) ?_ ?_;(repeat (first | with_reducible exact HM0.out | with_reducible refine MidS.set ?_ (by decide) _ | with_reducible refine MidS.drew ?_ | with_reducible refine MidS.drewN ?_ _ | with_reducible refine MidS.alloc ?_ _));intro T q2 w2 hT2 hin2 hA2 hm2 hk2;have hX:w2.heap[X]?=some (.cells #[.int .i64 5,.int .i64 t,.string {data:=#[]},.string {data:=#[]},.slice none 0 0,.slice none 0 0,.slice none 0 0] 66 (0,0)):=hm2.hX;have hR:=hm2.hR;obtain⟨x0,x1,x2,x3,x4,x5,x6⟩:=zaR hX;have y0:=zac (k:=0) hX;have y2:=zac (k:=2) hX;have y3:=zac (k:=3) hX;have y4:=zac (k:=4) hX;have y5:=zac (k:=5) hX;have y6:=zac (k:=6) hX;obtain⟨r0,r1,r2,r3,r4,r5,r6⟩:=zaR hR;have z0:=zac (k:=0) hR;have z1:=zac (k:=1) hR;have z2:=zac (k:=2) hR;have z3:=zac (k:=3) hR;have z4:=zac (k:=4) hR;have z5:=zac (k:=5) hR;have z6:=zac (k:=6) hR;have hXlt:X < w2.heap.size:=lt_of_block hX;have hRlt:w.heap.size < w2.heap.size:=lt_of_block hR;have HM2:=hid hm2;have HK2:=hid hk2;have HT2:=hid (And.intro hT2 (And.intro hin2 hA2));clear hX hR hm2 hk2 hT2 hin2 hA2))
  refine bodyPost_ret (v:=.agg #[.int .i64 5,.int .i64 t,.string {data:=#[]},.string {data:=#[]},.slice (some ⟨w2.heap.size,0,none⟩) 1 1,.slice a l.length kc,.slice none 0 0]) (by simp[results,Tryz.results87,go_sem, *]) rfl ?_
  obtain⟨ht1,ht2⟩:=HT.out
  obtain⟨hBX,hBR⟩:=HBX.out
  have hXR:=HXR.out
  have hrr:w.heap.size≤w.heap.size:=Nat.le_refl _
  have hrx:w.heap.size≤X:=Nat.le_of_lt hXR
  refine⟨.mk 5 t mE mE (some ⟨w2.heap.size,0,none⟩) 1 [T] a kc l none 0 [],q3,left3,tag3,rfl,gs_whl ht1.1.1 (by omega) ht1.2 HT2.out.1 (by decide) HG3.out.1.1 HG3.out.1.2 _ _ _ _ _ _,?_,?_,?_,by have:=HB3.out;omega,by have:=HB3.out;omega,by have:=HB3.out;omega,by show left3+((nB (.whl _ _ (rss l)):Nat):Int)≤_;rw[nB];have:=HB3.out;have:=HM2.out.lo;omega⟩
  ·rw[ST.In]
   have hlen:=HG3.out.1.2
   refine⟨by omega,⟨by simp,by omega,by simp⟩,?_,?_,by rw[SsIn];trivial⟩
   ·refine zbw ((KeptP.block (P:=Three f w.heap.size X) ?_ _ (lt_of_block HROW.out) (HM2.out.three HM2.out.xlt _ (Nat.le_refl _))).trans HROW.out) (KeptP.et (A:=_) ?_ (HM2.out.three HT2.out.2.2) HT2.out.2.1 |>.mono (by have:=HT2.out.2.2;omega)) (by have:=HT2.out.2.2;have:=HM2.out.xlt;omega)
    ·(repeat (first | with_reducible exact KeptP.refl _ _ | with_reducible refine KeptP.set ?_ HPR.out _ _ | with_reducible refine KeptP.set ?_ HPX.out _ _ | with_reducible refine KeptP.drew ?_ | with_reducible refine KeptP.drewN ?_ _ | with_reducible refine KeptP.alloc ?_ _))
    ·(repeat (first | with_reducible exact HK23.out | with_reducible refine KeptP.set ?_ HPR.out _ _ | with_reducible refine KeptP.set ?_ HPX.out _ _ | with_reducible refine KeptP.drew ?_ | with_reducible refine KeptP.drewN ?_ _ | with_reducible refine KeptP.alloc ?_ _))
   ·refine(KeptP.ss (A:=_) ?_ (HM2.out.three HG3.out.2.2) HG3.out.2.1).mono (by have:=HG3.out.2.2;omega)
    (repeat (first | with_reducible exact KeptP.refl _ _ | with_reducible refine KeptP.set ?_ HPR.out _ _ | with_reducible refine KeptP.set ?_ HPX.out _ _ | with_reducible refine KeptP.drew ?_ | with_reducible refine KeptP.drewN ?_ _ | with_reducible refine KeptP.alloc ?_ _))
  ·have h1:=HM3.out.fd
   repeat (first | with_reducible exact h1 | with_reducible refine Fd.far ?_ hBX _ _ | with_reducible refine Fd.far ?_ hBR _ _ | with_reducible refine Fd.drew ?_ | with_reducible refine Fd.drewN ?_ _ | with_reducible refine Fd.alloc ?_ _)
  ·have h0:=HM3.out.gr
   repeat (first | with_reducible exact h0 | with_reducible refine zag ?_ hrx _ _ | with_reducible refine zag ?_ hrr _ _ | with_reducible refine zal ?_ | with_reducible refine zas ?_ _ | with_reducible refine zad ?_ _)
theorem tail_5t (D:Nat) (loop:Bool) (dv v t tag' left:Int) (X q0:Nat) (v0:0≤v) (v1:v≤255) (hv32:v % 32 < 16) (hdv:dv=(D:Int)+1) (hD:D≤9) (H:Deeper F B f D) (kk:Int) (hkk:kk=5∨kk=6):Tail F B f (D+1) kk loop dv v t tag' left X q0:=by
 rcases hkk with rfl | rfl
 all_goals
  intro w wc K K1 hK1' hK' HT HM0
  intros
  conv at hK1'=>intro a w';arg 1;arg 2;whnf
  conv at hK'=>intro a w';arg 1;arg 2;whnf
  conv=>arg 2;whnf
  obtain⟨HB,⟨x0,x1,x2,x3,x4,x5,x6⟩,yy,⟨r0,r1,r2,r3,r4,r5,r6⟩,zz,HXR,hXlt,hRlt,HBX,HPR,HPX,ne1,ne3,ne4,ne5⟩:=zbi HM0.out
  obtain⟨y0,y2,y3,y4,y5,y6,z0,z1,z2,z3,z4,z5,z6⟩:_∧_∧_∧_∧_∧_∧_∧_∧_∧_∧_∧_∧_:=⟨yy 0,yy 2,yy 3,yy 4,yy 5,yy 6,zz 0,zz 1,zz 2,zz 3,zz 4,zz 5,zz 6⟩
  clear yy zz
  have HD:=hid H
  clear H
  subst hdv
  have k8:IntKind.i64.wrap ((D:Int)+1 - 1)=D:=by rw[Int.add_sub_cancel];exact IntWalk.i64_in _ (by omega)
  have k7:IntKind.i64.wrap (D:Int)=D:=IntWalk.i64_in _ (by omega)
  obtain⟨r,hr⟩:∃r,v % 32=r:=⟨_,rfl⟩
  have hr':v.tmod 32=r:=by rw[Int.tmod_eq_emod_of_nonneg v0];exact hr
  rw[hr] at hv32
  have kd:decide (r < 16)=true:=by simp;omega
  go_wp2_with
   (first
    | (go_at_call 57;refine MidS.call_stmts (F:=F) (B:=B) (w:=w) (X:=X) (left:=left3) (tag:=tag3) (q:=q3) (c:=upd (upd (upd (st0 t) 0 (.int .i64 4)) 4 (.slice (some ⟨w2.heap.size,0,none⟩) 1 1)) 5 (.slice a l.length kc)) (e:=(D:Int)) (m':=2) HD.out 2 rfl (by decide) (by decide) (by have:=HB3.out;omega) loop ?_ ?_;(repeat (first | with_reducible exact HM3.out | with_reducible refine MidS.set ?_ (by decide) _ | with_reducible refine MidS.drew ?_ | with_reducible refine MidS.drewN ?_ _ | with_reducible refine MidS.alloc ?_ _));intro l2 a2 kc2 q4 left4 tag4 w4 hG4 hin4 hA4 hb4 hm4 hk4;have hX:w4.heap[X]?=some (.cells #[.int .i64 4,.int .i64 t,.string {data:=#[]},.string {data:=#[]},.slice (some ⟨w2.heap.size,0,none⟩) 1 1,.slice a l.length kc,.slice none 0 0] 66 (0,0)):=hm4.hX;have hR:=hm4.hR;obtain⟨x0,x1,x2,x3,x4,x5,x6⟩:=zaR hX;have y0:=zac (k:=0) hX;have y2:=zac (k:=2) hX;have y3:=zac (k:=3) hX;have y4:=zac (k:=4) hX;have y5:=zac (k:=5) hX;have y6:=zac (k:=6) hX;obtain⟨r0,r1,r2,r3,r4,r5,r6⟩:=zaR hR;have z0:=zac (k:=0) hR;have z1:=zac (k:=1) hR;have z2:=zac (k:=2) hR;have z3:=zac (k:=3) hR;have z4:=zac (k:=4) hR;have z5:=zac (k:=5) hR;have z6:=zac (k:=6) hR;have hXlt:X < w4.heap.size:=lt_of_block hX;have hRlt:w.heap.size < w4.heap.size:=lt_of_block hR;clear hX hR;have HROW:=hid ((hk4.block w2.heap.size (by have:=lt_of_block HROW.out;simpa using this) (HM2.out.three HM2.out.xlt _ (Nat.le_refl _))).trans ((KeptP.block (by repeat (first | with_reducible exact KeptP.refl _ _ | with_reducible refine KeptP.set ?_ HPR.out _ _ | with_reducible refine KeptP.set ?_ HPX.out _ _ | with_reducible refine KeptP.drew ?_ | with_reducible refine KeptP.drewN ?_ _ | with_reducible refine KeptP.alloc ?_ _)) w2.heap.size (lt_of_block HROW.out) (HM2.out.three HM2.out.xlt _ (Nat.le_refl _))).trans HROW.out));have hk34:KeptP (Three f w.heap.size X) w3 w4:=KeptP.trans (by repeat (first | with_reducible exact KeptP.refl _ _ | with_reducible refine KeptP.set ?_ HPR.out _ _ | with_reducible refine KeptP.set ?_ HPX.out _ _ | with_reducible refine KeptP.drew ?_ | with_reducible refine KeptP.drewN ?_ _ | with_reducible refine KeptP.alloc ?_ _)) hk4;have HK34:=hid hk34;have HK24:=hid (HK23.out.trans hk34);clear hk34;have HM4:=hid hm4;have HG4:=hid (And.intro hG4 (And.intro hin4 hA4));have HB4:=hid hb4;clear hm4 hk4 hG4 hin4 hA4 hb4)
    | (go_at_call 57;refine MidS.call_stmts (F:=F) (B:=B) (w:=w) (X:=X) (left:=left) (tag:=tag') (q:=q2) (c:=upd (upd (st0 t) 0 (.int .i64 4)) 4 (.slice (some ⟨w2.heap.size,0,none⟩) 1 1)) (e:=(D:Int)) (m':=3) HD.out 3 rfl (by decide) (by decide) (by have:=HT.out;omega) loop ?_ ?_;(repeat (first | with_reducible exact HM2.out | with_reducible refine MidS.set ?_ (by decide) _ | with_reducible refine MidS.drew ?_ | with_reducible refine MidS.drewN ?_ _ | with_reducible refine MidS.alloc ?_ _));intro l a kc q3 left3 tag3 w3 hG3 hin3 hA3 hb3 hm3 hk3;have hX:w3.heap[X]?=some (.cells #[.int .i64 4,.int .i64 t,.string {data:=#[]},.string {data:=#[]},.slice (some ⟨w2.heap.size,0,none⟩) 1 1,.slice none 0 0,.slice none 0 0] 66 (0,0)):=hm3.hX;have hR:=hm3.hR;obtain⟨x0,x1,x2,x3,x4,x5,x6⟩:=zaR hX;have y0:=zac (k:=0) hX;have y2:=zac (k:=2) hX;have y3:=zac (k:=3) hX;have y4:=zac (k:=4) hX;have y5:=zac (k:=5) hX;have y6:=zac (k:=6) hX;obtain⟨r0,r1,r2,r3,r4,r5,r6⟩:=zaR hR;have z0:=zac (k:=0) hR;have z1:=zac (k:=1) hR;have z2:=zac (k:=2) hR;have z3:=zac (k:=3) hR;have z4:=zac (k:=4) hR;have z5:=zac (k:=5) hR;have z6:=zac (k:=6) hR;have hXlt:X < w3.heap.size:=lt_of_block hX;have hRlt:w.heap.size < w3.heap.size:=lt_of_block hR;clear hX hR;have hrow:w3.heap[w2.heap.size]?=some (.cells (five T) 68 (0,0)):=(hk3.block w2.heap.size (by simp;try omega) (HM2.out.three HM2.out.xlt _ (Nat.le_refl _))).trans (zao _ (by simp));have HROW:=hid hrow;clear hrow;have hk23:KeptP (Three f w.heap.size X) w2 w3:=KeptP.trans (by repeat (first | with_reducible exact KeptP.refl _ _ | with_reducible refine KeptP.set ?_ HPR.out _ _ | with_reducible refine KeptP.set ?_ HPX.out _ _ | with_reducible refine KeptP.drew ?_ | with_reducible refine KeptP.drewN ?_ _ | with_reducible refine KeptP.alloc ?_ _)) hk3;have HK23:=hid hk23;clear hk23;have HM3:=hid hm3;have HG3:=hid (And.intro hG3 (And.intro hin3 hA3));have HB3:=hid hb3;clear hm3 hk3 hG3 hin3 hA3 hb3)
    | (go_at_call 134;refine MidS.call_expr (F:=F) (B:=B) (w:=w) (X:=X) (left:=left) (tag:=tag') (q:=q0) (c:=upd (st0 t) 0 (.int .i64 4)) (e:=2) 2 (by decide) (by decide) ?_ ?_;(repeat (first | with_reducible exact HM0.out | with_reducible refine MidS.set ?_ (by decide) _ | with_reducible refine MidS.drew ?_ | with_reducible refine MidS.drewN ?_ _ | with_reducible refine MidS.alloc ?_ _));intro T q2 w2 hT2 hin2 hA2 hm2 hk2;have hX:w2.heap[X]?=some (.cells #[.int .i64 4,.int .i64 t,.string {data:=#[]},.string {data:=#[]},.slice none 0 0,.slice none 0 0,.slice none 0 0] 66 (0,0)):=hm2.hX;have hR:=hm2.hR;obtain⟨x0,x1,x2,x3,x4,x5,x6⟩:=zaR hX;have y0:=zac (k:=0) hX;have y2:=zac (k:=2) hX;have y3:=zac (k:=3) hX;have y4:=zac (k:=4) hX;have y5:=zac (k:=5) hX;have y6:=zac (k:=6) hX;obtain⟨r0,r1,r2,r3,r4,r5,r6⟩:=zaR hR;have z0:=zac (k:=0) hR;have z1:=zac (k:=1) hR;have z2:=zac (k:=2) hR;have z3:=zac (k:=3) hR;have z4:=zac (k:=4) hR;have z5:=zac (k:=5) hR;have z6:=zac (k:=6) hR;have hXlt:X < w2.heap.size:=lt_of_block hX;have hRlt:w.heap.size < w2.heap.size:=lt_of_block hR;have HM2:=hid hm2;have HK2:=hid hk2;have HT2:=hid (And.intro hT2 (And.intro hin2 hA2));clear hX hR hm2 hk2 hT2 hin2 hA2))
  refine bodyPost_ret (v:=.agg #[.int .i64 4,.int .i64 t,.string {data:=#[]},.string {data:=#[]},.slice (some ⟨w2.heap.size,0,none⟩) 1 1,.slice a l.length kc,.slice a2 l2.length kc2]) (by simp[results,Tryz.results87,go_sem, *]) rfl ?_
  obtain⟨ht1,ht2⟩:=HT.out
  obtain⟨hBX,hBR⟩:=HBX.out
  have hXR:=HXR.out
  have hrr:w.heap.size≤w.heap.size:=Nat.le_refl _
  have hrx:w.heap.size≤X:=Nat.le_of_lt hXR
  refine⟨.mk 4 t mE mE (some ⟨w2.heap.size,0,none⟩) 1 [T] a kc l a2 kc2 l2,q4,left4,tag4,rfl,gs_ife ht1.1.1 (by omega) ht1.2 HT2.out.1 (by decide) HG3.out.1.1 HG3.out.1.2 HG4.out.1.1 HG4.out.1.2 _ _ _ _ _ _,?_,?_,?_,by have:=HB4.out;omega,by have:=HB4.out;omega,by have:=HB4.out;omega,by show left4+((nB (.ife _ _ (rss l) (rss l2)):Nat):Int)≤_;rw[nB];have:=HB4.out;have:=HB3.out;have:=HM2.out.lo;omega⟩
  ·rw[ST.In]
   have hlen:=HG3.out.1.2
   have hlen2:=HG4.out.1.2
   refine⟨by omega,⟨by simp,by omega,by omega⟩,?_,?_,?_⟩
   ·refine zbw ((KeptP.block (P:=Three f w.heap.size X) ?_ _ (lt_of_block HROW.out) (HM2.out.three HM2.out.xlt _ (Nat.le_refl _))).trans HROW.out) (KeptP.et (A:=_) ?_ (HM2.out.three HT2.out.2.2) HT2.out.2.1 |>.mono (by have:=HT2.out.2.2;omega)) (by have:=HT2.out.2.2;have:=HM2.out.xlt;omega)
    ·(repeat (first | with_reducible exact KeptP.refl _ _ | with_reducible refine KeptP.set ?_ HPR.out _ _ | with_reducible refine KeptP.set ?_ HPX.out _ _ | with_reducible refine KeptP.drew ?_ | with_reducible refine KeptP.drewN ?_ _ | with_reducible refine KeptP.alloc ?_ _))
    ·(repeat (first | with_reducible exact HK24.out | with_reducible refine KeptP.set ?_ HPR.out _ _ | with_reducible refine KeptP.set ?_ HPX.out _ _ | with_reducible refine KeptP.drew ?_ | with_reducible refine KeptP.drewN ?_ _ | with_reducible refine KeptP.alloc ?_ _))
   ·refine(KeptP.ss (A:=_) ?_ (HM2.out.three HG3.out.2.2) HG3.out.2.1).mono (by have:=HG3.out.2.2;omega)
    (repeat (first | with_reducible exact HK34.out | with_reducible refine KeptP.set ?_ HPR.out _ _ | with_reducible refine KeptP.set ?_ HPX.out _ _ | with_reducible refine KeptP.drew ?_ | with_reducible refine KeptP.drewN ?_ _ | with_reducible refine KeptP.alloc ?_ _))
   ·refine(KeptP.ss (A:=_) ?_ (HM2.out.three HG4.out.2.2) HG4.out.2.1).mono (by have:=HG4.out.2.2;omega)
    (repeat (first | with_reducible exact KeptP.refl _ _ | with_reducible refine KeptP.set ?_ HPR.out _ _ | with_reducible refine KeptP.set ?_ HPX.out _ _ | with_reducible refine KeptP.drew ?_ | with_reducible refine KeptP.drewN ?_ _ | with_reducible refine KeptP.alloc ?_ _))
  ·have h1:=HM4.out.fd
   repeat (first | with_reducible exact h1 | with_reducible refine Fd.far ?_ hBX _ _ | with_reducible refine Fd.far ?_ hBR _ _ | with_reducible refine Fd.drew ?_ | with_reducible refine Fd.drewN ?_ _ | with_reducible refine Fd.alloc ?_ _)
  ·have h0:=HM4.out.gr
   repeat (first | with_reducible exact h0 | with_reducible refine zag ?_ hrx _ _ | with_reducible refine zag ?_ hrr _ _ | with_reducible refine zal ?_ | with_reducible refine zas ?_ _ | with_reducible refine zad ?_ _)
theorem tail_5f (D:Nat) (loop:Bool) (dv v t tag' left:Int) (X q0:Nat) (v0:0≤v) (v1:v≤255) (hv32:¬v % 32 < 16) (hdv:dv=(D:Int)+1) (hD:D≤9) (H:Deeper F B f D) (kk:Int) (hkk:kk=5∨kk=6):Tail F B f (D+1) kk loop dv v t tag' left X q0:=by
 rcases hkk with rfl | rfl
 all_goals
  intro w wc K K1 hK1' hK' HT HM0
  intros
  conv at hK1'=>intro a w';arg 1;arg 2;whnf
  conv at hK'=>intro a w';arg 1;arg 2;whnf
  conv=>arg 2;whnf
  obtain⟨HB,⟨x0,x1,x2,x3,x4,x5,x6⟩,yy,⟨r0,r1,r2,r3,r4,r5,r6⟩,zz,HXR,hXlt,hRlt,HBX,HPR,HPX,ne1,ne3,ne4,ne5⟩:=zbi HM0.out
  obtain⟨y0,y2,y3,y4,y5,y6,z0,z1,z2,z3,z4,z5,z6⟩:_∧_∧_∧_∧_∧_∧_∧_∧_∧_∧_∧_∧_:=⟨yy 0,yy 2,yy 3,yy 4,yy 5,yy 6,zz 0,zz 1,zz 2,zz 3,zz 4,zz 5,zz 6⟩
  clear yy zz
  have HD:=hid H
  clear H
  subst hdv
  have k8:IntKind.i64.wrap ((D:Int)+1 - 1)=D:=by rw[Int.add_sub_cancel];exact IntWalk.i64_in _ (by omega)
  have k7:IntKind.i64.wrap (D:Int)=D:=IntWalk.i64_in _ (by omega)
  obtain⟨r,hr⟩:∃r,v % 32=r:=⟨_,rfl⟩
  have hr':v.tmod 32=r:=by rw[Int.tmod_eq_emod_of_nonneg v0];exact hr
  rw[hr] at hv32
  have kd:decide (r < 16)=false:=by simp;omega
  go_wp2_with
   (first
    | (go_at_call 57;refine MidS.call_stmts (F:=F) (B:=B) (w:=w) (X:=X) (left:=left) (tag:=tag') (q:=q2) (c:=upd (upd (st0 t) 0 (.int .i64 4)) 4 (.slice (some ⟨w2.heap.size,0,none⟩) 1 1)) (e:=(D:Int)) (m':=3) HD.out 3 rfl (by decide) (by decide) (by have:=HT.out;omega) loop ?_ ?_;(repeat (first | with_reducible exact HM2.out | with_reducible refine MidS.set ?_ (by decide) _ | with_reducible refine MidS.drew ?_ | with_reducible refine MidS.drewN ?_ _ | with_reducible refine MidS.alloc ?_ _));intro l a kc q3 left3 tag3 w3 hG3 hin3 hA3 hb3 hm3 hk3;have hX:w3.heap[X]?=some (.cells #[.int .i64 4,.int .i64 t,.string {data:=#[]},.string {data:=#[]},.slice (some ⟨w2.heap.size,0,none⟩) 1 1,.slice none 0 0,.slice none 0 0] 66 (0,0)):=hm3.hX;have hR:=hm3.hR;obtain⟨x0,x1,x2,x3,x4,x5,x6⟩:=zaR hX;have y0:=zac (k:=0) hX;have y2:=zac (k:=2) hX;have y3:=zac (k:=3) hX;have y4:=zac (k:=4) hX;have y5:=zac (k:=5) hX;have y6:=zac (k:=6) hX;obtain⟨r0,r1,r2,r3,r4,r5,r6⟩:=zaR hR;have z0:=zac (k:=0) hR;have z1:=zac (k:=1) hR;have z2:=zac (k:=2) hR;have z3:=zac (k:=3) hR;have z4:=zac (k:=4) hR;have z5:=zac (k:=5) hR;have z6:=zac (k:=6) hR;have hXlt:X < w3.heap.size:=lt_of_block hX;have hRlt:w.heap.size < w3.heap.size:=lt_of_block hR;clear hX hR;have hrow:w3.heap[w2.heap.size]?=some (.cells (five T) 68 (0,0)):=(hk3.block w2.heap.size (by simp;try omega) (HM2.out.three HM2.out.xlt _ (Nat.le_refl _))).trans (zao _ (by simp));have HROW:=hid hrow;clear hrow;have hk23:KeptP (Three f w.heap.size X) w2 w3:=KeptP.trans (by repeat (first | with_reducible exact KeptP.refl _ _ | with_reducible refine KeptP.set ?_ HPR.out _ _ | with_reducible refine KeptP.set ?_ HPX.out _ _ | with_reducible refine KeptP.drew ?_ | with_reducible refine KeptP.drewN ?_ _ | with_reducible refine KeptP.alloc ?_ _)) hk3;have HK23:=hid hk23;clear hk23;have HM3:=hid hm3;have HG3:=hid (And.intro hG3 (And.intro hin3 hA3));have HB3:=hid hb3;clear hm3 hk3 hG3 hin3 hA3 hb3)
    | (go_at_call 134;refine MidS.call_expr (F:=F) (B:=B) (w:=w) (X:=X) (left:=left) (tag:=tag') (q:=q0) (c:=upd (st0 t) 0 (.int .i64 4)) (e:=2) 2 (by decide) (by decide) ?_ ?_;(repeat (first | with_reducible exact HM0.out | with_reducible refine MidS.set ?_ (by decide) _ | with_reducible refine MidS.drew ?_ | with_reducible refine MidS.drewN ?_ _ | with_reducible refine MidS.alloc ?_ _));intro T q2 w2 hT2 hin2 hA2 hm2 hk2;have hX:w2.heap[X]?=some (.cells #[.int .i64 4,.int .i64 t,.string {data:=#[]},.string {data:=#[]},.slice none 0 0,.slice none 0 0,.slice none 0 0] 66 (0,0)):=hm2.hX;have hR:=hm2.hR;obtain⟨x0,x1,x2,x3,x4,x5,x6⟩:=zaR hX;have y0:=zac (k:=0) hX;have y2:=zac (k:=2) hX;have y3:=zac (k:=3) hX;have y4:=zac (k:=4) hX;have y5:=zac (k:=5) hX;have y6:=zac (k:=6) hX;obtain⟨r0,r1,r2,r3,r4,r5,r6⟩:=zaR hR;have z0:=zac (k:=0) hR;have z1:=zac (k:=1) hR;have z2:=zac (k:=2) hR;have z3:=zac (k:=3) hR;have z4:=zac (k:=4) hR;have z5:=zac (k:=5) hR;have z6:=zac (k:=6) hR;have hXlt:X < w2.heap.size:=lt_of_block hX;have hRlt:w.heap.size < w2.heap.size:=lt_of_block hR;have HM2:=hid hm2;have HK2:=hid hk2;have HT2:=hid (And.intro hT2 (And.intro hin2 hA2));clear hX hR hm2 hk2 hT2 hin2 hA2))
  refine bodyPost_ret (v:=.agg #[.int .i64 4,.int .i64 t,.string {data:=#[]},.string {data:=#[]},.slice (some ⟨w2.heap.size,0,none⟩) 1 1,.slice a l.length kc,.slice none 0 0]) (by simp[results,Tryz.results87,go_sem, *]) rfl ?_
  obtain⟨ht1,ht2⟩:=HT.out
  obtain⟨hBX,hBR⟩:=HBX.out
  have hXR:=HXR.out
  have hrr:w.heap.size≤w.heap.size:=Nat.le_refl _
  have hrx:w.heap.size≤X:=Nat.le_of_lt hXR
  refine⟨.mk 4 t mE mE (some ⟨w2.heap.size,0,none⟩) 1 [T] a kc l none 0 [],q3,left3,tag3,rfl,gs_ife ht1.1.1 (by omega) ht1.2 HT2.out.1 (by decide) HG3.out.1.1 HG3.out.1.2 (gl_nil _) (by decide) _ _ _ _ _ _,?_,?_,?_,by have:=HB3.out;omega,by have:=HB3.out;omega,by have:=HB3.out;omega,by show left3+((nB (.ife _ _ (rss l) (rss [])):Nat):Int)≤_;rw[nB,rss,nSs];have:=HB3.out;have:=HM2.out.lo;omega⟩
  ·rw[ST.In]
   have hlen:=HG3.out.1.2
   refine⟨by omega,⟨by simp,by omega,by simp⟩,?_,?_,by rw[SsIn];trivial⟩
   ·refine zbw ((KeptP.block (P:=Three f w.heap.size X) ?_ _ (lt_of_block HROW.out) (HM2.out.three HM2.out.xlt _ (Nat.le_refl _))).trans HROW.out) (KeptP.et (A:=_) ?_ (HM2.out.three HT2.out.2.2) HT2.out.2.1 |>.mono (by have:=HT2.out.2.2;omega)) (by have:=HT2.out.2.2;have:=HM2.out.xlt;omega)
    ·(repeat (first | with_reducible exact KeptP.refl _ _ | with_reducible refine KeptP.set ?_ HPR.out _ _ | with_reducible refine KeptP.set ?_ HPX.out _ _ | with_reducible refine KeptP.drew ?_ | with_reducible refine KeptP.drewN ?_ _ | with_reducible refine KeptP.alloc ?_ _))
    ·(repeat (first | with_reducible exact HK23.out | with_reducible refine KeptP.set ?_ HPR.out _ _ | with_reducible refine KeptP.set ?_ HPX.out _ _ | with_reducible refine KeptP.drew ?_ | with_reducible refine KeptP.drewN ?_ _ | with_reducible refine KeptP.alloc ?_ _))
   ·refine(KeptP.ss (A:=_) ?_ (HM2.out.three HG3.out.2.2) HG3.out.2.1).mono (by have:=HG3.out.2.2;omega)
    (repeat (first | with_reducible exact KeptP.refl _ _ | with_reducible refine KeptP.set ?_ HPR.out _ _ | with_reducible refine KeptP.set ?_ HPX.out _ _ | with_reducible refine KeptP.drew ?_ | with_reducible refine KeptP.drewN ?_ _ | with_reducible refine KeptP.alloc ?_ _))
  ·have h1:=HM3.out.fd
   repeat (first | with_reducible exact h1 | with_reducible refine Fd.far ?_ hBX _ _ | with_reducible refine Fd.far ?_ hBR _ _ | with_reducible refine Fd.drew ?_ | with_reducible refine Fd.drewN ?_ _ | with_reducible refine Fd.alloc ?_ _)
  ·have h0:=HM3.out.gr
   repeat (first | with_reducible exact h0 | with_reducible refine zag ?_ hrx _ _ | with_reducible refine zag ?_ hrr _ _ | with_reducible refine zal ?_ | with_reducible refine zas ?_ _ | with_reducible refine zad ?_ _)
end
end Go.Proofs.YtljbbhhiiiepcaaGreatDoor
