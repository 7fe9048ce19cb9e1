/- A statement of the feed that sets a number. -/
import Derived.Test.YtljbbhhiiiepcaaGreatDoorTFeedS
import Derived.Deep.AppendLies
import Derived.OwnWalk
import Derived.Deep.RegionLaw
set_option linter.unusedSimpArgs false
set_option linter.unusedVariables false
set_option maxHeartbeats 8000000
set_option maxRecDepth 100000
namespace Go.Proofs.YtljbbhhiiiepcaaGreatDoor
open Go Go.RowKit
open Go.Lib (hid)
section
variable {F:FeedC} {B f:Nat}
theorem tail_0 (D:Nat) (loop:Bool) (dv v t tag' left:Int) (X q0:Nat) (v0:0≤v) (v1:v≤255) (kk:Int) (hkk:kk=0∨kk=1∨kk=14∨kk=15):Tail F B f D kk loop dv v t tag' left X q0:=by
 rcases hkk with rfl | rfl | rfl | rfl
 all_goals
  intro w wc K K1 hK1' hK' HT HM0
  intros
  conv at hK1'=>intro a w';arg 1;arg 2;whnf
  conv at hK'=>intro a w';arg 1;arg 2;whnf
  conv=>arg 2;whnf
  obtain⟨HB,⟨x0,x1,x2,x3,x4,x5,x6⟩,yy,⟨r0,r1,r2,r3,r4,r5,r6⟩,zz,HXR,hXlt,hRlt,HBX,HPR,HPX,ne1,ne3,ne4,ne5⟩:=zbi HM0.out
  obtain⟨y0,y2,y3,y4,y5,y6,z0,z1,z2,z3,z4,z5,z6⟩:_∧_∧_∧_∧_∧_∧_∧_∧_∧_∧_∧_∧_:=⟨yy 0,yy 2,yy 3,yy 4,yy 5,yy 6,zz 0,zz 1,zz 2,zz 3,zz 4,zz 5,zz 6⟩
  clear yy zz
  obtain⟨k,n,s,hn0,hn1,hn2,hkk,hvv,hs,hnm,hc⟩:=zb1 HM0.out.fd.ints v0
  have c2:=HM0.out.fd.c2
  rw[hn0] at c2
  have HS:=hid hnm
  have neA:¬X=F.ia:=by have:=HM0.out.fd.ints.1;have:=HBX.out;omega
  have neB:¬w.heap.size=F.ia:=by have:=HM0.out.fd.ints.1;have:=HBX.out;omega
  clear hn0 hs hnm
  have t1:(v.tdiv 16).tmod n=k:=by rw[←hvv,Int.tdiv_eq_ediv_of_nonneg v0,Int.tmod_eq_emod_of_nonneg (by omega)]
  have t2:(v / 16).tmod n=k:=by rw[←hvv,Int.tmod_eq_emod_of_nonneg (by omega)]
  have n0:((n:Int)==0)=false:=by simp;omega
  have u1:IntKind.i64.wrap (v.tdiv 16)=v / 16:=by rw[Int.tdiv_eq_ediv_of_nonneg v0];exact IntWalk.i64_in _ (by omega)
  have u3:(IntKind.i64.wrap (v.tdiv 16)).tmod n=k:=by rw[u1];exact t2
  have u4:IntKind.i64.wrap (v / 16)=v / 16:=IntWalk.i64_in _ (by omega)
  have n3:(n==0)=false:=by simp;omega
  have n4:¬n=0:=by omega
  have n5:(0:Int) < n:=by omega
  have k0:(0:Int)≤k:=by omega
  have k1:(k:Int) < n:=by omega
  go_wp2
  go_region_held3 (fun w'=>w'.cell? ⟨f,2,none⟩=some (.slice (some ⟨F.ia,0,none⟩) n n)∧w'.cell? ⟨F.ia,k,none⟩=some (.string s)) (go_keep) (fail)
  go_wp2_with (go_at_call 134;refine MidS.call_expr (F:=F) (B:=B) (w:=w) (X:=X) (left:=left) (tag:=tag') (q:=q0) (c:=upd (st0 t) 2 (.string s)) (e:=2) 2 (by decide) (by decide) ?_ ?_;(repeat (first | with_reducible exact HM0.out | with_reducible refine MidS.set ?_ (by decide) _ | with_reducible refine MidS.drew ?_ | with_reducible refine MidS.drewN ?_ _ | with_reducible refine MidS.alloc ?_ _));intro T q2 w2 hT2 hin2 hA2 hm2 hk2;have hX:w2.heap[X]?=some (.cells #[.int .i64 0,.int .i64 t,.string s,.string {data:=#[]},.slice none 0 0,.slice none 0 0,.slice none 0 0] 66 (0,0)):=hm2.hX;have hR:=hm2.hR;obtain⟨x0,x1,x2,x3,x4,x5,x6⟩:=zaR hX;have y0:=zac (k:=0) hX;have y2:=zac (k:=2) hX;have y3:=zac (k:=3) hX;have y4:=zac (k:=4) hX;have y5:=zac (k:=5) hX;have y6:=zac (k:=6) hX;obtain⟨r0,r1,r2,r3,r4,r5,r6⟩:=zaR hR;have z0:=zac (k:=0) hR;have z1:=zac (k:=1) hR;have z2:=zac (k:=2) hR;have z3:=zac (k:=3) hR;have z4:=zac (k:=4) hR;have z5:=zac (k:=5) hR;have z6:=zac (k:=6) hR;have hXlt:X < w2.heap.size:=lt_of_block hX;have hRlt:w.heap.size < w2.heap.size:=lt_of_block hR;have HM2:=hid hm2;have HK2:=hid hk2;have HT2:=hid (And.intro hT2 (And.intro hin2 hA2));clear hX hR hm2 hk2 hT2 hin2 hA2)
  refine bodyPost_ret (v:=.agg #[.int .i64 0,.int .i64 t,.string s,.string {data:=#[]},.slice (some ⟨w2.heap.size,0,none⟩) 1 1,.slice none 0 0,.slice none 0 0]) (by simp[results,Tryz.results87,go_sem, *]) rfl ?_
  obtain⟨ht1,ht2⟩:=HT.out
  obtain⟨hBX,hBR⟩:=HBX.out
  have hXR:=HXR.out
  have hrr:w.heap.size≤w.heap.size:=Nat.le_refl _
  have hrx:w.heap.size≤X:=Nat.le_of_lt hXR
  refine⟨.mk 0 t s mE (some ⟨w2.heap.size,0,none⟩) 1 [T] none 0 [] none 0 [],q2,left,tag',rfl,gs_asg ht1.1.1 (by omega) _ ht1.2 HS.out.1 HS.out.2 HT2.out.1 (by decide) _ _ _ _ _ _,?_,?_,?_,by omega,by omega,by omega,(by first | exact zaS HM4.out.lo (by rfl) | exact zaS HM3.out.lo (by rfl) | exact zaS HM2.out.lo (by rfl) | exact zaS HM0.out.lo (by rfl))⟩
  ·rw[ST.In]
   refine⟨by omega,by simp,?_,by rw[SsIn];trivial,by rw[SsIn];trivial⟩
   refine zbw (zao _ (by simp)) (KeptP.et (A:=_) ?_ (HM2.out.three HT2.out.2.2) HT2.out.2.1 |>.mono (by have:=HT2.out.2.2;omega)) (by have:=HT2.out.2.2;omega)
   (repeat (first | with_reducible exact KeptP.refl _ _ | with_reducible refine KeptP.set ?_ HPR.out _ _ | with_reducible refine KeptP.set ?_ HPX.out _ _ | with_reducible refine KeptP.drew ?_ | with_reducible refine KeptP.drewN ?_ _ | with_reducible refine KeptP.alloc ?_ _))
  ·have h1:=HM2.out.fd
   repeat (first | with_reducible exact h1 | with_reducible refine Fd.far ?_ hBX _ _ | with_reducible refine Fd.far ?_ hBR _ _ | with_reducible refine Fd.drew ?_ | with_reducible refine Fd.drewN ?_ _ | with_reducible refine Fd.alloc ?_ _)
  ·have h0:=HM2.out.gr
   repeat (first | with_reducible exact h0 | with_reducible refine zag ?_ hrx _ _ | with_reducible refine zag ?_ hrr _ _ | with_reducible refine zal ?_ | with_reducible refine zas ?_ _ | with_reducible refine zad ?_ _)
end
end Go.Proofs.YtljbbhhiiiepcaaGreatDoor
namespace Go.Proofs.YtljbbhhiiiepcaaGreatDoor
open Go Go.RowKit
open Go.Lib (hid)
section
variable {F:FeedC} {B f:Nat}
theorem tail_4 (D:Nat) (loop:Bool) (dv v t tag' left:Int) (X q0:Nat) (v0:0≤v) (v1:v≤255):Tail F B f D 4 loop dv v t tag' left X q0:=by
 intro w wc K K1 hK1' hK' HT HM0
 intros
 conv at hK1'=>intro a w';arg 1;arg 2;whnf
 conv at hK'=>intro a w';arg 1;arg 2;whnf
 conv=>arg 2;whnf
 obtain⟨HB,⟨x0,x1,x2,x3,x4,x5,x6⟩,yy,⟨r0,r1,r2,r3,r4,r5,r6⟩,zz,HXR,hXlt,hRlt,HBX,HPR,HPX,ne1,ne3,ne4,ne5⟩:=zbi HM0.out
 obtain⟨y0,y2,y3,y4,y5,y6,z0,z1,z2,z3,z4,z5,z6⟩:_∧_∧_∧_∧_∧_∧_∧_∧_∧_∧_∧_∧_:=⟨yy 0,yy 2,yy 3,yy 4,yy 5,yy 6,zz 0,zz 1,zz 2,zz 3,zz 4,zz 5,zz 6⟩
 clear yy zz
 obtain⟨k,n,s,hn0,hn1,hn2,hkk,hvv,hs,hnm,hc⟩:=zb1 HM0.out.fd.ints v0
 have c2:=HM0.out.fd.c2
 rw[hn0] at c2
 have HS:=hid hnm
 have neA:¬X=F.ia:=by have:=HM0.out.fd.ints.1;have:=HBX.out;omega
 have neB:¬w.heap.size=F.ia:=by have:=HM0.out.fd.ints.1;have:=HBX.out;omega
 clear hn0 hs hnm
 have t1:(v.tdiv 16).tmod n=k:=by rw[←hvv,Int.tdiv_eq_ediv_of_nonneg v0,Int.tmod_eq_emod_of_nonneg (by omega)]
 have t2:(v / 16).tmod n=k:=by rw[←hvv,Int.tmod_eq_emod_of_nonneg (by omega)]
 have n0:((n:Int)==0)=false:=by simp;omega
 have u1:IntKind.i64.wrap (v.tdiv 16)=v / 16:=by rw[Int.tdiv_eq_ediv_of_nonneg v0];exact IntWalk.i64_in _ (by omega)
 have u3:(IntKind.i64.wrap (v.tdiv 16)).tmod n=k:=by rw[u1];exact t2
 have u4:IntKind.i64.wrap (v / 16)=v / 16:=IntWalk.i64_in _ (by omega)
 have n3:(n==0)=false:=by simp;omega
 have n4:¬n=0:=by omega
 have n5:(0:Int) < n:=by omega
 have k0:(0:Int)≤k:=by omega
 have k1:(k:Int) < n:=by omega
 go_wp2
 go_region_held3 (fun w'=>w'.cell? ⟨f,2,none⟩=some (.slice (some ⟨F.ia,0,none⟩) n n)∧w'.cell? ⟨F.ia,k,none⟩=some (.string s)) (go_keep) (fail)
 go_wp2
 refine bodyPost_ret (v:=.agg #[.int .i64 2,.int .i64 t,.string s,.string {data:=#[]},.slice none 0 0,.slice none 0 0,.slice none 0 0]) (by simp[results,Tryz.results87,go_sem, *]) rfl ?_
 obtain⟨ht1,ht2⟩:=HT.out
 obtain⟨hBX,hBR⟩:=HBX.out
 have hXR:=HXR.out
 have hrr:w.heap.size≤w.heap.size:=Nat.le_refl _
 have hrx:w.heap.size≤X:=Nat.le_of_lt hXR
 refine⟨.mk 2 t s mE none 0 [] none 0 [] none 0 [],q0,left,tag',rfl,gs_rd ht1.1.1 (by omega) _ ht1.2 HS.out.1 HS.out.2 _ _ _ _ _ _,?_,?_,?_,by omega,by omega,by omega,(by first | exact zaS HM4.out.lo (by rfl) | exact zaS HM3.out.lo (by rfl) | exact zaS HM2.out.lo (by rfl) | exact zaS HM0.out.lo (by rfl))⟩
 ·rw[ST.In]
  exact⟨by omega,by simp,by rw[EsIn];trivial,by rw[SsIn];trivial,by rw[SsIn];trivial⟩
 ·have h1:=HM0.out.fd
  repeat (first | with_reducible exact h1 | with_reducible refine Fd.far ?_ hBX _ _ | with_reducible refine Fd.far ?_ hBR _ _ | with_reducible refine Fd.drew ?_ | with_reducible refine Fd.drewN ?_ _ | with_reducible refine Fd.alloc ?_ _)
 ·have h0:=HM0.out.gr
  repeat (first | with_reducible exact h0 | with_reducible refine zag ?_ hrx _ _ | with_reducible refine zag ?_ hrr _ _ | with_reducible refine zal ?_ | with_reducible refine zas ?_ _ | with_reducible refine zad ?_ _)
theorem tail_10 (D:Nat) (loop:Bool) (dv v t tag' left:Int) (X q0:Nat) (v0:0≤v) (v1:v≤255) (hlp:Hid (loop=true)):Tail F B f D 10 loop dv v t tag' left X q0:=by
 intro w wc K K1 hK1' hK' HT HM0
 intros
 conv at hK1'=>intro a w';arg 1;arg 2;whnf
 conv at hK'=>intro a w';arg 1;arg 2;whnf
 conv=>arg 2;whnf
 obtain⟨HB,⟨x0,x1,x2,x3,x4,x5,x6⟩,yy,⟨r0,r1,r2,r3,r4,r5,r6⟩,zz,HXR,hXlt,hRlt,HBX,HPR,HPX,ne1,ne3,ne4,ne5⟩:=zbi HM0.out
 obtain⟨y0,y2,y3,y4,y5,y6,z0,z1,z2,z3,z4,z5,z6⟩:_∧_∧_∧_∧_∧_∧_∧_∧_∧_∧_∧_∧_:=⟨yy 0,yy 2,yy 3,yy 4,yy 5,yy 6,zz 0,zz 1,zz 2,zz 3,zz 4,zz 5,zz 6⟩
 clear yy zz
 go_wp2
 refine bodyPost_ret (v:=.agg #[.int .i64 6,.int .i64 t,.string {data:=#[]},.string {data:=#[]},.slice none 0 0,.slice none 0 0,.slice none 0 0]) (by simp[results,Tryz.results87,go_sem, *]) rfl ?_
 obtain⟨ht1,ht2⟩:=HT.out
 obtain⟨hBX,hBR⟩:=HBX.out
 have hXR:=HXR.out
 have hrr:w.heap.size≤w.heap.size:=Nat.le_refl _
 have hrx:w.heap.size≤X:=Nat.le_of_lt hXR
 refine⟨.mk 6 t mE mE none 0 [] none 0 [] none 0 [],q0,left,tag',rfl,gs_brk ht1.1.1 (by omega) _ ht1.2 hlp.out _ _ _ _ _ _,?_,?_,?_,by omega,by omega,by omega,(by first | exact zaS HM4.out.lo (by rfl) | exact zaS HM3.out.lo (by rfl) | exact zaS HM2.out.lo (by rfl) | exact zaS HM0.out.lo (by rfl))⟩
 ·rw[ST.In]
  exact⟨by omega,by simp,by rw[EsIn];trivial,by rw[SsIn];trivial,by rw[SsIn];trivial⟩
 ·have h1:=HM0.out.fd
  repeat (first | with_reducible exact h1 | with_reducible refine Fd.far ?_ hBX _ _ | with_reducible refine Fd.far ?_ hBR _ _ | with_reducible refine Fd.drew ?_ | with_reducible refine Fd.drewN ?_ _ | with_reducible refine Fd.alloc ?_ _)
 ·have h0:=HM0.out.gr
  repeat (first | with_reducible exact h0 | with_reducible refine zag ?_ hrx _ _ | with_reducible refine zag ?_ hrr _ _ | with_reducible refine zal ?_ | with_reducible refine zas ?_ _ | with_reducible refine zad ?_ _)
theorem tail_11 (D:Nat) (loop:Bool) (dv v t tag' left:Int) (X q0:Nat) (v0:0≤v) (v1:v≤255) (hlp:Hid (loop=true)):Tail F B f D 11 loop dv v t tag' left X q0:=by
 intro w wc K K1 hK1' hK' HT HM0
 intros
 conv at hK1'=>intro a w';arg 1;arg 2;whnf
 conv at hK'=>intro a w';arg 1;arg 2;whnf
 conv=>arg 2;whnf
 obtain⟨HB,⟨x0,x1,x2,x3,x4,x5,x6⟩,yy,⟨r0,r1,r2,r3,r4,r5,r6⟩,zz,HXR,hXlt,hRlt,HBX,HPR,HPX,ne1,ne3,ne4,ne5⟩:=zbi HM0.out
 obtain⟨y0,y2,y3,y4,y5,y6,z0,z1,z2,z3,z4,z5,z6⟩:_∧_∧_∧_∧_∧_∧_∧_∧_∧_∧_∧_∧_:=⟨yy 0,yy 2,yy 3,yy 4,yy 5,yy 6,zz 0,zz 1,zz 2,zz 3,zz 4,zz 5,zz 6⟩
 clear yy zz
 go_wp2
 refine bodyPost_ret (v:=.agg #[.int .i64 7,.int .i64 t,.string {data:=#[]},.string {data:=#[]},.slice none 0 0,.slice none 0 0,.slice none 0 0]) (by simp[results,Tryz.results87,go_sem, *]) rfl ?_
 obtain⟨ht1,ht2⟩:=HT.out
 obtain⟨hBX,hBR⟩:=HBX.out
 have hXR:=HXR.out
 have hrr:w.heap.size≤w.heap.size:=Nat.le_refl _
 have hrx:w.heap.size≤X:=Nat.le_of_lt hXR
 refine⟨.mk 7 t mE mE none 0 [] none 0 [] none 0 [],q0,left,tag',rfl,gs_cnt ht1.1.1 (by omega) _ ht1.2 hlp.out _ _ _ _ _ _,?_,?_,?_,by omega,by omega,by omega,(by first | exact zaS HM4.out.lo (by rfl) | exact zaS HM3.out.lo (by rfl) | exact zaS HM2.out.lo (by rfl) | exact zaS HM0.out.lo (by rfl))⟩
 ·rw[ST.In]
  exact⟨by omega,by simp,by rw[EsIn];trivial,by rw[SsIn];trivial,by rw[SsIn];trivial⟩
 ·have h1:=HM0.out.fd
  repeat (first | with_reducible exact h1 | with_reducible refine Fd.far ?_ hBX _ _ | with_reducible refine Fd.far ?_ hBR _ _ | with_reducible refine Fd.drew ?_ | with_reducible refine Fd.drewN ?_ _ | with_reducible refine Fd.alloc ?_ _)
 ·have h0:=HM0.out.gr
  repeat (first | with_reducible exact h0 | with_reducible refine zag ?_ hrx _ _ | with_reducible refine zag ?_ hrr _ _ | with_reducible refine zal ?_ | with_reducible refine zas ?_ _ | with_reducible refine zad ?_ _)
theorem tail_12 (D:Nat) (loop:Bool) (dv v t tag' left:Int) (X q0:Nat) (v0:0≤v) (v1:v≤255):Tail F B f D 12 loop dv v t tag' left X q0:=by
 intro w wc K K1 hK1' hK' HT HM0
 intros
 conv at hK1'=>intro a w';arg 1;arg 2;whnf
 conv at hK'=>intro a w';arg 1;arg 2;whnf
 conv=>arg 2;whnf
 obtain⟨HB,⟨x0,x1,x2,x3,x4,x5,x6⟩,yy,⟨r0,r1,r2,r3,r4,r5,r6⟩,zz,HXR,hXlt,hRlt,HBX,HPR,HPX,ne1,ne3,ne4,ne5⟩:=zbi HM0.out
 obtain⟨y0,y2,y3,y4,y5,y6,z0,z1,z2,z3,z4,z5,z6⟩:_∧_∧_∧_∧_∧_∧_∧_∧_∧_∧_∧_∧_:=⟨yy 0,yy 2,yy 3,yy 4,yy 5,yy 6,zz 0,zz 1,zz 2,zz 3,zz 4,zz 5,zz 6⟩
 clear yy zz
 go_wp2_with (go_at_call 134;refine MidS.call_expr (F:=F) (B:=B) (w:=w) (X:=X) (left:=left) (tag:=tag') (q:=q0) (c:=upd (st0 t) 0 (.int .i64 9)) (e:=2) 2 (by decide) (by decide) ?_ ?_;(repeat (first | with_reducible exact HM0.out | with_reducible refine MidS.set ?_ (by decide) _ | with_reducible refine MidS.drew ?_ | with_reducible refine MidS.drewN ?_ _ | with_reducible refine MidS.alloc ?_ _));intro T q2 w2 hT2 hin2 hA2 hm2 hk2;have hX:w2.heap[X]?=some (.cells #[.int .i64 9,.int .i64 t,.string {data:=#[]},.string {data:=#[]},.slice none 0 0,.slice none 0 0,.slice none 0 0] 66 (0,0)):=hm2.hX;have hR:=hm2.hR;obtain⟨x0,x1,x2,x3,x4,x5,x6⟩:=zaR hX;have y0:=zac (k:=0) hX;have y2:=zac (k:=2) hX;have y3:=zac (k:=3) hX;have y4:=zac (k:=4) hX;have y5:=zac (k:=5) hX;have y6:=zac (k:=6) hX;obtain⟨r0,r1,r2,r3,r4,r5,r6⟩:=zaR hR;have z0:=zac (k:=0) hR;have z1:=zac (k:=1) hR;have z2:=zac (k:=2) hR;have z3:=zac (k:=3) hR;have z4:=zac (k:=4) hR;have z5:=zac (k:=5) hR;have z6:=zac (k:=6) hR;have hXlt:X < w2.heap.size:=lt_of_block hX;have hRlt:w.heap.size < w2.heap.size:=lt_of_block hR;have HM2:=hid hm2;have HK2:=hid hk2;have HT2:=hid (And.intro hT2 (And.intro hin2 hA2));clear hX hR hm2 hk2 hT2 hin2 hA2)
 refine bodyPost_ret (v:=.agg #[.int .i64 9,.int .i64 t,.string {data:=#[]},.string {data:=#[]},.slice (some ⟨w2.heap.size,0,none⟩) 1 1,.slice none 0 0,.slice none 0 0]) (by simp[results,Tryz.results87,go_sem, *]) rfl ?_
 obtain⟨ht1,ht2⟩:=HT.out
 obtain⟨hBX,hBR⟩:=HBX.out
 have hXR:=HXR.out
 have hrr:w.heap.size≤w.heap.size:=Nat.le_refl _
 have hrx:w.heap.size≤X:=Nat.le_of_lt hXR
 refine⟨.mk 9 t mE mE (some ⟨w2.heap.size,0,none⟩) 1 [T] none 0 [] none 0 [],q2,left,tag',rfl,gs_ass ht1.1.1 (by omega) _ ht1.2 HT2.out.1 (by decide) _ _ _ _ _ _,?_,?_,?_,by omega,by omega,by omega,(by first | exact zaS HM4.out.lo (by rfl) | exact zaS HM3.out.lo (by rfl) | exact zaS HM2.out.lo (by rfl) | exact zaS HM0.out.lo (by rfl))⟩
 ·rw[ST.In]
  refine⟨by omega,by simp,?_,by rw[SsIn];trivial,by rw[SsIn];trivial⟩
  refine zbw (zao _ (by simp)) (KeptP.et (A:=_) ?_ (HM2.out.three HT2.out.2.2) HT2.out.2.1 |>.mono (by have:=HT2.out.2.2;omega)) (by have:=HT2.out.2.2;have:=HM2.out.xlt;omega)
  (repeat (first | with_reducible exact KeptP.refl _ _ | with_reducible refine KeptP.set ?_ HPR.out _ _ | with_reducible refine KeptP.set ?_ HPX.out _ _ | with_reducible refine KeptP.drew ?_ | with_reducible refine KeptP.drewN ?_ _ | with_reducible refine KeptP.alloc ?_ _))
 ·have h1:=HM2.out.fd
  repeat (first | with_reducible exact h1 | with_reducible refine Fd.far ?_ hBX _ _ | with_reducible refine Fd.far ?_ hBR _ _ | with_reducible refine Fd.drew ?_ | with_reducible refine Fd.drewN ?_ _ | with_reducible refine Fd.alloc ?_ _)
 ·have h0:=HM2.out.gr
  repeat (first | with_reducible exact h0 | with_reducible refine zag ?_ hrx _ _ | with_reducible refine zag ?_ hrr _ _ | with_reducible refine zal ?_ | with_reducible refine zas ?_ _ | with_reducible refine zad ?_ _)
theorem tail_13 (D:Nat) (loop:Bool) (dv v t tag' left:Int) (X q0:Nat) (v0:0≤v) (v1:v≤255):Tail F B f D 13 loop dv v t tag' left X q0:=by
 intro w wc K K1 hK1' hK' HT HM0
 intros
 conv at hK1'=>intro a w';arg 1;arg 2;whnf
 conv at hK'=>intro a w';arg 1;arg 2;whnf
 conv=>arg 2;whnf
 obtain⟨HB,⟨x0,x1,x2,x3,x4,x5,x6⟩,yy,⟨r0,r1,r2,r3,r4,r5,r6⟩,zz,HXR,hXlt,hRlt,HBX,HPR,HPX,ne1,ne3,ne4,ne5⟩:=zbi HM0.out
 obtain⟨y0,y2,y3,y4,y5,y6,z0,z1,z2,z3,z4,z5,z6⟩:_∧_∧_∧_∧_∧_∧_∧_∧_∧_∧_∧_∧_:=⟨yy 0,yy 2,yy 3,yy 4,yy 5,yy 6,zz 0,zz 1,zz 2,zz 3,zz 4,zz 5,zz 6⟩
 clear yy zz
 go_wp2_with (go_at_call 134;refine MidS.call_expr (F:=F) (B:=B) (w:=w) (X:=X) (left:=left) (tag:=tag') (q:=q0) (c:=upd (st0 t) 0 (.int .i64 8)) (e:=1) 1 (by decide) (by decide) ?_ ?_;(repeat (first | with_reducible exact HM0.out | with_reducible refine MidS.set ?_ (by decide) _ | with_reducible refine MidS.drew ?_ | with_reducible refine MidS.drewN ?_ _ | with_reducible refine MidS.alloc ?_ _));intro T q2 w2 hT2 hin2 hA2 hm2 hk2;have hX:w2.heap[X]?=some (.cells #[.int .i64 8,.int .i64 t,.string {data:=#[]},.string {data:=#[]},.slice none 0 0,.slice none 0 0,.slice none 0 0] 66 (0,0)):=hm2.hX;have hR:=hm2.hR;obtain⟨x0,x1,x2,x3,x4,x5,x6⟩:=zaR hX;have y0:=zac (k:=0) hX;have y2:=zac (k:=2) hX;have y3:=zac (k:=3) hX;have y4:=zac (k:=4) hX;have y5:=zac (k:=5) hX;have y6:=zac (k:=6) hX;obtain⟨r0,r1,r2,r3,r4,r5,r6⟩:=zaR hR;have z0:=zac (k:=0) hR;have z1:=zac (k:=1) hR;have z2:=zac (k:=2) hR;have z3:=zac (k:=3) hR;have z4:=zac (k:=4) hR;have z5:=zac (k:=5) hR;have z6:=zac (k:=6) hR;have hXlt:X < w2.heap.size:=lt_of_block hX;have hRlt:w.heap.size < w2.heap.size:=lt_of_block hR;have HM2:=hid hm2;have HK2:=hid hk2;have HT2:=hid (And.intro hT2 (And.intro hin2 hA2));clear hX hR hm2 hk2 hT2 hin2 hA2)
 refine bodyPost_ret (v:=.agg #[.int .i64 8,.int .i64 t,.string {data:=#[]},.string {data:=#[]},.slice (some ⟨w2.heap.size,0,none⟩) 1 1,.slice none 0 0,.slice none 0 0]) (by simp[results,Tryz.results87,go_sem, *]) rfl ?_
 obtain⟨ht1,ht2⟩:=HT.out
 obtain⟨hBX,hBR⟩:=HBX.out
 have hXR:=HXR.out
 have hrr:w.heap.size≤w.heap.size:=Nat.le_refl _
 have hrx:w.heap.size≤X:=Nat.le_of_lt hXR
 refine⟨.mk 8 t mE mE (some ⟨w2.heap.size,0,none⟩) 1 [T] none 0 [] none 0 [],q2,left,tag',rfl,gs_ret ht1.1.1 (by omega) _ ht1.2 HT2.out.1 (by decide) _ _ _ _ _ _,?_,?_,?_,by omega,by omega,by omega,(by first | exact zaS HM4.out.lo (by rfl) | exact zaS HM3.out.lo (by rfl) | exact zaS HM2.out.lo (by rfl) | exact zaS HM0.out.lo (by rfl))⟩
 ·rw[ST.In]
  refine⟨by omega,by simp,?_,by rw[SsIn];trivial,by rw[SsIn];trivial⟩
  refine zbw (zao _ (by simp)) (KeptP.et (A:=_) ?_ (HM2.out.three HT2.out.2.2) HT2.out.2.1 |>.mono (by have:=HT2.out.2.2;omega)) (by have:=HT2.out.2.2;have:=HM2.out.xlt;omega)
  (repeat (first | with_reducible exact KeptP.refl _ _ | with_reducible refine KeptP.set ?_ HPR.out _ _ | with_reducible refine KeptP.set ?_ HPX.out _ _ | with_reducible refine KeptP.drew ?_ | with_reducible refine KeptP.drewN ?_ _ | with_reducible refine KeptP.alloc ?_ _))
 ·have h1:=HM2.out.fd
  repeat (first | with_reducible exact h1 | with_reducible refine Fd.far ?_ hBX _ _ | with_reducible refine Fd.far ?_ hBR _ _ | with_reducible refine Fd.drew ?_ | with_reducible refine Fd.drewN ?_ _ | with_reducible refine Fd.alloc ?_ _)
 ·have h0:=HM2.out.gr
  repeat (first | with_reducible exact h0 | with_reducible refine zag ?_ hrx _ _ | with_reducible refine zag ?_ hrr _ _ | with_reducible refine zal ?_ | with_reducible refine zas ?_ _ | with_reducible refine zad ?_ _)
end
end Go.Proofs.YtljbbhhiiiepcaaGreatDoor
