/- A statement of the feed, whatever it is: from the switch on. -/
import Derived.Test.YtljbbhhiiiepcaaGreatDoorTFeedS
import Derived.Test.YtljbbhhiiiepcaaGreatDoorTFeedK1
import Derived.Test.YtljbbhhiiiepcaaGreatDoorTFeedK2
import Derived.Deep.AppendLies
import Derived.OwnWalk
import Derived.Deep.RegionLaw
set_option linter.unusedSimpArgs false
set_option linter.unusedVariables false
set_option maxHeartbeats 8000000
set_option maxRecDepth 100000
namespace Go.Proofs.YtljbbhhiiiepcaaGreatDoor
open Go Go.RowKit
open Go.Lib (hid)
section
variable {F:FeedC} {B f:Nat}
theorem tail_2 (D:Nat) (loop:Bool) (dv v t tag' left:Int) (X q0:Nat) (v0:0≤v) (v1:v≤255) (kk:Int) (hkk:kk=2∨kk=3):Tail F B f D kk loop dv v t tag' left X q0:=by
 rcases hkk with rfl | rfl
 all_goals
  intro w wc K K1 hK1' hK' HT HM0
  intros
  conv at hK1'=>intro a w';arg 1;arg 2;whnf
  conv at hK'=>intro a w';arg 1;arg 2;whnf
  conv=>arg 2;whnf
  obtain⟨HB,⟨x0,x1,x2,x3,x4,x5,x6⟩,yy,⟨r0,r1,r2,r3,r4,r5,r6⟩,zz,HXR,hXlt,hRlt,HBX,HPR,HPX,ne1,ne3,ne4,ne5⟩:=zbi HM0.out
  obtain⟨y0,y2,y3,y4,y5,y6,z0,z1,z2,z3,z4,z5,z6⟩:_∧_∧_∧_∧_∧_∧_∧_∧_∧_∧_∧_∧_:=⟨yy 0,yy 2,yy 3,yy 4,yy 5,yy 6,zz 0,zz 1,zz 2,zz 3,zz 4,zz 5,zz 6⟩
  clear yy zz
  obtain⟨k,n,s,hn0,hn1,hn2,hkk,hvv,hs,hnm,hc⟩:=zb1 HM0.out.fd.arrs v0
  have c2:=HM0.out.fd.c3
  rw[hn0] at c2
  have HS:=hid hnm
  have neA:¬X=F.xa:=by have:=HM0.out.fd.arrs.1;have:=HBX.out;omega
  have neB:¬w.heap.size=F.xa:=by have:=HM0.out.fd.arrs.1;have:=HBX.out;omega
  clear hn0 hs hnm
  have t1:(v.tdiv 16).tmod n=k:=by rw[←hvv,Int.tdiv_eq_ediv_of_nonneg v0,Int.tmod_eq_emod_of_nonneg (by omega)]
  have t2:(v / 16).tmod n=k:=by rw[←hvv,Int.tmod_eq_emod_of_nonneg (by omega)]
  have n0:((n:Int)==0)=false:=by simp;omega
  have u1:IntKind.i64.wrap (v.tdiv 16)=v / 16:=by rw[Int.tdiv_eq_ediv_of_nonneg v0];exact IntWalk.i64_in _ (by omega)
  have u3:(IntKind.i64.wrap (v.tdiv 16)).tmod n=k:=by rw[u1];exact t2
  have u4:IntKind.i64.wrap (v / 16)=v / 16:=IntWalk.i64_in _ (by omega)
  have n3:(n==0)=false:=by simp;omega
  have n4:¬n=0:=by omega
  have n5:(0:Int) < n:=by omega
  have k0:(0:Int)≤k:=by omega
  have k1:(k:Int) < n:=by omega
  go_wp2
  go_region_held3 (fun w'=>w'.cell? ⟨f,3,none⟩=some (.slice (some ⟨F.xa,0,none⟩) n n)∧w'.cell? ⟨F.xa,k,none⟩=some (.string s)) (go_keep) (fail)
  go_wp2_with (go_at_call 134;refine MidS.call_expr (F:=F) (B:=B) (w:=w) (X:=X) (left:=left) (tag:=tag') (q:=q0) (c:=upd (upd (st0 t) 0 (.int .i64 1)) 2 (.string s)) (e:=1) 1 (by decide) (by decide) ?_ ?_;(repeat (first | with_reducible exact HM0.out | with_reducible refine MidS.set ?_ (by decide) _ | with_reducible refine MidS.drew ?_ | with_reducible refine MidS.drewN ?_ _ | with_reducible refine MidS.alloc ?_ _));intro T q2 w2 hT2 hin2 hA2 hm2 hk2;have hX:w2.heap[X]?=some (.cells #[.int .i64 1,.int .i64 t,.string s,.string {data:=#[]},.slice none 0 0,.slice none 0 0,.slice none 0 0] 66 (0,0)):=hm2.hX;have hR:=hm2.hR;obtain⟨x0,x1,x2,x3,x4,x5,x6⟩:=zaR hX;have y0:=zac (k:=0) hX;have y2:=zac (k:=2) hX;have y3:=zac (k:=3) hX;have y4:=zac (k:=4) hX;have y5:=zac (k:=5) hX;have y6:=zac (k:=6) hX;obtain⟨r0,r1,r2,r3,r4,r5,r6⟩:=zaR hR;have z0:=zac (k:=0) hR;have z1:=zac (k:=1) hR;have z2:=zac (k:=2) hR;have z3:=zac (k:=3) hR;have z4:=zac (k:=4) hR;have z5:=zac (k:=5) hR;have z6:=zac (k:=6) hR;have hXlt:X < w2.heap.size:=lt_of_block hX;have hRlt:w.heap.size < w2.heap.size:=lt_of_block hR;have HM2:=hid hm2;have HK2:=hid hk2;have HT2:=hid (And.intro hT2 (And.intro hin2 hA2));clear hX hR hm2 hk2 hT2 hin2 hA2)
  have HX3:=hid (zaj w2 (.cells #[.int .i64 T.kind,.string T.op,.int .i64 T.n,.string T.name,.slice T.kaddr T.kids.length T.kcap] 68))
  have HM3:=hid (HM2.out.alloc (.cells #[.int .i64 T.kind,.string T.op,.int .i64 T.n,.string T.name,.slice T.kaddr T.kids.length T.kcap] 68))
  have HK3:=hid ((KeptP.refl (Three f w.heap.size X) w2).alloc (.cells #[.int .i64 T.kind,.string T.op,.int .i64 T.n,.string T.name,.slice T.kaddr T.kids.length T.kcap] 68))
  have hXO:X < w2.heap.size:=HM2.out.xlt
  clear x0 x1 x2 x3 x4 x5 x6 y0 y2 y3 y4 y5 y6 r0 r1 r2 r3 r4 r5 r6 z0 z1 z2 z3 z4 z5 z6 hXlt hRlt c2 hc
  generalize (w2.alloc (.cells #[.int .i64 T.kind,.string T.op,.int .i64 T.n,.string T.name,.slice T.kaddr T.kids.length T.kcap] 68))=w3 at HX3 HM3 HK3 ⊢
  generalize w2.heap.size=O at HX3 hXO ⊢
  obtain⟨o0,o1,o2,o3,o4⟩:=zbp HX3.out
  have HXO:=hid hXO
  have neO:¬X=O:=by omega
  clear hXO
  go_region_held3 (fun w'=>w'.cell? ⟨O,0,none⟩=some (.int .i64 T.kind)∧w'.cell? ⟨O,1,none⟩=some (.string T.op)∧w'.cell? ⟨O,2,none⟩=some (.int .i64 T.n)∧w'.cell? ⟨O,3,none⟩=some (.string T.name)∧w'.cell? ⟨O,4,none⟩=some (.slice T.kaddr T.kids.length T.kcap)) ((refine⟨?_,?_,?_,?_,?_⟩<;>(repeat (first | with_reducible assumption | with_reducible refine cellD ?_ | with_reducible refine cellA ?_ _ | with_reducible refine cellS ?_ neO))))
   ((go_at_call 134;refine MidS.call_expr (F:=F) (B:=B) (w:=w) (X:=X) (left:=left) (tag:=tag') (q:=q2) (c:=upd (upd (st0 t) 0 (.int .i64 1)) 2 (.string s)) (e:=2) 2 (by decide) (by decide) ?_ ?_;(repeat (first | with_reducible exact HM3.out | with_reducible refine MidS.set ?_ (by decide) _ | with_reducible refine MidS.drew ?_ | with_reducible refine MidS.drewN ?_ _ | with_reducible refine MidS.alloc ?_ _));intro U q4 w4 hT4 hin4 hA4 hm4 hk4;have hX:w4.heap[X]?=some (.cells #[.int .i64 1,.int .i64 t,.string s,.string {data:=#[]},.slice none 0 0,.slice none 0 0,.slice none 0 0] 66 (0,0)):=hm4.hX;have hR:=hm4.hR;obtain⟨x0,x1,x2,x3,x4,x5,x6⟩:=zaR hX;have y0:=zac (k:=0) hX;have y2:=zac (k:=2) hX;have y3:=zac (k:=3) hX;have y4:=zac (k:=4) hX;have y5:=zac (k:=5) hX;have y6:=zac (k:=6) hX;obtain⟨r0,r1,r2,r3,r4,r5,r6⟩:=zaR hR;have z0:=zac (k:=0) hR;have z1:=zac (k:=1) hR;have z2:=zac (k:=2) hR;have z3:=zac (k:=3) hR;have z4:=zac (k:=4) hR;have z5:=zac (k:=5) hR;have z6:=zac (k:=6) hR;have hXlt:X < w4.heap.size:=lt_of_block hX;have hRlt:w.heap.size < w4.heap.size:=lt_of_block hR;have HM4:=hid hm4;have HK4:=hid hk4;have HT4:=hid (And.intro hT4 (And.intro hin4 hA4));have hO4:=(hk4.block O (lt_of_block HX3.out) (HM3.out.three HXO.out _ (Nat.le_refl _))).trans HX3.out;obtain⟨p0,p1,p2,p3,p4⟩:=zbp hO4;have hk34:KeptP (Three f w.heap.size X) w3 w4:=KeptP.trans (by repeat (first | with_reducible exact KeptP.refl _ _ | with_reducible refine KeptP.set ?_ HPR.out _ _ | with_reducible refine KeptP.set ?_ HPX.out _ _ | with_reducible refine KeptP.drew ?_ | with_reducible refine KeptP.drewN ?_ _ | with_reducible refine KeptP.alloc ?_ _)) hk4;have HK34:=hid hk34;clear hO4 hk34 hX hR hm4 hk4 hT4 hin4 hA4))
  go_wp2
  refine bodyPost_ret (v:=.agg #[.int .i64 1,.int .i64 t,.string s,.string {data:=#[]},.slice (some ⟨w4.heap.size,0,none⟩) 2 2,.slice none 0 0,.slice none 0 0]) (by simp[results,Tryz.results87,go_sem, *]) rfl ?_
  obtain⟨ht1,ht2⟩:=HT.out
  obtain⟨hBX,hBR⟩:=HBX.out
  have hXR:=HXR.out
  have hrr:w.heap.size≤w.heap.size:=Nat.le_refl _
  have hrx:w.heap.size≤X:=Nat.le_of_lt hXR
  refine⟨.mk 1 t s mE (some ⟨w4.heap.size,0,none⟩) 2 [T,U] none 0 [] none 0 [],q4,left,tag',rfl,gs_sto ht1.1.1 (by omega) _ ht1.2 HS.out.1 HS.out.2 HT2.out.1 (by decide) HT4.out.1 (by decide) _ _ _ _ _ _,?_,?_,?_,by omega,by omega,by omega,(by first | exact zaS HM4.out.lo (by rfl) | exact zaS HM3.out.lo (by rfl) | exact zaS HM2.out.lo (by rfl) | exact zaS HM0.out.lo (by rfl))⟩
  ·rw[ST.In]
   refine⟨by omega,by simp,?_,by rw[SsIn];trivial,by rw[SsIn];trivial⟩
   refine zd6 (zao _ (by simp)) (fun _ _ h=>h) (KeptP.et (A:=_) ?_ (HM2.out.three HT2.out.2.2) HT2.out.2.1 |>.mono (by have:=HT2.out.2.2;omega)) (KeptP.et (A:=_) ?_ (HM2.out.three HT4.out.2.2) HT4.out.2.1 |>.mono (by have:=HT4.out.2.2;omega)) (by have:=HM4.out.xlt;have:=HM4.out.lt;omega)
   ·(repeat (first | with_reducible exact(HK3.out.trans HK34.out) | with_reducible refine KeptP.set ?_ HPR.out _ _ | with_reducible refine KeptP.set ?_ HPX.out _ _ | with_reducible refine KeptP.drew ?_ | with_reducible refine KeptP.drewN ?_ _ | with_reducible refine KeptP.alloc ?_ _))
   ·(repeat (first | with_reducible exact KeptP.refl _ _ | with_reducible refine KeptP.set ?_ HPR.out _ _ | with_reducible refine KeptP.set ?_ HPX.out _ _ | with_reducible refine KeptP.drew ?_ | with_reducible refine KeptP.drewN ?_ _ | with_reducible refine KeptP.alloc ?_ _))
  ·have h1:=HM4.out.fd
   repeat (first | with_reducible exact h1 | with_reducible refine Fd.far ?_ hBX _ _ | with_reducible refine Fd.far ?_ hBR _ _ | with_reducible refine Fd.drew ?_ | with_reducible refine Fd.drewN ?_ _ | with_reducible refine Fd.alloc ?_ _)
  ·have h0:=HM4.out.gr
   repeat (first | with_reducible exact h0 | with_reducible refine zag ?_ hrx _ _ | with_reducible refine zag ?_ hrr _ _ | with_reducible refine zal ?_ | with_reducible refine zas ?_ _ | with_reducible refine zad ?_ _)
theorem tail_9f (D:Nat) (loop:Bool) (dv v t tag' left:Int) (X q0:Nat) (v0:0≤v) (v1:v≤255) (hv32:¬v % 32 < 16):Tail F B f D 9 loop dv v t tag' left X q0:=by
 intro w wc K K1 hK1' hK' HT HM0
 intros
 conv at hK1'=>intro a w';arg 1;arg 2;whnf
 conv at hK'=>intro a w';arg 1;arg 2;whnf
 conv=>arg 2;whnf
 obtain⟨HB,⟨x0,x1,x2,x3,x4,x5,x6⟩,yy,⟨r0,r1,r2,r3,r4,r5,r6⟩,zz,HXR,hXlt,hRlt,HBX,HPR,HPX,ne1,ne3,ne4,ne5⟩:=zbi HM0.out
 obtain⟨y0,y2,y3,y4,y5,y6,z0,z1,z2,z3,z4,z5,z6⟩:_∧_∧_∧_∧_∧_∧_∧_∧_∧_∧_∧_∧_:=⟨yy 0,yy 2,yy 3,yy 4,yy 5,yy 6,zz 0,zz 1,zz 2,zz 3,zz 4,zz 5,zz 6⟩
 clear yy zz
 obtain⟨r,hr⟩:∃r,v % 32=r:=⟨_,rfl⟩
 have hr':v.tmod 32=r:=by rw[Int.tmod_eq_emod_of_nonneg v0];exact hr
 rw[hr] at hv32
 have kd:decide (r < 16)=false:=by simp;omega
 obtain⟨k,n,s,hn0,hn1,hn2,hkk,hvv,hs,hnm,hc⟩:=zb1 HM0.out.fd.ints v0
 have c2:=HM0.out.fd.c2
 rw[hn0] at c2
 have HS:=hid hnm
 have neA:¬X=F.ia:=by have:=HM0.out.fd.ints.1;have:=HBX.out;omega
 have neB:¬w.heap.size=F.ia:=by have:=HM0.out.fd.ints.1;have:=HBX.out;omega
 clear hn0 hs hnm
 have t1:(v.tdiv 16).tmod n=k:=by rw[←hvv,Int.tdiv_eq_ediv_of_nonneg v0,Int.tmod_eq_emod_of_nonneg (by omega)]
 have t2:(v / 16).tmod n=k:=by rw[←hvv,Int.tmod_eq_emod_of_nonneg (by omega)]
 have n0:((n:Int)==0)=false:=by simp;omega
 have u1:IntKind.i64.wrap (v.tdiv 16)=v / 16:=by rw[Int.tdiv_eq_ediv_of_nonneg v0];exact IntWalk.i64_in _ (by omega)
 have u3:(IntKind.i64.wrap (v.tdiv 16)).tmod n=k:=by rw[u1];exact t2
 have u4:IntKind.i64.wrap (v / 16)=v / 16:=IntWalk.i64_in _ (by omega)
 have n3:(n==0)=false:=by simp;omega
 have n4:¬n=0:=by omega
 have n5:(0:Int) < n:=by omega
 have k0:(0:Int)≤k:=by omega
 have k1:(k:Int) < n:=by omega
 go_wp2
 go_region_held3 (fun w'=>w'.cell? ⟨f,2,none⟩=some (.slice (some ⟨F.ia,0,none⟩) n n)∧w'.cell? ⟨F.ia,k,none⟩=some (.string s)) (go_keep) (fail)
 go_wp2_with (go_at_call 134;refine MidS.call_expr (F:=F) (B:=B) (w:=w) (X:=X) (left:=left) (tag:=tag') (q:=q0) (c:=upd (upd (upd (st0 t) 0 (.int .i64 3)) 2 (.string s)) 3 (.string {data:=#[103]})) (e:=1) 1 (by decide) (by decide) ?_ ?_;(repeat (first | with_reducible exact HM0.out | with_reducible refine MidS.set ?_ (by decide) _ | with_reducible refine MidS.drew ?_ | with_reducible refine MidS.drewN ?_ _ | with_reducible refine MidS.alloc ?_ _));intro T q2 w2 hT2 hin2 hA2 hm2 hk2;have hX:w2.heap[X]?=some (.cells #[.int .i64 3,.int .i64 t,.string s,.string {data:=#[103]},.slice none 0 0,.slice none 0 0,.slice none 0 0] 66 (0,0)):=hm2.hX;have hR:=hm2.hR;obtain⟨x0,x1,x2,x3,x4,x5,x6⟩:=zaR hX;have y0:=zac (k:=0) hX;have y2:=zac (k:=2) hX;have y3:=zac (k:=3) hX;have y4:=zac (k:=4) hX;have y5:=zac (k:=5) hX;have y6:=zac (k:=6) hX;obtain⟨r0,r1,r2,r3,r4,r5,r6⟩:=zaR hR;have z0:=zac (k:=0) hR;have z1:=zac (k:=1) hR;have z2:=zac (k:=2) hR;have z3:=zac (k:=3) hR;have z4:=zac (k:=4) hR;have z5:=zac (k:=5) hR;have z6:=zac (k:=6) hR;have hXlt:X < w2.heap.size:=lt_of_block hX;have hRlt:w.heap.size < w2.heap.size:=lt_of_block hR;have HM2:=hid hm2;have HK2:=hid hk2;have HT2:=hid (And.intro hT2 (And.intro hin2 hA2));clear hX hR hm2 hk2 hT2 hin2 hA2)
 refine bodyPost_ret (v:=.agg #[.int .i64 3,.int .i64 t,.string s,.string {data:=#[103]},.slice (some ⟨w2.heap.size,0,none⟩) 1 1,.slice none 0 0,.slice none 0 0]) (by simp[results,Tryz.results87,go_sem, *]) rfl ?_
 obtain⟨ht1,ht2⟩:=HT.out
 obtain⟨hBX,hBR⟩:=HBX.out
 have hXR:=HXR.out
 have hrr:w.heap.size≤w.heap.size:=Nat.le_refl _
 have hrx:w.heap.size≤X:=Nat.le_of_lt hXR
 refine⟨.mk 3 t s {data:=#[103]} (some ⟨w2.heap.size,0,none⟩) 1 [T] none 0 [] none 0 [],q2,left,tag',rfl,gs_call1 ht1.1.1 (by omega) _ ht1.2 HS.out.1 HS.out.2 rfl (by simp[cGH0]) HT2.out.1 (by decide) _ _ _ _ _ _,?_,?_,?_,by omega,by omega,by omega,(by first | exact zaS HM4.out.lo (by rfl) | exact zaS HM3.out.lo (by rfl) | exact zaS HM2.out.lo (by rfl) | exact zaS HM0.out.lo (by rfl))⟩
 ·rw[ST.In]
  refine⟨by omega,by simp,?_,by rw[SsIn];trivial,by rw[SsIn];trivial⟩
  refine zbw (zao _ (by simp)) (KeptP.et (A:=_) ?_ (HM2.out.three HT2.out.2.2) HT2.out.2.1 |>.mono (by have:=HT2.out.2.2;omega)) (by have:=HT2.out.2.2;have:=HM2.out.xlt;omega)
  (repeat (first | with_reducible exact KeptP.refl _ _ | with_reducible refine KeptP.set ?_ HPR.out _ _ | with_reducible refine KeptP.set ?_ HPX.out _ _ | with_reducible refine KeptP.drew ?_ | with_reducible refine KeptP.drewN ?_ _ | with_reducible refine KeptP.alloc ?_ _))
 ·have h1:=HM2.out.fd
  repeat (first | with_reducible exact h1 | with_reducible refine Fd.far ?_ hBX _ _ | with_reducible refine Fd.far ?_ hBR _ _ | with_reducible refine Fd.drew ?_ | with_reducible refine Fd.drewN ?_ _ | with_reducible refine Fd.alloc ?_ _)
 ·have h0:=HM2.out.gr
  repeat (first | with_reducible exact h0 | with_reducible refine zag ?_ hrx _ _ | with_reducible refine zag ?_ hrr _ _ | with_reducible refine zal ?_ | with_reducible refine zas ?_ _ | with_reducible refine zad ?_ _)
end
end Go.Proofs.YtljbbhhiiiepcaaGreatDoor
namespace Go.Proofs.YtljbbhhiiiepcaaGreatDoor
open Go Go.RowKit
open Go.Lib (hid)
section
variable {F:FeedC} {B f:Nat}
theorem expr_info:(Tryz.prog.info? 68).map (fun i=>(i.zero,i.size,i.bytes))=some (some (.agg #[.int .i64 0,.string {data:=#[]},.int .i64 0,.string {data:=#[]},.slice none 0 0]),5,72):=by kernel_rfl
theorem KeptP.mono {P Q:Nat→Prop} {w w':World} (h:KeptP P w w') (hPQ:∀b,P b→Q b):KeptP Q w w':=⟨h.os,h.tape,h.output,h.size,fun k hk hq=>h.block k hk fun hp=>hq (hPQ k hp)⟩
def FourP (f R X O:Nat) (b:Nat):Prop:=Three f R X b∨b=O
theorem grown_far {w v v':World} {r:Option Nat} {O:Nat} (h:w.grownBy v r) (hO:w.heap.size≤O) (hg:v.grownBy v' (some O)):w.grownBy v' r:=
 ⟨hg.os.trans h.os,hg.tape.trans h.tape,hg.output.trans h.output,Nat.le_trans h.size hg.size,fun i hi hr=>(hg.block i (Nat.lt_of_lt_of_le hi h.size) (by simp;omega)).trans (h.block i hi hr)⟩
theorem MidS.far {X:Nat} {c:Nat→Value} {q:Nat} {left tag:Int} {w v v':World} (h:MidS F B f w X c q left tag v) {O:Nat} (hO:X < O) (hg:v.grownBy v' (some O)):MidS F B f w X c q left tag v':=
 ⟨h.lt,h.hB,h.hf,(hg.block X h.xlt (by simp;omega)).trans h.hX,(hg.block _ (lt_of_block h.hR) (by have:=h.lt;simp;omega)).trans h.hR,h.fd.grownR (by have:=h.lt;have:=h.hB;omega) hg,grown_far h.gr (by have:=h.lt;omega) hg,h.lo⟩
theorem one_row {w:World} {O:Nat} {T:ET} (h:w.heap[O]?=some (.cells (five T) 68 (0,0))):w.ownsRow 0 68 5 (.slice (some ⟨O,0,none⟩) 1 1) 1 (five T).toList:=
 ⟨rfl,Or.inr ⟨O,1,five T,rfl,Nat.zero_le _,h,Nat.le_refl _,by decide,rfl,rfl⟩⟩
theorem five_one (U:ET):∀u∈(five U).toList,u.oneCell'=true:=by
 intro u hu
 simp at hu
 rcases hu with rfl | rfl | rfl | rfl | rfl<;>rfl
theorem ten_of_row {base g cap n:Nat} {wb:World} {T U:ET} (h:wb.ownsRow base 68 5 (.slice (some ⟨g,0,none⟩) n cap) (1+1) ((five T).toList++(five U).toList)):∃cur,wb.heap[g]?=some (.cells cur 68 (0,0))∧∀(j:Nat) (u:Value),(ten T U)[j]?=some u→cur[j]?=some u:=by
 rcases h.2 with ⟨e,-⟩ | ⟨g',cap',cur,e,-,hb,-,-,-,ht⟩
 ·cases e
 ·simp only[Value.slice.injEq,Option.some.injEq,Addr.mk.injEq,true_and,and_true] at e
  obtain⟨rfl,-⟩:=e
  refine⟨cur,hb,fun j u hj=>?_⟩
  have e2:(ten T U).toList=cur.toList.take 10:=by
   show _=cur.toList.take ((1+1)*5)
   rw[ht]
   rfl
  rw[←Array.getElem?_toList,e2,List.getElem?_take] at hj
  split at hj
  ·rw[←Array.getElem?_toList];exact hj
  ·cases hj
theorem tail_9t (D:Nat) (loop:Bool) (dv v t tag' left:Int) (X q0:Nat) (v0:0≤v) (v1:v≤255) (hv32:v % 32 < 16):Tail F B f D 9 loop dv v t tag' left X q0:=by
 intro w wc K K1 hK1' hK' HT HM0
 intros
 conv at hK1'=>intro a w';arg 1;arg 2;whnf
 conv at hK'=>intro a w';arg 1;arg 2;whnf
 conv=>arg 2;whnf
 obtain⟨HB,⟨x0,x1,x2,x3,x4,x5,x6⟩,yy,⟨r0,r1,r2,r3,r4,r5,r6⟩,zz,HXR,hXlt,hRlt,HBX,HPR,HPX,ne1,ne3,ne4,ne5⟩:=zbi HM0.out
 obtain⟨y0,y2,y3,y4,y5,y6,z0,z1,z2,z3,z4,z5,z6⟩:_∧_∧_∧_∧_∧_∧_∧_∧_∧_∧_∧_∧_:=⟨yy 0,yy 2,yy 3,yy 4,yy 5,yy 6,zz 0,zz 1,zz 2,zz 3,zz 4,zz 5,zz 6⟩
 clear yy zz
 obtain⟨r,hr⟩:∃r,v % 32=r:=⟨_,rfl⟩
 have hr':v.tmod 32=r:=by rw[Int.tmod_eq_emod_of_nonneg v0];exact hr
 rw[hr] at hv32
 have kd:decide (r < 16)=true:=by simp;omega
 obtain⟨k,n,s,hn0,hn1,hn2,hkk,hvv,hs,hnm,hc⟩:=zb1 HM0.out.fd.ints v0
 have c2:=HM0.out.fd.c2
 rw[hn0] at c2
 have HS:=hid hnm
 have neA:¬X=F.ia:=by have:=HM0.out.fd.ints.1;have:=HBX.out;omega
 have neB:¬w.heap.size=F.ia:=by have:=HM0.out.fd.ints.1;have:=HBX.out;omega
 clear hn0 hs hnm
 have t1:(v.tdiv 16).tmod n=k:=by rw[←hvv,Int.tdiv_eq_ediv_of_nonneg v0,Int.tmod_eq_emod_of_nonneg (by omega)]
 have t2:(v / 16).tmod n=k:=by rw[←hvv,Int.tmod_eq_emod_of_nonneg (by omega)]
 have n0:((n:Int)==0)=false:=by simp;omega
 have u1:IntKind.i64.wrap (v.tdiv 16)=v / 16:=by rw[Int.tdiv_eq_ediv_of_nonneg v0];exact IntWalk.i64_in _ (by omega)
 have u3:(IntKind.i64.wrap (v.tdiv 16)).tmod n=k:=by rw[u1];exact t2
 have u4:IntKind.i64.wrap (v / 16)=v / 16:=IntWalk.i64_in _ (by omega)
 have n3:(n==0)=false:=by simp;omega
 have n4:¬n=0:=by omega
 have n5:(0:Int) < n:=by omega
 have k0:(0:Int)≤k:=by omega
 have k1:(k:Int) < n:=by omega
 go_wp2
 go_region_held3 (fun w'=>w'.cell? ⟨f,2,none⟩=some (.slice (some ⟨F.ia,0,none⟩) n n)∧w'.cell? ⟨F.ia,k,none⟩=some (.string s)) (go_keep) (fail)
 go_wp2_with (go_at_call 134;refine MidS.call_expr (F:=F) (B:=B) (w:=w) (X:=X) (left:=left) (tag:=tag') (q:=q0) (c:=upd (upd (upd (st0 t) 0 (.int .i64 3)) 2 (.string s)) 3 (.string {data:=#[103]})) (e:=1) 1 (by decide) (by decide) ?_ ?_;(repeat (first | with_reducible exact HM0.out | with_reducible refine MidS.set ?_ (by decide) _ | with_reducible refine MidS.drew ?_ | with_reducible refine MidS.drewN ?_ _ | with_reducible refine MidS.alloc ?_ _));intro T q2 w2 hT2 hin2 hA2 hm2 hk2;have hX:w2.heap[X]?=some (.cells #[.int .i64 3,.int .i64 t,.string s,.string {data:=#[103]},.slice none 0 0,.slice none 0 0,.slice none 0 0] 66 (0,0)):=hm2.hX;have hR:=hm2.hR;obtain⟨x0,x1,x2,x3,x4,x5,x6⟩:=zaR hX;have y0:=zac (k:=0) hX;have y2:=zac (k:=2) hX;have y3:=zac (k:=3) hX;have y4:=zac (k:=4) hX;have y5:=zac (k:=5) hX;have y6:=zac (k:=6) hX;obtain⟨r0,r1,r2,r3,r4,r5,r6⟩:=zaR hR;have z0:=zac (k:=0) hR;have z1:=zac (k:=1) hR;have z2:=zac (k:=2) hR;have z3:=zac (k:=3) hR;have z4:=zac (k:=4) hR;have z5:=zac (k:=5) hR;have z6:=zac (k:=6) hR;have hXlt:X < w2.heap.size:=lt_of_block hX;have hRlt:w.heap.size < w2.heap.size:=lt_of_block hR;have HM2:=hid hm2;have HK2:=hid hk2;have HT2:=hid (And.intro hT2 (And.intro hin2 hA2));clear hX hR hm2 hk2 hT2 hin2 hA2)
 obtain⟨ei,hi,hz0,hz1,hz2⟩:=info_parts expr_info
 have hrow:(((w2.setCell ⟨X,4,none⟩ (.slice (some ⟨w2.heap.size,0,none⟩) 1 1)).setCell ⟨X,3,none⟩ (.string {data:=#[104]})).alloc (.cells #[.int .i64 T.kind,.string T.op,.int .i64 T.n,.string T.name,.slice T.kaddr T.kids.length T.kcap] 68)).heap[w2.heap.size]?=some (.cells (five T) 68 (0,0)):=zao _ (by simp)
 have hm3:=((HM2.out.set (k:=4) (by decide) (.slice (some ⟨w2.heap.size,0,none⟩) 1 1)).set (k:=3) (by decide) (.string {data:=#[104]})).alloc (.cells #[.int .i64 T.kind,.string T.op,.int .i64 T.n,.string T.name,.slice T.kaddr T.kids.length T.kcap] 68)
 have hk3:KeptP (Three f w.heap.size X) w2 (((w2.setCell ⟨X,4,none⟩ (.slice (some ⟨w2.heap.size,0,none⟩) 1 1)).setCell ⟨X,3,none⟩ (.string {data:=#[104]})).alloc (.cells #[.int .i64 T.kind,.string T.op,.int .i64 T.n,.string T.name,.slice T.kaddr T.kids.length T.kcap] 68)):=by
  repeat (first | with_reducible exact KeptP.refl _ _ | with_reducible refine KeptP.set ?_ HPX.out _ _ | with_reducible refine KeptP.alloc ?_ _)
 have hXO:X < w2.heap.size:=HM2.out.xlt
 have HOO:Hid (∃O,w2.heap.size=O):=hid ⟨_,rfl⟩
 clear x0 x1 x2 x3 x4 x5 x6 y0 y2 y3 y4 y5 y6 r0 r1 r2 r3 r4 r5 r6 z0 z1 z2 z3 z4 z5 z6 hXlt hRlt c2 hc
 generalize (((w2.setCell ⟨X,4,none⟩ (.slice (some ⟨w2.heap.size,0,none⟩) 1 1)).setCell ⟨X,3,none⟩ (.string {data:=#[104]})).alloc (.cells #[.int .i64 T.kind,.string T.op,.int .i64 T.n,.string T.name,.slice T.kaddr T.kids.length T.kcap] 68))=w3 at hrow hm3 hk3 ⊢
 obtain⟨O,hO⟩:=HOO.out
 rw[hO] at hrow hm3 hXO ⊢
 have HO:=hid hO
 clear hO HOO
 have hX:w3.heap[X]?=some (.cells #[.int .i64 3,.int .i64 t,.string s,.string {data:=#[104]},.slice (some ⟨O,0,none⟩) 1 1,.slice none 0 0,.slice none 0 0] 66 (0,0)):=hm3.hX;have hR:=hm3.hR;obtain⟨x0,x1,x2,x3,x4,x5,x6⟩:=zaR hX;have y0:=zac (k:=0) hX;have y2:=zac (k:=2) hX;have y3:=zac (k:=3) hX;have y4:=zac (k:=4) hX;have y5:=zac (k:=5) hX;have y6:=zac (k:=6) hX;obtain⟨r0,r1,r2,r3,r4,r5,r6⟩:=zaR hR;have z0:=zac (k:=0) hR;have z1:=zac (k:=1) hR;have z2:=zac (k:=2) hR;have z3:=zac (k:=3) hR;have z4:=zac (k:=4) hR;have z5:=zac (k:=5) hR;have z6:=zac (k:=6) hR;have hXlt:X < w3.heap.size:=lt_of_block hX;have hRlt:w.heap.size < w3.heap.size:=lt_of_block hR;clear hX hR
 have HROW:=hid hrow
 have HM3:=hid hm3
 have HK3:=hid hk3
 have HXO:=hid hXO
 have neO:¬X=O:=by omega
 have neP:¬O=X:=by omega
 clear hrow hm3 hk3 hXO
 go_region_law (first
   | (go_simp;go_at_call 134;refine MidS.call_expr (F:=F) (B:=B) (w:=w) (X:=X) (left:=left) (tag:=tag') (q:=q2) (c:=upd (upd (upd (upd (upd (st0 t) 0 (.int .i64 3)) 2 (.string s)) 3 (.string {data:=#[103]})) 4 (.slice (some ⟨O,0,none⟩) 1 1)) 3 (.string {data:=#[104]})) (e:=1) 1 (by decide) (by decide) ?_ ?_;(repeat (first | with_reducible exact HM3.out | with_reducible refine MidS.set ?_ (by decide) _ | with_reducible refine MidS.drew ?_ | with_reducible refine MidS.drewN ?_ _ | with_reducible refine MidS.alloc ?_ _));intro U q4 w4 hT4 hin4 hA4 hm4 hk4;have hX:w4.heap[X]?=some (.cells #[.int .i64 3,.int .i64 t,.string s,.string {data:=#[104]},.slice (some ⟨O,0,none⟩) 1 1,.slice none 0 0,.slice none 0 0] 66 (0,0)):=hm4.hX;have hR:=hm4.hR;obtain⟨x0,x1,x2,x3,x4,x5,x6⟩:=zaR hX;have y0:=zac (k:=0) hX;have y2:=zac (k:=2) hX;have y3:=zac (k:=3) hX;have y4:=zac (k:=4) hX;have y5:=zac (k:=5) hX;have y6:=zac (k:=6) hX;obtain⟨r0,r1,r2,r3,r4,r5,r6⟩:=zaR hR;have z0:=zac (k:=0) hR;have z1:=zac (k:=1) hR;have z2:=zac (k:=2) hR;have z3:=zac (k:=3) hR;have z4:=zac (k:=4) hR;have z5:=zac (k:=5) hR;have z6:=zac (k:=6) hR;have hXlt:X < w4.heap.size:=lt_of_block hX;have hRlt:w.heap.size < w4.heap.size:=lt_of_block hR;have HM4:=hid hm4;have HK4:=hid hk4;have HT4:=hid (And.intro hT4 (And.intro hin4 hA4));have hO4:=(hk4.block O (lt_of_block HROW.out) (HM3.out.three HXO.out _ (Nat.le_refl _))).trans HROW.out;have hk34:KeptP (Three f w.heap.size X) w3 w4:=KeptP.trans (by repeat (first | with_reducible exact KeptP.refl _ _ | with_reducible refine KeptP.set ?_ HPR.out _ _ | with_reducible refine KeptP.set ?_ HPX.out _ _ | with_reducible refine KeptP.drew ?_ | with_reducible refine KeptP.drewN ?_ _ | with_reducible refine KeptP.alloc ?_ _)) hk4;have HK34:=hid hk34;have HROW4:=hid hO4;clear hO4 hk34 hX hR hm4 hk4 hT4 hin4 hA4)
   | (refine step_append_lies _ (by rfl) _ _ _ (by rfl) 0 68 ei _ 5 72 Tryz.underlying64 hi hz0 hz1 hz2 rfl (by decide) (.slice (some ⟨O,0,none⟩) 1 1) 1 (five T).toList rfl (one_row (O:=O) (zai (.cells #[.int .i64 U.kind,.string U.op,.int .i64 U.n,.string U.name,.slice U.kaddr U.kids.length U.kcap] 68) HROW4.out)) ⟨w4.heap.size,0,none⟩ 1 1 (five U).toList rfl rfl (World.news_of_block (zaj w4 (.cells #[.int .i64 U.kind,.string U.op,.int .i64 U.n,.string U.name,.slice U.kaddr U.kids.length U.kcap] 68))) (five_one U) (by decide) (by decide) (by decide) (Nat.zero_le _) _ rfl ?_;intro g kap w5 hown hgrow hat hlt5;have hm5:=(HM4.out.alloc (.cells #[.int .i64 U.kind,.string U.op,.int .i64 U.n,.string U.name,.slice U.kaddr U.kids.length U.kcap] 68)).far HXO.out hgrow;have hX:w5.heap[X]?=some (.cells #[.int .i64 3,.int .i64 t,.string s,.string {data:=#[104]},.slice (some ⟨O,0,none⟩) 1 1,.slice none 0 0,.slice none 0 0] 66 (0,0)):=hm5.hX;have hR:=hm5.hR;obtain⟨x0,x1,x2,x3,x4,x5,x6⟩:=zaR hX;have y0:=zac (k:=0) hX;have y2:=zac (k:=2) hX;have y3:=zac (k:=3) hX;have y4:=zac (k:=4) hX;have y5:=zac (k:=5) hX;have y6:=zac (k:=6) hX;obtain⟨r0,r1,r2,r3,r4,r5,r6⟩:=zaR hR;have z0:=zac (k:=0) hR;have z1:=zac (k:=1) hR;have z2:=zac (k:=2) hR;have z3:=zac (k:=3) hR;have z4:=zac (k:=4) hR;have z5:=zac (k:=5) hR;have z6:=zac (k:=6) hR;have hXlt:X < w5.heap.size:=lt_of_block hX;have hRlt:w.heap.size < w5.heap.size:=lt_of_block hR;clear hX hR;have HM5:=hid hm5;have HOWN:=hid hown;have HAT:=hid hat;have hk5:KeptP (FourP f w.heap.size X O) w4 w5:=((KeptP.refl _ w4).alloc (.cells #[.int .i64 U.kind,.string U.op,.int .i64 U.n,.string U.name,.slice U.kaddr U.kids.length U.kcap] 68)).grown (Or.inr rfl) hgrow;have HK5:=hid hk5;clear hm5 hown hat hk5 hgrow))
 all_goals go_wp2
 all_goals
  refine bodyPost_ret (v:=.agg #[.int .i64 3,.int .i64 t,.string s,.string {data:=#[104]},.slice (some ⟨g,0,none⟩) 2 kap,.slice none 0 0,.slice none 0 0]) (by simp[results,Tryz.results87,go_sem, *]) rfl ?_
  obtain⟨ht1,ht2⟩:=HT.out
  obtain⟨hBX,hBR⟩:=HBX.out
  have hXR:=HXR.out
  have hrr:w.heap.size≤w.heap.size:=Nat.le_refl _
  have hrx:w.heap.size≤X:=Nat.le_of_lt hXR
  refine⟨.mk 3 t s {data:=#[104]} (some ⟨g,0,none⟩) kap [T,U] none 0 [] none 0 [],q4,left,tag',rfl,gs_call2 ht1.1.1 (by omega) _ ht1.2 HS.out.1 HS.out.2 rfl (by simp[cGH0]) HT2.out.1 (by decide) HT4.out.1 (by decide) _ _ _ _ _ _,?_,?_,?_,by omega,by omega,by omega,(by first | exact zaS HM4.out.lo (by rfl) | exact zaS HM3.out.lo (by rfl) | exact zaS HM2.out.lo (by rfl) | exact zaS HM0.out.lo (by rfl))⟩
  ·rw[ST.In]
   refine⟨by omega,by simp,?_,by rw[SsIn];trivial,by rw[SsIn];trivial⟩
   obtain⟨cur,hcur,hten⟩:=ten_of_row HOWN.out
   have hgO:O≤g:=by
    have hl4:=lt_of_block HROW4.out
    rcases HAT.out with e | e
    ·simp[Value.ownBlock] at e;omega
    ·simp at e;omega
   have hgX:¬Three f w.heap.size X g:=HM3.out.three HXO.out g hgO
   have hKW:∀W,KeptP (Three f w.heap.size X) w5 W→EsIn W w.heap.size (some ⟨g,0,none⟩) 0 [T,U]:=by
    intro W hW
    have m:∀b,Three f w.heap.size X b→FourP f w.heap.size X O b:=fun b hb=>Or.inl hb
    have k5:KeptP (FourP f w.heap.size X O) w4 W:=HK5.out.trans (hW.mono m)
    have k2:KeptP (FourP f w.heap.size X O) w2 W:=((HK3.out.trans HK34.out).mono m).trans k5
    have hA4:=HT4.out.2.2
    have hA2:=HT2.out.2.2
    have hR:=HM2.out.lt
    have hOeq:=HO.out
    refine zd6 ((hW.block g (lt_of_block hcur) hgX).trans hcur) hten ?_ ?_ (by have:=HXO.out;omega)
    ·refine ET.In.mono (B:=_) ?_ (HT2.out.2.1.keep fun p u hp hc=>k2.cell ?_ hc)
     ·omega
     ·intro hp4
      have hlt:=World.block_lt_of_cell? w2 p hc
      rcases hp4 with hp4 | hp4
      ·exact HM2.out.three hA2 _ hp hp4
      ·omega
    ·refine ET.In.mono (B:=_) ?_ (HT4.out.2.1.keep fun p u hp hc=>k5.cell ?_ hc)
     ·omega
     ·intro hp4
      have hlt:=lt_of_block HROW.out
      rcases hp4 with hp4 | hp4
      ·exact HM3.out.three hA4 _ hp hp4
      ·have:w3.heap.size≤p.block:=hp
       omega
   refine hKW _ ?_
   (repeat (first | with_reducible exact KeptP.refl _ _ | with_reducible refine KeptP.set ?_ HPR.out _ _ | with_reducible refine KeptP.set ?_ HPX.out _ _ | with_reducible refine KeptP.drew ?_ | with_reducible refine KeptP.drewN ?_ _ | with_reducible refine KeptP.alloc ?_ _))
  ·have h1:=HM5.out.fd
   repeat (first | with_reducible exact h1 | with_reducible refine Fd.far ?_ hBX _ _ | with_reducible refine Fd.far ?_ hBR _ _ | with_reducible refine Fd.drew ?_ | with_reducible refine Fd.drewN ?_ _ | with_reducible refine Fd.alloc ?_ _)
  ·have h0:=HM5.out.gr
   repeat (first | with_reducible exact h0 | with_reducible refine zag ?_ hrx _ _ | with_reducible refine zag ?_ hrr _ _ | with_reducible refine zal ?_ | with_reducible refine zas ?_ _ | with_reducible refine zad ?_ _)
end
end Go.Proofs.YtljbbhhiiiepcaaGreatDoor

namespace Go.Proofs.YtljbbhhiiiepcaaGreatDoor
open Go Go.RowKit
open Go.Lib (hid)
section
variable {F:FeedC} {B f:Nat}
def Depth (F:FeedC) (B f D:Nat) (dv:Int):Prop:=(dv=0∧D=0)∨∃D2:Nat,D=D2+1∧dv=(D2:Int)+1∧D2≤9∧Deeper F B f D2
theorem head_cases (c dv:Int) (loop:Bool) (h:0≤dv):
  (dv=0∧decide ((0:Int) < 1)=true∧((loop=false∧(c=5∨c=6∨c=7∨c=8∨c=10∨c=11∨(¬(c=5∨c=6∨c=7∨c=8)∧decide (c=5)=false∧decide (c=6)=false∧decide (c=7)=false∧decide (c=8)=false∧(c==5)=false∧(c==6)=false∧(c==7)=false∧(c==8)=false∧decide (c=10)=false∧decide (c=11)=false∧(c==10)=false∧(c==11)=false)))∨(loop=true∧(c=5∨c=6∨c=7∨c=8∨(¬(c=5∨c=6∨c=7∨c=8)∧decide (c=5)=false∧decide (c=6)=false∧decide (c=7)=false∧decide (c=8)=false∧(c==5)=false∧(c==6)=false∧(c==7)=false∧(c==8)=false))))) ∨
  (1≤dv∧decide (dv < 1)=false∧((loop=false∧(c=10∨c=11∨(decide (c=10)=false∧decide (c=11)=false∧(c==10)=false∧(c==11)=false)))∨loop=true)):=by
 have n4:(c=5∨c=6∨c=7∨c=8)∨(¬(c=5∨c=6∨c=7∨c=8)∧decide (c=5)=false∧decide (c=6)=false∧decide (c=7)=false∧decide (c=8)=false∧(c==5)=false∧(c==6)=false∧(c==7)=false∧(c==8)=false):=by
  by_cases hq:c=5∨c=6∨c=7∨c=8
  ·exact Or.inl hq
  ·exact Or.inr ⟨hq,by refine⟨?_,?_,?_,?_,?_,?_,?_,?_⟩<;>simp<;>omega⟩
 have n2:(c=10∨c=11)∨(decide (c=10)=false∧decide (c=11)=false∧(c==10)=false∧(c==11)=false):=by
  by_cases hq:c=10∨c=11
  ·exact Or.inl hq
  ·exact Or.inr (by refine⟨?_,?_,?_,?_⟩<;>simp<;>omega)
 rcases(show dv=0∨1≤dv by omega) with h0 | h0
 ·refine Or.inl ⟨h0,by decide,?_⟩
  cases loop
  ·refine Or.inl ⟨rfl,?_⟩
   rcases n4 with (h | h | h | h) | h
   ·exact Or.inl h
   ·exact Or.inr (Or.inl h)
   ·exact Or.inr (Or.inr (Or.inl h))
   ·exact Or.inr (Or.inr (Or.inr (Or.inl h)))
   ·rcases n2 with (h' | h') | h'
    ·exact Or.inr (Or.inr (Or.inr (Or.inr (Or.inl h'))))
    ·exact Or.inr (Or.inr (Or.inr (Or.inr (Or.inr (Or.inl h')))))
    ·obtain⟨a0,a1,a2,a3,a4,a5,a6,a7,a8⟩:=h
     exact Or.inr (Or.inr (Or.inr (Or.inr (Or.inr (Or.inr ⟨a0,a1,a2,a3,a4,a5,a6,a7,a8,h'⟩)))))
  ·refine Or.inr ⟨rfl,?_⟩
   rcases n4 with (h | h | h | h) | h
   ·exact Or.inl h
   ·exact Or.inr (Or.inl h)
   ·exact Or.inr (Or.inr (Or.inl h))
   ·exact Or.inr (Or.inr (Or.inr (Or.inl h)))
   ·exact Or.inr (Or.inr (Or.inr (Or.inr h)))
 ·refine Or.inr ⟨h0,by simp;omega,?_⟩
  cases loop
  ·refine Or.inl ⟨rfl,?_⟩
   rcases n2 with (h' | h') | h'
   ·exact Or.inl h'
   ·exact Or.inr (Or.inl h')
   ·exact Or.inr (Or.inr h')
  ·exact Or.inr rfl
theorem tail_any (D:Nat) (loop:Bool) (dv v t tag' left kk:Int) (X q0:Nat) (v0:0≤v) (v1:v≤255) (hd:(Depth F B f D dv)) (hkk:0≤kk∧kk≤15) (hkD:dv=0→kk≠5∧kk≠6∧kk≠7∧kk≠8) (hkl:loop=false→kk≠10∧kk≠11):Tail F B f D kk loop dv v t tag' left X q0:=by
 rcases(show(kk=0∨kk=1∨kk=14∨kk=15)∨(kk=2∨kk=3)∨kk=4∨(kk=5∨kk=6)∨(kk=7∨kk=8)∨kk=9∨kk=10∨kk=11∨kk=12∨kk=13 by omega) with h | h | rfl | h | h | rfl | rfl | rfl | rfl | rfl
 ·exact tail_0 D loop dv v t tag' left X q0 v0 v1 kk h
 ·exact tail_2 D loop dv v t tag' left X q0 v0 v1 kk h
 ·exact tail_4 D loop dv v t tag' left X q0 v0 v1
 ·unfold Depth at hd
  rcases hd with ⟨h1,h2⟩ | ⟨D2,rfl,rfl,hD2,hDp⟩
  ·exfalso;have:=hkD h1;omega
  ·by_cases h32:v % 32 < 16
   ·exact tail_5t D2 loop _ v t tag' left X q0 v0 v1 h32 rfl hD2 hDp kk h
   ·exact tail_5f D2 loop _ v t tag' left X q0 v0 v1 h32 rfl hD2 hDp kk h
 ·unfold Depth at hd
  rcases hd with ⟨h1,h2⟩ | ⟨D2,rfl,rfl,hD2,hDp⟩
  ·exfalso;have:=hkD h1;omega
  ·exact tail_7 D2 loop _ v t tag' left X q0 v0 v1 rfl hD2 hDp kk h
 ·by_cases h32:v % 32 < 16
  ·exact tail_9t D loop dv v t tag' left X q0 v0 v1 h32
  ·exact tail_9f D loop dv v t tag' left X q0 v0 v1 h32
 ·exact tail_10 D loop dv v t tag' left X q0 v0 v1 (hid (by cases loop with | false=>exact absurd rfl (hkl rfl).1 | true=>rfl))
 ·exact tail_11 D loop dv v t tag' left X q0 v0 v1 (hid (by cases loop with | false=>exact absurd rfl (hkl rfl).2 | true=>rfl))
 ·exact tail_12 D loop dv v t tag' left X q0 v0 v1
 ·exact tail_13 D loop dv v t tag' left X q0 v0 v1
end
end Go.Proofs.YtljbbhhiiiepcaaGreatDoor
