/- A statement of the feed: up to the switch, one of three ways. -/
import Derived.Test.YtljbbhhiiiepcaaGreatDoorTFeedK1
import Derived.Test.YtljbbhhiiiepcaaGreatDoorTFeedK2
import Derived.Test.YtljbbhhiiiepcaaGreatDoorTFeedK4
set_option linter.unusedSimpArgs false
set_option linter.unusedVariables false
set_option maxHeartbeats 8000000
set_option maxRecDepth 100000
namespace Go.Proofs.YtljbbhhiiiepcaaGreatDoor
open Go Go.RowKit
open Go.Lib (hid)
section
variable {F:FeedC} {B f:Nat}
def Depth (F:FeedC) (B f D:Nat) (dv:Int):Prop:=(dv=0∧D=0)∨∃D2:Nat,D=D2+1∧dv=(D2:Int)+1∧D2≤9∧Deeper F B f D2
theorem head_cases (c dv:Int) (loop:Bool) (h:0≤dv):
  (dv=0∧decide ((0:Int) < 1)=true∧((loop=false∧(c=5∨c=6∨c=7∨c=8∨c=10∨c=11∨(¬(c=5∨c=6∨c=7∨c=8)∧decide (c=5)=false∧decide (c=6)=false∧decide (c=7)=false∧decide (c=8)=false∧(c==5)=false∧(c==6)=false∧(c==7)=false∧(c==8)=false∧decide (c=10)=false∧decide (c=11)=false∧(c==10)=false∧(c==11)=false)))∨(loop=true∧(c=5∨c=6∨c=7∨c=8∨(¬(c=5∨c=6∨c=7∨c=8)∧decide (c=5)=false∧decide (c=6)=false∧decide (c=7)=false∧decide (c=8)=false∧(c==5)=false∧(c==6)=false∧(c==7)=false∧(c==8)=false))))) ∨
  (1≤dv∧decide (dv < 1)=false∧((loop=false∧(c=10∨c=11∨(decide (c=10)=false∧decide (c=11)=false∧(c==10)=false∧(c==11)=false)))∨loop=true)):=by
 have n4:(c=5∨c=6∨c=7∨c=8)∨(¬(c=5∨c=6∨c=7∨c=8)∧decide (c=5)=false∧decide (c=6)=false∧decide (c=7)=false∧decide (c=8)=false∧(c==5)=false∧(c==6)=false∧(c==7)=false∧(c==8)=false):=by
  by_cases hq:c=5∨c=6∨c=7∨c=8
  ·exact Or.inl hq
  ·exact Or.inr ⟨hq,by refine⟨?_,?_,?_,?_,?_,?_,?_,?_⟩<;>simp<;>omega⟩
 have n2:(c=10∨c=11)∨(decide (c=10)=false∧decide (c=11)=false∧(c==10)=false∧(c==11)=false):=by
  by_cases hq:c=10∨c=11
  ·exact Or.inl hq
  ·exact Or.inr (by refine⟨?_,?_,?_,?_⟩<;>simp<;>omega)
 rcases(show dv=0∨1≤dv by omega) with h0 | h0
 ·refine Or.inl ⟨h0,by decide,?_⟩
  cases loop
  ·refine Or.inl ⟨rfl,?_⟩
   rcases n4 with (h | h | h | h) | h
   ·exact Or.inl h
   ·exact Or.inr (Or.inl h)
   ·exact Or.inr (Or.inr (Or.inl h))
   ·exact Or.inr (Or.inr (Or.inr (Or.inl h)))
   ·rcases n2 with (h' | h') | h'
    ·exact Or.inr (Or.inr (Or.inr (Or.inr (Or.inl h'))))
    ·exact Or.inr (Or.inr (Or.inr (Or.inr (Or.inr (Or.inl h')))))
    ·obtain⟨a0,a1,a2,a3,a4,a5,a6,a7,a8⟩:=h
     exact Or.inr (Or.inr (Or.inr (Or.inr (Or.inr (Or.inr ⟨a0,a1,a2,a3,a4,a5,a6,a7,a8,h'⟩)))))
  ·refine Or.inr ⟨rfl,?_⟩
   rcases n4 with (h | h | h | h) | h
   ·exact Or.inl h
   ·exact Or.inr (Or.inl h)
   ·exact Or.inr (Or.inr (Or.inl h))
   ·exact Or.inr (Or.inr (Or.inr (Or.inl h)))
   ·exact Or.inr (Or.inr (Or.inr (Or.inr h)))
 ·refine Or.inr ⟨h0,by simp;omega,?_⟩
  cases loop
  ·refine Or.inl ⟨rfl,?_⟩
   rcases n2 with (h' | h') | h'
   ·exact Or.inl h'
   ·exact Or.inr (Or.inl h')
   ·exact Or.inr (Or.inr h')
  ·exact Or.inr rfl
theorem tail_any (D:Nat) (loop:Bool) (dv v t tag' left kk:Int) (X q0:Nat) (v0:0≤v) (v1:v≤255) (hd:(Depth F B f D dv)) (hkk:0≤kk∧kk≤15) (hkD:dv=0→kk≠5∧kk≠6∧kk≠7∧kk≠8) (hkl:loop=false→kk≠10∧kk≠11):Tail F B f D kk loop dv v t tag' left X q0:=by
 rcases(show(kk=0∨kk=1∨kk=14∨kk=15)∨(kk=2∨kk=3)∨kk=4∨(kk=5∨kk=6)∨(kk=7∨kk=8)∨kk=9∨kk=10∨kk=11∨kk=12∨kk=13 by omega) with h | h | rfl | h | h | rfl | rfl | rfl | rfl | rfl
 ·exact tail_0 D loop dv v t tag' left X q0 v0 v1 kk h
 ·exact tail_2 D loop dv v t tag' left X q0 v0 v1 kk h
 ·exact tail_4 D loop dv v t tag' left X q0 v0 v1
 ·unfold Depth at hd
  rcases hd with ⟨h1,h2⟩ | ⟨D2,rfl,rfl,hD2,hDp⟩
  ·exfalso;have:=hkD h1;omega
  ·by_cases h32:v % 32 < 16
   ·exact tail_5t D2 loop _ v t tag' left X q0 v0 v1 h32 rfl hD2 hDp kk h
   ·exact tail_5f D2 loop _ v t tag' left X q0 v0 v1 h32 rfl hD2 hDp kk h
 ·unfold Depth at hd
  rcases hd with ⟨h1,h2⟩ | ⟨D2,rfl,rfl,hD2,hDp⟩
  ·exfalso;have:=hkD h1;omega
  ·exact tail_7 D2 loop _ v t tag' left X q0 v0 v1 rfl hD2 hDp kk h
 ·by_cases h32:v % 32 < 16
  ·exact tail_9t D loop dv v t tag' left X q0 v0 v1 h32
  ·exact tail_9f D loop dv v t tag' left X q0 v0 v1 h32
 ·exact tail_10 D loop dv v t tag' left X q0 v0 v1 (hid (by cases loop with | false=>exact absurd rfl (hkl rfl).1 | true=>rfl))
 ·exact tail_11 D loop dv v t tag' left X q0 v0 v1 (hid (by cases loop with | false=>exact absurd rfl (hkl rfl).2 | true=>rfl))
 ·exact tail_12 D loop dv v t tag' left X q0 v0 v1
 ·exact tail_13 D loop dv v t tag' left X q0 v0 v1
end
end Go.Proofs.YtljbbhhiiiepcaaGreatDoor

namespace Go.Proofs.YtljbbhhiiiepcaaGreatDoor
open Go Go.RowKit
open Go.Lib (hid)
section
variable {F:FeedC} {B f:Nat}
theorem stmt_tag0 (D:Nat) (loop:Bool) (dv:Int) (p:Nat) (left tag:Int) (hl:0≤left) (ht:0≤tag) (htl:tag+left≤23) (hd:(Depth F B f D dv)) (w:World) (h:Fd F B f p left tag w) (hmn:F.main=false):
  Calls Tryz.prog 87 #[.pointer (some ⟨f,0,none⟩),.int .i64 dv,.bool loop] w (StPost F B f D loop w):=by
 have HB:f < w.heap.size:=by have:=h.lt;have:=h.size;omega
 obtain⟨v0,v1⟩:=h.nvb
 have H:=hid h
 have HM:=hid hmn
 obtain⟨v,hv⟩:∃v,F.nv p=v:=⟨_,rfl⟩
 have HV:=hid hv
 rw[hv] at v0 v1
 obtain⟨c,hc⟩:∃c,v % 16=c:=⟨_,rfl⟩
 have hc':v.tmod 16=c:=by rw[Int.tmod_eq_emod_of_nonneg v0];exact hc
 have hcb:0≤c∧c≤15:=by omega
 clear h hmn hv
 have wt:IntKind.i64.wrap (tag+1)=tag+1:=IntWalk.i64_in _ (by omega)
 have HDD:=hid hd
 have hdv:0≤dv:=by unfold Depth at hd;rcases hd with ⟨h1,-⟩ | ⟨D2,-,h1,-,-⟩<;>omega
 clear hd
 rcases head_cases c dv loop hdv with ⟨rfl,k9,⟨rfl,rfl | rfl | rfl | rfl | rfl | rfl | ⟨hq,e5,e6,e7,e8,g5,g6,g7,g8,e10,e11,g10,g11⟩⟩ | ⟨rfl,rfl | rfl | rfl | rfl | ⟨hq,e5,e6,e7,e8,g5,g6,g7,g8⟩⟩⟩ | ⟨hp,k9,⟨rfl,rfl | rfl | ⟨e10,e11,g10,g11⟩⟩ | rfl⟩
 all_goals
  go_enter Tryz.func87,Tryz.ntmps87
  go_upto_region 11 with (go_at_call 133;have hx:=next_val (H.out.alloc (.cells zS 66));rw[HV.out] at hx;refine hx.mono ?_;clear hx;rintro e w1 ⟨rfl,h1,hg1⟩;have hR:=(hg1.block w.heap.size (by simp) (by simp;omega)).trans (zaj w _);have HR:=hid hR;have H1:=hid h1;have HG1:=hid hg1;have c5:=h1.c5;have c6:=h1.c6;have z5:=h1.f1 5;have hlt:w.heap.size < w1.heap.size:=lt_of_block hR;have hfl:f < w1.heap.size:=(by omega);have ne1:¬f=w1.heap.size:=(by omega);have ne2:¬w1.heap.size=f:=(by omega);rw[HM.out] at c6;clear h1 hg1 hR)
  have hbf:w.heap.size≠f:=by omega
  have hM:MidS F B f w w1.heap.size (st0 0) (F.nq p) left tag (w1.alloc (.cells zS 66)):=⟨hlt,H.out.size,H.out.lt,zaj _ _,zah _ HR.out,H1.out.alloc _,zad (zaa (World.grownBy_alloc w _ (some f)) HG1.out) _,Int.le_of_eq (zcn H.out).symm⟩
  exact tail_any D _ _ v 0 tag left _ w1.heap.size (F.nq p) v0 v1 HDD.out (by omega) (by intro _;omega) (by intro hlp;first | exact absurd hlp (by decide) | omega | (simp at e10 e11;omega)) w _ _ _ (by assumption) (by assumption) (hid ⟨⟨by omega,Or.inr ⟨rfl,(zbX H.out).symm⟩,fun _=>(zbX H.out).symm⟩,by omega⟩) (hid hM)
end
end Go.Proofs.YtljbbhhiiiepcaaGreatDoor
namespace Go.Proofs.YtljbbhhiiiepcaaGreatDoor
open Go Go.RowKit
open Go.Lib (hid)
section
variable {F:FeedC} {B f:Nat}
theorem stmt_tag1 (D:Nat) (loop:Bool) (dv:Int) (p:Nat) (left tag:Int) (hl:0≤left) (ht:0≤tag) (htl:tag+left≤23) (hd:(Depth F B f D dv)) (w:World) (h:Fd F B f p left tag w) (hmn:F.main=true) (hb:F.nv p < 128):
  Calls Tryz.prog 87 #[.pointer (some ⟨f,0,none⟩),.int .i64 dv,.bool loop] w (StPost F B f D loop w):=by
 have HB:f < w.heap.size:=by have:=h.lt;have:=h.size;omega
 obtain⟨v0,v1⟩:=h.nvb
 have H:=hid h
 have HM:=hid hmn
 obtain⟨v,hv⟩:∃v,F.nv p=v:=⟨_,rfl⟩
 have HV:=hid hv
 rw[hv] at v0 v1 hb
 obtain⟨c,hc⟩:∃c,v % 16=c:=⟨_,rfl⟩
 have hc':v.tmod 16=c:=by rw[Int.tmod_eq_emod_of_nonneg v0];exact hc
 have hcb:0≤c∧c≤15:=by omega
 clear h hmn hv
 have wt:IntKind.i64.wrap (tag+1)=tag+1:=IntWalk.i64_in _ (by omega)
 have b1:decide (128≤v)=false:=by simp;omega
 have HDD:=hid hd
 have hdv:0≤dv:=by unfold Depth at hd;rcases hd with ⟨h1,-⟩ | ⟨D2,-,h1,-,-⟩<;>omega
 clear hd
 rcases head_cases c dv loop hdv with ⟨rfl,k9,⟨rfl,rfl | rfl | rfl | rfl | rfl | rfl | ⟨hq,e5,e6,e7,e8,g5,g6,g7,g8,e10,e11,g10,g11⟩⟩ | ⟨rfl,rfl | rfl | rfl | rfl | ⟨hq,e5,e6,e7,e8,g5,g6,g7,g8⟩⟩⟩ | ⟨hp,k9,⟨rfl,rfl | rfl | ⟨e10,e11,g10,g11⟩⟩ | rfl⟩
 all_goals
  go_enter Tryz.func87,Tryz.ntmps87
  go_upto_region 11 with (go_at_call 133;have hx:=next_val (H.out.alloc (.cells zS 66));rw[HV.out] at hx;refine hx.mono ?_;clear hx;rintro e w1 ⟨rfl,h1,hg1⟩;have hR:=(hg1.block w.heap.size (by simp) (by simp;omega)).trans (zaj w _);have HR:=hid hR;have H1:=hid h1;have HG1:=hid hg1;have c5:=h1.c5;have c6:=h1.c6;have z5:=h1.f1 5;have hlt:w.heap.size < w1.heap.size:=lt_of_block hR;have hfl:f < w1.heap.size:=(by omega);have ne1:¬f=w1.heap.size:=(by omega);have ne2:¬w1.heap.size=f:=(by omega);rw[HM.out] at c6;clear h1 hg1 hR)
  have hbf:w.heap.size≠f:=by omega
  have hM:MidS F B f w w1.heap.size (st0 0) (F.nq p) left tag (w1.alloc (.cells zS 66)):=⟨hlt,H.out.size,H.out.lt,zaj _ _,zah _ HR.out,H1.out.alloc _,zad (zaa (World.grownBy_alloc w _ (some f)) HG1.out) _,Int.le_of_eq (zcn H.out).symm⟩
  exact tail_any D _ _ v 0 tag left _ w1.heap.size (F.nq p) v0 v1 HDD.out (by omega) (by intro _;omega) (by intro hlp;first | exact absurd hlp (by decide) | omega | (simp at e10 e11;omega)) w _ _ _ (by assumption) (by assumption) (hid ⟨⟨by omega,Or.inr ⟨rfl,(zbX H.out).symm⟩,fun _=>(zbX H.out).symm⟩,by omega⟩) (hid hM)
end
end Go.Proofs.YtljbbhhiiiepcaaGreatDoor

namespace Go.Proofs.YtljbbhhiiiepcaaGreatDoor
open Go Go.RowKit
open Go.Lib (hid)
section
variable {F:FeedC} {B f:Nat}
theorem stmt_tag2 (D:Nat) (loop:Bool) (dv:Int) (p:Nat) (left tag:Int) (hl:0≤left) (ht:0≤tag) (htl:tag+left≤23) (hd:(Depth F B f D dv)) (w:World) (h:Fd F B f p left tag w) (hmn:F.main=true) (hb:128≤F.nv p):
  Calls Tryz.prog 87 #[.pointer (some ⟨f,0,none⟩),.int .i64 dv,.bool loop] w (StPost F B f D loop w):=by
 have HB:f < w.heap.size:=by have:=h.lt;have:=h.size;omega
 obtain⟨v0,v1⟩:=h.nvb
 have H:=hid h
 have HM:=hid hmn
 obtain⟨v,hv⟩:∃v,F.nv p=v:=⟨_,rfl⟩
 have HV:=hid hv
 rw[hv] at v0 v1 hb
 obtain⟨c,hc⟩:∃c,v % 16=c:=⟨_,rfl⟩
 have hc':v.tmod 16=c:=by rw[Int.tmod_eq_emod_of_nonneg v0];exact hc
 have hcb:0≤c∧c≤15:=by omega
 clear h hmn hv
 have wt:IntKind.i64.wrap (tag+1)=tag+1:=IntWalk.i64_in _ (by omega)
 have b1:decide (128≤v)=true:=by simp;omega
 have HDD:=hid hd
 have hdv:0≤dv:=by unfold Depth at hd;rcases hd with ⟨h1,-⟩ | ⟨D2,-,h1,-,-⟩<;>omega
 clear hd
 rcases head_cases c dv loop hdv with ⟨rfl,k9,⟨rfl,rfl | rfl | rfl | rfl | rfl | rfl | ⟨hq,e5,e6,e7,e8,g5,g6,g7,g8,e10,e11,g10,g11⟩⟩ | ⟨rfl,rfl | rfl | rfl | rfl | ⟨hq,e5,e6,e7,e8,g5,g6,g7,g8⟩⟩⟩ | ⟨hp,k9,⟨rfl,rfl | rfl | ⟨e10,e11,g10,g11⟩⟩ | rfl⟩
 all_goals
  go_enter Tryz.func87,Tryz.ntmps87
  go_upto_region 11 with (go_at_call 133;have hx:=next_val (H.out.alloc (.cells zS 66));rw[HV.out] at hx;refine hx.mono ?_;clear hx;rintro e w1 ⟨rfl,h1,hg1⟩;have hR:=(hg1.block w.heap.size (by simp) (by simp;omega)).trans (zaj w _);have HR:=hid hR;have H1:=hid h1;have HG1:=hid hg1;have c5:=h1.c5;have c6:=h1.c6;have z5:=h1.f1 5;have hlt:w.heap.size < w1.heap.size:=lt_of_block hR;have hfl:f < w1.heap.size:=(by omega);have ne1:¬f=w1.heap.size:=(by omega);have ne2:¬w1.heap.size=f:=(by omega);rw[HM.out] at c6;clear h1 hg1 hR)
  have hbf:w.heap.size≠f:=by omega
  have hM:MidS F B f w w1.heap.size (st0 (tag+1)) (F.nq p) left (tag+1) ((w1.setCell ⟨f,5,none⟩ (.int .i64 (tag+1))).alloc (.cells (tS (tag+1)) 66)):=⟨hlt,H.out.size,H.out.lt,zao _ (by simp),zah _ ((Below.heap_setCell _ _ _ _ hbf).trans HR.out),(H1.out.sett (tag+1)).alloc _,zad (zat (zaa (World.grownBy_alloc w _ (some f)) HG1.out) _ _) _,Int.le_of_eq (zcn H.out).symm⟩
  exact tail_any D _ _ v (tag+1) (tag+1) left _ w1.heap.size (F.nq p) v0 v1 HDD.out (by omega) (by intro _;omega) (by intro hlp;first | exact absurd hlp (by decide) | omega | (simp at e10 e11;omega)) w _ _ _ (by assumption) (by assumption) (hid ⟨⟨by omega,Or.inl ⟨rfl,by rw[zbX H.out],by rw[zbX H.out];omega⟩,fun e=>by rw[HM.out] at e;cases e⟩,by omega⟩) (hid hM)
end
end Go.Proofs.YtljbbhhiiiepcaaGreatDoor
