/- A statement of the feed: up to the switch, one of three ways. -/
import Derived.Test.YtljbbhhiiiepcaaGreatDoorTFeedH
set_option linter.unusedSimpArgs false
set_option linter.unusedVariables false
set_option maxHeartbeats 8000000
set_option maxRecDepth 100000
namespace Go.Proofs.YtljbbhhiiiepcaaGreatDoor
open Go Go.RowKit
open Go.Lib (hid)
section
variable {F:FeedC} {B f:Nat}
theorem stmt_tag0 (D:Nat) (loop:Bool) (dv:Int) (p:Nat) (left tag:Int) (hl:0≤left) (ht:0≤tag) (htl:tag+left≤23) (hd:(Depth F B f D dv)) (w:World) (h:Fd F B f p left tag w) (hmn:F.main=false):
  Calls Tryz.prog 87 #[.pointer (some ⟨f,0,none⟩),.int .i64 dv,.bool loop] w (StPost F B f D loop w):=by
 have HB:f < w.heap.size:=by have:=h.lt;have:=h.size;omega
 obtain⟨v0,v1⟩:=h.nvb
 have H:=hid h
 have HM:=hid hmn
 obtain⟨v,hv⟩:∃v,F.nv p=v:=⟨_,rfl⟩
 have HV:=hid hv
 rw[hv] at v0 v1
 obtain⟨c,hc⟩:∃c,v % 16=c:=⟨_,rfl⟩
 have hc':v.tmod 16=c:=by rw[Int.tmod_eq_emod_of_nonneg v0];exact hc
 have hcb:0≤c∧c≤15:=by omega
 clear h hmn hv
 have wt:IntKind.i64.wrap (tag+1)=tag+1:=IntWalk.i64_in _ (by omega)
 have HDD:=hid hd
 have hdv:0≤dv:=by unfold Depth at hd;rcases hd with ⟨h1,-⟩ | ⟨D2,-,h1,-,-⟩<;>omega
 clear hd
 rcases head_cases c dv loop hdv with ⟨rfl,k9,⟨rfl,rfl | rfl | rfl | rfl | rfl | rfl | ⟨hq,e5,e6,e7,e8,g5,g6,g7,g8,e10,e11,g10,g11⟩⟩ | ⟨rfl,rfl | rfl | rfl | rfl | ⟨hq,e5,e6,e7,e8,g5,g6,g7,g8⟩⟩⟩ | ⟨hp,k9,⟨rfl,rfl | rfl | ⟨e10,e11,g10,g11⟩⟩ | rfl⟩
 all_goals
  go_enter Tryz.func87,Tryz.ntmps87
  go_upto_region 11 with (go_at_call 133;have hx:=next_val (H.out.alloc (.cells zS 66));rw[HV.out] at hx;refine hx.mono ?_;clear hx;rintro e w1 ⟨rfl,h1,hg1⟩;have hR:=(hg1.block w.heap.size (by simp) (by simp;omega)).trans (zaj w _);have HR:=hid hR;have H1:=hid h1;have HG1:=hid hg1;have c5:=h1.c5;have c6:=h1.c6;have z5:=h1.f1 5;have hlt:w.heap.size < w1.heap.size:=lt_of_block hR;have hfl:f < w1.heap.size:=(by omega);have ne1:¬f=w1.heap.size:=(by omega);have ne2:¬w1.heap.size=f:=(by omega);rw[HM.out] at c6;clear h1 hg1 hR)
  have hbf:w.heap.size≠f:=by omega
  have hM:MidS F B f w w1.heap.size (st0 0) (F.nq p) left tag (w1.alloc (.cells zS 66)):=⟨hlt,H.out.size,H.out.lt,zaj _ _,zai _ HR.out,H1.out.alloc _,zad (zaa (World.grownBy_alloc w _ (some f)) HG1.out) _,Int.le_of_eq (zco H.out).symm⟩
  exact tail_any D _ _ v 0 tag left _ w1.heap.size (F.nq p) v0 v1 HDD.out (by omega) (by intro _;omega) (by intro hlp;first | exact absurd hlp (by decide) | omega | (simp at e10 e11;omega)) w _ _ _ (by assumption) (by assumption) (hid ⟨⟨by omega,Or.inr ⟨rfl,(zbX H.out).symm⟩,fun _=>(zbX H.out).symm⟩,by omega⟩) (hid hM)
end
end Go.Proofs.YtljbbhhiiiepcaaGreatDoor
namespace Go.Proofs.YtljbbhhiiiepcaaGreatDoor
open Go Go.RowKit
open Go.Lib (hid)
section
variable {F:FeedC} {B f:Nat}
theorem stmt_tag1 (D:Nat) (loop:Bool) (dv:Int) (p:Nat) (left tag:Int) (hl:0≤left) (ht:0≤tag) (htl:tag+left≤23) (hd:(Depth F B f D dv)) (w:World) (h:Fd F B f p left tag w) (hmn:F.main=true) (hb:F.nv p < 128):
  Calls Tryz.prog 87 #[.pointer (some ⟨f,0,none⟩),.int .i64 dv,.bool loop] w (StPost F B f D loop w):=by
 have HB:f < w.heap.size:=by have:=h.lt;have:=h.size;omega
 obtain⟨v0,v1⟩:=h.nvb
 have H:=hid h
 have HM:=hid hmn
 obtain⟨v,hv⟩:∃v,F.nv p=v:=⟨_,rfl⟩
 have HV:=hid hv
 rw[hv] at v0 v1 hb
 obtain⟨c,hc⟩:∃c,v % 16=c:=⟨_,rfl⟩
 have hc':v.tmod 16=c:=by rw[Int.tmod_eq_emod_of_nonneg v0];exact hc
 have hcb:0≤c∧c≤15:=by omega
 clear h hmn hv
 have wt:IntKind.i64.wrap (tag+1)=tag+1:=IntWalk.i64_in _ (by omega)
 have b1:decide (128≤v)=false:=by simp;omega
 have HDD:=hid hd
 have hdv:0≤dv:=by unfold Depth at hd;rcases hd with ⟨h1,-⟩ | ⟨D2,-,h1,-,-⟩<;>omega
 clear hd
 rcases head_cases c dv loop hdv with ⟨rfl,k9,⟨rfl,rfl | rfl | rfl | rfl | rfl | rfl | ⟨hq,e5,e6,e7,e8,g5,g6,g7,g8,e10,e11,g10,g11⟩⟩ | ⟨rfl,rfl | rfl | rfl | rfl | ⟨hq,e5,e6,e7,e8,g5,g6,g7,g8⟩⟩⟩ | ⟨hp,k9,⟨rfl,rfl | rfl | ⟨e10,e11,g10,g11⟩⟩ | rfl⟩
 all_goals
  go_enter Tryz.func87,Tryz.ntmps87
  go_upto_region 11 with (go_at_call 133;have hx:=next_val (H.out.alloc (.cells zS 66));rw[HV.out] at hx;refine hx.mono ?_;clear hx;rintro e w1 ⟨rfl,h1,hg1⟩;have hR:=(hg1.block w.heap.size (by simp) (by simp;omega)).trans (zaj w _);have HR:=hid hR;have H1:=hid h1;have HG1:=hid hg1;have c5:=h1.c5;have c6:=h1.c6;have z5:=h1.f1 5;have hlt:w.heap.size < w1.heap.size:=lt_of_block hR;have hfl:f < w1.heap.size:=(by omega);have ne1:¬f=w1.heap.size:=(by omega);have ne2:¬w1.heap.size=f:=(by omega);rw[HM.out] at c6;clear h1 hg1 hR)
  have hbf:w.heap.size≠f:=by omega
  have hM:MidS F B f w w1.heap.size (st0 0) (F.nq p) left tag (w1.alloc (.cells zS 66)):=⟨hlt,H.out.size,H.out.lt,zaj _ _,zai _ HR.out,H1.out.alloc _,zad (zaa (World.grownBy_alloc w _ (some f)) HG1.out) _,Int.le_of_eq (zco H.out).symm⟩
  exact tail_any D _ _ v 0 tag left _ w1.heap.size (F.nq p) v0 v1 HDD.out (by omega) (by intro _;omega) (by intro hlp;first | exact absurd hlp (by decide) | omega | (simp at e10 e11;omega)) w _ _ _ (by assumption) (by assumption) (hid ⟨⟨by omega,Or.inr ⟨rfl,(zbX H.out).symm⟩,fun _=>(zbX H.out).symm⟩,by omega⟩) (hid hM)
end
end Go.Proofs.YtljbbhhiiiepcaaGreatDoor

namespace Go.Proofs.YtljbbhhiiiepcaaGreatDoor
open Go Go.RowKit
open Go.Lib (hid)
section
variable {F:FeedC} {B f:Nat}
theorem stmt_tag2 (D:Nat) (loop:Bool) (dv:Int) (p:Nat) (left tag:Int) (hl:0≤left) (ht:0≤tag) (htl:tag+left≤23) (hd:(Depth F B f D dv)) (w:World) (h:Fd F B f p left tag w) (hmn:F.main=true) (hb:128≤F.nv p):
  Calls Tryz.prog 87 #[.pointer (some ⟨f,0,none⟩),.int .i64 dv,.bool loop] w (StPost F B f D loop w):=by
 have HB:f < w.heap.size:=by have:=h.lt;have:=h.size;omega
 obtain⟨v0,v1⟩:=h.nvb
 have H:=hid h
 have HM:=hid hmn
 obtain⟨v,hv⟩:∃v,F.nv p=v:=⟨_,rfl⟩
 have HV:=hid hv
 rw[hv] at v0 v1 hb
 obtain⟨c,hc⟩:∃c,v % 16=c:=⟨_,rfl⟩
 have hc':v.tmod 16=c:=by rw[Int.tmod_eq_emod_of_nonneg v0];exact hc
 have hcb:0≤c∧c≤15:=by omega
 clear h hmn hv
 have wt:IntKind.i64.wrap (tag+1)=tag+1:=IntWalk.i64_in _ (by omega)
 have b1:decide (128≤v)=true:=by simp;omega
 have HDD:=hid hd
 have hdv:0≤dv:=by unfold Depth at hd;rcases hd with ⟨h1,-⟩ | ⟨D2,-,h1,-,-⟩<;>omega
 clear hd
 rcases head_cases c dv loop hdv with ⟨rfl,k9,⟨rfl,rfl | rfl | rfl | rfl | rfl | rfl | ⟨hq,e5,e6,e7,e8,g5,g6,g7,g8,e10,e11,g10,g11⟩⟩ | ⟨rfl,rfl | rfl | rfl | rfl | ⟨hq,e5,e6,e7,e8,g5,g6,g7,g8⟩⟩⟩ | ⟨hp,k9,⟨rfl,rfl | rfl | ⟨e10,e11,g10,g11⟩⟩ | rfl⟩
 all_goals
  go_enter Tryz.func87,Tryz.ntmps87
  go_upto_region 11 with (go_at_call 133;have hx:=next_val (H.out.alloc (.cells zS 66));rw[HV.out] at hx;refine hx.mono ?_;clear hx;rintro e w1 ⟨rfl,h1,hg1⟩;have hR:=(hg1.block w.heap.size (by simp) (by simp;omega)).trans (zaj w _);have HR:=hid hR;have H1:=hid h1;have HG1:=hid hg1;have c5:=h1.c5;have c6:=h1.c6;have z5:=h1.f1 5;have hlt:w.heap.size < w1.heap.size:=lt_of_block hR;have hfl:f < w1.heap.size:=(by omega);have ne1:¬f=w1.heap.size:=(by omega);have ne2:¬w1.heap.size=f:=(by omega);rw[HM.out] at c6;clear h1 hg1 hR)
  have hbf:w.heap.size≠f:=by omega
  have hM:MidS F B f w w1.heap.size (st0 (tag+1)) (F.nq p) left (tag+1) ((w1.setCell ⟨f,5,none⟩ (.int .i64 (tag+1))).alloc (.cells (tS (tag+1)) 66)):=⟨hlt,H.out.size,H.out.lt,zao _ (by simp),zai _ ((Below.heap_setCell _ _ _ _ hbf).trans HR.out),(H1.out.sett (tag+1)).alloc _,zad (zat (zaa (World.grownBy_alloc w _ (some f)) HG1.out) _ _) _,Int.le_of_eq (zco H.out).symm⟩
  exact tail_any D _ _ v (tag+1) (tag+1) left _ w1.heap.size (F.nq p) v0 v1 HDD.out (by omega) (by intro _;omega) (by intro hlp;first | exact absurd hlp (by decide) | omega | (simp at e10 e11;omega)) w _ _ _ (by assumption) (by assumption) (hid ⟨⟨by omega,Or.inl ⟨rfl,by rw[zbX H.out],by rw[zbX H.out];omega⟩,fun e=>by rw[HM.out] at e;cases e⟩,by omega⟩) (hid hM)
end
end Go.Proofs.YtljbbhhiiiepcaaGreatDoor
