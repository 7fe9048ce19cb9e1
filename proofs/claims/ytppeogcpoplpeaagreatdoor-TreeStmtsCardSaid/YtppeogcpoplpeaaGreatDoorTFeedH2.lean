/- A statement of the feed: up to the switch, one of three ways. -/
import Derived.Test.YtppeogcpoplpeaaGreatDoorTFeedH
set_option linter.unusedSimpArgs false
set_option linter.unusedVariables false
namespace Go.Proofs.YtppeogcpoplpeaaGreatDoor
open Go Go.RowKit

section
variable {F : FeedC} {B f : Nat}
set_option maxHeartbeats 8000000 in
set_option maxRecDepth 100000 in
theorem stmt_tag2 (D : Nat) (loop : Bool) (dv : Int) (p : Nat) (left tag : Int) (hl : 0 ≤ left) (ht : 0 ≤ tag) (htl : tag + left ≤ 23) (hd : (Depth F B f D dv)) (w : World) (h : Fd F B f p left tag w) (hmn : F.main = true) (hb : 128 ≤ F.nv p) :
    Calls Tryz.prog 93 #[.pointer (some ⟨f, 0, none⟩), .int .i64 dv, .bool loop] w (StPost F B f D w) := by
  have HB : f < w.heap.size := by have := h.lt; have := h.size; omega
  obtain ⟨v0, v1⟩ := h.nvb
  have H := Lib.hid h
  have HM := Lib.hid hmn
  obtain ⟨v, hv⟩ : ∃ v, F.nv p = v := ⟨_, rfl⟩
  have HV := Lib.hid hv
  rw [hv] at v0 v1 hb
  obtain ⟨c, hc⟩ : ∃ c, v % 16 = c := ⟨_, rfl⟩
  have hc' : v.tmod 16 = c := by rw [Int.tmod_eq_emod_of_nonneg v0]; exact hc
  have hcb : 0 ≤ c ∧ c ≤ 15 := by omega
  clear h hmn hv
  have wt : IntKind.i64.wrap (tag + 1) = tag + 1 := IntWalk.i64_in _ (by omega)
  have b1 : decide (128 ≤ v) = true := by simp; omega
  have HDD := Lib.hid hd
  rcases (show dv = 0 ∨ 1 ≤ dv by unfold Depth at hd; rcases hd with ⟨h1, -⟩ | ⟨D2, -, h1, -, -⟩ <;> omega) with hz | hp
  · clear hd
    subst hz
    have k9 : decide ((0 : Int) < 1) = true := by decide
    by_cases hq : c = 5 ∨ c = 6 ∨ c = 7 ∨ c = 8
    · rcases hq with rfl | rfl | rfl | rfl
      · cases loop
        · skip
          go_enter Tryz.func93, Tryz.ntmps93
          go_upto_region 11 with (go_at_call 61; have hx := next_val (H.out.alloc (.cells zS 83)); rw [HV.out] at hx; refine hx.mono ?_; clear hx; rintro e w1 ⟨rfl, h1, hg1⟩; have hR := (hg1.block w.heap.size (by simp) (by simp; omega)).trans (bk_new w _); have HR := Lib.hid hR; have H1 := Lib.hid h1; have HG1 := Lib.hid hg1; have c5 := h1.c5; have c6 := h1.c6; have z5 := h1.f1 5; have hlt : w.heap.size < w1.heap.size := lt_of_block hR; have hfl : f < w1.heap.size := (by omega); have ne1 : ¬ f = w1.heap.size := (by omega); have ne2 : ¬ w1.heap.size = f := (by omega); rw [HM.out] at c6; clear h1 hg1 hR)
          have hbf : w.heap.size ≠ f := by omega
          have hM : MidS F B f w w1.heap.size (st0 (tag + 1)) (F.nq p) left (tag + 1) ((w1.setCell ⟨f, 5, none⟩ (.int .i64 (tag + 1))).alloc (.cells (tS (tag + 1)) 83)) := ⟨hlt, H.out.size, H.out.lt, bk_new' _ (by simp), bk_old _ ((Below.heap_setCell _ _ _ _ hbf).trans HR.out), (H1.out.sett (tag + 1)).alloc _, grown_alloc (grown_set (grown_trans (World.grownBy_alloc w _ (some f)) HG1.out) _ _) _⟩
          exact tail_any D _ _ v (tag + 1) (tag + 1) left 0 w1.heap.size (F.nq p) v0 v1 HDD.out (by omega) (by intro _; omega) w _ _ _ _ _ _ _ _ _ _ _ _ _ _ _ _ _ _ _ _ _ _ _ _ _ _ _ _ _ _ _ _ _ _ _ _ _ _ _ _ _ _ _ _ _ _ _ _ _ _ _ _ _ _ _ _ _ _ _ _ _ _ _ _ _ _ _ _ _ _ _ _ _ _ _ _ _ _ _ _ _ _ _ _ _ _ _ _ _ _ _ _ _ _ _ _ _ _ _ _ _ _ _ _ _ _ _ _ _ _ _ _ _ _ _ _ _ _ _ _ _ _ _ _ _ _ _ _ _ _ _ _ _ _ _ _ _ _ _ _ _ _ _ _ _ _ _ _ _ _ _ _ _ _ _ _ _ _ _ _ _ _ _ _ _ _ _ _ _ _ _ _ _ _ _ _ _ _ _ _ _ _ _ _ _ _ _ _ _ _ _ _ _ _ _ _ _ _ _ _ _ _ _ _ _ _ _ _ _ _ _ _ _ _ _ (by assumption) (by assumption) (Lib.hid (by omega)) (Lib.hid hM)
        · skip
          go_enter Tryz.func93, Tryz.ntmps93
          go_upto_region 11 with (go_at_call 61; have hx := next_val (H.out.alloc (.cells zS 83)); rw [HV.out] at hx; refine hx.mono ?_; clear hx; rintro e w1 ⟨rfl, h1, hg1⟩; have hR := (hg1.block w.heap.size (by simp) (by simp; omega)).trans (bk_new w _); have HR := Lib.hid hR; have H1 := Lib.hid h1; have HG1 := Lib.hid hg1; have c5 := h1.c5; have c6 := h1.c6; have z5 := h1.f1 5; have hlt : w.heap.size < w1.heap.size := lt_of_block hR; have hfl : f < w1.heap.size := (by omega); have ne1 : ¬ f = w1.heap.size := (by omega); have ne2 : ¬ w1.heap.size = f := (by omega); rw [HM.out] at c6; clear h1 hg1 hR)
          have hbf : w.heap.size ≠ f := by omega
          have hM : MidS F B f w w1.heap.size (st0 (tag + 1)) (F.nq p) left (tag + 1) ((w1.setCell ⟨f, 5, none⟩ (.int .i64 (tag + 1))).alloc (.cells (tS (tag + 1)) 83)) := ⟨hlt, H.out.size, H.out.lt, bk_new' _ (by simp), bk_old _ ((Below.heap_setCell _ _ _ _ hbf).trans HR.out), (H1.out.sett (tag + 1)).alloc _, grown_alloc (grown_set (grown_trans (World.grownBy_alloc w _ (some f)) HG1.out) _ _) _⟩
          exact tail_any D _ _ v (tag + 1) (tag + 1) left 0 w1.heap.size (F.nq p) v0 v1 HDD.out (by omega) (by intro _; omega) w _ _ _ _ _ _ _ _ _ _ _ _ _ _ _ _ _ _ _ _ _ _ _ _ _ _ _ _ _ _ _ _ _ _ _ _ _ _ _ _ _ _ _ _ _ _ _ _ _ _ _ _ _ _ _ _ _ _ _ _ _ _ _ _ _ _ _ _ _ _ _ _ _ _ _ _ _ _ _ _ _ _ _ _ _ _ _ _ _ _ _ _ _ _ _ _ _ _ _ _ _ _ _ _ _ _ _ _ _ _ _ _ _ _ _ _ _ _ _ _ _ _ _ _ _ _ _ _ _ _ _ _ _ _ _ _ _ _ _ _ _ _ _ _ _ _ _ _ _ _ _ _ _ _ _ _ _ _ _ _ _ _ _ _ _ _ _ _ _ _ _ _ _ _ _ _ _ _ _ _ _ _ _ _ _ _ _ _ _ _ _ _ _ _ _ _ _ _ _ _ _ _ _ _ _ _ _ _ _ _ _ _ _ _ _ (by assumption) (by assumption) (Lib.hid (by omega)) (Lib.hid hM)
      · cases loop
        · skip
          go_enter Tryz.func93, Tryz.ntmps93
          go_upto_region 11 with (go_at_call 61; have hx := next_val (H.out.alloc (.cells zS 83)); rw [HV.out] at hx; refine hx.mono ?_; clear hx; rintro e w1 ⟨rfl, h1, hg1⟩; have hR := (hg1.block w.heap.size (by simp) (by simp; omega)).trans (bk_new w _); have HR := Lib.hid hR; have H1 := Lib.hid h1; have HG1 := Lib.hid hg1; have c5 := h1.c5; have c6 := h1.c6; have z5 := h1.f1 5; have hlt : w.heap.size < w1.heap.size := lt_of_block hR; have hfl : f < w1.heap.size := (by omega); have ne1 : ¬ f = w1.heap.size := (by omega); have ne2 : ¬ w1.heap.size = f := (by omega); rw [HM.out] at c6; clear h1 hg1 hR)
          have hbf : w.heap.size ≠ f := by omega
          have hM : MidS F B f w w1.heap.size (st0 (tag + 1)) (F.nq p) left (tag + 1) ((w1.setCell ⟨f, 5, none⟩ (.int .i64 (tag + 1))).alloc (.cells (tS (tag + 1)) 83)) := ⟨hlt, H.out.size, H.out.lt, bk_new' _ (by simp), bk_old _ ((Below.heap_setCell _ _ _ _ hbf).trans HR.out), (H1.out.sett (tag + 1)).alloc _, grown_alloc (grown_set (grown_trans (World.grownBy_alloc w _ (some f)) HG1.out) _ _) _⟩
          exact tail_any D _ _ v (tag + 1) (tag + 1) left 0 w1.heap.size (F.nq p) v0 v1 HDD.out (by omega) (by intro _; omega) w _ _ _ _ _ _ _ _ _ _ _ _ _ _ _ _ _ _ _ _ _ _ _ _ _ _ _ _ _ _ _ _ _ _ _ _ _ _ _ _ _ _ _ _ _ _ _ _ _ _ _ _ _ _ _ _ _ _ _ _ _ _ _ _ _ _ _ _ _ _ _ _ _ _ _ _ _ _ _ _ _ _ _ _ _ _ _ _ _ _ _ _ _ _ _ _ _ _ _ _ _ _ _ _ _ _ _ _ _ _ _ _ _ _ _ _ _ _ _ _ _ _ _ _ _ _ _ _ _ _ _ _ _ _ _ _ _ _ _ _ _ _ _ _ _ _ _ _ _ _ _ _ _ _ _ _ _ _ _ _ _ _ _ _ _ _ _ _ _ _ _ _ _ _ _ _ _ _ _ _ _ _ _ _ _ _ _ _ _ _ _ _ _ _ _ _ _ _ _ _ _ _ _ _ _ _ _ _ _ _ _ _ _ _ _ (by assumption) (by assumption) (Lib.hid (by omega)) (Lib.hid hM)
        · skip
          go_enter Tryz.func93, Tryz.ntmps93
          go_upto_region 11 with (go_at_call 61; have hx := next_val (H.out.alloc (.cells zS 83)); rw [HV.out] at hx; refine hx.mono ?_; clear hx; rintro e w1 ⟨rfl, h1, hg1⟩; have hR := (hg1.block w.heap.size (by simp) (by simp; omega)).trans (bk_new w _); have HR := Lib.hid hR; have H1 := Lib.hid h1; have HG1 := Lib.hid hg1; have c5 := h1.c5; have c6 := h1.c6; have z5 := h1.f1 5; have hlt : w.heap.size < w1.heap.size := lt_of_block hR; have hfl : f < w1.heap.size := (by omega); have ne1 : ¬ f = w1.heap.size := (by omega); have ne2 : ¬ w1.heap.size = f := (by omega); rw [HM.out] at c6; clear h1 hg1 hR)
          have hbf : w.heap.size ≠ f := by omega
          have hM : MidS F B f w w1.heap.size (st0 (tag + 1)) (F.nq p) left (tag + 1) ((w1.setCell ⟨f, 5, none⟩ (.int .i64 (tag + 1))).alloc (.cells (tS (tag + 1)) 83)) := ⟨hlt, H.out.size, H.out.lt, bk_new' _ (by simp), bk_old _ ((Below.heap_setCell _ _ _ _ hbf).trans HR.out), (H1.out.sett (tag + 1)).alloc _, grown_alloc (grown_set (grown_trans (World.grownBy_alloc w _ (some f)) HG1.out) _ _) _⟩
          exact tail_any D _ _ v (tag + 1) (tag + 1) left 0 w1.heap.size (F.nq p) v0 v1 HDD.out (by omega) (by intro _; omega) w _ _ _ _ _ _ _ _ _ _ _ _ _ _ _ _ _ _ _ _ _ _ _ _ _ _ _ _ _ _ _ _ _ _ _ _ _ _ _ _ _ _ _ _ _ _ _ _ _ _ _ _ _ _ _ _ _ _ _ _ _ _ _ _ _ _ _ _ _ _ _ _ _ _ _ _ _ _ _ _ _ _ _ _ _ _ _ _ _ _ _ _ _ _ _ _ _ _ _ _ _ _ _ _ _ _ _ _ _ _ _ _ _ _ _ _ _ _ _ _ _ _ _ _ _ _ _ _ _ _ _ _ _ _ _ _ _ _ _ _ _ _ _ _ _ _ _ _ _ _ _ _ _ _ _ _ _ _ _ _ _ _ _ _ _ _ _ _ _ _ _ _ _ _ _ _ _ _ _ _ _ _ _ _ _ _ _ _ _ _ _ _ _ _ _ _ _ _ _ _ _ _ _ _ _ _ _ _ _ _ _ _ _ _ _ (by assumption) (by assumption) (Lib.hid (by omega)) (Lib.hid hM)
      · cases loop
        · skip
          go_enter Tryz.func93, Tryz.ntmps93
          go_upto_region 11 with (go_at_call 61; have hx := next_val (H.out.alloc (.cells zS 83)); rw [HV.out] at hx; refine hx.mono ?_; clear hx; rintro e w1 ⟨rfl, h1, hg1⟩; have hR := (hg1.block w.heap.size (by simp) (by simp; omega)).trans (bk_new w _); have HR := Lib.hid hR; have H1 := Lib.hid h1; have HG1 := Lib.hid hg1; have c5 := h1.c5; have c6 := h1.c6; have z5 := h1.f1 5; have hlt : w.heap.size < w1.heap.size := lt_of_block hR; have hfl : f < w1.heap.size := (by omega); have ne1 : ¬ f = w1.heap.size := (by omega); have ne2 : ¬ w1.heap.size = f := (by omega); rw [HM.out] at c6; clear h1 hg1 hR)
          have hbf : w.heap.size ≠ f := by omega
          have hM : MidS F B f w w1.heap.size (st0 (tag + 1)) (F.nq p) left (tag + 1) ((w1.setCell ⟨f, 5, none⟩ (.int .i64 (tag + 1))).alloc (.cells (tS (tag + 1)) 83)) := ⟨hlt, H.out.size, H.out.lt, bk_new' _ (by simp), bk_old _ ((Below.heap_setCell _ _ _ _ hbf).trans HR.out), (H1.out.sett (tag + 1)).alloc _, grown_alloc (grown_set (grown_trans (World.grownBy_alloc w _ (some f)) HG1.out) _ _) _⟩
          exact tail_any D _ _ v (tag + 1) (tag + 1) left 0 w1.heap.size (F.nq p) v0 v1 HDD.out (by omega) (by intro _; omega) w _ _ _ _ _ _ _ _ _ _ _ _ _ _ _ _ _ _ _ _ _ _ _ _ _ _ _ _ _ _ _ _ _ _ _ _ _ _ _ _ _ _ _ _ _ _ _ _ _ _ _ _ _ _ _ _ _ _ _ _ _ _ _ _ _ _ _ _ _ _ _ _ _ _ _ _ _ _ _ _ _ _ _ _ _ _ _ _ _ _ _ _ _ _ _ _ _ _ _ _ _ _ _ _ _ _ _ _ _ _ _ _ _ _ _ _ _ _ _ _ _ _ _ _ _ _ _ _ _ _ _ _ _ _ _ _ _ _ _ _ _ _ _ _ _ _ _ _ _ _ _ _ _ _ _ _ _ _ _ _ _ _ _ _ _ _ _ _ _ _ _ _ _ _ _ _ _ _ _ _ _ _ _ _ _ _ _ _ _ _ _ _ _ _ _ _ _ _ _ _ _ _ _ _ _ _ _ _ _ _ _ _ _ _ _ (by assumption) (by assumption) (Lib.hid (by omega)) (Lib.hid hM)
        · skip
          go_enter Tryz.func93, Tryz.ntmps93
          go_upto_region 11 with (go_at_call 61; have hx := next_val (H.out.alloc (.cells zS 83)); rw [HV.out] at hx; refine hx.mono ?_; clear hx; rintro e w1 ⟨rfl, h1, hg1⟩; have hR := (hg1.block w.heap.size (by simp) (by simp; omega)).trans (bk_new w _); have HR := Lib.hid hR; have H1 := Lib.hid h1; have HG1 := Lib.hid hg1; have c5 := h1.c5; have c6 := h1.c6; have z5 := h1.f1 5; have hlt : w.heap.size < w1.heap.size := lt_of_block hR; have hfl : f < w1.heap.size := (by omega); have ne1 : ¬ f = w1.heap.size := (by omega); have ne2 : ¬ w1.heap.size = f := (by omega); rw [HM.out] at c6; clear h1 hg1 hR)
          have hbf : w.heap.size ≠ f := by omega
          have hM : MidS F B f w w1.heap.size (st0 (tag + 1)) (F.nq p) left (tag + 1) ((w1.setCell ⟨f, 5, none⟩ (.int .i64 (tag + 1))).alloc (.cells (tS (tag + 1)) 83)) := ⟨hlt, H.out.size, H.out.lt, bk_new' _ (by simp), bk_old _ ((Below.heap_setCell _ _ _ _ hbf).trans HR.out), (H1.out.sett (tag + 1)).alloc _, grown_alloc (grown_set (grown_trans (World.grownBy_alloc w _ (some f)) HG1.out) _ _) _⟩
          exact tail_any D _ _ v (tag + 1) (tag + 1) left 0 w1.heap.size (F.nq p) v0 v1 HDD.out (by omega) (by intro _; omega) w _ _ _ _ _ _ _ _ _ _ _ _ _ _ _ _ _ _ _ _ _ _ _ _ _ _ _ _ _ _ _ _ _ _ _ _ _ _ _ _ _ _ _ _ _ _ _ _ _ _ _ _ _ _ _ _ _ _ _ _ _ _ _ _ _ _ _ _ _ _ _ _ _ _ _ _ _ _ _ _ _ _ _ _ _ _ _ _ _ _ _ _ _ _ _ _ _ _ _ _ _ _ _ _ _ _ _ _ _ _ _ _ _ _ _ _ _ _ _ _ _ _ _ _ _ _ _ _ _ _ _ _ _ _ _ _ _ _ _ _ _ _ _ _ _ _ _ _ _ _ _ _ _ _ _ _ _ _ _ _ _ _ _ _ _ _ _ _ _ _ _ _ _ _ _ _ _ _ _ _ _ _ _ _ _ _ _ _ _ _ _ _ _ _ _ _ _ _ _ _ _ _ _ _ _ _ _ _ _ _ _ _ _ _ _ (by assumption) (by assumption) (Lib.hid (by omega)) (Lib.hid hM)
      · cases loop
        · skip
          go_enter Tryz.func93, Tryz.ntmps93
          go_upto_region 11 with (go_at_call 61; have hx := next_val (H.out.alloc (.cells zS 83)); rw [HV.out] at hx; refine hx.mono ?_; clear hx; rintro e w1 ⟨rfl, h1, hg1⟩; have hR := (hg1.block w.heap.size (by simp) (by simp; omega)).trans (bk_new w _); have HR := Lib.hid hR; have H1 := Lib.hid h1; have HG1 := Lib.hid hg1; have c5 := h1.c5; have c6 := h1.c6; have z5 := h1.f1 5; have hlt : w.heap.size < w1.heap.size := lt_of_block hR; have hfl : f < w1.heap.size := (by omega); have ne1 : ¬ f = w1.heap.size := (by omega); have ne2 : ¬ w1.heap.size = f := (by omega); rw [HM.out] at c6; clear h1 hg1 hR)
          have hbf : w.heap.size ≠ f := by omega
          have hM : MidS F B f w w1.heap.size (st0 (tag + 1)) (F.nq p) left (tag + 1) ((w1.setCell ⟨f, 5, none⟩ (.int .i64 (tag + 1))).alloc (.cells (tS (tag + 1)) 83)) := ⟨hlt, H.out.size, H.out.lt, bk_new' _ (by simp), bk_old _ ((Below.heap_setCell _ _ _ _ hbf).trans HR.out), (H1.out.sett (tag + 1)).alloc _, grown_alloc (grown_set (grown_trans (World.grownBy_alloc w _ (some f)) HG1.out) _ _) _⟩
          exact tail_any D _ _ v (tag + 1) (tag + 1) left 0 w1.heap.size (F.nq p) v0 v1 HDD.out (by omega) (by intro _; omega) w _ _ _ _ _ _ _ _ _ _ _ _ _ _ _ _ _ _ _ _ _ _ _ _ _ _ _ _ _ _ _ _ _ _ _ _ _ _ _ _ _ _ _ _ _ _ _ _ _ _ _ _ _ _ _ _ _ _ _ _ _ _ _ _ _ _ _ _ _ _ _ _ _ _ _ _ _ _ _ _ _ _ _ _ _ _ _ _ _ _ _ _ _ _ _ _ _ _ _ _ _ _ _ _ _ _ _ _ _ _ _ _ _ _ _ _ _ _ _ _ _ _ _ _ _ _ _ _ _ _ _ _ _ _ _ _ _ _ _ _ _ _ _ _ _ _ _ _ _ _ _ _ _ _ _ _ _ _ _ _ _ _ _ _ _ _ _ _ _ _ _ _ _ _ _ _ _ _ _ _ _ _ _ _ _ _ _ _ _ _ _ _ _ _ _ _ _ _ _ _ _ _ _ _ _ _ _ _ _ _ _ _ _ _ _ (by assumption) (by assumption) (Lib.hid (by omega)) (Lib.hid hM)
        · skip
          go_enter Tryz.func93, Tryz.ntmps93
          go_upto_region 11 with (go_at_call 61; have hx := next_val (H.out.alloc (.cells zS 83)); rw [HV.out] at hx; refine hx.mono ?_; clear hx; rintro e w1 ⟨rfl, h1, hg1⟩; have hR := (hg1.block w.heap.size (by simp) (by simp; omega)).trans (bk_new w _); have HR := Lib.hid hR; have H1 := Lib.hid h1; have HG1 := Lib.hid hg1; have c5 := h1.c5; have c6 := h1.c6; have z5 := h1.f1 5; have hlt : w.heap.size < w1.heap.size := lt_of_block hR; have hfl : f < w1.heap.size := (by omega); have ne1 : ¬ f = w1.heap.size := (by omega); have ne2 : ¬ w1.heap.size = f := (by omega); rw [HM.out] at c6; clear h1 hg1 hR)
          have hbf : w.heap.size ≠ f := by omega
          have hM : MidS F B f w w1.heap.size (st0 (tag + 1)) (F.nq p) left (tag + 1) ((w1.setCell ⟨f, 5, none⟩ (.int .i64 (tag + 1))).alloc (.cells (tS (tag + 1)) 83)) := ⟨hlt, H.out.size, H.out.lt, bk_new' _ (by simp), bk_old _ ((Below.heap_setCell _ _ _ _ hbf).trans HR.out), (H1.out.sett (tag + 1)).alloc _, grown_alloc (grown_set (grown_trans (World.grownBy_alloc w _ (some f)) HG1.out) _ _) _⟩
          exact tail_any D _ _ v (tag + 1) (tag + 1) left 0 w1.heap.size (F.nq p) v0 v1 HDD.out (by omega) (by intro _; omega) w _ _ _ _ _ _ _ _ _ _ _ _ _ _ _ _ _ _ _ _ _ _ _ _ _ _ _ _ _ _ _ _ _ _ _ _ _ _ _ _ _ _ _ _ _ _ _ _ _ _ _ _ _ _ _ _ _ _ _ _ _ _ _ _ _ _ _ _ _ _ _ _ _ _ _ _ _ _ _ _ _ _ _ _ _ _ _ _ _ _ _ _ _ _ _ _ _ _ _ _ _ _ _ _ _ _ _ _ _ _ _ _ _ _ _ _ _ _ _ _ _ _ _ _ _ _ _ _ _ _ _ _ _ _ _ _ _ _ _ _ _ _ _ _ _ _ _ _ _ _ _ _ _ _ _ _ _ _ _ _ _ _ _ _ _ _ _ _ _ _ _ _ _ _ _ _ _ _ _ _ _ _ _ _ _ _ _ _ _ _ _ _ _ _ _ _ _ _ _ _ _ _ _ _ _ _ _ _ _ _ _ _ _ _ _ (by assumption) (by assumption) (Lib.hid (by omega)) (Lib.hid hM)
    · cases loop
      · by_cases h10 : c = 10
        · subst h10
          go_enter Tryz.func93, Tryz.ntmps93
          go_upto_region 11 with (go_at_call 61; have hx := next_val (H.out.alloc (.cells zS 83)); rw [HV.out] at hx; refine hx.mono ?_; clear hx; rintro e w1 ⟨rfl, h1, hg1⟩; have hR := (hg1.block w.heap.size (by simp) (by simp; omega)).trans (bk_new w _); have HR := Lib.hid hR; have H1 := Lib.hid h1; have HG1 := Lib.hid hg1; have c5 := h1.c5; have c6 := h1.c6; have z5 := h1.f1 5; have hlt : w.heap.size < w1.heap.size := lt_of_block hR; have hfl : f < w1.heap.size := (by omega); have ne1 : ¬ f = w1.heap.size := (by omega); have ne2 : ¬ w1.heap.size = f := (by omega); rw [HM.out] at c6; clear h1 hg1 hR)
          have hbf : w.heap.size ≠ f := by omega
          have hM : MidS F B f w w1.heap.size (st0 (tag + 1)) (F.nq p) left (tag + 1) ((w1.setCell ⟨f, 5, none⟩ (.int .i64 (tag + 1))).alloc (.cells (tS (tag + 1)) 83)) := ⟨hlt, H.out.size, H.out.lt, bk_new' _ (by simp), bk_old _ ((Below.heap_setCell _ _ _ _ hbf).trans HR.out), (H1.out.sett (tag + 1)).alloc _, grown_alloc (grown_set (grown_trans (World.grownBy_alloc w _ (some f)) HG1.out) _ _) _⟩
          exact tail_any D _ _ v (tag + 1) (tag + 1) left 1 w1.heap.size (F.nq p) v0 v1 HDD.out (by omega) (by intro _; omega) w _ _ _ _ _ _ _ _ _ _ _ _ _ _ _ _ _ _ _ _ _ _ _ _ _ _ _ _ _ _ _ _ _ _ _ _ _ _ _ _ _ _ _ _ _ _ _ _ _ _ _ _ _ _ _ _ _ _ _ _ _ _ _ _ _ _ _ _ _ _ _ _ _ _ _ _ _ _ _ _ _ _ _ _ _ _ _ _ _ _ _ _ _ _ _ _ _ _ _ _ _ _ _ _ _ _ _ _ _ _ _ _ _ _ _ _ _ _ _ _ _ _ _ _ _ _ _ _ _ _ _ _ _ _ _ _ _ _ _ _ _ _ _ _ _ _ _ _ _ _ _ _ _ _ _ _ _ _ _ _ _ _ _ _ _ _ _ _ _ _ _ _ _ _ _ _ _ _ _ _ _ _ _ _ _ _ _ _ _ _ _ _ _ _ _ _ _ _ _ _ _ _ _ _ _ _ _ _ _ _ _ _ _ _ _ (by assumption) (by assumption) (Lib.hid (by omega)) (Lib.hid hM)
        · by_cases h11 : c = 11
          · subst h11
            go_enter Tryz.func93, Tryz.ntmps93
            go_upto_region 11 with (go_at_call 61; have hx := next_val (H.out.alloc (.cells zS 83)); rw [HV.out] at hx; refine hx.mono ?_; clear hx; rintro e w1 ⟨rfl, h1, hg1⟩; have hR := (hg1.block w.heap.size (by simp) (by simp; omega)).trans (bk_new w _); have HR := Lib.hid hR; have H1 := Lib.hid h1; have HG1 := Lib.hid hg1; have c5 := h1.c5; have c6 := h1.c6; have z5 := h1.f1 5; have hlt : w.heap.size < w1.heap.size := lt_of_block hR; have hfl : f < w1.heap.size := (by omega); have ne1 : ¬ f = w1.heap.size := (by omega); have ne2 : ¬ w1.heap.size = f := (by omega); rw [HM.out] at c6; clear h1 hg1 hR)
            have hbf : w.heap.size ≠ f := by omega
            have hM : MidS F B f w w1.heap.size (st0 (tag + 1)) (F.nq p) left (tag + 1) ((w1.setCell ⟨f, 5, none⟩ (.int .i64 (tag + 1))).alloc (.cells (tS (tag + 1)) 83)) := ⟨hlt, H.out.size, H.out.lt, bk_new' _ (by simp), bk_old _ ((Below.heap_setCell _ _ _ _ hbf).trans HR.out), (H1.out.sett (tag + 1)).alloc _, grown_alloc (grown_set (grown_trans (World.grownBy_alloc w _ (some f)) HG1.out) _ _) _⟩
            exact tail_any D _ _ v (tag + 1) (tag + 1) left 1 w1.heap.size (F.nq p) v0 v1 HDD.out (by omega) (by intro _; omega) w _ _ _ _ _ _ _ _ _ _ _ _ _ _ _ _ _ _ _ _ _ _ _ _ _ _ _ _ _ _ _ _ _ _ _ _ _ _ _ _ _ _ _ _ _ _ _ _ _ _ _ _ _ _ _ _ _ _ _ _ _ _ _ _ _ _ _ _ _ _ _ _ _ _ _ _ _ _ _ _ _ _ _ _ _ _ _ _ _ _ _ _ _ _ _ _ _ _ _ _ _ _ _ _ _ _ _ _ _ _ _ _ _ _ _ _ _ _ _ _ _ _ _ _ _ _ _ _ _ _ _ _ _ _ _ _ _ _ _ _ _ _ _ _ _ _ _ _ _ _ _ _ _ _ _ _ _ _ _ _ _ _ _ _ _ _ _ _ _ _ _ _ _ _ _ _ _ _ _ _ _ _ _ _ _ _ _ _ _ _ _ _ _ _ _ _ _ _ _ _ _ _ _ _ _ _ _ _ _ _ _ _ _ _ _ (by assumption) (by assumption) (Lib.hid (by omega)) (Lib.hid hM)
          · skip
            have e5 : decide (c = 5) = false := by simp; omega
            have e6 : decide (c = 6) = false := by simp; omega
            have e7 : decide (c = 7) = false := by simp; omega
            have e8 : decide (c = 8) = false := by simp; omega
            have g5 : (c == 5) = false := by simp; omega
            have g6 : (c == 6) = false := by simp; omega
            have g7 : (c == 7) = false := by simp; omega
            have g8 : (c == 8) = false := by simp; omega
            have e10 : decide (c = 10) = false := by simp; omega
            have e11 : decide (c = 11) = false := by simp; omega
            have g10 : (c == 10) = false := by simp; omega
            have g11 : (c == 11) = false := by simp; omega
            go_enter Tryz.func93, Tryz.ntmps93
            go_upto_region 11 with (go_at_call 61; have hx := next_val (H.out.alloc (.cells zS 83)); rw [HV.out] at hx; refine hx.mono ?_; clear hx; rintro e w1 ⟨rfl, h1, hg1⟩; have hR := (hg1.block w.heap.size (by simp) (by simp; omega)).trans (bk_new w _); have HR := Lib.hid hR; have H1 := Lib.hid h1; have HG1 := Lib.hid hg1; have c5 := h1.c5; have c6 := h1.c6; have z5 := h1.f1 5; have hlt : w.heap.size < w1.heap.size := lt_of_block hR; have hfl : f < w1.heap.size := (by omega); have ne1 : ¬ f = w1.heap.size := (by omega); have ne2 : ¬ w1.heap.size = f := (by omega); rw [HM.out] at c6; clear h1 hg1 hR)
            have hbf : w.heap.size ≠ f := by omega
            have hM : MidS F B f w w1.heap.size (st0 (tag + 1)) (F.nq p) left (tag + 1) ((w1.setCell ⟨f, 5, none⟩ (.int .i64 (tag + 1))).alloc (.cells (tS (tag + 1)) 83)) := ⟨hlt, H.out.size, H.out.lt, bk_new' _ (by simp), bk_old _ ((Below.heap_setCell _ _ _ _ hbf).trans HR.out), (H1.out.sett (tag + 1)).alloc _, grown_alloc (grown_set (grown_trans (World.grownBy_alloc w _ (some f)) HG1.out) _ _) _⟩
            exact tail_any D _ _ v (tag + 1) (tag + 1) left c w1.heap.size (F.nq p) v0 v1 HDD.out (by omega) (by intro _; omega) w _ _ _ _ _ _ _ _ _ _ _ _ _ _ _ _ _ _ _ _ _ _ _ _ _ _ _ _ _ _ _ _ _ _ _ _ _ _ _ _ _ _ _ _ _ _ _ _ _ _ _ _ _ _ _ _ _ _ _ _ _ _ _ _ _ _ _ _ _ _ _ _ _ _ _ _ _ _ _ _ _ _ _ _ _ _ _ _ _ _ _ _ _ _ _ _ _ _ _ _ _ _ _ _ _ _ _ _ _ _ _ _ _ _ _ _ _ _ _ _ _ _ _ _ _ _ _ _ _ _ _ _ _ _ _ _ _ _ _ _ _ _ _ _ _ _ _ _ _ _ _ _ _ _ _ _ _ _ _ _ _ _ _ _ _ _ _ _ _ _ _ _ _ _ _ _ _ _ _ _ _ _ _ _ _ _ _ _ _ _ _ _ _ _ _ _ _ _ _ _ _ _ _ _ _ _ _ _ _ _ _ _ _ _ _ (by assumption) (by assumption) (Lib.hid (by omega)) (Lib.hid hM)
      · skip
        have e5 : decide (c = 5) = false := by simp; omega
        have e6 : decide (c = 6) = false := by simp; omega
        have e7 : decide (c = 7) = false := by simp; omega
        have e8 : decide (c = 8) = false := by simp; omega
        have g5 : (c == 5) = false := by simp; omega
        have g6 : (c == 6) = false := by simp; omega
        have g7 : (c == 7) = false := by simp; omega
        have g8 : (c == 8) = false := by simp; omega
        go_enter Tryz.func93, Tryz.ntmps93
        go_upto_region 11 with (go_at_call 61; have hx := next_val (H.out.alloc (.cells zS 83)); rw [HV.out] at hx; refine hx.mono ?_; clear hx; rintro e w1 ⟨rfl, h1, hg1⟩; have hR := (hg1.block w.heap.size (by simp) (by simp; omega)).trans (bk_new w _); have HR := Lib.hid hR; have H1 := Lib.hid h1; have HG1 := Lib.hid hg1; have c5 := h1.c5; have c6 := h1.c6; have z5 := h1.f1 5; have hlt : w.heap.size < w1.heap.size := lt_of_block hR; have hfl : f < w1.heap.size := (by omega); have ne1 : ¬ f = w1.heap.size := (by omega); have ne2 : ¬ w1.heap.size = f := (by omega); rw [HM.out] at c6; clear h1 hg1 hR)
        have hbf : w.heap.size ≠ f := by omega
        have hM : MidS F B f w w1.heap.size (st0 (tag + 1)) (F.nq p) left (tag + 1) ((w1.setCell ⟨f, 5, none⟩ (.int .i64 (tag + 1))).alloc (.cells (tS (tag + 1)) 83)) := ⟨hlt, H.out.size, H.out.lt, bk_new' _ (by simp), bk_old _ ((Below.heap_setCell _ _ _ _ hbf).trans HR.out), (H1.out.sett (tag + 1)).alloc _, grown_alloc (grown_set (grown_trans (World.grownBy_alloc w _ (some f)) HG1.out) _ _) _⟩
        exact tail_any D _ _ v (tag + 1) (tag + 1) left c w1.heap.size (F.nq p) v0 v1 HDD.out (by omega) (by intro _; omega) w _ _ _ _ _ _ _ _ _ _ _ _ _ _ _ _ _ _ _ _ _ _ _ _ _ _ _ _ _ _ _ _ _ _ _ _ _ _ _ _ _ _ _ _ _ _ _ _ _ _ _ _ _ _ _ _ _ _ _ _ _ _ _ _ _ _ _ _ _ _ _ _ _ _ _ _ _ _ _ _ _ _ _ _ _ _ _ _ _ _ _ _ _ _ _ _ _ _ _ _ _ _ _ _ _ _ _ _ _ _ _ _ _ _ _ _ _ _ _ _ _ _ _ _ _ _ _ _ _ _ _ _ _ _ _ _ _ _ _ _ _ _ _ _ _ _ _ _ _ _ _ _ _ _ _ _ _ _ _ _ _ _ _ _ _ _ _ _ _ _ _ _ _ _ _ _ _ _ _ _ _ _ _ _ _ _ _ _ _ _ _ _ _ _ _ _ _ _ _ _ _ _ _ _ _ _ _ _ _ _ _ _ _ _ _ (by assumption) (by assumption) (Lib.hid (by omega)) (Lib.hid hM)
  · clear hd
    have k9 : decide (dv < 1) = false := by simp; omega
    cases loop
    · by_cases h10 : c = 10
      · subst h10
        go_enter Tryz.func93, Tryz.ntmps93
        go_upto_region 11 with (go_at_call 61; have hx := next_val (H.out.alloc (.cells zS 83)); rw [HV.out] at hx; refine hx.mono ?_; clear hx; rintro e w1 ⟨rfl, h1, hg1⟩; have hR := (hg1.block w.heap.size (by simp) (by simp; omega)).trans (bk_new w _); have HR := Lib.hid hR; have H1 := Lib.hid h1; have HG1 := Lib.hid hg1; have c5 := h1.c5; have c6 := h1.c6; have z5 := h1.f1 5; have hlt : w.heap.size < w1.heap.size := lt_of_block hR; have hfl : f < w1.heap.size := (by omega); have ne1 : ¬ f = w1.heap.size := (by omega); have ne2 : ¬ w1.heap.size = f := (by omega); rw [HM.out] at c6; clear h1 hg1 hR)
        have hbf : w.heap.size ≠ f := by omega
        have hM : MidS F B f w w1.heap.size (st0 (tag + 1)) (F.nq p) left (tag + 1) ((w1.setCell ⟨f, 5, none⟩ (.int .i64 (tag + 1))).alloc (.cells (tS (tag + 1)) 83)) := ⟨hlt, H.out.size, H.out.lt, bk_new' _ (by simp), bk_old _ ((Below.heap_setCell _ _ _ _ hbf).trans HR.out), (H1.out.sett (tag + 1)).alloc _, grown_alloc (grown_set (grown_trans (World.grownBy_alloc w _ (some f)) HG1.out) _ _) _⟩
        exact tail_any D _ _ v (tag + 1) (tag + 1) left 1 w1.heap.size (F.nq p) v0 v1 HDD.out (by omega) (by intro _; omega) w _ _ _ _ _ _ _ _ _ _ _ _ _ _ _ _ _ _ _ _ _ _ _ _ _ _ _ _ _ _ _ _ _ _ _ _ _ _ _ _ _ _ _ _ _ _ _ _ _ _ _ _ _ _ _ _ _ _ _ _ _ _ _ _ _ _ _ _ _ _ _ _ _ _ _ _ _ _ _ _ _ _ _ _ _ _ _ _ _ _ _ _ _ _ _ _ _ _ _ _ _ _ _ _ _ _ _ _ _ _ _ _ _ _ _ _ _ _ _ _ _ _ _ _ _ _ _ _ _ _ _ _ _ _ _ _ _ _ _ _ _ _ _ _ _ _ _ _ _ _ _ _ _ _ _ _ _ _ _ _ _ _ _ _ _ _ _ _ _ _ _ _ _ _ _ _ _ _ _ _ _ _ _ _ _ _ _ _ _ _ _ _ _ _ _ _ _ _ _ _ _ _ _ _ _ _ _ _ _ _ _ _ _ _ _ (by assumption) (by assumption) (Lib.hid (by omega)) (Lib.hid hM)
      · by_cases h11 : c = 11
        · subst h11
          go_enter Tryz.func93, Tryz.ntmps93
          go_upto_region 11 with (go_at_call 61; have hx := next_val (H.out.alloc (.cells zS 83)); rw [HV.out] at hx; refine hx.mono ?_; clear hx; rintro e w1 ⟨rfl, h1, hg1⟩; have hR := (hg1.block w.heap.size (by simp) (by simp; omega)).trans (bk_new w _); have HR := Lib.hid hR; have H1 := Lib.hid h1; have HG1 := Lib.hid hg1; have c5 := h1.c5; have c6 := h1.c6; have z5 := h1.f1 5; have hlt : w.heap.size < w1.heap.size := lt_of_block hR; have hfl : f < w1.heap.size := (by omega); have ne1 : ¬ f = w1.heap.size := (by omega); have ne2 : ¬ w1.heap.size = f := (by omega); rw [HM.out] at c6; clear h1 hg1 hR)
          have hbf : w.heap.size ≠ f := by omega
          have hM : MidS F B f w w1.heap.size (st0 (tag + 1)) (F.nq p) left (tag + 1) ((w1.setCell ⟨f, 5, none⟩ (.int .i64 (tag + 1))).alloc (.cells (tS (tag + 1)) 83)) := ⟨hlt, H.out.size, H.out.lt, bk_new' _ (by simp), bk_old _ ((Below.heap_setCell _ _ _ _ hbf).trans HR.out), (H1.out.sett (tag + 1)).alloc _, grown_alloc (grown_set (grown_trans (World.grownBy_alloc w _ (some f)) HG1.out) _ _) _⟩
          exact tail_any D _ _ v (tag + 1) (tag + 1) left 1 w1.heap.size (F.nq p) v0 v1 HDD.out (by omega) (by intro _; omega) w _ _ _ _ _ _ _ _ _ _ _ _ _ _ _ _ _ _ _ _ _ _ _ _ _ _ _ _ _ _ _ _ _ _ _ _ _ _ _ _ _ _ _ _ _ _ _ _ _ _ _ _ _ _ _ _ _ _ _ _ _ _ _ _ _ _ _ _ _ _ _ _ _ _ _ _ _ _ _ _ _ _ _ _ _ _ _ _ _ _ _ _ _ _ _ _ _ _ _ _ _ _ _ _ _ _ _ _ _ _ _ _ _ _ _ _ _ _ _ _ _ _ _ _ _ _ _ _ _ _ _ _ _ _ _ _ _ _ _ _ _ _ _ _ _ _ _ _ _ _ _ _ _ _ _ _ _ _ _ _ _ _ _ _ _ _ _ _ _ _ _ _ _ _ _ _ _ _ _ _ _ _ _ _ _ _ _ _ _ _ _ _ _ _ _ _ _ _ _ _ _ _ _ _ _ _ _ _ _ _ _ _ _ _ _ (by assumption) (by assumption) (Lib.hid (by omega)) (Lib.hid hM)
        · skip
          have e10 : decide (c = 10) = false := by simp; omega
          have e11 : decide (c = 11) = false := by simp; omega
          have g10 : (c == 10) = false := by simp; omega
          have g11 : (c == 11) = false := by simp; omega
          go_enter Tryz.func93, Tryz.ntmps93
          go_upto_region 11 with (go_at_call 61; have hx := next_val (H.out.alloc (.cells zS 83)); rw [HV.out] at hx; refine hx.mono ?_; clear hx; rintro e w1 ⟨rfl, h1, hg1⟩; have hR := (hg1.block w.heap.size (by simp) (by simp; omega)).trans (bk_new w _); have HR := Lib.hid hR; have H1 := Lib.hid h1; have HG1 := Lib.hid hg1; have c5 := h1.c5; have c6 := h1.c6; have z5 := h1.f1 5; have hlt : w.heap.size < w1.heap.size := lt_of_block hR; have hfl : f < w1.heap.size := (by omega); have ne1 : ¬ f = w1.heap.size := (by omega); have ne2 : ¬ w1.heap.size = f := (by omega); rw [HM.out] at c6; clear h1 hg1 hR)
          have hbf : w.heap.size ≠ f := by omega
          have hM : MidS F B f w w1.heap.size (st0 (tag + 1)) (F.nq p) left (tag + 1) ((w1.setCell ⟨f, 5, none⟩ (.int .i64 (tag + 1))).alloc (.cells (tS (tag + 1)) 83)) := ⟨hlt, H.out.size, H.out.lt, bk_new' _ (by simp), bk_old _ ((Below.heap_setCell _ _ _ _ hbf).trans HR.out), (H1.out.sett (tag + 1)).alloc _, grown_alloc (grown_set (grown_trans (World.grownBy_alloc w _ (some f)) HG1.out) _ _) _⟩
          exact tail_any D _ _ v (tag + 1) (tag + 1) left c w1.heap.size (F.nq p) v0 v1 HDD.out (by omega) (by intro _; omega) w _ _ _ _ _ _ _ _ _ _ _ _ _ _ _ _ _ _ _ _ _ _ _ _ _ _ _ _ _ _ _ _ _ _ _ _ _ _ _ _ _ _ _ _ _ _ _ _ _ _ _ _ _ _ _ _ _ _ _ _ _ _ _ _ _ _ _ _ _ _ _ _ _ _ _ _ _ _ _ _ _ _ _ _ _ _ _ _ _ _ _ _ _ _ _ _ _ _ _ _ _ _ _ _ _ _ _ _ _ _ _ _ _ _ _ _ _ _ _ _ _ _ _ _ _ _ _ _ _ _ _ _ _ _ _ _ _ _ _ _ _ _ _ _ _ _ _ _ _ _ _ _ _ _ _ _ _ _ _ _ _ _ _ _ _ _ _ _ _ _ _ _ _ _ _ _ _ _ _ _ _ _ _ _ _ _ _ _ _ _ _ _ _ _ _ _ _ _ _ _ _ _ _ _ _ _ _ _ _ _ _ _ _ _ _ (by assumption) (by assumption) (Lib.hid (by omega)) (Lib.hid hM)
    · skip
      go_enter Tryz.func93, Tryz.ntmps93
      go_upto_region 11 with (go_at_call 61; have hx := next_val (H.out.alloc (.cells zS 83)); rw [HV.out] at hx; refine hx.mono ?_; clear hx; rintro e w1 ⟨rfl, h1, hg1⟩; have hR := (hg1.block w.heap.size (by simp) (by simp; omega)).trans (bk_new w _); have HR := Lib.hid hR; have H1 := Lib.hid h1; have HG1 := Lib.hid hg1; have c5 := h1.c5; have c6 := h1.c6; have z5 := h1.f1 5; have hlt : w.heap.size < w1.heap.size := lt_of_block hR; have hfl : f < w1.heap.size := (by omega); have ne1 : ¬ f = w1.heap.size := (by omega); have ne2 : ¬ w1.heap.size = f := (by omega); rw [HM.out] at c6; clear h1 hg1 hR)
      have hbf : w.heap.size ≠ f := by omega
      have hM : MidS F B f w w1.heap.size (st0 (tag + 1)) (F.nq p) left (tag + 1) ((w1.setCell ⟨f, 5, none⟩ (.int .i64 (tag + 1))).alloc (.cells (tS (tag + 1)) 83)) := ⟨hlt, H.out.size, H.out.lt, bk_new' _ (by simp), bk_old _ ((Below.heap_setCell _ _ _ _ hbf).trans HR.out), (H1.out.sett (tag + 1)).alloc _, grown_alloc (grown_set (grown_trans (World.grownBy_alloc w _ (some f)) HG1.out) _ _) _⟩
      exact tail_any D _ _ v (tag + 1) (tag + 1) left c w1.heap.size (F.nq p) v0 v1 HDD.out (by omega) (by intro _; omega) w _ _ _ _ _ _ _ _ _ _ _ _ _ _ _ _ _ _ _ _ _ _ _ _ _ _ _ _ _ _ _ _ _ _ _ _ _ _ _ _ _ _ _ _ _ _ _ _ _ _ _ _ _ _ _ _ _ _ _ _ _ _ _ _ _ _ _ _ _ _ _ _ _ _ _ _ _ _ _ _ _ _ _ _ _ _ _ _ _ _ _ _ _ _ _ _ _ _ _ _ _ _ _ _ _ _ _ _ _ _ _ _ _ _ _ _ _ _ _ _ _ _ _ _ _ _ _ _ _ _ _ _ _ _ _ _ _ _ _ _ _ _ _ _ _ _ _ _ _ _ _ _ _ _ _ _ _ _ _ _ _ _ _ _ _ _ _ _ _ _ _ _ _ _ _ _ _ _ _ _ _ _ _ _ _ _ _ _ _ _ _ _ _ _ _ _ _ _ _ _ _ _ _ _ _ _ _ _ _ _ _ _ _ _ _ (by assumption) (by assumption) (Lib.hid (by omega)) (Lib.hid hM)
end
end Go.Proofs.YtppeogcpoplpeaaGreatDoor
