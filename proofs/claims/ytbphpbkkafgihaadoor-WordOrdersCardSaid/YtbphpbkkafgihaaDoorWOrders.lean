/- The walk of WordOrders: comparisons are those of numbers. -/
import Derived.Test.YtbphpbkkafgihaaDoorWLaid
import Derived.OpenShut
namespace Go.Proofs.YtbphpbkkafgihaaDoor
open Go.RowKit

set_option maxRecDepth 100000 in
set_option maxHeartbeats 1000000 in
theorem orders_core (a b : Int) (x : Bool) (ha : -9223372036854775808 ≤ a ∧ a ≤ 9223372036854775807) (hb : -9223372036854775808 ≤ b ∧ b ≤ 9223372036854775807) (w0 : World) (H0 : Pow w0) :
    Calls Tryd.prog 5 #[.int .i64 a, .int .i64 b, .bool x] w0 fun e w' => e = .returned (.bool true) ∧ Past w0 w' := by
  have H : Hid (Pow w0) := Lib.hid H0
  clear H0
  have h : Past w0 w0 := Past.refl _
  obtain ⟨d, hd⟩ : ∃ d, (if x then a else b) = d := ⟨_, rfl⟩
  have hd' : -9223372036854775808 ≤ d ∧ d ≤ 9223372036854775807 := by subst hd; split <;> omega
  have f1 : binV { data := #[60] } a d = bit (decide (a < d)) := rfl
  have f2 : binV { data := #[62] } a d = bit (decide (d < a)) := rfl
  have f3 : binV { data := #[61, 61] } a d = bit (a == d) := rfl
  have f4 : binV { data := #[62, 61] } a d = bit (decide (d ≤ a)) := rfl
  have f5 : binV { data := #[60, 61] } a d = bit (decide (a ≤ d)) := rfl
  have f6 : binV { data := #[33, 61] } a d = bit (a != d) := rfl
  have f7 : binV { data := #[60] } d a = bit (decide (d < a)) := rfl
  have f8 : binV { data := #[61, 61] } (binV { data := #[45] } a d) 0 = bit (a == d) := by
    show bit (wrap64 (a - d) == 0) = bit (a == d)
    congr 1
    rw [Bool.eq_iff_iff, beq_iff_eq, beq_iff_eq]
    unfold wrap64
    omega
  clear ha hb hd'
  have hc : a < d ∨ a = d ∨ d < a := by omega
  rcases hc with hc | hc | hc
  · have g1 : decide (a < d) = true := by simpa using hc
    have g2 : decide (d < a) = false := by simp; omega
    have g3 : (a == d) = false := by simp; omega
    have g4 : decide (d ≤ a) = false := by simp; omega
    have g5 : decide (a ≤ d) = true := by simp; omega
    have g6 : (a != d) = true := by simp; omega
    rw [g1] at f1
    rw [g2] at f2 f7
    rw [g3] at f3 f8
    rw [g4] at f4
    rw [g5] at f5
    rw [g6] at f6
    clear hc g1 g2 g4 g5 g6
    simp only [bit, if_true, if_false, Bool.false_eq_true] at f1 f2 f3 f4 f5 f6 f7 f8
    have HC : Hid (a ≠ d) := Lib.hid (by intro e; simp [e] at g3)
    cases x
    all_goals
      simp only [if_true, if_false, Bool.false_eq_true] at hd
      subst hd
      first | exact (HC.out rfl).elim | skip
      first | done | (
        go_enter Tryd.func5, Tryd.ntmps5
        go_wp2_with (first
          | (go_at_call 11; refine (ex_any w0 H.out _ h).mono ?_; clear h; rintro e w ⟨rfl, h⟩)
          | (go_at_call 24; refine (do_on _ _ _ _ (by first | exact h | exact h.alloc _)).mono ?_; clear h; rintro e w ⟨rfl, h⟩)
          | (go_at_call 14; refine (bin_on _ _ _ _ (by first | exact h | exact h.alloc _)).mono ?_; clear h; rintro e w ⟨rfl, h⟩))
        go_ret
        exact ⟨rfl, h⟩)
  · subst hc
    have g1 : decide (a < a) = false := by simp
    have g3 : (a == a) = true := by simp
    have g4 : decide (a ≤ a) = true := by simp
    have g6 : (a != a) = false := by simp
    rw [g1] at f1 f2 f7
    rw [g4] at f4 f5
    rw [g3] at f3 f8
    rw [g6] at f6
    clear g1 g3 g4 g6 f7
    simp only [bit, if_true, if_false, Bool.false_eq_true] at f1 f2 f3 f4 f5 f6 f8
    cases x
    all_goals
      simp only [if_true, if_false, Bool.false_eq_true] at hd
      try subst hd
      go_enter Tryd.func5, Tryd.ntmps5
      go_wp2_with (first
        | (go_at_call 11; refine (ex_any w0 H.out _ h).mono ?_; clear h; rintro e w ⟨rfl, h⟩)
        | (go_at_call 24; refine (do_on _ _ _ _ (by first | exact h | exact h.alloc _)).mono ?_; clear h; rintro e w ⟨rfl, h⟩)
        | (go_at_call 14; refine (bin_on _ _ _ _ (by first | exact h | exact h.alloc _)).mono ?_; clear h; rintro e w ⟨rfl, h⟩))
      go_ret
      exact ⟨rfl, h⟩
  · have g1 : decide (a < d) = false := by simp; omega
    have g2 : decide (d < a) = true := by simpa using hc
    have g3 : (a == d) = false := by simp; omega
    have g4 : decide (d ≤ a) = true := by simp; omega
    have g5 : decide (a ≤ d) = false := by simp; omega
    have g6 : (a != d) = true := by simp; omega
    rw [g1] at f1
    rw [g2] at f2 f7
    rw [g3] at f3 f8
    rw [g4] at f4
    rw [g5] at f5
    rw [g6] at f6
    clear hc g1 g2 g4 g5 g6
    simp only [bit, if_true, if_false, Bool.false_eq_true] at f1 f2 f3 f4 f5 f6 f7 f8
    have HC : Hid (a ≠ d) := Lib.hid (by intro e; simp [e] at g3)
    cases x
    all_goals
      simp only [if_true, if_false, Bool.false_eq_true] at hd
      subst hd
      first | exact (HC.out rfl).elim | skip
      first | done | (
        go_enter Tryd.func5, Tryd.ntmps5
        go_wp2_with (first
          | (go_at_call 11; refine (ex_any w0 H.out _ h).mono ?_; clear h; rintro e w ⟨rfl, h⟩)
          | (go_at_call 24; refine (do_on _ _ _ _ (by first | exact h | exact h.alloc _)).mono ?_; clear h; rintro e w ⟨rfl, h⟩)
          | (go_at_call 14; refine (bin_on _ _ _ _ (by first | exact h | exact h.alloc _)).mono ?_; clear h; rintro e w ⟨rfl, h⟩))
        go_ret
        exact ⟨rfl, h⟩)

theorem wordOrders_walk (a0 a1 : Int) (a2 : Bool) (w0 : (Lit.int .i64 a0).wf = true) (w1 : (Lit.int .i64 a1).wf = true) (w : World) (H : Pow w) :
    Calls Tryd.prog 5 #[.int .i64 a0, .int .i64 a1, .bool a2] w fun e w' => e = .returned (.bool true) ∧ Below w.heap.size w w' :=
  orders_core a0 a1 a2 (bounds_i64 w0) (bounds_i64 w1) w H
end Go.Proofs.YtbphpbkkafgihaaDoor
