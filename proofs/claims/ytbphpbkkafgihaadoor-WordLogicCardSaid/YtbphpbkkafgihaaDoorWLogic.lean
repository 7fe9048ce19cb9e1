/- The walk of WordLogic: both, and one or the other, of numbers that are 0, or not. -/
import Derived.Test.YtbphpbkkafgihaaDoorWLaid
import Derived.OpenShut
namespace Go.Proofs.YtbphpbkkafgihaaDoor
open Go.RowKit

theorem zero_or (a : Int) : a = 0 ∨ ((a == 0) = false ∧ (a != 0) = true) := by
  by_cases h : a = 0
  · exact .inl h
  · exact .inr ⟨by simpa using h, by simpa using h⟩
theorem unV_not (a : Int) : unV { data := #[33] } a = bit (a == 0) := rfl

set_option maxRecDepth 100000 in
set_option maxHeartbeats 1000000 in
theorem logic_core (a b : Int) (x y : Bool) (ha : -9223372036854775808 ≤ a ∧ a ≤ 9223372036854775807) (hb : -9223372036854775808 ≤ b ∧ b ≤ 9223372036854775807) (w0 : World) (H0 : Pow w0) :
    Calls Tryd.prog 7 #[.int .i64 a, .int .i64 b, .bool x, .bool y] w0 fun e w' => e = .returned (.bool true) ∧ Past w0 w' := by
  have H : Hid (Pow w0) := Lib.hid H0
  obtain ⟨c, hc⟩ : ∃ c, (if x then 0 else a) = c := ⟨_, rfl⟩
  obtain ⟨d, hd⟩ : ∃ d, (if y then 0 else b) = d := ⟨_, rfl⟩
  have hc' : -9223372036854775808 ≤ c ∧ c ≤ 9223372036854775807 := by subst hc; split <;> omega
  have hd' : -9223372036854775808 ≤ d ∧ d ≤ 9223372036854775807 := by subst hd; split <;> omega
  have HA : Hid (-9223372036854775808 ≤ c ∧ c ≤ 9223372036854775807) := Lib.hid hc'
  have HB : Hid (-9223372036854775808 ≤ d ∧ d ≤ 9223372036854775807) := Lib.hid hd'
  have h : Past w0 w0 := Past.refl _
  clear H0 ha hb hc' hd'
  have u1 : unV { data := #[33] } 0 = 1 := rfl
  have v1 : binV { data := #[124, 124] } 0 0 = 0 := rfl
  have v2 : binV { data := #[124, 124] } 0 1 = 1 := rfl
  have v3 : binV { data := #[124, 124] } 1 0 = 1 := rfl
  have v4 : binV { data := #[124, 124] } 1 1 = 1 := rfl
  have v5 : binV { data := #[38, 38] } 0 0 = 0 := rfl
  have v6 : binV { data := #[38, 38] } 0 1 = 0 := rfl
  have v7 : binV { data := #[38, 38] } 1 0 = 0 := rfl
  have v8 : binV { data := #[38, 38] } 1 1 = 1 := rfl
  have Q : Hid (∀ c : Int, (c == 0) = false → unV { data := #[33] } c = 0) := Lib.hid (by intro c h; rw [unV_not, h]; rfl)
  have Q2 : Hid (∀ c d : Int, binV { data := #[38, 38] } c d = bit (c != 0 && d != 0) ∧ binV { data := #[124, 124] } c d = bit (c != 0 || d != 0)) := Lib.hid (fun c d => ⟨rfl, rfl⟩)
  rcases zero_or c with rfl | ⟨ka, kb⟩ <;> rcases zero_or d with rfl | ⟨kc, kd⟩
  case inl.inl =>
    clear Q Q2
    cases x <;> cases y
    all_goals
      simp only [if_true, if_false, Bool.false_eq_true] at hc hd
      try subst hc
      try subst hd
      first | done | (
        go_enter Tryd.func7, Tryd.ntmps7
        go_wp2_with (first
          | (go_at_call 11; refine (ex_any w0 H.out _ h).mono ?_; clear h; rintro e w ⟨rfl, h⟩)
          | (go_at_call 16; refine (un_on _ _ (by first | exact HA.out | exact HB.out) _ (by first | exact h | exact h.alloc _)).mono ?_; clear h; rintro e w ⟨rfl, h⟩)
          | (go_at_call 24; refine (do_on _ _ _ _ (by first | exact h | exact h.alloc _)).mono ?_; clear h; rintro e w ⟨rfl, h⟩))
        go_ret
        exact ⟨rfl, h⟩)
  case inl.inr =>
    have q2 := Q.out d kc
    have q3 := (Q2.out 0 d).1
    have q4 := (Q2.out 0 d).2
    rw [kd] at q3 q4
    simp [bit] at q3 q4
    clear Q Q2
    cases x <;> cases y
    all_goals
      simp only [if_true, if_false, Bool.false_eq_true] at hc hd
      try subst hc
      try subst hd
      first | exact absurd kc (by decide) | skip
      first | done | (
        go_enter Tryd.func7, Tryd.ntmps7
        go_wp2_with (first
          | (go_at_call 11; refine (ex_any w0 H.out _ h).mono ?_; clear h; rintro e w ⟨rfl, h⟩)
          | (go_at_call 16; refine (un_on _ _ (by first | exact HA.out | exact HB.out) _ (by first | exact h | exact h.alloc _)).mono ?_; clear h; rintro e w ⟨rfl, h⟩)
          | (go_at_call 24; refine (do_on _ _ _ _ (by first | exact h | exact h.alloc _)).mono ?_; clear h; rintro e w ⟨rfl, h⟩))
        go_ret
        exact ⟨rfl, h⟩)
  case inr.inl =>
    have q2 := Q.out c ka
    have q3 := (Q2.out c 0).1
    have q4 := (Q2.out c 0).2
    rw [kb] at q3 q4
    simp [bit] at q3 q4
    clear Q Q2
    cases x <;> cases y
    all_goals
      simp only [if_true, if_false, Bool.false_eq_true] at hc hd
      try subst hc
      try subst hd
      first | exact absurd ka (by decide) | skip
      first | done | (
        go_enter Tryd.func7, Tryd.ntmps7
        go_wp2_with (first
          | (go_at_call 11; refine (ex_any w0 H.out _ h).mono ?_; clear h; rintro e w ⟨rfl, h⟩)
          | (go_at_call 16; refine (un_on _ _ (by first | exact HA.out | exact HB.out) _ (by first | exact h | exact h.alloc _)).mono ?_; clear h; rintro e w ⟨rfl, h⟩)
          | (go_at_call 24; refine (do_on _ _ _ _ (by first | exact h | exact h.alloc _)).mono ?_; clear h; rintro e w ⟨rfl, h⟩))
        go_ret
        exact ⟨rfl, h⟩)
  case inr.inr =>
    have q1 := Q.out c ka
    have q2 := Q.out d kc
    have q3 := (Q2.out c d).1
    have q4 := (Q2.out c d).2
    rw [kb, kd] at q3 q4
    simp [bit] at q3 q4
    clear Q Q2
    cases x <;> cases y
    all_goals
      simp only [if_true, if_false, Bool.false_eq_true] at hc hd
      try subst hc
      try subst hd
      first | exact absurd ka (by decide) | exact absurd kc (by decide) | skip
      first | done | (
        go_enter Tryd.func7, Tryd.ntmps7
        go_wp2_with (first
          | (go_at_call 11; refine (ex_any w0 H.out _ h).mono ?_; clear h; rintro e w ⟨rfl, h⟩)
          | (go_at_call 16; refine (un_on _ _ (by first | exact HA.out | exact HB.out) _ (by first | exact h | exact h.alloc _)).mono ?_; clear h; rintro e w ⟨rfl, h⟩)
          | (go_at_call 24; refine (do_on _ _ _ _ (by first | exact h | exact h.alloc _)).mono ?_; clear h; rintro e w ⟨rfl, h⟩))
        go_ret
        exact ⟨rfl, h⟩)

theorem wordLogic_walk (a0 a1 : Int) (a2 a3 : Bool) (w0 : (Lit.int .i64 a0).wf = true) (w1 : (Lit.int .i64 a1).wf = true) (w : World) (H : Pow w) :
    Calls Tryd.prog 7 #[.int .i64 a0, .int .i64 a1, .bool a2, .bool a3] w fun e w' => e = .returned (.bool true) ∧ Below w.heap.size w w' :=
  logic_core a0 a1 a2 a3 (bounds_i64 w0) (bounds_i64 w1) w H
end Go.Proofs.YtbphpbkkafgihaaDoor
