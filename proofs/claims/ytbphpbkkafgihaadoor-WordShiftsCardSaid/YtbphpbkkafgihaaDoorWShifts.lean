/- The walk of WordShifts: shifted up, down, and up again; shifted by too much. -/
import Derived.Test.YtbphpbkkafgihaaDoorWLaid
import Derived.OpenShut
namespace Go.Proofs.YtbphpbkkafgihaaDoor
open Go.RowKit

theorem two_pos (n : Nat) : (0 : Int) < 2 ^ n := Int.pow_pos (by decide)
theorem two_split (n m : Nat) (h : n ≤ m) : (2 : Int) ^ m = 2 ^ n * 2 ^ (m - n) := by rw [← Int.pow_add, show n + (m - n) = m by omega]
theorem shift_again (a : Int) (n : Nat) (hn : n ≤ 63) : wrap64 (wrap64 (a * 2 ^ n) / 2 ^ n * 2 ^ n) = wrap64 (a * 2 ^ n) := by
  have hp := two_pos n
  have e1 : ∃ q, wrap64 (a * 2 ^ n) = q * 2 ^ n := by
    have h64 : (18446744073709551616 : Int) = 2 ^ n * 2 ^ (64 - n) := by rw [← two_split n 64 (by omega)]; rfl
    refine ⟨a - (a * 2 ^ n + 9223372036854775808) / 18446744073709551616 * 2 ^ (64 - n), ?_⟩
    have := Int.emod_def (a * 2 ^ n + 9223372036854775808) 18446744073709551616
    unfold wrap64
    rw [this, Int.sub_mul, Int.mul_assoc, Int.mul_comm (2 ^ (64 - n)) (2 ^ n), ← h64]
    omega
  obtain ⟨q, hq⟩ := e1
  rw [hq, Int.mul_ediv_cancel _ (by omega), ← hq]
  have := wrap_range (a * 2 ^ n)
  unfold wrap64 at *
  omega
theorem shift_whole (a : Int) (n : Nat) (hn : n ≤ 63) : a / 2 ^ n / 2 ^ (63 - n) = a / 2 ^ 63 := by
  rw [Int.ediv_ediv_of_nonneg (Int.le_of_lt (two_pos n)), ← two_split n 63 hn]

set_option maxRecDepth 100000 in
set_option maxHeartbeats 1000000 in
theorem shifts_core (a b d : Int) (x : Bool) (hd : (if x then b.tmod 64 else b) = d) (w0 : World) (H0 : Pow w0) :
    Calls Tryd.prog 9 #[.int .i64 a, .int .i64 b, .bool x] w0 fun e w' => e = .returned (.bool true) ∧ Past w0 w' := by
  have H : Hid (Pow w0) := Lib.hid H0
  clear H0
  have h : Past w0 w0 := Past.refl _
  by_cases hr : 0 ≤ d ∧ d ≤ 63
  · obtain ⟨U, hU⟩ : ∃ U, binV { data := #[60, 60] } a d = U := ⟨_, rfl⟩
    obtain ⟨D, hD⟩ : ∃ D, binV { data := #[62, 62] } a d = D := ⟨_, rfl⟩
    obtain ⟨K, hK⟩ : ∃ K, binV { data := #[62, 62] } U d = K := ⟨_, rfl⟩
    obtain ⟨S, hS⟩ : ∃ S, binV { data := #[62, 62] } a 63 = S := ⟨_, rfl⟩
    have t1 : binT { data := #[60, 60] } d = 0 := by rw [binT_left, if_pos hr]
    have t2 : binT { data := #[62, 62] } d = 0 := by rw [binT_right, if_pos hr]
    have hN : d.toNat ≤ 63 := by omega
    have hA : binV { data := #[60, 60] } K d = U := by
      subst hK hU
      rw [binV_left, binV_right, binV_left, if_pos hr, if_pos hr, if_pos hr]
      exact shift_again a d.toNat hN
    have hW : binV { data := #[62, 62] } D (63 - d) = S := by
      subst hD hS
      rw [binV_right, binV_right, binV_right, if_pos hr, if_pos (by omega), if_pos (by omega), show (63 - d).toNat = 63 - d.toNat by omega]
      exact shift_whole a d.toNat hN
    have hE : binV { data := #[61, 61] } S S = 1 := by rw [binV_equal]; simp [bit]
    obtain ⟨h1, h2⟩ := hr
    have h3 : ¬ d < 0 := by omega
    have h4 : ¬ 63 < d := by omega
    clear hN
    cases x
    all_goals
      simp only [if_true, if_false, Bool.false_eq_true] at hd
      try subst hd
      go_enter Tryd.func9, Tryd.ntmps9
      go_wp2_with (first
        | (go_at_call 11; refine (ex_any w0 H.out _ h).mono ?_; clear h; rintro e w ⟨rfl, h⟩)
        | (go_at_call 24; refine (do_on _ _ _ _ (by first | exact h | exact h.alloc _)).mono ?_; clear h; rintro e w ⟨rfl, h⟩)
        | (go_at_call 14; refine (bin_on _ _ _ _ (by first | exact h | exact h.alloc _)).mono ?_; clear h; rintro e w ⟨rfl, h⟩))
      go_ret
      exact ⟨rfl, h⟩
  · have t1 : binT { data := #[60, 60] } d = 2 := by rw [binT_left, if_neg hr]
    have t2 : binT { data := #[62, 62] } d = 2 := by rw [binT_right, if_neg hr]
    have v1 : binV { data := #[60, 60] } a d = 0 := by rw [binV_left, if_neg hr]
    have v2 : binV { data := #[62, 62] } a d = 0 := by rw [binV_right, if_neg hr]
    have hc : d < 0 ∨ (¬ d < 0 ∧ 63 < d) := by omega
    clear hr
    rcases hc with h1 | ⟨h1, h2⟩
    all_goals
      cases x
    all_goals
      simp only [if_true, if_false, Bool.false_eq_true] at hd
      try subst hd
      go_enter Tryd.func9, Tryd.ntmps9
      go_wp2_with (first
        | (go_at_call 11; refine (ex_any w0 H.out _ h).mono ?_; clear h; rintro e w ⟨rfl, h⟩)
        | (go_at_call 24; refine (do_on _ _ _ _ (by first | exact h | exact h.alloc _)).mono ?_; clear h; rintro e w ⟨rfl, h⟩)
        | (go_at_call 14; refine (bin_on _ _ _ _ (by first | exact h | exact h.alloc _)).mono ?_; clear h; rintro e w ⟨rfl, h⟩))
      go_ret
      exact ⟨rfl, h⟩

theorem wordShifts_walk (a0 a1 : Int) (a2 : Bool) (_ : (Lit.int .i64 a0).wf = true) (_ : (Lit.int .i64 a1).wf = true) (w : World) (H : Pow w) :
    Calls Tryd.prog 9 #[.int .i64 a0, .int .i64 a1, .bool a2] w fun e w' => e = .returned (.bool true) ∧ Below w.heap.size w w' :=
  shifts_core a0 a1 _ a2 rfl w H
end Go.Proofs.YtbphpbkkafgihaaDoor
