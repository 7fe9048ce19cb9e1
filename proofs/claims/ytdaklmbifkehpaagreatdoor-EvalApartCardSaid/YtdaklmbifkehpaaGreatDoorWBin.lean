/- What word.Binary answers of each operation, and of any other text; what do answers. -/
import Derived.Test.YtdaklmbifkehpaaGreatDoorWFind
import Derived.Test.YtdaklmbifkehpaaGreatDoorWUn
namespace Go.Proofs.YtdaklmbifkehpaaGreatDoor
open Go.RowKit

theorem bin_either (a b : Int) (w : World) :
    Calls Tryz.prog 34 #[.string { data := #[124, 124] }, .int .i64 a, .int .i64 b] w fun e w' => e = .returned (.tuple #[.int .i64 (binV { data := #[124, 124] } a b), .int .i64 (binT { data := #[124, 124] } b)]) ∧ Below w.heap.size w w' := by
  rw [binV_either, show binT { data := #[124, 124] } b = 0 from rfl]
  go_enter Tryz.func34, Tryz.ntmps34
  go_wp2_with (first | (go_at_call 55; refine (find_either _).mono ?_; rintro e w' ⟨rfl, rfl⟩) | (go_at_call 125; refine (t_noTrap _ _).mono ?_; rintro e w' ⟨rfl, rfl⟩) | (go_at_call 79; refine (m_either _ _ _).mono ?_; rintro e w' ⟨rfl, rfl⟩))
  go_ret2
  exact ⟨rfl, ((((Below.refl _ _).alloc (Nat.le_refl _) _).alloc (by simp) _).alloc (by simp; omega) _)⟩
theorem bin_both (a b : Int) (w : World) :
    Calls Tryz.prog 34 #[.string { data := #[38, 38] }, .int .i64 a, .int .i64 b] w fun e w' => e = .returned (.tuple #[.int .i64 (binV { data := #[38, 38] } a b), .int .i64 (binT { data := #[38, 38] } b)]) ∧ Below w.heap.size w w' := by
  rw [binV_both, show binT { data := #[38, 38] } b = 0 from rfl]
  go_enter Tryz.func34, Tryz.ntmps34
  go_wp2_with (first | (go_at_call 55; refine (find_both _).mono ?_; rintro e w' ⟨rfl, rfl⟩) | (go_at_call 125; refine (t_noTrap _ _).mono ?_; rintro e w' ⟨rfl, rfl⟩) | (go_at_call 80; refine (m_both _ _ _).mono ?_; rintro e w' ⟨rfl, rfl⟩))
  go_ret2
  exact ⟨rfl, ((((Below.refl _ _).alloc (Nat.le_refl _) _).alloc (by simp) _).alloc (by simp; omega) _)⟩
theorem bin_bitOr (a b : Int) (w : World) :
    Calls Tryz.prog 34 #[.string { data := #[124] }, .int .i64 a, .int .i64 b] w fun e w' => e = .returned (.tuple #[.int .i64 (binV { data := #[124] } a b), .int .i64 (binT { data := #[124] } b)]) ∧ Below w.heap.size w w' := by
  rw [binV_bitOr, show binT { data := #[124] } b = 0 from rfl]
  go_enter Tryz.func34, Tryz.ntmps34
  go_wp2_with (first | (go_at_call 55; refine (find_bitOr _).mono ?_; rintro e w' ⟨rfl, rfl⟩) | (go_at_call 125; refine (t_noTrap _ _).mono ?_; rintro e w' ⟨rfl, rfl⟩) | (go_at_call 81; refine (m_bitOr _ _ _).mono ?_; rintro e w' ⟨rfl, rfl⟩))
  go_ret2
  exact ⟨rfl, ((((Below.refl _ _).alloc (Nat.le_refl _) _).alloc (by simp) _).alloc (by simp; omega) _)⟩
theorem bin_bitXor (a b : Int) (w : World) :
    Calls Tryz.prog 34 #[.string { data := #[94] }, .int .i64 a, .int .i64 b] w fun e w' => e = .returned (.tuple #[.int .i64 (binV { data := #[94] } a b), .int .i64 (binT { data := #[94] } b)]) ∧ Below w.heap.size w w' := by
  rw [binV_bitXor, show binT { data := #[94] } b = 0 from rfl]
  go_enter Tryz.func34, Tryz.ntmps34
  go_wp2_with (first | (go_at_call 55; refine (find_bitXor _).mono ?_; rintro e w' ⟨rfl, rfl⟩) | (go_at_call 125; refine (t_noTrap _ _).mono ?_; rintro e w' ⟨rfl, rfl⟩) | (go_at_call 82; refine (m_bitXor _ _ _).mono ?_; rintro e w' ⟨rfl, rfl⟩))
  go_ret2
  exact ⟨rfl, ((((Below.refl _ _).alloc (Nat.le_refl _) _).alloc (by simp) _).alloc (by simp; omega) _)⟩
theorem bin_bitAnd (a b : Int) (w : World) :
    Calls Tryz.prog 34 #[.string { data := #[38] }, .int .i64 a, .int .i64 b] w fun e w' => e = .returned (.tuple #[.int .i64 (binV { data := #[38] } a b), .int .i64 (binT { data := #[38] } b)]) ∧ Below w.heap.size w w' := by
  rw [binV_bitAnd, show binT { data := #[38] } b = 0 from rfl]
  go_enter Tryz.func34, Tryz.ntmps34
  go_wp2_with (first | (go_at_call 55; refine (find_bitAnd _).mono ?_; rintro e w' ⟨rfl, rfl⟩) | (go_at_call 125; refine (t_noTrap _ _).mono ?_; rintro e w' ⟨rfl, rfl⟩) | (go_at_call 83; refine (m_bitAnd _ _ _).mono ?_; rintro e w' ⟨rfl, rfl⟩))
  go_ret2
  exact ⟨rfl, ((((Below.refl _ _).alloc (Nat.le_refl _) _).alloc (by simp) _).alloc (by simp; omega) _)⟩
theorem bin_equal (a b : Int) (w : World) :
    Calls Tryz.prog 34 #[.string { data := #[61, 61] }, .int .i64 a, .int .i64 b] w fun e w' => e = .returned (.tuple #[.int .i64 (binV { data := #[61, 61] } a b), .int .i64 (binT { data := #[61, 61] } b)]) ∧ Below w.heap.size w w' := by
  rw [binV_equal, show binT { data := #[61, 61] } b = 0 from rfl]
  go_enter Tryz.func34, Tryz.ntmps34
  go_wp2_with (first | (go_at_call 55; refine (find_equal _).mono ?_; rintro e w' ⟨rfl, rfl⟩) | (go_at_call 125; refine (t_noTrap _ _).mono ?_; rintro e w' ⟨rfl, rfl⟩) | (go_at_call 84; refine (m_equal _ _ _).mono ?_; rintro e w' ⟨rfl, rfl⟩))
  go_ret2
  exact ⟨rfl, ((((Below.refl _ _).alloc (Nat.le_refl _) _).alloc (by simp) _).alloc (by simp; omega) _)⟩
theorem bin_unequal (a b : Int) (w : World) :
    Calls Tryz.prog 34 #[.string { data := #[33, 61] }, .int .i64 a, .int .i64 b] w fun e w' => e = .returned (.tuple #[.int .i64 (binV { data := #[33, 61] } a b), .int .i64 (binT { data := #[33, 61] } b)]) ∧ Below w.heap.size w w' := by
  rw [binV_unequal, show binT { data := #[33, 61] } b = 0 from rfl]
  go_enter Tryz.func34, Tryz.ntmps34
  go_wp2_with (first | (go_at_call 55; refine (find_unequal _).mono ?_; rintro e w' ⟨rfl, rfl⟩) | (go_at_call 125; refine (t_noTrap _ _).mono ?_; rintro e w' ⟨rfl, rfl⟩) | (go_at_call 85; refine (m_unequal _ _ _).mono ?_; rintro e w' ⟨rfl, rfl⟩))
  go_ret2
  exact ⟨rfl, ((((Below.refl _ _).alloc (Nat.le_refl _) _).alloc (by simp) _).alloc (by simp; omega) _)⟩
theorem bin_less (a b : Int) (w : World) :
    Calls Tryz.prog 34 #[.string { data := #[60] }, .int .i64 a, .int .i64 b] w fun e w' => e = .returned (.tuple #[.int .i64 (binV { data := #[60] } a b), .int .i64 (binT { data := #[60] } b)]) ∧ Below w.heap.size w w' := by
  rw [binV_less, show binT { data := #[60] } b = 0 from rfl]
  go_enter Tryz.func34, Tryz.ntmps34
  go_wp2_with (first | (go_at_call 55; refine (find_less _).mono ?_; rintro e w' ⟨rfl, rfl⟩) | (go_at_call 125; refine (t_noTrap _ _).mono ?_; rintro e w' ⟨rfl, rfl⟩) | (go_at_call 86; refine (m_less _ _ _).mono ?_; rintro e w' ⟨rfl, rfl⟩))
  go_ret2
  exact ⟨rfl, ((((Below.refl _ _).alloc (Nat.le_refl _) _).alloc (by simp) _).alloc (by simp; omega) _)⟩
theorem bin_atMost (a b : Int) (w : World) :
    Calls Tryz.prog 34 #[.string { data := #[60, 61] }, .int .i64 a, .int .i64 b] w fun e w' => e = .returned (.tuple #[.int .i64 (binV { data := #[60, 61] } a b), .int .i64 (binT { data := #[60, 61] } b)]) ∧ Below w.heap.size w w' := by
  rw [binV_atMost, show binT { data := #[60, 61] } b = 0 from rfl]
  go_enter Tryz.func34, Tryz.ntmps34
  go_wp2_with (first | (go_at_call 55; refine (find_atMost _).mono ?_; rintro e w' ⟨rfl, rfl⟩) | (go_at_call 125; refine (t_noTrap _ _).mono ?_; rintro e w' ⟨rfl, rfl⟩) | (go_at_call 87; refine (m_atMost _ _ _).mono ?_; rintro e w' ⟨rfl, rfl⟩))
  go_ret2
  exact ⟨rfl, ((((Below.refl _ _).alloc (Nat.le_refl _) _).alloc (by simp) _).alloc (by simp; omega) _)⟩
theorem bin_more (a b : Int) (w : World) :
    Calls Tryz.prog 34 #[.string { data := #[62] }, .int .i64 a, .int .i64 b] w fun e w' => e = .returned (.tuple #[.int .i64 (binV { data := #[62] } a b), .int .i64 (binT { data := #[62] } b)]) ∧ Below w.heap.size w w' := by
  rw [binV_more, show binT { data := #[62] } b = 0 from rfl]
  go_enter Tryz.func34, Tryz.ntmps34
  go_wp2_with (first | (go_at_call 55; refine (find_more _).mono ?_; rintro e w' ⟨rfl, rfl⟩) | (go_at_call 125; refine (t_noTrap _ _).mono ?_; rintro e w' ⟨rfl, rfl⟩) | (go_at_call 88; refine (m_more _ _ _).mono ?_; rintro e w' ⟨rfl, rfl⟩))
  go_ret2
  exact ⟨rfl, ((((Below.refl _ _).alloc (Nat.le_refl _) _).alloc (by simp) _).alloc (by simp; omega) _)⟩
theorem bin_atLeast (a b : Int) (w : World) :
    Calls Tryz.prog 34 #[.string { data := #[62, 61] }, .int .i64 a, .int .i64 b] w fun e w' => e = .returned (.tuple #[.int .i64 (binV { data := #[62, 61] } a b), .int .i64 (binT { data := #[62, 61] } b)]) ∧ Below w.heap.size w w' := by
  rw [binV_atLeast, show binT { data := #[62, 61] } b = 0 from rfl]
  go_enter Tryz.func34, Tryz.ntmps34
  go_wp2_with (first | (go_at_call 55; refine (find_atLeast _).mono ?_; rintro e w' ⟨rfl, rfl⟩) | (go_at_call 125; refine (t_noTrap _ _).mono ?_; rintro e w' ⟨rfl, rfl⟩) | (go_at_call 89; refine (m_atLeast _ _ _).mono ?_; rintro e w' ⟨rfl, rfl⟩))
  go_ret2
  exact ⟨rfl, ((((Below.refl _ _).alloc (Nat.le_refl _) _).alloc (by simp) _).alloc (by simp; omega) _)⟩
theorem bin_left (a b : Int) (w : World) :
    Calls Tryz.prog 34 #[.string { data := #[60, 60] }, .int .i64 a, .int .i64 b] w fun e w' => e = .returned (.tuple #[.int .i64 (binV { data := #[60, 60] } a b), .int .i64 (binT { data := #[60, 60] } b)]) ∧ Below w.heap.size w w' := by
  rw [binV_left, binT_left]
  by_cases hb : 0 ≤ b ∧ b ≤ 63
  · rw [if_pos hb, if_pos hb]
    have ht : ∀ W, Calls Tryz.prog 127 #[.int .i64 b] W fun e w' => e = .returned (.int .i64 0) ∧ w' = W := fun W => by have := t_shiftTrap b W; rwa [if_pos hb] at this
    have hm : ∀ W, Calls Tryz.prog 91 #[.int .i64 a, .int .i64 b] W fun e w' => e = .returned (.int .i64 (wrap64 (a * 2 ^ b.toNat))) ∧ w' = W := fun W => m_left a b hb.1 hb.2 W
    clear hb
    go_enter Tryz.func34, Tryz.ntmps34
    go_wp2_with (first | (go_at_call 55; refine (find_left _).mono ?_; rintro e w' ⟨rfl, rfl⟩) | (go_at_call 127; refine (ht _).mono ?_; rintro e w' ⟨rfl, rfl⟩) | (go_at_call 91; refine (hm _).mono ?_; rintro e w' ⟨rfl, rfl⟩))
    go_ret2
    exact ⟨rfl, ((((Below.refl _ _).alloc (Nat.le_refl _) _).alloc (by simp) _).alloc (by simp; omega) _)⟩
  · rw [if_neg hb, if_neg hb]
    have ht : ∀ W, Calls Tryz.prog 127 #[.int .i64 b] W fun e w' => e = .returned (.int .i64 2) ∧ w' = W := fun W => by have := t_shiftTrap b W; rwa [if_neg hb] at this
    clear hb
    go_enter Tryz.func34, Tryz.ntmps34
    go_wp2_with (first | (go_at_call 55; refine (find_left _).mono ?_; rintro e w' ⟨rfl, rfl⟩) | (go_at_call 127; refine (ht _).mono ?_; rintro e w' ⟨rfl, rfl⟩) | (go_at_call 91; refine (m_left _ _ (by assumption) (by assumption) _).mono ?_; rintro e w' ⟨rfl, rfl⟩))
    go_ret2
    exact ⟨rfl, ((((Below.refl _ _).alloc (Nat.le_refl _) _).alloc (by simp) _).alloc (by simp; omega) _)⟩
theorem bin_right (a b : Int) (w : World) :
    Calls Tryz.prog 34 #[.string { data := #[62, 62] }, .int .i64 a, .int .i64 b] w fun e w' => e = .returned (.tuple #[.int .i64 (binV { data := #[62, 62] } a b), .int .i64 (binT { data := #[62, 62] } b)]) ∧ Below w.heap.size w w' := by
  rw [binV_right, binT_right]
  by_cases hb : 0 ≤ b ∧ b ≤ 63
  · rw [if_pos hb, if_pos hb]
    have ht : ∀ W, Calls Tryz.prog 127 #[.int .i64 b] W fun e w' => e = .returned (.int .i64 0) ∧ w' = W := fun W => by have := t_shiftTrap b W; rwa [if_pos hb] at this
    have hm : ∀ W, Calls Tryz.prog 92 #[.int .i64 a, .int .i64 b] W fun e w' => e = .returned (.int .i64 (a / 2 ^ b.toNat)) ∧ w' = W := fun W => m_right a b hb.1 hb.2 W
    clear hb
    go_enter Tryz.func34, Tryz.ntmps34
    go_wp2_with (first | (go_at_call 55; refine (find_right _).mono ?_; rintro e w' ⟨rfl, rfl⟩) | (go_at_call 127; refine (ht _).mono ?_; rintro e w' ⟨rfl, rfl⟩) | (go_at_call 92; refine (hm _).mono ?_; rintro e w' ⟨rfl, rfl⟩))
    go_ret2
    exact ⟨rfl, ((((Below.refl _ _).alloc (Nat.le_refl _) _).alloc (by simp) _).alloc (by simp; omega) _)⟩
  · rw [if_neg hb, if_neg hb]
    have ht : ∀ W, Calls Tryz.prog 127 #[.int .i64 b] W fun e w' => e = .returned (.int .i64 2) ∧ w' = W := fun W => by have := t_shiftTrap b W; rwa [if_neg hb] at this
    clear hb
    go_enter Tryz.func34, Tryz.ntmps34
    go_wp2_with (first | (go_at_call 55; refine (find_right _).mono ?_; rintro e w' ⟨rfl, rfl⟩) | (go_at_call 127; refine (ht _).mono ?_; rintro e w' ⟨rfl, rfl⟩) | (go_at_call 92; refine (m_left _ _ (by assumption) (by assumption) _).mono ?_; rintro e w' ⟨rfl, rfl⟩))
    go_ret2
    exact ⟨rfl, ((((Below.refl _ _).alloc (Nat.le_refl _) _).alloc (by simp) _).alloc (by simp; omega) _)⟩
theorem bin_plus (a b : Int) (w : World) :
    Calls Tryz.prog 34 #[.string { data := #[43] }, .int .i64 a, .int .i64 b] w fun e w' => e = .returned (.tuple #[.int .i64 (binV { data := #[43] } a b), .int .i64 (binT { data := #[43] } b)]) ∧ Below w.heap.size w w' := by
  rw [binV_plus, show binT { data := #[43] } b = 0 from rfl]
  go_enter Tryz.func34, Tryz.ntmps34
  go_wp2_with (first | (go_at_call 55; refine (find_plus _).mono ?_; rintro e w' ⟨rfl, rfl⟩) | (go_at_call 125; refine (t_noTrap _ _).mono ?_; rintro e w' ⟨rfl, rfl⟩) | (go_at_call 93; refine (m_plus _ _ _).mono ?_; rintro e w' ⟨rfl, rfl⟩))
  go_ret2
  exact ⟨rfl, ((((Below.refl _ _).alloc (Nat.le_refl _) _).alloc (by simp) _).alloc (by simp; omega) _)⟩
theorem bin_minus (a b : Int) (w : World) :
    Calls Tryz.prog 34 #[.string { data := #[45] }, .int .i64 a, .int .i64 b] w fun e w' => e = .returned (.tuple #[.int .i64 (binV { data := #[45] } a b), .int .i64 (binT { data := #[45] } b)]) ∧ Below w.heap.size w w' := by
  rw [binV_minus, show binT { data := #[45] } b = 0 from rfl]
  go_enter Tryz.func34, Tryz.ntmps34
  go_wp2_with (first | (go_at_call 55; refine (find_minus _).mono ?_; rintro e w' ⟨rfl, rfl⟩) | (go_at_call 125; refine (t_noTrap _ _).mono ?_; rintro e w' ⟨rfl, rfl⟩) | (go_at_call 94; refine (m_minus _ _ _).mono ?_; rintro e w' ⟨rfl, rfl⟩))
  go_ret2
  exact ⟨rfl, ((((Below.refl _ _).alloc (Nat.le_refl _) _).alloc (by simp) _).alloc (by simp; omega) _)⟩
theorem bin_times (a b : Int) (w : World) :
    Calls Tryz.prog 34 #[.string { data := #[42] }, .int .i64 a, .int .i64 b] w fun e w' => e = .returned (.tuple #[.int .i64 (binV { data := #[42] } a b), .int .i64 (binT { data := #[42] } b)]) ∧ Below w.heap.size w w' := by
  rw [binV_times, show binT { data := #[42] } b = 0 from rfl]
  go_enter Tryz.func34, Tryz.ntmps34
  go_wp2_with (first | (go_at_call 55; refine (find_times _).mono ?_; rintro e w' ⟨rfl, rfl⟩) | (go_at_call 125; refine (t_noTrap _ _).mono ?_; rintro e w' ⟨rfl, rfl⟩) | (go_at_call 95; refine (m_times _ _ _).mono ?_; rintro e w' ⟨rfl, rfl⟩))
  go_ret2
  exact ⟨rfl, ((((Below.refl _ _).alloc (Nat.le_refl _) _).alloc (by simp) _).alloc (by simp; omega) _)⟩
theorem bin_quotient (a b : Int) (w : World) :
    Calls Tryz.prog 34 #[.string { data := #[47] }, .int .i64 a, .int .i64 b] w fun e w' => e = .returned (.tuple #[.int .i64 (binV { data := #[47] } a b), .int .i64 (binT { data := #[47] } b)]) ∧ Below w.heap.size w w' := by
  rw [binV_quotient, binT_quotient]
  by_cases hb : b = 0
  · subst hb
    rw [if_pos rfl, if_pos rfl]
    go_enter Tryz.func34, Tryz.ntmps34
    go_wp2_with (first | (go_at_call 55; refine (find_quotient _).mono ?_; rintro e w' ⟨rfl, rfl⟩) | (go_at_call 128; refine (t_zeroTrap _ _).mono ?_; rintro e w' ⟨rfl, rfl⟩) | (go_at_call 97; refine (m_quotient _ _ (by assumption) _).mono ?_; rintro e w' ⟨rfl, rfl⟩))
    go_ret2
    exact ⟨rfl, ((((Below.refl _ _).alloc (Nat.le_refl _) _).alloc (by simp) _).alloc (by simp; omega) _)⟩
  · rw [if_neg hb, if_neg hb]
    have ht : ∀ W, Calls Tryz.prog 128 #[.int .i64 b] W fun e w' => e = .returned (.int .i64 0) ∧ w' = W := fun W => by have := t_zeroTrap b W; rwa [if_neg hb] at this
    have hm : ∀ W, Calls Tryz.prog 97 #[.int .i64 a, .int .i64 b] W fun e w' => e = .returned (.int .i64 (wrap64 (a.tdiv b))) ∧ w' = W := fun W => m_quotient a b hb W
    clear hb
    go_enter Tryz.func34, Tryz.ntmps34
    go_wp2_with (first | (go_at_call 55; refine (find_quotient _).mono ?_; rintro e w' ⟨rfl, rfl⟩) | (go_at_call 128; refine (ht _).mono ?_; rintro e w' ⟨rfl, rfl⟩) | (go_at_call 97; refine (hm _).mono ?_; rintro e w' ⟨rfl, rfl⟩))
    go_ret2
    exact ⟨rfl, ((((Below.refl _ _).alloc (Nat.le_refl _) _).alloc (by simp) _).alloc (by simp; omega) _)⟩
theorem bin_rest (a b : Int) (w : World) :
    Calls Tryz.prog 34 #[.string { data := #[37] }, .int .i64 a, .int .i64 b] w fun e w' => e = .returned (.tuple #[.int .i64 (binV { data := #[37] } a b), .int .i64 (binT { data := #[37] } b)]) ∧ Below w.heap.size w w' := by
  rw [binV_rest, binT_rest]
  by_cases hb : b = 0
  · subst hb
    rw [if_pos rfl, if_pos rfl]
    go_enter Tryz.func34, Tryz.ntmps34
    go_wp2_with (first | (go_at_call 55; refine (find_rest _).mono ?_; rintro e w' ⟨rfl, rfl⟩) | (go_at_call 128; refine (t_zeroTrap _ _).mono ?_; rintro e w' ⟨rfl, rfl⟩) | (go_at_call 98; refine (m_rest _ _ (by assumption) _).mono ?_; rintro e w' ⟨rfl, rfl⟩))
    go_ret2
    exact ⟨rfl, ((((Below.refl _ _).alloc (Nat.le_refl _) _).alloc (by simp) _).alloc (by simp; omega) _)⟩
  · rw [if_neg hb, if_neg hb]
    have ht : ∀ W, Calls Tryz.prog 128 #[.int .i64 b] W fun e w' => e = .returned (.int .i64 0) ∧ w' = W := fun W => by have := t_zeroTrap b W; rwa [if_neg hb] at this
    have hm : ∀ W, Calls Tryz.prog 98 #[.int .i64 a, .int .i64 b] W fun e w' => e = .returned (.int .i64 (a.tmod b)) ∧ w' = W := fun W => m_rest a b hb W
    clear hb
    go_enter Tryz.func34, Tryz.ntmps34
    go_wp2_with (first | (go_at_call 55; refine (find_rest _).mono ?_; rintro e w' ⟨rfl, rfl⟩) | (go_at_call 128; refine (ht _).mono ?_; rintro e w' ⟨rfl, rfl⟩) | (go_at_call 98; refine (hm _).mono ?_; rintro e w' ⟨rfl, rfl⟩))
    go_ret2
    exact ⟨rfl, ((((Below.refl _ _).alloc (Nat.le_refl _) _).alloc (by simp) _).alloc (by simp; omega) _)⟩
theorem find_none (s : ByteArray) (w : World)
    (h0 : (s.toList == [124, 124]) = false)
    (h1 : (s.toList == [38, 38]) = false)
    (h2 : (s.toList == [124]) = false)
    (h3 : (s.toList == [94]) = false)
    (h4 : (s.toList == [38]) = false)
    (h5 : (s.toList == [61, 61]) = false)
    (h6 : (s.toList == [33, 61]) = false)
    (h7 : (s.toList == [60]) = false)
    (h8 : (s.toList == [60, 61]) = false)
    (h9 : (s.toList == [62]) = false)
    (h10 : (s.toList == [62, 61]) = false)
    (h11 : (s.toList == [60, 60]) = false)
    (h12 : (s.toList == [62, 62]) = false)
    (h13 : (s.toList == [43]) = false)
    (h14 : (s.toList == [45]) = false)
    (h15 : (s.toList == [42]) = false)
    (h16 : (s.toList == [47]) = false)
    (h17 : (s.toList == [37]) = false)
    : Calls Tryz.prog 55 #[.string s] w fun e w' => e = .returned (.tuple #[.agg #[.int .i64 0, .nilFunc, .nilFunc], .bool false]) ∧ w' = w.alloc (.cells #[.int .i64 0, .nilFunc, .nilFunc] 119) := by
  go_enter Tryz.func55, Tryz.ntmps55
  go_wp2
  exact bodyPost_ret (v := .tuple #[.agg #[.int .i64 0, .nilFunc, .nilFunc], .bool false]) (by simp [results, Tryz.results55, go_sem]) rfl ⟨rfl, rfl⟩
end Go.Proofs.YtdaklmbifkehpaaGreatDoor
