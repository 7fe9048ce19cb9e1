/- What right asks of one expression. -/
import Derived.Test.YtkfogoglaiibiaaGreatDoorTExpr
set_option linter.unusedSimpArgs false
set_option linter.unusedVariables false
namespace Go.Proofs.YtkfogoglaiibiaaGreatDoor
open Go Go.RowKit

abbrev exV (k : Int) (o : ByteArray) (n : Int) (m : ByteArray) (v : Value) : Value := .agg #[.int .i64 k, .string o, .int .i64 n, .string m, v]
set_option maxHeartbeats 1000000 in
set_option maxRecDepth 100000 in
theorem names_any (k : Int) (o : ByteArray) (n : Int) (m : ByteArray) (v : Value) (w : World) :
    Calls Tryz.prog 98 #[.agg #[.int .i64 k, .string o, .int .i64 n, .string m, v]] w fun e w' => e = .returned (.bool (namesC o n m)) ∧ Below w.heap.size w w' := by
  have key : nmB m = false ∧ namesC o n m = false ∨ nmB m = true ∧ (o.toList.isEmpty = false ∧ namesC o n m = false ∨ o.toList.isEmpty = true ∧ ((n == 0) = false ∧ namesC o n m = false ∨ (n == 0) = true ∧ namesC o n m = true)) := by
    unfold namesC
    cases nmB m <;> cases o.toList.isEmpty <;> cases (n == 0) <;> simp
  generalize namesC o n m = r at key ⊢
  rcases key with ⟨h1, rfl⟩ | ⟨h1, (⟨h2, rfl⟩ | ⟨h2, (⟨h3, rfl⟩ | ⟨h3, rfl⟩)⟩)⟩
  all_goals
    go_enter Tryz.func98, Tryz.ntmps98
    go_wp2_with (go_at_call 64; refine (isName_any _ _).mono ?_; rintro e w' ⟨rfl, rfl⟩; rw [h1])
    go_ret
    exact ⟨by simp, (Below.refl _ _).alloc (Nat.le_refl _) _⟩
set_option maxHeartbeats 1000000 in
set_option maxRecDepth 100000 in
theorem reckons_any (k : Int) (o : ByteArray) (n : Int) (m : ByteArray) (v : Value) (w : World) :
    Calls Tryz.prog 100 #[.agg #[.int .i64 k, .string o, .int .i64 n, .string m, v]] w fun e w' => e = .returned (.bool (reckC n m)) ∧ Below w.heap.size w w' := by
  have key : m.toList.isEmpty = false ∧ reckC n m = false ∨ m.toList.isEmpty = true ∧ ((n == 0) = false ∧ reckC n m = false ∨ (n == 0) = true ∧ reckC n m = true) := by
    unfold reckC
    cases m.toList.isEmpty <;> cases (n == 0) <;> simp
  generalize reckC n m = r at key ⊢
  rcases key with ⟨h2, rfl⟩ | ⟨h2, (⟨h3, rfl⟩ | ⟨h3, rfl⟩)⟩
  all_goals
    go_enter Tryz.func100, Tryz.ntmps100
    go_wp2_with fail
    go_ret
    exact ⟨by simp, (Below.refl _ _).alloc (Nat.le_refl _) _⟩
theorem len_is (len j : Nat) : ((len : Int) == (j : Int)) = (len == j) := by rw [Bool.eq_iff_iff, beq_iff_eq, beq_iff_eq]; omega
def FormedPost (r : Bool) (w : World) (e : Ending) (w' : World) : Prop := e = .returned (.bool r) ∧ Below w.heap.size w w'
set_option maxHeartbeats 2000000 in
set_option maxRecDepth 100000 in
theorem formed_num (o : ByteArray) (n : Int) (m : ByteArray) (a : Option Addr) (len c : Nat) (w : World) :
    Calls Tryz.prog 73 #[exV 0 o n m (.slice a len c)] w (FormedPost (o.toList.isEmpty && m.toList.isEmpty && len == 0) w) := by
  have e0 := len_is len 0
  generalize hr : (o.toList.isEmpty && m.toList.isEmpty && len == 0) = r
  have key : o.toList.isEmpty = false ∧ r = false ∨ o.toList.isEmpty = true ∧ (m.toList.isEmpty = false ∧ r = false ∨ m.toList.isEmpty = true ∧ (((len : Int) == 0) = false ∧ r = false ∨ ((len : Int) == 0) = true ∧ r = true)) := by
    rw [← hr, show ((len : Int) == 0) = (len == 0) from e0]
    cases o.toList.isEmpty <;> cases m.toList.isEmpty <;> cases (len == 0) <;> simp
  clear hr e0
  rcases key with ⟨h1, rfl⟩ | ⟨h1, (⟨h2, rfl⟩ | ⟨h2, (⟨h3, rfl⟩ | ⟨h3, rfl⟩)⟩)⟩
  all_goals
    go_enter Tryz.func73, Tryz.ntmps73
    go_wp2_with fail
    go_ret
    exact ⟨by simp, (Below.refl _ _).alloc (Nat.le_refl _) _⟩
set_option maxHeartbeats 2000000 in
set_option maxRecDepth 100000 in
theorem formed_var (o : ByteArray) (n : Int) (m : ByteArray) (a : Option Addr) (len c : Nat) (w : World) :
    Calls Tryz.prog 73 #[exV 1 o n m (.slice a len c)] w (FormedPost (namesC o n m && len == 0) w) := by
  have e0 := len_is len 0
  generalize hr : (namesC o n m && len == 0) = r
  have key : namesC o n m = false ∧ r = false ∨ namesC o n m = true ∧ (((len : Int) == 0) = false ∧ r = false ∨ ((len : Int) == 0) = true ∧ r = true) := by
    rw [← hr, show ((len : Int) == 0) = (len == 0) from e0]
    cases namesC o n m <;> cases (len == 0) <;> simp
  clear hr e0
  rcases key with ⟨h2, rfl⟩ | ⟨h2, (⟨h3, rfl⟩ | ⟨h3, rfl⟩)⟩
  all_goals
    go_enter Tryz.func73, Tryz.ntmps73
    go_wp2_with (go_at_call 98; refine (names_any _ _ _ _ _ _).mono ?_; rintro e w' ⟨rfl, hb⟩; rw [h2])
    go_ret
    exact ⟨by simp, ((Below.refl _ _).alloc (Nat.le_refl _) _).trans (hb.mono (by simp))⟩
set_option maxHeartbeats 2000000 in
set_option maxRecDepth 100000 in
theorem formed_idx (o : ByteArray) (n : Int) (m : ByteArray) (a : Option Addr) (len c : Nat) (w : World) :
    Calls Tryz.prog 73 #[exV 2 o n m (.slice a len c)] w (FormedPost (namesC o n m && len == 1) w) := by
  have e0 := len_is len 1
  generalize hr : (namesC o n m && len == 1) = r
  have key : namesC o n m = false ∧ r = false ∨ namesC o n m = true ∧ (((len : Int) == 1) = false ∧ r = false ∨ ((len : Int) == 1) = true ∧ r = true) := by
    rw [← hr, show ((len : Int) == 1) = (len == 1) from e0]
    cases namesC o n m <;> cases (len == 1) <;> simp
  clear hr e0
  rcases key with ⟨h2, rfl⟩ | ⟨h2, (⟨h3, rfl⟩ | ⟨h3, rfl⟩)⟩
  all_goals
    go_enter Tryz.func73, Tryz.ntmps73
    go_wp2_with (go_at_call 98; refine (names_any _ _ _ _ _ _).mono ?_; rintro e w' ⟨rfl, hb⟩; rw [h2])
    go_ret
    exact ⟨by simp, ((Below.refl _ _).alloc (Nat.le_refl _) _).trans (hb.mono (by simp))⟩
set_option maxHeartbeats 4000000 in
set_option maxRecDepth 100000 in
theorem formed_un (o : ByteArray) (n : Int) (m : ByteArray) (a : Option Addr) (len c : Nat) (w : World) :
    Calls Tryz.prog 73 #[exV 3 o n m (.slice a len c)] w (FormedPost (unB o && reckC n m && len == 1) w) := by
  have e0 := len_is len 1
  generalize hr : (unB o && reckC n m && len == 1) = r
  have key : unB o = false ∧ r = false ∨ unB o = true ∧ (reckC n m = false ∧ r = false ∨ reckC n m = true ∧ (((len : Int) == 1) = false ∧ r = false ∨ ((len : Int) == 1) = true ∧ r = true)) := by
    rw [← hr, show ((len : Int) == 1) = (len == 1) from e0]
    cases unB o <;> cases reckC n m <;> cases (len == 1) <;> simp
  clear hr e0
  rcases key with ⟨h1, rfl⟩ | ⟨h1, (⟨h2, rfl⟩ | ⟨h2, (⟨h3, rfl⟩ | ⟨h3, rfl⟩)⟩)⟩
  · go_enter Tryz.func73, Tryz.ntmps73
    go_wp2_with (go_at_call 99; refine (un_any _ _ (by decide) _).mono ?_; rintro e w1 ⟨rfl, hb⟩; rw [h1])
    go_ret
    exact ⟨by simp, ((Below.refl _ _).alloc (Nat.le_refl _) _).trans (hb.mono (by simp))⟩
  all_goals
    go_enter Tryz.func73, Tryz.ntmps73
    go_wp2_with (first
      | (go_at_call 99; refine (un_any _ _ (by decide) _).mono ?_; rintro e w1 ⟨rfl, hb⟩; rw [h1]; obtain ⟨c0, c1, c2, c3, c4⟩ := cells5 ((hb.block w.heap.size (by simp)).trans (bk_new _ _)))
      | (go_at_call 100; refine (reckons_any _ _ _ _ _ _).mono ?_; rintro e w2 ⟨rfl, hb2⟩; rw [h2]))
    go_ret
    exact ⟨by simp, (((Below.refl _ _).alloc (Nat.le_refl _) _).trans (hb.mono (by simp))).trans (hb2.mono (by have := hb.size; simp at this; omega))⟩
set_option maxHeartbeats 4000000 in
set_option maxRecDepth 100000 in
theorem formed_bin (o : ByteArray) (n : Int) (m : ByteArray) (a : Option Addr) (len c : Nat) (w : World) :
    Calls Tryz.prog 73 #[exV 4 o n m (.slice a len c)] w (FormedPost (decide (0 < levelV o) && reckC n m && len == 2) w) := by
  have e0 := len_is len 2
  generalize hr : (decide (0 < levelV o) && reckC n m && len == 2) = r
  generalize hlv : levelV o = lv at hr
  have HL := Lib.hid hlv
  have key : decide (0 < lv) = false ∧ r = false ∨ decide (0 < lv) = true ∧ (reckC n m = false ∧ r = false ∨ reckC n m = true ∧ (((len : Int) == 2) = false ∧ r = false ∨ ((len : Int) == 2) = true ∧ r = true)) := by
    rw [← hr, show ((len : Int) == 2) = (len == 2) from e0]
    cases decide (0 < lv) <;> cases reckC n m <;> cases (len == 2) <;> simp
  clear hr e0 hlv
  rcases key with ⟨h1, rfl⟩ | ⟨h1, (⟨h2, rfl⟩ | ⟨h2, (⟨h3, rfl⟩ | ⟨h3, rfl⟩)⟩)⟩
  · go_enter Tryz.func73, Tryz.ntmps73
    go_wp2_with (go_at_call 101; refine (level_any _ _).mono ?_; rintro e w1 ⟨rfl, hb⟩; rw [HL.out])
    go_ret
    exact ⟨by simp, ((Below.refl _ _).alloc (Nat.le_refl _) _).trans (hb.mono (by simp))⟩
  all_goals
    go_enter Tryz.func73, Tryz.ntmps73
    go_wp2_with (first
      | (go_at_call 101; refine (level_any _ _).mono ?_; rintro e w1 ⟨rfl, hb⟩; rw [HL.out]; obtain ⟨c0, c1, c2, c3, c4⟩ := cells5 ((hb.block w.heap.size (by simp)).trans (bk_new _ _)))
      | (go_at_call 100; refine (reckons_any _ _ _ _ _ _).mono ?_; rintro e w2 ⟨rfl, hb2⟩; rw [h2]))
    go_ret
    exact ⟨by simp, (((Below.refl _ _).alloc (Nat.le_refl _) _).trans (hb.mono (by simp))).trans (hb2.mono (by have := hb.size; simp at this; omega))⟩
set_option maxHeartbeats 4000000 in
set_option maxRecDepth 100000 in
theorem formed_any (k : Int) (o : ByteArray) (n : Int) (m : ByteArray) (a : Option Addr) (len c : Nat) (w : World) :
    Calls Tryz.prog 73 #[exV k o n m (.slice a len c)] w (FormedPost (formedC k o n m len) w) := by
  unfold formedC
  by_cases h0 : k = 0
  · subst h0; rw [if_pos rfl]; exact formed_num o n m a len c w
  rw [if_neg h0]
  by_cases h1 : k = 1
  · subst h1; rw [if_pos rfl]; exact formed_var o n m a len c w
  rw [if_neg h1]
  by_cases h2 : k = 2
  · subst h2; rw [if_pos rfl]; exact formed_idx o n m a len c w
  rw [if_neg h2]
  by_cases h3 : k = 3
  · subst h3; rw [if_pos rfl]; exact formed_un o n m a len c w
  rw [if_neg h3]
  by_cases h4 : k = 4
  · subst h4; rw [if_pos rfl]; exact formed_bin o n m a len c w
  rw [if_neg h4]
  go_enter Tryz.func73, Tryz.ntmps73
  go_wp2_with fail
  go_ret
  exact ⟨by simp, (Below.refl _ _).alloc (Nat.le_refl _) _⟩
end Go.Proofs.YtkfogoglaiibiaaGreatDoor
