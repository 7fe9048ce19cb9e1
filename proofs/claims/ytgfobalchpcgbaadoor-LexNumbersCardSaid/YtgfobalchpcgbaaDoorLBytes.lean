/- What lex asks of bytes: space, letters, digits; how many such stand at the beginning; keys and names. -/
import Derived.Test.YtgfobalchpcgbaaDoorRows
import Derived.Test.YtgfobalchpcgbaaDoorLMath
import Derived.WalkKit
import Derived.WalkSpells
import Derived.WalkLawsBesides
import Derived.Laws.EntriesVeiled
import Derived.BigGuardPart
import Derived.Lib.Hide
namespace Go.Proofs.YtgfobalchpcgbaaDoor
open Go Go.RowKit

def spI (x : Int) : Bool := x == 32 || x == 9 || x == 10 || x == 13
def ltI (x : Int) : Bool := (decide (97 ≤ x) && decide (x ≤ 122)) || (decide (65 ≤ x) && decide (x ≤ 90)) || x == 95
def dgI (x : Int) : Bool := decide (48 ≤ x) && decide (x ≤ 57)
def ptI (x : Int) : Bool := ltI x || dgI x
theorem eq_cast (n m : Nat) : ((n : Int) == (m : Int)) = (n == m) := by rw [Bool.eq_iff_iff, beq_iff_eq, beq_iff_eq]; omega
theorem le_cast (n m : Nat) : decide ((n : Int) ≤ (m : Int)) = decide (n ≤ m) := by rw [Bool.eq_iff_iff, decide_eq_true_iff, decide_eq_true_iff]; omega
theorem spI_nat (c : UInt8) : spI (c.toNat : Int) = isSp c := by
  unfold spI isSp
  rw [← eq_cast _ 32, ← eq_cast _ 9, ← eq_cast _ 10, ← eq_cast _ 13]; rfl
theorem ltI_nat (c : UInt8) : ltI (c.toNat : Int) = isLt c := by
  unfold ltI isLt
  rw [← eq_cast _ 95, ← le_cast 97, ← le_cast _ 122, ← le_cast 65, ← le_cast _ 90]; rfl
theorem dgI_nat (c : UInt8) : dgI (c.toNat : Int) = isDg c := by
  unfold dgI isDg
  rw [← le_cast 48, ← le_cast _ 57]; rfl
theorem ptI_nat (c : UInt8) : ptI (c.toNat : Int) = isPt c := by unfold ptI isPt; rw [ltI_nat, dgI_nat]

theorem spI_iff (x : Int) : spI x = true ↔ (x = 32 ∨ x = 9 ∨ x = 10 ∨ x = 13) := by simp [spI, or_assoc]
theorem ltI_iff (x : Int) : ltI x = true ↔ (97 ≤ x ∧ x ≤ 122 ∨ 65 ≤ x ∧ x ≤ 90 ∨ x = 95) := by simp [ltI, or_assoc]
theorem dgI_iff (x : Int) : dgI x = true ↔ (48 ≤ x ∧ x ≤ 57) := by simp [dgI]
theorem ret_bool {a b : Bool} (h : a = b) : Ending.returned (.bool a) = .returned (.bool b) := by rw [h]
theorem isSpace_any (x : Int) (w : World) : Calls Tryd.prog 32 #[.int .u8 x] w fun e w' => e = .returned (.bool (spI x)) ∧ w = w' := by
  go_enter Tryd.func32, Tryd.ntmps32
  go_wp2
  all_goals
    go_ret
    refine ⟨ret_bool ?_, rfl⟩
    rw [Bool.eq_iff_iff, spI_iff]; simp <;> omega
theorem isDigit_any (x : Int) (w : World) : Calls Tryd.prog 33 #[.int .u8 x] w fun e w' => e = .returned (.bool (dgI x)) ∧ w = w' := by
  go_enter Tryd.func33, Tryd.ntmps33
  go_wp2
  all_goals
    go_ret
    refine ⟨ret_bool ?_, rfl⟩
    rw [Bool.eq_iff_iff, dgI_iff]; simp <;> omega
theorem isLetter_any (x : Int) (w : World) : Calls Tryd.prog 19 #[.int .u8 x] w fun e w' => e = .returned (.bool (ltI x)) ∧ w = w' := by
  go_enter Tryd.func19, Tryd.ntmps19
  go_wp2
  all_goals
    go_ret
    refine ⟨ret_bool ?_, rfl⟩
    rw [Bool.eq_iff_iff, ltI_iff]; simp <;> omega
theorem isPart_any (x : Int) (w : World) : Calls Tryd.prog 21 #[.int .u8 x] w fun e w' => e = .returned (.bool (ptI x)) ∧ w = w' := by
  cases h1 : ltI x
  all_goals
    go_enter Tryd.func21, Tryd.ntmps21
    go_wp2_with (first
      | (go_at_call 19; refine (isLetter_any _ _).mono ?_; rintro e w' ⟨rfl, rfl⟩)
      | (go_at_call 33; refine (isDigit_any _ _).mono ?_; rintro e w' ⟨rfl, rfl⟩))
    go_ret
    refine ⟨ret_bool ?_, rfl⟩
    simp [ptI, h1]
def keyB (l : List UInt8) : Bool := l == [102, 117, 110, 99] || l == [118, 97, 114] || l == [105, 102] || l == [101, 108, 115, 101] || l == [119, 104, 105, 108, 101] || l == [98, 114, 101, 97, 107] || l == [99, 111, 110, 116, 105, 110, 117, 101] || l == [114, 101, 116, 117, 114, 110] || l == [97, 115, 115, 101, 114, 116] || l == [114, 101, 97, 100]
theorem keyB_is (s : ByteArray) : keyB s.toList = isKeyL s.data.toList := by
  rw [ByteArray.toList_eq]
  unfold keyB isKeyL keysL
  simp only [List.contains_cons, List.contains_nil, Bool.or_false, Bool.or_assoc]
set_option maxHeartbeats 1000000 in
theorem isKey_any (s : ByteArray) (w : World) : Calls Tryd.prog 12 #[.string s] w fun e w' => e = .returned (.bool (isKeyL s.data.toList)) ∧ w = w' := by
  rw [← keyB_is]
  go_enter Tryd.func12, Tryd.ntmps12
  go_wp2
  all_goals
    go_ret
    refine ⟨ret_bool ?_, rfl⟩
    simp_all [keyB]
end Go.Proofs.YtgfobalchpcgbaaDoor
