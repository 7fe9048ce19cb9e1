/- What lex.IsName answers of any text (as wip/lex proves it at its own seat; what tree calls of lex). -/
import Derived.Test.YtppeogcpoplpeaaGreatDoorRows
import Derived.Test.YtppeogcpoplpeaaGreatDoorTText
import Derived.WalkKit
import Derived.WalkSpells
import Derived.WalkLawsBesides
import Derived.Laws.EntriesVeiled
import Derived.BigGuardPart
import Derived.Lib.Hide
set_option linter.unusedSimpArgs false
set_option linter.unusedVariables false
namespace Go.Proofs.YtppeogcpoplpeaaGreatDoor
open Go Go.RowKit

def spI (x : Int) : Bool := x == 32 || x == 9 || x == 10 || x == 13
def ltI (x : Int) : Bool := (decide (97 ≤ x) && decide (x ≤ 122)) || (decide (65 ≤ x) && decide (x ≤ 90)) || x == 95
def dgI (x : Int) : Bool := decide (48 ≤ x) && decide (x ≤ 57)
def ptI (x : Int) : Bool := ltI x || dgI x
theorem eq_cast (n m : Nat) : ((n : Int) == (m : Int)) = (n == m) := by rw [Bool.eq_iff_iff, beq_iff_eq, beq_iff_eq]; omega
theorem le_cast (n m : Nat) : decide ((n : Int) ≤ (m : Int)) = decide (n ≤ m) := by rw [Bool.eq_iff_iff, decide_eq_true_iff, decide_eq_true_iff]; omega
theorem spI_nat (c : UInt8) : spI (c.toNat : Int) = isSp c := by
  unfold spI isSp
  rw [← eq_cast _ 32, ← eq_cast _ 9, ← eq_cast _ 10, ← eq_cast _ 13]; rfl
theorem ltI_nat (c : UInt8) : ltI (c.toNat : Int) = isLt c := by
  unfold ltI isLt
  rw [← eq_cast _ 95, ← le_cast 97, ← le_cast _ 122, ← le_cast 65, ← le_cast _ 90]; rfl
theorem dgI_nat (c : UInt8) : dgI (c.toNat : Int) = isDg c := by
  unfold dgI isDg
  rw [← le_cast 48, ← le_cast _ 57]; rfl
theorem ptI_nat (c : UInt8) : ptI (c.toNat : Int) = isPt c := by unfold ptI isPt; rw [ltI_nat, dgI_nat]

theorem spI_iff (x : Int) : spI x = true ↔ (x = 32 ∨ x = 9 ∨ x = 10 ∨ x = 13) := by simp [spI, or_assoc]
theorem ltI_iff (x : Int) : ltI x = true ↔ (97 ≤ x ∧ x ≤ 122 ∨ 65 ≤ x ∧ x ≤ 90 ∨ x = 95) := by simp [ltI, or_assoc]
theorem dgI_iff (x : Int) : dgI x = true ↔ (48 ≤ x ∧ x ≤ 57) := by simp [dgI]
theorem ret_bool {a b : Bool} (h : a = b) : Ending.returned (.bool a) = .returned (.bool b) := by rw [h]
theorem isDigit_any (x : Int) (w : World) : Calls Tryz.prog 117 #[.int .u8 x] w fun e w' => e = .returned (.bool (dgI x)) ∧ w = w' := by
  go_enter Tryz.func117, Tryz.ntmps117
  go_wp2
  all_goals
    go_ret
    refine ⟨ret_bool ?_, rfl⟩
    rw [Bool.eq_iff_iff, dgI_iff]; simp <;> omega
theorem isLetter_any (x : Int) (w : World) : Calls Tryz.prog 95 #[.int .u8 x] w fun e w' => e = .returned (.bool (ltI x)) ∧ w = w' := by
  go_enter Tryz.func95, Tryz.ntmps95
  go_wp2
  all_goals
    go_ret
    refine ⟨ret_bool ?_, rfl⟩
    rw [Bool.eq_iff_iff, ltI_iff]; simp <;> omega
theorem isPart_any (x : Int) (w : World) : Calls Tryz.prog 97 #[.int .u8 x] w fun e w' => e = .returned (.bool (ptI x)) ∧ w = w' := by
  cases h1 : ltI x
  all_goals
    go_enter Tryz.func97, Tryz.ntmps97
    go_wp2_with (first
      | (go_at_call 95; refine (isLetter_any _ _).mono ?_; rintro e w' ⟨rfl, rfl⟩)
      | (go_at_call 117; refine (isDigit_any _ _).mono ?_; rintro e w' ⟨rfl, rfl⟩))
    go_ret
    refine ⟨ret_bool ?_, rfl⟩
    simp [ptI, h1]
def keyB (l : List UInt8) : Bool := l == [102, 117, 110, 99] || l == [118, 97, 114] || l == [105, 102] || l == [101, 108, 115, 101] || l == [119, 104, 105, 108, 101] || l == [98, 114, 101, 97, 107] || l == [99, 111, 110, 116, 105, 110, 117, 101] || l == [114, 101, 116, 117, 114, 110] || l == [97, 115, 115, 101, 114, 116] || l == [114, 101, 97, 100]
theorem keyB_is (s : ByteArray) : keyB s.toList = isKeyL s.data.toList := by
  rw [ByteArray.toList_eq]
  unfold keyB isKeyL keysL
  simp only [List.contains_cons, List.contains_nil, Bool.or_false, Bool.or_assoc]
set_option maxHeartbeats 1000000 in
theorem isKey_any (s : ByteArray) (w : World) : Calls Tryz.prog 94 #[.string s] w fun e w' => e = .returned (.bool (isKeyL s.data.toList)) ∧ w = w' := by
  rw [← keyB_is]
  go_enter Tryz.func94, Tryz.ntmps94
  go_wp2
  all_goals
    go_ret
    refine ⟨ret_bool ?_, rfl⟩
    simp_all [keyB]
def twI (p : UInt8 → Bool) (s : ByteArray) : Int := ((s.data.toList.takeWhile p).length : Nat)
theorem twI_bd (p : UInt8 → Bool) (s : ByteArray) : 0 ≤ twI p s ∧ twI p s ≤ s.size := by
  have h := (List.takeWhile_prefix p (l := s.data.toList)).length_le
  have e : s.data.toList.length = s.size := by simp
  unfold twI; omega
/-- The first k bytes are such. -/
def SoFar (p : UInt8 → Bool) (s : ByteArray) (k : Nat) : Prop := (s.data.toList.takeWhile p).length = k + ((s.data.toList.drop k).takeWhile p).length
theorem soFar_zero (p : UInt8 → Bool) (s : ByteArray) : SoFar p s 0 := by unfold SoFar; simp
theorem soFar_succ {p : UInt8 → Bool} {s : ByteArray} {k : Nat} (h : SoFar p s k) (hk : k < s.size) (hp : p s[k] = true) : SoFar p s (k + 1) := by
  have hk' : k < s.data.toList.length := by simpa using hk
  unfold SoFar at h ⊢
  rw [List.drop_eq_getElem_cons hk', List.takeWhile_cons_of_pos (by exact hp)] at h
  rw [h, List.length_cons]; omega
theorem soFar_stop {p : UInt8 → Bool} {s : ByteArray} {k : Nat} (h : SoFar p s k) (hk : k < s.size) (hp : p s[k] = false) : twI p s = (k : Int) := by
  have hk' : k < s.data.toList.length := by simpa using hk
  have hp' : p (s.data.toList[k]) = false := hp
  unfold SoFar at h
  rw [List.drop_eq_getElem_cons hk', List.takeWhile_cons_of_neg (by rw [hp']; simp)] at h
  unfold twI; rw [h]; simp
theorem soFar_end {p : UInt8 → Bool} {s : ByteArray} (h : SoFar p s s.size) : twI p s = (s.size : Int) := by
  unfold SoFar at h
  rw [List.drop_of_length_le (by simp)] at h
  unfold twI; rw [h]; simp

set_option maxHeartbeats 400000 in
theorem extent_pt (s : ByteArray) (hs : s.size ≤ 9223372036854775807) (w : World) :
    Calls Tryz.prog 96 #[.string s, .func (.func 97) #[] #[]] w fun e w' => e = .returned (.int .i64 (twI isPt s)) ∧ w = w' := by
  go_enter Tryz.func96, Tryz.ntmps96
  go_wp2
  go_loop [8] (fun i => ∃ k : Nat, k ≤ s.size ∧ i = .int .i64 k ∧ SoFar isPt s k) (fun i => s.size - (intOf i).toNat)
  case atStart => exact ⟨0, Nat.zero_le _, rfl, soFar_zero _ _⟩
  case round =>
    obtain ⟨k, hk, rfl, hso⟩ := hrel
    by_cases hlt : k < s.size
    · cases hp : isPt s[k]
      · have hq : ptI (s[k].toNat : Int) = false := by rw [ptI_nat]; exact hp
        have hz := Lib.hid (soFar_stop hso hlt hp)
        clear hp hso
        go_wp2_with (go_at_call 97; refine (isPart_any _ _).mono ?_; rintro e w' ⟨rfl, rfl⟩)
        go_ret
        exact ⟨by rw [hz.out]; rfl, rfl⟩
      · have hq : ptI (s[k].toNat : Int) = true := by rw [ptI_nat]; exact hp
        have hz := Lib.hid (soFar_succ hso hlt hp)
        clear hp hso
        go_wp2_with (go_at_call 97; refine (isPart_any _ _).mono ?_; rintro e w' ⟨rfl, rfl⟩)
        go_round
        case rel => exact ⟨k + 1, by omega, by go_num, hz.out⟩
        case measure => simp [intOf]; omega
    · obtain rfl : k = s.size := by omega
      have hz := Lib.hid (soFar_end hso)
      clear hso
      go_wp2
      go_ret
      exact ⟨by rw [hz.out]; rfl, rfl⟩
def tw (p : UInt8 → Bool) (s : ByteArray) : Nat := (s.data.toList.takeWhile p).length
theorem extent_pt' (s : ByteArray) (hs : s.size ≤ 9223372036854775807) (w : World) :
    Calls Tryz.prog 96 #[.string s, .func (.func 97) #[] #[]] w fun e w' => e = .returned (.int .i64 ((tw isPt s : Nat) : Int)) ∧ w = w' := extent_pt s hs w
theorem isName_long (s : ByteArray) (h : 24 < s.size) (w : World) : Calls Tryz.prog 64 #[.string s] w fun e w' => e = .returned (.bool false) ∧ w = w' := by
  have hl : s.toList.length = s.size := by rw [ByteArray.toList_eq]; simp
  have h1 : s.toList.isEmpty = false := by
    cases e : s.toList with
    | nil => rw [e] at hl; simp at hl; omega
    | cons => rfl
  have h2 : (s.toList = []) ↔ False := by
    constructor
    · intro e; rw [e] at h1; cases h1
    · exact False.elim
  clear hl
  go_enter Tryz.func64, Tryz.ntmps64
  go_wp2
  go_ret
  exact ⟨rfl, rfl⟩
theorem isName_key (s : ByteArray) (h0 : 0 < s.size) (h24 : s.size ≤ 24) (hk : isKeyL s.data.toList = true) (w : World) : Calls Tryz.prog 64 #[.string s] w fun e w' => e = .returned (.bool false) ∧ w = w' := by
  have hl : s.toList.length = s.size := by rw [ByteArray.toList_eq]; simp
  have h1 : s.toList.isEmpty = false := by
    cases e : s.toList with
    | nil => rw [e] at hl; simp at hl; omega
    | cons => rfl
  have h2 : (s.toList = []) ↔ False := by
    constructor
    · intro e; rw [e] at h1; cases h1
    · exact False.elim
  clear hl
  go_enter Tryz.func64, Tryz.ntmps64
  go_wp2_with (go_at_call 94; refine (isKey_any _ _).mono ?_; rintro e w' ⟨rfl, rfl⟩)
  go_ret
  exact ⟨rfl, rfl⟩
theorem isName_word (s : ByteArray) (h0 : 0 < s.size) (h24 : s.size ≤ 24) (hk : isKeyL s.data.toList = false) (hf : ltI ((s[0]'h0).toNat : Int) = true) (he : tw isPt s = s.size) (w : World) : Calls Tryz.prog 64 #[.string s] w fun e w' => e = .returned (.bool true) ∧ w = w' := by
  have hl : s.toList.length = s.size := by rw [ByteArray.toList_eq]; simp
  have h1 : s.toList.isEmpty = false := by
    cases e : s.toList with
    | nil => rw [e] at hl; simp at hl; omega
    | cons => rfl
  have h2 : (s.toList = []) ↔ False := by
    constructor
    · intro e; rw [e] at h1; cases h1
    · exact False.elim
  clear hl
  have HE := Lib.hid he
  clear he
  go_enter Tryz.func64, Tryz.ntmps64
  go_wp2_with (first
    | (go_at_call 94; refine (isKey_any _ _).mono ?_; rintro e w' ⟨rfl, rfl⟩)
    | (go_at_call 95; refine (isLetter_any _ _).mono ?_; rintro e w' ⟨rfl, rfl⟩)
    | (go_at_call 96; refine (extent_pt' _ (by omega) _).mono ?_; rintro e w' ⟨rfl, rfl⟩; rw [HE.out]))
  go_ret
  exact ⟨by simp, rfl⟩
theorem isName_not (s : ByteArray) (h0 : 0 < s.size) (h24 : s.size ≤ 24) (hk : isKeyL s.data.toList = false) (hf : ltI ((s[0]'h0).toNat : Int) = false) (w : World) : Calls Tryz.prog 64 #[.string s] w fun e w' => e = .returned (.bool false) ∧ w = w' := by
  have hl : s.toList.length = s.size := by rw [ByteArray.toList_eq]; simp
  have h1 : s.toList.isEmpty = false := by
    cases e : s.toList with
    | nil => rw [e] at hl; simp at hl; omega
    | cons => rfl
  have h2 : (s.toList = []) ↔ False := by
    constructor
    · intro e; rw [e] at h1; cases h1
    · exact False.elim
  clear hl
  go_enter Tryz.func64, Tryz.ntmps64
  go_wp2_with (first
    | (go_at_call 94; refine (isKey_any _ _).mono ?_; rintro e w' ⟨rfl, rfl⟩)
    | (go_at_call 95; refine (isLetter_any _ _).mono ?_; rintro e w' ⟨rfl, rfl⟩))
  all_goals first
    | (exfalso; omega)
    | (go_ret; exact ⟨rfl, rfl⟩)

theorem isName_empty (s : ByteArray) (h0 : s.size = 0) (w : World) : Calls Tryz.prog 64 #[.string s] w fun e w' => e = .returned (.bool false) ∧ w = w' := by
  obtain rfl : s = { data := #[] } := by
    obtain ⟨⟨l⟩⟩ := s
    cases l with
    | nil => rfl
    | cons => simp [ByteArray.size] at h0
  go_enter Tryz.func64, Tryz.ntmps64
  go_wp2
  go_ret
  exact ⟨rfl, rfl⟩
/-- Is a text a name? -/
def nmB (s : ByteArray) : Bool := nameOk s.data.toList
theorem tw_all (l : List UInt8) (p : UInt8 → Bool) : ((l.takeWhile p).length = l.length) ↔ l.all p = true := by
  induction l with
  | nil => simp
  | cons c r ih =>
    cases h : p c with
    | true => rw [List.takeWhile_cons_of_pos h]; simp [h, ih]
    | false => rw [List.takeWhile_cons_of_neg (by simp [h])]; simp [h]
theorem isName_part (s : ByteArray) (h0 : 0 < s.size) (h24 : s.size ≤ 24) (hk : isKeyL s.data.toList = false) (hf : ltI ((s[0]'h0).toNat : Int) = true) (he : ¬ tw isPt s = s.size) (w : World) : Calls Tryz.prog 64 #[.string s] w fun e w' => e = .returned (.bool false) ∧ w = w' := by
  have hl : s.toList.length = s.size := by rw [ByteArray.toList_eq]; simp
  have h1 : s.toList.isEmpty = false := by
    cases e : s.toList with
    | nil => rw [e] at hl; simp at hl; omega
    | cons => rfl
  have h2 : (s.toList = []) ↔ False := by
    constructor
    · intro e; rw [e] at h1; cases h1
    · exact False.elim
  clear hl
  have HE := Lib.hid (show (((tw isPt s : Nat) : Int) == ((s.size : Nat) : Int)) = false by rw [eq_cast]; exact beq_eq_false_iff_ne.2 he)
  clear he
  go_enter Tryz.func64, Tryz.ntmps64
  go_wp2_with (first
    | (go_at_call 94; refine (isKey_any _ _).mono ?_; rintro e w' ⟨rfl, rfl⟩)
    | (go_at_call 95; refine (isLetter_any _ _).mono ?_; rintro e w' ⟨rfl, rfl⟩)
    | (go_at_call 96; refine (extent_pt' _ (by omega) _).mono ?_; rintro e w' ⟨rfl, rfl⟩))
  all_goals
    go_ret
    refine ⟨ret_bool ?_, rfl⟩
    first
      | rfl
      | (have := HE.out; simp; exact beq_eq_false_iff_ne.1 this)
theorem isName_any (s : ByteArray) (w : World) : Calls Tryz.prog 64 #[.string s] w fun e w' => e = .returned (.bool (nmB s)) ∧ w = w' := by
  have hz : s.data.toList.length = s.size := Array.length_toList
  by_cases h0 : s.size = 0
  · have e : nmB s = false := by unfold nmB nameOk; rw [hz, h0]; rfl
    rw [e]; exact isName_empty s h0 w
  have h0' : 0 < s.size := by omega
  by_cases h24 : 24 < s.size
  · have e : nmB s = false := by unfold nmB nameOk; rw [hz, decide_eq_false (show ¬ s.size ≤ 24 by omega)]; simp
    rw [e]; exact isName_long s h24 w
  cases hk : isKeyL s.data.toList with
  | true =>
    have e : nmB s = false := by unfold nmB nameOk; rw [hk]; simp
    rw [e]; exact isName_key s h0' (by omega) hk w
  | false =>
    have hh : s.data.toList.head?.any isLt = ltI ((s[0]'h0').toNat : Int) := by
      rw [ltI_nat]
      obtain ⟨⟨l⟩⟩ := s
      cases l with
      | nil => simp [ByteArray.size] at h0
      | cons c r => rfl
    cases hf : ltI ((s[0]'h0').toNat : Int) with
    | false =>
      have e : nmB s = false := by unfold nmB nameOk; rw [hh, hf]; simp
      rw [e]; exact isName_not s h0' (by omega) hk hf w
    | true =>
      have ht := tw_all s.data.toList isPt
      rw [hz] at ht
      by_cases he : tw isPt s = s.size
      · have e : nmB s = true := by
          unfold nmB nameOk
          rw [hh, hf, hk, hz, ht.1 he, decide_eq_true h0', decide_eq_true (show s.size ≤ 24 by omega)]; rfl
        rw [e]; exact isName_word s h0' (by omega) hk hf he w
      · have e : nmB s = false := by
          unfold nmB nameOk
          cases ha : s.data.toList.all isPt with
          | true => exact absurd (ht.2 ha) he
          | false => simp
        rw [e]; exact isName_part s h0' (by omega) hk hf he w
end Go.Proofs.YtppeogcpoplpeaaGreatDoor
