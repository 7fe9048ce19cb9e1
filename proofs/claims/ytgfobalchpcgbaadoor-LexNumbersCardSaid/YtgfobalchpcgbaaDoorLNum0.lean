/- What the walk of LexNumbers leans on: the loop of its digits; what lex.All answers of a number, with a 0 ahead, as a tag. -/
import Derived.Test.YtgfobalchpcgbaaDoorLNames
import Derived.Test.YtgfobalchpcgbaaDoorLDigits
set_option linter.unusedSimpArgs false
set_option linter.unusedVariables false
namespace Go.Proofs.YtgfobalchpcgbaaDoor
open Go Go.RowKit
open Go.Lib (decDigits)

/-- How far the loop of digits has come. -/
def DigSt (N j : Nat) (D : List UInt8) : Prop := ((0 < j ∨ D = []) ∧ decDigits N = decDigits j ++ D) ∨ (j = 0 ∧ D = decDigits N)
theorem dig_start (N : Nat) : DigSt N N [] := .inl ⟨.inr rfl, by simp⟩
theorem dig_step {N j : Nat} {D : List UInt8} (h : decDigits N = decDigits j ++ D) : DigSt N (j / 10) (UInt8.ofNat (48 + j % 10) :: D) := by
  by_cases h10 : j < 10
  · refine .inr ⟨by omega, ?_⟩
    rw [h, dec_one j h10, show j % 10 = j by omega]; rfl
  · refine .inl ⟨.inl (by omega), ?_⟩
    rw [h, dec_more j h10, List.append_assoc]; rfl
theorem dig_live {N j : Nat} {D : List UInt8} (h : DigSt N j D) (hl : 0 < j ∨ D = []) : decDigits N = decDigits j ++ D := by
  rcases h with h | ⟨rfl, rfl⟩
  · exact h.2
  · rcases hl with hl | hl
    · omega
    · exact absurd hl (dec_ne N)
theorem dig_end {N : Nat} {D : List UInt8} (h : DigSt N 0 D) (hd : D ≠ []) : D = decDigits N := by
  rcases h with ⟨h | h, _⟩ | ⟨_, h⟩
  · omega
  · exact absurd h hd
  · exact h
theorem dig_len {N j : Nat} {D : List UInt8} (h : DigSt N j D) (hN : N < 18446744073709551616) : D.length ≤ 20 := by
  have hl := dec_len N hN
  rcases h with ⟨_, h⟩ | ⟨_, h⟩
  · rw [h, List.length_append] at hl; omega
  · rw [h]; exact hl
def dgS (j : Nat) : ByteArray := ⟨#[UInt8.ofNat (48 + j % 10)]⟩
theorem bs_data (l : List UInt8) : (bsOf l).data.toList = l := rfl
theorem bs_size (l : List UInt8) : (bsOf l).size = l.length := by show (List.toArray l).size = _; simp
theorem bs_cons (j : Nat) (D : List UInt8) : dgS j ++ bsOf D = bsOf (UInt8.ofNat (48 + j % 10) :: D) := by
  apply ba_ext
  simp [dgS, bsOf]
theorem bs_empty (D : List UInt8) : (bsOf D).toList.isEmpty = D.isEmpty := by rw [ByteArray.toList_eq, bs_data]
theorem bs_nil (D : List UInt8) : (bsOf D).toList = [] ↔ D = [] := by rw [ByteArray.toList_eq, bs_data]
theorem conv_digit (j : Nat) (w : World) : (convert 22 9 (.slice (some ⟨w.heap.size, 0, none⟩) 1 1)).run Tryd.prog (w.alloc (.cells #[.int .u8 (48 + (j : Int) % 10)] 5)) = .ok (.string (dgS j)) (w.alloc (.cells #[.int .u8 (48 + (j : Int) % 10)] 5)) := by
  have h := conv_byte w (UInt8.ofNat (48 + j % 10))
  have e : ((UInt8.ofNat (48 + j % 10)).toNat : Int) = 48 + (j : Int) % 10 := by
    have : (UInt8.ofNat (48 + j % 10)).toNat = 48 + j % 10 := by simp; omega
    omega
  rw [e] at h
  exact h
/-- Whether nothing has been put yet. -/
def noneYet (v : Value) : Nat := match v with | .string b => if b.size = 0 then 1 else 0 | _ => 0
theorem noneYet_bs (D : List UInt8) : noneYet (.string (bsOf D)) = if D.length = 0 then 1 else 0 := by
  show (if (bsOf D).size = 0 then 1 else 0) = _
  rw [bs_size]
section
variable {w0 w : World}
theorem num_ok (N : Nat) (hN : N ≤ 9223372036854775808) (H : Errs w0) (h : Past w0 w) :
    Calls Tryd.prog 10 #[.string (bsOf (decDigits N))] w fun e w' => ∃ g cap, e = .returned (.tuple #[.slice (some ⟨g, 0, none⟩) 1 cap, .int .i64 (bsOf (decDigits N)).size, .int .i64 0]) ∧ TokIn w' g [⟨2, decDigits N, N, 0⟩] ∧ Past w0 w' :=
  (all_toks (bsOf (decDigits N)) (by rw [bs_size]; have := dec_len N (by omega); omega) H h (ts := [⟨2, decDigits N, N, 0⟩]) (n := (decDigits N).length) (by rw [bs_data, lex_dec N (by omega), if_neg (by omega)]) (by simp)).mono fun e w' ⟨g, cap, he, ht, _, _, hp⟩ => ⟨g, cap, he, ht, hp⟩
theorem num_all1 (N : Nat) (S : ByteArray) (hS : S = bsOf (decDigits N)) (hN : N ≤ 9223372036854775808) (H : Errs w0) (h : Past w0 w) :
    Calls Tryd.prog 10 #[.string S] w fun e w' => ∃ g cap, e = .returned (.tuple #[.slice (some ⟨g, 0, none⟩) 1 cap, .int .i64 S.size, .int .i64 0]) ∧ TokIn w' g [⟨2, decDigits N, N, 0⟩] ∧ Past w0 w' := by
  subst hS; exact num_ok N hN H h
theorem num_no (N : Nat) (h64 : N < 18446744073709551616) (hN : ¬ N ≤ 9223372036854775808) (H : Errs w0) (h : Past w0 w) :
    Calls Tryd.prog 10 #[.string (bsOf (decDigits N))] w fun e w' => e = .returned (.tuple #[.slice none 0 0, .int .i64 0, .int .i64 2]) ∧ Past w0 w' :=
  (all_err (bsOf (decDigits N)) (by rw [bs_size]; have := dec_len N h64; omega) H h (p := 0) (by rw [bs_data, lex_dec N h64, if_pos (by omega)])).mono fun e w' ⟨he, _, hp⟩ => ⟨he, hp⟩
theorem num_all2 (N : Nat) (S : ByteArray) (hS : S = bsOf (decDigits N)) (h64 : N < 18446744073709551616) (hN : ¬ N ≤ 9223372036854775808) (H : Errs w0) (h : Past w0 w) :
    Calls Tryd.prog 10 #[.string S] w fun e w' => e = .returned (.tuple #[.slice none 0 0, .int .i64 0, .int .i64 2]) ∧ Past w0 w' := by
  subst hS; exact num_no N h64 hN H h
theorem zero_no (N : Nat) (h64 : N < 18446744073709551616) (Z : ByteArray) (hZ : Z.data.toList = 48 :: decDigits N) (H : Errs w0) (h : Past w0 w) :
    Calls Tryd.prog 10 #[.string Z] w fun e w' => e = .returned (.tuple #[.slice none 0 0, .int .i64 0, .int .i64 2]) ∧ Below w.heap.size w w' ∧ Past w0 w' :=
  (all_err Z (by rw [← ba_len, hZ, List.length_cons]; have := dec_len N h64; omega) H h (p := 0) (by rw [hZ]; exact lex_zero N h64)).mono fun e w' ⟨he, hb, hp⟩ => ⟨he, hb, hp⟩
theorem tag_ok (N : Nat) (hN : N ≤ 1000000) (Z : ByteArray) (hZ : Z.data.toList = 64 :: decDigits N) (H : Errs w0) (h : Past w0 w) :
    Calls Tryd.prog 10 #[.string Z] w fun e w' => ∃ g cap n, e = .returned (.tuple #[.slice (some ⟨g, 0, none⟩) 1 cap, .int .i64 n, .int .i64 0]) ∧ TokIn w' g [⟨3, 64 :: decDigits N, N, 0⟩] ∧ Below w.heap.size w w' ∧ Past w0 w' :=
  (all_toks Z (by rw [← ba_len, hZ, List.length_cons]; have := dec_len N (by omega); omega) H h (ts := [⟨3, 64 :: decDigits N, N, 0⟩]) (n := (decDigits N).length + 1) (by rw [hZ, lex_tag N (by omega), if_neg (by omega)]) (by simp)).mono fun e w' ⟨g, cap, he, ht, hb, _, hp⟩ => ⟨g, cap, _, he, ht, hb, hp⟩
theorem tag_no (N : Nat) (h64 : N < 18446744073709551616) (hN : ¬ N ≤ 1000000) (Z : ByteArray) (hZ : Z.data.toList = 64 :: decDigits N) (H : Errs w0) (h : Past w0 w) :
    Calls Tryd.prog 10 #[.string Z] w fun e w' => e = .returned (.tuple #[.slice none 0 0, .int .i64 0, .int .i64 2]) ∧ Below w.heap.size w w' ∧ Past w0 w' :=
  (all_err Z (by rw [← ba_len, hZ, List.length_cons]; have := dec_len N h64; omega) H h (p := 0) (by rw [hZ, lex_tag N h64, if_pos (by omega)])).mono fun e w' ⟨he, hb, hp⟩ => ⟨he, hb, hp⟩
end
end Go.Proofs.YtgfobalchpcgbaaDoor
