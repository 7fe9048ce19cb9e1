/- Laws of bits of 64-bit numbers: plain numbers, no program stands in this text. -/
import Derived.WalkKit
import Derived.PlainAid
import Derived.Laws.BitsAllLaws
namespace Go.Proofs.YtppeogcpoplpeaaGreatDoor
open Go.RowKit

theorem i64_wrap (n : Int) : IntKind.i64.wrap n = wrap64 n := IntWalk.i64_left n
theorem ofInt_nat (x : Int) : (BitVec.ofInt 64 x).toNat = (x % 18446744073709551616).toNat := by
  rw [BitVec.toNat_ofInt]; rfl
theorem bits_not (a : Int) (h : -9223372036854775808 ≤ a ∧ a ≤ 9223372036854775807) : bits .xor .i64 (-1) a = -a - 1 := by
  show IntKind.i64.wrap ((BitVec.ofInt 64 (-1) ^^^ BitVec.ofInt 64 a).toNat : Int) = _
  have h1 : BitVec.ofInt 64 (-1) = BitVec.allOnes 64 := by decide
  rw [h1, BitVec.allOnes_xor, BitVec.toNat_not, ofInt_nat, i64_wrap]
  unfold wrap64
  omega
theorem bits_range (op : BinOp) (a b : Int) : -9223372036854775808 ≤ bits op .i64 a b ∧ bits op .i64 a b ≤ 9223372036854775807 := by
  unfold bits
  simp only [i64_wrap]
  unfold wrap64
  omega
theorem wrap_range (n : Int) : -9223372036854775808 ≤ wrap64 n ∧ wrap64 n ≤ 9223372036854775807 := by unfold wrap64; omega
theorem nat_and_or (a b : Nat) : (a &&& b) + (a ||| b) = a + b := by
  induction a using Nat.strongRecOn generalizing b with
  | ind a ih =>
    by_cases h : a = 0
    · subst h; simp
    · have h0 := ih (a / 2) (by omega) (b / 2)
      have h1 : (a &&& b) / 2 = (a / 2 &&& b / 2) := Nat.and_div_two
      have h2 : (a ||| b) / 2 = (a / 2 ||| b / 2) := Nat.or_div_two
      have h3 : (a &&& b) % 2 = (a % 2 &&& b % 2) := Nat.and_mod_two_pow (n := 1)
      have h4 : (a ||| b) % 2 = (a % 2 ||| b % 2) := Nat.or_mod_two_pow (n := 1)
      have h5 : a % 2 = 0 ∨ a % 2 = 1 := by omega
      have h6 : b % 2 = 0 ∨ b % 2 = 1 := by omega
      have h7 : (a % 2 &&& b % 2) + (a % 2 ||| b % 2) = a % 2 + b % 2 := by
        rcases h5 with e | e <;> rcases h6 with f | f <;> rw [e, f] <;> rfl
      omega
theorem wrap_nat (x : Int) (n : Nat) (h : (n : Int) = x % 18446744073709551616) : wrap64 (n : Int) = wrap64 x := by unfold wrap64; omega
theorem bits_and_or (a b : Int) : wrap64 (bits .and .i64 a b + bits .or .i64 a b) = wrap64 (a + b) := by
  show wrap64 (IntKind.i64.wrap ((BitVec.ofInt 64 a &&& BitVec.ofInt 64 b).toNat : Int) + IntKind.i64.wrap ((BitVec.ofInt 64 a ||| BitVec.ofInt 64 b).toNat : Int)) = _
  rw [BitVec.toNat_and, BitVec.toNat_or, ofInt_nat, ofInt_nat, i64_wrap, i64_wrap]
  have h := nat_and_or (a % 18446744073709551616).toNat (b % 18446744073709551616).toNat
  generalize ((a % 18446744073709551616).toNat &&& (b % 18446744073709551616).toNat) = x at h ⊢
  generalize ((a % 18446744073709551616).toNat ||| (b % 18446744073709551616).toNat) = y at h ⊢
  unfold wrap64
  omega
theorem ofInt_wrap (x : Int) : BitVec.ofInt 64 (wrap64 x) = BitVec.ofInt 64 x := by
  apply BitVec.eq_of_toNat_eq
  rw [ofInt_nat, ofInt_nat]
  unfold wrap64
  omega
theorem ofInt_natCast (v : BitVec 64) : BitVec.ofInt 64 (v.toNat : Int) = v := by simp
theorem bits_xor_xor (a b : Int) (h : -9223372036854775808 ≤ a ∧ a ≤ 9223372036854775807) : bits .xor .i64 (bits .xor .i64 a b) b = a := by
  show IntKind.i64.wrap ((BitVec.ofInt 64 (IntKind.i64.wrap ((BitVec.ofInt 64 a ^^^ BitVec.ofInt 64 b).toNat : Int)) ^^^ BitVec.ofInt 64 b).toNat : Int) = _
  rw [i64_wrap, i64_wrap, ofInt_wrap, ofInt_natCast, BitVec.xor_assoc, BitVec.xor_self, BitVec.xor_zero, ofInt_nat]
  unfold wrap64
  omega
theorem bits_low (a : Int) (n : Nat) (hn : n ≤ 62) : bits .and .i64 a (2 ^ n - 1) = a % 2 ^ n := by
  show IntKind.i64.wrap ((BitVec.ofInt 64 a &&& BitVec.ofInt 64 (2 ^ n - 1)).toNat : Int) = _
  rw [BitVec.toNat_and, ofInt_nat, ofInt_nat, i64_wrap]
  have hp : (2 : Int) ^ n ≤ 2 ^ 62 := by
    have : (2 : Nat) ^ n ≤ 2 ^ 62 := Nat.pow_le_pow_right (by decide) hn
    exact_mod_cast this
  have hp0 : 0 < (2 : Int) ^ n := Int.pow_pos (by decide)
  have e1 : (((2 : Int) ^ n - 1) % 18446744073709551616).toNat = 2 ^ n - 1 := by
    rw [Int.emod_eq_of_lt (by omega) (by omega)]
    have : ((2 : Int) ^ n - 1) = ((2 ^ n - 1 : Nat) : Int) := by rw [Int.natCast_sub (Nat.two_pow_pos n)]; simp
    rw [this]; rfl
  rw [e1, Nat.and_two_pow_sub_one_eq_mod]
  have e2 : (((a % 18446744073709551616).toNat % 2 ^ n : Nat) : Int) = a % 2 ^ n := by
    rw [Int.natCast_emod, Int.toNat_of_nonneg (by omega)]
    have : ((2 ^ n : Nat) : Int) = (2 : Int) ^ n := by simp
    rw [this]
    apply Int.emod_emod_of_dvd
    have : (18446744073709551616 : Int) = 2 ^ n * 2 ^ (64 - n) := by rw [← Int.pow_add, show n + (64 - n) = 64 by omega]; rfl
    exact ⟨_, this⟩
  rw [e2]
  have h1 := Int.emod_nonneg a (show (2 : Int) ^ n ≠ 0 by omega)
  have h2 := Int.emod_lt_of_pos a hp0
  unfold wrap64
  omega
end Go.Proofs.YtppeogcpoplpeaaGreatDoor
