/- What the operations tell, as plain numbers: no program stands in this text. Laws of bits of 64-bit numbers: plain numbers, no program stands in this text. -/
import Derived.WalkKit
import Derived.PlainAid
import Derived.Laws.BitsAllLaws
namespace Go.Proofs.YtdaklmbifkehpaaGreatDoor
open Go.RowKit

def bit (b : Bool) : Int := if b then 1 else 0
def binV (s : ByteArray) (a b : Int) : Int :=
  if s.data.toList = [124, 124] then bit (a != 0 || b != 0) else
  if s.data.toList = [38, 38] then bit (a != 0 && b != 0) else
  if s.data.toList = [124] then bits .or .i64 a b else
  if s.data.toList = [94] then bits .xor .i64 a b else
  if s.data.toList = [38] then bits .and .i64 a b else
  if s.data.toList = [61, 61] then bit (a == b) else
  if s.data.toList = [33, 61] then bit (a != b) else
  if s.data.toList = [60] then bit (decide (a < b)) else
  if s.data.toList = [60, 61] then bit (decide (a ≤ b)) else
  if s.data.toList = [62] then bit (decide (b < a)) else
  if s.data.toList = [62, 61] then bit (decide (b ≤ a)) else
  if s.data.toList = [60, 60] then (if 0 ≤ b ∧ b ≤ 63 then wrap64 (a * 2 ^ b.toNat) else 0) else
  if s.data.toList = [62, 62] then (if 0 ≤ b ∧ b ≤ 63 then a / 2 ^ b.toNat else 0) else
  if s.data.toList = [43] then wrap64 (a + b) else
  if s.data.toList = [45] then wrap64 (a - b) else
  if s.data.toList = [42] then wrap64 (a * b) else
  if s.data.toList = [47] then (if b = 0 then 0 else wrap64 (a.tdiv b)) else
  if s.data.toList = [37] then (if b = 0 then 0 else a.tmod b) else
  0
def binT (s : ByteArray) (b : Int) : Int :=
  if s.data.toList = [60, 60] then (if 0 ≤ b ∧ b ≤ 63 then 0 else 2) else
  if s.data.toList = [62, 62] then (if 0 ≤ b ∧ b ≤ 63 then 0 else 2) else
  if s.data.toList = [47] then (if b = 0 then 1 else 0) else
  if s.data.toList = [37] then (if b = 0 then 1 else 0) else
  0
def levelV (s : ByteArray) : Int :=
  if s.data.toList = [124, 124] then 1 else
  if s.data.toList = [38, 38] then 2 else
  if s.data.toList = [124] then 3 else
  if s.data.toList = [94] then 4 else
  if s.data.toList = [38] then 5 else
  if s.data.toList = [61, 61] then 6 else
  if s.data.toList = [33, 61] then 6 else
  if s.data.toList = [60] then 7 else
  if s.data.toList = [60, 61] then 7 else
  if s.data.toList = [62] then 7 else
  if s.data.toList = [62, 61] then 7 else
  if s.data.toList = [60, 60] then 8 else
  if s.data.toList = [62, 62] then 8 else
  if s.data.toList = [43] then 9 else
  if s.data.toList = [45] then 9 else
  if s.data.toList = [42] then 10 else
  if s.data.toList = [47] then 10 else
  if s.data.toList = [37] then 10 else
  0
def unV (s : ByteArray) (a : Int) : Int :=
  if s.data.toList = [45] then wrap64 (-a) else
  if s.data.toList = [126] then -a - 1 else
  if s.data.toList = [33] then bit (a == 0) else
  0
def unB (s : ByteArray) : Bool := s.data.toList == [45] || s.data.toList == [126] || s.data.toList == [33]
theorem of_list {s : ByteArray} {l : List UInt8} (h : s.data.toList = l) : s = { data := l.toArray } := by
  cases s with | mk d => cases d with | mk l' => simp at h; subst h; rfl
theorem not_list {s : ByteArray} {l : List UInt8} (h : ¬ s.data.toList = l) : (s.toList == l) = false := by
  rw [ByteArray.toList_eq]; simpa using h
theorem binV_either (a b : Int) : binV { data := #[124, 124] } a b = bit (a != 0 || b != 0) := rfl
theorem levelV_either : levelV { data := #[124, 124] } = 1 := rfl
theorem binV_both (a b : Int) : binV { data := #[38, 38] } a b = bit (a != 0 && b != 0) := rfl
theorem levelV_both : levelV { data := #[38, 38] } = 2 := rfl
theorem binV_bitOr (a b : Int) : binV { data := #[124] } a b = bits .or .i64 a b := rfl
theorem levelV_bitOr : levelV { data := #[124] } = 3 := rfl
theorem binV_bitXor (a b : Int) : binV { data := #[94] } a b = bits .xor .i64 a b := rfl
theorem levelV_bitXor : levelV { data := #[94] } = 4 := rfl
theorem binV_bitAnd (a b : Int) : binV { data := #[38] } a b = bits .and .i64 a b := rfl
theorem levelV_bitAnd : levelV { data := #[38] } = 5 := rfl
theorem binV_equal (a b : Int) : binV { data := #[61, 61] } a b = bit (a == b) := rfl
theorem levelV_equal : levelV { data := #[61, 61] } = 6 := rfl
theorem binV_unequal (a b : Int) : binV { data := #[33, 61] } a b = bit (a != b) := rfl
theorem levelV_unequal : levelV { data := #[33, 61] } = 6 := rfl
theorem binV_less (a b : Int) : binV { data := #[60] } a b = bit (decide (a < b)) := rfl
theorem levelV_less : levelV { data := #[60] } = 7 := rfl
theorem binV_atMost (a b : Int) : binV { data := #[60, 61] } a b = bit (decide (a ≤ b)) := rfl
theorem levelV_atMost : levelV { data := #[60, 61] } = 7 := rfl
theorem binV_more (a b : Int) : binV { data := #[62] } a b = bit (decide (b < a)) := rfl
theorem levelV_more : levelV { data := #[62] } = 7 := rfl
theorem binV_atLeast (a b : Int) : binV { data := #[62, 61] } a b = bit (decide (b ≤ a)) := rfl
theorem levelV_atLeast : levelV { data := #[62, 61] } = 7 := rfl
theorem binV_left (a b : Int) : binV { data := #[60, 60] } a b = (if 0 ≤ b ∧ b ≤ 63 then wrap64 (a * 2 ^ b.toNat) else 0) := rfl
theorem binT_left (b : Int) : binT { data := #[60, 60] } b = (if 0 ≤ b ∧ b ≤ 63 then 0 else 2) := rfl
theorem levelV_left : levelV { data := #[60, 60] } = 8 := rfl
theorem binV_right (a b : Int) : binV { data := #[62, 62] } a b = (if 0 ≤ b ∧ b ≤ 63 then a / 2 ^ b.toNat else 0) := rfl
theorem binT_right (b : Int) : binT { data := #[62, 62] } b = (if 0 ≤ b ∧ b ≤ 63 then 0 else 2) := rfl
theorem levelV_right : levelV { data := #[62, 62] } = 8 := rfl
theorem binV_plus (a b : Int) : binV { data := #[43] } a b = wrap64 (a + b) := rfl
theorem levelV_plus : levelV { data := #[43] } = 9 := rfl
theorem binV_minus (a b : Int) : binV { data := #[45] } a b = wrap64 (a - b) := rfl
theorem levelV_minus : levelV { data := #[45] } = 9 := rfl
theorem binV_times (a b : Int) : binV { data := #[42] } a b = wrap64 (a * b) := rfl
theorem levelV_times : levelV { data := #[42] } = 10 := rfl
theorem binV_quotient (a b : Int) : binV { data := #[47] } a b = (if b = 0 then 0 else wrap64 (a.tdiv b)) := rfl
theorem binT_quotient (b : Int) : binT { data := #[47] } b = (if b = 0 then 1 else 0) := rfl
theorem levelV_quotient : levelV { data := #[47] } = 10 := rfl
theorem binV_rest (a b : Int) : binV { data := #[37] } a b = (if b = 0 then 0 else a.tmod b) := rfl
theorem binT_rest (b : Int) : binT { data := #[37] } b = (if b = 0 then 1 else 0) := rfl
theorem levelV_rest : levelV { data := #[37] } = 10 := rfl
end Go.Proofs.YtdaklmbifkehpaaGreatDoor

namespace Go.Proofs.YtdaklmbifkehpaaGreatDoor
open Go.RowKit

theorem i64_wrap (n : Int) : IntKind.i64.wrap n = wrap64 n := IntWalk.i64_left n
theorem ofInt_nat (x : Int) : (BitVec.ofInt 64 x).toNat = (x % 18446744073709551616).toNat := by
  rw [BitVec.toNat_ofInt]; rfl
theorem bits_not (a : Int) (h : -9223372036854775808 ≤ a ∧ a ≤ 9223372036854775807) : bits .xor .i64 (-1) a = -a - 1 := by
  show IntKind.i64.wrap ((BitVec.ofInt 64 (-1) ^^^ BitVec.ofInt 64 a).toNat : Int) = _
  have h1 : BitVec.ofInt 64 (-1) = BitVec.allOnes 64 := by decide
  rw [h1, BitVec.allOnes_xor, BitVec.toNat_not, ofInt_nat, i64_wrap]
  unfold wrap64
  omega
end Go.Proofs.YtdaklmbifkehpaaGreatDoor
