/- Digits of numbers: what strconv's base 10 and the walks of WordTexts and WordTells lean on. No program stands in this text. -/
import Derived.Test.YtbphpbkkafgihaaDoorWBits
import Derived.Lib.ItoaNum
namespace Go.Proofs.YtbphpbkkafgihaaDoor
open Go.RowKit
open Go.Lib (decDigits)

/-- The number that digits come to, as the statement reckons it: by 10, and one more, wrapped each time. -/
def stepV (m : Int) (c : UInt8) : Int := wrap64 (wrap64 (m * 10) + ((c.toNat : Int) - 48))
def valL (l : List UInt8) : Int := l.foldl stepV 0
theorem valL_snoc (l : List UInt8) (c : UInt8) : valL (l ++ [c]) = stepV (valL l) c := by simp [valL]
theorem wrap_wrap (x : Int) : wrap64 (wrap64 x) = wrap64 x := by unfold wrap64; omega
theorem step_wrap (x : Nat) (d : Nat) (hd : d < 10) : stepV (wrap64 (x : Int)) (UInt8.ofNat (48 + d)) = wrap64 ((x * 10 + d : Nat) : Int) := by
  have e : (UInt8.ofNat (48 + d)).toNat = 48 + d := by simp; omega
  unfold stepV
  rw [e]
  unfold wrap64
  omega
theorem digits_val (u : Nat) : valL (decDigits u) = wrap64 (u : Int) := by
  induction u using Nat.strongRecOn with
  | ind u ih =>
    rw [decDigits]
    split
    · rename_i h
      have e := step_wrap 0 u h
      rw [show wrap64 ((0 : Nat) : Int) = 0 by unfold wrap64; omega, show 0 * 10 + u = u by omega] at e
      exact e
    · rename_i h
      rw [valL_snoc, ih (u / 10) (by omega), step_wrap _ _ (by omega)]
      congr 1
      omega
theorem digits_all (u : Nat) : ∀ c ∈ decDigits u, 48 ≤ c.toNat ∧ c.toNat ≤ 57 := by
  induction u using Nat.strongRecOn with
  | ind u ih =>
    rw [decDigits]
    split
    · rename_i h
      intro c hc
      rw [List.mem_singleton] at hc
      subst hc
      have e : (UInt8.ofNat (48 + u)).toNat = 48 + u := by simp; omega
      omega
    · rename_i h
      intro c hc
      rw [List.mem_append] at hc
      rcases hc with hc | hc
      · exact ih _ (by omega) c hc
      · rw [List.mem_singleton] at hc
        subst hc
        have e : (UInt8.ofNat (48 + u % 10)).toNat = 48 + u % 10 := by simp; omega
        omega
theorem digits_ne (u : Nat) : decDigits u ≠ [] := by
  rw [decDigits]; split <;> simp
theorem digits_head (u : Nat) (hu : 0 < u) : ∃ c r, decDigits u = c :: r ∧ c.toNat ≠ 48 := by
  induction u using Nat.strongRecOn with
  | ind u ih =>
    rw [decDigits]
    split
    · rename_i h
      refine ⟨_, [], rfl, ?_⟩
      have e : (UInt8.ofNat (48 + u)).toNat = 48 + u := by simp; omega
      omega
    · rename_i h
      obtain ⟨c, r, e, hc⟩ := ih (u / 10) (by omega) (by omega)
      exact ⟨c, r ++ [_], by rw [e]; rfl, hc⟩
theorem digits_one (u : Nat) (h : u < 10) : (decDigits u).length = 1 := by rw [decDigits, dif_pos h]; rfl
end Go.Proofs.YtbphpbkkafgihaaDoor
