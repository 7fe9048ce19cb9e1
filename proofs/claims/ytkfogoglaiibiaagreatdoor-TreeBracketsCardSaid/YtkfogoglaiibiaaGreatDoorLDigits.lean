/- Digits of numbers, and the words that they are. No program stands in this text. -/
import Derived.Test.YtkfogoglaiibiaaGreatDoorLWords
import Derived.Lib.ItoaNum
set_option linter.unusedSimpArgs false
set_option linter.unusedVariables false
namespace Go.Proofs.YtkfogoglaiibiaaGreatDoor
open Go
open Go.Lib (decDigits)

theorem dec_all (u : Nat) : ∀ c ∈ decDigits u, isDg c = true := by
  induction u using Nat.strongRecOn with
  | ind u ih =>
    rw [decDigits]
    split
    · rename_i h
      intro c hc
      rw [List.mem_singleton] at hc
      subst hc
      have e : (UInt8.ofNat (48 + u)).toNat = 48 + u := by simp; omega
      unfold isDg; rw [e]; simp; omega
    · rename_i h
      intro c hc
      rw [List.mem_append] at hc
      rcases hc with hc | hc
      · exact ih _ (by omega) c hc
      · rw [List.mem_singleton] at hc
        subst hc
        have e : (UInt8.ofNat (48 + u % 10)).toNat = 48 + u % 10 := by simp; omega
        unfold isDg; rw [e]; simp; omega
theorem dec_ne (u : Nat) : decDigits u ≠ [] := by rw [decDigits]; split <;> simp
theorem dec_head (u : Nat) (hu : 0 < u) : ∃ c r, decDigits u = c :: r ∧ c ≠ 48 := by
  induction u using Nat.strongRecOn with
  | ind u ih =>
    rw [decDigits]
    split
    · rename_i h
      refine ⟨_, [], rfl, fun e => ?_⟩
      have e1 : (UInt8.ofNat (48 + u)).toNat = 48 + u := by simp; omega
      rw [e] at e1
      have : (48 : UInt8).toNat = 48 := rfl
      omega
    · rename_i h
      obtain ⟨c, r, e, hc⟩ := ih (u / 10) (by omega) (by omega)
      exact ⟨c, r ++ [_], by rw [e]; rfl, hc⟩
theorem dec_one (u : Nat) (h : u < 10) : decDigits u = [UInt8.ofNat (48 + u)] := by rw [decDigits, dif_pos h]
theorem dec_more (u : Nat) (h : ¬ u < 10) : decDigits u = decDigits (u / 10) ++ [UInt8.ofNat (48 + u % 10)] := by rw [decDigits, dif_neg h]
theorem dec_len (u : Nat) (h : u < 18446744073709551616) : (decDigits u).length ≤ 20 := by
  have main : ∀ (k u : Nat), u < 10 ^ (k + 1) → (decDigits u).length ≤ k + 1 := by
    intro k
    induction k with
    | zero => intro u hu; rw [dec_one u (by omega)]; simp
    | succ k ih =>
      intro u hu
      by_cases h10 : u < 10
      · rw [dec_one u h10]; simp
      · rw [dec_more u h10, List.length_append, List.length_singleton]
        have := ih (u / 10) (by have : u < 10 ^ (k + 1) * 10 := by rw [← Nat.pow_succ]; exact hu
                                omega)
        omega
  exact main 19 u (by omega)
theorem parse_append (M : Nat) : ∀ (l r : List UInt8) (acc u : Nat), Lib.parseUintM M acc l = .ok u → Lib.parseUintM M acc (l ++ r) = Lib.parseUintM M u r := by
  intro l
  induction l with
  | nil => intro r acc u h; rw [Lib.parseUintM] at h; injection h with h; rw [h]; rfl
  | cons c l ih =>
    intro r acc u h
    rw [List.cons_append]
    rw [Lib.parseUintM] at h ⊢
    split at h
    · rename_i h1
      rw [if_pos h1]
      split at h
      · cases h
      · rename_i h2
        rw [if_neg h2]
        split at h
        · cases h
        · rename_i h3
          rw [if_neg h3]
          exact ih r _ u h
    · cases h
theorem parse_dec (u : Nat) (h : u < 18446744073709551616) : Lib.parseUintM 18446744073709551615 0 (decDigits u) = .ok u := by
  induction u using Nat.strongRecOn with
  | ind u ih =>
    by_cases h10 : u < 10
    · rw [dec_one u h10]
      have e : (UInt8.ofNat (48 + u)).toNat = 48 + u := by simp; omega
      rw [Lib.parseUintM, e, if_pos (by omega), if_neg (by omega), if_neg (by omega), Lib.parseUintM]
      congr 1; omega
    · rw [dec_more u h10, parse_append _ _ _ _ _ (ih (u / 10) (by omega) (by omega))]
      have e : (UInt8.ofNat (48 + u % 10)).toNat = 48 + u % 10 := by simp; omega
      rw [Lib.parseUintM, e, if_pos (by omega), if_neg (by omega), if_neg (by omega), Lib.parseUintM]
      congr 1; omega
theorem parse_is (u : Nat) (h : u < 18446744073709551616) : Lib.parseUintB 64 (decDigits u) = .ok u := by
  unfold Lib.parseUintB
  rw [if_neg (dec_ne u)]
  exact parse_dec u h
theorem num_dec (most u : Nat) (h : u < 18446744073709551616) : numOf most (decDigits u) = if most < u then none else some u := by
  unfold numOf
  rw [parse_is u h]
  have hc : ¬ (1 < (decDigits u).length ∧ (decDigits u).head? = some 48) := by
    rintro ⟨h1, h2⟩
    rcases Nat.eq_zero_or_pos u with rfl | hp
    · rw [dec_one 0 (by omega)] at h1; simp at h1
    · obtain ⟨c, r, e, hc⟩ := dec_head u hp
      rw [e] at h2
      simp only [List.head?_cons, Option.some.injEq] at h2
      exact hc h2
  rw [if_neg hc]
theorem tw_dec (u : Nat) : (decDigits u).takeWhile isDg = decDigits u := by
  have main : ∀ l : List UInt8, (∀ c ∈ l, isDg c = true) → l.takeWhile isDg = l := by
    intro l
    induction l with
    | nil => intro _; rfl
    | cons a r ih => intro h; rw [List.takeWhile_cons_of_pos (h a List.mem_cons_self), ih (fun c hc => h c (List.mem_cons_of_mem _ hc))]
  exact main _ (dec_all u)
theorem dg_not {c : UInt8} (h : isDg c = true) : isLt c = false ∧ isSp c = false := by
  unfold isDg at h
  simp only [Bool.and_eq_true, decide_eq_true_eq] at h
  constructor
  · unfold isLt; rw [Bool.eq_false_iff]; simp; omega
  · unfold isSp; rw [Bool.eq_false_iff]; simp; omega
/-- A number's digits, alone. -/
theorem lex_dec (u : Nat) (h : u < 18446744073709551616) : lexP 0 (decDigits u) = if 9223372036854775808 < u then (none, 0) else (some [⟨2, decDigits u, u, 0⟩], (decDigits u).length) := by
  have ht := tw_dec u
  have hn := num_dec 9223372036854775808 u h
  have ha := dec_all u
  cases e : decDigits u with
  | nil => exact absurd e (dec_ne u)
  | cons c r =>
    rw [e] at ht hn ha
    have hd := ha c List.mem_cons_self
    obtain ⟨h1, h2⟩ := dg_not hd
    have hw : wordOf (c :: r) = if 9223372036854775808 < u then none else some (2, (c :: r).length, u) := by
      unfold wordOf
      simp only [h1, hd, if_true, Bool.false_eq_true, if_false, ht, hn]
      by_cases hm : 9223372036854775808 < u
      · rw [if_pos hm, if_pos hm]; rfl
      · rw [if_neg hm, if_neg hm]; rfl
    by_cases hm : 9223372036854775808 < u
    · rw [if_pos hm] at hw ⊢
      exact lexP_bad 0 r h2 hw
    · rw [if_neg hm] at hw ⊢
      rw [lexP_word 0 r h2 hw, List.take_length, List.drop_length, lexP_nil]
      simp [pre]
theorem lex_zero (u : Nat) (h : u < 18446744073709551616) : lexP 0 (48 :: decDigits u) = (none, 0) := by
  have ht : (48 :: decDigits u).takeWhile isDg = 48 :: decDigits u := by
    rw [List.takeWhile_cons_of_pos (by decide), tw_dec]
  refine lexP_bad 0 _ (by decide) ?_
  unfold wordOf
  simp only [show isLt 48 = false by decide, show isDg 48 = true by decide, if_true, Bool.false_eq_true, if_false, ht]
  have : numOf 9223372036854775808 (48 :: decDigits u) = none := by
    unfold numOf
    rw [if_pos ⟨by cases e : decDigits u with
      | nil => exact absurd e (dec_ne u)
      | cons => simp, rfl⟩]
  rw [this]; rfl
theorem lex_tag (u : Nat) (h : u < 18446744073709551616) : lexP 0 (64 :: decDigits u) = if 1000000 < u then (none, 0) else (some [⟨3, 64 :: decDigits u, u, 0⟩], (decDigits u).length + 1) := by
  have hw : wordOf (64 :: decDigits u) = if 1000000 < u then none else some (3, 1 + (decDigits u).length, u) := by
    unfold wordOf
    simp only [show isLt 64 = false by decide, show isDg 64 = false by decide, show ((64 : UInt8).toNat == 64) = true by decide, if_true, Bool.false_eq_true, if_false, tw_dec, num_dec 1000000 u h]
    by_cases hm : 1000000 < u
    · rw [if_pos hm, if_pos hm]; rfl
    · rw [if_neg hm, if_neg hm]; rfl
  by_cases hm : 1000000 < u
  · rw [if_pos hm] at hw ⊢
    exact lexP_bad 0 _ (by decide) hw
  · rw [if_neg hm] at hw ⊢
    rw [lexP_word 0 _ (by decide) hw, show 1 + (decDigits u).length = (64 :: decDigits u).length by simp; omega, List.take_length, List.drop_length, lexP_nil]
    simp [pre]
end Go.Proofs.YtkfogoglaiibiaaGreatDoor
