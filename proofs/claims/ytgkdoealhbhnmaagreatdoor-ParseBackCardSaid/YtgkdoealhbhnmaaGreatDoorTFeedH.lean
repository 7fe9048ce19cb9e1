/- A statement of the feed, whatever it is: from the switch on. -/
import Derived.Test.YtgkdoealhbhnmaaGreatDoorTFeedK1
import Derived.Test.YtgkdoealhbhnmaaGreatDoorTFeedK2
import Derived.Test.YtgkdoealhbhnmaaGreatDoorTFeedK4
set_option linter.unusedSimpArgs false
set_option linter.unusedVariables false
namespace Go.Proofs.YtgkdoealhbhnmaaGreatDoor
open Go Go.RowKit

section
variable {F : FeedC} {B f : Nat}
def Depth (F : FeedC) (B f D : Nat) (dv : Int) : Prop := (dv = 0 ∧ D = 0) ∨ ∃ D2 : Nat, D = D2 + 1 ∧ dv = (D2 : Int) + 1 ∧ D2 ≤ 9 ∧ Deeper F B f D2

theorem head_cases (c dv : Int) (loop : Bool) (h : 0 ≤ dv) :
    (dv = 0 ∧ decide ((0 : Int) < 1) = true ∧ ((loop = false ∧ (c = 5 ∨ c = 6 ∨ c = 7 ∨ c = 8 ∨ c = 10 ∨ c = 11 ∨ (¬ (c = 5 ∨ c = 6 ∨ c = 7 ∨ c = 8) ∧ decide (c = 5) = false ∧ decide (c = 6) = false ∧ decide (c = 7) = false ∧ decide (c = 8) = false ∧ (c == 5) = false ∧ (c == 6) = false ∧ (c == 7) = false ∧ (c == 8) = false ∧ decide (c = 10) = false ∧ decide (c = 11) = false ∧ (c == 10) = false ∧ (c == 11) = false))) ∨ (loop = true ∧ (c = 5 ∨ c = 6 ∨ c = 7 ∨ c = 8 ∨ (¬ (c = 5 ∨ c = 6 ∨ c = 7 ∨ c = 8) ∧ decide (c = 5) = false ∧ decide (c = 6) = false ∧ decide (c = 7) = false ∧ decide (c = 8) = false ∧ (c == 5) = false ∧ (c == 6) = false ∧ (c == 7) = false ∧ (c == 8) = false))))) ∨
    (1 ≤ dv ∧ decide (dv < 1) = false ∧ ((loop = false ∧ (c = 10 ∨ c = 11 ∨ (decide (c = 10) = false ∧ decide (c = 11) = false ∧ (c == 10) = false ∧ (c == 11) = false))) ∨ loop = true)) := by
  have n4 : (c = 5 ∨ c = 6 ∨ c = 7 ∨ c = 8) ∨ (¬ (c = 5 ∨ c = 6 ∨ c = 7 ∨ c = 8) ∧ decide (c = 5) = false ∧ decide (c = 6) = false ∧ decide (c = 7) = false ∧ decide (c = 8) = false ∧ (c == 5) = false ∧ (c == 6) = false ∧ (c == 7) = false ∧ (c == 8) = false) := by
    by_cases hq : c = 5 ∨ c = 6 ∨ c = 7 ∨ c = 8
    · exact Or.inl hq
    · exact Or.inr ⟨hq, by refine ⟨?_, ?_, ?_, ?_, ?_, ?_, ?_, ?_⟩ <;> simp <;> omega⟩
  have n2 : (c = 10 ∨ c = 11) ∨ (decide (c = 10) = false ∧ decide (c = 11) = false ∧ (c == 10) = false ∧ (c == 11) = false) := by
    by_cases hq : c = 10 ∨ c = 11
    · exact Or.inl hq
    · exact Or.inr (by refine ⟨?_, ?_, ?_, ?_⟩ <;> simp <;> omega)
  rcases (show dv = 0 ∨ 1 ≤ dv by omega) with h0 | h0
  · refine Or.inl ⟨h0, by decide, ?_⟩
    cases loop
    · refine Or.inl ⟨rfl, ?_⟩
      rcases n4 with (h | h | h | h) | h
      · exact Or.inl h
      · exact Or.inr (Or.inl h)
      · exact Or.inr (Or.inr (Or.inl h))
      · exact Or.inr (Or.inr (Or.inr (Or.inl h)))
      · rcases n2 with (h' | h') | h'
        · exact Or.inr (Or.inr (Or.inr (Or.inr (Or.inl h'))))
        · exact Or.inr (Or.inr (Or.inr (Or.inr (Or.inr (Or.inl h')))))
        · obtain ⟨a0, a1, a2, a3, a4, a5, a6, a7, a8⟩ := h
          exact Or.inr (Or.inr (Or.inr (Or.inr (Or.inr (Or.inr ⟨a0, a1, a2, a3, a4, a5, a6, a7, a8, h'⟩)))))
    · refine Or.inr ⟨rfl, ?_⟩
      rcases n4 with (h | h | h | h) | h
      · exact Or.inl h
      · exact Or.inr (Or.inl h)
      · exact Or.inr (Or.inr (Or.inl h))
      · exact Or.inr (Or.inr (Or.inr (Or.inl h)))
      · exact Or.inr (Or.inr (Or.inr (Or.inr h)))
  · refine Or.inr ⟨h0, by simp; omega, ?_⟩
    cases loop
    · refine Or.inl ⟨rfl, ?_⟩
      rcases n2 with (h' | h') | h'
      · exact Or.inl h'
      · exact Or.inr (Or.inl h')
      · exact Or.inr (Or.inr h')
    · exact Or.inr rfl
set_option maxRecDepth 100000 in
theorem tail_any (D : Nat) (loop : Bool) (dv v t tag' left kk : Int) (X q0 : Nat) (v0 : 0 ≤ v) (v1 : v ≤ 255) (hd : (Depth F B f D dv)) (hkk : 0 ≤ kk ∧ kk ≤ 15) (hkD : dv = 0 → kk ≠ 5 ∧ kk ≠ 6 ∧ kk ≠ 7 ∧ kk ≠ 8) : Tail F B f D kk loop dv v t tag' left X q0 := by
  rcases (show (kk = 0 ∨ kk = 1 ∨ kk = 14 ∨ kk = 15) ∨ (kk = 2 ∨ kk = 3) ∨ kk = 4 ∨ (kk = 5 ∨ kk = 6) ∨ (kk = 7 ∨ kk = 8) ∨ kk = 9 ∨ kk = 10 ∨ kk = 11 ∨ kk = 12 ∨ kk = 13 by omega) with h | h | rfl | h | h | rfl | rfl | rfl | rfl | rfl
  · exact tail_0 D loop dv v t tag' left X q0 v0 v1 kk h
  · exact tail_2 D loop dv v t tag' left X q0 v0 v1 kk h
  · exact tail_4 D loop dv v t tag' left X q0 v0 v1
  · unfold Depth at hd
    rcases hd with ⟨h1, h2⟩ | ⟨D2, rfl, rfl, hD2, hDp⟩
    · exfalso; have := hkD h1; omega
    · by_cases h32 : v % 32 < 16
      · exact tail_5t D2 loop _ v t tag' left X q0 v0 v1 h32 rfl hD2 hDp kk h
      · exact tail_5f D2 loop _ v t tag' left X q0 v0 v1 h32 rfl hD2 hDp kk h
  · unfold Depth at hd
    rcases hd with ⟨h1, h2⟩ | ⟨D2, rfl, rfl, hD2, hDp⟩
    · exfalso; have := hkD h1; omega
    · exact tail_7 D2 loop _ v t tag' left X q0 v0 v1 rfl hD2 hDp kk h
  · by_cases h32 : v % 32 < 16
    · exact tail_9t D loop dv v t tag' left X q0 v0 v1 h32
    · exact tail_9f D loop dv v t tag' left X q0 v0 v1 h32
  · exact tail_10 D loop dv v t tag' left X q0 v0 v1
  · exact tail_11 D loop dv v t tag' left X q0 v0 v1
  · exact tail_12 D loop dv v t tag' left X q0 v0 v1
  · exact tail_13 D loop dv v t tag' left X q0 v0 v1
end
end Go.Proofs.YtgkdoealhbhnmaaGreatDoor
