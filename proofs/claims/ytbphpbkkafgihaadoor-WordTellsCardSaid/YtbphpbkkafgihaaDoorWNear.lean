/- What the statements' own helpers answer: near (a number of 64 bits, whatever it is asked), op. -/
import Derived.Test.YtbphpbkkafgihaaDoorWBinAny
import Derived.Test.YtbphpbkkafgihaaDoorWUn
import Derived.Test.YtbphpbkkafgihaaDoorWShelf
import Derived.Lib.AppendIntMem
namespace Go.Proofs.YtbphpbkkafgihaaDoor
open Go.RowKit

def nearV (n k : Int) : Int :=
  if k < 60 then n.tmod 70 else if k < 80 then (if k % 5 = 0 then -9223372036854775808 else if k % 5 = 1 then 9223372036854775807 else if k % 5 = 2 then 0 else if k % 5 = 3 then 1 else -1) else n

theorem nearV_range (n k : Int) (h : -9223372036854775808 ≤ n ∧ n ≤ 9223372036854775807) : -9223372036854775808 ≤ nearV n k ∧ nearV n k ≤ 9223372036854775807 := by
  unfold nearV
  split
  · rcases Int.le_total 0 n with hn | hn
    · rw [Int.tmod_eq_emod_of_nonneg hn]; omega
    · have e : n = -(-n) := by omega
      rw [e, Int.neg_tmod, Int.tmod_eq_emod_of_nonneg (by omega)]; omega
  · split
    · (repeat' split) <;> omega
    · omega

theorem near_any (n k : Int) (hk : 0 ≤ k ∧ k ≤ 255) (w : World) :
    Calls Tryd.prog 13 #[.int .i64 n, .int .u8 k] w fun e w' => e = .returned (.int .i64 (nearV n k)) ∧ Below w.heap.size w w' := by
  obtain ⟨k0, k1⟩ := hk
  by_cases h1 : k < 60
  · have e : nearV n k = n.tmod 70 := by unfold nearV; rw [if_pos h1]
    rw [e]; clear e
    go_enter Tryd.func13, Tryd.ntmps13
    go_wp2
    go_ret
    exact ⟨rfl, Below.refl _ _⟩
  · by_cases h2 : k < 80
    · have hm : k % 5 = 0 ∨ k % 5 = 1 ∨ k % 5 = 2 ∨ k % 5 = 3 ∨ k % 5 = 4 := by omega
      have ht : k.tmod 5 = k % 5 := Int.tmod_eq_emod_of_nonneg k0
      obtain ⟨c, ev, hc⟩ : ∃ c : Int, nearV n k = c ∧ ((k.tmod 5 = 0 ∧ c = -9223372036854775808) ∨ (k.tmod 5 = 1 ∧ c = 9223372036854775807) ∨ (k.tmod 5 = 2 ∧ c = 0) ∨ (k.tmod 5 = 3 ∧ c = 1) ∨ (k.tmod 5 = 4 ∧ c = -1)) := by
        refine ⟨_, rfl, ?_⟩
        unfold nearV
        rw [if_neg h1, if_pos h2, ht]
        rcases hm with e | e | e | e | e <;> simp [e]
      rw [ev]
      clear ev ht
      rcases hc with ⟨e, rfl⟩ | ⟨e, rfl⟩ | ⟨e, rfl⟩ | ⟨e, rfl⟩ | ⟨e, rfl⟩
      all_goals
        clear hm
        go_enter Tryd.func13, Tryd.ntmps13
        go_wp2
        go_ret
        exact ⟨rfl, (Below.refl _ _).alloc (Nat.le_refl _) _⟩
    · have e : nearV n k = n := by unfold nearV; rw [if_neg h1, if_neg h2]
      rw [e]; clear e
      go_enter Tryd.func13, Tryd.ntmps13
      go_wp2
      go_ret
      exact ⟨rfl, Below.refl _ _⟩
end Go.Proofs.YtbphpbkkafgihaaDoor
