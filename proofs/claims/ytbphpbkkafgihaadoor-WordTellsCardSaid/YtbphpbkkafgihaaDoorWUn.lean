/- What word.Unary answers of any text. -/
import Derived.Test.YtbphpbkkafgihaaDoorRows
import Derived.WalkKit
import Derived.WalkSpells
import Derived.WalkLawsBesides
import Derived.Laws.EntriesVeiled
import Derived.Test.YtbphpbkkafgihaaDoorWMeth
import Derived.Test.YtbphpbkkafgihaaDoorWBits
namespace Go.Proofs.YtbphpbkkafgihaaDoor
open Go.RowKit

theorem m_negative (a : Int) (_h : -9223372036854775808 ≤ a ∧ a ≤ 9223372036854775807) (w : World) : Calls Tryd.prog 50 #[.int .i64 a] w fun e w' => e = .returned (.int .i64 (wrap64 (-a))) ∧ w' = w := by
  clear _h
  go_enter Tryd.func50, Tryd.ntmps50
  go_wp2_with (go_at_call 55; refine (truth_any _ _).mono ?_; rintro e w' ⟨rfl, rfl⟩)
  go_ret
  exact ⟨rfl, rfl⟩
theorem findU_negative (w : World) :
    Calls Tryd.prog 27 #[.string { data := #[45] }] w fun e w' => e = .returned (.tuple #[.agg #[.func (.func 50) #[] #[]], .bool true]) ∧ w' = w.alloc (.cells #[.func (.func 50) #[] #[]] 56) := by
  go_enter Tryd.func27, Tryd.ntmps27
  go_wp2
  exact bodyPost_ret (v := .tuple #[.agg #[.func (.func 50) #[] #[]], .bool true]) (by simp [results, Tryd.results27, go_sem]) rfl ⟨rfl, rfl⟩
theorem un_negative (a : Int) (h : -9223372036854775808 ≤ a ∧ a ≤ 9223372036854775807) (w : World) :
    Calls Tryd.prog 16 #[.string { data := #[45] }, .int .i64 a] w fun e w' => e = .returned (.tuple #[.int .i64 (unV { data := #[45] } a), .bool (unB { data := #[45] })]) ∧ Below w.heap.size w w' := by
  rw [show unV { data := #[45] } a = wrap64 (-a) from rfl, show unB { data := #[45] } = true from rfl]
  have hm : ∀ W, Calls Tryd.prog 50 #[.int .i64 a] W fun e w' => e = .returned (.int .i64 (wrap64 (-a))) ∧ w' = W := fun W => m_negative a h W
  clear h
  go_enter Tryd.func16, Tryd.ntmps16
  go_wp2_with (first | (go_at_call 27; refine (findU_negative _).mono ?_; rintro e w' ⟨rfl, rfl⟩) | (go_at_call 50; refine (hm _).mono ?_; rintro e w' ⟨rfl, rfl⟩))
  go_ret2
  exact ⟨rfl, (((Below.refl _ _).alloc (Nat.le_refl _) _).alloc (by simp) _)⟩
theorem m_turned (a : Int) (h : -9223372036854775808 ≤ a ∧ a ≤ 9223372036854775807) (w : World) : Calls Tryd.prog 51 #[.int .i64 a] w fun e w' => e = .returned (.int .i64 (-a - 1)) ∧ w' = w := by
  rw [← bits_not a h]
  go_enter Tryd.func51, Tryd.ntmps51
  go_wp2_with (go_at_call 55; refine (truth_any _ _).mono ?_; rintro e w' ⟨rfl, rfl⟩)
  go_ret
  exact ⟨rfl, rfl⟩
theorem findU_turned (w : World) :
    Calls Tryd.prog 27 #[.string { data := #[126] }] w fun e w' => e = .returned (.tuple #[.agg #[.func (.func 51) #[] #[]], .bool true]) ∧ w' = w.alloc (.cells #[.func (.func 51) #[] #[]] 56) := by
  go_enter Tryd.func27, Tryd.ntmps27
  go_wp2
  exact bodyPost_ret (v := .tuple #[.agg #[.func (.func 51) #[] #[]], .bool true]) (by simp [results, Tryd.results27, go_sem]) rfl ⟨rfl, rfl⟩
theorem un_turned (a : Int) (h : -9223372036854775808 ≤ a ∧ a ≤ 9223372036854775807) (w : World) :
    Calls Tryd.prog 16 #[.string { data := #[126] }, .int .i64 a] w fun e w' => e = .returned (.tuple #[.int .i64 (unV { data := #[126] } a), .bool (unB { data := #[126] })]) ∧ Below w.heap.size w w' := by
  rw [show unV { data := #[126] } a = -a - 1 from rfl, show unB { data := #[126] } = true from rfl]
  have hm : ∀ W, Calls Tryd.prog 51 #[.int .i64 a] W fun e w' => e = .returned (.int .i64 (-a - 1)) ∧ w' = W := fun W => m_turned a h W
  clear h
  go_enter Tryd.func16, Tryd.ntmps16
  go_wp2_with (first | (go_at_call 27; refine (findU_turned _).mono ?_; rintro e w' ⟨rfl, rfl⟩) | (go_at_call 51; refine (hm _).mono ?_; rintro e w' ⟨rfl, rfl⟩))
  go_ret2
  exact ⟨rfl, (((Below.refl _ _).alloc (Nat.le_refl _) _).alloc (by simp) _)⟩
theorem m_not (a : Int) (_h : -9223372036854775808 ≤ a ∧ a ≤ 9223372036854775807) (w : World) : Calls Tryd.prog 52 #[.int .i64 a] w fun e w' => e = .returned (.int .i64 (bit (a == 0))) ∧ w' = w := by
  clear _h
  go_enter Tryd.func52, Tryd.ntmps52
  go_wp2_with (go_at_call 55; refine (truth_any _ _).mono ?_; rintro e w' ⟨rfl, rfl⟩)
  go_ret
  exact ⟨rfl, rfl⟩
theorem findU_not (w : World) :
    Calls Tryd.prog 27 #[.string { data := #[33] }] w fun e w' => e = .returned (.tuple #[.agg #[.func (.func 52) #[] #[]], .bool true]) ∧ w' = w.alloc (.cells #[.func (.func 52) #[] #[]] 56) := by
  go_enter Tryd.func27, Tryd.ntmps27
  go_wp2
  exact bodyPost_ret (v := .tuple #[.agg #[.func (.func 52) #[] #[]], .bool true]) (by simp [results, Tryd.results27, go_sem]) rfl ⟨rfl, rfl⟩
theorem un_not (a : Int) (h : -9223372036854775808 ≤ a ∧ a ≤ 9223372036854775807) (w : World) :
    Calls Tryd.prog 16 #[.string { data := #[33] }, .int .i64 a] w fun e w' => e = .returned (.tuple #[.int .i64 (unV { data := #[33] } a), .bool (unB { data := #[33] })]) ∧ Below w.heap.size w w' := by
  rw [show unV { data := #[33] } a = bit (a == 0) from rfl, show unB { data := #[33] } = true from rfl]
  have hm : ∀ W, Calls Tryd.prog 52 #[.int .i64 a] W fun e w' => e = .returned (.int .i64 (bit (a == 0))) ∧ w' = W := fun W => m_not a h W
  clear h
  go_enter Tryd.func16, Tryd.ntmps16
  go_wp2_with (first | (go_at_call 27; refine (findU_not _).mono ?_; rintro e w' ⟨rfl, rfl⟩) | (go_at_call 52; refine (hm _).mono ?_; rintro e w' ⟨rfl, rfl⟩))
  go_ret2
  exact ⟨rfl, (((Below.refl _ _).alloc (Nat.le_refl _) _).alloc (by simp) _)⟩
theorem un_none (s : ByteArray) (a : Int) (w : World)
    (h0 : ¬ s.data.toList = [45])
    (h1 : ¬ s.data.toList = [126])
    (h2 : ¬ s.data.toList = [33])
    : Calls Tryd.prog 16 #[.string s, .int .i64 a] w fun e w' => e = .returned (.tuple #[.int .i64 (unV s a), .bool (unB s)]) ∧ Below w.heap.size w w' := by
  have hv : unV s a = 0 := by unfold unV; simp only [if_neg h0, if_neg h1, if_neg h2]
  have ht : unB s = false := by unfold unB; simp [h0, h1, h2]
  rw [hv, ht]
  have g0 := not_list h0
  have g1 := not_list h1
  have g2 := not_list h2
  clear h0 h1 h2 hv ht
  have hf : ∀ W, Calls Tryd.prog 27 #[.string s] W fun e w' => e = .returned (.tuple #[.agg #[.nilFunc], .bool false]) ∧ w' = W.alloc (.cells #[.nilFunc] 56) := by
    intro W
    go_enter Tryd.func27, Tryd.ntmps27
    go_wp2
    exact bodyPost_ret (v := .tuple #[.agg #[.nilFunc], .bool false]) (by simp [results, Tryd.results27, go_sem]) rfl ⟨rfl, rfl⟩
  go_enter Tryd.func16, Tryd.ntmps16
  go_wp2_with (go_at_call 27; refine (hf _).mono ?_; rintro e w' ⟨rfl, rfl⟩)
  go_ret2
  exact ⟨rfl, (((Below.refl _ _).alloc (Nat.le_refl _) _).alloc (by simp) _)⟩
theorem un_any (s : ByteArray) (a : Int) (h : -9223372036854775808 ≤ a ∧ a ≤ 9223372036854775807) (w : World) :
    Calls Tryd.prog 16 #[.string s, .int .i64 a] w fun e w' => e = .returned (.tuple #[.int .i64 (unV s a), .bool (unB s)]) ∧ Below w.heap.size w w' := by
  by_cases h0 : s.data.toList = [45]
  · obtain rfl := of_list h0
    exact un_negative a h w
  by_cases h1 : s.data.toList = [126]
  · obtain rfl := of_list h1
    exact un_turned a h w
  by_cases h2 : s.data.toList = [33]
  · obtain rfl := of_list h2
    exact un_not a h w
  exact un_none s a w h0 h1 h2
end Go.Proofs.YtbphpbkkafgihaaDoor
