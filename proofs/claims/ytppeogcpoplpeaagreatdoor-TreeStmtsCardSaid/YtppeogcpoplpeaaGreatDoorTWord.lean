/- What word.Level and word.Unary answer of any text (as wip/word proves them at its own seat; what tree calls of word). -/
import Derived.Test.YtppeogcpoplpeaaGreatDoorRows
import Derived.WalkKit
import Derived.WalkSpells
import Derived.WalkLawsBesides
import Derived.Laws.EntriesVeiled
import Derived.Test.YtppeogcpoplpeaaGreatDoorWFind
import Derived.Test.YtppeogcpoplpeaaGreatDoorWNum
import Derived.Test.YtppeogcpoplpeaaGreatDoorWBits
set_option linter.unusedSimpArgs false
set_option linter.unusedVariables false
namespace Go.Proofs.YtppeogcpoplpeaaGreatDoor
open Go.RowKit

theorem truth_any (b : Bool) (w : World) : Calls Tryz.prog 153 #[.bool b] w fun e w' => e = .returned (.int .i64 (bit b)) ∧ w' = w := by
  cases b
  all_goals
    go_enter Tryz.func153, Tryz.ntmps153
    go_wp2
    go_ret
    exact ⟨rfl, rfl⟩
theorem m_negative (a : Int) (_h : -9223372036854775808 ≤ a ∧ a ≤ 9223372036854775807) (w : World) : Calls Tryz.prog 124 #[.int .i64 a] w fun e w' => e = .returned (.int .i64 (wrap64 (-a))) ∧ w' = w := by
  clear _h
  go_enter Tryz.func124, Tryz.ntmps124
  go_wp2_with (go_at_call 153; refine (truth_any _ _).mono ?_; rintro e w' ⟨rfl, rfl⟩)
  go_ret
  exact ⟨rfl, rfl⟩
theorem findU_negative (w : World) :
    Calls Tryz.prog 118 #[.string { data := #[45] }] w fun e w' => e = .returned (.tuple #[.agg #[.func (.func 124) #[] #[]], .bool true]) ∧ w' = w.alloc (.cells #[.func (.func 124) #[] #[]] 166) := by
  go_enter Tryz.func118, Tryz.ntmps118
  go_wp2
  exact bodyPost_ret (v := .tuple #[.agg #[.func (.func 124) #[] #[]], .bool true]) (by simp [results, Tryz.results118, go_sem]) rfl ⟨rfl, rfl⟩
theorem un_negative (a : Int) (h : -9223372036854775808 ≤ a ∧ a ≤ 9223372036854775807) (w : World) :
    Calls Tryz.prog 99 #[.string { data := #[45] }, .int .i64 a] w fun e w' => e = .returned (.tuple #[.int .i64 (unV { data := #[45] } a), .bool (unB { data := #[45] })]) ∧ Below w.heap.size w w' := by
  rw [show unV { data := #[45] } a = wrap64 (-a) from rfl, show unB { data := #[45] } = true from rfl]
  have hm : ∀ W, Calls Tryz.prog 124 #[.int .i64 a] W fun e w' => e = .returned (.int .i64 (wrap64 (-a))) ∧ w' = W := fun W => m_negative a h W
  clear h
  go_enter Tryz.func99, Tryz.ntmps99
  go_wp2_with (first | (go_at_call 118; refine (findU_negative _).mono ?_; rintro e w' ⟨rfl, rfl⟩) | (go_at_call 124; refine (hm _).mono ?_; rintro e w' ⟨rfl, rfl⟩))
  go_ret2
  exact ⟨rfl, (((Below.refl _ _).alloc (Nat.le_refl _) _).alloc (by simp) _)⟩
theorem m_turned (a : Int) (h : -9223372036854775808 ≤ a ∧ a ≤ 9223372036854775807) (w : World) : Calls Tryz.prog 125 #[.int .i64 a] w fun e w' => e = .returned (.int .i64 (-a - 1)) ∧ w' = w := by
  rw [← bits_not a h]
  go_enter Tryz.func125, Tryz.ntmps125
  go_wp2_with (go_at_call 153; refine (truth_any _ _).mono ?_; rintro e w' ⟨rfl, rfl⟩)
  go_ret
  exact ⟨rfl, rfl⟩
theorem findU_turned (w : World) :
    Calls Tryz.prog 118 #[.string { data := #[126] }] w fun e w' => e = .returned (.tuple #[.agg #[.func (.func 125) #[] #[]], .bool true]) ∧ w' = w.alloc (.cells #[.func (.func 125) #[] #[]] 166) := by
  go_enter Tryz.func118, Tryz.ntmps118
  go_wp2
  exact bodyPost_ret (v := .tuple #[.agg #[.func (.func 125) #[] #[]], .bool true]) (by simp [results, Tryz.results118, go_sem]) rfl ⟨rfl, rfl⟩
theorem un_turned (a : Int) (h : -9223372036854775808 ≤ a ∧ a ≤ 9223372036854775807) (w : World) :
    Calls Tryz.prog 99 #[.string { data := #[126] }, .int .i64 a] w fun e w' => e = .returned (.tuple #[.int .i64 (unV { data := #[126] } a), .bool (unB { data := #[126] })]) ∧ Below w.heap.size w w' := by
  rw [show unV { data := #[126] } a = -a - 1 from rfl, show unB { data := #[126] } = true from rfl]
  have hm : ∀ W, Calls Tryz.prog 125 #[.int .i64 a] W fun e w' => e = .returned (.int .i64 (-a - 1)) ∧ w' = W := fun W => m_turned a h W
  clear h
  go_enter Tryz.func99, Tryz.ntmps99
  go_wp2_with (first | (go_at_call 118; refine (findU_turned _).mono ?_; rintro e w' ⟨rfl, rfl⟩) | (go_at_call 125; refine (hm _).mono ?_; rintro e w' ⟨rfl, rfl⟩))
  go_ret2
  exact ⟨rfl, (((Below.refl _ _).alloc (Nat.le_refl _) _).alloc (by simp) _)⟩
theorem m_not (a : Int) (_h : -9223372036854775808 ≤ a ∧ a ≤ 9223372036854775807) (w : World) : Calls Tryz.prog 126 #[.int .i64 a] w fun e w' => e = .returned (.int .i64 (bit (a == 0))) ∧ w' = w := by
  clear _h
  go_enter Tryz.func126, Tryz.ntmps126
  go_wp2_with (go_at_call 153; refine (truth_any _ _).mono ?_; rintro e w' ⟨rfl, rfl⟩)
  go_ret
  exact ⟨rfl, rfl⟩
theorem findU_not (w : World) :
    Calls Tryz.prog 118 #[.string { data := #[33] }] w fun e w' => e = .returned (.tuple #[.agg #[.func (.func 126) #[] #[]], .bool true]) ∧ w' = w.alloc (.cells #[.func (.func 126) #[] #[]] 166) := by
  go_enter Tryz.func118, Tryz.ntmps118
  go_wp2
  exact bodyPost_ret (v := .tuple #[.agg #[.func (.func 126) #[] #[]], .bool true]) (by simp [results, Tryz.results118, go_sem]) rfl ⟨rfl, rfl⟩
theorem un_not (a : Int) (h : -9223372036854775808 ≤ a ∧ a ≤ 9223372036854775807) (w : World) :
    Calls Tryz.prog 99 #[.string { data := #[33] }, .int .i64 a] w fun e w' => e = .returned (.tuple #[.int .i64 (unV { data := #[33] } a), .bool (unB { data := #[33] })]) ∧ Below w.heap.size w w' := by
  rw [show unV { data := #[33] } a = bit (a == 0) from rfl, show unB { data := #[33] } = true from rfl]
  have hm : ∀ W, Calls Tryz.prog 126 #[.int .i64 a] W fun e w' => e = .returned (.int .i64 (bit (a == 0))) ∧ w' = W := fun W => m_not a h W
  clear h
  go_enter Tryz.func99, Tryz.ntmps99
  go_wp2_with (first | (go_at_call 118; refine (findU_not _).mono ?_; rintro e w' ⟨rfl, rfl⟩) | (go_at_call 126; refine (hm _).mono ?_; rintro e w' ⟨rfl, rfl⟩))
  go_ret2
  exact ⟨rfl, (((Below.refl _ _).alloc (Nat.le_refl _) _).alloc (by simp) _)⟩
theorem un_none (s : ByteArray) (a : Int) (w : World)
    (h0 : ¬ s.data.toList = [45])
    (h1 : ¬ s.data.toList = [126])
    (h2 : ¬ s.data.toList = [33])
    : Calls Tryz.prog 99 #[.string s, .int .i64 a] w fun e w' => e = .returned (.tuple #[.int .i64 (unV s a), .bool (unB s)]) ∧ Below w.heap.size w w' := by
  have hv : unV s a = 0 := by unfold unV; simp only [if_neg h0, if_neg h1, if_neg h2]
  have ht : unB s = false := by unfold unB; simp [h0, h1, h2]
  rw [hv, ht]
  have g0 := not_list h0
  have g1 := not_list h1
  have g2 := not_list h2
  clear h0 h1 h2 hv ht
  have hf : ∀ W, Calls Tryz.prog 118 #[.string s] W fun e w' => e = .returned (.tuple #[.agg #[.nilFunc], .bool false]) ∧ w' = W.alloc (.cells #[.nilFunc] 166) := by
    intro W
    go_enter Tryz.func118, Tryz.ntmps118
    go_wp2
    exact bodyPost_ret (v := .tuple #[.agg #[.nilFunc], .bool false]) (by simp [results, Tryz.results118, go_sem]) rfl ⟨rfl, rfl⟩
  go_enter Tryz.func99, Tryz.ntmps99
  go_wp2_with (go_at_call 118; refine (hf _).mono ?_; rintro e w' ⟨rfl, rfl⟩)
  go_ret2
  exact ⟨rfl, (((Below.refl _ _).alloc (Nat.le_refl _) _).alloc (by simp) _)⟩
theorem un_any (s : ByteArray) (a : Int) (h : -9223372036854775808 ≤ a ∧ a ≤ 9223372036854775807) (w : World) :
    Calls Tryz.prog 99 #[.string s, .int .i64 a] w fun e w' => e = .returned (.tuple #[.int .i64 (unV s a), .bool (unB s)]) ∧ Below w.heap.size w w' := by
  by_cases h0 : s.data.toList = [45]
  · obtain rfl := of_list h0
    exact un_negative a h w
  by_cases h1 : s.data.toList = [126]
  · obtain rfl := of_list h1
    exact un_turned a h w
  by_cases h2 : s.data.toList = [33]
  · obtain rfl := of_list h2
    exact un_not a h w
  exact un_none s a w h0 h1 h2
theorem find_none (s : ByteArray) (w : World)
    (h0 : (s.toList == [124, 124]) = false)
    (h1 : (s.toList == [38, 38]) = false)
    (h2 : (s.toList == [124]) = false)
    (h3 : (s.toList == [94]) = false)
    (h4 : (s.toList == [38]) = false)
    (h5 : (s.toList == [61, 61]) = false)
    (h6 : (s.toList == [33, 61]) = false)
    (h7 : (s.toList == [60]) = false)
    (h8 : (s.toList == [60, 61]) = false)
    (h9 : (s.toList == [62]) = false)
    (h10 : (s.toList == [62, 61]) = false)
    (h11 : (s.toList == [60, 60]) = false)
    (h12 : (s.toList == [62, 62]) = false)
    (h13 : (s.toList == [43]) = false)
    (h14 : (s.toList == [45]) = false)
    (h15 : (s.toList == [42]) = false)
    (h16 : (s.toList == [47]) = false)
    (h17 : (s.toList == [37]) = false)
    : Calls Tryz.prog 119 #[.string s] w fun e w' => e = .returned (.tuple #[.agg #[.int .i64 0, .nilFunc, .nilFunc], .bool false]) ∧ w' = w.alloc (.cells #[.int .i64 0, .nilFunc, .nilFunc] 173) := by
  go_enter Tryz.func119, Tryz.ntmps119
  go_wp2
  exact bodyPost_ret (v := .tuple #[.agg #[.int .i64 0, .nilFunc, .nilFunc], .bool false]) (by simp [results, Tryz.results119, go_sem]) rfl ⟨rfl, rfl⟩
theorem level_none (s : ByteArray) (w : World)
    (h0 : ¬ s.data.toList = [124, 124])
    (h1 : ¬ s.data.toList = [38, 38])
    (h2 : ¬ s.data.toList = [124])
    (h3 : ¬ s.data.toList = [94])
    (h4 : ¬ s.data.toList = [38])
    (h5 : ¬ s.data.toList = [61, 61])
    (h6 : ¬ s.data.toList = [33, 61])
    (h7 : ¬ s.data.toList = [60])
    (h8 : ¬ s.data.toList = [60, 61])
    (h9 : ¬ s.data.toList = [62])
    (h10 : ¬ s.data.toList = [62, 61])
    (h11 : ¬ s.data.toList = [60, 60])
    (h12 : ¬ s.data.toList = [62, 62])
    (h13 : ¬ s.data.toList = [43])
    (h14 : ¬ s.data.toList = [45])
    (h15 : ¬ s.data.toList = [42])
    (h16 : ¬ s.data.toList = [47])
    (h17 : ¬ s.data.toList = [37])
    : Calls Tryz.prog 101 #[.string s] w fun e w' => e = .returned (.int .i64 (levelV s)) ∧ Below w.heap.size w w' := by
  have hv : levelV s = 0 := by unfold levelV; simp only [if_neg h0, if_neg h1, if_neg h2, if_neg h3, if_neg h4, if_neg h5, if_neg h6, if_neg h7, if_neg h8, if_neg h9, if_neg h10, if_neg h11, if_neg h12, if_neg h13, if_neg h14, if_neg h15, if_neg h16, if_neg h17]
  rw [hv]
  have hf : ∀ W, Calls Tryz.prog 119 #[.string s] W fun e w' => e = .returned (.tuple #[.agg #[.int .i64 0, .nilFunc, .nilFunc], .bool false]) ∧ w' = W.alloc (.cells #[.int .i64 0, .nilFunc, .nilFunc] 173) :=
    fun W => find_none s W (not_list h0) (not_list h1) (not_list h2) (not_list h3) (not_list h4) (not_list h5) (not_list h6) (not_list h7) (not_list h8) (not_list h9) (not_list h10) (not_list h11) (not_list h12) (not_list h13) (not_list h14) (not_list h15) (not_list h16) (not_list h17)
  clear h0 h1 h2 h3 h4 h5 h6 h7 h8 h9 h10 h11 h12 h13 h14 h15 h16 h17 hv
  go_enter Tryz.func101, Tryz.ntmps101
  go_wp2_with (go_at_call 119; refine (hf _).mono ?_; rintro e w' ⟨rfl, rfl⟩)
  go_ret
  exact ⟨rfl, (((Below.refl _ _).alloc (Nat.le_refl _) _).alloc (by simp) _)⟩
theorem level_either (w : World) : Calls Tryz.prog 101 #[.string { data := #[124, 124] }] w fun e w' => e = .returned (.int .i64 (levelV { data := #[124, 124] })) ∧ Below w.heap.size w w' := by
  rw [levelV_either]
  go_enter Tryz.func101, Tryz.ntmps101
  go_wp2_with (go_at_call 119; refine (find_either _).mono ?_; rintro e w' ⟨rfl, rfl⟩)
  go_ret
  exact ⟨rfl, ((((Below.refl _ _).alloc (Nat.le_refl _) _).alloc (by simp) _).alloc (by simp; omega) _)⟩
theorem level_both (w : World) : Calls Tryz.prog 101 #[.string { data := #[38, 38] }] w fun e w' => e = .returned (.int .i64 (levelV { data := #[38, 38] })) ∧ Below w.heap.size w w' := by
  rw [levelV_both]
  go_enter Tryz.func101, Tryz.ntmps101
  go_wp2_with (go_at_call 119; refine (find_both _).mono ?_; rintro e w' ⟨rfl, rfl⟩)
  go_ret
  exact ⟨rfl, ((((Below.refl _ _).alloc (Nat.le_refl _) _).alloc (by simp) _).alloc (by simp; omega) _)⟩
theorem level_bitOr (w : World) : Calls Tryz.prog 101 #[.string { data := #[124] }] w fun e w' => e = .returned (.int .i64 (levelV { data := #[124] })) ∧ Below w.heap.size w w' := by
  rw [levelV_bitOr]
  go_enter Tryz.func101, Tryz.ntmps101
  go_wp2_with (go_at_call 119; refine (find_bitOr _).mono ?_; rintro e w' ⟨rfl, rfl⟩)
  go_ret
  exact ⟨rfl, ((((Below.refl _ _).alloc (Nat.le_refl _) _).alloc (by simp) _).alloc (by simp; omega) _)⟩
theorem level_bitXor (w : World) : Calls Tryz.prog 101 #[.string { data := #[94] }] w fun e w' => e = .returned (.int .i64 (levelV { data := #[94] })) ∧ Below w.heap.size w w' := by
  rw [levelV_bitXor]
  go_enter Tryz.func101, Tryz.ntmps101
  go_wp2_with (go_at_call 119; refine (find_bitXor _).mono ?_; rintro e w' ⟨rfl, rfl⟩)
  go_ret
  exact ⟨rfl, ((((Below.refl _ _).alloc (Nat.le_refl _) _).alloc (by simp) _).alloc (by simp; omega) _)⟩
theorem level_bitAnd (w : World) : Calls Tryz.prog 101 #[.string { data := #[38] }] w fun e w' => e = .returned (.int .i64 (levelV { data := #[38] })) ∧ Below w.heap.size w w' := by
  rw [levelV_bitAnd]
  go_enter Tryz.func101, Tryz.ntmps101
  go_wp2_with (go_at_call 119; refine (find_bitAnd _).mono ?_; rintro e w' ⟨rfl, rfl⟩)
  go_ret
  exact ⟨rfl, ((((Below.refl _ _).alloc (Nat.le_refl _) _).alloc (by simp) _).alloc (by simp; omega) _)⟩
theorem level_equal (w : World) : Calls Tryz.prog 101 #[.string { data := #[61, 61] }] w fun e w' => e = .returned (.int .i64 (levelV { data := #[61, 61] })) ∧ Below w.heap.size w w' := by
  rw [levelV_equal]
  go_enter Tryz.func101, Tryz.ntmps101
  go_wp2_with (go_at_call 119; refine (find_equal _).mono ?_; rintro e w' ⟨rfl, rfl⟩)
  go_ret
  exact ⟨rfl, ((((Below.refl _ _).alloc (Nat.le_refl _) _).alloc (by simp) _).alloc (by simp; omega) _)⟩
theorem level_unequal (w : World) : Calls Tryz.prog 101 #[.string { data := #[33, 61] }] w fun e w' => e = .returned (.int .i64 (levelV { data := #[33, 61] })) ∧ Below w.heap.size w w' := by
  rw [levelV_unequal]
  go_enter Tryz.func101, Tryz.ntmps101
  go_wp2_with (go_at_call 119; refine (find_unequal _).mono ?_; rintro e w' ⟨rfl, rfl⟩)
  go_ret
  exact ⟨rfl, ((((Below.refl _ _).alloc (Nat.le_refl _) _).alloc (by simp) _).alloc (by simp; omega) _)⟩
theorem level_less (w : World) : Calls Tryz.prog 101 #[.string { data := #[60] }] w fun e w' => e = .returned (.int .i64 (levelV { data := #[60] })) ∧ Below w.heap.size w w' := by
  rw [levelV_less]
  go_enter Tryz.func101, Tryz.ntmps101
  go_wp2_with (go_at_call 119; refine (find_less _).mono ?_; rintro e w' ⟨rfl, rfl⟩)
  go_ret
  exact ⟨rfl, ((((Below.refl _ _).alloc (Nat.le_refl _) _).alloc (by simp) _).alloc (by simp; omega) _)⟩
theorem level_atMost (w : World) : Calls Tryz.prog 101 #[.string { data := #[60, 61] }] w fun e w' => e = .returned (.int .i64 (levelV { data := #[60, 61] })) ∧ Below w.heap.size w w' := by
  rw [levelV_atMost]
  go_enter Tryz.func101, Tryz.ntmps101
  go_wp2_with (go_at_call 119; refine (find_atMost _).mono ?_; rintro e w' ⟨rfl, rfl⟩)
  go_ret
  exact ⟨rfl, ((((Below.refl _ _).alloc (Nat.le_refl _) _).alloc (by simp) _).alloc (by simp; omega) _)⟩
theorem level_more (w : World) : Calls Tryz.prog 101 #[.string { data := #[62] }] w fun e w' => e = .returned (.int .i64 (levelV { data := #[62] })) ∧ Below w.heap.size w w' := by
  rw [levelV_more]
  go_enter Tryz.func101, Tryz.ntmps101
  go_wp2_with (go_at_call 119; refine (find_more _).mono ?_; rintro e w' ⟨rfl, rfl⟩)
  go_ret
  exact ⟨rfl, ((((Below.refl _ _).alloc (Nat.le_refl _) _).alloc (by simp) _).alloc (by simp; omega) _)⟩
theorem level_atLeast (w : World) : Calls Tryz.prog 101 #[.string { data := #[62, 61] }] w fun e w' => e = .returned (.int .i64 (levelV { data := #[62, 61] })) ∧ Below w.heap.size w w' := by
  rw [levelV_atLeast]
  go_enter Tryz.func101, Tryz.ntmps101
  go_wp2_with (go_at_call 119; refine (find_atLeast _).mono ?_; rintro e w' ⟨rfl, rfl⟩)
  go_ret
  exact ⟨rfl, ((((Below.refl _ _).alloc (Nat.le_refl _) _).alloc (by simp) _).alloc (by simp; omega) _)⟩
theorem level_left (w : World) : Calls Tryz.prog 101 #[.string { data := #[60, 60] }] w fun e w' => e = .returned (.int .i64 (levelV { data := #[60, 60] })) ∧ Below w.heap.size w w' := by
  rw [levelV_left]
  go_enter Tryz.func101, Tryz.ntmps101
  go_wp2_with (go_at_call 119; refine (find_left _).mono ?_; rintro e w' ⟨rfl, rfl⟩)
  go_ret
  exact ⟨rfl, ((((Below.refl _ _).alloc (Nat.le_refl _) _).alloc (by simp) _).alloc (by simp; omega) _)⟩
theorem level_right (w : World) : Calls Tryz.prog 101 #[.string { data := #[62, 62] }] w fun e w' => e = .returned (.int .i64 (levelV { data := #[62, 62] })) ∧ Below w.heap.size w w' := by
  rw [levelV_right]
  go_enter Tryz.func101, Tryz.ntmps101
  go_wp2_with (go_at_call 119; refine (find_right _).mono ?_; rintro e w' ⟨rfl, rfl⟩)
  go_ret
  exact ⟨rfl, ((((Below.refl _ _).alloc (Nat.le_refl _) _).alloc (by simp) _).alloc (by simp; omega) _)⟩
theorem level_plus (w : World) : Calls Tryz.prog 101 #[.string { data := #[43] }] w fun e w' => e = .returned (.int .i64 (levelV { data := #[43] })) ∧ Below w.heap.size w w' := by
  rw [levelV_plus]
  go_enter Tryz.func101, Tryz.ntmps101
  go_wp2_with (go_at_call 119; refine (find_plus _).mono ?_; rintro e w' ⟨rfl, rfl⟩)
  go_ret
  exact ⟨rfl, ((((Below.refl _ _).alloc (Nat.le_refl _) _).alloc (by simp) _).alloc (by simp; omega) _)⟩
theorem level_minus (w : World) : Calls Tryz.prog 101 #[.string { data := #[45] }] w fun e w' => e = .returned (.int .i64 (levelV { data := #[45] })) ∧ Below w.heap.size w w' := by
  rw [levelV_minus]
  go_enter Tryz.func101, Tryz.ntmps101
  go_wp2_with (go_at_call 119; refine (find_minus _).mono ?_; rintro e w' ⟨rfl, rfl⟩)
  go_ret
  exact ⟨rfl, ((((Below.refl _ _).alloc (Nat.le_refl _) _).alloc (by simp) _).alloc (by simp; omega) _)⟩
theorem level_times (w : World) : Calls Tryz.prog 101 #[.string { data := #[42] }] w fun e w' => e = .returned (.int .i64 (levelV { data := #[42] })) ∧ Below w.heap.size w w' := by
  rw [levelV_times]
  go_enter Tryz.func101, Tryz.ntmps101
  go_wp2_with (go_at_call 119; refine (find_times _).mono ?_; rintro e w' ⟨rfl, rfl⟩)
  go_ret
  exact ⟨rfl, ((((Below.refl _ _).alloc (Nat.le_refl _) _).alloc (by simp) _).alloc (by simp; omega) _)⟩
theorem level_quotient (w : World) : Calls Tryz.prog 101 #[.string { data := #[47] }] w fun e w' => e = .returned (.int .i64 (levelV { data := #[47] })) ∧ Below w.heap.size w w' := by
  rw [levelV_quotient]
  go_enter Tryz.func101, Tryz.ntmps101
  go_wp2_with (go_at_call 119; refine (find_quotient _).mono ?_; rintro e w' ⟨rfl, rfl⟩)
  go_ret
  exact ⟨rfl, ((((Below.refl _ _).alloc (Nat.le_refl _) _).alloc (by simp) _).alloc (by simp; omega) _)⟩
theorem level_rest (w : World) : Calls Tryz.prog 101 #[.string { data := #[37] }] w fun e w' => e = .returned (.int .i64 (levelV { data := #[37] })) ∧ Below w.heap.size w w' := by
  rw [levelV_rest]
  go_enter Tryz.func101, Tryz.ntmps101
  go_wp2_with (go_at_call 119; refine (find_rest _).mono ?_; rintro e w' ⟨rfl, rfl⟩)
  go_ret
  exact ⟨rfl, ((((Below.refl _ _).alloc (Nat.le_refl _) _).alloc (by simp) _).alloc (by simp; omega) _)⟩
theorem level_any (s : ByteArray) (w : World) : Calls Tryz.prog 101 #[.string s] w fun e w' => e = .returned (.int .i64 (levelV s)) ∧ Below w.heap.size w w' := by
  by_cases h0 : s.data.toList = [124, 124]
  · obtain rfl := of_list h0
    exact level_either w
  by_cases h1 : s.data.toList = [38, 38]
  · obtain rfl := of_list h1
    exact level_both w
  by_cases h2 : s.data.toList = [124]
  · obtain rfl := of_list h2
    exact level_bitOr w
  by_cases h3 : s.data.toList = [94]
  · obtain rfl := of_list h3
    exact level_bitXor w
  by_cases h4 : s.data.toList = [38]
  · obtain rfl := of_list h4
    exact level_bitAnd w
  by_cases h5 : s.data.toList = [61, 61]
  · obtain rfl := of_list h5
    exact level_equal w
  by_cases h6 : s.data.toList = [33, 61]
  · obtain rfl := of_list h6
    exact level_unequal w
  by_cases h7 : s.data.toList = [60]
  · obtain rfl := of_list h7
    exact level_less w
  by_cases h8 : s.data.toList = [60, 61]
  · obtain rfl := of_list h8
    exact level_atMost w
  by_cases h9 : s.data.toList = [62]
  · obtain rfl := of_list h9
    exact level_more w
  by_cases h10 : s.data.toList = [62, 61]
  · obtain rfl := of_list h10
    exact level_atLeast w
  by_cases h11 : s.data.toList = [60, 60]
  · obtain rfl := of_list h11
    exact level_left w
  by_cases h12 : s.data.toList = [62, 62]
  · obtain rfl := of_list h12
    exact level_right w
  by_cases h13 : s.data.toList = [43]
  · obtain rfl := of_list h13
    exact level_plus w
  by_cases h14 : s.data.toList = [45]
  · obtain rfl := of_list h14
    exact level_minus w
  by_cases h15 : s.data.toList = [42]
  · obtain rfl := of_list h15
    exact level_times w
  by_cases h16 : s.data.toList = [47]
  · obtain rfl := of_list h16
    exact level_quotient w
  by_cases h17 : s.data.toList = [37]
  · obtain rfl := of_list h17
    exact level_rest w
  exact level_none s w h0 h1 h2 h3 h4 h5 h6 h7 h8 h9 h10 h11 h12 h13 h14 h15 h16 h17
end Go.Proofs.YtppeogcpoplpeaaGreatDoor
