/- What word.Binary, word.Unary, word.Level and do answer of any text. -/
import Derived.Test.YtdaklmbifkehpaaGreatDoorWBin
namespace Go.Proofs.YtdaklmbifkehpaaGreatDoor
open Go.RowKit

theorem bin_none (s : ByteArray) (a b : Int) (w : World)
    (h0 : ¬ s.data.toList = [124, 124])
    (h1 : ¬ s.data.toList = [38, 38])
    (h2 : ¬ s.data.toList = [124])
    (h3 : ¬ s.data.toList = [94])
    (h4 : ¬ s.data.toList = [38])
    (h5 : ¬ s.data.toList = [61, 61])
    (h6 : ¬ s.data.toList = [33, 61])
    (h7 : ¬ s.data.toList = [60])
    (h8 : ¬ s.data.toList = [60, 61])
    (h9 : ¬ s.data.toList = [62])
    (h10 : ¬ s.data.toList = [62, 61])
    (h11 : ¬ s.data.toList = [60, 60])
    (h12 : ¬ s.data.toList = [62, 62])
    (h13 : ¬ s.data.toList = [43])
    (h14 : ¬ s.data.toList = [45])
    (h15 : ¬ s.data.toList = [42])
    (h16 : ¬ s.data.toList = [47])
    (h17 : ¬ s.data.toList = [37])
    : Calls Tryz.prog 34 #[.string s, .int .i64 a, .int .i64 b] w fun e w' => e = .returned (.tuple #[.int .i64 (binV s a b), .int .i64 (binT s b)]) ∧ Below w.heap.size w w' := by
  have hv : binV s a b = 0 := by unfold binV; simp only [if_neg h0, if_neg h1, if_neg h2, if_neg h3, if_neg h4, if_neg h5, if_neg h6, if_neg h7, if_neg h8, if_neg h9, if_neg h10, if_neg h11, if_neg h12, if_neg h13, if_neg h14, if_neg h15, if_neg h16, if_neg h17]
  have ht : binT s b = 0 := by unfold binT; simp only [if_neg h11, if_neg h12, if_neg h16, if_neg h17]
  rw [hv, ht]
  have hf : ∀ W, Calls Tryz.prog 55 #[.string s] W fun e w' => e = .returned (.tuple #[.agg #[.int .i64 0, .nilFunc, .nilFunc], .bool false]) ∧ w' = W.alloc (.cells #[.int .i64 0, .nilFunc, .nilFunc] 119) :=
    fun W => find_none s W (not_list h0) (not_list h1) (not_list h2) (not_list h3) (not_list h4) (not_list h5) (not_list h6) (not_list h7) (not_list h8) (not_list h9) (not_list h10) (not_list h11) (not_list h12) (not_list h13) (not_list h14) (not_list h15) (not_list h16) (not_list h17)
  clear h0 h1 h2 h3 h4 h5 h6 h7 h8 h9 h10 h11 h12 h13 h14 h15 h16 h17 hv ht
  go_enter Tryz.func34, Tryz.ntmps34
  go_wp2_with (go_at_call 55; refine (hf _).mono ?_; rintro e w' ⟨rfl, rfl⟩)
  go_ret2
  exact ⟨rfl, (((Below.refl _ _).alloc (Nat.le_refl _) _).alloc (by simp) _)⟩

theorem bin_any (s : ByteArray) (a b : Int) (w : World) :
    Calls Tryz.prog 34 #[.string s, .int .i64 a, .int .i64 b] w fun e w' => e = .returned (.tuple #[.int .i64 (binV s a b), .int .i64 (binT s b)]) ∧ Below w.heap.size w w' := by
  by_cases h0 : s.data.toList = [124, 124]
  · obtain rfl := of_list h0
    exact bin_either a b w
  by_cases h1 : s.data.toList = [38, 38]
  · obtain rfl := of_list h1
    exact bin_both a b w
  by_cases h2 : s.data.toList = [124]
  · obtain rfl := of_list h2
    exact bin_bitOr a b w
  by_cases h3 : s.data.toList = [94]
  · obtain rfl := of_list h3
    exact bin_bitXor a b w
  by_cases h4 : s.data.toList = [38]
  · obtain rfl := of_list h4
    exact bin_bitAnd a b w
  by_cases h5 : s.data.toList = [61, 61]
  · obtain rfl := of_list h5
    exact bin_equal a b w
  by_cases h6 : s.data.toList = [33, 61]
  · obtain rfl := of_list h6
    exact bin_unequal a b w
  by_cases h7 : s.data.toList = [60]
  · obtain rfl := of_list h7
    exact bin_less a b w
  by_cases h8 : s.data.toList = [60, 61]
  · obtain rfl := of_list h8
    exact bin_atMost a b w
  by_cases h9 : s.data.toList = [62]
  · obtain rfl := of_list h9
    exact bin_more a b w
  by_cases h10 : s.data.toList = [62, 61]
  · obtain rfl := of_list h10
    exact bin_atLeast a b w
  by_cases h11 : s.data.toList = [60, 60]
  · obtain rfl := of_list h11
    exact bin_left a b w
  by_cases h12 : s.data.toList = [62, 62]
  · obtain rfl := of_list h12
    exact bin_right a b w
  by_cases h13 : s.data.toList = [43]
  · obtain rfl := of_list h13
    exact bin_plus a b w
  by_cases h14 : s.data.toList = [45]
  · obtain rfl := of_list h14
    exact bin_minus a b w
  by_cases h15 : s.data.toList = [42]
  · obtain rfl := of_list h15
    exact bin_times a b w
  by_cases h16 : s.data.toList = [47]
  · obtain rfl := of_list h16
    exact bin_quotient a b w
  by_cases h17 : s.data.toList = [37]
  · obtain rfl := of_list h17
    exact bin_rest a b w
  exact bin_none s a b w h0 h1 h2 h3 h4 h5 h6 h7 h8 h9 h10 h11 h12 h13 h14 h15 h16 h17

theorem level_none (s : ByteArray) (w : World)
    (h0 : ¬ s.data.toList = [124, 124])
    (h1 : ¬ s.data.toList = [38, 38])
    (h2 : ¬ s.data.toList = [124])
    (h3 : ¬ s.data.toList = [94])
    (h4 : ¬ s.data.toList = [38])
    (h5 : ¬ s.data.toList = [61, 61])
    (h6 : ¬ s.data.toList = [33, 61])
    (h7 : ¬ s.data.toList = [60])
    (h8 : ¬ s.data.toList = [60, 61])
    (h9 : ¬ s.data.toList = [62])
    (h10 : ¬ s.data.toList = [62, 61])
    (h11 : ¬ s.data.toList = [60, 60])
    (h12 : ¬ s.data.toList = [62, 62])
    (h13 : ¬ s.data.toList = [43])
    (h14 : ¬ s.data.toList = [45])
    (h15 : ¬ s.data.toList = [42])
    (h16 : ¬ s.data.toList = [47])
    (h17 : ¬ s.data.toList = [37])
    : Calls Tryz.prog 110 #[.string s] w fun e w' => e = .returned (.int .i64 (levelV s)) ∧ Below w.heap.size w w' := by
  have hv : levelV s = 0 := by unfold levelV; simp only [if_neg h0, if_neg h1, if_neg h2, if_neg h3, if_neg h4, if_neg h5, if_neg h6, if_neg h7, if_neg h8, if_neg h9, if_neg h10, if_neg h11, if_neg h12, if_neg h13, if_neg h14, if_neg h15, if_neg h16, if_neg h17]
  rw [hv]
  have hf : ∀ W, Calls Tryz.prog 55 #[.string s] W fun e w' => e = .returned (.tuple #[.agg #[.int .i64 0, .nilFunc, .nilFunc], .bool false]) ∧ w' = W.alloc (.cells #[.int .i64 0, .nilFunc, .nilFunc] 119) :=
    fun W => find_none s W (not_list h0) (not_list h1) (not_list h2) (not_list h3) (not_list h4) (not_list h5) (not_list h6) (not_list h7) (not_list h8) (not_list h9) (not_list h10) (not_list h11) (not_list h12) (not_list h13) (not_list h14) (not_list h15) (not_list h16) (not_list h17)
  clear h0 h1 h2 h3 h4 h5 h6 h7 h8 h9 h10 h11 h12 h13 h14 h15 h16 h17 hv
  go_enter Tryz.func110, Tryz.ntmps110
  go_wp2_with (go_at_call 55; refine (hf _).mono ?_; rintro e w' ⟨rfl, rfl⟩)
  go_ret
  exact ⟨rfl, (((Below.refl _ _).alloc (Nat.le_refl _) _).alloc (by simp) _)⟩
theorem level_either (w : World) : Calls Tryz.prog 110 #[.string { data := #[124, 124] }] w fun e w' => e = .returned (.int .i64 (levelV { data := #[124, 124] })) ∧ Below w.heap.size w w' := by
  rw [levelV_either]
  go_enter Tryz.func110, Tryz.ntmps110
  go_wp2_with (go_at_call 55; refine (find_either _).mono ?_; rintro e w' ⟨rfl, rfl⟩)
  go_ret
  exact ⟨rfl, ((((Below.refl _ _).alloc (Nat.le_refl _) _).alloc (by simp) _).alloc (by simp; omega) _)⟩
theorem level_both (w : World) : Calls Tryz.prog 110 #[.string { data := #[38, 38] }] w fun e w' => e = .returned (.int .i64 (levelV { data := #[38, 38] })) ∧ Below w.heap.size w w' := by
  rw [levelV_both]
  go_enter Tryz.func110, Tryz.ntmps110
  go_wp2_with (go_at_call 55; refine (find_both _).mono ?_; rintro e w' ⟨rfl, rfl⟩)
  go_ret
  exact ⟨rfl, ((((Below.refl _ _).alloc (Nat.le_refl _) _).alloc (by simp) _).alloc (by simp; omega) _)⟩
theorem level_bitOr (w : World) : Calls Tryz.prog 110 #[.string { data := #[124] }] w fun e w' => e = .returned (.int .i64 (levelV { data := #[124] })) ∧ Below w.heap.size w w' := by
  rw [levelV_bitOr]
  go_enter Tryz.func110, Tryz.ntmps110
  go_wp2_with (go_at_call 55; refine (find_bitOr _).mono ?_; rintro e w' ⟨rfl, rfl⟩)
  go_ret
  exact ⟨rfl, ((((Below.refl _ _).alloc (Nat.le_refl _) _).alloc (by simp) _).alloc (by simp; omega) _)⟩
theorem level_bitXor (w : World) : Calls Tryz.prog 110 #[.string { data := #[94] }] w fun e w' => e = .returned (.int .i64 (levelV { data := #[94] })) ∧ Below w.heap.size w w' := by
  rw [levelV_bitXor]
  go_enter Tryz.func110, Tryz.ntmps110
  go_wp2_with (go_at_call 55; refine (find_bitXor _).mono ?_; rintro e w' ⟨rfl, rfl⟩)
  go_ret
  exact ⟨rfl, ((((Below.refl _ _).alloc (Nat.le_refl _) _).alloc (by simp) _).alloc (by simp; omega) _)⟩
theorem level_bitAnd (w : World) : Calls Tryz.prog 110 #[.string { data := #[38] }] w fun e w' => e = .returned (.int .i64 (levelV { data := #[38] })) ∧ Below w.heap.size w w' := by
  rw [levelV_bitAnd]
  go_enter Tryz.func110, Tryz.ntmps110
  go_wp2_with (go_at_call 55; refine (find_bitAnd _).mono ?_; rintro e w' ⟨rfl, rfl⟩)
  go_ret
  exact ⟨rfl, ((((Below.refl _ _).alloc (Nat.le_refl _) _).alloc (by simp) _).alloc (by simp; omega) _)⟩
theorem level_equal (w : World) : Calls Tryz.prog 110 #[.string { data := #[61, 61] }] w fun e w' => e = .returned (.int .i64 (levelV { data := #[61, 61] })) ∧ Below w.heap.size w w' := by
  rw [levelV_equal]
  go_enter Tryz.func110, Tryz.ntmps110
  go_wp2_with (go_at_call 55; refine (find_equal _).mono ?_; rintro e w' ⟨rfl, rfl⟩)
  go_ret
  exact ⟨rfl, ((((Below.refl _ _).alloc (Nat.le_refl _) _).alloc (by simp) _).alloc (by simp; omega) _)⟩
theorem level_unequal (w : World) : Calls Tryz.prog 110 #[.string { data := #[33, 61] }] w fun e w' => e = .returned (.int .i64 (levelV { data := #[33, 61] })) ∧ Below w.heap.size w w' := by
  rw [levelV_unequal]
  go_enter Tryz.func110, Tryz.ntmps110
  go_wp2_with (go_at_call 55; refine (find_unequal _).mono ?_; rintro e w' ⟨rfl, rfl⟩)
  go_ret
  exact ⟨rfl, ((((Below.refl _ _).alloc (Nat.le_refl _) _).alloc (by simp) _).alloc (by simp; omega) _)⟩
theorem level_less (w : World) : Calls Tryz.prog 110 #[.string { data := #[60] }] w fun e w' => e = .returned (.int .i64 (levelV { data := #[60] })) ∧ Below w.heap.size w w' := by
  rw [levelV_less]
  go_enter Tryz.func110, Tryz.ntmps110
  go_wp2_with (go_at_call 55; refine (find_less _).mono ?_; rintro e w' ⟨rfl, rfl⟩)
  go_ret
  exact ⟨rfl, ((((Below.refl _ _).alloc (Nat.le_refl _) _).alloc (by simp) _).alloc (by simp; omega) _)⟩
theorem level_atMost (w : World) : Calls Tryz.prog 110 #[.string { data := #[60, 61] }] w fun e w' => e = .returned (.int .i64 (levelV { data := #[60, 61] })) ∧ Below w.heap.size w w' := by
  rw [levelV_atMost]
  go_enter Tryz.func110, Tryz.ntmps110
  go_wp2_with (go_at_call 55; refine (find_atMost _).mono ?_; rintro e w' ⟨rfl, rfl⟩)
  go_ret
  exact ⟨rfl, ((((Below.refl _ _).alloc (Nat.le_refl _) _).alloc (by simp) _).alloc (by simp; omega) _)⟩
theorem level_more (w : World) : Calls Tryz.prog 110 #[.string { data := #[62] }] w fun e w' => e = .returned (.int .i64 (levelV { data := #[62] })) ∧ Below w.heap.size w w' := by
  rw [levelV_more]
  go_enter Tryz.func110, Tryz.ntmps110
  go_wp2_with (go_at_call 55; refine (find_more _).mono ?_; rintro e w' ⟨rfl, rfl⟩)
  go_ret
  exact ⟨rfl, ((((Below.refl _ _).alloc (Nat.le_refl _) _).alloc (by simp) _).alloc (by simp; omega) _)⟩
theorem level_atLeast (w : World) : Calls Tryz.prog 110 #[.string { data := #[62, 61] }] w fun e w' => e = .returned (.int .i64 (levelV { data := #[62, 61] })) ∧ Below w.heap.size w w' := by
  rw [levelV_atLeast]
  go_enter Tryz.func110, Tryz.ntmps110
  go_wp2_with (go_at_call 55; refine (find_atLeast _).mono ?_; rintro e w' ⟨rfl, rfl⟩)
  go_ret
  exact ⟨rfl, ((((Below.refl _ _).alloc (Nat.le_refl _) _).alloc (by simp) _).alloc (by simp; omega) _)⟩
theorem level_left (w : World) : Calls Tryz.prog 110 #[.string { data := #[60, 60] }] w fun e w' => e = .returned (.int .i64 (levelV { data := #[60, 60] })) ∧ Below w.heap.size w w' := by
  rw [levelV_left]
  go_enter Tryz.func110, Tryz.ntmps110
  go_wp2_with (go_at_call 55; refine (find_left _).mono ?_; rintro e w' ⟨rfl, rfl⟩)
  go_ret
  exact ⟨rfl, ((((Below.refl _ _).alloc (Nat.le_refl _) _).alloc (by simp) _).alloc (by simp; omega) _)⟩
theorem level_right (w : World) : Calls Tryz.prog 110 #[.string { data := #[62, 62] }] w fun e w' => e = .returned (.int .i64 (levelV { data := #[62, 62] })) ∧ Below w.heap.size w w' := by
  rw [levelV_right]
  go_enter Tryz.func110, Tryz.ntmps110
  go_wp2_with (go_at_call 55; refine (find_right _).mono ?_; rintro e w' ⟨rfl, rfl⟩)
  go_ret
  exact ⟨rfl, ((((Below.refl _ _).alloc (Nat.le_refl _) _).alloc (by simp) _).alloc (by simp; omega) _)⟩
theorem level_plus (w : World) : Calls Tryz.prog 110 #[.string { data := #[43] }] w fun e w' => e = .returned (.int .i64 (levelV { data := #[43] })) ∧ Below w.heap.size w w' := by
  rw [levelV_plus]
  go_enter Tryz.func110, Tryz.ntmps110
  go_wp2_with (go_at_call 55; refine (find_plus _).mono ?_; rintro e w' ⟨rfl, rfl⟩)
  go_ret
  exact ⟨rfl, ((((Below.refl _ _).alloc (Nat.le_refl _) _).alloc (by simp) _).alloc (by simp; omega) _)⟩
theorem level_minus (w : World) : Calls Tryz.prog 110 #[.string { data := #[45] }] w fun e w' => e = .returned (.int .i64 (levelV { data := #[45] })) ∧ Below w.heap.size w w' := by
  rw [levelV_minus]
  go_enter Tryz.func110, Tryz.ntmps110
  go_wp2_with (go_at_call 55; refine (find_minus _).mono ?_; rintro e w' ⟨rfl, rfl⟩)
  go_ret
  exact ⟨rfl, ((((Below.refl _ _).alloc (Nat.le_refl _) _).alloc (by simp) _).alloc (by simp; omega) _)⟩
theorem level_times (w : World) : Calls Tryz.prog 110 #[.string { data := #[42] }] w fun e w' => e = .returned (.int .i64 (levelV { data := #[42] })) ∧ Below w.heap.size w w' := by
  rw [levelV_times]
  go_enter Tryz.func110, Tryz.ntmps110
  go_wp2_with (go_at_call 55; refine (find_times _).mono ?_; rintro e w' ⟨rfl, rfl⟩)
  go_ret
  exact ⟨rfl, ((((Below.refl _ _).alloc (Nat.le_refl _) _).alloc (by simp) _).alloc (by simp; omega) _)⟩
theorem level_quotient (w : World) : Calls Tryz.prog 110 #[.string { data := #[47] }] w fun e w' => e = .returned (.int .i64 (levelV { data := #[47] })) ∧ Below w.heap.size w w' := by
  rw [levelV_quotient]
  go_enter Tryz.func110, Tryz.ntmps110
  go_wp2_with (go_at_call 55; refine (find_quotient _).mono ?_; rintro e w' ⟨rfl, rfl⟩)
  go_ret
  exact ⟨rfl, ((((Below.refl _ _).alloc (Nat.le_refl _) _).alloc (by simp) _).alloc (by simp; omega) _)⟩
theorem level_rest (w : World) : Calls Tryz.prog 110 #[.string { data := #[37] }] w fun e w' => e = .returned (.int .i64 (levelV { data := #[37] })) ∧ Below w.heap.size w w' := by
  rw [levelV_rest]
  go_enter Tryz.func110, Tryz.ntmps110
  go_wp2_with (go_at_call 55; refine (find_rest _).mono ?_; rintro e w' ⟨rfl, rfl⟩)
  go_ret
  exact ⟨rfl, ((((Below.refl _ _).alloc (Nat.le_refl _) _).alloc (by simp) _).alloc (by simp; omega) _)⟩
theorem level_any (s : ByteArray) (w : World) : Calls Tryz.prog 110 #[.string s] w fun e w' => e = .returned (.int .i64 (levelV s)) ∧ Below w.heap.size w w' := by
  by_cases h0 : s.data.toList = [124, 124]
  · obtain rfl := of_list h0
    exact level_either w
  by_cases h1 : s.data.toList = [38, 38]
  · obtain rfl := of_list h1
    exact level_both w
  by_cases h2 : s.data.toList = [124]
  · obtain rfl := of_list h2
    exact level_bitOr w
  by_cases h3 : s.data.toList = [94]
  · obtain rfl := of_list h3
    exact level_bitXor w
  by_cases h4 : s.data.toList = [38]
  · obtain rfl := of_list h4
    exact level_bitAnd w
  by_cases h5 : s.data.toList = [61, 61]
  · obtain rfl := of_list h5
    exact level_equal w
  by_cases h6 : s.data.toList = [33, 61]
  · obtain rfl := of_list h6
    exact level_unequal w
  by_cases h7 : s.data.toList = [60]
  · obtain rfl := of_list h7
    exact level_less w
  by_cases h8 : s.data.toList = [60, 61]
  · obtain rfl := of_list h8
    exact level_atMost w
  by_cases h9 : s.data.toList = [62]
  · obtain rfl := of_list h9
    exact level_more w
  by_cases h10 : s.data.toList = [62, 61]
  · obtain rfl := of_list h10
    exact level_atLeast w
  by_cases h11 : s.data.toList = [60, 60]
  · obtain rfl := of_list h11
    exact level_left w
  by_cases h12 : s.data.toList = [62, 62]
  · obtain rfl := of_list h12
    exact level_right w
  by_cases h13 : s.data.toList = [43]
  · obtain rfl := of_list h13
    exact level_plus w
  by_cases h14 : s.data.toList = [45]
  · obtain rfl := of_list h14
    exact level_minus w
  by_cases h15 : s.data.toList = [42]
  · obtain rfl := of_list h15
    exact level_times w
  by_cases h16 : s.data.toList = [47]
  · obtain rfl := of_list h16
    exact level_quotient w
  by_cases h17 : s.data.toList = [37]
  · obtain rfl := of_list h17
    exact level_rest w
  exact level_none s w h0 h1 h2 h3 h4 h5 h6 h7 h8 h9 h10 h11 h12 h13 h14 h15 h16 h17
end Go.Proofs.YtdaklmbifkehpaaGreatDoor
