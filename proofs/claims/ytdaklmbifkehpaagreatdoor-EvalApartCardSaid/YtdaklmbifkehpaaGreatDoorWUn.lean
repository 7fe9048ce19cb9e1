/- What the methods of a number answer, and the trap of each kind. What word.Unary answers of any text. -/
import Derived.Test.YtdaklmbifkehpaaGreatDoorWBits
import Derived.Test.YtdaklmbifkehpaaGreatDoorProg
import Derived.WalkSpells
import Derived.WalkLawsBesides
import Derived.Laws.EntriesVeiled
namespace Go.Proofs.YtdaklmbifkehpaaGreatDoor
open Go.RowKit

theorem truth_any (b : Bool) (w : World) : Calls Tryz.prog 126 #[.bool b] w fun e w' => e = .returned (.int .i64 (bit b)) ∧ w' = w := by
  cases b
  all_goals
    go_enter Tryz.func126, Tryz.ntmps126
    go_wp2
    go_ret
    exact ⟨rfl, rfl⟩
theorem t_noTrap (b : Int) (w : World) : Calls Tryz.prog 125 #[.int .i64 b] w fun e w' => e = .returned (.int .i64 0) ∧ w' = w := by
  go_enter Tryz.func125, Tryz.ntmps125
  go_wp2
  go_ret
  exact ⟨rfl, rfl⟩
theorem t_zeroTrap (b : Int) (w : World) : Calls Tryz.prog 128 #[.int .i64 b] w fun e w' => e = .returned (.int .i64 (if b = 0 then 1 else 0)) ∧ w' = w := by
  by_cases hb : b = 0
  · subst hb
    go_enter Tryz.func128, Tryz.ntmps128
    go_wp2
    go_ret
    exact ⟨rfl, rfl⟩
  · rw [if_neg hb]
    have hb' : (b == 0) = false := by simpa using hb
    clear hb
    go_enter Tryz.func128, Tryz.ntmps128
    go_wp2
    go_ret
    exact ⟨rfl, rfl⟩
theorem t_shiftTrap (b : Int) (w : World) : Calls Tryz.prog 127 #[.int .i64 b] w fun e w' => e = .returned (.int .i64 (if 0 ≤ b ∧ b ≤ 63 then 0 else 2)) ∧ w' = w := by
  by_cases hb : 0 ≤ b ∧ b ≤ 63
  · rw [if_pos hb]
    obtain ⟨h1, h2⟩ := hb
    go_enter Tryz.func127, Tryz.ntmps127
    go_wp2
    go_ret
    exact ⟨rfl, rfl⟩
  · rw [if_neg hb]
    by_cases h1 : b < 0
    · clear hb
      go_enter Tryz.func127, Tryz.ntmps127
      go_wp2
      go_ret
      exact ⟨rfl, rfl⟩
    · have h2 : 63 < b := by omega
      have h3 : 0 ≤ b := by omega
      clear hb h1
      go_enter Tryz.func127, Tryz.ntmps127
      go_wp2
      go_ret
      exact ⟨rfl, rfl⟩
theorem m_either (a b : Int) (w : World) : Calls Tryz.prog 79 #[.int .i64 a, .int .i64 b] w fun e w' => e = .returned (.int .i64 (bit (a != 0 || b != 0))) ∧ w' = w := by
  by_cases ha : a = 0
  · subst ha
    have e : (bit ((0:Int) != 0 || b != 0)) = (bit (b != 0)) := by simp [bit]
    rw [e]; clear e
    go_enter Tryz.func79, Tryz.ntmps79
    go_wp2_with (go_at_call 126; refine (truth_any _ _).mono ?_; rintro e w' ⟨rfl, rfl⟩)
    go_ret
    exact ⟨rfl, rfl⟩
  · have ha' : (a == 0) = false := by simpa using ha
    have ha2 : (a != 0) = true := by simpa using ha
    rw [ha2]
    clear ha
    rw [Bool.true_or]
    go_enter Tryz.func79, Tryz.ntmps79
    go_wp2_with (go_at_call 126; refine (truth_any _ _).mono ?_; rintro e w' ⟨rfl, rfl⟩)
    go_ret
    exact ⟨rfl, rfl⟩
theorem m_both (a b : Int) (w : World) : Calls Tryz.prog 80 #[.int .i64 a, .int .i64 b] w fun e w' => e = .returned (.int .i64 (bit (a != 0 && b != 0))) ∧ w' = w := by
  by_cases ha : a = 0
  · subst ha
    have e : (bit ((0:Int) != 0 && b != 0)) = (bit false) := by simp [bit]
    rw [e]; clear e
    go_enter Tryz.func80, Tryz.ntmps80
    go_wp2_with (go_at_call 126; refine (truth_any _ _).mono ?_; rintro e w' ⟨rfl, rfl⟩)
    go_ret
    exact ⟨rfl, rfl⟩
  · have ha' : (a == 0) = false := by simpa using ha
    have ha2 : (a != 0) = true := by simpa using ha
    rw [ha2]
    clear ha
    rw [Bool.true_and]
    go_enter Tryz.func80, Tryz.ntmps80
    go_wp2_with (go_at_call 126; refine (truth_any _ _).mono ?_; rintro e w' ⟨rfl, rfl⟩)
    go_ret
    exact ⟨rfl, rfl⟩
theorem m_bitOr (a b : Int) (w : World) : Calls Tryz.prog 81 #[.int .i64 a, .int .i64 b] w fun e w' => e = .returned (.int .i64 (bits .or .i64 a b)) ∧ w' = w := by
  go_enter Tryz.func81, Tryz.ntmps81
  go_wp2_with (go_at_call 126; refine (truth_any _ _).mono ?_; rintro e w' ⟨rfl, rfl⟩)
  go_ret
  exact ⟨rfl, rfl⟩
theorem m_bitXor (a b : Int) (w : World) : Calls Tryz.prog 82 #[.int .i64 a, .int .i64 b] w fun e w' => e = .returned (.int .i64 (bits .xor .i64 a b)) ∧ w' = w := by
  go_enter Tryz.func82, Tryz.ntmps82
  go_wp2_with (go_at_call 126; refine (truth_any _ _).mono ?_; rintro e w' ⟨rfl, rfl⟩)
  go_ret
  exact ⟨rfl, rfl⟩
theorem m_bitAnd (a b : Int) (w : World) : Calls Tryz.prog 83 #[.int .i64 a, .int .i64 b] w fun e w' => e = .returned (.int .i64 (bits .and .i64 a b)) ∧ w' = w := by
  go_enter Tryz.func83, Tryz.ntmps83
  go_wp2_with (go_at_call 126; refine (truth_any _ _).mono ?_; rintro e w' ⟨rfl, rfl⟩)
  go_ret
  exact ⟨rfl, rfl⟩
theorem m_equal (a b : Int) (w : World) : Calls Tryz.prog 84 #[.int .i64 a, .int .i64 b] w fun e w' => e = .returned (.int .i64 (bit (a == b))) ∧ w' = w := by
  go_enter Tryz.func84, Tryz.ntmps84
  go_wp2_with (go_at_call 126; refine (truth_any _ _).mono ?_; rintro e w' ⟨rfl, rfl⟩)
  go_ret
  exact ⟨rfl, rfl⟩
theorem m_unequal (a b : Int) (w : World) : Calls Tryz.prog 85 #[.int .i64 a, .int .i64 b] w fun e w' => e = .returned (.int .i64 (bit (a != b))) ∧ w' = w := by
  go_enter Tryz.func85, Tryz.ntmps85
  go_wp2_with (go_at_call 126; refine (truth_any _ _).mono ?_; rintro e w' ⟨rfl, rfl⟩)
  go_ret
  exact ⟨rfl, rfl⟩
theorem m_less (a b : Int) (w : World) : Calls Tryz.prog 86 #[.int .i64 a, .int .i64 b] w fun e w' => e = .returned (.int .i64 (bit (decide (a < b)))) ∧ w' = w := by
  go_enter Tryz.func86, Tryz.ntmps86
  go_wp2_with (go_at_call 126; refine (truth_any _ _).mono ?_; rintro e w' ⟨rfl, rfl⟩)
  go_ret
  exact ⟨rfl, rfl⟩
theorem m_atMost (a b : Int) (w : World) : Calls Tryz.prog 87 #[.int .i64 a, .int .i64 b] w fun e w' => e = .returned (.int .i64 (bit (decide (a ≤ b)))) ∧ w' = w := by
  go_enter Tryz.func87, Tryz.ntmps87
  go_wp2_with (go_at_call 126; refine (truth_any _ _).mono ?_; rintro e w' ⟨rfl, rfl⟩)
  go_ret
  exact ⟨rfl, rfl⟩
theorem m_more (a b : Int) (w : World) : Calls Tryz.prog 88 #[.int .i64 a, .int .i64 b] w fun e w' => e = .returned (.int .i64 (bit (decide (b < a)))) ∧ w' = w := by
  go_enter Tryz.func88, Tryz.ntmps88
  go_wp2_with (go_at_call 126; refine (truth_any _ _).mono ?_; rintro e w' ⟨rfl, rfl⟩)
  go_ret
  exact ⟨rfl, rfl⟩
theorem m_atLeast (a b : Int) (w : World) : Calls Tryz.prog 89 #[.int .i64 a, .int .i64 b] w fun e w' => e = .returned (.int .i64 (bit (decide (b ≤ a)))) ∧ w' = w := by
  go_enter Tryz.func89, Tryz.ntmps89
  go_wp2_with (go_at_call 126; refine (truth_any _ _).mono ?_; rintro e w' ⟨rfl, rfl⟩)
  go_ret
  exact ⟨rfl, rfl⟩
theorem m_left (a b : Int) (h1 : 0 ≤ b) (h2 : b ≤ 63) (w : World) : Calls Tryz.prog 91 #[.int .i64 a, .int .i64 b] w fun e w' => e = .returned (.int .i64 (wrap64 (a * 2 ^ b.toNat))) ∧ w' = w := by
  go_enter Tryz.func91, Tryz.ntmps91
  go_wp2_with (go_at_call 126; refine (truth_any _ _).mono ?_; rintro e w' ⟨rfl, rfl⟩)
  go_ret
  exact ⟨rfl, rfl⟩
theorem m_right (a b : Int) (h1 : 0 ≤ b) (h2 : b ≤ 63) (w : World) : Calls Tryz.prog 92 #[.int .i64 a, .int .i64 b] w fun e w' => e = .returned (.int .i64 (a / 2 ^ b.toNat)) ∧ w' = w := by
  go_enter Tryz.func92, Tryz.ntmps92
  go_wp2_with (go_at_call 126; refine (truth_any _ _).mono ?_; rintro e w' ⟨rfl, rfl⟩)
  go_ret
  exact ⟨rfl, rfl⟩
theorem m_plus (a b : Int) (w : World) : Calls Tryz.prog 93 #[.int .i64 a, .int .i64 b] w fun e w' => e = .returned (.int .i64 (wrap64 (a + b))) ∧ w' = w := by
  go_enter Tryz.func93, Tryz.ntmps93
  go_wp2_with (go_at_call 126; refine (truth_any _ _).mono ?_; rintro e w' ⟨rfl, rfl⟩)
  go_ret
  exact ⟨rfl, rfl⟩
theorem m_minus (a b : Int) (w : World) : Calls Tryz.prog 94 #[.int .i64 a, .int .i64 b] w fun e w' => e = .returned (.int .i64 (wrap64 (a - b))) ∧ w' = w := by
  go_enter Tryz.func94, Tryz.ntmps94
  go_wp2_with (go_at_call 126; refine (truth_any _ _).mono ?_; rintro e w' ⟨rfl, rfl⟩)
  go_ret
  exact ⟨rfl, rfl⟩
theorem m_times (a b : Int) (w : World) : Calls Tryz.prog 95 #[.int .i64 a, .int .i64 b] w fun e w' => e = .returned (.int .i64 (wrap64 (a * b))) ∧ w' = w := by
  go_enter Tryz.func95, Tryz.ntmps95
  go_wp2_with (go_at_call 126; refine (truth_any _ _).mono ?_; rintro e w' ⟨rfl, rfl⟩)
  go_ret
  exact ⟨rfl, rfl⟩
theorem m_quotient (a b : Int) (hb : ¬ b = 0) (w : World) : Calls Tryz.prog 97 #[.int .i64 a, .int .i64 b] w fun e w' => e = .returned (.int .i64 (wrap64 (a.tdiv b))) ∧ w' = w := by
  go_enter Tryz.func97, Tryz.ntmps97
  go_wp2_with (go_at_call 126; refine (truth_any _ _).mono ?_; rintro e w' ⟨rfl, rfl⟩)
  go_ret
  exact ⟨rfl, rfl⟩
theorem m_rest (a b : Int) (hb : ¬ b = 0) (w : World) : Calls Tryz.prog 98 #[.int .i64 a, .int .i64 b] w fun e w' => e = .returned (.int .i64 (a.tmod b)) ∧ w' = w := by
  go_enter Tryz.func98, Tryz.ntmps98
  go_wp2_with (go_at_call 126; refine (truth_any _ _).mono ?_; rintro e w' ⟨rfl, rfl⟩)
  go_ret
  exact ⟨rfl, rfl⟩
end Go.Proofs.YtdaklmbifkehpaaGreatDoor

namespace Go.Proofs.YtdaklmbifkehpaaGreatDoor
open Go.RowKit

theorem m_negative (a : Int) (_h : -9223372036854775808 ≤ a ∧ a ≤ 9223372036854775807) (w : World) : Calls Tryz.prog 99 #[.int .i64 a] w fun e w' => e = .returned (.int .i64 (wrap64 (-a))) ∧ w' = w := by
  clear _h
  go_enter Tryz.func99, Tryz.ntmps99
  go_wp2_with (go_at_call 126; refine (truth_any _ _).mono ?_; rintro e w' ⟨rfl, rfl⟩)
  go_ret
  exact ⟨rfl, rfl⟩
theorem findU_negative (w : World) :
    Calls Tryz.prog 56 #[.string { data := #[45] }] w fun e w' => e = .returned (.tuple #[.agg #[.func (.func 99) #[] #[]], .bool true]) ∧ w' = w.alloc (.cells #[.func (.func 99) #[] #[]] 125) := by
  go_enter Tryz.func56, Tryz.ntmps56
  go_wp2
  exact bodyPost_ret (v := .tuple #[.agg #[.func (.func 99) #[] #[]], .bool true]) (by simp [results, Tryz.results56, go_sem]) rfl ⟨rfl, rfl⟩
theorem un_negative (a : Int) (h : -9223372036854775808 ≤ a ∧ a ≤ 9223372036854775807) (w : World) :
    Calls Tryz.prog 35 #[.string { data := #[45] }, .int .i64 a] w fun e w' => e = .returned (.tuple #[.int .i64 (unV { data := #[45] } a), .bool (unB { data := #[45] })]) ∧ Below w.heap.size w w' := by
  rw [show unV { data := #[45] } a = wrap64 (-a) from rfl, show unB { data := #[45] } = true from rfl]
  have hm : ∀ W, Calls Tryz.prog 99 #[.int .i64 a] W fun e w' => e = .returned (.int .i64 (wrap64 (-a))) ∧ w' = W := fun W => m_negative a h W
  clear h
  go_enter Tryz.func35, Tryz.ntmps35
  go_wp2_with (first | (go_at_call 56; refine (findU_negative _).mono ?_; rintro e w' ⟨rfl, rfl⟩) | (go_at_call 99; refine (hm _).mono ?_; rintro e w' ⟨rfl, rfl⟩))
  go_ret2
  exact ⟨rfl, (((Below.refl _ _).alloc (Nat.le_refl _) _).alloc (by simp) _)⟩
theorem m_turned (a : Int) (h : -9223372036854775808 ≤ a ∧ a ≤ 9223372036854775807) (w : World) : Calls Tryz.prog 100 #[.int .i64 a] w fun e w' => e = .returned (.int .i64 (-a - 1)) ∧ w' = w := by
  rw [← bits_not a h]
  go_enter Tryz.func100, Tryz.ntmps100
  go_wp2_with (go_at_call 126; refine (truth_any _ _).mono ?_; rintro e w' ⟨rfl, rfl⟩)
  go_ret
  exact ⟨rfl, rfl⟩
theorem findU_turned (w : World) :
    Calls Tryz.prog 56 #[.string { data := #[126] }] w fun e w' => e = .returned (.tuple #[.agg #[.func (.func 100) #[] #[]], .bool true]) ∧ w' = w.alloc (.cells #[.func (.func 100) #[] #[]] 125) := by
  go_enter Tryz.func56, Tryz.ntmps56
  go_wp2
  exact bodyPost_ret (v := .tuple #[.agg #[.func (.func 100) #[] #[]], .bool true]) (by simp [results, Tryz.results56, go_sem]) rfl ⟨rfl, rfl⟩
theorem un_turned (a : Int) (h : -9223372036854775808 ≤ a ∧ a ≤ 9223372036854775807) (w : World) :
    Calls Tryz.prog 35 #[.string { data := #[126] }, .int .i64 a] w fun e w' => e = .returned (.tuple #[.int .i64 (unV { data := #[126] } a), .bool (unB { data := #[126] })]) ∧ Below w.heap.size w w' := by
  rw [show unV { data := #[126] } a = -a - 1 from rfl, show unB { data := #[126] } = true from rfl]
  have hm : ∀ W, Calls Tryz.prog 100 #[.int .i64 a] W fun e w' => e = .returned (.int .i64 (-a - 1)) ∧ w' = W := fun W => m_turned a h W
  clear h
  go_enter Tryz.func35, Tryz.ntmps35
  go_wp2_with (first | (go_at_call 56; refine (findU_turned _).mono ?_; rintro e w' ⟨rfl, rfl⟩) | (go_at_call 100; refine (hm _).mono ?_; rintro e w' ⟨rfl, rfl⟩))
  go_ret2
  exact ⟨rfl, (((Below.refl _ _).alloc (Nat.le_refl _) _).alloc (by simp) _)⟩
theorem m_not (a : Int) (_h : -9223372036854775808 ≤ a ∧ a ≤ 9223372036854775807) (w : World) : Calls Tryz.prog 101 #[.int .i64 a] w fun e w' => e = .returned (.int .i64 (bit (a == 0))) ∧ w' = w := by
  clear _h
  go_enter Tryz.func101, Tryz.ntmps101
  go_wp2_with (go_at_call 126; refine (truth_any _ _).mono ?_; rintro e w' ⟨rfl, rfl⟩)
  go_ret
  exact ⟨rfl, rfl⟩
theorem findU_not (w : World) :
    Calls Tryz.prog 56 #[.string { data := #[33] }] w fun e w' => e = .returned (.tuple #[.agg #[.func (.func 101) #[] #[]], .bool true]) ∧ w' = w.alloc (.cells #[.func (.func 101) #[] #[]] 125) := by
  go_enter Tryz.func56, Tryz.ntmps56
  go_wp2
  exact bodyPost_ret (v := .tuple #[.agg #[.func (.func 101) #[] #[]], .bool true]) (by simp [results, Tryz.results56, go_sem]) rfl ⟨rfl, rfl⟩
theorem un_not (a : Int) (h : -9223372036854775808 ≤ a ∧ a ≤ 9223372036854775807) (w : World) :
    Calls Tryz.prog 35 #[.string { data := #[33] }, .int .i64 a] w fun e w' => e = .returned (.tuple #[.int .i64 (unV { data := #[33] } a), .bool (unB { data := #[33] })]) ∧ Below w.heap.size w w' := by
  rw [show unV { data := #[33] } a = bit (a == 0) from rfl, show unB { data := #[33] } = true from rfl]
  have hm : ∀ W, Calls Tryz.prog 101 #[.int .i64 a] W fun e w' => e = .returned (.int .i64 (bit (a == 0))) ∧ w' = W := fun W => m_not a h W
  clear h
  go_enter Tryz.func35, Tryz.ntmps35
  go_wp2_with (first | (go_at_call 56; refine (findU_not _).mono ?_; rintro e w' ⟨rfl, rfl⟩) | (go_at_call 101; refine (hm _).mono ?_; rintro e w' ⟨rfl, rfl⟩))
  go_ret2
  exact ⟨rfl, (((Below.refl _ _).alloc (Nat.le_refl _) _).alloc (by simp) _)⟩
theorem un_none (s : ByteArray) (a : Int) (w : World)
    (h0 : ¬ s.data.toList = [45])
    (h1 : ¬ s.data.toList = [126])
    (h2 : ¬ s.data.toList = [33])
    : Calls Tryz.prog 35 #[.string s, .int .i64 a] w fun e w' => e = .returned (.tuple #[.int .i64 (unV s a), .bool (unB s)]) ∧ Below w.heap.size w w' := by
  have hv : unV s a = 0 := by unfold unV; simp only [if_neg h0, if_neg h1, if_neg h2]
  have ht : unB s = false := by unfold unB; simp [h0, h1, h2]
  rw [hv, ht]
  have g0 := not_list h0
  have g1 := not_list h1
  have g2 := not_list h2
  clear h0 h1 h2 hv ht
  have hf : ∀ W, Calls Tryz.prog 56 #[.string s] W fun e w' => e = .returned (.tuple #[.agg #[.nilFunc], .bool false]) ∧ w' = W.alloc (.cells #[.nilFunc] 125) := by
    intro W
    go_enter Tryz.func56, Tryz.ntmps56
    go_wp2
    exact bodyPost_ret (v := .tuple #[.agg #[.nilFunc], .bool false]) (by simp [results, Tryz.results56, go_sem]) rfl ⟨rfl, rfl⟩
  go_enter Tryz.func35, Tryz.ntmps35
  go_wp2_with (go_at_call 56; refine (hf _).mono ?_; rintro e w' ⟨rfl, rfl⟩)
  go_ret2
  exact ⟨rfl, (((Below.refl _ _).alloc (Nat.le_refl _) _).alloc (by simp) _)⟩
theorem un_any (s : ByteArray) (a : Int) (h : -9223372036854775808 ≤ a ∧ a ≤ 9223372036854775807) (w : World) :
    Calls Tryz.prog 35 #[.string s, .int .i64 a] w fun e w' => e = .returned (.tuple #[.int .i64 (unV s a), .bool (unB s)]) ∧ Below w.heap.size w w' := by
  by_cases h0 : s.data.toList = [45]
  · obtain rfl := of_list h0
    exact un_negative a h w
  by_cases h1 : s.data.toList = [126]
  · obtain rfl := of_list h1
    exact un_turned a h w
  by_cases h2 : s.data.toList = [33]
  · obtain rfl := of_list h2
    exact un_not a h w
  exact un_none s a w h0 h1 h2
end Go.Proofs.YtdaklmbifkehpaaGreatDoor
