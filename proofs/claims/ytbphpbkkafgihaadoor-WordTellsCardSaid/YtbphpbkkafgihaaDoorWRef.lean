/- What the document's own Binary and Unary (billhookref01) answer of any text: the same numbers as word's. -/
import Derived.Test.YtbphpbkkafgihaaDoorWOps
namespace Go.Proofs.YtbphpbkkafgihaaDoor
open Go.RowKit

theorem rbit_any (b : Bool) (w : World) : Calls Tryd.prog 26 #[.bool b] w fun e w' => e = .returned (.int .i64 (bit b)) ∧ w' = w := by
  cases b
  all_goals
    go_enter Tryd.func26, Tryd.ntmps26
    go_wp2
    go_ret
    exact ⟨rfl, rfl⟩
set_option maxRecDepth 100000 in
theorem rbin_either (a b : Int) (w : World) :
    Calls Tryd.prog 15 #[.string { data := #[124, 124] }, .int .i64 a, .int .i64 b] w fun e w' => e = .returned (.tuple #[.int .i64 (binV { data := #[124, 124] } a b), .int .i64 (binT { data := #[124, 124] } b)]) ∧ w' = w := by
  rw [binV_either, show binT { data := #[124, 124] } b = 0 from rfl]
  by_cases ha : a = 0
  · subst ha
    rw [show (bit ((0 : Int) != 0 || b != 0)) = (bit (b != 0)) by simp [bit]]
    go_enter Tryd.func15, Tryd.ntmps15
    go_wp2_with (go_at_call 26; refine (rbit_any _ _).mono ?_; rintro e w' ⟨rfl, rfl⟩)
    go_ret2
    exact ⟨rfl, rfl⟩
  · have ha' : (a == 0) = false := by simpa using ha
    have ha2 : (a != 0) = true := by simpa using ha
    rw [ha2]
    clear ha
    rw [Bool.true_or]
    go_enter Tryd.func15, Tryd.ntmps15
    go_wp2_with (go_at_call 26; refine (rbit_any _ _).mono ?_; rintro e w' ⟨rfl, rfl⟩)
    go_ret2
    exact ⟨rfl, rfl⟩
set_option maxRecDepth 100000 in
theorem rbin_both (a b : Int) (w : World) :
    Calls Tryd.prog 15 #[.string { data := #[38, 38] }, .int .i64 a, .int .i64 b] w fun e w' => e = .returned (.tuple #[.int .i64 (binV { data := #[38, 38] } a b), .int .i64 (binT { data := #[38, 38] } b)]) ∧ w' = w := by
  rw [binV_both, show binT { data := #[38, 38] } b = 0 from rfl]
  by_cases ha : a = 0
  · subst ha
    rw [show (bit ((0 : Int) != 0 && b != 0)) = (bit false) by simp [bit]]
    go_enter Tryd.func15, Tryd.ntmps15
    go_wp2_with (go_at_call 26; refine (rbit_any _ _).mono ?_; rintro e w' ⟨rfl, rfl⟩)
    go_ret2
    exact ⟨rfl, rfl⟩
  · have ha' : (a == 0) = false := by simpa using ha
    have ha2 : (a != 0) = true := by simpa using ha
    rw [ha2]
    clear ha
    rw [Bool.true_and]
    go_enter Tryd.func15, Tryd.ntmps15
    go_wp2_with (go_at_call 26; refine (rbit_any _ _).mono ?_; rintro e w' ⟨rfl, rfl⟩)
    go_ret2
    exact ⟨rfl, rfl⟩
set_option maxRecDepth 100000 in
theorem rbin_bitOr (a b : Int) (w : World) :
    Calls Tryd.prog 15 #[.string { data := #[124] }, .int .i64 a, .int .i64 b] w fun e w' => e = .returned (.tuple #[.int .i64 (binV { data := #[124] } a b), .int .i64 (binT { data := #[124] } b)]) ∧ w' = w := by
  rw [binV_bitOr, show binT { data := #[124] } b = 0 from rfl]
  go_enter Tryd.func15, Tryd.ntmps15
  go_wp2_with (go_at_call 26; refine (rbit_any _ _).mono ?_; rintro e w' ⟨rfl, rfl⟩)
  go_ret2
  exact ⟨rfl, rfl⟩
set_option maxRecDepth 100000 in
theorem rbin_bitXor (a b : Int) (w : World) :
    Calls Tryd.prog 15 #[.string { data := #[94] }, .int .i64 a, .int .i64 b] w fun e w' => e = .returned (.tuple #[.int .i64 (binV { data := #[94] } a b), .int .i64 (binT { data := #[94] } b)]) ∧ w' = w := by
  rw [binV_bitXor, show binT { data := #[94] } b = 0 from rfl]
  go_enter Tryd.func15, Tryd.ntmps15
  go_wp2_with (go_at_call 26; refine (rbit_any _ _).mono ?_; rintro e w' ⟨rfl, rfl⟩)
  go_ret2
  exact ⟨rfl, rfl⟩
set_option maxRecDepth 100000 in
theorem rbin_bitAnd (a b : Int) (w : World) :
    Calls Tryd.prog 15 #[.string { data := #[38] }, .int .i64 a, .int .i64 b] w fun e w' => e = .returned (.tuple #[.int .i64 (binV { data := #[38] } a b), .int .i64 (binT { data := #[38] } b)]) ∧ w' = w := by
  rw [binV_bitAnd, show binT { data := #[38] } b = 0 from rfl]
  go_enter Tryd.func15, Tryd.ntmps15
  go_wp2_with (go_at_call 26; refine (rbit_any _ _).mono ?_; rintro e w' ⟨rfl, rfl⟩)
  go_ret2
  exact ⟨rfl, rfl⟩
set_option maxRecDepth 100000 in
theorem rbin_equal (a b : Int) (w : World) :
    Calls Tryd.prog 15 #[.string { data := #[61, 61] }, .int .i64 a, .int .i64 b] w fun e w' => e = .returned (.tuple #[.int .i64 (binV { data := #[61, 61] } a b), .int .i64 (binT { data := #[61, 61] } b)]) ∧ w' = w := by
  rw [binV_equal, show binT { data := #[61, 61] } b = 0 from rfl]
  go_enter Tryd.func15, Tryd.ntmps15
  go_wp2_with (go_at_call 26; refine (rbit_any _ _).mono ?_; rintro e w' ⟨rfl, rfl⟩)
  go_ret2
  exact ⟨rfl, rfl⟩
set_option maxRecDepth 100000 in
theorem rbin_unequal (a b : Int) (w : World) :
    Calls Tryd.prog 15 #[.string { data := #[33, 61] }, .int .i64 a, .int .i64 b] w fun e w' => e = .returned (.tuple #[.int .i64 (binV { data := #[33, 61] } a b), .int .i64 (binT { data := #[33, 61] } b)]) ∧ w' = w := by
  rw [binV_unequal, show binT { data := #[33, 61] } b = 0 from rfl]
  go_enter Tryd.func15, Tryd.ntmps15
  go_wp2_with (go_at_call 26; refine (rbit_any _ _).mono ?_; rintro e w' ⟨rfl, rfl⟩)
  go_ret2
  exact ⟨rfl, rfl⟩
set_option maxRecDepth 100000 in
theorem rbin_less (a b : Int) (w : World) :
    Calls Tryd.prog 15 #[.string { data := #[60] }, .int .i64 a, .int .i64 b] w fun e w' => e = .returned (.tuple #[.int .i64 (binV { data := #[60] } a b), .int .i64 (binT { data := #[60] } b)]) ∧ w' = w := by
  rw [binV_less, show binT { data := #[60] } b = 0 from rfl]
  go_enter Tryd.func15, Tryd.ntmps15
  go_wp2_with (go_at_call 26; refine (rbit_any _ _).mono ?_; rintro e w' ⟨rfl, rfl⟩)
  go_ret2
  exact ⟨rfl, rfl⟩
set_option maxRecDepth 100000 in
theorem rbin_atMost (a b : Int) (w : World) :
    Calls Tryd.prog 15 #[.string { data := #[60, 61] }, .int .i64 a, .int .i64 b] w fun e w' => e = .returned (.tuple #[.int .i64 (binV { data := #[60, 61] } a b), .int .i64 (binT { data := #[60, 61] } b)]) ∧ w' = w := by
  rw [binV_atMost, show binT { data := #[60, 61] } b = 0 from rfl]
  go_enter Tryd.func15, Tryd.ntmps15
  go_wp2_with (go_at_call 26; refine (rbit_any _ _).mono ?_; rintro e w' ⟨rfl, rfl⟩)
  go_ret2
  exact ⟨rfl, rfl⟩
set_option maxRecDepth 100000 in
theorem rbin_more (a b : Int) (w : World) :
    Calls Tryd.prog 15 #[.string { data := #[62] }, .int .i64 a, .int .i64 b] w fun e w' => e = .returned (.tuple #[.int .i64 (binV { data := #[62] } a b), .int .i64 (binT { data := #[62] } b)]) ∧ w' = w := by
  rw [binV_more, show binT { data := #[62] } b = 0 from rfl]
  go_enter Tryd.func15, Tryd.ntmps15
  go_wp2_with (go_at_call 26; refine (rbit_any _ _).mono ?_; rintro e w' ⟨rfl, rfl⟩)
  go_ret2
  exact ⟨rfl, rfl⟩
set_option maxRecDepth 100000 in
theorem rbin_atLeast (a b : Int) (w : World) :
    Calls Tryd.prog 15 #[.string { data := #[62, 61] }, .int .i64 a, .int .i64 b] w fun e w' => e = .returned (.tuple #[.int .i64 (binV { data := #[62, 61] } a b), .int .i64 (binT { data := #[62, 61] } b)]) ∧ w' = w := by
  rw [binV_atLeast, show binT { data := #[62, 61] } b = 0 from rfl]
  go_enter Tryd.func15, Tryd.ntmps15
  go_wp2_with (go_at_call 26; refine (rbit_any _ _).mono ?_; rintro e w' ⟨rfl, rfl⟩)
  go_ret2
  exact ⟨rfl, rfl⟩
set_option maxRecDepth 100000 in
theorem rbin_left (a b : Int) (w : World) :
    Calls Tryd.prog 15 #[.string { data := #[60, 60] }, .int .i64 a, .int .i64 b] w fun e w' => e = .returned (.tuple #[.int .i64 (binV { data := #[60, 60] } a b), .int .i64 (binT { data := #[60, 60] } b)]) ∧ w' = w := by
  rw [binV_left, binT_left]
  by_cases hb : 0 ≤ b ∧ b ≤ 63
  · rw [if_pos hb, if_pos hb]
    obtain ⟨h1, h2⟩ := hb
    go_enter Tryd.func15, Tryd.ntmps15
    go_wp2_with (go_at_call 26; refine (rbit_any _ _).mono ?_; rintro e w' ⟨rfl, rfl⟩)
    go_ret2
    exact ⟨rfl, rfl⟩
  · rw [if_neg hb, if_neg hb]
    have hc : b < 0 ∨ (¬ b < 0 ∧ 63 < b) := by omega
    clear hb
    rcases hc with h1 | ⟨h1, h2⟩
    all_goals
      go_enter Tryd.func15, Tryd.ntmps15
      go_wp2_with (go_at_call 26; refine (rbit_any _ _).mono ?_; rintro e w' ⟨rfl, rfl⟩)
      go_ret2
      exact ⟨rfl, rfl⟩
set_option maxRecDepth 100000 in
theorem rbin_right (a b : Int) (w : World) :
    Calls Tryd.prog 15 #[.string { data := #[62, 62] }, .int .i64 a, .int .i64 b] w fun e w' => e = .returned (.tuple #[.int .i64 (binV { data := #[62, 62] } a b), .int .i64 (binT { data := #[62, 62] } b)]) ∧ w' = w := by
  rw [binV_right, binT_right]
  by_cases hb : 0 ≤ b ∧ b ≤ 63
  · rw [if_pos hb, if_pos hb]
    obtain ⟨h1, h2⟩ := hb
    go_enter Tryd.func15, Tryd.ntmps15
    go_wp2_with (go_at_call 26; refine (rbit_any _ _).mono ?_; rintro e w' ⟨rfl, rfl⟩)
    go_ret2
    exact ⟨rfl, rfl⟩
  · rw [if_neg hb, if_neg hb]
    have hc : b < 0 ∨ (¬ b < 0 ∧ 63 < b) := by omega
    clear hb
    rcases hc with h1 | ⟨h1, h2⟩
    all_goals
      go_enter Tryd.func15, Tryd.ntmps15
      go_wp2_with (go_at_call 26; refine (rbit_any _ _).mono ?_; rintro e w' ⟨rfl, rfl⟩)
      go_ret2
      exact ⟨rfl, rfl⟩
set_option maxRecDepth 100000 in
theorem rbin_plus (a b : Int) (w : World) :
    Calls Tryd.prog 15 #[.string { data := #[43] }, .int .i64 a, .int .i64 b] w fun e w' => e = .returned (.tuple #[.int .i64 (binV { data := #[43] } a b), .int .i64 (binT { data := #[43] } b)]) ∧ w' = w := by
  rw [binV_plus, show binT { data := #[43] } b = 0 from rfl]
  go_enter Tryd.func15, Tryd.ntmps15
  go_wp2_with (go_at_call 26; refine (rbit_any _ _).mono ?_; rintro e w' ⟨rfl, rfl⟩)
  go_ret2
  exact ⟨rfl, rfl⟩
set_option maxRecDepth 100000 in
theorem rbin_minus (a b : Int) (w : World) :
    Calls Tryd.prog 15 #[.string { data := #[45] }, .int .i64 a, .int .i64 b] w fun e w' => e = .returned (.tuple #[.int .i64 (binV { data := #[45] } a b), .int .i64 (binT { data := #[45] } b)]) ∧ w' = w := by
  rw [binV_minus, show binT { data := #[45] } b = 0 from rfl]
  go_enter Tryd.func15, Tryd.ntmps15
  go_wp2_with (go_at_call 26; refine (rbit_any _ _).mono ?_; rintro e w' ⟨rfl, rfl⟩)
  go_ret2
  exact ⟨rfl, rfl⟩
set_option maxRecDepth 100000 in
theorem rbin_times (a b : Int) (w : World) :
    Calls Tryd.prog 15 #[.string { data := #[42] }, .int .i64 a, .int .i64 b] w fun e w' => e = .returned (.tuple #[.int .i64 (binV { data := #[42] } a b), .int .i64 (binT { data := #[42] } b)]) ∧ w' = w := by
  rw [binV_times, show binT { data := #[42] } b = 0 from rfl]
  go_enter Tryd.func15, Tryd.ntmps15
  go_wp2_with (go_at_call 26; refine (rbit_any _ _).mono ?_; rintro e w' ⟨rfl, rfl⟩)
  go_ret2
  exact ⟨rfl, rfl⟩
set_option maxRecDepth 100000 in
theorem rbin_quotient (a b : Int) (w : World) :
    Calls Tryd.prog 15 #[.string { data := #[47] }, .int .i64 a, .int .i64 b] w fun e w' => e = .returned (.tuple #[.int .i64 (binV { data := #[47] } a b), .int .i64 (binT { data := #[47] } b)]) ∧ w' = w := by
  rw [binV_quotient, binT_quotient]
  by_cases hb : b = 0
  · subst hb
    rw [if_pos rfl, if_pos rfl]
    go_enter Tryd.func15, Tryd.ntmps15
    go_wp2_with (go_at_call 26; refine (rbit_any _ _).mono ?_; rintro e w' ⟨rfl, rfl⟩)
    go_ret2
    exact ⟨rfl, rfl⟩
  · rw [if_neg hb, if_neg hb]
    have z : (b == 0) = false := by simpa using hb
    by_cases h1 : b = -1
    · subst h1
      rw [Int.tdiv_neg, Int.tdiv_one]
      clear z hb
      go_enter Tryd.func15, Tryd.ntmps15
      go_wp2_with (go_at_call 26; refine (rbit_any _ _).mono ?_; rintro e w' ⟨rfl, rfl⟩)
      go_ret2
      exact ⟨rfl, rfl⟩
    · have z1 : (b == -1) = false := by simpa using h1
      clear h1
      go_enter Tryd.func15, Tryd.ntmps15
      go_wp2_with (go_at_call 26; refine (rbit_any _ _).mono ?_; rintro e w' ⟨rfl, rfl⟩)
      go_ret2
      exact ⟨rfl, rfl⟩
set_option maxRecDepth 100000 in
theorem rbin_rest (a b : Int) (w : World) :
    Calls Tryd.prog 15 #[.string { data := #[37] }, .int .i64 a, .int .i64 b] w fun e w' => e = .returned (.tuple #[.int .i64 (binV { data := #[37] } a b), .int .i64 (binT { data := #[37] } b)]) ∧ w' = w := by
  rw [binV_rest, binT_rest]
  by_cases hb : b = 0
  · subst hb
    rw [if_pos rfl, if_pos rfl]
    go_enter Tryd.func15, Tryd.ntmps15
    go_wp2_with (go_at_call 26; refine (rbit_any _ _).mono ?_; rintro e w' ⟨rfl, rfl⟩)
    go_ret2
    exact ⟨rfl, rfl⟩
  · rw [if_neg hb, if_neg hb]
    have z : (b == 0) = false := by simpa using hb
    by_cases h1 : b = -1
    · subst h1
      rw [show a.tmod (-1) = 0 by simp]
      clear z hb
      go_enter Tryd.func15, Tryd.ntmps15
      go_wp2_with (go_at_call 26; refine (rbit_any _ _).mono ?_; rintro e w' ⟨rfl, rfl⟩)
      go_ret2
      exact ⟨rfl, rfl⟩
    · have z1 : (b == -1) = false := by simpa using h1
      clear h1
      go_enter Tryd.func15, Tryd.ntmps15
      go_wp2_with (go_at_call 26; refine (rbit_any _ _).mono ?_; rintro e w' ⟨rfl, rfl⟩)
      go_ret2
      exact ⟨rfl, rfl⟩
set_option maxRecDepth 100000 in
theorem rbin_none (s : ByteArray) (a b : Int) (w : World)
    (h0 : ¬ s.data.toList = [124, 124])
    (h1 : ¬ s.data.toList = [38, 38])
    (h2 : ¬ s.data.toList = [124])
    (h3 : ¬ s.data.toList = [94])
    (h4 : ¬ s.data.toList = [38])
    (h5 : ¬ s.data.toList = [61, 61])
    (h6 : ¬ s.data.toList = [33, 61])
    (h7 : ¬ s.data.toList = [60])
    (h8 : ¬ s.data.toList = [60, 61])
    (h9 : ¬ s.data.toList = [62])
    (h10 : ¬ s.data.toList = [62, 61])
    (h11 : ¬ s.data.toList = [60, 60])
    (h12 : ¬ s.data.toList = [62, 62])
    (h13 : ¬ s.data.toList = [43])
    (h14 : ¬ s.data.toList = [45])
    (h15 : ¬ s.data.toList = [42])
    (h16 : ¬ s.data.toList = [47])
    (h17 : ¬ s.data.toList = [37])
    : Calls Tryd.prog 15 #[.string s, .int .i64 a, .int .i64 b] w fun e w' => e = .returned (.tuple #[.int .i64 (binV s a b), .int .i64 (binT s b)]) ∧ w' = w := by
  have hv : binV s a b = 0 := by unfold binV; simp only [if_neg h0, if_neg h1, if_neg h2, if_neg h3, if_neg h4, if_neg h5, if_neg h6, if_neg h7, if_neg h8, if_neg h9, if_neg h10, if_neg h11, if_neg h12, if_neg h13, if_neg h14, if_neg h15, if_neg h16, if_neg h17]
  have ht : binT s b = 0 := by unfold binT; simp only [if_neg h11, if_neg h12, if_neg h16, if_neg h17]
  rw [hv, ht]
  have g0 := not_list h0
  have g1 := not_list h1
  have g2 := not_list h2
  have g3 := not_list h3
  have g4 := not_list h4
  have g5 := not_list h5
  have g6 := not_list h6
  have g7 := not_list h7
  have g8 := not_list h8
  have g9 := not_list h9
  have g10 := not_list h10
  have g11 := not_list h11
  have g12 := not_list h12
  have g13 := not_list h13
  have g14 := not_list h14
  have g15 := not_list h15
  have g16 := not_list h16
  have g17 := not_list h17
  clear h0 h1 h2 h3 h4 h5 h6 h7 h8 h9 h10 h11 h12 h13 h14 h15 h16 h17 hv ht
  go_enter Tryd.func15, Tryd.ntmps15
  go_wp2_with (go_at_call 26; refine (rbit_any _ _).mono ?_; rintro e w' ⟨rfl, rfl⟩)
  go_ret2
  exact ⟨rfl, rfl⟩

theorem rbin_any (s : ByteArray) (a b : Int) (w : World) :
    Calls Tryd.prog 15 #[.string s, .int .i64 a, .int .i64 b] w fun e w' => e = .returned (.tuple #[.int .i64 (binV s a b), .int .i64 (binT s b)]) ∧ w' = w := by
  by_cases h0 : s.data.toList = [124, 124]
  · obtain rfl := of_list h0
    exact rbin_either a b w
  by_cases h1 : s.data.toList = [38, 38]
  · obtain rfl := of_list h1
    exact rbin_both a b w
  by_cases h2 : s.data.toList = [124]
  · obtain rfl := of_list h2
    exact rbin_bitOr a b w
  by_cases h3 : s.data.toList = [94]
  · obtain rfl := of_list h3
    exact rbin_bitXor a b w
  by_cases h4 : s.data.toList = [38]
  · obtain rfl := of_list h4
    exact rbin_bitAnd a b w
  by_cases h5 : s.data.toList = [61, 61]
  · obtain rfl := of_list h5
    exact rbin_equal a b w
  by_cases h6 : s.data.toList = [33, 61]
  · obtain rfl := of_list h6
    exact rbin_unequal a b w
  by_cases h7 : s.data.toList = [60]
  · obtain rfl := of_list h7
    exact rbin_less a b w
  by_cases h8 : s.data.toList = [60, 61]
  · obtain rfl := of_list h8
    exact rbin_atMost a b w
  by_cases h9 : s.data.toList = [62]
  · obtain rfl := of_list h9
    exact rbin_more a b w
  by_cases h10 : s.data.toList = [62, 61]
  · obtain rfl := of_list h10
    exact rbin_atLeast a b w
  by_cases h11 : s.data.toList = [60, 60]
  · obtain rfl := of_list h11
    exact rbin_left a b w
  by_cases h12 : s.data.toList = [62, 62]
  · obtain rfl := of_list h12
    exact rbin_right a b w
  by_cases h13 : s.data.toList = [43]
  · obtain rfl := of_list h13
    exact rbin_plus a b w
  by_cases h14 : s.data.toList = [45]
  · obtain rfl := of_list h14
    exact rbin_minus a b w
  by_cases h15 : s.data.toList = [42]
  · obtain rfl := of_list h15
    exact rbin_times a b w
  by_cases h16 : s.data.toList = [47]
  · obtain rfl := of_list h16
    exact rbin_quotient a b w
  by_cases h17 : s.data.toList = [37]
  · obtain rfl := of_list h17
    exact rbin_rest a b w
  exact rbin_none s a b w h0 h1 h2 h3 h4 h5 h6 h7 h8 h9 h10 h11 h12 h13 h14 h15 h16 h17

theorem run_negative (a : Int) (_h : -9223372036854775808 ≤ a ∧ a ≤ 9223372036854775807) (w : World) :
    Calls Tryd.prog 17 #[.string { data := #[45] }, .int .i64 a] w fun e w' => e = .returned (.tuple #[.int .i64 (unV { data := #[45] } a), .bool (unB { data := #[45] })]) ∧ w' = w := by
  rw [show unV { data := #[45] } a = wrap64 (-a) from rfl, show unB { data := #[45] } = true from rfl]
  clear _h
  go_enter Tryd.func17, Tryd.ntmps17
  go_wp2_with (go_at_call 26; refine (rbit_any _ _).mono ?_; rintro e w' ⟨rfl, rfl⟩)
  go_ret2
  exact ⟨rfl, rfl⟩
theorem run_turned (a : Int) (h : -9223372036854775808 ≤ a ∧ a ≤ 9223372036854775807) (w : World) :
    Calls Tryd.prog 17 #[.string { data := #[126] }, .int .i64 a] w fun e w' => e = .returned (.tuple #[.int .i64 (unV { data := #[126] } a), .bool (unB { data := #[126] })]) ∧ w' = w := by
  rw [show unV { data := #[126] } a = -a - 1 from rfl, show unB { data := #[126] } = true from rfl]
  rw [show -a - 1 = wrap64 (-1 - a) by unfold wrap64; omega]; clear h
  go_enter Tryd.func17, Tryd.ntmps17
  go_wp2_with (go_at_call 26; refine (rbit_any _ _).mono ?_; rintro e w' ⟨rfl, rfl⟩)
  go_ret2
  exact ⟨rfl, rfl⟩
theorem run_not (a : Int) (_h : -9223372036854775808 ≤ a ∧ a ≤ 9223372036854775807) (w : World) :
    Calls Tryd.prog 17 #[.string { data := #[33] }, .int .i64 a] w fun e w' => e = .returned (.tuple #[.int .i64 (unV { data := #[33] } a), .bool (unB { data := #[33] })]) ∧ w' = w := by
  rw [show unV { data := #[33] } a = bit (a == 0) from rfl, show unB { data := #[33] } = true from rfl]
  clear _h
  go_enter Tryd.func17, Tryd.ntmps17
  go_wp2_with (go_at_call 26; refine (rbit_any _ _).mono ?_; rintro e w' ⟨rfl, rfl⟩)
  go_ret2
  exact ⟨rfl, rfl⟩
theorem run_any (s : ByteArray) (a : Int) (h : -9223372036854775808 ≤ a ∧ a ≤ 9223372036854775807) (w : World) :
    Calls Tryd.prog 17 #[.string s, .int .i64 a] w fun e w' => e = .returned (.tuple #[.int .i64 (unV s a), .bool (unB s)]) ∧ w' = w := by
  by_cases h0 : s.data.toList = [45]
  · obtain rfl := of_list h0
    exact run_negative a h w
  by_cases h1 : s.data.toList = [126]
  · obtain rfl := of_list h1
    exact run_turned a h w
  by_cases h2 : s.data.toList = [33]
  · obtain rfl := of_list h2
    exact run_not a h w
  have hv : unV s a = 0 := by unfold unV; simp only [if_neg h0, if_neg h1, if_neg h2]
  have ht : unB s = false := by unfold unB; simp [h0, h1, h2]
  rw [hv, ht]
  have g0 := not_list h0
  have g1 := not_list h1
  have g2 := not_list h2
  clear h0 h1 h2 hv ht h
  go_enter Tryd.func17, Tryd.ntmps17
  go_wp2
  go_ret2
  exact ⟨rfl, rfl⟩
end Go.Proofs.YtbphpbkkafgihaaDoor
