/- What word.find answers: for each of the eighteen texts its operation, for any other text none; the world is then as it was but for new blocks. -/
import Derived.Test.YtgkdoealhbhnmaaGreatDoorProg
import Derived.WalkKit
import Derived.WalkSpells
import Derived.WalkLawsBesides
import Derived.Laws.EntriesVeiled
namespace Go.Proofs.YtgkdoealhbhnmaaGreatDoor
open Go.RowKit

abbrev opAgg (l : Int) (t m : Nat) : Value := .agg #[.int .i64 l, .func (.func t) #[] #[], .func (.func m) #[] #[]]
abbrev opObj (l : Int) (t m : Nat) : Obj := .cells #[.int .i64 l, .func (.func t) #[] #[], .func (.func m) #[] #[]] 174

theorem total_any (l : Int) (m : Nat) (w : World) :
    Calls Tryz.prog 153 #[.int .i64 l, .func (.func m) #[] #[]] w fun e w' => e = .returned (opAgg l 189 m) ∧ w' = w.alloc (opObj l 189 m) := by
  go_enter Tryz.func153, Tryz.ntmps153
  go_wp2
  exact bodyPost_ret (v := opAgg l 189 m) (by simp [results, Tryz.results153, go_sem]) rfl ⟨rfl, rfl⟩

theorem shift_any (l : Int) (m : Nat) (w : World) :
    Calls Tryz.prog 165 #[.int .i64 l, .func (.func m) #[] #[]] w fun e w' => e = .returned (opAgg l 191 m) ∧ w' = w.alloc (opObj l 191 m) := by
  go_enter Tryz.func165, Tryz.ntmps165
  go_wp2
  exact bodyPost_ret (v := opAgg l 191 m) (by simp [results, Tryz.results165, go_sem]) rfl ⟨rfl, rfl⟩

theorem division_any (l : Int) (m : Nat) (w : World) :
    Calls Tryz.prog 171 #[.int .i64 l, .func (.func m) #[] #[]] w fun e w' => e = .returned (opAgg l 192 m) ∧ w' = w.alloc (opObj l 192 m) := by
  go_enter Tryz.func171, Tryz.ntmps171
  go_wp2
  exact bodyPost_ret (v := opAgg l 192 m) (by simp [results, Tryz.results171, go_sem]) rfl ⟨rfl, rfl⟩

theorem find_either (w : World) :
    Calls Tryz.prog 130 #[.string { data := #[124, 124] }] w fun e w' => e = .returned (.tuple #[opAgg 1 189 154, .bool true]) ∧ w' = (w.alloc (opObj 1 189 154)).alloc (opObj 1 189 154) := by
  go_enter Tryz.func130, Tryz.ntmps130
  go_wp2_with (go_at_call 153; refine (total_any _ _ _).mono ?_; rintro e w' ⟨rfl, rfl⟩)
  exact bodyPost_ret (v := .tuple #[opAgg 1 189 154, .bool true]) (by simp [results, Tryz.results130, go_sem]) rfl ⟨rfl, rfl⟩

theorem find_both (w : World) :
    Calls Tryz.prog 130 #[.string { data := #[38, 38] }] w fun e w' => e = .returned (.tuple #[opAgg 2 189 155, .bool true]) ∧ w' = (w.alloc (opObj 2 189 155)).alloc (opObj 2 189 155) := by
  go_enter Tryz.func130, Tryz.ntmps130
  go_wp2_with (go_at_call 153; refine (total_any _ _ _).mono ?_; rintro e w' ⟨rfl, rfl⟩)
  exact bodyPost_ret (v := .tuple #[opAgg 2 189 155, .bool true]) (by simp [results, Tryz.results130, go_sem]) rfl ⟨rfl, rfl⟩

theorem find_bitOr (w : World) :
    Calls Tryz.prog 130 #[.string { data := #[124] }] w fun e w' => e = .returned (.tuple #[opAgg 3 189 156, .bool true]) ∧ w' = (w.alloc (opObj 3 189 156)).alloc (opObj 3 189 156) := by
  go_enter Tryz.func130, Tryz.ntmps130
  go_wp2_with (go_at_call 153; refine (total_any _ _ _).mono ?_; rintro e w' ⟨rfl, rfl⟩)
  exact bodyPost_ret (v := .tuple #[opAgg 3 189 156, .bool true]) (by simp [results, Tryz.results130, go_sem]) rfl ⟨rfl, rfl⟩

theorem find_bitXor (w : World) :
    Calls Tryz.prog 130 #[.string { data := #[94] }] w fun e w' => e = .returned (.tuple #[opAgg 4 189 157, .bool true]) ∧ w' = (w.alloc (opObj 4 189 157)).alloc (opObj 4 189 157) := by
  go_enter Tryz.func130, Tryz.ntmps130
  go_wp2_with (go_at_call 153; refine (total_any _ _ _).mono ?_; rintro e w' ⟨rfl, rfl⟩)
  exact bodyPost_ret (v := .tuple #[opAgg 4 189 157, .bool true]) (by simp [results, Tryz.results130, go_sem]) rfl ⟨rfl, rfl⟩

theorem find_bitAnd (w : World) :
    Calls Tryz.prog 130 #[.string { data := #[38] }] w fun e w' => e = .returned (.tuple #[opAgg 5 189 158, .bool true]) ∧ w' = (w.alloc (opObj 5 189 158)).alloc (opObj 5 189 158) := by
  go_enter Tryz.func130, Tryz.ntmps130
  go_wp2_with (go_at_call 153; refine (total_any _ _ _).mono ?_; rintro e w' ⟨rfl, rfl⟩)
  exact bodyPost_ret (v := .tuple #[opAgg 5 189 158, .bool true]) (by simp [results, Tryz.results130, go_sem]) rfl ⟨rfl, rfl⟩

theorem find_equal (w : World) :
    Calls Tryz.prog 130 #[.string { data := #[61, 61] }] w fun e w' => e = .returned (.tuple #[opAgg 6 189 159, .bool true]) ∧ w' = (w.alloc (opObj 6 189 159)).alloc (opObj 6 189 159) := by
  go_enter Tryz.func130, Tryz.ntmps130
  go_wp2_with (go_at_call 153; refine (total_any _ _ _).mono ?_; rintro e w' ⟨rfl, rfl⟩)
  exact bodyPost_ret (v := .tuple #[opAgg 6 189 159, .bool true]) (by simp [results, Tryz.results130, go_sem]) rfl ⟨rfl, rfl⟩

theorem find_unequal (w : World) :
    Calls Tryz.prog 130 #[.string { data := #[33, 61] }] w fun e w' => e = .returned (.tuple #[opAgg 6 189 160, .bool true]) ∧ w' = (w.alloc (opObj 6 189 160)).alloc (opObj 6 189 160) := by
  go_enter Tryz.func130, Tryz.ntmps130
  go_wp2_with (go_at_call 153; refine (total_any _ _ _).mono ?_; rintro e w' ⟨rfl, rfl⟩)
  exact bodyPost_ret (v := .tuple #[opAgg 6 189 160, .bool true]) (by simp [results, Tryz.results130, go_sem]) rfl ⟨rfl, rfl⟩

theorem find_less (w : World) :
    Calls Tryz.prog 130 #[.string { data := #[60] }] w fun e w' => e = .returned (.tuple #[opAgg 7 189 161, .bool true]) ∧ w' = (w.alloc (opObj 7 189 161)).alloc (opObj 7 189 161) := by
  go_enter Tryz.func130, Tryz.ntmps130
  go_wp2_with (go_at_call 153; refine (total_any _ _ _).mono ?_; rintro e w' ⟨rfl, rfl⟩)
  exact bodyPost_ret (v := .tuple #[opAgg 7 189 161, .bool true]) (by simp [results, Tryz.results130, go_sem]) rfl ⟨rfl, rfl⟩

theorem find_atMost (w : World) :
    Calls Tryz.prog 130 #[.string { data := #[60, 61] }] w fun e w' => e = .returned (.tuple #[opAgg 7 189 162, .bool true]) ∧ w' = (w.alloc (opObj 7 189 162)).alloc (opObj 7 189 162) := by
  go_enter Tryz.func130, Tryz.ntmps130
  go_wp2_with (go_at_call 153; refine (total_any _ _ _).mono ?_; rintro e w' ⟨rfl, rfl⟩)
  exact bodyPost_ret (v := .tuple #[opAgg 7 189 162, .bool true]) (by simp [results, Tryz.results130, go_sem]) rfl ⟨rfl, rfl⟩

theorem find_more (w : World) :
    Calls Tryz.prog 130 #[.string { data := #[62] }] w fun e w' => e = .returned (.tuple #[opAgg 7 189 163, .bool true]) ∧ w' = (w.alloc (opObj 7 189 163)).alloc (opObj 7 189 163) := by
  go_enter Tryz.func130, Tryz.ntmps130
  go_wp2_with (go_at_call 153; refine (total_any _ _ _).mono ?_; rintro e w' ⟨rfl, rfl⟩)
  exact bodyPost_ret (v := .tuple #[opAgg 7 189 163, .bool true]) (by simp [results, Tryz.results130, go_sem]) rfl ⟨rfl, rfl⟩

theorem find_atLeast (w : World) :
    Calls Tryz.prog 130 #[.string { data := #[62, 61] }] w fun e w' => e = .returned (.tuple #[opAgg 7 189 164, .bool true]) ∧ w' = (w.alloc (opObj 7 189 164)).alloc (opObj 7 189 164) := by
  go_enter Tryz.func130, Tryz.ntmps130
  go_wp2_with (go_at_call 153; refine (total_any _ _ _).mono ?_; rintro e w' ⟨rfl, rfl⟩)
  exact bodyPost_ret (v := .tuple #[opAgg 7 189 164, .bool true]) (by simp [results, Tryz.results130, go_sem]) rfl ⟨rfl, rfl⟩

theorem find_left (w : World) :
    Calls Tryz.prog 130 #[.string { data := #[60, 60] }] w fun e w' => e = .returned (.tuple #[opAgg 8 191 166, .bool true]) ∧ w' = (w.alloc (opObj 8 191 166)).alloc (opObj 8 191 166) := by
  go_enter Tryz.func130, Tryz.ntmps130
  go_wp2_with (go_at_call 165; refine (shift_any _ _ _).mono ?_; rintro e w' ⟨rfl, rfl⟩)
  exact bodyPost_ret (v := .tuple #[opAgg 8 191 166, .bool true]) (by simp [results, Tryz.results130, go_sem]) rfl ⟨rfl, rfl⟩

theorem find_right (w : World) :
    Calls Tryz.prog 130 #[.string { data := #[62, 62] }] w fun e w' => e = .returned (.tuple #[opAgg 8 191 167, .bool true]) ∧ w' = (w.alloc (opObj 8 191 167)).alloc (opObj 8 191 167) := by
  go_enter Tryz.func130, Tryz.ntmps130
  go_wp2_with (go_at_call 165; refine (shift_any _ _ _).mono ?_; rintro e w' ⟨rfl, rfl⟩)
  exact bodyPost_ret (v := .tuple #[opAgg 8 191 167, .bool true]) (by simp [results, Tryz.results130, go_sem]) rfl ⟨rfl, rfl⟩

theorem find_plus (w : World) :
    Calls Tryz.prog 130 #[.string { data := #[43] }] w fun e w' => e = .returned (.tuple #[opAgg 9 189 168, .bool true]) ∧ w' = (w.alloc (opObj 9 189 168)).alloc (opObj 9 189 168) := by
  go_enter Tryz.func130, Tryz.ntmps130
  go_wp2_with (go_at_call 153; refine (total_any _ _ _).mono ?_; rintro e w' ⟨rfl, rfl⟩)
  exact bodyPost_ret (v := .tuple #[opAgg 9 189 168, .bool true]) (by simp [results, Tryz.results130, go_sem]) rfl ⟨rfl, rfl⟩

theorem find_minus (w : World) :
    Calls Tryz.prog 130 #[.string { data := #[45] }] w fun e w' => e = .returned (.tuple #[opAgg 9 189 169, .bool true]) ∧ w' = (w.alloc (opObj 9 189 169)).alloc (opObj 9 189 169) := by
  go_enter Tryz.func130, Tryz.ntmps130
  go_wp2_with (go_at_call 153; refine (total_any _ _ _).mono ?_; rintro e w' ⟨rfl, rfl⟩)
  exact bodyPost_ret (v := .tuple #[opAgg 9 189 169, .bool true]) (by simp [results, Tryz.results130, go_sem]) rfl ⟨rfl, rfl⟩

theorem find_times (w : World) :
    Calls Tryz.prog 130 #[.string { data := #[42] }] w fun e w' => e = .returned (.tuple #[opAgg 10 189 170, .bool true]) ∧ w' = (w.alloc (opObj 10 189 170)).alloc (opObj 10 189 170) := by
  go_enter Tryz.func130, Tryz.ntmps130
  go_wp2_with (go_at_call 153; refine (total_any _ _ _).mono ?_; rintro e w' ⟨rfl, rfl⟩)
  exact bodyPost_ret (v := .tuple #[opAgg 10 189 170, .bool true]) (by simp [results, Tryz.results130, go_sem]) rfl ⟨rfl, rfl⟩

theorem find_quotient (w : World) :
    Calls Tryz.prog 130 #[.string { data := #[47] }] w fun e w' => e = .returned (.tuple #[opAgg 10 192 172, .bool true]) ∧ w' = (w.alloc (opObj 10 192 172)).alloc (opObj 10 192 172) := by
  go_enter Tryz.func130, Tryz.ntmps130
  go_wp2_with (go_at_call 171; refine (division_any _ _ _).mono ?_; rintro e w' ⟨rfl, rfl⟩)
  exact bodyPost_ret (v := .tuple #[opAgg 10 192 172, .bool true]) (by simp [results, Tryz.results130, go_sem]) rfl ⟨rfl, rfl⟩

theorem find_rest (w : World) :
    Calls Tryz.prog 130 #[.string { data := #[37] }] w fun e w' => e = .returned (.tuple #[opAgg 10 192 173, .bool true]) ∧ w' = (w.alloc (opObj 10 192 173)).alloc (opObj 10 192 173) := by
  go_enter Tryz.func130, Tryz.ntmps130
  go_wp2_with (go_at_call 171; refine (division_any _ _ _).mono ?_; rintro e w' ⟨rfl, rfl⟩)
  exact bodyPost_ret (v := .tuple #[opAgg 10 192 173, .bool true]) (by simp [results, Tryz.results130, go_sem]) rfl ⟨rfl, rfl⟩

end Go.Proofs.YtgkdoealhbhnmaaGreatDoor
