/- What word.find answers: for each of the eighteen texts its operation, for any other text none; the world is then as it was but for new blocks. -/
import Derived.Test.YtdaklmbifkehpaaGreatDoorProg
import Derived.WalkKit
import Derived.WalkSpells
import Derived.WalkLawsBesides
import Derived.Laws.EntriesVeiled
namespace Go.Proofs.YtdaklmbifkehpaaGreatDoor
open Go.RowKit

abbrev opAgg (l : Int) (t m : Nat) : Value := .agg #[.int .i64 l, .func (.func t) #[] #[], .func (.func m) #[] #[]]
abbrev opObj (l : Int) (t m : Nat) : Obj := .cells #[.int .i64 l, .func (.func t) #[] #[], .func (.func m) #[] #[]] 119

theorem total_any (l : Int) (m : Nat) (w : World) :
    Calls Tryz.prog 78 #[.int .i64 l, .func (.func m) #[] #[]] w fun e w' => e = .returned (opAgg l 125 m) ∧ w' = w.alloc (opObj l 125 m) := by
  go_enter Tryz.func78, Tryz.ntmps78
  go_wp2
  exact bodyPost_ret (v := opAgg l 125 m) (by simp [results, Tryz.results78, go_sem]) rfl ⟨rfl, rfl⟩

theorem shift_any (l : Int) (m : Nat) (w : World) :
    Calls Tryz.prog 90 #[.int .i64 l, .func (.func m) #[] #[]] w fun e w' => e = .returned (opAgg l 127 m) ∧ w' = w.alloc (opObj l 127 m) := by
  go_enter Tryz.func90, Tryz.ntmps90
  go_wp2
  exact bodyPost_ret (v := opAgg l 127 m) (by simp [results, Tryz.results90, go_sem]) rfl ⟨rfl, rfl⟩

theorem division_any (l : Int) (m : Nat) (w : World) :
    Calls Tryz.prog 96 #[.int .i64 l, .func (.func m) #[] #[]] w fun e w' => e = .returned (opAgg l 128 m) ∧ w' = w.alloc (opObj l 128 m) := by
  go_enter Tryz.func96, Tryz.ntmps96
  go_wp2
  exact bodyPost_ret (v := opAgg l 128 m) (by simp [results, Tryz.results96, go_sem]) rfl ⟨rfl, rfl⟩

theorem find_either (w : World) :
    Calls Tryz.prog 55 #[.string { data := #[124, 124] }] w fun e w' => e = .returned (.tuple #[opAgg 1 125 79, .bool true]) ∧ w' = (w.alloc (opObj 1 125 79)).alloc (opObj 1 125 79) := by
  go_enter Tryz.func55, Tryz.ntmps55
  go_wp2_with (go_at_call 78; refine (total_any _ _ _).mono ?_; rintro e w' ⟨rfl, rfl⟩)
  exact bodyPost_ret (v := .tuple #[opAgg 1 125 79, .bool true]) (by simp [results, Tryz.results55, go_sem]) rfl ⟨rfl, rfl⟩

theorem find_both (w : World) :
    Calls Tryz.prog 55 #[.string { data := #[38, 38] }] w fun e w' => e = .returned (.tuple #[opAgg 2 125 80, .bool true]) ∧ w' = (w.alloc (opObj 2 125 80)).alloc (opObj 2 125 80) := by
  go_enter Tryz.func55, Tryz.ntmps55
  go_wp2_with (go_at_call 78; refine (total_any _ _ _).mono ?_; rintro e w' ⟨rfl, rfl⟩)
  exact bodyPost_ret (v := .tuple #[opAgg 2 125 80, .bool true]) (by simp [results, Tryz.results55, go_sem]) rfl ⟨rfl, rfl⟩

theorem find_bitOr (w : World) :
    Calls Tryz.prog 55 #[.string { data := #[124] }] w fun e w' => e = .returned (.tuple #[opAgg 3 125 81, .bool true]) ∧ w' = (w.alloc (opObj 3 125 81)).alloc (opObj 3 125 81) := by
  go_enter Tryz.func55, Tryz.ntmps55
  go_wp2_with (go_at_call 78; refine (total_any _ _ _).mono ?_; rintro e w' ⟨rfl, rfl⟩)
  exact bodyPost_ret (v := .tuple #[opAgg 3 125 81, .bool true]) (by simp [results, Tryz.results55, go_sem]) rfl ⟨rfl, rfl⟩

theorem find_bitXor (w : World) :
    Calls Tryz.prog 55 #[.string { data := #[94] }] w fun e w' => e = .returned (.tuple #[opAgg 4 125 82, .bool true]) ∧ w' = (w.alloc (opObj 4 125 82)).alloc (opObj 4 125 82) := by
  go_enter Tryz.func55, Tryz.ntmps55
  go_wp2_with (go_at_call 78; refine (total_any _ _ _).mono ?_; rintro e w' ⟨rfl, rfl⟩)
  exact bodyPost_ret (v := .tuple #[opAgg 4 125 82, .bool true]) (by simp [results, Tryz.results55, go_sem]) rfl ⟨rfl, rfl⟩

theorem find_bitAnd (w : World) :
    Calls Tryz.prog 55 #[.string { data := #[38] }] w fun e w' => e = .returned (.tuple #[opAgg 5 125 83, .bool true]) ∧ w' = (w.alloc (opObj 5 125 83)).alloc (opObj 5 125 83) := by
  go_enter Tryz.func55, Tryz.ntmps55
  go_wp2_with (go_at_call 78; refine (total_any _ _ _).mono ?_; rintro e w' ⟨rfl, rfl⟩)
  exact bodyPost_ret (v := .tuple #[opAgg 5 125 83, .bool true]) (by simp [results, Tryz.results55, go_sem]) rfl ⟨rfl, rfl⟩

theorem find_equal (w : World) :
    Calls Tryz.prog 55 #[.string { data := #[61, 61] }] w fun e w' => e = .returned (.tuple #[opAgg 6 125 84, .bool true]) ∧ w' = (w.alloc (opObj 6 125 84)).alloc (opObj 6 125 84) := by
  go_enter Tryz.func55, Tryz.ntmps55
  go_wp2_with (go_at_call 78; refine (total_any _ _ _).mono ?_; rintro e w' ⟨rfl, rfl⟩)
  exact bodyPost_ret (v := .tuple #[opAgg 6 125 84, .bool true]) (by simp [results, Tryz.results55, go_sem]) rfl ⟨rfl, rfl⟩

theorem find_unequal (w : World) :
    Calls Tryz.prog 55 #[.string { data := #[33, 61] }] w fun e w' => e = .returned (.tuple #[opAgg 6 125 85, .bool true]) ∧ w' = (w.alloc (opObj 6 125 85)).alloc (opObj 6 125 85) := by
  go_enter Tryz.func55, Tryz.ntmps55
  go_wp2_with (go_at_call 78; refine (total_any _ _ _).mono ?_; rintro e w' ⟨rfl, rfl⟩)
  exact bodyPost_ret (v := .tuple #[opAgg 6 125 85, .bool true]) (by simp [results, Tryz.results55, go_sem]) rfl ⟨rfl, rfl⟩

theorem find_less (w : World) :
    Calls Tryz.prog 55 #[.string { data := #[60] }] w fun e w' => e = .returned (.tuple #[opAgg 7 125 86, .bool true]) ∧ w' = (w.alloc (opObj 7 125 86)).alloc (opObj 7 125 86) := by
  go_enter Tryz.func55, Tryz.ntmps55
  go_wp2_with (go_at_call 78; refine (total_any _ _ _).mono ?_; rintro e w' ⟨rfl, rfl⟩)
  exact bodyPost_ret (v := .tuple #[opAgg 7 125 86, .bool true]) (by simp [results, Tryz.results55, go_sem]) rfl ⟨rfl, rfl⟩

theorem find_atMost (w : World) :
    Calls Tryz.prog 55 #[.string { data := #[60, 61] }] w fun e w' => e = .returned (.tuple #[opAgg 7 125 87, .bool true]) ∧ w' = (w.alloc (opObj 7 125 87)).alloc (opObj 7 125 87) := by
  go_enter Tryz.func55, Tryz.ntmps55
  go_wp2_with (go_at_call 78; refine (total_any _ _ _).mono ?_; rintro e w' ⟨rfl, rfl⟩)
  exact bodyPost_ret (v := .tuple #[opAgg 7 125 87, .bool true]) (by simp [results, Tryz.results55, go_sem]) rfl ⟨rfl, rfl⟩

theorem find_more (w : World) :
    Calls Tryz.prog 55 #[.string { data := #[62] }] w fun e w' => e = .returned (.tuple #[opAgg 7 125 88, .bool true]) ∧ w' = (w.alloc (opObj 7 125 88)).alloc (opObj 7 125 88) := by
  go_enter Tryz.func55, Tryz.ntmps55
  go_wp2_with (go_at_call 78; refine (total_any _ _ _).mono ?_; rintro e w' ⟨rfl, rfl⟩)
  exact bodyPost_ret (v := .tuple #[opAgg 7 125 88, .bool true]) (by simp [results, Tryz.results55, go_sem]) rfl ⟨rfl, rfl⟩

theorem find_atLeast (w : World) :
    Calls Tryz.prog 55 #[.string { data := #[62, 61] }] w fun e w' => e = .returned (.tuple #[opAgg 7 125 89, .bool true]) ∧ w' = (w.alloc (opObj 7 125 89)).alloc (opObj 7 125 89) := by
  go_enter Tryz.func55, Tryz.ntmps55
  go_wp2_with (go_at_call 78; refine (total_any _ _ _).mono ?_; rintro e w' ⟨rfl, rfl⟩)
  exact bodyPost_ret (v := .tuple #[opAgg 7 125 89, .bool true]) (by simp [results, Tryz.results55, go_sem]) rfl ⟨rfl, rfl⟩

theorem find_left (w : World) :
    Calls Tryz.prog 55 #[.string { data := #[60, 60] }] w fun e w' => e = .returned (.tuple #[opAgg 8 127 91, .bool true]) ∧ w' = (w.alloc (opObj 8 127 91)).alloc (opObj 8 127 91) := by
  go_enter Tryz.func55, Tryz.ntmps55
  go_wp2_with (go_at_call 90; refine (shift_any _ _ _).mono ?_; rintro e w' ⟨rfl, rfl⟩)
  exact bodyPost_ret (v := .tuple #[opAgg 8 127 91, .bool true]) (by simp [results, Tryz.results55, go_sem]) rfl ⟨rfl, rfl⟩

theorem find_right (w : World) :
    Calls Tryz.prog 55 #[.string { data := #[62, 62] }] w fun e w' => e = .returned (.tuple #[opAgg 8 127 92, .bool true]) ∧ w' = (w.alloc (opObj 8 127 92)).alloc (opObj 8 127 92) := by
  go_enter Tryz.func55, Tryz.ntmps55
  go_wp2_with (go_at_call 90; refine (shift_any _ _ _).mono ?_; rintro e w' ⟨rfl, rfl⟩)
  exact bodyPost_ret (v := .tuple #[opAgg 8 127 92, .bool true]) (by simp [results, Tryz.results55, go_sem]) rfl ⟨rfl, rfl⟩

theorem find_plus (w : World) :
    Calls Tryz.prog 55 #[.string { data := #[43] }] w fun e w' => e = .returned (.tuple #[opAgg 9 125 93, .bool true]) ∧ w' = (w.alloc (opObj 9 125 93)).alloc (opObj 9 125 93) := by
  go_enter Tryz.func55, Tryz.ntmps55
  go_wp2_with (go_at_call 78; refine (total_any _ _ _).mono ?_; rintro e w' ⟨rfl, rfl⟩)
  exact bodyPost_ret (v := .tuple #[opAgg 9 125 93, .bool true]) (by simp [results, Tryz.results55, go_sem]) rfl ⟨rfl, rfl⟩

theorem find_minus (w : World) :
    Calls Tryz.prog 55 #[.string { data := #[45] }] w fun e w' => e = .returned (.tuple #[opAgg 9 125 94, .bool true]) ∧ w' = (w.alloc (opObj 9 125 94)).alloc (opObj 9 125 94) := by
  go_enter Tryz.func55, Tryz.ntmps55
  go_wp2_with (go_at_call 78; refine (total_any _ _ _).mono ?_; rintro e w' ⟨rfl, rfl⟩)
  exact bodyPost_ret (v := .tuple #[opAgg 9 125 94, .bool true]) (by simp [results, Tryz.results55, go_sem]) rfl ⟨rfl, rfl⟩

theorem find_times (w : World) :
    Calls Tryz.prog 55 #[.string { data := #[42] }] w fun e w' => e = .returned (.tuple #[opAgg 10 125 95, .bool true]) ∧ w' = (w.alloc (opObj 10 125 95)).alloc (opObj 10 125 95) := by
  go_enter Tryz.func55, Tryz.ntmps55
  go_wp2_with (go_at_call 78; refine (total_any _ _ _).mono ?_; rintro e w' ⟨rfl, rfl⟩)
  exact bodyPost_ret (v := .tuple #[opAgg 10 125 95, .bool true]) (by simp [results, Tryz.results55, go_sem]) rfl ⟨rfl, rfl⟩

theorem find_quotient (w : World) :
    Calls Tryz.prog 55 #[.string { data := #[47] }] w fun e w' => e = .returned (.tuple #[opAgg 10 128 97, .bool true]) ∧ w' = (w.alloc (opObj 10 128 97)).alloc (opObj 10 128 97) := by
  go_enter Tryz.func55, Tryz.ntmps55
  go_wp2_with (go_at_call 96; refine (division_any _ _ _).mono ?_; rintro e w' ⟨rfl, rfl⟩)
  exact bodyPost_ret (v := .tuple #[opAgg 10 128 97, .bool true]) (by simp [results, Tryz.results55, go_sem]) rfl ⟨rfl, rfl⟩

theorem find_rest (w : World) :
    Calls Tryz.prog 55 #[.string { data := #[37] }] w fun e w' => e = .returned (.tuple #[opAgg 10 128 98, .bool true]) ∧ w' = (w.alloc (opObj 10 128 98)).alloc (opObj 10 128 98) := by
  go_enter Tryz.func55, Tryz.ntmps55
  go_wp2_with (go_at_call 96; refine (division_any _ _ _).mono ?_; rintro e w' ⟨rfl, rfl⟩)
  exact bodyPost_ret (v := .tuple #[opAgg 10 128 98, .bool true]) (by simp [results, Tryz.results55, go_sem]) rfl ⟨rfl, rfl⟩

end Go.Proofs.YtdaklmbifkehpaaGreatDoor
