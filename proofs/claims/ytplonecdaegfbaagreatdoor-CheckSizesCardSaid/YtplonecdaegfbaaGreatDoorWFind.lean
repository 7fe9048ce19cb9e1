/- What word.find answers: for each of the eighteen texts its operation, for any other text none; the world is then as it was but for new blocks. -/
import Derived.Test.YtplonecdaegfbaaGreatDoorProg
import Derived.WalkKit
import Derived.WalkSpells
import Derived.WalkLawsBesides
import Derived.Laws.EntriesVeiled
namespace Go.Proofs.YtplonecdaegfbaaGreatDoor
open Go.RowKit

abbrev opAgg (l : Int) (t m : Nat) : Value := .agg #[.int .i64 l, .func (.func t) #[] #[], .func (.func m) #[] #[]]
abbrev opObj (l : Int) (t m : Nat) : Obj := .cells #[.int .i64 l, .func (.func t) #[] #[], .func (.func m) #[] #[]] 253

theorem total_any (l : Int) (m : Nat) (w : World) :
    Calls Tryz.prog 238 #[.int .i64 l, .func (.func m) #[] #[]] w fun e w' => e = .returned (opAgg l 273 m) ∧ w' = w.alloc (opObj l 273 m) := by
  go_enter Tryz.func238, Tryz.ntmps238
  go_wp2
  exact bodyPost_ret (v := opAgg l 273 m) (by simp [results, Tryz.results238, go_sem]) rfl ⟨rfl, rfl⟩

theorem shift_any (l : Int) (m : Nat) (w : World) :
    Calls Tryz.prog 250 #[.int .i64 l, .func (.func m) #[] #[]] w fun e w' => e = .returned (opAgg l 274 m) ∧ w' = w.alloc (opObj l 274 m) := by
  go_enter Tryz.func250, Tryz.ntmps250
  go_wp2
  exact bodyPost_ret (v := opAgg l 274 m) (by simp [results, Tryz.results250, go_sem]) rfl ⟨rfl, rfl⟩

theorem division_any (l : Int) (m : Nat) (w : World) :
    Calls Tryz.prog 256 #[.int .i64 l, .func (.func m) #[] #[]] w fun e w' => e = .returned (opAgg l 275 m) ∧ w' = w.alloc (opObj l 275 m) := by
  go_enter Tryz.func256, Tryz.ntmps256
  go_wp2
  exact bodyPost_ret (v := opAgg l 275 m) (by simp [results, Tryz.results256, go_sem]) rfl ⟨rfl, rfl⟩

theorem find_either (w : World) :
    Calls Tryz.prog 221 #[.string { data := #[124, 124] }] w fun e w' => e = .returned (.tuple #[opAgg 1 273 239, .bool true]) ∧ w' = (w.alloc (opObj 1 273 239)).alloc (opObj 1 273 239) := by
  go_enter Tryz.func221, Tryz.ntmps221
  go_wp2_with (go_at_call 238; refine (total_any _ _ _).mono ?_; rintro e w' ⟨rfl, rfl⟩)
  exact bodyPost_ret (v := .tuple #[opAgg 1 273 239, .bool true]) (by simp [results, Tryz.results221, go_sem]) rfl ⟨rfl, rfl⟩

theorem find_both (w : World) :
    Calls Tryz.prog 221 #[.string { data := #[38, 38] }] w fun e w' => e = .returned (.tuple #[opAgg 2 273 240, .bool true]) ∧ w' = (w.alloc (opObj 2 273 240)).alloc (opObj 2 273 240) := by
  go_enter Tryz.func221, Tryz.ntmps221
  go_wp2_with (go_at_call 238; refine (total_any _ _ _).mono ?_; rintro e w' ⟨rfl, rfl⟩)
  exact bodyPost_ret (v := .tuple #[opAgg 2 273 240, .bool true]) (by simp [results, Tryz.results221, go_sem]) rfl ⟨rfl, rfl⟩

theorem find_bitOr (w : World) :
    Calls Tryz.prog 221 #[.string { data := #[124] }] w fun e w' => e = .returned (.tuple #[opAgg 3 273 241, .bool true]) ∧ w' = (w.alloc (opObj 3 273 241)).alloc (opObj 3 273 241) := by
  go_enter Tryz.func221, Tryz.ntmps221
  go_wp2_with (go_at_call 238; refine (total_any _ _ _).mono ?_; rintro e w' ⟨rfl, rfl⟩)
  exact bodyPost_ret (v := .tuple #[opAgg 3 273 241, .bool true]) (by simp [results, Tryz.results221, go_sem]) rfl ⟨rfl, rfl⟩

theorem find_bitXor (w : World) :
    Calls Tryz.prog 221 #[.string { data := #[94] }] w fun e w' => e = .returned (.tuple #[opAgg 4 273 242, .bool true]) ∧ w' = (w.alloc (opObj 4 273 242)).alloc (opObj 4 273 242) := by
  go_enter Tryz.func221, Tryz.ntmps221
  go_wp2_with (go_at_call 238; refine (total_any _ _ _).mono ?_; rintro e w' ⟨rfl, rfl⟩)
  exact bodyPost_ret (v := .tuple #[opAgg 4 273 242, .bool true]) (by simp [results, Tryz.results221, go_sem]) rfl ⟨rfl, rfl⟩

theorem find_bitAnd (w : World) :
    Calls Tryz.prog 221 #[.string { data := #[38] }] w fun e w' => e = .returned (.tuple #[opAgg 5 273 243, .bool true]) ∧ w' = (w.alloc (opObj 5 273 243)).alloc (opObj 5 273 243) := by
  go_enter Tryz.func221, Tryz.ntmps221
  go_wp2_with (go_at_call 238; refine (total_any _ _ _).mono ?_; rintro e w' ⟨rfl, rfl⟩)
  exact bodyPost_ret (v := .tuple #[opAgg 5 273 243, .bool true]) (by simp [results, Tryz.results221, go_sem]) rfl ⟨rfl, rfl⟩

theorem find_equal (w : World) :
    Calls Tryz.prog 221 #[.string { data := #[61, 61] }] w fun e w' => e = .returned (.tuple #[opAgg 6 273 244, .bool true]) ∧ w' = (w.alloc (opObj 6 273 244)).alloc (opObj 6 273 244) := by
  go_enter Tryz.func221, Tryz.ntmps221
  go_wp2_with (go_at_call 238; refine (total_any _ _ _).mono ?_; rintro e w' ⟨rfl, rfl⟩)
  exact bodyPost_ret (v := .tuple #[opAgg 6 273 244, .bool true]) (by simp [results, Tryz.results221, go_sem]) rfl ⟨rfl, rfl⟩

theorem find_unequal (w : World) :
    Calls Tryz.prog 221 #[.string { data := #[33, 61] }] w fun e w' => e = .returned (.tuple #[opAgg 6 273 245, .bool true]) ∧ w' = (w.alloc (opObj 6 273 245)).alloc (opObj 6 273 245) := by
  go_enter Tryz.func221, Tryz.ntmps221
  go_wp2_with (go_at_call 238; refine (total_any _ _ _).mono ?_; rintro e w' ⟨rfl, rfl⟩)
  exact bodyPost_ret (v := .tuple #[opAgg 6 273 245, .bool true]) (by simp [results, Tryz.results221, go_sem]) rfl ⟨rfl, rfl⟩

theorem find_less (w : World) :
    Calls Tryz.prog 221 #[.string { data := #[60] }] w fun e w' => e = .returned (.tuple #[opAgg 7 273 246, .bool true]) ∧ w' = (w.alloc (opObj 7 273 246)).alloc (opObj 7 273 246) := by
  go_enter Tryz.func221, Tryz.ntmps221
  go_wp2_with (go_at_call 238; refine (total_any _ _ _).mono ?_; rintro e w' ⟨rfl, rfl⟩)
  exact bodyPost_ret (v := .tuple #[opAgg 7 273 246, .bool true]) (by simp [results, Tryz.results221, go_sem]) rfl ⟨rfl, rfl⟩

theorem find_atMost (w : World) :
    Calls Tryz.prog 221 #[.string { data := #[60, 61] }] w fun e w' => e = .returned (.tuple #[opAgg 7 273 247, .bool true]) ∧ w' = (w.alloc (opObj 7 273 247)).alloc (opObj 7 273 247) := by
  go_enter Tryz.func221, Tryz.ntmps221
  go_wp2_with (go_at_call 238; refine (total_any _ _ _).mono ?_; rintro e w' ⟨rfl, rfl⟩)
  exact bodyPost_ret (v := .tuple #[opAgg 7 273 247, .bool true]) (by simp [results, Tryz.results221, go_sem]) rfl ⟨rfl, rfl⟩

theorem find_more (w : World) :
    Calls Tryz.prog 221 #[.string { data := #[62] }] w fun e w' => e = .returned (.tuple #[opAgg 7 273 248, .bool true]) ∧ w' = (w.alloc (opObj 7 273 248)).alloc (opObj 7 273 248) := by
  go_enter Tryz.func221, Tryz.ntmps221
  go_wp2_with (go_at_call 238; refine (total_any _ _ _).mono ?_; rintro e w' ⟨rfl, rfl⟩)
  exact bodyPost_ret (v := .tuple #[opAgg 7 273 248, .bool true]) (by simp [results, Tryz.results221, go_sem]) rfl ⟨rfl, rfl⟩

theorem find_atLeast (w : World) :
    Calls Tryz.prog 221 #[.string { data := #[62, 61] }] w fun e w' => e = .returned (.tuple #[opAgg 7 273 249, .bool true]) ∧ w' = (w.alloc (opObj 7 273 249)).alloc (opObj 7 273 249) := by
  go_enter Tryz.func221, Tryz.ntmps221
  go_wp2_with (go_at_call 238; refine (total_any _ _ _).mono ?_; rintro e w' ⟨rfl, rfl⟩)
  exact bodyPost_ret (v := .tuple #[opAgg 7 273 249, .bool true]) (by simp [results, Tryz.results221, go_sem]) rfl ⟨rfl, rfl⟩

theorem find_left (w : World) :
    Calls Tryz.prog 221 #[.string { data := #[60, 60] }] w fun e w' => e = .returned (.tuple #[opAgg 8 274 251, .bool true]) ∧ w' = (w.alloc (opObj 8 274 251)).alloc (opObj 8 274 251) := by
  go_enter Tryz.func221, Tryz.ntmps221
  go_wp2_with (go_at_call 250; refine (shift_any _ _ _).mono ?_; rintro e w' ⟨rfl, rfl⟩)
  exact bodyPost_ret (v := .tuple #[opAgg 8 274 251, .bool true]) (by simp [results, Tryz.results221, go_sem]) rfl ⟨rfl, rfl⟩

theorem find_right (w : World) :
    Calls Tryz.prog 221 #[.string { data := #[62, 62] }] w fun e w' => e = .returned (.tuple #[opAgg 8 274 252, .bool true]) ∧ w' = (w.alloc (opObj 8 274 252)).alloc (opObj 8 274 252) := by
  go_enter Tryz.func221, Tryz.ntmps221
  go_wp2_with (go_at_call 250; refine (shift_any _ _ _).mono ?_; rintro e w' ⟨rfl, rfl⟩)
  exact bodyPost_ret (v := .tuple #[opAgg 8 274 252, .bool true]) (by simp [results, Tryz.results221, go_sem]) rfl ⟨rfl, rfl⟩

theorem find_plus (w : World) :
    Calls Tryz.prog 221 #[.string { data := #[43] }] w fun e w' => e = .returned (.tuple #[opAgg 9 273 253, .bool true]) ∧ w' = (w.alloc (opObj 9 273 253)).alloc (opObj 9 273 253) := by
  go_enter Tryz.func221, Tryz.ntmps221
  go_wp2_with (go_at_call 238; refine (total_any _ _ _).mono ?_; rintro e w' ⟨rfl, rfl⟩)
  exact bodyPost_ret (v := .tuple #[opAgg 9 273 253, .bool true]) (by simp [results, Tryz.results221, go_sem]) rfl ⟨rfl, rfl⟩

theorem find_minus (w : World) :
    Calls Tryz.prog 221 #[.string { data := #[45] }] w fun e w' => e = .returned (.tuple #[opAgg 9 273 254, .bool true]) ∧ w' = (w.alloc (opObj 9 273 254)).alloc (opObj 9 273 254) := by
  go_enter Tryz.func221, Tryz.ntmps221
  go_wp2_with (go_at_call 238; refine (total_any _ _ _).mono ?_; rintro e w' ⟨rfl, rfl⟩)
  exact bodyPost_ret (v := .tuple #[opAgg 9 273 254, .bool true]) (by simp [results, Tryz.results221, go_sem]) rfl ⟨rfl, rfl⟩

theorem find_times (w : World) :
    Calls Tryz.prog 221 #[.string { data := #[42] }] w fun e w' => e = .returned (.tuple #[opAgg 10 273 255, .bool true]) ∧ w' = (w.alloc (opObj 10 273 255)).alloc (opObj 10 273 255) := by
  go_enter Tryz.func221, Tryz.ntmps221
  go_wp2_with (go_at_call 238; refine (total_any _ _ _).mono ?_; rintro e w' ⟨rfl, rfl⟩)
  exact bodyPost_ret (v := .tuple #[opAgg 10 273 255, .bool true]) (by simp [results, Tryz.results221, go_sem]) rfl ⟨rfl, rfl⟩

theorem find_quotient (w : World) :
    Calls Tryz.prog 221 #[.string { data := #[47] }] w fun e w' => e = .returned (.tuple #[opAgg 10 275 257, .bool true]) ∧ w' = (w.alloc (opObj 10 275 257)).alloc (opObj 10 275 257) := by
  go_enter Tryz.func221, Tryz.ntmps221
  go_wp2_with (go_at_call 256; refine (division_any _ _ _).mono ?_; rintro e w' ⟨rfl, rfl⟩)
  exact bodyPost_ret (v := .tuple #[opAgg 10 275 257, .bool true]) (by simp [results, Tryz.results221, go_sem]) rfl ⟨rfl, rfl⟩

theorem find_rest (w : World) :
    Calls Tryz.prog 221 #[.string { data := #[37] }] w fun e w' => e = .returned (.tuple #[opAgg 10 275 258, .bool true]) ∧ w' = (w.alloc (opObj 10 275 258)).alloc (opObj 10 275 258) := by
  go_enter Tryz.func221, Tryz.ntmps221
  go_wp2_with (go_at_call 256; refine (division_any _ _ _).mono ?_; rintro e w' ⟨rfl, rfl⟩)
  exact bodyPost_ret (v := .tuple #[opAgg 10 275 258, .bool true]) (by simp [results, Tryz.results221, go_sem]) rfl ⟨rfl, rfl⟩

end Go.Proofs.YtplonecdaegfbaaGreatDoor
