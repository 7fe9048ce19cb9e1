/- What word.find answers: for each of the eighteen texts its operation, for any other text none; the world is then as it was but for new blocks. -/
import Derived.Test.YtppeogcpoplpeaaGreatDoorRows
import Derived.WalkKit
import Derived.WalkSpells
import Derived.WalkLawsBesides
import Derived.Laws.EntriesVeiled
namespace Go.Proofs.YtppeogcpoplpeaaGreatDoor
open Go.RowKit

abbrev opAgg (l : Int) (t m : Nat) : Value := .agg #[.int .i64 l, .func (.func t) #[] #[], .func (.func m) #[] #[]]
abbrev opObj (l : Int) (t m : Nat) : Obj := .cells #[.int .i64 l, .func (.func t) #[] #[], .func (.func m) #[] #[]] 173

theorem total_any (l : Int) (m : Nat) (w : World) :
    Calls Tryz.prog 127 #[.int .i64 l, .func (.func m) #[] #[]] w fun e w' => e = .returned (opAgg l 154 m) ∧ w' = w.alloc (opObj l 154 m) := by
  go_enter Tryz.func127, Tryz.ntmps127
  go_wp2
  exact bodyPost_ret (v := opAgg l 154 m) (by simp [results, Tryz.results127, go_sem]) rfl ⟨rfl, rfl⟩

theorem shift_any (l : Int) (m : Nat) (w : World) :
    Calls Tryz.prog 139 #[.int .i64 l, .func (.func m) #[] #[]] w fun e w' => e = .returned (opAgg l 155 m) ∧ w' = w.alloc (opObj l 155 m) := by
  go_enter Tryz.func139, Tryz.ntmps139
  go_wp2
  exact bodyPost_ret (v := opAgg l 155 m) (by simp [results, Tryz.results139, go_sem]) rfl ⟨rfl, rfl⟩

theorem division_any (l : Int) (m : Nat) (w : World) :
    Calls Tryz.prog 145 #[.int .i64 l, .func (.func m) #[] #[]] w fun e w' => e = .returned (opAgg l 156 m) ∧ w' = w.alloc (opObj l 156 m) := by
  go_enter Tryz.func145, Tryz.ntmps145
  go_wp2
  exact bodyPost_ret (v := opAgg l 156 m) (by simp [results, Tryz.results145, go_sem]) rfl ⟨rfl, rfl⟩

theorem find_either (w : World) :
    Calls Tryz.prog 119 #[.string { data := #[124, 124] }] w fun e w' => e = .returned (.tuple #[opAgg 1 154 128, .bool true]) ∧ w' = (w.alloc (opObj 1 154 128)).alloc (opObj 1 154 128) := by
  go_enter Tryz.func119, Tryz.ntmps119
  go_wp2_with (go_at_call 127; refine (total_any _ _ _).mono ?_; rintro e w' ⟨rfl, rfl⟩)
  exact bodyPost_ret (v := .tuple #[opAgg 1 154 128, .bool true]) (by simp [results, Tryz.results119, go_sem]) rfl ⟨rfl, rfl⟩

theorem find_both (w : World) :
    Calls Tryz.prog 119 #[.string { data := #[38, 38] }] w fun e w' => e = .returned (.tuple #[opAgg 2 154 129, .bool true]) ∧ w' = (w.alloc (opObj 2 154 129)).alloc (opObj 2 154 129) := by
  go_enter Tryz.func119, Tryz.ntmps119
  go_wp2_with (go_at_call 127; refine (total_any _ _ _).mono ?_; rintro e w' ⟨rfl, rfl⟩)
  exact bodyPost_ret (v := .tuple #[opAgg 2 154 129, .bool true]) (by simp [results, Tryz.results119, go_sem]) rfl ⟨rfl, rfl⟩

theorem find_bitOr (w : World) :
    Calls Tryz.prog 119 #[.string { data := #[124] }] w fun e w' => e = .returned (.tuple #[opAgg 3 154 130, .bool true]) ∧ w' = (w.alloc (opObj 3 154 130)).alloc (opObj 3 154 130) := by
  go_enter Tryz.func119, Tryz.ntmps119
  go_wp2_with (go_at_call 127; refine (total_any _ _ _).mono ?_; rintro e w' ⟨rfl, rfl⟩)
  exact bodyPost_ret (v := .tuple #[opAgg 3 154 130, .bool true]) (by simp [results, Tryz.results119, go_sem]) rfl ⟨rfl, rfl⟩

theorem find_bitXor (w : World) :
    Calls Tryz.prog 119 #[.string { data := #[94] }] w fun e w' => e = .returned (.tuple #[opAgg 4 154 131, .bool true]) ∧ w' = (w.alloc (opObj 4 154 131)).alloc (opObj 4 154 131) := by
  go_enter Tryz.func119, Tryz.ntmps119
  go_wp2_with (go_at_call 127; refine (total_any _ _ _).mono ?_; rintro e w' ⟨rfl, rfl⟩)
  exact bodyPost_ret (v := .tuple #[opAgg 4 154 131, .bool true]) (by simp [results, Tryz.results119, go_sem]) rfl ⟨rfl, rfl⟩

theorem find_bitAnd (w : World) :
    Calls Tryz.prog 119 #[.string { data := #[38] }] w fun e w' => e = .returned (.tuple #[opAgg 5 154 132, .bool true]) ∧ w' = (w.alloc (opObj 5 154 132)).alloc (opObj 5 154 132) := by
  go_enter Tryz.func119, Tryz.ntmps119
  go_wp2_with (go_at_call 127; refine (total_any _ _ _).mono ?_; rintro e w' ⟨rfl, rfl⟩)
  exact bodyPost_ret (v := .tuple #[opAgg 5 154 132, .bool true]) (by simp [results, Tryz.results119, go_sem]) rfl ⟨rfl, rfl⟩

theorem find_equal (w : World) :
    Calls Tryz.prog 119 #[.string { data := #[61, 61] }] w fun e w' => e = .returned (.tuple #[opAgg 6 154 133, .bool true]) ∧ w' = (w.alloc (opObj 6 154 133)).alloc (opObj 6 154 133) := by
  go_enter Tryz.func119, Tryz.ntmps119
  go_wp2_with (go_at_call 127; refine (total_any _ _ _).mono ?_; rintro e w' ⟨rfl, rfl⟩)
  exact bodyPost_ret (v := .tuple #[opAgg 6 154 133, .bool true]) (by simp [results, Tryz.results119, go_sem]) rfl ⟨rfl, rfl⟩

theorem find_unequal (w : World) :
    Calls Tryz.prog 119 #[.string { data := #[33, 61] }] w fun e w' => e = .returned (.tuple #[opAgg 6 154 134, .bool true]) ∧ w' = (w.alloc (opObj 6 154 134)).alloc (opObj 6 154 134) := by
  go_enter Tryz.func119, Tryz.ntmps119
  go_wp2_with (go_at_call 127; refine (total_any _ _ _).mono ?_; rintro e w' ⟨rfl, rfl⟩)
  exact bodyPost_ret (v := .tuple #[opAgg 6 154 134, .bool true]) (by simp [results, Tryz.results119, go_sem]) rfl ⟨rfl, rfl⟩

theorem find_less (w : World) :
    Calls Tryz.prog 119 #[.string { data := #[60] }] w fun e w' => e = .returned (.tuple #[opAgg 7 154 135, .bool true]) ∧ w' = (w.alloc (opObj 7 154 135)).alloc (opObj 7 154 135) := by
  go_enter Tryz.func119, Tryz.ntmps119
  go_wp2_with (go_at_call 127; refine (total_any _ _ _).mono ?_; rintro e w' ⟨rfl, rfl⟩)
  exact bodyPost_ret (v := .tuple #[opAgg 7 154 135, .bool true]) (by simp [results, Tryz.results119, go_sem]) rfl ⟨rfl, rfl⟩

theorem find_atMost (w : World) :
    Calls Tryz.prog 119 #[.string { data := #[60, 61] }] w fun e w' => e = .returned (.tuple #[opAgg 7 154 136, .bool true]) ∧ w' = (w.alloc (opObj 7 154 136)).alloc (opObj 7 154 136) := by
  go_enter Tryz.func119, Tryz.ntmps119
  go_wp2_with (go_at_call 127; refine (total_any _ _ _).mono ?_; rintro e w' ⟨rfl, rfl⟩)
  exact bodyPost_ret (v := .tuple #[opAgg 7 154 136, .bool true]) (by simp [results, Tryz.results119, go_sem]) rfl ⟨rfl, rfl⟩

theorem find_more (w : World) :
    Calls Tryz.prog 119 #[.string { data := #[62] }] w fun e w' => e = .returned (.tuple #[opAgg 7 154 137, .bool true]) ∧ w' = (w.alloc (opObj 7 154 137)).alloc (opObj 7 154 137) := by
  go_enter Tryz.func119, Tryz.ntmps119
  go_wp2_with (go_at_call 127; refine (total_any _ _ _).mono ?_; rintro e w' ⟨rfl, rfl⟩)
  exact bodyPost_ret (v := .tuple #[opAgg 7 154 137, .bool true]) (by simp [results, Tryz.results119, go_sem]) rfl ⟨rfl, rfl⟩

theorem find_atLeast (w : World) :
    Calls Tryz.prog 119 #[.string { data := #[62, 61] }] w fun e w' => e = .returned (.tuple #[opAgg 7 154 138, .bool true]) ∧ w' = (w.alloc (opObj 7 154 138)).alloc (opObj 7 154 138) := by
  go_enter Tryz.func119, Tryz.ntmps119
  go_wp2_with (go_at_call 127; refine (total_any _ _ _).mono ?_; rintro e w' ⟨rfl, rfl⟩)
  exact bodyPost_ret (v := .tuple #[opAgg 7 154 138, .bool true]) (by simp [results, Tryz.results119, go_sem]) rfl ⟨rfl, rfl⟩

theorem find_left (w : World) :
    Calls Tryz.prog 119 #[.string { data := #[60, 60] }] w fun e w' => e = .returned (.tuple #[opAgg 8 155 140, .bool true]) ∧ w' = (w.alloc (opObj 8 155 140)).alloc (opObj 8 155 140) := by
  go_enter Tryz.func119, Tryz.ntmps119
  go_wp2_with (go_at_call 139; refine (shift_any _ _ _).mono ?_; rintro e w' ⟨rfl, rfl⟩)
  exact bodyPost_ret (v := .tuple #[opAgg 8 155 140, .bool true]) (by simp [results, Tryz.results119, go_sem]) rfl ⟨rfl, rfl⟩

theorem find_right (w : World) :
    Calls Tryz.prog 119 #[.string { data := #[62, 62] }] w fun e w' => e = .returned (.tuple #[opAgg 8 155 141, .bool true]) ∧ w' = (w.alloc (opObj 8 155 141)).alloc (opObj 8 155 141) := by
  go_enter Tryz.func119, Tryz.ntmps119
  go_wp2_with (go_at_call 139; refine (shift_any _ _ _).mono ?_; rintro e w' ⟨rfl, rfl⟩)
  exact bodyPost_ret (v := .tuple #[opAgg 8 155 141, .bool true]) (by simp [results, Tryz.results119, go_sem]) rfl ⟨rfl, rfl⟩

theorem find_plus (w : World) :
    Calls Tryz.prog 119 #[.string { data := #[43] }] w fun e w' => e = .returned (.tuple #[opAgg 9 154 142, .bool true]) ∧ w' = (w.alloc (opObj 9 154 142)).alloc (opObj 9 154 142) := by
  go_enter Tryz.func119, Tryz.ntmps119
  go_wp2_with (go_at_call 127; refine (total_any _ _ _).mono ?_; rintro e w' ⟨rfl, rfl⟩)
  exact bodyPost_ret (v := .tuple #[opAgg 9 154 142, .bool true]) (by simp [results, Tryz.results119, go_sem]) rfl ⟨rfl, rfl⟩

theorem find_minus (w : World) :
    Calls Tryz.prog 119 #[.string { data := #[45] }] w fun e w' => e = .returned (.tuple #[opAgg 9 154 143, .bool true]) ∧ w' = (w.alloc (opObj 9 154 143)).alloc (opObj 9 154 143) := by
  go_enter Tryz.func119, Tryz.ntmps119
  go_wp2_with (go_at_call 127; refine (total_any _ _ _).mono ?_; rintro e w' ⟨rfl, rfl⟩)
  exact bodyPost_ret (v := .tuple #[opAgg 9 154 143, .bool true]) (by simp [results, Tryz.results119, go_sem]) rfl ⟨rfl, rfl⟩

theorem find_times (w : World) :
    Calls Tryz.prog 119 #[.string { data := #[42] }] w fun e w' => e = .returned (.tuple #[opAgg 10 154 144, .bool true]) ∧ w' = (w.alloc (opObj 10 154 144)).alloc (opObj 10 154 144) := by
  go_enter Tryz.func119, Tryz.ntmps119
  go_wp2_with (go_at_call 127; refine (total_any _ _ _).mono ?_; rintro e w' ⟨rfl, rfl⟩)
  exact bodyPost_ret (v := .tuple #[opAgg 10 154 144, .bool true]) (by simp [results, Tryz.results119, go_sem]) rfl ⟨rfl, rfl⟩

theorem find_quotient (w : World) :
    Calls Tryz.prog 119 #[.string { data := #[47] }] w fun e w' => e = .returned (.tuple #[opAgg 10 156 146, .bool true]) ∧ w' = (w.alloc (opObj 10 156 146)).alloc (opObj 10 156 146) := by
  go_enter Tryz.func119, Tryz.ntmps119
  go_wp2_with (go_at_call 145; refine (division_any _ _ _).mono ?_; rintro e w' ⟨rfl, rfl⟩)
  exact bodyPost_ret (v := .tuple #[opAgg 10 156 146, .bool true]) (by simp [results, Tryz.results119, go_sem]) rfl ⟨rfl, rfl⟩

theorem find_rest (w : World) :
    Calls Tryz.prog 119 #[.string { data := #[37] }] w fun e w' => e = .returned (.tuple #[opAgg 10 156 147, .bool true]) ∧ w' = (w.alloc (opObj 10 156 147)).alloc (opObj 10 156 147) := by
  go_enter Tryz.func119, Tryz.ntmps119
  go_wp2_with (go_at_call 145; refine (division_any _ _ _).mono ?_; rintro e w' ⟨rfl, rfl⟩)
  exact bodyPost_ret (v := .tuple #[opAgg 10 156 147, .bool true]) (by simp [results, Tryz.results119, go_sem]) rfl ⟨rfl, rfl⟩

end Go.Proofs.YtppeogcpoplpeaaGreatDoor
