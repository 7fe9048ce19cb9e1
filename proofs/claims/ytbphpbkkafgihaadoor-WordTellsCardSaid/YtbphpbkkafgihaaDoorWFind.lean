/- What word.find answers: for each of the eighteen texts its operation, for any other text none; the world is then as it was but for new blocks. -/
import Derived.Test.YtbphpbkkafgihaaDoorRows
import Derived.WalkKit
import Derived.WalkSpells
import Derived.WalkLawsBesides
import Derived.Laws.EntriesVeiled
namespace Go.Proofs.YtbphpbkkafgihaaDoor
open Go.RowKit

abbrev opAgg (l : Int) (t m : Nat) : Value := .agg #[.int .i64 l, .func (.func t) #[] #[], .func (.func m) #[] #[]]
abbrev opObj (l : Int) (t m : Nat) : Obj := .cells #[.int .i64 l, .func (.func t) #[] #[], .func (.func m) #[] #[]] 48

theorem total_any (l : Int) (m : Nat) (w : World) :
    Calls Tryd.prog 29 #[.int .i64 l, .func (.func m) #[] #[]] w fun e w' => e = .returned (opAgg l 54 m) ∧ w' = w.alloc (opObj l 54 m) := by
  go_enter Tryd.func29, Tryd.ntmps29
  go_wp2
  exact bodyPost_ret (v := opAgg l 54 m) (by simp [results, Tryd.results29, go_sem]) rfl ⟨rfl, rfl⟩

theorem shift_any (l : Int) (m : Nat) (w : World) :
    Calls Tryd.prog 41 #[.int .i64 l, .func (.func m) #[] #[]] w fun e w' => e = .returned (opAgg l 56 m) ∧ w' = w.alloc (opObj l 56 m) := by
  go_enter Tryd.func41, Tryd.ntmps41
  go_wp2
  exact bodyPost_ret (v := opAgg l 56 m) (by simp [results, Tryd.results41, go_sem]) rfl ⟨rfl, rfl⟩

theorem division_any (l : Int) (m : Nat) (w : World) :
    Calls Tryd.prog 47 #[.int .i64 l, .func (.func m) #[] #[]] w fun e w' => e = .returned (opAgg l 57 m) ∧ w' = w.alloc (opObj l 57 m) := by
  go_enter Tryd.func47, Tryd.ntmps47
  go_wp2
  exact bodyPost_ret (v := opAgg l 57 m) (by simp [results, Tryd.results47, go_sem]) rfl ⟨rfl, rfl⟩

theorem find_either (w : World) :
    Calls Tryd.prog 25 #[.string { data := #[124, 124] }] w fun e w' => e = .returned (.tuple #[opAgg 1 54 30, .bool true]) ∧ w' = (w.alloc (opObj 1 54 30)).alloc (opObj 1 54 30) := by
  go_enter Tryd.func25, Tryd.ntmps25
  go_wp2_with (go_at_call 29; refine (total_any _ _ _).mono ?_; rintro e w' ⟨rfl, rfl⟩)
  exact bodyPost_ret (v := .tuple #[opAgg 1 54 30, .bool true]) (by simp [results, Tryd.results25, go_sem]) rfl ⟨rfl, rfl⟩

theorem find_both (w : World) :
    Calls Tryd.prog 25 #[.string { data := #[38, 38] }] w fun e w' => e = .returned (.tuple #[opAgg 2 54 31, .bool true]) ∧ w' = (w.alloc (opObj 2 54 31)).alloc (opObj 2 54 31) := by
  go_enter Tryd.func25, Tryd.ntmps25
  go_wp2_with (go_at_call 29; refine (total_any _ _ _).mono ?_; rintro e w' ⟨rfl, rfl⟩)
  exact bodyPost_ret (v := .tuple #[opAgg 2 54 31, .bool true]) (by simp [results, Tryd.results25, go_sem]) rfl ⟨rfl, rfl⟩

theorem find_bitOr (w : World) :
    Calls Tryd.prog 25 #[.string { data := #[124] }] w fun e w' => e = .returned (.tuple #[opAgg 3 54 32, .bool true]) ∧ w' = (w.alloc (opObj 3 54 32)).alloc (opObj 3 54 32) := by
  go_enter Tryd.func25, Tryd.ntmps25
  go_wp2_with (go_at_call 29; refine (total_any _ _ _).mono ?_; rintro e w' ⟨rfl, rfl⟩)
  exact bodyPost_ret (v := .tuple #[opAgg 3 54 32, .bool true]) (by simp [results, Tryd.results25, go_sem]) rfl ⟨rfl, rfl⟩

theorem find_bitXor (w : World) :
    Calls Tryd.prog 25 #[.string { data := #[94] }] w fun e w' => e = .returned (.tuple #[opAgg 4 54 33, .bool true]) ∧ w' = (w.alloc (opObj 4 54 33)).alloc (opObj 4 54 33) := by
  go_enter Tryd.func25, Tryd.ntmps25
  go_wp2_with (go_at_call 29; refine (total_any _ _ _).mono ?_; rintro e w' ⟨rfl, rfl⟩)
  exact bodyPost_ret (v := .tuple #[opAgg 4 54 33, .bool true]) (by simp [results, Tryd.results25, go_sem]) rfl ⟨rfl, rfl⟩

theorem find_bitAnd (w : World) :
    Calls Tryd.prog 25 #[.string { data := #[38] }] w fun e w' => e = .returned (.tuple #[opAgg 5 54 34, .bool true]) ∧ w' = (w.alloc (opObj 5 54 34)).alloc (opObj 5 54 34) := by
  go_enter Tryd.func25, Tryd.ntmps25
  go_wp2_with (go_at_call 29; refine (total_any _ _ _).mono ?_; rintro e w' ⟨rfl, rfl⟩)
  exact bodyPost_ret (v := .tuple #[opAgg 5 54 34, .bool true]) (by simp [results, Tryd.results25, go_sem]) rfl ⟨rfl, rfl⟩

theorem find_equal (w : World) :
    Calls Tryd.prog 25 #[.string { data := #[61, 61] }] w fun e w' => e = .returned (.tuple #[opAgg 6 54 35, .bool true]) ∧ w' = (w.alloc (opObj 6 54 35)).alloc (opObj 6 54 35) := by
  go_enter Tryd.func25, Tryd.ntmps25
  go_wp2_with (go_at_call 29; refine (total_any _ _ _).mono ?_; rintro e w' ⟨rfl, rfl⟩)
  exact bodyPost_ret (v := .tuple #[opAgg 6 54 35, .bool true]) (by simp [results, Tryd.results25, go_sem]) rfl ⟨rfl, rfl⟩

theorem find_unequal (w : World) :
    Calls Tryd.prog 25 #[.string { data := #[33, 61] }] w fun e w' => e = .returned (.tuple #[opAgg 6 54 36, .bool true]) ∧ w' = (w.alloc (opObj 6 54 36)).alloc (opObj 6 54 36) := by
  go_enter Tryd.func25, Tryd.ntmps25
  go_wp2_with (go_at_call 29; refine (total_any _ _ _).mono ?_; rintro e w' ⟨rfl, rfl⟩)
  exact bodyPost_ret (v := .tuple #[opAgg 6 54 36, .bool true]) (by simp [results, Tryd.results25, go_sem]) rfl ⟨rfl, rfl⟩

theorem find_less (w : World) :
    Calls Tryd.prog 25 #[.string { data := #[60] }] w fun e w' => e = .returned (.tuple #[opAgg 7 54 37, .bool true]) ∧ w' = (w.alloc (opObj 7 54 37)).alloc (opObj 7 54 37) := by
  go_enter Tryd.func25, Tryd.ntmps25
  go_wp2_with (go_at_call 29; refine (total_any _ _ _).mono ?_; rintro e w' ⟨rfl, rfl⟩)
  exact bodyPost_ret (v := .tuple #[opAgg 7 54 37, .bool true]) (by simp [results, Tryd.results25, go_sem]) rfl ⟨rfl, rfl⟩

theorem find_atMost (w : World) :
    Calls Tryd.prog 25 #[.string { data := #[60, 61] }] w fun e w' => e = .returned (.tuple #[opAgg 7 54 38, .bool true]) ∧ w' = (w.alloc (opObj 7 54 38)).alloc (opObj 7 54 38) := by
  go_enter Tryd.func25, Tryd.ntmps25
  go_wp2_with (go_at_call 29; refine (total_any _ _ _).mono ?_; rintro e w' ⟨rfl, rfl⟩)
  exact bodyPost_ret (v := .tuple #[opAgg 7 54 38, .bool true]) (by simp [results, Tryd.results25, go_sem]) rfl ⟨rfl, rfl⟩

theorem find_more (w : World) :
    Calls Tryd.prog 25 #[.string { data := #[62] }] w fun e w' => e = .returned (.tuple #[opAgg 7 54 39, .bool true]) ∧ w' = (w.alloc (opObj 7 54 39)).alloc (opObj 7 54 39) := by
  go_enter Tryd.func25, Tryd.ntmps25
  go_wp2_with (go_at_call 29; refine (total_any _ _ _).mono ?_; rintro e w' ⟨rfl, rfl⟩)
  exact bodyPost_ret (v := .tuple #[opAgg 7 54 39, .bool true]) (by simp [results, Tryd.results25, go_sem]) rfl ⟨rfl, rfl⟩

theorem find_atLeast (w : World) :
    Calls Tryd.prog 25 #[.string { data := #[62, 61] }] w fun e w' => e = .returned (.tuple #[opAgg 7 54 40, .bool true]) ∧ w' = (w.alloc (opObj 7 54 40)).alloc (opObj 7 54 40) := by
  go_enter Tryd.func25, Tryd.ntmps25
  go_wp2_with (go_at_call 29; refine (total_any _ _ _).mono ?_; rintro e w' ⟨rfl, rfl⟩)
  exact bodyPost_ret (v := .tuple #[opAgg 7 54 40, .bool true]) (by simp [results, Tryd.results25, go_sem]) rfl ⟨rfl, rfl⟩

theorem find_left (w : World) :
    Calls Tryd.prog 25 #[.string { data := #[60, 60] }] w fun e w' => e = .returned (.tuple #[opAgg 8 56 42, .bool true]) ∧ w' = (w.alloc (opObj 8 56 42)).alloc (opObj 8 56 42) := by
  go_enter Tryd.func25, Tryd.ntmps25
  go_wp2_with (go_at_call 41; refine (shift_any _ _ _).mono ?_; rintro e w' ⟨rfl, rfl⟩)
  exact bodyPost_ret (v := .tuple #[opAgg 8 56 42, .bool true]) (by simp [results, Tryd.results25, go_sem]) rfl ⟨rfl, rfl⟩

theorem find_right (w : World) :
    Calls Tryd.prog 25 #[.string { data := #[62, 62] }] w fun e w' => e = .returned (.tuple #[opAgg 8 56 43, .bool true]) ∧ w' = (w.alloc (opObj 8 56 43)).alloc (opObj 8 56 43) := by
  go_enter Tryd.func25, Tryd.ntmps25
  go_wp2_with (go_at_call 41; refine (shift_any _ _ _).mono ?_; rintro e w' ⟨rfl, rfl⟩)
  exact bodyPost_ret (v := .tuple #[opAgg 8 56 43, .bool true]) (by simp [results, Tryd.results25, go_sem]) rfl ⟨rfl, rfl⟩

theorem find_plus (w : World) :
    Calls Tryd.prog 25 #[.string { data := #[43] }] w fun e w' => e = .returned (.tuple #[opAgg 9 54 44, .bool true]) ∧ w' = (w.alloc (opObj 9 54 44)).alloc (opObj 9 54 44) := by
  go_enter Tryd.func25, Tryd.ntmps25
  go_wp2_with (go_at_call 29; refine (total_any _ _ _).mono ?_; rintro e w' ⟨rfl, rfl⟩)
  exact bodyPost_ret (v := .tuple #[opAgg 9 54 44, .bool true]) (by simp [results, Tryd.results25, go_sem]) rfl ⟨rfl, rfl⟩

theorem find_minus (w : World) :
    Calls Tryd.prog 25 #[.string { data := #[45] }] w fun e w' => e = .returned (.tuple #[opAgg 9 54 45, .bool true]) ∧ w' = (w.alloc (opObj 9 54 45)).alloc (opObj 9 54 45) := by
  go_enter Tryd.func25, Tryd.ntmps25
  go_wp2_with (go_at_call 29; refine (total_any _ _ _).mono ?_; rintro e w' ⟨rfl, rfl⟩)
  exact bodyPost_ret (v := .tuple #[opAgg 9 54 45, .bool true]) (by simp [results, Tryd.results25, go_sem]) rfl ⟨rfl, rfl⟩

theorem find_times (w : World) :
    Calls Tryd.prog 25 #[.string { data := #[42] }] w fun e w' => e = .returned (.tuple #[opAgg 10 54 46, .bool true]) ∧ w' = (w.alloc (opObj 10 54 46)).alloc (opObj 10 54 46) := by
  go_enter Tryd.func25, Tryd.ntmps25
  go_wp2_with (go_at_call 29; refine (total_any _ _ _).mono ?_; rintro e w' ⟨rfl, rfl⟩)
  exact bodyPost_ret (v := .tuple #[opAgg 10 54 46, .bool true]) (by simp [results, Tryd.results25, go_sem]) rfl ⟨rfl, rfl⟩

theorem find_quotient (w : World) :
    Calls Tryd.prog 25 #[.string { data := #[47] }] w fun e w' => e = .returned (.tuple #[opAgg 10 57 48, .bool true]) ∧ w' = (w.alloc (opObj 10 57 48)).alloc (opObj 10 57 48) := by
  go_enter Tryd.func25, Tryd.ntmps25
  go_wp2_with (go_at_call 47; refine (division_any _ _ _).mono ?_; rintro e w' ⟨rfl, rfl⟩)
  exact bodyPost_ret (v := .tuple #[opAgg 10 57 48, .bool true]) (by simp [results, Tryd.results25, go_sem]) rfl ⟨rfl, rfl⟩

theorem find_rest (w : World) :
    Calls Tryd.prog 25 #[.string { data := #[37] }] w fun e w' => e = .returned (.tuple #[opAgg 10 57 49, .bool true]) ∧ w' = (w.alloc (opObj 10 57 49)).alloc (opObj 10 57 49) := by
  go_enter Tryd.func25, Tryd.ntmps25
  go_wp2_with (go_at_call 47; refine (division_any _ _ _).mono ?_; rintro e w' ⟨rfl, rfl⟩)
  exact bodyPost_ret (v := .tuple #[opAgg 10 57 49, .bool true]) (by simp [results, Tryd.results25, go_sem]) rfl ⟨rfl, rfl⟩

end Go.Proofs.YtbphpbkkafgihaaDoor
