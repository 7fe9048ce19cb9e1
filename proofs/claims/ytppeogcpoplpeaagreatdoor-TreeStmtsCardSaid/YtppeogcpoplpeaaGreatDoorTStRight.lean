/- What right asks of one statement. (Written by genr.py.) -/
import Derived.Test.YtppeogcpoplpeaaGreatDoorTStHeap
set_option linter.unusedSimpArgs false
set_option linter.unusedVariables false
namespace Go.Proofs.YtppeogcpoplpeaaGreatDoor
open Go Go.RowKit

theorem cells7 {w : World} {b : Nat} {t : TypeId} {fr : Nat × Nat} {v0 v1 v2 v3 v4 v5 v6 : Value} (h : w.heap[b]? = some (.cells #[v0, v1, v2, v3, v4, v5, v6] t fr)) :
    w.cell? ⟨b, 0, none⟩ = some v0 ∧ w.cell? ⟨b, 1, none⟩ = some v1 ∧ w.cell? ⟨b, 2, none⟩ = some v2 ∧ w.cell? ⟨b, 3, none⟩ = some v3 ∧ w.cell? ⟨b, 4, none⟩ = some v4 ∧ w.cell? ⟨b, 5, none⟩ = some v5 ∧ w.cell? ⟨b, 6, none⟩ = some v6 :=
  ⟨bk_cell h rfl, bk_cell h rfl, bk_cell h rfl, bk_cell h rfl, bk_cell h rfl, bk_cell h rfl, bk_cell h rfl⟩
theorem ST.cells_is (k t : Int) (n f : ByteArray) (ea : Option Addr) (ec : Nat) (e : List ET) (ba : Option Addr) (bc : Nat) (b : List ST) (la : Option Addr) (lc : Nat) (l : List ST) : (ST.mk k t n f ea ec e ba bc b la lc l).cells = #[.int .i64 k, .int .i64 t, .string n, .string f, .slice ea e.length ec, .slice ba b.length bc, .slice la l.length lc] := rfl
abbrev stV (k t : Int) (n f : ByteArray) (ve : Value) (ba : Option Addr) (b bc : Nat) (la : Option Addr) (l lc : Nat) : Value := .agg #[.int .i64 k, .int .i64 t, .string n, .string f, ve, .slice ba b bc, .slice la l lc]
set_option maxHeartbeats 1000000 in
set_option maxRecDepth 100000 in
theorem sets_any (k t : Int) (n f : ByteArray) (ve : Value) (ba : Option Addr) (b bc : Nat) (la : Option Addr) (l lc : Nat) (w : World) :
    Calls Tryz.prog 111 #[.agg #[.int .i64 k, .int .i64 t, .string n, .string f, ve, .slice ba b bc, .slice la l lc]] w fun e w' => e = .returned (.bool (setsC n f)) ∧ Below w.heap.size w w' := by
  have key : nmB n = false ∧ setsC n f = false ∨ nmB n = true ∧ (f.toList.isEmpty = false ∧ setsC n f = false ∨ f.toList.isEmpty = true ∧ setsC n f = true) := by
    unfold setsC
    cases nmB n <;> cases f.toList.isEmpty <;> simp
  generalize setsC n f = r at key ⊢
  rcases key with ⟨h1, rfl⟩ | ⟨h1, (⟨h2, rfl⟩ | ⟨h2, rfl⟩)⟩
  all_goals
    go_enter Tryz.func111, Tryz.ntmps111
    go_wp2_with (go_at_call 64; refine (isName_any _ _).mono ?_; rintro e w' ⟨rfl, rfl⟩; rw [h1])
    go_ret
    exact ⟨by simp, (Below.refl _ _).alloc (Nat.le_refl _) _⟩
set_option maxHeartbeats 1000000 in
set_option maxRecDepth 100000 in
theorem nameless_any (k t : Int) (n f : ByteArray) (ve : Value) (ba : Option Addr) (b bc : Nat) (la : Option Addr) (l lc : Nat) (w : World) :
    Calls Tryz.prog 113 #[.agg #[.int .i64 k, .int .i64 t, .string n, .string f, ve, .slice ba b bc, .slice la l lc]] w fun e w' => e = .returned (.bool (noneC n f)) ∧ Below w.heap.size w w' := by
  have key : n.toList.isEmpty = false ∧ noneC n f = false ∨ n.toList.isEmpty = true ∧ (f.toList.isEmpty = false ∧ noneC n f = false ∨ f.toList.isEmpty = true ∧ noneC n f = true) := by
    unfold noneC
    cases n.toList.isEmpty <;> cases f.toList.isEmpty <;> simp
  generalize noneC n f = r at key ⊢
  rcases key with ⟨h1, rfl⟩ | ⟨h1, (⟨h2, rfl⟩ | ⟨h2, rfl⟩)⟩
  all_goals
    go_enter Tryz.func113, Tryz.ntmps113
    go_wp2_with fail
    go_ret
    exact ⟨by simp, (Below.refl _ _).alloc (Nat.le_refl _) _⟩
set_option maxHeartbeats 1000000 in
set_option maxRecDepth 100000 in
theorem blockless_any (k t : Int) (n f : ByteArray) (ve : Value) (ba : Option Addr) (b bc : Nat) (la : Option Addr) (l lc : Nat) (w : World) :
    Calls Tryz.prog 112 #[.agg #[.int .i64 k, .int .i64 t, .string n, .string f, ve, .slice ba b bc, .slice la l lc]] w fun e w' => e = .returned (.bool (flatC b l)) ∧ Below w.heap.size w w' := by
  have key : ((b : Int) == 0) = false ∧ flatC b l = false ∨ ((b : Int) == 0) = true ∧ (((l : Int) == 0) = false ∧ flatC b l = false ∨ ((l : Int) == 0) = true ∧ flatC b l = true) := by
    unfold flatC
    rw [show ((b : Int) == 0) = (b == 0) from len_is b 0, show ((l : Int) == 0) = (l == 0) from len_is l 0]
    cases (b == 0) <;> cases (l == 0) <;> simp
  generalize flatC b l = r at key ⊢
  rcases key with ⟨h1, rfl⟩ | ⟨h1, (⟨h2, rfl⟩ | ⟨h2, rfl⟩)⟩
  all_goals
    go_enter Tryz.func112, Tryz.ntmps112
    go_wp2_with fail
    go_ret
    exact ⟨by simp, (Below.refl _ _).alloc (Nat.le_refl _) _⟩
set_option maxHeartbeats 4000000 in
set_option maxRecDepth 100000 in
theorem formedS_0 (t : Int) (ht0 : 0 ≤ t) (ht1 : t ≤ 1000000) (n f : ByteArray) (ea : Option Addr) (e ec : Nat) (ba : Option Addr) (b bc : Nat) (la : Option Addr) (l lc : Nat) (w : World) :
    Calls Tryz.prog 86 #[stV 0 t n f (.slice ea e ec) ba b bc la l lc] w (FormedPost (setsC n f && flatC b l && e == 1) w) := by
  generalize hr : (setsC n f && flatC b l && e == 1) = r
  have key : setsC n f = false ∧ r = false ∨ setsC n f = true ∧ (flatC b l = false ∧ r = false ∨ flatC b l = true ∧ (((e : Int) == 1) = false ∧ r = false ∨ ((e : Int) == 1) = true ∧ r = true)) := by
    rw [← hr, show ((e : Int) == 1) = (e == 1) from len_is e 1]
    cases setsC n f <;> cases flatC b l <;> cases (e == 1) <;> simp
  clear hr
  have t0 : decide (t < 0) = false := decide_eq_false (by omega)
  have t1 : decide (1000000 < t) = false := decide_eq_false (by omega)
  clear ht0 ht1
  rcases key with ⟨h1, rfl⟩ | ⟨h1, (⟨h2, rfl⟩ | ⟨h2, (⟨h3, rfl⟩ | ⟨h3, rfl⟩)⟩)⟩
  all_goals
    go_enter Tryz.func86, Tryz.ntmps86
    go_wp2_with (first
      | (go_at_call 112; refine (blockless_any _ _ _ _ _ _ _ _ _ _ _ _).mono ?_; rintro e w2 ⟨rfl, hb2⟩; rw [h2]; have HB2 := Lib.hid (step_on HB1.out hb2); clear hb2)
      | (go_at_call 111; refine (sets_any _ _ _ _ _ _ _ _ _ _ _ _).mono ?_; rintro e w1 ⟨rfl, hb⟩; rw [h1]; obtain ⟨c0, c1, c2, c3, c4, c5, c6⟩ := cells7 ((hb.block w.heap.size (by simp)).trans (bk_new _ _)); have HB1 := Lib.hid (step_on ((Below.refl _ _).alloc (Nat.le_refl _) _) hb); clear hb))
    go_ret
    exact ⟨by simp, by first | exact HB2.out | exact HB1.out | exact (Below.refl _ _).alloc (Nat.le_refl _) _⟩
set_option maxHeartbeats 4000000 in
set_option maxRecDepth 100000 in
theorem formedS_1 (t : Int) (ht0 : 0 ≤ t) (ht1 : t ≤ 1000000) (n f : ByteArray) (ea : Option Addr) (e ec : Nat) (ba : Option Addr) (b bc : Nat) (la : Option Addr) (l lc : Nat) (w : World) :
    Calls Tryz.prog 86 #[stV 1 t n f (.slice ea e ec) ba b bc la l lc] w (FormedPost (setsC n f && flatC b l && e == 2) w) := by
  generalize hr : (setsC n f && flatC b l && e == 2) = r
  have key : setsC n f = false ∧ r = false ∨ setsC n f = true ∧ (flatC b l = false ∧ r = false ∨ flatC b l = true ∧ (((e : Int) == 2) = false ∧ r = false ∨ ((e : Int) == 2) = true ∧ r = true)) := by
    rw [← hr, show ((e : Int) == 2) = (e == 2) from len_is e 2]
    cases setsC n f <;> cases flatC b l <;> cases (e == 2) <;> simp
  clear hr
  have t0 : decide (t < 0) = false := decide_eq_false (by omega)
  have t1 : decide (1000000 < t) = false := decide_eq_false (by omega)
  clear ht0 ht1
  rcases key with ⟨h1, rfl⟩ | ⟨h1, (⟨h2, rfl⟩ | ⟨h2, (⟨h3, rfl⟩ | ⟨h3, rfl⟩)⟩)⟩
  all_goals
    go_enter Tryz.func86, Tryz.ntmps86
    go_wp2_with (first
      | (go_at_call 112; refine (blockless_any _ _ _ _ _ _ _ _ _ _ _ _).mono ?_; rintro e w2 ⟨rfl, hb2⟩; rw [h2]; have HB2 := Lib.hid (step_on HB1.out hb2); clear hb2)
      | (go_at_call 111; refine (sets_any _ _ _ _ _ _ _ _ _ _ _ _).mono ?_; rintro e w1 ⟨rfl, hb⟩; rw [h1]; obtain ⟨c0, c1, c2, c3, c4, c5, c6⟩ := cells7 ((hb.block w.heap.size (by simp)).trans (bk_new _ _)); have HB1 := Lib.hid (step_on ((Below.refl _ _).alloc (Nat.le_refl _) _) hb); clear hb))
    go_ret
    exact ⟨by simp, by first | exact HB2.out | exact HB1.out | exact (Below.refl _ _).alloc (Nat.le_refl _) _⟩
set_option maxHeartbeats 4000000 in
set_option maxRecDepth 100000 in
theorem formedS_2 (t : Int) (ht0 : 0 ≤ t) (ht1 : t ≤ 1000000) (n f : ByteArray) (ea : Option Addr) (e ec : Nat) (ba : Option Addr) (b bc : Nat) (la : Option Addr) (l lc : Nat) (w : World) :
    Calls Tryz.prog 86 #[stV 2 t n f (.slice ea e ec) ba b bc la l lc] w (FormedPost (setsC n f && flatC b l && e == 0) w) := by
  generalize hr : (setsC n f && flatC b l && e == 0) = r
  have key : setsC n f = false ∧ r = false ∨ setsC n f = true ∧ (flatC b l = false ∧ r = false ∨ flatC b l = true ∧ (((e : Int) == 0) = false ∧ r = false ∨ ((e : Int) == 0) = true ∧ r = true)) := by
    rw [← hr, show ((e : Int) == 0) = (e == 0) from len_is e 0]
    cases setsC n f <;> cases flatC b l <;> cases (e == 0) <;> simp
  clear hr
  have t0 : decide (t < 0) = false := decide_eq_false (by omega)
  have t1 : decide (1000000 < t) = false := decide_eq_false (by omega)
  clear ht0 ht1
  rcases key with ⟨h1, rfl⟩ | ⟨h1, (⟨h2, rfl⟩ | ⟨h2, (⟨h3, rfl⟩ | ⟨h3, rfl⟩)⟩)⟩
  all_goals
    go_enter Tryz.func86, Tryz.ntmps86
    go_wp2_with (first
      | (go_at_call 112; refine (blockless_any _ _ _ _ _ _ _ _ _ _ _ _).mono ?_; rintro e w2 ⟨rfl, hb2⟩; rw [h2]; have HB2 := Lib.hid (step_on HB1.out hb2); clear hb2)
      | (go_at_call 111; refine (sets_any _ _ _ _ _ _ _ _ _ _ _ _).mono ?_; rintro e w1 ⟨rfl, hb⟩; rw [h1]; obtain ⟨c0, c1, c2, c3, c4, c5, c6⟩ := cells7 ((hb.block w.heap.size (by simp)).trans (bk_new _ _)); have HB1 := Lib.hid (step_on ((Below.refl _ _).alloc (Nat.le_refl _) _) hb); clear hb))
    go_ret
    exact ⟨by simp, by first | exact HB2.out | exact HB1.out | exact (Below.refl _ _).alloc (Nat.le_refl _) _⟩
set_option maxHeartbeats 4000000 in
set_option maxRecDepth 100000 in
theorem formedS_3 (t : Int) (ht0 : 0 ≤ t) (ht1 : t ≤ 1000000) (n f : ByteArray) (ea : Option Addr) (e ec : Nat) (ba : Option Addr) (b bc : Nat) (la : Option Addr) (l lc : Nat) (w : World) :
    Calls Tryz.prog 86 #[stV 3 t n f (.slice ea e ec) ba b bc la l lc] w (FormedPost (nmB n && nmB f && flatC b l) w) := by
  generalize hr : (nmB n && nmB f && flatC b l) = r
  have key : nmB n = false ∧ r = false ∨ nmB n = true ∧ (nmB f = false ∧ r = false ∨ nmB f = true ∧ (flatC b l = false ∧ r = false ∨ flatC b l = true ∧ r = true)) := by
    rw [← hr]
    cases nmB n <;> cases nmB f <;> cases flatC b l <;> simp
  clear hr
  have t0 : decide (t < 0) = false := decide_eq_false (by omega)
  have t1 : decide (1000000 < t) = false := decide_eq_false (by omega)
  clear ht0 ht1
  rcases key with ⟨h1, rfl⟩ | ⟨h1, (⟨h2, rfl⟩ | ⟨h2, (⟨h3, rfl⟩ | ⟨h3, rfl⟩)⟩)⟩
  all_goals
    go_enter Tryz.func86, Tryz.ntmps86
    go_wp2_with (first
      | (go_at_call 112; refine (blockless_any _ _ _ _ _ _ _ _ _ _ _ _).mono ?_; rintro e w2 ⟨rfl, hb2⟩; rw [h3]; have HB2 := Lib.hid (step_on ((Below.refl _ _).alloc (Nat.le_refl _) _) hb2); clear hb2)
      | (go_at_call 64; refine (isName_any _ _).mono ?_; rintro e w' ⟨rfl, rfl⟩; first | rw [h1] | rw [h2]))
    go_ret
    exact ⟨by simp, by first | exact HB2.out | exact HB1.out | exact (Below.refl _ _).alloc (Nat.le_refl _) _⟩
set_option maxHeartbeats 4000000 in
set_option maxRecDepth 100000 in
theorem formedS_4 (t : Int) (ht0 : 0 ≤ t) (ht1 : t ≤ 1000000) (n f : ByteArray) (ea : Option Addr) (e ec : Nat) (ba : Option Addr) (b bc : Nat) (la : Option Addr) (l lc : Nat) (w : World) :
    Calls Tryz.prog 86 #[stV 4 t n f (.slice ea e ec) ba b bc la l lc] w (FormedPost (noneC n f && e == 1) w) := by
  generalize hr : (noneC n f && e == 1) = r
  have key : noneC n f = false ∧ r = false ∨ noneC n f = true ∧ (((e : Int) == 1) = false ∧ r = false ∨ ((e : Int) == 1) = true ∧ r = true) := by
    rw [← hr, show ((e : Int) == 1) = (e == 1) from len_is e 1]
    cases noneC n f <;> cases (e == 1) <;> simp
  clear hr
  have t0 : decide (t < 0) = false := decide_eq_false (by omega)
  have t1 : decide (1000000 < t) = false := decide_eq_false (by omega)
  clear ht0 ht1
  rcases key with ⟨h1, rfl⟩ | ⟨h1, (⟨h2, rfl⟩ | ⟨h2, rfl⟩)⟩
  all_goals
    go_enter Tryz.func86, Tryz.ntmps86
    go_wp2_with (first
      | (go_at_call 113; refine (nameless_any _ _ _ _ _ _ _ _ _ _ _ _).mono ?_; rintro e w1 ⟨rfl, hb⟩; rw [h1]; obtain ⟨c0, c1, c2, c3, c4, c5, c6⟩ := cells7 ((hb.block w.heap.size (by simp)).trans (bk_new _ _)); have HB1 := Lib.hid (step_on ((Below.refl _ _).alloc (Nat.le_refl _) _) hb); clear hb))
    go_ret
    exact ⟨by simp, by first | exact HB2.out | exact HB1.out | exact (Below.refl _ _).alloc (Nat.le_refl _) _⟩
set_option maxHeartbeats 4000000 in
set_option maxRecDepth 100000 in
theorem formedS_5 (t : Int) (ht0 : 0 ≤ t) (ht1 : t ≤ 1000000) (n f : ByteArray) (ea : Option Addr) (e ec : Nat) (ba : Option Addr) (b bc : Nat) (la : Option Addr) (l lc : Nat) (w : World) :
    Calls Tryz.prog 86 #[stV 5 t n f (.slice ea e ec) ba b bc la l lc] w (FormedPost (noneC n f && l == 0 && e == 1) w) := by
  generalize hr : (noneC n f && l == 0 && e == 1) = r
  have key : noneC n f = false ∧ r = false ∨ noneC n f = true ∧ (((l : Int) == 0) = false ∧ r = false ∨ ((l : Int) == 0) = true ∧ (((e : Int) == 1) = false ∧ r = false ∨ ((e : Int) == 1) = true ∧ r = true)) := by
    rw [← hr, show ((l : Int) == 0) = (l == 0) from len_is l 0, show ((e : Int) == 1) = (e == 1) from len_is e 1]
    cases noneC n f <;> cases (l == 0) <;> cases (e == 1) <;> simp
  clear hr
  have t0 : decide (t < 0) = false := decide_eq_false (by omega)
  have t1 : decide (1000000 < t) = false := decide_eq_false (by omega)
  clear ht0 ht1
  rcases key with ⟨h1, rfl⟩ | ⟨h1, (⟨h2, rfl⟩ | ⟨h2, (⟨h3, rfl⟩ | ⟨h3, rfl⟩)⟩)⟩
  all_goals
    go_enter Tryz.func86, Tryz.ntmps86
    go_wp2_with (first
      | (go_at_call 113; refine (nameless_any _ _ _ _ _ _ _ _ _ _ _ _).mono ?_; rintro e w1 ⟨rfl, hb⟩; rw [h1]; obtain ⟨c0, c1, c2, c3, c4, c5, c6⟩ := cells7 ((hb.block w.heap.size (by simp)).trans (bk_new _ _)); have HB1 := Lib.hid (step_on ((Below.refl _ _).alloc (Nat.le_refl _) _) hb); clear hb))
    go_ret
    exact ⟨by simp, by first | exact HB2.out | exact HB1.out | exact (Below.refl _ _).alloc (Nat.le_refl _) _⟩
set_option maxHeartbeats 4000000 in
set_option maxRecDepth 100000 in
theorem formedS_6 (t : Int) (ht0 : 0 ≤ t) (ht1 : t ≤ 1000000) (n f : ByteArray) (ea : Option Addr) (e ec : Nat) (ba : Option Addr) (b bc : Nat) (la : Option Addr) (l lc : Nat) (w : World) :
    Calls Tryz.prog 86 #[stV 6 t n f (.slice ea e ec) ba b bc la l lc] w (FormedPost (noneC n f && flatC b l && e == 0) w) := by
  generalize hr : (noneC n f && flatC b l && e == 0) = r
  have key : noneC n f = false ∧ r = false ∨ noneC n f = true ∧ (flatC b l = false ∧ r = false ∨ flatC b l = true ∧ (((e : Int) == 0) = false ∧ r = false ∨ ((e : Int) == 0) = true ∧ r = true)) := by
    rw [← hr, show ((e : Int) == 0) = (e == 0) from len_is e 0]
    cases noneC n f <;> cases flatC b l <;> cases (e == 0) <;> simp
  clear hr
  have t0 : decide (t < 0) = false := decide_eq_false (by omega)
  have t1 : decide (1000000 < t) = false := decide_eq_false (by omega)
  clear ht0 ht1
  rcases key with ⟨h1, rfl⟩ | ⟨h1, (⟨h2, rfl⟩ | ⟨h2, (⟨h3, rfl⟩ | ⟨h3, rfl⟩)⟩)⟩
  all_goals
    go_enter Tryz.func86, Tryz.ntmps86
    go_wp2_with (first
      | (go_at_call 112; refine (blockless_any _ _ _ _ _ _ _ _ _ _ _ _).mono ?_; rintro e w2 ⟨rfl, hb2⟩; rw [h2]; have HB2 := Lib.hid (step_on HB1.out hb2); clear hb2)
      | (go_at_call 113; refine (nameless_any _ _ _ _ _ _ _ _ _ _ _ _).mono ?_; rintro e w1 ⟨rfl, hb⟩; rw [h1]; obtain ⟨c0, c1, c2, c3, c4, c5, c6⟩ := cells7 ((hb.block w.heap.size (by simp)).trans (bk_new _ _)); have HB1 := Lib.hid (step_on ((Below.refl _ _).alloc (Nat.le_refl _) _) hb); clear hb))
    go_ret
    exact ⟨by simp, by first | exact HB2.out | exact HB1.out | exact (Below.refl _ _).alloc (Nat.le_refl _) _⟩
set_option maxHeartbeats 4000000 in
set_option maxRecDepth 100000 in
theorem formedS_7 (t : Int) (ht0 : 0 ≤ t) (ht1 : t ≤ 1000000) (n f : ByteArray) (ea : Option Addr) (e ec : Nat) (ba : Option Addr) (b bc : Nat) (la : Option Addr) (l lc : Nat) (w : World) :
    Calls Tryz.prog 86 #[stV 7 t n f (.slice ea e ec) ba b bc la l lc] w (FormedPost (noneC n f && flatC b l && e == 0) w) := by
  generalize hr : (noneC n f && flatC b l && e == 0) = r
  have key : noneC n f = false ∧ r = false ∨ noneC n f = true ∧ (flatC b l = false ∧ r = false ∨ flatC b l = true ∧ (((e : Int) == 0) = false ∧ r = false ∨ ((e : Int) == 0) = true ∧ r = true)) := by
    rw [← hr, show ((e : Int) == 0) = (e == 0) from len_is e 0]
    cases noneC n f <;> cases flatC b l <;> cases (e == 0) <;> simp
  clear hr
  have t0 : decide (t < 0) = false := decide_eq_false (by omega)
  have t1 : decide (1000000 < t) = false := decide_eq_false (by omega)
  clear ht0 ht1
  rcases key with ⟨h1, rfl⟩ | ⟨h1, (⟨h2, rfl⟩ | ⟨h2, (⟨h3, rfl⟩ | ⟨h3, rfl⟩)⟩)⟩
  all_goals
    go_enter Tryz.func86, Tryz.ntmps86
    go_wp2_with (first
      | (go_at_call 112; refine (blockless_any _ _ _ _ _ _ _ _ _ _ _ _).mono ?_; rintro e w2 ⟨rfl, hb2⟩; rw [h2]; have HB2 := Lib.hid (step_on HB1.out hb2); clear hb2)
      | (go_at_call 113; refine (nameless_any _ _ _ _ _ _ _ _ _ _ _ _).mono ?_; rintro e w1 ⟨rfl, hb⟩; rw [h1]; obtain ⟨c0, c1, c2, c3, c4, c5, c6⟩ := cells7 ((hb.block w.heap.size (by simp)).trans (bk_new _ _)); have HB1 := Lib.hid (step_on ((Below.refl _ _).alloc (Nat.le_refl _) _) hb); clear hb))
    go_ret
    exact ⟨by simp, by first | exact HB2.out | exact HB1.out | exact (Below.refl _ _).alloc (Nat.le_refl _) _⟩
set_option maxHeartbeats 4000000 in
set_option maxRecDepth 100000 in
theorem formedS_8 (t : Int) (ht0 : 0 ≤ t) (ht1 : t ≤ 1000000) (n f : ByteArray) (ea : Option Addr) (e ec : Nat) (ba : Option Addr) (b bc : Nat) (la : Option Addr) (l lc : Nat) (w : World) :
    Calls Tryz.prog 86 #[stV 8 t n f (.slice ea e ec) ba b bc la l lc] w (FormedPost (noneC n f && flatC b l && e == 1) w) := by
  generalize hr : (noneC n f && flatC b l && e == 1) = r
  have key : noneC n f = false ∧ r = false ∨ noneC n f = true ∧ (flatC b l = false ∧ r = false ∨ flatC b l = true ∧ (((e : Int) == 1) = false ∧ r = false ∨ ((e : Int) == 1) = true ∧ r = true)) := by
    rw [← hr, show ((e : Int) == 1) = (e == 1) from len_is e 1]
    cases noneC n f <;> cases flatC b l <;> cases (e == 1) <;> simp
  clear hr
  have t0 : decide (t < 0) = false := decide_eq_false (by omega)
  have t1 : decide (1000000 < t) = false := decide_eq_false (by omega)
  clear ht0 ht1
  rcases key with ⟨h1, rfl⟩ | ⟨h1, (⟨h2, rfl⟩ | ⟨h2, (⟨h3, rfl⟩ | ⟨h3, rfl⟩)⟩)⟩
  all_goals
    go_enter Tryz.func86, Tryz.ntmps86
    go_wp2_with (first
      | (go_at_call 112; refine (blockless_any _ _ _ _ _ _ _ _ _ _ _ _).mono ?_; rintro e w2 ⟨rfl, hb2⟩; rw [h2]; have HB2 := Lib.hid (step_on HB1.out hb2); clear hb2)
      | (go_at_call 113; refine (nameless_any _ _ _ _ _ _ _ _ _ _ _ _).mono ?_; rintro e w1 ⟨rfl, hb⟩; rw [h1]; obtain ⟨c0, c1, c2, c3, c4, c5, c6⟩ := cells7 ((hb.block w.heap.size (by simp)).trans (bk_new _ _)); have HB1 := Lib.hid (step_on ((Below.refl _ _).alloc (Nat.le_refl _) _) hb); clear hb))
    go_ret
    exact ⟨by simp, by first | exact HB2.out | exact HB1.out | exact (Below.refl _ _).alloc (Nat.le_refl _) _⟩
set_option maxHeartbeats 4000000 in
set_option maxRecDepth 100000 in
theorem formedS_9 (t : Int) (ht0 : 0 ≤ t) (ht1 : t ≤ 1000000) (n f : ByteArray) (ea : Option Addr) (e ec : Nat) (ba : Option Addr) (b bc : Nat) (la : Option Addr) (l lc : Nat) (w : World) :
    Calls Tryz.prog 86 #[stV 9 t n f (.slice ea e ec) ba b bc la l lc] w (FormedPost (noneC n f && flatC b l && e == 1) w) := by
  generalize hr : (noneC n f && flatC b l && e == 1) = r
  have key : noneC n f = false ∧ r = false ∨ noneC n f = true ∧ (flatC b l = false ∧ r = false ∨ flatC b l = true ∧ (((e : Int) == 1) = false ∧ r = false ∨ ((e : Int) == 1) = true ∧ r = true)) := by
    rw [← hr, show ((e : Int) == 1) = (e == 1) from len_is e 1]
    cases noneC n f <;> cases flatC b l <;> cases (e == 1) <;> simp
  clear hr
  have t0 : decide (t < 0) = false := decide_eq_false (by omega)
  have t1 : decide (1000000 < t) = false := decide_eq_false (by omega)
  clear ht0 ht1
  rcases key with ⟨h1, rfl⟩ | ⟨h1, (⟨h2, rfl⟩ | ⟨h2, (⟨h3, rfl⟩ | ⟨h3, rfl⟩)⟩)⟩
  all_goals
    go_enter Tryz.func86, Tryz.ntmps86
    go_wp2_with (first
      | (go_at_call 112; refine (blockless_any _ _ _ _ _ _ _ _ _ _ _ _).mono ?_; rintro e w2 ⟨rfl, hb2⟩; rw [h2]; have HB2 := Lib.hid (step_on HB1.out hb2); clear hb2)
      | (go_at_call 113; refine (nameless_any _ _ _ _ _ _ _ _ _ _ _ _).mono ?_; rintro e w1 ⟨rfl, hb⟩; rw [h1]; obtain ⟨c0, c1, c2, c3, c4, c5, c6⟩ := cells7 ((hb.block w.heap.size (by simp)).trans (bk_new _ _)); have HB1 := Lib.hid (step_on ((Below.refl _ _).alloc (Nat.le_refl _) _) hb); clear hb))
    go_ret
    exact ⟨by simp, by first | exact HB2.out | exact HB1.out | exact (Below.refl _ _).alloc (Nat.le_refl _) _⟩
set_option maxHeartbeats 4000000 in
set_option maxRecDepth 100000 in
theorem formedS_any (k t : Int) (n f : ByteArray) (ea : Option Addr) (e ec : Nat) (ba : Option Addr) (b bc : Nat) (la : Option Addr) (l lc : Nat) (w : World) :
    Calls Tryz.prog 86 #[stV k t n f (.slice ea e ec) ba b bc la l lc] w (FormedPost (formedS k t n f e b l) w) := by
  unfold formedS
  by_cases ht : t < 0 ∨ 1000000 < t
  · rw [if_pos ht]
    rcases (show decide (t < 0) = true ∨ (decide (t < 0) = false ∧ decide (1000000 < t) = true) by
      by_cases h : t < 0
      · exact .inl (decide_eq_true h)
      · exact .inr ⟨decide_eq_false h, decide_eq_true (by omega)⟩) with ht' | ⟨ht', ht2⟩
    all_goals
      clear ht
      go_enter Tryz.func86, Tryz.ntmps86
      go_wp2_with fail
      go_ret
      exact ⟨by simp, (Below.refl _ _).alloc (Nat.le_refl _) _⟩
  rw [if_neg ht]
  have ht0 : 0 ≤ t := by omega
  have ht1 : t ≤ 1000000 := by omega
  clear ht
  by_cases h0 : k = 0
  · subst h0; rw [if_pos rfl]; exact formedS_0 t ht0 ht1 n f ea e ec ba b bc la l lc w
  rw [if_neg h0]
  by_cases h1 : k = 1
  · subst h1; rw [if_pos rfl]; exact formedS_1 t ht0 ht1 n f ea e ec ba b bc la l lc w
  rw [if_neg h1]
  by_cases h2 : k = 2
  · subst h2; rw [if_pos rfl]; exact formedS_2 t ht0 ht1 n f ea e ec ba b bc la l lc w
  rw [if_neg h2]
  by_cases h3 : k = 3
  · subst h3; rw [if_pos rfl]; exact formedS_3 t ht0 ht1 n f ea e ec ba b bc la l lc w
  rw [if_neg h3]
  by_cases h4 : k = 4
  · subst h4; rw [if_pos rfl]; exact formedS_4 t ht0 ht1 n f ea e ec ba b bc la l lc w
  rw [if_neg h4]
  by_cases h5 : k = 5
  · subst h5; rw [if_pos rfl]; exact formedS_5 t ht0 ht1 n f ea e ec ba b bc la l lc w
  rw [if_neg h5]
  by_cases h6 : k = 6
  · subst h6; rw [if_pos rfl]; exact formedS_6 t ht0 ht1 n f ea e ec ba b bc la l lc w
  rw [if_neg h6]
  by_cases h7 : k = 7
  · subst h7; rw [if_pos rfl]; exact formedS_7 t ht0 ht1 n f ea e ec ba b bc la l lc w
  rw [if_neg h7]
  by_cases h8 : k = 8
  · subst h8; rw [if_pos rfl]; exact formedS_8 t ht0 ht1 n f ea e ec ba b bc la l lc w
  rw [if_neg h8]
  by_cases h9 : k = 9
  · subst h9; rw [if_pos rfl]; exact formedS_9 t ht0 ht1 n f ea e ec ba b bc la l lc w
  rw [if_neg h9]
  have t0 : decide (t < 0) = false := decide_eq_false (by omega)
  have t1 : decide (1000000 < t) = false := decide_eq_false (by omega)
  clear ht0 ht1
  go_enter Tryz.func86, Tryz.ntmps86
  go_wp2_with fail
  go_ret
  exact ⟨by simp, (Below.refl _ _).alloc (Nat.le_refl _) _⟩
end Go.Proofs.YtppeogcpoplpeaaGreatDoor
