/- What is put of two programs that may run is alike just if they are the same: the walk of TreePuts. -/
import Derived.Test.YtppeogcpoplpeaaGreatDoorTPutsF
import Derived.Test.YtppeogcpoplpeaaGreatDoorTFeedE2
import Derived.Deep.RegionHeld3
import Derived.BigGuardPart
set_option linter.unusedSimpArgs false
set_option linter.unusedVariables false
namespace Go.Proofs.YtppeogcpoplpeaaGreatDoor
open Go Go.RowKit

theorem own_set {w1 : World} {X Y : Nat} {a0 a1 a2 a3 u v : Value} {t : TypeId} (hne : Y ≠ X) (hY : w1.heap[Y]? = some (.cells #[a0, a1, a2, a3] t (0, 0))) :
    ((w1.setCell ⟨X, 1, none⟩ u).setCell ⟨Y, 1, none⟩ v).heap[Y]? = some (.cells #[a0, v, a2, a3] t (0, 0)) :=
  bk_set (k := 1) v ((Below.heap_setCell w1 ⟨X, 1, none⟩ u Y hne).trans hY)
theorem own_copy {w1 : World} {X Y : Nat} {a0 a1 a2 a3 u v b0 b1 b2 b3 : Value} {t : TypeId} (hne : Y ≠ X) (hY : w1.heap[Y]? = some (.cells #[a0, a1, a2, a3] t (0, 0))) :
    ((((((w1.setCell ⟨X, 1, none⟩ u).setCell ⟨Y, 1, none⟩ v).setCell ⟨Y, 0, none⟩ b0).setCell ⟨Y, 1, none⟩ b1).setCell ⟨Y, 2, none⟩ b2).setCell ⟨Y, 3, none⟩ b3).heap[Y]? = some (.cells #[b0, b1, b2, b3] t (0, 0)) :=
  bk_set (k := 3) b3 (bk_set (k := 2) b2 (bk_set (k := 1) b1 (bk_set (k := 0) b0 (own_set hne hY))))
set_option maxHeartbeats 20000000 in
set_option maxRecDepth 100000 in
theorem puts_true (pa : Option Addr) (pn pc : Nat) (own : Bool) (la : Option Addr) (ln lc : Nat) (zl : List Int) (ga : Option Addr) (gn gc : Nat) (zg : List Int) (pa' : Option Addr) (pn' pc' : Nat) (own' : Bool) (la' : Option Addr) (ln' lc' : Nat) (zl' : List Int) (ga' : Option Addr) (gn' gc' : Nat) (zg' : List Int)
    (w : World) (H : Pow w) (r0 : RowIn .u8 w la ln zl) (r1 : RowIn .u8 w ga gn zg) (hg : gn ≤ gc) (r2 : RowIn .u8 w la' ln' zl') (r3 : RowIn .u8 w ga' gn' zg') (hg' : gn' ≤ gc') :
    Calls Tryz.prog 4 #[.agg #[.slice pa pn pc, .bool own, .slice la ln lc, .slice ga gn gc], .agg #[.slice pa' pn' pc', .bool own', .slice la' ln' lc', .slice ga' gn' gc'], .bool true] w fun e w' => e = .returned (.bool true) ∧ Below w.heap.size w w' := by
  have HP := Lib.hid H
  have R0 := Lib.hid r0
  have R1 := Lib.hid r1
  have R2 := Lib.hid r2
  have R3 := Lib.hid r3
  have GC := Lib.hid hg
  have GC' := Lib.hid hg'
  clear H r0 r1 r2 r3 hg hg'
  go_enter Tryz.func4, Tryz.ntmps4
  go_wp2_with (first
    | (go_at_call 10; refine (code_call _ (R0.out.on (HB3.out.alloc HB3.out.size _)) (R1.out.on (HB3.out.alloc HB3.out.size _)) GC.out).mono ?_; rintro e w4 ⟨M, F', G', K', rfl, hin4, g4, t4, -, -, hb4⟩; have HB4 := Lib.hid hb4; have HIN4 := Lib.hid hin4; have HG4 := Lib.hid (And.intro g4 t4); clear hb4 hin4 g4 t4)
    | (go_at_call 10; refine (code_call _ (R0.out.on ?_) (R1.out.on ?_) GC.out).mono ?_; (repeat (first | with_reducible exact HB1.out | (with_reducible refine Below.setCell ?_ ?_ _) | simp)); rintro e w3 ⟨N, F, G, K, rfl, hin3, g3, t3, -, -, hb3⟩; have hY3 : w3.heap[w.heap.size + 1]? = some (.cells #[.slice pa pn pc, .bool true, .slice la ln lc, .slice ga gn gc] 27 (0, 0)) := (hb3.block _ (by simp [World.setCell]; omega)).trans (own_copy (by omega) HY.out); clear x0 x1 x2 x3 y0 y1 y2 y3 fx fy; have y0 := bk_cell (k := 0) hY3 rfl; have y1 := bk_cell (k := 1) hY3 rfl; have y2 := bk_cell (k := 2) hY3 rfl; have y3 := bk_cell (k := 3) hY3 rfl; have l3 := lt_of_block hY3; have HB3 : Hid (Below w.heap.size w w3) := Lib.hid (Below.trans (show Below w.heap.size w _ from by (repeat (first | with_reducible exact HB1.out | (with_reducible refine Below.setCell ?_ ?_ _) | simp))) (hb3.mono (by simp [World.setCell]; have := HB1.out.size; omega))); have HIN3 := Lib.hid hin3; have HG3 := Lib.hid (And.intro g3 t3); clear hb3 hY3 hin3 g3 t3)
    | (go_at_call 9; refine (ex_any HP.out _ (((Past.refl w).alloc _).alloc _)).mono ?_; rintro e w1 ⟨rfl, hb1⟩; have hX := (hb1.block w.heap.size (by simp; omega)).trans (bk_old _ (bk_new w _)); have hY := (hb1.block (w.heap.size + 1) (by simp)).trans (bk_new' _ (by simp)); have x0 := bk_cell (k := 0) hX rfl; have x1 := bk_cell (k := 1) hX rfl; have x2 := bk_cell (k := 2) hX rfl; have x3 := bk_cell (k := 3) hX rfl; have y0 := bk_cell (k := 0) hY rfl; have y1 := bk_cell (k := 1) hY rfl; have y2 := bk_cell (k := 2) hY rfl; have y3 := bk_cell (k := 3) hY rfl; have fx := fun k => bk_free (k := k) hX; have fy := fun k => bk_free (k := k) hY; have lx := lt_of_block hX; have ly := lt_of_block hY; have HX := Lib.hid hX; have HY := Lib.hid hY; have HB1 : Hid (Below w.heap.size w w1) := Lib.hid (step_on (((Below.refl _ _).alloc (Nat.le_refl _) _).alloc (by simp) _) hb1); clear hX hY hb1))
  have s1 := HB1.out.size
  have s3 := HB3.out.size
  have s4 := HB4.out.size
  have b4 : Below w3.heap.size w3 w4 := step_on ((Below.refl _ _).alloc (Nat.le_refl _) (.cells #[.slice (some ⟨N, 0, none⟩) 3 3] 24)) HB4.out
  have b5 : Below w4.heap.size w4 (w4.alloc (.cells #[.slice (some ⟨M, 0, none⟩) 3 3] 24)) := (Below.refl _ _).alloc (Nat.le_refl _) _
  have B9 : Below w.heap.size w (w4.alloc (.cells #[.slice (some ⟨M, 0, none⟩) 3 3] 24)) := step_on (step_on HB3.out b4) b5
  have f3 := ((HIN3.out.on b4).on b5).mono (B' := 0) (Nat.zero_le _)
  have f4 := (HIN4.out.on b5).mono (B' := 0) (Nat.zero_le _)
  have hX9 : (w4.alloc (.cells #[.slice (some ⟨M, 0, none⟩) 3 3] 24)).heap[w3.heap.size]? = some (.cells #[.slice (some ⟨N, 0, none⟩) 3 3] 24) := bk_old _ ((HB4.out.block _ (by simp)).trans (bk_new _ _))
  have hY9 : (w4.alloc (.cells #[.slice (some ⟨M, 0, none⟩) 3 3] 24)).heap[w4.heap.size]? = some (.cells #[.slice (some ⟨M, 0, none⟩) 3 3] 24) := bk_new _ _
  have P9 : Pow (w4.alloc (.cells #[.slice (some ⟨M, 0, none⟩) 3 3] 24)) := HP.out.on (show Past w _ from B9)
  obtain ⟨tx, ty, sv, pf⟩ := puts_facts P9 f3 f4 HG3.out.1 HG4.out.1 HG3.out.2 HG4.out.2
  have HB9 := Lib.hid B9
  have HX9 := Lib.hid hX9
  have HY9 := Lib.hid hY9
  have PF := Lib.hid pf
  clear s1 s3 s4 b4 b5 B9 f3 f4 hX9 hY9 P9 pf HIN3 HIN4 HG3 HG4 HB1 HX HY HP R0 R1 R2 R3
  clear y0 y1 y2 y3 l3 lx ly
  generalize w4.alloc (.cells #[.slice (some ⟨M, 0, none⟩) 3 3] 24) = w9 at HB9 HX9 HY9 PF ⊢
  have LX := Lib.hid (lt_of_block HX9.out)
  have LY := Lib.hid (lt_of_block HY9.out)
  clear HB3 HB4
  generalize w3.heap.size = X at HX9 LX ⊢
  generalize w4.heap.size = Y at HY9 LY ⊢
  have hp : Hid (Past w9 w9.drew) := Lib.hid (Below.refl w9.heap.size w9).drew
  have x0 : w9.cell? ⟨X, 0, none⟩ = some (.slice (some ⟨N, 0, none⟩) 3 3) := bk_cell (k := 0) HX9.out rfl
  have y0 : w9.cell? ⟨Y, 0, none⟩ = some (.slice (some ⟨M, 0, none⟩) 3 3) := bk_cell (k := 0) HY9.out rfl
  have hq := PF.out.eq
  go_region_held3 (fun w' => w'.cell? ⟨X, 0, none⟩ = some (.slice (some ⟨N, 0, none⟩) 3 3) ∧ w'.cell? ⟨Y, 0, none⟩ = some (.slice (some ⟨M, 0, none⟩) 3 3)) ((refine ⟨?_, ?_⟩ <;> (first | with_reducible assumption | (with_reducible refine cellD ?_; with_reducible assumption))))
    (first
      | (go_at_call 12; ((with_reducible refine (PF.out.r1 _ hp.out).mono ?_); rintro e wk ⟨rfl, hb⟩); have hq := Lib.hid (hp.out.on hb); clear hp hb; have hp := hq; clear hq; have x0 : wk.cell? ⟨X, 0, none⟩ = some (.slice (some ⟨N, 0, none⟩) 3 3) := bk_cell (k := 0) ((hp.out.block X LX.out).trans HX9.out) rfl; have y0 : wk.cell? ⟨Y, 0, none⟩ = some (.slice (some ⟨M, 0, none⟩) 3 3) := bk_cell (k := 0) ((hp.out.block Y LY.out).trans HY9.out) rfl)
      | (go_at_call 12; ((with_reducible refine (PF.out.r2 _ hp.out).mono ?_); rintro e wk ⟨rfl, hb⟩); have hq := Lib.hid (hp.out.on hb); clear hp hb; have hp := hq; clear hq; have x0 : wk.cell? ⟨X, 0, none⟩ = some (.slice (some ⟨N, 0, none⟩) 3 3) := bk_cell (k := 0) ((hp.out.block X LX.out).trans HX9.out) rfl; have y0 : wk.cell? ⟨Y, 0, none⟩ = some (.slice (some ⟨M, 0, none⟩) 3 3) := bk_cell (k := 0) ((hp.out.block Y LY.out).trans HY9.out) rfl)
      | (go_at_call 19; ((with_reducible refine (PF.out.p1 _ hp.out).mono ?_); rintro e wk ⟨rfl, hb⟩); have hq := Lib.hid (hp.out.on hb); clear hp hb; have hp := hq; clear hq; have x0 : wk.cell? ⟨X, 0, none⟩ = some (.slice (some ⟨N, 0, none⟩) 3 3) := bk_cell (k := 0) ((hp.out.block X LX.out).trans HX9.out) rfl; have y0 : wk.cell? ⟨Y, 0, none⟩ = some (.slice (some ⟨M, 0, none⟩) 3 3) := bk_cell (k := 0) ((hp.out.block Y LY.out).trans HY9.out) rfl)
      | (go_at_call 19; ((with_reducible refine (PF.out.p2 _ hp.out).mono ?_); rintro e wk ⟨rfl, hb⟩); have hq := Lib.hid (hp.out.on hb); clear hp hb; have hp := hq; clear hq; have x0 : wk.cell? ⟨X, 0, none⟩ = some (.slice (some ⟨N, 0, none⟩) 3 3) := bk_cell (k := 0) ((hp.out.block X LX.out).trans HX9.out) rfl; have y0 : wk.cell? ⟨Y, 0, none⟩ = some (.slice (some ⟨M, 0, none⟩) 3 3) := bk_cell (k := 0) ((hp.out.block Y LY.out).trans HY9.out) rfl)
      | (go_at_call 14; ((with_reducible refine (PF.out.sm _ hp.out).mono ?_); rintro e wk ⟨rfl, hb⟩); have hq := Lib.hid (hp.out.on hb); clear hp hb; have hp := hq; clear hq; have x0 : wk.cell? ⟨X, 0, none⟩ = some (.slice (some ⟨N, 0, none⟩) 3 3) := bk_cell (k := 0) ((hp.out.block X LX.out).trans HX9.out) rfl; have y0 : wk.cell? ⟨Y, 0, none⟩ = some (.slice (some ⟨M, 0, none⟩) 3 3) := bk_cell (k := 0) ((hp.out.block Y LY.out).trans HY9.out) rfl))
  go_wp2
  go_ret
  exact ⟨by simp [hq], step_on HB9.out hp.out⟩
set_option maxHeartbeats 20000000 in
set_option maxRecDepth 100000 in
theorem puts_false (pa : Option Addr) (pn pc : Nat) (own : Bool) (la : Option Addr) (ln lc : Nat) (zl : List Int) (ga : Option Addr) (gn gc : Nat) (zg : List Int) (pa' : Option Addr) (pn' pc' : Nat) (own' : Bool) (la' : Option Addr) (ln' lc' : Nat) (zl' : List Int) (ga' : Option Addr) (gn' gc' : Nat) (zg' : List Int)
    (w : World) (H : Pow w) (r0 : RowIn .u8 w la ln zl) (r1 : RowIn .u8 w ga gn zg) (hg : gn ≤ gc) (r2 : RowIn .u8 w la' ln' zl') (r3 : RowIn .u8 w ga' gn' zg') (hg' : gn' ≤ gc') :
    Calls Tryz.prog 4 #[.agg #[.slice pa pn pc, .bool own, .slice la ln lc, .slice ga gn gc], .agg #[.slice pa' pn' pc', .bool own', .slice la' ln' lc', .slice ga' gn' gc'], .bool false] w fun e w' => e = .returned (.bool true) ∧ Below w.heap.size w w' := by
  have HP := Lib.hid H
  have R0 := Lib.hid r0
  have R1 := Lib.hid r1
  have R2 := Lib.hid r2
  have R3 := Lib.hid r3
  have GC := Lib.hid hg
  have GC' := Lib.hid hg'
  clear H r0 r1 r2 r3 hg hg'
  go_enter Tryz.func4, Tryz.ntmps4
  go_wp2_with (first
    | (go_at_call 10; refine (code_call _ (R2.out.on (HB3.out.alloc HB3.out.size _)) (R3.out.on (HB3.out.alloc HB3.out.size _)) GC'.out).mono ?_; rintro e w4 ⟨M, F', G', K', rfl, hin4, g4, t4, -, -, hb4⟩; have HB4 := Lib.hid hb4; have HIN4 := Lib.hid hin4; have HG4 := Lib.hid (And.intro g4 t4); clear hb4 hin4 g4 t4)
    | (go_at_call 10; refine (code_call _ (R0.out.on ?_) (R1.out.on ?_) GC.out).mono ?_; (repeat (first | with_reducible exact HB1.out | (with_reducible refine Below.setCell ?_ ?_ _) | simp)); rintro e w3 ⟨N, F, G, K, rfl, hin3, g3, t3, -, -, hb3⟩; have hY3 : w3.heap[w.heap.size + 1]? = some (.cells #[.slice pa' pn' pc', .bool true, .slice la' ln' lc', .slice ga' gn' gc'] 27 (0, 0)) := (hb3.block _ (by simp [World.setCell]; omega)).trans (own_set (by omega) HY.out); clear x0 x1 x2 x3 y0 y1 y2 y3 fx fy; have y0 := bk_cell (k := 0) hY3 rfl; have y1 := bk_cell (k := 1) hY3 rfl; have y2 := bk_cell (k := 2) hY3 rfl; have y3 := bk_cell (k := 3) hY3 rfl; have l3 := lt_of_block hY3; have HB3 : Hid (Below w.heap.size w w3) := Lib.hid (Below.trans (show Below w.heap.size w _ from by (repeat (first | with_reducible exact HB1.out | (with_reducible refine Below.setCell ?_ ?_ _) | simp))) (hb3.mono (by simp [World.setCell]; have := HB1.out.size; omega))); have HIN3 := Lib.hid hin3; have HG3 := Lib.hid (And.intro g3 t3); clear hb3 hY3 hin3 g3 t3)
    | (go_at_call 9; refine (ex_any HP.out _ (((Past.refl w).alloc _).alloc _)).mono ?_; rintro e w1 ⟨rfl, hb1⟩; have hX := (hb1.block w.heap.size (by simp; omega)).trans (bk_old _ (bk_new w _)); have hY := (hb1.block (w.heap.size + 1) (by simp)).trans (bk_new' _ (by simp)); have x0 := bk_cell (k := 0) hX rfl; have x1 := bk_cell (k := 1) hX rfl; have x2 := bk_cell (k := 2) hX rfl; have x3 := bk_cell (k := 3) hX rfl; have y0 := bk_cell (k := 0) hY rfl; have y1 := bk_cell (k := 1) hY rfl; have y2 := bk_cell (k := 2) hY rfl; have y3 := bk_cell (k := 3) hY rfl; have fx := fun k => bk_free (k := k) hX; have fy := fun k => bk_free (k := k) hY; have lx := lt_of_block hX; have ly := lt_of_block hY; have HX := Lib.hid hX; have HY := Lib.hid hY; have HB1 : Hid (Below w.heap.size w w1) := Lib.hid (step_on (((Below.refl _ _).alloc (Nat.le_refl _) _).alloc (by simp) _) hb1); clear hX hY hb1))
  have s1 := HB1.out.size
  have s3 := HB3.out.size
  have s4 := HB4.out.size
  have b4 : Below w3.heap.size w3 w4 := step_on ((Below.refl _ _).alloc (Nat.le_refl _) (.cells #[.slice (some ⟨N, 0, none⟩) 3 3] 24)) HB4.out
  have b5 : Below w4.heap.size w4 (w4.alloc (.cells #[.slice (some ⟨M, 0, none⟩) 3 3] 24)) := (Below.refl _ _).alloc (Nat.le_refl _) _
  have B9 : Below w.heap.size w (w4.alloc (.cells #[.slice (some ⟨M, 0, none⟩) 3 3] 24)) := step_on (step_on HB3.out b4) b5
  have f3 := ((HIN3.out.on b4).on b5).mono (B' := 0) (Nat.zero_le _)
  have f4 := (HIN4.out.on b5).mono (B' := 0) (Nat.zero_le _)
  have hX9 : (w4.alloc (.cells #[.slice (some ⟨M, 0, none⟩) 3 3] 24)).heap[w3.heap.size]? = some (.cells #[.slice (some ⟨N, 0, none⟩) 3 3] 24) := bk_old _ ((HB4.out.block _ (by simp)).trans (bk_new _ _))
  have hY9 : (w4.alloc (.cells #[.slice (some ⟨M, 0, none⟩) 3 3] 24)).heap[w4.heap.size]? = some (.cells #[.slice (some ⟨M, 0, none⟩) 3 3] 24) := bk_new _ _
  have P9 : Pow (w4.alloc (.cells #[.slice (some ⟨M, 0, none⟩) 3 3] 24)) := HP.out.on (show Past w _ from B9)
  obtain ⟨tx, ty, sv, pf⟩ := puts_facts P9 f3 f4 HG3.out.1 HG4.out.1 HG3.out.2 HG4.out.2
  have HB9 := Lib.hid B9
  have HX9 := Lib.hid hX9
  have HY9 := Lib.hid hY9
  have PF := Lib.hid pf
  clear s1 s3 s4 b4 b5 B9 f3 f4 hX9 hY9 P9 pf HIN3 HIN4 HG3 HG4 HB1 HX HY HP R0 R1 R2 R3
  clear y0 y1 y2 y3 l3 lx ly
  generalize w4.alloc (.cells #[.slice (some ⟨M, 0, none⟩) 3 3] 24) = w9 at HB9 HX9 HY9 PF ⊢
  have LX := Lib.hid (lt_of_block HX9.out)
  have LY := Lib.hid (lt_of_block HY9.out)
  clear HB3 HB4
  generalize w3.heap.size = X at HX9 LX ⊢
  generalize w4.heap.size = Y at HY9 LY ⊢
  have hp : Hid (Past w9 w9.drew) := Lib.hid (Below.refl w9.heap.size w9).drew
  have x0 : w9.cell? ⟨X, 0, none⟩ = some (.slice (some ⟨N, 0, none⟩) 3 3) := bk_cell (k := 0) HX9.out rfl
  have y0 : w9.cell? ⟨Y, 0, none⟩ = some (.slice (some ⟨M, 0, none⟩) 3 3) := bk_cell (k := 0) HY9.out rfl
  have hq := PF.out.eq
  go_region_held3 (fun w' => w'.cell? ⟨X, 0, none⟩ = some (.slice (some ⟨N, 0, none⟩) 3 3) ∧ w'.cell? ⟨Y, 0, none⟩ = some (.slice (some ⟨M, 0, none⟩) 3 3)) ((refine ⟨?_, ?_⟩ <;> (first | with_reducible assumption | (with_reducible refine cellD ?_; with_reducible assumption))))
    (first
      | (go_at_call 12; ((with_reducible refine (PF.out.r1 _ hp.out).mono ?_); rintro e wk ⟨rfl, hb⟩); have hq := Lib.hid (hp.out.on hb); clear hp hb; have hp := hq; clear hq; have x0 : wk.cell? ⟨X, 0, none⟩ = some (.slice (some ⟨N, 0, none⟩) 3 3) := bk_cell (k := 0) ((hp.out.block X LX.out).trans HX9.out) rfl; have y0 : wk.cell? ⟨Y, 0, none⟩ = some (.slice (some ⟨M, 0, none⟩) 3 3) := bk_cell (k := 0) ((hp.out.block Y LY.out).trans HY9.out) rfl)
      | (go_at_call 12; ((with_reducible refine (PF.out.r2 _ hp.out).mono ?_); rintro e wk ⟨rfl, hb⟩); have hq := Lib.hid (hp.out.on hb); clear hp hb; have hp := hq; clear hq; have x0 : wk.cell? ⟨X, 0, none⟩ = some (.slice (some ⟨N, 0, none⟩) 3 3) := bk_cell (k := 0) ((hp.out.block X LX.out).trans HX9.out) rfl; have y0 : wk.cell? ⟨Y, 0, none⟩ = some (.slice (some ⟨M, 0, none⟩) 3 3) := bk_cell (k := 0) ((hp.out.block Y LY.out).trans HY9.out) rfl)
      | (go_at_call 19; ((with_reducible refine (PF.out.p1 _ hp.out).mono ?_); rintro e wk ⟨rfl, hb⟩); have hq := Lib.hid (hp.out.on hb); clear hp hb; have hp := hq; clear hq; have x0 : wk.cell? ⟨X, 0, none⟩ = some (.slice (some ⟨N, 0, none⟩) 3 3) := bk_cell (k := 0) ((hp.out.block X LX.out).trans HX9.out) rfl; have y0 : wk.cell? ⟨Y, 0, none⟩ = some (.slice (some ⟨M, 0, none⟩) 3 3) := bk_cell (k := 0) ((hp.out.block Y LY.out).trans HY9.out) rfl)
      | (go_at_call 19; ((with_reducible refine (PF.out.p2 _ hp.out).mono ?_); rintro e wk ⟨rfl, hb⟩); have hq := Lib.hid (hp.out.on hb); clear hp hb; have hp := hq; clear hq; have x0 : wk.cell? ⟨X, 0, none⟩ = some (.slice (some ⟨N, 0, none⟩) 3 3) := bk_cell (k := 0) ((hp.out.block X LX.out).trans HX9.out) rfl; have y0 : wk.cell? ⟨Y, 0, none⟩ = some (.slice (some ⟨M, 0, none⟩) 3 3) := bk_cell (k := 0) ((hp.out.block Y LY.out).trans HY9.out) rfl)
      | (go_at_call 14; ((with_reducible refine (PF.out.sm _ hp.out).mono ?_); rintro e wk ⟨rfl, hb⟩); have hq := Lib.hid (hp.out.on hb); clear hp hb; have hp := hq; clear hq; have x0 : wk.cell? ⟨X, 0, none⟩ = some (.slice (some ⟨N, 0, none⟩) 3 3) := bk_cell (k := 0) ((hp.out.block X LX.out).trans HX9.out) rfl; have y0 : wk.cell? ⟨Y, 0, none⟩ = some (.slice (some ⟨M, 0, none⟩) 3 3) := bk_cell (k := 0) ((hp.out.block Y LY.out).trans HY9.out) rfl))
  go_wp2
  go_ret
  exact ⟨by simp [hq], step_on HB9.out hp.out⟩
theorem treePuts_walk (v0 v1 : Value) (a2 : Bool) (w : World) (H : Pow w) (c0 : CodeIn w v0) (c1 : CodeIn w v1) :
    Calls Tryz.prog 4 #[v0, v1, .bool a2] w fun e w' => e = .returned (.bool true) ∧ Below w.heap.size w w' := by
  obtain ⟨pa, pn, pc, own, la, ln, lc, zl, ga, gn, gc, zg, rfl, r0, r1, hg⟩ := c0
  obtain ⟨pa', pn', pc', own', la', ln', lc', zl', ga', gn', gc', zg', rfl, r2, r3, hg'⟩ := c1
  cases a2 with
  | true => exact puts_true pa pn pc own la ln lc zl ga gn gc zg pa' pn' pc' own' la' ln' lc' zl' ga' gn' gc' zg' w H r0 r1 hg r2 r3 hg'
  | false => exact puts_false pa pn pc own la ln lc zl ga gn gc zg pa' pn' pc' own' la' ln' lc' zl' ga' gn' gc' zg' w H r0 r1 hg r2 r3 hg'
end Go.Proofs.YtppeogcpoplpeaaGreatDoor
