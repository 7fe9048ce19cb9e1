/- The walk of EvalApart, the names p and a. (Written by genapart.py.) -/
import Derived.Test.YtdaklmbifkehpaaGreatDoorEApart0
set_option linter.unusedSimpArgs false
set_option linter.unusedVariables false
namespace Go.Proofs.YtdaklmbifkehpaaGreatDoor.Ev
open Go Go.RowKit Go.Proofs.YtdaklmbifkehpaaGreatDoor Go.Proofs.YtdaklmbifkehpaaGreatDoor.Pm
open Go.Lib (hid)

set_option maxHeartbeats 16000000 in
set_option maxRecDepth 100000 in
theorem apart_P0 (a0 : Option Addr) (len0 cap0 : Nat) (z0 : List Int) (a1 a2 a3 : Int) (h2 : 0 ≤ a2 ∧ a2 ≤ 255) (h3 : 0 ≤ a3 ∧ a3 ≤ 255) (h1 : in64 a1) (hj : a2 % 3 = 0) (hk : a3 % 4 = 0) (w : World) (H : Wo w) (r0 : RowIn .u8 w a0 len0 z0) :
    Calls Tryz.prog 4 #[.slice a0 len0 cap0, .int .i64 a1, .int .u8 a2, .int .u8 a3] w fun e w' => e = .returned (.bool true) ∧ Below w.heap.size w w' := by
  have HO := hid H
  have R0 := hid r0
  have H1 := hid h1
  have em : a2.tmod 3 = 0 := by rw [Int.tmod_eq_emod_of_nonneg h2.1]; exact hj
  have ek : a3.tmod 4 = 0 := by rw [Int.tmod_eq_emod_of_nonneg h3.1]; exact hk
  obtain ⟨m0, m1⟩ := h2
  obtain ⟨m2, m3⟩ := h3
  obtain ⟨m, hm⟩ : ∃ m, IntKind.i64.wrap (a1 + 1) = m := ⟨_, rfl⟩
  have HM : Hid (in64 m) := hid (by rw [← hm]; exact wrap_in7 _)
  clear H r0 h1 hj hk
  go_enter Tryz.func4, Tryz.ntmps4
  go_upto_region 13 with (first
    | (go_at_call 23; refine (feed_new (rowIn_on R0.out HP5.out) 4 (by decide)).mono ?_; rintro e w6 ⟨T, rfl, hT, hin, hb⟩; have HT := hid (And.intro hT hin); have HP6 := hid hb; clear hT hin hb)
    | (go_at_call 21; refine (put_is HE4.out { data := #[120, 115] } (by decide) HM.out (i := 0) (show (slot (setV (frL [3, 4]) [112] false 0 a1) [120, 115] true 0).isSome = true from rfl) (L' := (setV (setV (frL [3, 4]) [112] false 0 a1) [120, 115] true 0 m)) rfl).mono ?_; rintro e w5 ⟨rfl, hE, hb, -⟩; have HE5 := hid hE; have HP5 : Hid (Past w w5) := hid (HB4.out.1.trans (hb.mono HB4.out.2)); clear hE hb)
    | (go_at_call 17; refine (set_is (HE3.out.alloc (.cells #[.string { data := #[112] }, .string { data := #[97] }, .string { data := #[98] }, .string { data := #[122, 115] }] 9)) { data := #[112] } (by decide) H1.out (show (slot (frL [3, 4]) [112] false 0).isSome = true from rfl) (L' := (setV (frL [3, 4]) [112] false 0 a1)) rfl).mono ?_; rintro e w4 ⟨rfl, hE, hb, -⟩; have HE4 := hid hE; have HB4 : Hid (Past w w4 ∧ w.heap.size ≤ (w2.alloc (.cells #[.int .i64 3, .int .i64 4] 2)).heap.size) := hid ⟨(HB3.out.1.alloc (.cells #[.string { data := #[112] }, .string { data := #[97] }, .string { data := #[98] }, .string { data := #[122, 115] }] 9)).trans (hb.mono HB3.out.2), HB3.out.2⟩; clear hE hb)
    | (go_at_call 11; refine (newF (HS2.out.1.on ((Below.refl w2.heap.size w2).alloc (Nat.le_refl _) (.cells #[.int .i64 3, .int .i64 4] 2))) (HS2.out.2.on ((Below.refl w2.heap.size w2).alloc (Nat.le_refl _) (.cells #[.int .i64 3, .int .i64 4] 2))) (row2_in (bk_new w2 (.cells #[.int .i64 3, .int .i64 4] 2)) (by decide) (by decide)) rfl).mono ?_; rintro e w3 ⟨⟨E, blk, rfl, hE⟩, hb⟩; have HE3 := hid hE; have HB3 : Hid (Past w w3 ∧ w.heap.size ≤ (w2.alloc (.cells #[.int .i64 3, .int .i64 4] 2)).heap.size) := hid ⟨(HP2.out.alloc (.cells #[.int .i64 3, .int .i64 4] 2)).on hb, Nat.le_trans HP2.out.size (World.grownBy_alloc w2 (.cells #[.int .i64 3, .int .i64 4] 2) none).size⟩; clear hE hb)
    | (go_at_call 10; refine (frame_any w1).mono ?_; rintro e w2 ⟨⟨x, y, nm, rfl, hs, hd⟩, hb⟩; have HS2 := hid (And.intro hs hd); have HP2 : Hid (Past w w2) := hid (HP1.out.on hb); clear hs hd hb)
    | (go_at_call 9; refine (ex_any HO.out).mono ?_; rintro e w1 ⟨rfl, hp⟩; have HP1 := hid hp; clear hp))
  have hsg : Sg w (w2.alloc (.cells #[.int .i64 3, .int .i64 4] 2)).heap.size E w6.heap.size blk (setV (setV (frL [3, 4]) [112] false 0 a1) [120, 115] true 0 m) T (w6.alloc (fiveO T)) := ⟨(HE5.out.on HP6.out).alloc (fiveO T), HT.out.2.on ((Below.refl w6.heap.size w6).alloc (Nat.le_refl _) (fiveO T)), HT.out.1.right, bk_new w6 (fiveO T), (HP5.out.on HP6.out).alloc (fiveO T)⟩
  have HSG := hid hsg
  clear hsg HE5 HE4 HB4 HP6 HT HP5 HE3 HB3 HS2 HP2 HP1 R0 HO H1 HM
  generalize w6.alloc (fiveO T) = wb at *
  generalize w6.heap.size = q at *
  obtain ⟨b0, b1, b2, b3, b4⟩ := HSG.out.cells (Past.refl wb)
  have hkb := lt_of_block HSG.out.box
  obtain ⟨n, t, hnt⟩ : ∃ n t, evE (setV (setV (frL [3, 4]) [112] false 0 a1) [120, 115] true 0 m) T.re = (n, t) := ⟨_, _, rfl⟩
  have V1 := hid (eval_is HSG.out.env HSG.out.tin ((ev_right _ HSG.out.right).trans hnt))
  have G1 := hid (fun W hW => get_some (HSG.out.env.past (w' := W) hW) { data := #[112] } (by decide) (show getV (setV (setV (frL [3, 4]) [112] false 0 a1) [120, 115] true 0 m) [112] false 0 = some a1 from rfl))
  have G2 := hid (fun W hW => get_some (HSG.out.env.past (w' := W) hW) { data := #[112] } (by decide) (show getV (setV (setV (frL [3, 4]) [112] false 0 a1) [120, 115] true 0 m) [112] false 0 = some a1 from rfl))
  have A1 := hid (fun W hW => at_some (HSG.out.env.past (w' := W) hW) { data := #[120, 115] } (by decide) (show getV (setV (setV (frL [3, 4]) [112] false 0 a1) [120, 115] true 0 m) [120, 115] true 0 = some m from rfl))
  have A2 := hid (fun W hW => at_some (HSG.out.env.past (w' := W) hW) { data := #[120, 115] } (by decide) (show getV (setV (setV (frL [3, 4]) [112] false 0 a1) [120, 115] true 0 m) [120, 115] true 1 = some 0 from rfl))
  clear hnt
  go_upto_region 16 with (first
    | (go_at_call 28; refine (cells_is (HSG.out.env.past HP8.out) (n := 6) rfl (by decide)).mono ?_; rintro e w9 ⟨ao, cap, rfl, hT, hb⟩; obtain ⟨g, c2, g2, c3, g3, rfl, h27⟩ := two_of hT (d2 := ⟨[98], false, [0]⟩) (d3 := ⟨[120, 115], true, [m, 0, 0]⟩) rfl rfl rfl rfl; have HTW := hid h27; have HB9 := hid hb; clear hT hb h27)
    | (go_at_call 24; ((with_reducible refine (V1.out _ HP7.out).mono ?_); rintro e w8 ⟨rfl, hb⟩); have HP8 : Hid (Past wb w8) := hid (HP7.out.on hb); clear hb)
    | (go_at_call 24; ((with_reducible refine (V1.out _ (Past.refl wb)).mono ?_); rintro e w7 ⟨rfl, hb⟩); have HP7 : Hid (Past wb w7) := hid hb; clear hb; obtain ⟨b0, b1, b2, b3, b4⟩ := HSG.out.cells HP7.out))
  have r2 := HTW.out.r2
  have r3 := HTW.out.r3
  obtain ⟨y2, x2⟩ := HTW.out.x2
  obtain ⟨y3, x3⟩ := HTW.out.x3 0 (by decide)
  have f2 := HTW.out.f2
  have f3 := HTW.out.f3 0
  obtain ⟨lg, lg2, lg3⟩ := HTW.out.l
  obtain ⟨n1, n2, n3⟩ := HTW.out.d
  have n1' : ¬ g2 = g := fun e => n1 e.symm
  have n2' : ¬ g3 = g := fun e => n2 e.symm
  have n3' : ¬ g3 = g2 := fun e => n3 e.symm
  have HBE : Hid (Past wb ((w9.setCell ⟨g2, 0, none⟩ (.int .i64 77)).setCell ⟨g3, 0, none⟩ (.int .i64 78))) := hid (stepB HP8.out ((HB9.out.setCell (p := ⟨g2, 0, none⟩) HTW.out.n2 _).setCell (p := ⟨g3, 0, none⟩) HTW.out.n3 _))
  have P1 := hid (put_is (HSG.out.env.past HBE.out) { data := #[120, 115] } (by decide) (n := 1) (by decide) (i := 3) (show (slot (setV (setV (frL [3, 4]) [112] false 0 a1) [120, 115] true 0 m) [120, 115] true 3).isSome = false from rfl) rfl)
  have P2 := hid (put_is (HSG.out.env.past HBE.out) { data := #[120, 115] } (by decide) (n := 1) (by decide) (i := -1) (show (slot (setV (setV (frL [3, 4]) [112] false 0 a1) [120, 115] true 0 m) [120, 115] true (-1)).isSome = false from rfl) rfl)
  clear HTW HB9
  go_wp2_with (first
    | (go_at_call 21; ((with_reducible refine P1.out.mono ?_); rintro e wk ⟨rfl, -, -, hq⟩; have hq2 := hq (by trivial); clear hq; obtain rfl := hq2))
    | (go_at_call 21; ((with_reducible refine P2.out.mono ?_); rintro e wk ⟨rfl, -, -, hq⟩; have hq2 := hq (by trivial); clear hq; obtain rfl := hq2))
    | (go_at_call 19; ((with_reducible refine (A1.out _ HBE.out).mono ?_); rintro e wk ⟨rfl, rfl⟩))
    | (go_at_call 19; ((with_reducible refine (A2.out _ HBE.out).mono ?_); rintro e wk ⟨rfl, rfl⟩))
    | (go_at_call 15; ((with_reducible refine (G1.out _ HBE.out).mono ?_); rintro e wk ⟨rfl, rfl⟩))
    | (go_at_call 15; ((with_reducible refine (G2.out _ HBE.out).mono ?_); rintro e wk ⟨rfl, rfl⟩)))
  go_ret
  exact ⟨rfl, stepB HSG.out.past HBE.out⟩
set_option maxHeartbeats 16000000 in
set_option maxRecDepth 100000 in
theorem apart_P1 (a0 : Option Addr) (len0 cap0 : Nat) (z0 : List Int) (a1 a2 a3 : Int) (h2 : 0 ≤ a2 ∧ a2 ≤ 255) (h3 : 0 ≤ a3 ∧ a3 ≤ 255) (h1 : in64 a1) (hj : a2 % 3 = 1) (hk : a3 % 4 = 0) (w : World) (H : Wo w) (r0 : RowIn .u8 w a0 len0 z0) :
    Calls Tryz.prog 4 #[.slice a0 len0 cap0, .int .i64 a1, .int .u8 a2, .int .u8 a3] w fun e w' => e = .returned (.bool true) ∧ Below w.heap.size w w' := by
  have HO := hid H
  have R0 := hid r0
  have H1 := hid h1
  have em : a2.tmod 3 = 1 := by rw [Int.tmod_eq_emod_of_nonneg h2.1]; exact hj
  have ek : a3.tmod 4 = 0 := by rw [Int.tmod_eq_emod_of_nonneg h3.1]; exact hk
  obtain ⟨m0, m1⟩ := h2
  obtain ⟨m2, m3⟩ := h3
  obtain ⟨m, hm⟩ : ∃ m, IntKind.i64.wrap (a1 + 1) = m := ⟨_, rfl⟩
  have HM : Hid (in64 m) := hid (by rw [← hm]; exact wrap_in7 _)
  clear H r0 h1 hj hk
  go_enter Tryz.func4, Tryz.ntmps4
  go_upto_region 13 with (first
    | (go_at_call 23; refine (feed_new (rowIn_on R0.out HP5.out) 4 (by decide)).mono ?_; rintro e w6 ⟨T, rfl, hT, hin, hb⟩; have HT := hid (And.intro hT hin); have HP6 := hid hb; clear hT hin hb)
    | (go_at_call 21; refine (put_is HE4.out { data := #[120, 115] } (by decide) HM.out (i := 1) (show (slot (setV (frL [3, 4]) [112] false 0 a1) [120, 115] true 1).isSome = true from rfl) (L' := (setV (setV (frL [3, 4]) [112] false 0 a1) [120, 115] true 1 m)) rfl).mono ?_; rintro e w5 ⟨rfl, hE, hb, -⟩; have HE5 := hid hE; have HP5 : Hid (Past w w5) := hid (HB4.out.1.trans (hb.mono HB4.out.2)); clear hE hb)
    | (go_at_call 17; refine (set_is (HE3.out.alloc (.cells #[.string { data := #[112] }, .string { data := #[97] }, .string { data := #[98] }, .string { data := #[122, 115] }] 9)) { data := #[112] } (by decide) H1.out (show (slot (frL [3, 4]) [112] false 0).isSome = true from rfl) (L' := (setV (frL [3, 4]) [112] false 0 a1)) rfl).mono ?_; rintro e w4 ⟨rfl, hE, hb, -⟩; have HE4 := hid hE; have HB4 : Hid (Past w w4 ∧ w.heap.size ≤ (w2.alloc (.cells #[.int .i64 3, .int .i64 4] 2)).heap.size) := hid ⟨(HB3.out.1.alloc (.cells #[.string { data := #[112] }, .string { data := #[97] }, .string { data := #[98] }, .string { data := #[122, 115] }] 9)).trans (hb.mono HB3.out.2), HB3.out.2⟩; clear hE hb)
    | (go_at_call 11; refine (newF (HS2.out.1.on ((Below.refl w2.heap.size w2).alloc (Nat.le_refl _) (.cells #[.int .i64 3, .int .i64 4] 2))) (HS2.out.2.on ((Below.refl w2.heap.size w2).alloc (Nat.le_refl _) (.cells #[.int .i64 3, .int .i64 4] 2))) (row2_in (bk_new w2 (.cells #[.int .i64 3, .int .i64 4] 2)) (by decide) (by decide)) rfl).mono ?_; rintro e w3 ⟨⟨E, blk, rfl, hE⟩, hb⟩; have HE3 := hid hE; have HB3 : Hid (Past w w3 ∧ w.heap.size ≤ (w2.alloc (.cells #[.int .i64 3, .int .i64 4] 2)).heap.size) := hid ⟨(HP2.out.alloc (.cells #[.int .i64 3, .int .i64 4] 2)).on hb, Nat.le_trans HP2.out.size (World.grownBy_alloc w2 (.cells #[.int .i64 3, .int .i64 4] 2) none).size⟩; clear hE hb)
    | (go_at_call 10; refine (frame_any w1).mono ?_; rintro e w2 ⟨⟨x, y, nm, rfl, hs, hd⟩, hb⟩; have HS2 := hid (And.intro hs hd); have HP2 : Hid (Past w w2) := hid (HP1.out.on hb); clear hs hd hb)
    | (go_at_call 9; refine (ex_any HO.out).mono ?_; rintro e w1 ⟨rfl, hp⟩; have HP1 := hid hp; clear hp))
  have hsg : Sg w (w2.alloc (.cells #[.int .i64 3, .int .i64 4] 2)).heap.size E w6.heap.size blk (setV (setV (frL [3, 4]) [112] false 0 a1) [120, 115] true 1 m) T (w6.alloc (fiveO T)) := ⟨(HE5.out.on HP6.out).alloc (fiveO T), HT.out.2.on ((Below.refl w6.heap.size w6).alloc (Nat.le_refl _) (fiveO T)), HT.out.1.right, bk_new w6 (fiveO T), (HP5.out.on HP6.out).alloc (fiveO T)⟩
  have HSG := hid hsg
  clear hsg HE5 HE4 HB4 HP6 HT HP5 HE3 HB3 HS2 HP2 HP1 R0 HO H1 HM
  generalize w6.alloc (fiveO T) = wb at *
  generalize w6.heap.size = q at *
  obtain ⟨b0, b1, b2, b3, b4⟩ := HSG.out.cells (Past.refl wb)
  have hkb := lt_of_block HSG.out.box
  obtain ⟨n, t, hnt⟩ : ∃ n t, evE (setV (setV (frL [3, 4]) [112] false 0 a1) [120, 115] true 1 m) T.re = (n, t) := ⟨_, _, rfl⟩
  have V1 := hid (eval_is HSG.out.env HSG.out.tin ((ev_right _ HSG.out.right).trans hnt))
  have G1 := hid (fun W hW => get_some (HSG.out.env.past (w' := W) hW) { data := #[112] } (by decide) (show getV (setV (setV (frL [3, 4]) [112] false 0 a1) [120, 115] true 1 m) [112] false 0 = some a1 from rfl))
  have G2 := hid (fun W hW => get_some (HSG.out.env.past (w' := W) hW) { data := #[112] } (by decide) (show getV (setV (setV (frL [3, 4]) [112] false 0 a1) [120, 115] true 1 m) [112] false 0 = some a1 from rfl))
  have A1 := hid (fun W hW => at_some (HSG.out.env.past (w' := W) hW) { data := #[120, 115] } (by decide) (show getV (setV (setV (frL [3, 4]) [112] false 0 a1) [120, 115] true 1 m) [120, 115] true 1 = some m from rfl))
  have A2 := hid (fun W hW => at_some (HSG.out.env.past (w' := W) hW) { data := #[120, 115] } (by decide) (show getV (setV (setV (frL [3, 4]) [112] false 0 a1) [120, 115] true 1 m) [120, 115] true 2 = some 0 from rfl))
  clear hnt
  go_upto_region 16 with (first
    | (go_at_call 28; refine (cells_is (HSG.out.env.past HP8.out) (n := 6) rfl (by decide)).mono ?_; rintro e w9 ⟨ao, cap, rfl, hT, hb⟩; obtain ⟨g, c2, g2, c3, g3, rfl, h27⟩ := two_of hT (d2 := ⟨[98], false, [0]⟩) (d3 := ⟨[120, 115], true, [0, m, 0]⟩) rfl rfl rfl rfl; have HTW := hid h27; have HB9 := hid hb; clear hT hb h27)
    | (go_at_call 24; ((with_reducible refine (V1.out _ HP7.out).mono ?_); rintro e w8 ⟨rfl, hb⟩); have HP8 : Hid (Past wb w8) := hid (HP7.out.on hb); clear hb)
    | (go_at_call 24; ((with_reducible refine (V1.out _ (Past.refl wb)).mono ?_); rintro e w7 ⟨rfl, hb⟩); have HP7 : Hid (Past wb w7) := hid hb; clear hb; obtain ⟨b0, b1, b2, b3, b4⟩ := HSG.out.cells HP7.out))
  have r2 := HTW.out.r2
  have r3 := HTW.out.r3
  obtain ⟨y2, x2⟩ := HTW.out.x2
  obtain ⟨y3, x3⟩ := HTW.out.x3 1 (by decide)
  have f2 := HTW.out.f2
  have f3 := HTW.out.f3 1
  obtain ⟨lg, lg2, lg3⟩ := HTW.out.l
  obtain ⟨n1, n2, n3⟩ := HTW.out.d
  have n1' : ¬ g2 = g := fun e => n1 e.symm
  have n2' : ¬ g3 = g := fun e => n2 e.symm
  have n3' : ¬ g3 = g2 := fun e => n3 e.symm
  have HBE : Hid (Past wb ((w9.setCell ⟨g2, 0, none⟩ (.int .i64 77)).setCell ⟨g3, 1, none⟩ (.int .i64 78))) := hid (stepB HP8.out ((HB9.out.setCell (p := ⟨g2, 0, none⟩) HTW.out.n2 _).setCell (p := ⟨g3, 1, none⟩) HTW.out.n3 _))
  have P1 := hid (put_is (HSG.out.env.past HBE.out) { data := #[120, 115] } (by decide) (n := 1) (by decide) (i := 3) (show (slot (setV (setV (frL [3, 4]) [112] false 0 a1) [120, 115] true 1 m) [120, 115] true 3).isSome = false from rfl) rfl)
  have P2 := hid (put_is (HSG.out.env.past HBE.out) { data := #[120, 115] } (by decide) (n := 1) (by decide) (i := -1) (show (slot (setV (setV (frL [3, 4]) [112] false 0 a1) [120, 115] true 1 m) [120, 115] true (-1)).isSome = false from rfl) rfl)
  clear HTW HB9
  go_wp2_with (first
    | (go_at_call 21; ((with_reducible refine P1.out.mono ?_); rintro e wk ⟨rfl, -, -, hq⟩; have hq2 := hq (by trivial); clear hq; obtain rfl := hq2))
    | (go_at_call 21; ((with_reducible refine P2.out.mono ?_); rintro e wk ⟨rfl, -, -, hq⟩; have hq2 := hq (by trivial); clear hq; obtain rfl := hq2))
    | (go_at_call 19; ((with_reducible refine (A1.out _ HBE.out).mono ?_); rintro e wk ⟨rfl, rfl⟩))
    | (go_at_call 19; ((with_reducible refine (A2.out _ HBE.out).mono ?_); rintro e wk ⟨rfl, rfl⟩))
    | (go_at_call 15; ((with_reducible refine (G1.out _ HBE.out).mono ?_); rintro e wk ⟨rfl, rfl⟩))
    | (go_at_call 15; ((with_reducible refine (G2.out _ HBE.out).mono ?_); rintro e wk ⟨rfl, rfl⟩)))
  go_ret
  exact ⟨rfl, stepB HSG.out.past HBE.out⟩
set_option maxHeartbeats 16000000 in
set_option maxRecDepth 100000 in
theorem apart_P2 (a0 : Option Addr) (len0 cap0 : Nat) (z0 : List Int) (a1 a2 a3 : Int) (h2 : 0 ≤ a2 ∧ a2 ≤ 255) (h3 : 0 ≤ a3 ∧ a3 ≤ 255) (h1 : in64 a1) (hj : a2 % 3 = 2) (hk : a3 % 4 = 0) (w : World) (H : Wo w) (r0 : RowIn .u8 w a0 len0 z0) :
    Calls Tryz.prog 4 #[.slice a0 len0 cap0, .int .i64 a1, .int .u8 a2, .int .u8 a3] w fun e w' => e = .returned (.bool true) ∧ Below w.heap.size w w' := by
  have HO := hid H
  have R0 := hid r0
  have H1 := hid h1
  have em : a2.tmod 3 = 2 := by rw [Int.tmod_eq_emod_of_nonneg h2.1]; exact hj
  have ek : a3.tmod 4 = 0 := by rw [Int.tmod_eq_emod_of_nonneg h3.1]; exact hk
  obtain ⟨m0, m1⟩ := h2
  obtain ⟨m2, m3⟩ := h3
  obtain ⟨m, hm⟩ : ∃ m, IntKind.i64.wrap (a1 + 1) = m := ⟨_, rfl⟩
  have HM : Hid (in64 m) := hid (by rw [← hm]; exact wrap_in7 _)
  clear H r0 h1 hj hk
  go_enter Tryz.func4, Tryz.ntmps4
  go_upto_region 13 with (first
    | (go_at_call 23; refine (feed_new (rowIn_on R0.out HP5.out) 4 (by decide)).mono ?_; rintro e w6 ⟨T, rfl, hT, hin, hb⟩; have HT := hid (And.intro hT hin); have HP6 := hid hb; clear hT hin hb)
    | (go_at_call 21; refine (put_is HE4.out { data := #[120, 115] } (by decide) HM.out (i := 2) (show (slot (setV (frL [3, 4]) [112] false 0 a1) [120, 115] true 2).isSome = true from rfl) (L' := (setV (setV (frL [3, 4]) [112] false 0 a1) [120, 115] true 2 m)) rfl).mono ?_; rintro e w5 ⟨rfl, hE, hb, -⟩; have HE5 := hid hE; have HP5 : Hid (Past w w5) := hid (HB4.out.1.trans (hb.mono HB4.out.2)); clear hE hb)
    | (go_at_call 17; refine (set_is (HE3.out.alloc (.cells #[.string { data := #[112] }, .string { data := #[97] }, .string { data := #[98] }, .string { data := #[122, 115] }] 9)) { data := #[112] } (by decide) H1.out (show (slot (frL [3, 4]) [112] false 0).isSome = true from rfl) (L' := (setV (frL [3, 4]) [112] false 0 a1)) rfl).mono ?_; rintro e w4 ⟨rfl, hE, hb, -⟩; have HE4 := hid hE; have HB4 : Hid (Past w w4 ∧ w.heap.size ≤ (w2.alloc (.cells #[.int .i64 3, .int .i64 4] 2)).heap.size) := hid ⟨(HB3.out.1.alloc (.cells #[.string { data := #[112] }, .string { data := #[97] }, .string { data := #[98] }, .string { data := #[122, 115] }] 9)).trans (hb.mono HB3.out.2), HB3.out.2⟩; clear hE hb)
    | (go_at_call 11; refine (newF (HS2.out.1.on ((Below.refl w2.heap.size w2).alloc (Nat.le_refl _) (.cells #[.int .i64 3, .int .i64 4] 2))) (HS2.out.2.on ((Below.refl w2.heap.size w2).alloc (Nat.le_refl _) (.cells #[.int .i64 3, .int .i64 4] 2))) (row2_in (bk_new w2 (.cells #[.int .i64 3, .int .i64 4] 2)) (by decide) (by decide)) rfl).mono ?_; rintro e w3 ⟨⟨E, blk, rfl, hE⟩, hb⟩; have HE3 := hid hE; have HB3 : Hid (Past w w3 ∧ w.heap.size ≤ (w2.alloc (.cells #[.int .i64 3, .int .i64 4] 2)).heap.size) := hid ⟨(HP2.out.alloc (.cells #[.int .i64 3, .int .i64 4] 2)).on hb, Nat.le_trans HP2.out.size (World.grownBy_alloc w2 (.cells #[.int .i64 3, .int .i64 4] 2) none).size⟩; clear hE hb)
    | (go_at_call 10; refine (frame_any w1).mono ?_; rintro e w2 ⟨⟨x, y, nm, rfl, hs, hd⟩, hb⟩; have HS2 := hid (And.intro hs hd); have HP2 : Hid (Past w w2) := hid (HP1.out.on hb); clear hs hd hb)
    | (go_at_call 9; refine (ex_any HO.out).mono ?_; rintro e w1 ⟨rfl, hp⟩; have HP1 := hid hp; clear hp))
  have hsg : Sg w (w2.alloc (.cells #[.int .i64 3, .int .i64 4] 2)).heap.size E w6.heap.size blk (setV (setV (frL [3, 4]) [112] false 0 a1) [120, 115] true 2 m) T (w6.alloc (fiveO T)) := ⟨(HE5.out.on HP6.out).alloc (fiveO T), HT.out.2.on ((Below.refl w6.heap.size w6).alloc (Nat.le_refl _) (fiveO T)), HT.out.1.right, bk_new w6 (fiveO T), (HP5.out.on HP6.out).alloc (fiveO T)⟩
  have HSG := hid hsg
  clear hsg HE5 HE4 HB4 HP6 HT HP5 HE3 HB3 HS2 HP2 HP1 R0 HO H1 HM
  generalize w6.alloc (fiveO T) = wb at *
  generalize w6.heap.size = q at *
  obtain ⟨b0, b1, b2, b3, b4⟩ := HSG.out.cells (Past.refl wb)
  have hkb := lt_of_block HSG.out.box
  obtain ⟨n, t, hnt⟩ : ∃ n t, evE (setV (setV (frL [3, 4]) [112] false 0 a1) [120, 115] true 2 m) T.re = (n, t) := ⟨_, _, rfl⟩
  have V1 := hid (eval_is HSG.out.env HSG.out.tin ((ev_right _ HSG.out.right).trans hnt))
  have G1 := hid (fun W hW => get_some (HSG.out.env.past (w' := W) hW) { data := #[112] } (by decide) (show getV (setV (setV (frL [3, 4]) [112] false 0 a1) [120, 115] true 2 m) [112] false 0 = some a1 from rfl))
  have G2 := hid (fun W hW => get_some (HSG.out.env.past (w' := W) hW) { data := #[112] } (by decide) (show getV (setV (setV (frL [3, 4]) [112] false 0 a1) [120, 115] true 2 m) [112] false 0 = some a1 from rfl))
  have A1 := hid (fun W hW => at_some (HSG.out.env.past (w' := W) hW) { data := #[120, 115] } (by decide) (show getV (setV (setV (frL [3, 4]) [112] false 0 a1) [120, 115] true 2 m) [120, 115] true 2 = some m from rfl))
  have A2 := hid (fun W hW => at_some (HSG.out.env.past (w' := W) hW) { data := #[120, 115] } (by decide) (show getV (setV (setV (frL [3, 4]) [112] false 0 a1) [120, 115] true 2 m) [120, 115] true 0 = some 0 from rfl))
  clear hnt
  go_upto_region 16 with (first
    | (go_at_call 28; refine (cells_is (HSG.out.env.past HP8.out) (n := 6) rfl (by decide)).mono ?_; rintro e w9 ⟨ao, cap, rfl, hT, hb⟩; obtain ⟨g, c2, g2, c3, g3, rfl, h27⟩ := two_of hT (d2 := ⟨[98], false, [0]⟩) (d3 := ⟨[120, 115], true, [0, 0, m]⟩) rfl rfl rfl rfl; have HTW := hid h27; have HB9 := hid hb; clear hT hb h27)
    | (go_at_call 24; ((with_reducible refine (V1.out _ HP7.out).mono ?_); rintro e w8 ⟨rfl, hb⟩); have HP8 : Hid (Past wb w8) := hid (HP7.out.on hb); clear hb)
    | (go_at_call 24; ((with_reducible refine (V1.out _ (Past.refl wb)).mono ?_); rintro e w7 ⟨rfl, hb⟩); have HP7 : Hid (Past wb w7) := hid hb; clear hb; obtain ⟨b0, b1, b2, b3, b4⟩ := HSG.out.cells HP7.out))
  have r2 := HTW.out.r2
  have r3 := HTW.out.r3
  obtain ⟨y2, x2⟩ := HTW.out.x2
  obtain ⟨y3, x3⟩ := HTW.out.x3 2 (by decide)
  have f2 := HTW.out.f2
  have f3 := HTW.out.f3 2
  obtain ⟨lg, lg2, lg3⟩ := HTW.out.l
  obtain ⟨n1, n2, n3⟩ := HTW.out.d
  have n1' : ¬ g2 = g := fun e => n1 e.symm
  have n2' : ¬ g3 = g := fun e => n2 e.symm
  have n3' : ¬ g3 = g2 := fun e => n3 e.symm
  have HBE : Hid (Past wb ((w9.setCell ⟨g2, 0, none⟩ (.int .i64 77)).setCell ⟨g3, 2, none⟩ (.int .i64 78))) := hid (stepB HP8.out ((HB9.out.setCell (p := ⟨g2, 0, none⟩) HTW.out.n2 _).setCell (p := ⟨g3, 2, none⟩) HTW.out.n3 _))
  have P1 := hid (put_is (HSG.out.env.past HBE.out) { data := #[120, 115] } (by decide) (n := 1) (by decide) (i := 3) (show (slot (setV (setV (frL [3, 4]) [112] false 0 a1) [120, 115] true 2 m) [120, 115] true 3).isSome = false from rfl) rfl)
  have P2 := hid (put_is (HSG.out.env.past HBE.out) { data := #[120, 115] } (by decide) (n := 1) (by decide) (i := -1) (show (slot (setV (setV (frL [3, 4]) [112] false 0 a1) [120, 115] true 2 m) [120, 115] true (-1)).isSome = false from rfl) rfl)
  clear HTW HB9
  go_wp2_with (first
    | (go_at_call 21; ((with_reducible refine P1.out.mono ?_); rintro e wk ⟨rfl, -, -, hq⟩; have hq2 := hq (by trivial); clear hq; obtain rfl := hq2))
    | (go_at_call 21; ((with_reducible refine P2.out.mono ?_); rintro e wk ⟨rfl, -, -, hq⟩; have hq2 := hq (by trivial); clear hq; obtain rfl := hq2))
    | (go_at_call 19; ((with_reducible refine (A1.out _ HBE.out).mono ?_); rintro e wk ⟨rfl, rfl⟩))
    | (go_at_call 19; ((with_reducible refine (A2.out _ HBE.out).mono ?_); rintro e wk ⟨rfl, rfl⟩))
    | (go_at_call 15; ((with_reducible refine (G1.out _ HBE.out).mono ?_); rintro e wk ⟨rfl, rfl⟩))
    | (go_at_call 15; ((with_reducible refine (G2.out _ HBE.out).mono ?_); rintro e wk ⟨rfl, rfl⟩)))
  go_ret
  exact ⟨rfl, stepB HSG.out.past HBE.out⟩
set_option maxHeartbeats 16000000 in
set_option maxRecDepth 100000 in
theorem apart_A0 (a0 : Option Addr) (len0 cap0 : Nat) (z0 : List Int) (a1 a2 a3 : Int) (h2 : 0 ≤ a2 ∧ a2 ≤ 255) (h3 : 0 ≤ a3 ∧ a3 ≤ 255) (h1 : in64 a1) (hj : a2 % 3 = 0) (hk : a3 % 4 = 1) (w : World) (H : Wo w) (r0 : RowIn .u8 w a0 len0 z0) :
    Calls Tryz.prog 4 #[.slice a0 len0 cap0, .int .i64 a1, .int .u8 a2, .int .u8 a3] w fun e w' => e = .returned (.bool true) ∧ Below w.heap.size w w' := by
  have HO := hid H
  have R0 := hid r0
  have H1 := hid h1
  have em : a2.tmod 3 = 0 := by rw [Int.tmod_eq_emod_of_nonneg h2.1]; exact hj
  have ek : a3.tmod 4 = 1 := by rw [Int.tmod_eq_emod_of_nonneg h3.1]; exact hk
  obtain ⟨m0, m1⟩ := h2
  obtain ⟨m2, m3⟩ := h3
  obtain ⟨m, hm⟩ : ∃ m, IntKind.i64.wrap (a1 + 1) = m := ⟨_, rfl⟩
  have HM : Hid (in64 m) := hid (by rw [← hm]; exact wrap_in7 _)
  clear H r0 h1 hj hk
  go_enter Tryz.func4, Tryz.ntmps4
  go_upto_region 13 with (first
    | (go_at_call 23; refine (feed_new (rowIn_on R0.out HP5.out) 4 (by decide)).mono ?_; rintro e w6 ⟨T, rfl, hT, hin, hb⟩; have HT := hid (And.intro hT hin); have HP6 := hid hb; clear hT hin hb)
    | (go_at_call 21; refine (put_is HE4.out { data := #[120, 115] } (by decide) HM.out (i := 0) (show (slot (setV (frL [3, 4]) [97] false 0 a1) [120, 115] true 0).isSome = true from rfl) (L' := (setV (setV (frL [3, 4]) [97] false 0 a1) [120, 115] true 0 m)) rfl).mono ?_; rintro e w5 ⟨rfl, hE, hb, -⟩; have HE5 := hid hE; have HP5 : Hid (Past w w5) := hid (HB4.out.1.trans (hb.mono HB4.out.2)); clear hE hb)
    | (go_at_call 17; refine (set_is (HE3.out.alloc (.cells #[.string { data := #[112] }, .string { data := #[97] }, .string { data := #[98] }, .string { data := #[122, 115] }] 9)) { data := #[97] } (by decide) H1.out (show (slot (frL [3, 4]) [97] false 0).isSome = true from rfl) (L' := (setV (frL [3, 4]) [97] false 0 a1)) rfl).mono ?_; rintro e w4 ⟨rfl, hE, hb, -⟩; have HE4 := hid hE; have HB4 : Hid (Past w w4 ∧ w.heap.size ≤ (w2.alloc (.cells #[.int .i64 3, .int .i64 4] 2)).heap.size) := hid ⟨(HB3.out.1.alloc (.cells #[.string { data := #[112] }, .string { data := #[97] }, .string { data := #[98] }, .string { data := #[122, 115] }] 9)).trans (hb.mono HB3.out.2), HB3.out.2⟩; clear hE hb)
    | (go_at_call 11; refine (newF (HS2.out.1.on ((Below.refl w2.heap.size w2).alloc (Nat.le_refl _) (.cells #[.int .i64 3, .int .i64 4] 2))) (HS2.out.2.on ((Below.refl w2.heap.size w2).alloc (Nat.le_refl _) (.cells #[.int .i64 3, .int .i64 4] 2))) (row2_in (bk_new w2 (.cells #[.int .i64 3, .int .i64 4] 2)) (by decide) (by decide)) rfl).mono ?_; rintro e w3 ⟨⟨E, blk, rfl, hE⟩, hb⟩; have HE3 := hid hE; have HB3 : Hid (Past w w3 ∧ w.heap.size ≤ (w2.alloc (.cells #[.int .i64 3, .int .i64 4] 2)).heap.size) := hid ⟨(HP2.out.alloc (.cells #[.int .i64 3, .int .i64 4] 2)).on hb, Nat.le_trans HP2.out.size (World.grownBy_alloc w2 (.cells #[.int .i64 3, .int .i64 4] 2) none).size⟩; clear hE hb)
    | (go_at_call 10; refine (frame_any w1).mono ?_; rintro e w2 ⟨⟨x, y, nm, rfl, hs, hd⟩, hb⟩; have HS2 := hid (And.intro hs hd); have HP2 : Hid (Past w w2) := hid (HP1.out.on hb); clear hs hd hb)
    | (go_at_call 9; refine (ex_any HO.out).mono ?_; rintro e w1 ⟨rfl, hp⟩; have HP1 := hid hp; clear hp))
  have hsg : Sg w (w2.alloc (.cells #[.int .i64 3, .int .i64 4] 2)).heap.size E w6.heap.size blk (setV (setV (frL [3, 4]) [97] false 0 a1) [120, 115] true 0 m) T (w6.alloc (fiveO T)) := ⟨(HE5.out.on HP6.out).alloc (fiveO T), HT.out.2.on ((Below.refl w6.heap.size w6).alloc (Nat.le_refl _) (fiveO T)), HT.out.1.right, bk_new w6 (fiveO T), (HP5.out.on HP6.out).alloc (fiveO T)⟩
  have HSG := hid hsg
  clear hsg HE5 HE4 HB4 HP6 HT HP5 HE3 HB3 HS2 HP2 HP1 R0 HO H1 HM
  generalize w6.alloc (fiveO T) = wb at *
  generalize w6.heap.size = q at *
  obtain ⟨b0, b1, b2, b3, b4⟩ := HSG.out.cells (Past.refl wb)
  have hkb := lt_of_block HSG.out.box
  obtain ⟨n, t, hnt⟩ : ∃ n t, evE (setV (setV (frL [3, 4]) [97] false 0 a1) [120, 115] true 0 m) T.re = (n, t) := ⟨_, _, rfl⟩
  have V1 := hid (eval_is HSG.out.env HSG.out.tin ((ev_right _ HSG.out.right).trans hnt))
  have G1 := hid (fun W hW => get_some (HSG.out.env.past (w' := W) hW) { data := #[97] } (by decide) (show getV (setV (setV (frL [3, 4]) [97] false 0 a1) [120, 115] true 0 m) [97] false 0 = some a1 from rfl))
  have G2 := hid (fun W hW => get_some (HSG.out.env.past (w' := W) hW) { data := #[112] } (by decide) (show getV (setV (setV (frL [3, 4]) [97] false 0 a1) [120, 115] true 0 m) [112] false 0 = some 3 from rfl))
  have A1 := hid (fun W hW => at_some (HSG.out.env.past (w' := W) hW) { data := #[120, 115] } (by decide) (show getV (setV (setV (frL [3, 4]) [97] false 0 a1) [120, 115] true 0 m) [120, 115] true 0 = some m from rfl))
  have A2 := hid (fun W hW => at_some (HSG.out.env.past (w' := W) hW) { data := #[120, 115] } (by decide) (show getV (setV (setV (frL [3, 4]) [97] false 0 a1) [120, 115] true 0 m) [120, 115] true 1 = some 0 from rfl))
  clear hnt
  go_upto_region 16 with (first
    | (go_at_call 28; refine (cells_is (HSG.out.env.past HP8.out) (n := 6) rfl (by decide)).mono ?_; rintro e w9 ⟨ao, cap, rfl, hT, hb⟩; obtain ⟨g, c2, g2, c3, g3, rfl, h27⟩ := two_of hT (d2 := ⟨[98], false, [0]⟩) (d3 := ⟨[120, 115], true, [m, 0, 0]⟩) rfl rfl rfl rfl; have HTW := hid h27; have HB9 := hid hb; clear hT hb h27)
    | (go_at_call 24; ((with_reducible refine (V1.out _ HP7.out).mono ?_); rintro e w8 ⟨rfl, hb⟩); have HP8 : Hid (Past wb w8) := hid (HP7.out.on hb); clear hb)
    | (go_at_call 24; ((with_reducible refine (V1.out _ (Past.refl wb)).mono ?_); rintro e w7 ⟨rfl, hb⟩); have HP7 : Hid (Past wb w7) := hid hb; clear hb; obtain ⟨b0, b1, b2, b3, b4⟩ := HSG.out.cells HP7.out))
  have r2 := HTW.out.r2
  have r3 := HTW.out.r3
  obtain ⟨y2, x2⟩ := HTW.out.x2
  obtain ⟨y3, x3⟩ := HTW.out.x3 0 (by decide)
  have f2 := HTW.out.f2
  have f3 := HTW.out.f3 0
  obtain ⟨lg, lg2, lg3⟩ := HTW.out.l
  obtain ⟨n1, n2, n3⟩ := HTW.out.d
  have n1' : ¬ g2 = g := fun e => n1 e.symm
  have n2' : ¬ g3 = g := fun e => n2 e.symm
  have n3' : ¬ g3 = g2 := fun e => n3 e.symm
  have HBE : Hid (Past wb ((w9.setCell ⟨g2, 0, none⟩ (.int .i64 77)).setCell ⟨g3, 0, none⟩ (.int .i64 78))) := hid (stepB HP8.out ((HB9.out.setCell (p := ⟨g2, 0, none⟩) HTW.out.n2 _).setCell (p := ⟨g3, 0, none⟩) HTW.out.n3 _))
  have P1 := hid (put_is (HSG.out.env.past HBE.out) { data := #[120, 115] } (by decide) (n := 1) (by decide) (i := 3) (show (slot (setV (setV (frL [3, 4]) [97] false 0 a1) [120, 115] true 0 m) [120, 115] true 3).isSome = false from rfl) rfl)
  have P2 := hid (put_is (HSG.out.env.past HBE.out) { data := #[120, 115] } (by decide) (n := 1) (by decide) (i := -1) (show (slot (setV (setV (frL [3, 4]) [97] false 0 a1) [120, 115] true 0 m) [120, 115] true (-1)).isSome = false from rfl) rfl)
  clear HTW HB9
  go_wp2_with (first
    | (go_at_call 21; ((with_reducible refine P1.out.mono ?_); rintro e wk ⟨rfl, -, -, hq⟩; have hq2 := hq (by trivial); clear hq; obtain rfl := hq2))
    | (go_at_call 21; ((with_reducible refine P2.out.mono ?_); rintro e wk ⟨rfl, -, -, hq⟩; have hq2 := hq (by trivial); clear hq; obtain rfl := hq2))
    | (go_at_call 19; ((with_reducible refine (A1.out _ HBE.out).mono ?_); rintro e wk ⟨rfl, rfl⟩))
    | (go_at_call 19; ((with_reducible refine (A2.out _ HBE.out).mono ?_); rintro e wk ⟨rfl, rfl⟩))
    | (go_at_call 15; ((with_reducible refine (G1.out _ HBE.out).mono ?_); rintro e wk ⟨rfl, rfl⟩))
    | (go_at_call 15; ((with_reducible refine (G2.out _ HBE.out).mono ?_); rintro e wk ⟨rfl, rfl⟩)))
  go_ret
  exact ⟨rfl, stepB HSG.out.past HBE.out⟩
set_option maxHeartbeats 16000000 in
set_option maxRecDepth 100000 in
theorem apart_A1 (a0 : Option Addr) (len0 cap0 : Nat) (z0 : List Int) (a1 a2 a3 : Int) (h2 : 0 ≤ a2 ∧ a2 ≤ 255) (h3 : 0 ≤ a3 ∧ a3 ≤ 255) (h1 : in64 a1) (hj : a2 % 3 = 1) (hk : a3 % 4 = 1) (w : World) (H : Wo w) (r0 : RowIn .u8 w a0 len0 z0) :
    Calls Tryz.prog 4 #[.slice a0 len0 cap0, .int .i64 a1, .int .u8 a2, .int .u8 a3] w fun e w' => e = .returned (.bool true) ∧ Below w.heap.size w w' := by
  have HO := hid H
  have R0 := hid r0
  have H1 := hid h1
  have em : a2.tmod 3 = 1 := by rw [Int.tmod_eq_emod_of_nonneg h2.1]; exact hj
  have ek : a3.tmod 4 = 1 := by rw [Int.tmod_eq_emod_of_nonneg h3.1]; exact hk
  obtain ⟨m0, m1⟩ := h2
  obtain ⟨m2, m3⟩ := h3
  obtain ⟨m, hm⟩ : ∃ m, IntKind.i64.wrap (a1 + 1) = m := ⟨_, rfl⟩
  have HM : Hid (in64 m) := hid (by rw [← hm]; exact wrap_in7 _)
  clear H r0 h1 hj hk
  go_enter Tryz.func4, Tryz.ntmps4
  go_upto_region 13 with (first
    | (go_at_call 23; refine (feed_new (rowIn_on R0.out HP5.out) 4 (by decide)).mono ?_; rintro e w6 ⟨T, rfl, hT, hin, hb⟩; have HT := hid (And.intro hT hin); have HP6 := hid hb; clear hT hin hb)
    | (go_at_call 21; refine (put_is HE4.out { data := #[120, 115] } (by decide) HM.out (i := 1) (show (slot (setV (frL [3, 4]) [97] false 0 a1) [120, 115] true 1).isSome = true from rfl) (L' := (setV (setV (frL [3, 4]) [97] false 0 a1) [120, 115] true 1 m)) rfl).mono ?_; rintro e w5 ⟨rfl, hE, hb, -⟩; have HE5 := hid hE; have HP5 : Hid (Past w w5) := hid (HB4.out.1.trans (hb.mono HB4.out.2)); clear hE hb)
    | (go_at_call 17; refine (set_is (HE3.out.alloc (.cells #[.string { data := #[112] }, .string { data := #[97] }, .string { data := #[98] }, .string { data := #[122, 115] }] 9)) { data := #[97] } (by decide) H1.out (show (slot (frL [3, 4]) [97] false 0).isSome = true from rfl) (L' := (setV (frL [3, 4]) [97] false 0 a1)) rfl).mono ?_; rintro e w4 ⟨rfl, hE, hb, -⟩; have HE4 := hid hE; have HB4 : Hid (Past w w4 ∧ w.heap.size ≤ (w2.alloc (.cells #[.int .i64 3, .int .i64 4] 2)).heap.size) := hid ⟨(HB3.out.1.alloc (.cells #[.string { data := #[112] }, .string { data := #[97] }, .string { data := #[98] }, .string { data := #[122, 115] }] 9)).trans (hb.mono HB3.out.2), HB3.out.2⟩; clear hE hb)
    | (go_at_call 11; refine (newF (HS2.out.1.on ((Below.refl w2.heap.size w2).alloc (Nat.le_refl _) (.cells #[.int .i64 3, .int .i64 4] 2))) (HS2.out.2.on ((Below.refl w2.heap.size w2).alloc (Nat.le_refl _) (.cells #[.int .i64 3, .int .i64 4] 2))) (row2_in (bk_new w2 (.cells #[.int .i64 3, .int .i64 4] 2)) (by decide) (by decide)) rfl).mono ?_; rintro e w3 ⟨⟨E, blk, rfl, hE⟩, hb⟩; have HE3 := hid hE; have HB3 : Hid (Past w w3 ∧ w.heap.size ≤ (w2.alloc (.cells #[.int .i64 3, .int .i64 4] 2)).heap.size) := hid ⟨(HP2.out.alloc (.cells #[.int .i64 3, .int .i64 4] 2)).on hb, Nat.le_trans HP2.out.size (World.grownBy_alloc w2 (.cells #[.int .i64 3, .int .i64 4] 2) none).size⟩; clear hE hb)
    | (go_at_call 10; refine (frame_any w1).mono ?_; rintro e w2 ⟨⟨x, y, nm, rfl, hs, hd⟩, hb⟩; have HS2 := hid (And.intro hs hd); have HP2 : Hid (Past w w2) := hid (HP1.out.on hb); clear hs hd hb)
    | (go_at_call 9; refine (ex_any HO.out).mono ?_; rintro e w1 ⟨rfl, hp⟩; have HP1 := hid hp; clear hp))
  have hsg : Sg w (w2.alloc (.cells #[.int .i64 3, .int .i64 4] 2)).heap.size E w6.heap.size blk (setV (setV (frL [3, 4]) [97] false 0 a1) [120, 115] true 1 m) T (w6.alloc (fiveO T)) := ⟨(HE5.out.on HP6.out).alloc (fiveO T), HT.out.2.on ((Below.refl w6.heap.size w6).alloc (Nat.le_refl _) (fiveO T)), HT.out.1.right, bk_new w6 (fiveO T), (HP5.out.on HP6.out).alloc (fiveO T)⟩
  have HSG := hid hsg
  clear hsg HE5 HE4 HB4 HP6 HT HP5 HE3 HB3 HS2 HP2 HP1 R0 HO H1 HM
  generalize w6.alloc (fiveO T) = wb at *
  generalize w6.heap.size = q at *
  obtain ⟨b0, b1, b2, b3, b4⟩ := HSG.out.cells (Past.refl wb)
  have hkb := lt_of_block HSG.out.box
  obtain ⟨n, t, hnt⟩ : ∃ n t, evE (setV (setV (frL [3, 4]) [97] false 0 a1) [120, 115] true 1 m) T.re = (n, t) := ⟨_, _, rfl⟩
  have V1 := hid (eval_is HSG.out.env HSG.out.tin ((ev_right _ HSG.out.right).trans hnt))
  have G1 := hid (fun W hW => get_some (HSG.out.env.past (w' := W) hW) { data := #[97] } (by decide) (show getV (setV (setV (frL [3, 4]) [97] false 0 a1) [120, 115] true 1 m) [97] false 0 = some a1 from rfl))
  have G2 := hid (fun W hW => get_some (HSG.out.env.past (w' := W) hW) { data := #[112] } (by decide) (show getV (setV (setV (frL [3, 4]) [97] false 0 a1) [120, 115] true 1 m) [112] false 0 = some 3 from rfl))
  have A1 := hid (fun W hW => at_some (HSG.out.env.past (w' := W) hW) { data := #[120, 115] } (by decide) (show getV (setV (setV (frL [3, 4]) [97] false 0 a1) [120, 115] true 1 m) [120, 115] true 1 = some m from rfl))
  have A2 := hid (fun W hW => at_some (HSG.out.env.past (w' := W) hW) { data := #[120, 115] } (by decide) (show getV (setV (setV (frL [3, 4]) [97] false 0 a1) [120, 115] true 1 m) [120, 115] true 2 = some 0 from rfl))
  clear hnt
  go_upto_region 16 with (first
    | (go_at_call 28; refine (cells_is (HSG.out.env.past HP8.out) (n := 6) rfl (by decide)).mono ?_; rintro e w9 ⟨ao, cap, rfl, hT, hb⟩; obtain ⟨g, c2, g2, c3, g3, rfl, h27⟩ := two_of hT (d2 := ⟨[98], false, [0]⟩) (d3 := ⟨[120, 115], true, [0, m, 0]⟩) rfl rfl rfl rfl; have HTW := hid h27; have HB9 := hid hb; clear hT hb h27)
    | (go_at_call 24; ((with_reducible refine (V1.out _ HP7.out).mono ?_); rintro e w8 ⟨rfl, hb⟩); have HP8 : Hid (Past wb w8) := hid (HP7.out.on hb); clear hb)
    | (go_at_call 24; ((with_reducible refine (V1.out _ (Past.refl wb)).mono ?_); rintro e w7 ⟨rfl, hb⟩); have HP7 : Hid (Past wb w7) := hid hb; clear hb; obtain ⟨b0, b1, b2, b3, b4⟩ := HSG.out.cells HP7.out))
  have r2 := HTW.out.r2
  have r3 := HTW.out.r3
  obtain ⟨y2, x2⟩ := HTW.out.x2
  obtain ⟨y3, x3⟩ := HTW.out.x3 1 (by decide)
  have f2 := HTW.out.f2
  have f3 := HTW.out.f3 1
  obtain ⟨lg, lg2, lg3⟩ := HTW.out.l
  obtain ⟨n1, n2, n3⟩ := HTW.out.d
  have n1' : ¬ g2 = g := fun e => n1 e.symm
  have n2' : ¬ g3 = g := fun e => n2 e.symm
  have n3' : ¬ g3 = g2 := fun e => n3 e.symm
  have HBE : Hid (Past wb ((w9.setCell ⟨g2, 0, none⟩ (.int .i64 77)).setCell ⟨g3, 1, none⟩ (.int .i64 78))) := hid (stepB HP8.out ((HB9.out.setCell (p := ⟨g2, 0, none⟩) HTW.out.n2 _).setCell (p := ⟨g3, 1, none⟩) HTW.out.n3 _))
  have P1 := hid (put_is (HSG.out.env.past HBE.out) { data := #[120, 115] } (by decide) (n := 1) (by decide) (i := 3) (show (slot (setV (setV (frL [3, 4]) [97] false 0 a1) [120, 115] true 1 m) [120, 115] true 3).isSome = false from rfl) rfl)
  have P2 := hid (put_is (HSG.out.env.past HBE.out) { data := #[120, 115] } (by decide) (n := 1) (by decide) (i := -1) (show (slot (setV (setV (frL [3, 4]) [97] false 0 a1) [120, 115] true 1 m) [120, 115] true (-1)).isSome = false from rfl) rfl)
  clear HTW HB9
  go_wp2_with (first
    | (go_at_call 21; ((with_reducible refine P1.out.mono ?_); rintro e wk ⟨rfl, -, -, hq⟩; have hq2 := hq (by trivial); clear hq; obtain rfl := hq2))
    | (go_at_call 21; ((with_reducible refine P2.out.mono ?_); rintro e wk ⟨rfl, -, -, hq⟩; have hq2 := hq (by trivial); clear hq; obtain rfl := hq2))
    | (go_at_call 19; ((with_reducible refine (A1.out _ HBE.out).mono ?_); rintro e wk ⟨rfl, rfl⟩))
    | (go_at_call 19; ((with_reducible refine (A2.out _ HBE.out).mono ?_); rintro e wk ⟨rfl, rfl⟩))
    | (go_at_call 15; ((with_reducible refine (G1.out _ HBE.out).mono ?_); rintro e wk ⟨rfl, rfl⟩))
    | (go_at_call 15; ((with_reducible refine (G2.out _ HBE.out).mono ?_); rintro e wk ⟨rfl, rfl⟩)))
  go_ret
  exact ⟨rfl, stepB HSG.out.past HBE.out⟩
set_option maxHeartbeats 16000000 in
set_option maxRecDepth 100000 in
theorem apart_A2 (a0 : Option Addr) (len0 cap0 : Nat) (z0 : List Int) (a1 a2 a3 : Int) (h2 : 0 ≤ a2 ∧ a2 ≤ 255) (h3 : 0 ≤ a3 ∧ a3 ≤ 255) (h1 : in64 a1) (hj : a2 % 3 = 2) (hk : a3 % 4 = 1) (w : World) (H : Wo w) (r0 : RowIn .u8 w a0 len0 z0) :
    Calls Tryz.prog 4 #[.slice a0 len0 cap0, .int .i64 a1, .int .u8 a2, .int .u8 a3] w fun e w' => e = .returned (.bool true) ∧ Below w.heap.size w w' := by
  have HO := hid H
  have R0 := hid r0
  have H1 := hid h1
  have em : a2.tmod 3 = 2 := by rw [Int.tmod_eq_emod_of_nonneg h2.1]; exact hj
  have ek : a3.tmod 4 = 1 := by rw [Int.tmod_eq_emod_of_nonneg h3.1]; exact hk
  obtain ⟨m0, m1⟩ := h2
  obtain ⟨m2, m3⟩ := h3
  obtain ⟨m, hm⟩ : ∃ m, IntKind.i64.wrap (a1 + 1) = m := ⟨_, rfl⟩
  have HM : Hid (in64 m) := hid (by rw [← hm]; exact wrap_in7 _)
  clear H r0 h1 hj hk
  go_enter Tryz.func4, Tryz.ntmps4
  go_upto_region 13 with (first
    | (go_at_call 23; refine (feed_new (rowIn_on R0.out HP5.out) 4 (by decide)).mono ?_; rintro e w6 ⟨T, rfl, hT, hin, hb⟩; have HT := hid (And.intro hT hin); have HP6 := hid hb; clear hT hin hb)
    | (go_at_call 21; refine (put_is HE4.out { data := #[120, 115] } (by decide) HM.out (i := 2) (show (slot (setV (frL [3, 4]) [97] false 0 a1) [120, 115] true 2).isSome = true from rfl) (L' := (setV (setV (frL [3, 4]) [97] false 0 a1) [120, 115] true 2 m)) rfl).mono ?_; rintro e w5 ⟨rfl, hE, hb, -⟩; have HE5 := hid hE; have HP5 : Hid (Past w w5) := hid (HB4.out.1.trans (hb.mono HB4.out.2)); clear hE hb)
    | (go_at_call 17; refine (set_is (HE3.out.alloc (.cells #[.string { data := #[112] }, .string { data := #[97] }, .string { data := #[98] }, .string { data := #[122, 115] }] 9)) { data := #[97] } (by decide) H1.out (show (slot (frL [3, 4]) [97] false 0).isSome = true from rfl) (L' := (setV (frL [3, 4]) [97] false 0 a1)) rfl).mono ?_; rintro e w4 ⟨rfl, hE, hb, -⟩; have HE4 := hid hE; have HB4 : Hid (Past w w4 ∧ w.heap.size ≤ (w2.alloc (.cells #[.int .i64 3, .int .i64 4] 2)).heap.size) := hid ⟨(HB3.out.1.alloc (.cells #[.string { data := #[112] }, .string { data := #[97] }, .string { data := #[98] }, .string { data := #[122, 115] }] 9)).trans (hb.mono HB3.out.2), HB3.out.2⟩; clear hE hb)
    | (go_at_call 11; refine (newF (HS2.out.1.on ((Below.refl w2.heap.size w2).alloc (Nat.le_refl _) (.cells #[.int .i64 3, .int .i64 4] 2))) (HS2.out.2.on ((Below.refl w2.heap.size w2).alloc (Nat.le_refl _) (.cells #[.int .i64 3, .int .i64 4] 2))) (row2_in (bk_new w2 (.cells #[.int .i64 3, .int .i64 4] 2)) (by decide) (by decide)) rfl).mono ?_; rintro e w3 ⟨⟨E, blk, rfl, hE⟩, hb⟩; have HE3 := hid hE; have HB3 : Hid (Past w w3 ∧ w.heap.size ≤ (w2.alloc (.cells #[.int .i64 3, .int .i64 4] 2)).heap.size) := hid ⟨(HP2.out.alloc (.cells #[.int .i64 3, .int .i64 4] 2)).on hb, Nat.le_trans HP2.out.size (World.grownBy_alloc w2 (.cells #[.int .i64 3, .int .i64 4] 2) none).size⟩; clear hE hb)
    | (go_at_call 10; refine (frame_any w1).mono ?_; rintro e w2 ⟨⟨x, y, nm, rfl, hs, hd⟩, hb⟩; have HS2 := hid (And.intro hs hd); have HP2 : Hid (Past w w2) := hid (HP1.out.on hb); clear hs hd hb)
    | (go_at_call 9; refine (ex_any HO.out).mono ?_; rintro e w1 ⟨rfl, hp⟩; have HP1 := hid hp; clear hp))
  have hsg : Sg w (w2.alloc (.cells #[.int .i64 3, .int .i64 4] 2)).heap.size E w6.heap.size blk (setV (setV (frL [3, 4]) [97] false 0 a1) [120, 115] true 2 m) T (w6.alloc (fiveO T)) := ⟨(HE5.out.on HP6.out).alloc (fiveO T), HT.out.2.on ((Below.refl w6.heap.size w6).alloc (Nat.le_refl _) (fiveO T)), HT.out.1.right, bk_new w6 (fiveO T), (HP5.out.on HP6.out).alloc (fiveO T)⟩
  have HSG := hid hsg
  clear hsg HE5 HE4 HB4 HP6 HT HP5 HE3 HB3 HS2 HP2 HP1 R0 HO H1 HM
  generalize w6.alloc (fiveO T) = wb at *
  generalize w6.heap.size = q at *
  obtain ⟨b0, b1, b2, b3, b4⟩ := HSG.out.cells (Past.refl wb)
  have hkb := lt_of_block HSG.out.box
  obtain ⟨n, t, hnt⟩ : ∃ n t, evE (setV (setV (frL [3, 4]) [97] false 0 a1) [120, 115] true 2 m) T.re = (n, t) := ⟨_, _, rfl⟩
  have V1 := hid (eval_is HSG.out.env HSG.out.tin ((ev_right _ HSG.out.right).trans hnt))
  have G1 := hid (fun W hW => get_some (HSG.out.env.past (w' := W) hW) { data := #[97] } (by decide) (show getV (setV (setV (frL [3, 4]) [97] false 0 a1) [120, 115] true 2 m) [97] false 0 = some a1 from rfl))
  have G2 := hid (fun W hW => get_some (HSG.out.env.past (w' := W) hW) { data := #[112] } (by decide) (show getV (setV (setV (frL [3, 4]) [97] false 0 a1) [120, 115] true 2 m) [112] false 0 = some 3 from rfl))
  have A1 := hid (fun W hW => at_some (HSG.out.env.past (w' := W) hW) { data := #[120, 115] } (by decide) (show getV (setV (setV (frL [3, 4]) [97] false 0 a1) [120, 115] true 2 m) [120, 115] true 2 = some m from rfl))
  have A2 := hid (fun W hW => at_some (HSG.out.env.past (w' := W) hW) { data := #[120, 115] } (by decide) (show getV (setV (setV (frL [3, 4]) [97] false 0 a1) [120, 115] true 2 m) [120, 115] true 0 = some 0 from rfl))
  clear hnt
  go_upto_region 16 with (first
    | (go_at_call 28; refine (cells_is (HSG.out.env.past HP8.out) (n := 6) rfl (by decide)).mono ?_; rintro e w9 ⟨ao, cap, rfl, hT, hb⟩; obtain ⟨g, c2, g2, c3, g3, rfl, h27⟩ := two_of hT (d2 := ⟨[98], false, [0]⟩) (d3 := ⟨[120, 115], true, [0, 0, m]⟩) rfl rfl rfl rfl; have HTW := hid h27; have HB9 := hid hb; clear hT hb h27)
    | (go_at_call 24; ((with_reducible refine (V1.out _ HP7.out).mono ?_); rintro e w8 ⟨rfl, hb⟩); have HP8 : Hid (Past wb w8) := hid (HP7.out.on hb); clear hb)
    | (go_at_call 24; ((with_reducible refine (V1.out _ (Past.refl wb)).mono ?_); rintro e w7 ⟨rfl, hb⟩); have HP7 : Hid (Past wb w7) := hid hb; clear hb; obtain ⟨b0, b1, b2, b3, b4⟩ := HSG.out.cells HP7.out))
  have r2 := HTW.out.r2
  have r3 := HTW.out.r3
  obtain ⟨y2, x2⟩ := HTW.out.x2
  obtain ⟨y3, x3⟩ := HTW.out.x3 2 (by decide)
  have f2 := HTW.out.f2
  have f3 := HTW.out.f3 2
  obtain ⟨lg, lg2, lg3⟩ := HTW.out.l
  obtain ⟨n1, n2, n3⟩ := HTW.out.d
  have n1' : ¬ g2 = g := fun e => n1 e.symm
  have n2' : ¬ g3 = g := fun e => n2 e.symm
  have n3' : ¬ g3 = g2 := fun e => n3 e.symm
  have HBE : Hid (Past wb ((w9.setCell ⟨g2, 0, none⟩ (.int .i64 77)).setCell ⟨g3, 2, none⟩ (.int .i64 78))) := hid (stepB HP8.out ((HB9.out.setCell (p := ⟨g2, 0, none⟩) HTW.out.n2 _).setCell (p := ⟨g3, 2, none⟩) HTW.out.n3 _))
  have P1 := hid (put_is (HSG.out.env.past HBE.out) { data := #[120, 115] } (by decide) (n := 1) (by decide) (i := 3) (show (slot (setV (setV (frL [3, 4]) [97] false 0 a1) [120, 115] true 2 m) [120, 115] true 3).isSome = false from rfl) rfl)
  have P2 := hid (put_is (HSG.out.env.past HBE.out) { data := #[120, 115] } (by decide) (n := 1) (by decide) (i := -1) (show (slot (setV (setV (frL [3, 4]) [97] false 0 a1) [120, 115] true 2 m) [120, 115] true (-1)).isSome = false from rfl) rfl)
  clear HTW HB9
  go_wp2_with (first
    | (go_at_call 21; ((with_reducible refine P1.out.mono ?_); rintro e wk ⟨rfl, -, -, hq⟩; have hq2 := hq (by trivial); clear hq; obtain rfl := hq2))
    | (go_at_call 21; ((with_reducible refine P2.out.mono ?_); rintro e wk ⟨rfl, -, -, hq⟩; have hq2 := hq (by trivial); clear hq; obtain rfl := hq2))
    | (go_at_call 19; ((with_reducible refine (A1.out _ HBE.out).mono ?_); rintro e wk ⟨rfl, rfl⟩))
    | (go_at_call 19; ((with_reducible refine (A2.out _ HBE.out).mono ?_); rintro e wk ⟨rfl, rfl⟩))
    | (go_at_call 15; ((with_reducible refine (G1.out _ HBE.out).mono ?_); rintro e wk ⟨rfl, rfl⟩))
    | (go_at_call 15; ((with_reducible refine (G2.out _ HBE.out).mono ?_); rintro e wk ⟨rfl, rfl⟩)))
  go_ret
  exact ⟨rfl, stepB HSG.out.past HBE.out⟩
end Go.Proofs.YtdaklmbifkehpaaGreatDoor.Ev
