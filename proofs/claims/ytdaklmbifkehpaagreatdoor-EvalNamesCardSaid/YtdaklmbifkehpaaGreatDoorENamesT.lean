/- The walk of EvalNames, its cases of more arguments. (Written by gennames.py.) -/
import Derived.Test.YtdaklmbifkehpaaGreatDoorEFeed
set_option linter.unusedSimpArgs false
set_option linter.unusedVariables false
namespace Go.Proofs.YtdaklmbifkehpaaGreatDoor.Ev
open Go Go.RowKit Go.Proofs.YtdaklmbifkehpaaGreatDoor Go.Proofs.YtdaklmbifkehpaaGreatDoor.Pm
open Go.Lib (hid)

set_option maxHeartbeats 8000000 in
set_option maxRecDepth 100000 in
theorem names_ti (x : Addr) (len0 cap0 n : Nat) (z0 : List Int) (a1 : Int) (h1 : in64 a1) (w : World) (H : Wo w) (r0 : RowIn .i64 w (some x) len0 z0) (hc1 : len0 ≤ cap0) (hc2 : cap0 ≤ 9223372036854775807) (hn : min (len0 : Int) 5 = n) (hn1 : n ≤ len0) (hn2 : n ≤ 5) (hnn : 2 ≤ n) (hi : 0 ≤ a1 ∧ a1 < 3) :
    Calls Tryz.prog 7 #[.slice (some x) len0 cap0, .int .i64 a1] w fun e w' => e = .returned (.bool true) ∧ Below w.heap.size w w' := by
  have HO := hid H
  have hl := r0.1
  have R1 := hid (rowIn_cut r0 hn1)
  have HL := hid (cutR_len n z0)
  have H1 := hid h1
  have hnc : n ≤ cap0 := by omega
  have hn' : (if (len0 : Int) ≤ 5 then (len0 : Int) else 5) = n := by omega
  have HI := hid hi
  obtain ⟨b, o, hx, hb, hc⟩ := (rowIn_cut r0 hn1).2 (by omega)
  obtain rfl : x = ⟨b, o, none⟩ := by simpa using hx
  have c0 := (hc 0 (by omega)).1
  rw [Nat.add_zero] at c0
  have c1 := (hc 1 (by omega)).1
  generalize hz : cutR n z0 = zs at R1 HL c0 c1
  have HC : Hid (∀ W, Past w W → W.cell? ⟨b, o, none⟩ = some (.int .i64 (zs.getD 0 0)) ∧ W.cell? ⟨b, o + 1, none⟩ = some (.int .i64 (zs.getD 1 0)) ∧ b < W.heap.size) := hid fun W hW => ⟨cellB hW c0, cellB hW c1, World.block_lt_of_cell? _ _ (cellB hW c0)⟩
  clear hc hx hz c0 c1 hb
  have VP := hid (fr_p zs)
  have VA := hid (fr_a zs)
  generalize zs.getD 0 0 = vp at VP HC
  generalize zs.getD 1 0 = va at VA HC
  have m0 : 0 < n := by omega
  have m1 : 1 < n := by omega
  clear H r0 h1 hi
  go_enter Tryz.func7, Tryz.ntmps7
  go_wp2_with (first
    | (go_at_call 17; refine (set_is (HE.out.past HP7.out) { data := #[113] } (by decide) (by decide) (fr_sq zs) rfl).mono ?_; rintro e wk ⟨rfl, -, -, hq⟩; obtain rfl := hq rfl; clear hq)
    | (go_at_call 24; refine (eval_is ((HE.out.past HP6.out).alloc (numO a1)) (idxT_in { data := #[120, 115] } H1.out w6) (x := 0) (t := 0) ((idxT_ev _ _ (by decide) _ _).trans (by rw [V4.out]; rfl)) _ (Past.refl _)).mono ?_; rintro e w7 ⟨rfl, hb⟩; have HP7 := hid ((HP6.out.alloc (numO a1)).on hb); clear hb)
    | (go_at_call 24; refine (eval_is ((HE.out.past HP5.out).alloc (numO a1)) (idxT_in { data := #[112] } H1.out w5) (x := 0) (t := 3) ((idxT_ev _ _ (by decide) _ _).trans (by rw [V3.out]; rfl)) _ (Past.refl _)).mono ?_; rintro e w6 ⟨rfl, hb⟩; have HP6 := hid ((HP5.out.alloc (numO a1)).on hb); clear hb)
    | (go_at_call 24; ((with_reducible refine (E2.out _ HP4.out).mono ?_); rintro e w5 ⟨rfl, hb⟩); have HP5 := hid (HP4.out.on hb); clear hb)
    | (go_at_call 24; ((with_reducible refine (E1.out _ (Past.refl _)).mono ?_); rintro e w4 ⟨rfl, hb⟩); have HP4 := hid (show Past _ _ from hb); clear hb)
    | (go_at_call 15; ((with_reducible refine (G3.out _ (Past.refl _)).mono ?_); rintro e wk ⟨rfl, rfl⟩))
    | (go_at_call 15; ((with_reducible refine (G2.out _ (Past.refl _)).mono ?_); rintro e wk ⟨rfl, rfl⟩))
    | (go_at_call 15; ((with_reducible refine (G1.out _ (Past.refl _)).mono ?_); rintro e wk ⟨rfl, rfl⟩))
    | (go_at_call 11; refine (newF HS2.out.1 HS2.out.2 (rowIn_on R1.out HP2.out) HL.out).mono ?_; rintro e w3 ⟨⟨E, blk, rfl, hE⟩, hb⟩; have HE := hid hE; have HP3 : Hid (Past w w3 ∧ True) := hid ⟨HP2.out.on hb, trivial⟩; have G1 := hid (fun W hW => get_some (hE.past (w' := W) hW) { data := #[112] } (by decide) VP.out); have G2 := hid (fun W hW => get_some (hE.past (w' := W) hW) { data := #[97] } (by decide) VA.out); have G3 := hid (fun W hW => get_some (hE.past (w' := W) hW) { data := #[98] } (by decide) (fr_b zs)); have E1 : Hid (∀ W, Past w3 W → Calls Tryz.prog 24 #[.pointer (some ⟨E, 0, none⟩), .agg #[.int .i64 1, .string { data := #[] }, .int .i64 0, .string { data := #[113] }, .slice none 0 0]] W fun e w' => e = .returned (.tuple #[.int .i64 0, .int .i64 0]) ∧ Below W.heap.size W w') := hid (eval_is hE (var_in { data := #[113] } w3 0) ((varT_ev _ _ (by decide)).trans (by rw [show getV (frL zs) (({ data := #[113] } : ByteArray)).data.toList false 0 = none from fr_q zs]; rfl))); have E2 : Hid (∀ W, Past w3 W → Calls Tryz.prog 24 #[.pointer (some ⟨E, 0, none⟩), .agg #[.int .i64 1, .string { data := #[] }, .int .i64 0, .string { data := #[120, 115] }, .slice none 0 0]] W fun e w' => e = .returned (.tuple #[.int .i64 0, .int .i64 0]) ∧ Below W.heap.size W w') := hid (eval_is hE (var_in { data := #[120, 115] } w3 0) ((varT_ev _ _ (by decide)).trans (by rw [show getV (frL zs) (({ data := #[120, 115] } : ByteArray)).data.toList false 0 = none from fr_xs zs]; rfl))); have V3 : Hid (getV (frL zs) (({ data := #[112] } : ByteArray)).data.toList true a1 = none) := hid (fr_pi zs a1); have hi := HI.out; have V4 : Hid (getV (frL zs) (({ data := #[120, 115] } : ByteArray)).data.toList true a1 = some 0) := hid (fr_xi _ hi.1 hi.2); obtain ⟨i0, i1⟩ := hi; obtain ⟨c0, c1, hbl⟩ := HC.out _ (HP3.out.1); clear hE hb)
    | (go_at_call 10; refine (frame_any w1).mono ?_; rintro e w2 ⟨⟨x, y, nm, rfl, hs, hd⟩, hb⟩; have HS2 := hid (And.intro hs hd); have HP2 : Hid (Past w w2) := hid (HP1.out.on hb); clear hs hd hb)
    | (go_at_call 9; refine (ex_any HO.out).mono ?_; rintro e w1 ⟨rfl, hp⟩; have HP1 := hid hp; clear hp))
  go_ret
  exact ⟨rfl, stepB HP3.out.1 HP7.out⟩
set_option maxHeartbeats 8000000 in
set_option maxRecDepth 100000 in
theorem names_tn (x : Addr) (len0 cap0 n : Nat) (z0 : List Int) (a1 : Int) (h1 : in64 a1) (w : World) (H : Wo w) (r0 : RowIn .i64 w (some x) len0 z0) (hc1 : len0 ≤ cap0) (hc2 : cap0 ≤ 9223372036854775807) (hn : min (len0 : Int) 5 = n) (hn1 : n ≤ len0) (hn2 : n ≤ 5) (hnn : 2 ≤ n) (hi : a1 < 0) :
    Calls Tryz.prog 7 #[.slice (some x) len0 cap0, .int .i64 a1] w fun e w' => e = .returned (.bool true) ∧ Below w.heap.size w w' := by
  have HO := hid H
  have hl := r0.1
  have R1 := hid (rowIn_cut r0 hn1)
  have HL := hid (cutR_len n z0)
  have H1 := hid h1
  have hnc : n ≤ cap0 := by omega
  have hn' : (if (len0 : Int) ≤ 5 then (len0 : Int) else 5) = n := by omega
  have HI := hid hi
  obtain ⟨b, o, hx, hb, hc⟩ := (rowIn_cut r0 hn1).2 (by omega)
  obtain rfl : x = ⟨b, o, none⟩ := by simpa using hx
  have c0 := (hc 0 (by omega)).1
  rw [Nat.add_zero] at c0
  have c1 := (hc 1 (by omega)).1
  generalize hz : cutR n z0 = zs at R1 HL c0 c1
  have HC : Hid (∀ W, Past w W → W.cell? ⟨b, o, none⟩ = some (.int .i64 (zs.getD 0 0)) ∧ W.cell? ⟨b, o + 1, none⟩ = some (.int .i64 (zs.getD 1 0)) ∧ b < W.heap.size) := hid fun W hW => ⟨cellB hW c0, cellB hW c1, World.block_lt_of_cell? _ _ (cellB hW c0)⟩
  clear hc hx hz c0 c1 hb
  have VP := hid (fr_p zs)
  have VA := hid (fr_a zs)
  generalize zs.getD 0 0 = vp at VP HC
  generalize zs.getD 1 0 = va at VA HC
  have m0 : 0 < n := by omega
  have m1 : 1 < n := by omega
  clear H r0 h1 hi
  go_enter Tryz.func7, Tryz.ntmps7
  go_wp2_with (first
    | (go_at_call 17; refine (set_is (HE.out.past HP7.out) { data := #[113] } (by decide) (by decide) (fr_sq zs) rfl).mono ?_; rintro e wk ⟨rfl, -, -, hq⟩; obtain rfl := hq rfl; clear hq)
    | (go_at_call 24; refine (eval_is ((HE.out.past HP6.out).alloc (numO a1)) (idxT_in { data := #[120, 115] } H1.out w6) (x := 0) (t := 3) ((idxT_ev _ _ (by decide) _ _).trans (by rw [V4.out]; rfl)) _ (Past.refl _)).mono ?_; rintro e w7 ⟨rfl, hb⟩; have HP7 := hid ((HP6.out.alloc (numO a1)).on hb); clear hb)
    | (go_at_call 24; refine (eval_is ((HE.out.past HP5.out).alloc (numO a1)) (idxT_in { data := #[112] } H1.out w5) (x := 0) (t := 3) ((idxT_ev _ _ (by decide) _ _).trans (by rw [V3.out]; rfl)) _ (Past.refl _)).mono ?_; rintro e w6 ⟨rfl, hb⟩; have HP6 := hid ((HP5.out.alloc (numO a1)).on hb); clear hb)
    | (go_at_call 24; ((with_reducible refine (E2.out _ HP4.out).mono ?_); rintro e w5 ⟨rfl, hb⟩); have HP5 := hid (HP4.out.on hb); clear hb)
    | (go_at_call 24; ((with_reducible refine (E1.out _ (Past.refl _)).mono ?_); rintro e w4 ⟨rfl, hb⟩); have HP4 := hid (show Past _ _ from hb); clear hb)
    | (go_at_call 15; ((with_reducible refine (G3.out _ (Past.refl _)).mono ?_); rintro e wk ⟨rfl, rfl⟩))
    | (go_at_call 15; ((with_reducible refine (G2.out _ (Past.refl _)).mono ?_); rintro e wk ⟨rfl, rfl⟩))
    | (go_at_call 15; ((with_reducible refine (G1.out _ (Past.refl _)).mono ?_); rintro e wk ⟨rfl, rfl⟩))
    | (go_at_call 11; refine (newF HS2.out.1 HS2.out.2 (rowIn_on R1.out HP2.out) HL.out).mono ?_; rintro e w3 ⟨⟨E, blk, rfl, hE⟩, hb⟩; have HE := hid hE; have HP3 : Hid (Past w w3 ∧ True) := hid ⟨HP2.out.on hb, trivial⟩; have G1 := hid (fun W hW => get_some (hE.past (w' := W) hW) { data := #[112] } (by decide) VP.out); have G2 := hid (fun W hW => get_some (hE.past (w' := W) hW) { data := #[97] } (by decide) VA.out); have G3 := hid (fun W hW => get_some (hE.past (w' := W) hW) { data := #[98] } (by decide) (fr_b zs)); have E1 : Hid (∀ W, Past w3 W → Calls Tryz.prog 24 #[.pointer (some ⟨E, 0, none⟩), .agg #[.int .i64 1, .string { data := #[] }, .int .i64 0, .string { data := #[113] }, .slice none 0 0]] W fun e w' => e = .returned (.tuple #[.int .i64 0, .int .i64 0]) ∧ Below W.heap.size W w') := hid (eval_is hE (var_in { data := #[113] } w3 0) ((varT_ev _ _ (by decide)).trans (by rw [show getV (frL zs) (({ data := #[113] } : ByteArray)).data.toList false 0 = none from fr_q zs]; rfl))); have E2 : Hid (∀ W, Past w3 W → Calls Tryz.prog 24 #[.pointer (some ⟨E, 0, none⟩), .agg #[.int .i64 1, .string { data := #[] }, .int .i64 0, .string { data := #[120, 115] }, .slice none 0 0]] W fun e w' => e = .returned (.tuple #[.int .i64 0, .int .i64 0]) ∧ Below W.heap.size W w') := hid (eval_is hE (var_in { data := #[120, 115] } w3 0) ((varT_ev _ _ (by decide)).trans (by rw [show getV (frL zs) (({ data := #[120, 115] } : ByteArray)).data.toList false 0 = none from fr_xs zs]; rfl))); have V3 : Hid (getV (frL zs) (({ data := #[112] } : ByteArray)).data.toList true a1 = none) := hid (fr_pi zs a1); have hi := HI.out; have V4 : Hid (getV (frL zs) (({ data := #[120, 115] } : ByteArray)).data.toList true a1 = none) := hid (fr_xo _ (.inl hi)); obtain ⟨c0, c1, hbl⟩ := HC.out _ (HP3.out.1); clear hE hb)
    | (go_at_call 10; refine (frame_any w1).mono ?_; rintro e w2 ⟨⟨x, y, nm, rfl, hs, hd⟩, hb⟩; have HS2 := hid (And.intro hs hd); have HP2 : Hid (Past w w2) := hid (HP1.out.on hb); clear hs hd hb)
    | (go_at_call 9; refine (ex_any HO.out).mono ?_; rintro e w1 ⟨rfl, hp⟩; have HP1 := hid hp; clear hp))
  go_ret
  exact ⟨rfl, stepB HP3.out.1 HP7.out⟩
set_option maxHeartbeats 8000000 in
set_option maxRecDepth 100000 in
theorem names_tb (x : Addr) (len0 cap0 n : Nat) (z0 : List Int) (a1 : Int) (h1 : in64 a1) (w : World) (H : Wo w) (r0 : RowIn .i64 w (some x) len0 z0) (hc1 : len0 ≤ cap0) (hc2 : cap0 ≤ 9223372036854775807) (hn : min (len0 : Int) 5 = n) (hn1 : n ≤ len0) (hn2 : n ≤ 5) (hnn : 2 ≤ n) (hi : 3 ≤ a1) :
    Calls Tryz.prog 7 #[.slice (some x) len0 cap0, .int .i64 a1] w fun e w' => e = .returned (.bool true) ∧ Below w.heap.size w w' := by
  have HO := hid H
  have hl := r0.1
  have R1 := hid (rowIn_cut r0 hn1)
  have HL := hid (cutR_len n z0)
  have H1 := hid h1
  have hnc : n ≤ cap0 := by omega
  have hn' : (if (len0 : Int) ≤ 5 then (len0 : Int) else 5) = n := by omega
  have HI := hid hi
  obtain ⟨b, o, hx, hb, hc⟩ := (rowIn_cut r0 hn1).2 (by omega)
  obtain rfl : x = ⟨b, o, none⟩ := by simpa using hx
  have c0 := (hc 0 (by omega)).1
  rw [Nat.add_zero] at c0
  have c1 := (hc 1 (by omega)).1
  generalize hz : cutR n z0 = zs at R1 HL c0 c1
  have HC : Hid (∀ W, Past w W → W.cell? ⟨b, o, none⟩ = some (.int .i64 (zs.getD 0 0)) ∧ W.cell? ⟨b, o + 1, none⟩ = some (.int .i64 (zs.getD 1 0)) ∧ b < W.heap.size) := hid fun W hW => ⟨cellB hW c0, cellB hW c1, World.block_lt_of_cell? _ _ (cellB hW c0)⟩
  clear hc hx hz c0 c1 hb
  have VP := hid (fr_p zs)
  have VA := hid (fr_a zs)
  generalize zs.getD 0 0 = vp at VP HC
  generalize zs.getD 1 0 = va at VA HC
  have m0 : 0 < n := by omega
  have m1 : 1 < n := by omega
  clear H r0 h1 hi
  go_enter Tryz.func7, Tryz.ntmps7
  go_wp2_with (first
    | (go_at_call 17; refine (set_is (HE.out.past HP7.out) { data := #[113] } (by decide) (by decide) (fr_sq zs) rfl).mono ?_; rintro e wk ⟨rfl, -, -, hq⟩; obtain rfl := hq rfl; clear hq)
    | (go_at_call 24; refine (eval_is ((HE.out.past HP6.out).alloc (numO a1)) (idxT_in { data := #[120, 115] } H1.out w6) (x := 0) (t := 3) ((idxT_ev _ _ (by decide) _ _).trans (by rw [V4.out]; rfl)) _ (Past.refl _)).mono ?_; rintro e w7 ⟨rfl, hb⟩; have HP7 := hid ((HP6.out.alloc (numO a1)).on hb); clear hb)
    | (go_at_call 24; refine (eval_is ((HE.out.past HP5.out).alloc (numO a1)) (idxT_in { data := #[112] } H1.out w5) (x := 0) (t := 3) ((idxT_ev _ _ (by decide) _ _).trans (by rw [V3.out]; rfl)) _ (Past.refl _)).mono ?_; rintro e w6 ⟨rfl, hb⟩; have HP6 := hid ((HP5.out.alloc (numO a1)).on hb); clear hb)
    | (go_at_call 24; ((with_reducible refine (E2.out _ HP4.out).mono ?_); rintro e w5 ⟨rfl, hb⟩); have HP5 := hid (HP4.out.on hb); clear hb)
    | (go_at_call 24; ((with_reducible refine (E1.out _ (Past.refl _)).mono ?_); rintro e w4 ⟨rfl, hb⟩); have HP4 := hid (show Past _ _ from hb); clear hb)
    | (go_at_call 15; ((with_reducible refine (G3.out _ (Past.refl _)).mono ?_); rintro e wk ⟨rfl, rfl⟩))
    | (go_at_call 15; ((with_reducible refine (G2.out _ (Past.refl _)).mono ?_); rintro e wk ⟨rfl, rfl⟩))
    | (go_at_call 15; ((with_reducible refine (G1.out _ (Past.refl _)).mono ?_); rintro e wk ⟨rfl, rfl⟩))
    | (go_at_call 11; refine (newF HS2.out.1 HS2.out.2 (rowIn_on R1.out HP2.out) HL.out).mono ?_; rintro e w3 ⟨⟨E, blk, rfl, hE⟩, hb⟩; have HE := hid hE; have HP3 : Hid (Past w w3 ∧ True) := hid ⟨HP2.out.on hb, trivial⟩; have G1 := hid (fun W hW => get_some (hE.past (w' := W) hW) { data := #[112] } (by decide) VP.out); have G2 := hid (fun W hW => get_some (hE.past (w' := W) hW) { data := #[97] } (by decide) VA.out); have G3 := hid (fun W hW => get_some (hE.past (w' := W) hW) { data := #[98] } (by decide) (fr_b zs)); have E1 : Hid (∀ W, Past w3 W → Calls Tryz.prog 24 #[.pointer (some ⟨E, 0, none⟩), .agg #[.int .i64 1, .string { data := #[] }, .int .i64 0, .string { data := #[113] }, .slice none 0 0]] W fun e w' => e = .returned (.tuple #[.int .i64 0, .int .i64 0]) ∧ Below W.heap.size W w') := hid (eval_is hE (var_in { data := #[113] } w3 0) ((varT_ev _ _ (by decide)).trans (by rw [show getV (frL zs) (({ data := #[113] } : ByteArray)).data.toList false 0 = none from fr_q zs]; rfl))); have E2 : Hid (∀ W, Past w3 W → Calls Tryz.prog 24 #[.pointer (some ⟨E, 0, none⟩), .agg #[.int .i64 1, .string { data := #[] }, .int .i64 0, .string { data := #[120, 115] }, .slice none 0 0]] W fun e w' => e = .returned (.tuple #[.int .i64 0, .int .i64 0]) ∧ Below W.heap.size W w') := hid (eval_is hE (var_in { data := #[120, 115] } w3 0) ((varT_ev _ _ (by decide)).trans (by rw [show getV (frL zs) (({ data := #[120, 115] } : ByteArray)).data.toList false 0 = none from fr_xs zs]; rfl))); have V3 : Hid (getV (frL zs) (({ data := #[112] } : ByteArray)).data.toList true a1 = none) := hid (fr_pi zs a1); have hi := HI.out; have V4 : Hid (getV (frL zs) (({ data := #[120, 115] } : ByteArray)).data.toList true a1 = none) := hid (fr_xo _ (.inr hi)); obtain ⟨c0, c1, hbl⟩ := HC.out _ (HP3.out.1); clear hE hb)
    | (go_at_call 10; refine (frame_any w1).mono ?_; rintro e w2 ⟨⟨x, y, nm, rfl, hs, hd⟩, hb⟩; have HS2 := hid (And.intro hs hd); have HP2 : Hid (Past w w2) := hid (HP1.out.on hb); clear hs hd hb)
    | (go_at_call 9; refine (ex_any HO.out).mono ?_; rintro e w1 ⟨rfl, hp⟩; have HP1 := hid hp; clear hp))
  go_ret
  refine ⟨?_, stepB HP3.out.1 HP7.out⟩
  have hi := HI.out
  have : decide (a1 < 3) = false := by simpa using hi
  simp [this]
end Go.Proofs.YtdaklmbifkehpaaGreatDoor.Ev
