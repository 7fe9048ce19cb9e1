/- The walk of EvalParts. (Written by genparts.py.) -/
import Derived.Test.YtdaklmbifkehpaaGreatDoorEFeed
import Derived.Test.YtdaklmbifkehpaaGreatDoorEParts0
set_option linter.unusedSimpArgs false
set_option linter.unusedVariables false
namespace Go.Proofs.YtdaklmbifkehpaaGreatDoor.Ev
open Go Go.RowKit Go.Proofs.YtdaklmbifkehpaaGreatDoor Go.Proofs.YtdaklmbifkehpaaGreatDoor.Pm
open Go.Lib (hid)

set_option maxHeartbeats 16000000 in
set_option maxRecDepth 100000 in
theorem evalParts_walk (a0 : Option Addr) (len0 cap0 : Nat) (z0 : List Int) (a1 : Option Addr) (len1 cap1 : Nat) (z1 : List Int) (a2 a3 a4 : Int) (w2 : (Lit.int .u8 a2).wf = true) (w3 : (Lit.int .i64 a3).wf = true) (w4 : (Lit.int .i64 a4).wf = true) (w : World) (H : Wo w) (r0 : RowIn .u8 w a0 len0 z0) (r1 : RowIn .u8 w a1 len1 z1) :
    Calls Tryz.prog 6 #[.slice a0 len0 cap0, .slice a1 len1 cap1, .int .u8 a2, .int .i64 a3, .int .i64 a4] w fun e w' => e = .returned (.bool true) ∧ Below w.heap.size w w' := by
  have hu : 0 ≤ a2 ∧ a2 ≤ 255 := by
    simp only [Lit.wf, IntKind.min, IntKind.max, Bool.and_eq_true] at w2
    exact ⟨of_decide_eq_true w2.1, of_decide_eq_true w2.2⟩
  have HO := hid H
  have R0 := hid r0
  have R1 := hid r1
  have H2 := hid (wf_in64 w3)
  have H3 := hid (wf_in64 w4)
  obtain ⟨j, hj, ej⟩ : ∃ j : Nat, j < 18 ∧ a2 % 18 = j := ⟨(a2 % 18).toNat, by omega, by omega⟩
  obtain ⟨m0, m1⟩ := hu
  have em : a2.tmod 18 = (j : Nat) := by rw [Int.tmod_eq_emod_of_nonneg m0]; exact ej
  have HEJ := hid ej
  clear H r0 r1 w2 w3 w4 ej
  go_enter Tryz.func6, Tryz.ntmps6
  go_upto_region 10 with (first
    | (go_at_call 33; refine (ops_own w3 (Past.refl w3)).mono ?_; rintro e w4 ⟨rfl, ho, hb, -⟩; have HOP := hid (And.intro ho hb); clear ho hb)
    | (go_at_call 11; refine (newF (HS2.out.1.on ((Below.refl w2.heap.size w2).alloc (Nat.le_refl _) (.cells #[.int .i64 a3, .int .i64 a4] 2))) (HS2.out.2.on ((Below.refl w2.heap.size w2).alloc (Nat.le_refl _) (.cells #[.int .i64 a3, .int .i64 a4] 2))) (row2_in (bk_new w2 (.cells #[.int .i64 a3, .int .i64 a4] 2)) H2.out H3.out) rfl).mono ?_; rintro e w3 ⟨⟨E, blk, rfl, hE⟩, hb⟩; have HE3 := hid hE; have HB3 : Hid (Past w w3) := hid ((HP2.out.alloc (.cells #[.int .i64 a3, .int .i64 a4] 2)).on hb); clear hE hb)
    | (go_at_call 10; refine (frame_any w1).mono ?_; rintro e w2 ⟨⟨x, y, nm, rfl, hs, hd⟩, hb⟩; have HS2 := hid (And.intro hs hd); have HP2 : Hid (Past w w2) := hid (HP1.out.on hb); clear hs hd hb)
    | (go_at_call 9; refine (ex_any HO.out).mono ?_; rintro e w1 ⟨rfl, hp⟩; have HP1 := hid hp; clear hp))
  have hk : Below w4.heap.size w4 ((((((w4.alloc intsO).alloc arrsO).alloc (feedO a0 len0 cap0 w4.heap.size (w4.heap.size + 1))).alloc intsO).alloc arrsO).alloc (feedO a1 len1 cap1 (w4.heap.size + 1 + 1 + 1) (w4.heap.size + 1 + 1 + 1 + 1))) := by
    repeat' (first | with_reducible exact Below.refl _ _ | with_reducible refine Below.alloc ?_ ?_ _ | (simp; done) | (simp; omega))
  have k0 : ((((((w4.alloc intsO).alloc arrsO).alloc (feedO a0 len0 cap0 w4.heap.size (w4.heap.size + 1))).alloc intsO).alloc arrsO).alloc (feedO a1 len1 cap1 (w4.heap.size + 1 + 1 + 1) (w4.heap.size + 1 + 1 + 1 + 1))).heap[w4.heap.size]? = some (.cells #[.string { data := #[97] }, .string { data := #[98] }, .string { data := #[112] }] 9 (0, 0)) := by (repeat' (first | (with_reducible refine bk_new' _ ?_; simp; done) | with_reducible apply bk_old))
  have k1 : ((((((w4.alloc intsO).alloc arrsO).alloc (feedO a0 len0 cap0 w4.heap.size (w4.heap.size + 1))).alloc intsO).alloc arrsO).alloc (feedO a1 len1 cap1 (w4.heap.size + 1 + 1 + 1) (w4.heap.size + 1 + 1 + 1 + 1))).heap[w4.heap.size + 1]? = some (.cells #[.string { data := #[120, 115] }, .string { data := #[121, 115] }] 9 (0, 0)) := by (repeat' (first | (with_reducible refine bk_new' _ ?_; simp; done) | with_reducible apply bk_old))
  have k2 : ((((((w4.alloc intsO).alloc arrsO).alloc (feedO a0 len0 cap0 w4.heap.size (w4.heap.size + 1))).alloc intsO).alloc arrsO).alloc (feedO a1 len1 cap1 (w4.heap.size + 1 + 1 + 1) (w4.heap.size + 1 + 1 + 1 + 1))).heap[w4.heap.size + 1 + 1]? = some (.cells #[.slice a0 len0 cap0, .int .i64 0, .slice (some ⟨w4.heap.size, 0, none⟩) 3 3, .slice (some ⟨w4.heap.size + 1, 0, none⟩) 2 2, .int .i64 0, .int .i64 0, .bool false] 54 (0, 0)) := by (repeat' (first | (with_reducible refine bk_new' _ ?_; simp; done) | with_reducible apply bk_old))
  have k3 : ((((((w4.alloc intsO).alloc arrsO).alloc (feedO a0 len0 cap0 w4.heap.size (w4.heap.size + 1))).alloc intsO).alloc arrsO).alloc (feedO a1 len1 cap1 (w4.heap.size + 1 + 1 + 1) (w4.heap.size + 1 + 1 + 1 + 1))).heap[w4.heap.size + 1 + 1 + 1]? = some (.cells #[.string { data := #[97] }, .string { data := #[98] }, .string { data := #[112] }] 9 (0, 0)) := by (repeat' (first | (with_reducible refine bk_new' _ ?_; simp; done) | with_reducible apply bk_old))
  have k4 : ((((((w4.alloc intsO).alloc arrsO).alloc (feedO a0 len0 cap0 w4.heap.size (w4.heap.size + 1))).alloc intsO).alloc arrsO).alloc (feedO a1 len1 cap1 (w4.heap.size + 1 + 1 + 1) (w4.heap.size + 1 + 1 + 1 + 1))).heap[w4.heap.size + 1 + 1 + 1 + 1]? = some (.cells #[.string { data := #[120, 115] }, .string { data := #[121, 115] }] 9 (0, 0)) := by (repeat' (first | (with_reducible refine bk_new' _ ?_; simp; done) | with_reducible apply bk_old))
  have k5 : ((((((w4.alloc intsO).alloc arrsO).alloc (feedO a0 len0 cap0 w4.heap.size (w4.heap.size + 1))).alloc intsO).alloc arrsO).alloc (feedO a1 len1 cap1 (w4.heap.size + 1 + 1 + 1) (w4.heap.size + 1 + 1 + 1 + 1))).heap[w4.heap.size + 1 + 1 + 1 + 1 + 1]? = some (.cells #[.slice a1 len1 cap1, .int .i64 0, .slice (some ⟨w4.heap.size + 1 + 1 + 1, 0, none⟩) 3 3, .slice (some ⟨w4.heap.size + 1 + 1 + 1 + 1, 0, none⟩) 2 2, .int .i64 0, .int .i64 0, .bool false] 54 (0, 0)) := by (repeat' (first | (with_reducible refine bk_new' _ ?_; simp; done) | with_reducible apply bk_old))
  have HK := hid (And.intro hk (And.intro k0 (And.intro k1 (And.intro k2 (And.intro k3 (And.intro k4 k5))))))
  clear hk k0 k1 k2 k3 k4 k5
  generalize ((((((w4.alloc intsO).alloc arrsO).alloc (feedO a0 len0 cap0 w4.heap.size (w4.heap.size + 1))).alloc intsO).alloc arrsO).alloc (feedO a1 len1 cap1 (w4.heap.size + 1 + 1 + 1) (w4.heap.size + 1 + 1 + 1 + 1))) = wk at *
  have HR0 := hid (rowIn_on R0.out (HB3.out.on HOP.out.2))
  have HR1 := hid (rowIn_on R1.out (HB3.out.on HOP.out.2))
  go_upto_region 12 with (first
    | (go_at_call 23; refine (feed_run (cap := cap1) HR1.out (HT5.out.2.2.1.alloc HT5.out.2.2.1.size (fiveO T)) HT5.out.2.2.2.1 HT5.out.2.2.2.2.1 HT5.out.2.2.2.2.2.1 (by omega) (by omega) (by omega) 3 (by decide)).mono ?_; rintro e w6 ⟨U, rfl, hU, hin, hb, hg⟩; have HU6 := hid (And.intro hU (And.intro hin (And.intro hb hg))); clear hU hin hb hg)
    | (go_at_call 23; refine (feed_run (cap := cap0) HR0.out HK.out.1 HK.out.2.1 HK.out.2.2.1 HK.out.2.2.2.1 (by omega) (by omega) (by omega) 3 (by decide)).mono ?_; rintro e w5 ⟨T, rfl, hT, hin, hb, hg⟩; have HT5 := hid (And.intro hT (And.intro hin (And.intro hb (And.intro (bk_old (fiveO T) ((hg.block _ (lt_of_block HK.out.2.2.2.2.1) (by simp <;> omega)).trans HK.out.2.2.2.2.1)) (And.intro (bk_old (fiveO T) ((hg.block _ (lt_of_block HK.out.2.2.2.2.2.1) (by simp <;> omega)).trans HK.out.2.2.2.2.2.1)) (And.intro (bk_old (fiveO T) ((hg.block _ (lt_of_block HK.out.2.2.2.2.2.2) (by simp <;> omega)).trans HK.out.2.2.2.2.2.2)) hg.size)))))); clear hT hin hb hg))
  have hf2 := lt_of_block HK.out.2.2.2.2.2.2
  have hsh : Sh w (w2.alloc (.cells #[.int .i64 a3, .int .i64 a4] 2)).heap.size E w5.heap.size w6.heap.size w3.heap.size blk (frL [a3, a4]) T U (w6.alloc (fiveO U)) := by
    obtain ⟨hU, hui, hub, hug⟩ := HU6.out
    obtain ⟨hT, hti, htb, -, -, -, hsz⟩ := HT5.out
    have h6 : Below w6.heap.size w6 (w6.alloc (fiveO U)) := (Below.refl _ _).alloc (Nat.le_refl _) _
    refine ⟨((HE3.out.on HOP.out.2).on hub).on h6, ?_, hT.right, (hui.on h6).mono (Nat.zero_le _), hU.right, bk_old (fiveO U) ((hug.block w5.heap.size (by simp) (by simp; omega)).trans (bk_new w5 (fiveO T))), bk_new w6 (fiveO U), (HOP.out.1.on hub).on h6, (((HB3.out.on HOP.out.2).on hub).on h6)⟩
    exact (((hti.on ((Below.refl w5.heap.size w5).alloc (Nat.le_refl _) (fiveO T))).keep (keep_of_grown hug hf2)).on h6).mono (Nat.zero_le _)
  have HSH := hid hsh
  clear hsh hf2 HE3 HOP HB3 HS2 HP2 HP1 R0 R1 HR0 HR1 H2 H3 HO HK HT5 HU6
  generalize w6.alloc (fiveO U) = wb at *
  generalize w6.heap.size = r at *
  generalize w5.heap.size = q at *
  generalize w3.heap.size = ob at *
  obtain ⟨⟨b0, b1, b2, b3, b4⟩, d0, d1, d2, d3, d4⟩ := HSH.out.cells (Past.refl wb)
  have c0 := HSH.out.ops.2 j hj
  have hob := HSH.out.ops.1
  have HLE := hid (opAt_lev j hj)
  generalize opAt j = o at *
  obtain ⟨n, u, hnu⟩ : ∃ n u, evE (frL [a3, a4]) T.re = (n, u) := ⟨_, _, rfl⟩
  obtain ⟨m, v, hmv⟩ : ∃ m v, evE (frL [a3, a4]) U.re = (m, v) := ⟨_, _, rfl⟩
  have V1 := hid (eval_is HSH.out.env HSH.out.tin ((ev_right _ HSH.out.tright).trans hnu))
  have V2 := hid (eval_is HSH.out.env HSH.out.uin ((ev_right _ HSH.out.uright).trans hmv))
  have HNU := hid (And.intro hnu hmv)
  have HBN : Hid (∀ W x y, Calls Tryz.prog 34 #[.string o, .int .i64 x, .int .i64 y] W fun e w' => e = .returned (.tuple #[.int .i64 (binV o x y), .int .i64 (binT o y)]) ∧ Below W.heap.size W w') := hid fun W x y => bin_any o x y W
  clear hnu hmv
  by_cases hu : u = 0
  · subst hu
    have e0 : ((0 : Int) != 0) = false := rfl
    have q1 : (o.toList == [38, 38]) = decide (o.data.toList = [38, 38]) := by rw [ByteArray.toList_eq]; exact beq_dec _ _
    have q2 : (o.toList == [124, 124]) = decide (o.data.toList = [124, 124]) := by rw [ByteArray.toList_eq]; exact beq_dec _ _
    by_cases o1 : o.data.toList = [38, 38]
    · have o2 : ¬ o.data.toList = [124, 124] := by rw [o1]; decide
      rw [decide_eq_true o1] at q1
      rw [decide_eq_false o2] at q2
      by_cases hn : n = 0
      · subst hn
        have z0 : ((0 : Int) == 0) = true := rfl
        have HBR : Hid (binR o (0, 0) (m, v) = (0, 0)) := hid (by unfold binR aloneV; rw [if_pos rfl, if_pos ⟨o1, rfl⟩])
        have HBV : Hid (binV o 0 0 = 0) := hid (by rw [of_list o1]; rfl)
        clear o1 o2
        go_wp2_with (first
          | (go_at_call 34; have hx := HBN.out w9 0 0; rw [HBV.out] at hx; refine hx.mono ?_; clear hx; rintro e w10 ⟨rfl, hb⟩; have HPE := hid (stepB (stepB HSH.out.past (HP8.out.alloc (tenO T U))) (stepB HP9.out hb)); clear hb)
          | (go_at_call 24; ((with_reducible refine (V3.out _ (Past.refl _)).mono ?_); rintro e w9 ⟨rfl, hb⟩); have HP9 := hid hb; clear hb)
          | (go_at_call 24; ((with_reducible refine (V2.out _ HP7.out).mono ?_); rintro e w8 ⟨rfl, hb⟩); have HP8 : Hid (Past wb w8) := hid (HP7.out.on hb); clear hb; have V3 : Hid (∀ W, Past (w8.alloc (tenO T U)) W → Calls Tryz.prog 24 #[.pointer (some ⟨E, 0, none⟩), .agg #[.int .i64 4, .string o, .int .i64 0, .string { data := #[] }, .slice (some ⟨w8.heap.size, 0, none⟩) 2 2]] W fun e w' => e = .returned (.tuple #[.int .i64 0, .int .i64 0]) ∧ Below W.heap.size W w') := hid (eval_is ((HSH.out.env.past HP8.out).alloc (tenO T U)) (twoT_in o (HSH.out.tin.on HP8.out) (HSH.out.uin.on HP8.out)) (x := 0) (t := 0) ((twoT_ev (frL [a3, a4]) HLE.out _ HSH.out.tright HSH.out.uright).trans (by rw [HNU.out.1, HNU.out.2]; exact HBR.out))); obtain ⟨⟨b0, b1, b2, b3, b4⟩, d0, d1, d2, d3, d4⟩ := HSH.out.cells HP8.out)
          | (go_at_call 24; ((with_reducible refine (V1.out _ (Past.refl wb)).mono ?_); rintro e w7 ⟨rfl, hb⟩); have HP7 : Hid (Past wb w7) := hid hb; clear hb; obtain ⟨⟨b0, b1, b2, b3, b4⟩, d0, d1, d2, d3, d4⟩ := HSH.out.cells HP7.out))
        go_ret
        exact ⟨rfl, HPE.out⟩
      · have z0 : (n == 0) = false := by simpa using hn
        have z1 : (n != 0) = true := by simpa using hn
        have HAL : Hid (aloneV o n = none) := hid (by unfold aloneV; rw [if_neg (fun h => hn h.2), if_neg (fun h => o2 h.1)])
        clear o1 o2 hn
        by_cases hv : v = 0
        · subst hv
          have HBR0 : Hid (binR o (n, 0) (m, 0) = (binV o n m, binT o m)) := hid (by unfold binR; rw [if_pos rfl]; simp only [HAL.out, if_true])
          have HBX := hid (fun W => HBN.out W n m)
          obtain ⟨bv, bt, hbv, hbt⟩ : ∃ bv bt, binV o n m = bv ∧ binT o m = bt := ⟨_, _, rfl, rfl⟩
          rw [hbv, hbt] at HBR0 HBX
          have HBR := HBR0
          clear hbv hbt HBR0
          go_wp2_with (first
            | (go_at_call 34; ((with_reducible refine (HBX.out _).mono ?_); rintro e w10 ⟨rfl, hb⟩); have HPE := hid (stepB (stepB HSH.out.past (HP8.out.alloc (tenO T U))) (stepB HP9.out hb)); clear hb)
            | (go_at_call 24; ((with_reducible refine (V3.out _ (Past.refl _)).mono ?_); rintro e w9 ⟨rfl, hb⟩); have HP9 := hid hb; clear hb)
            | (go_at_call 24; ((with_reducible refine (V2.out _ HP7.out).mono ?_); rintro e w8 ⟨rfl, hb⟩); have HP8 : Hid (Past wb w8) := hid (HP7.out.on hb); clear hb; have V3 : Hid (∀ W, Past (w8.alloc (tenO T U)) W → Calls Tryz.prog 24 #[.pointer (some ⟨E, 0, none⟩), .agg #[.int .i64 4, .string o, .int .i64 0, .string { data := #[] }, .slice (some ⟨w8.heap.size, 0, none⟩) 2 2]] W fun e w' => e = .returned (.tuple #[.int .i64 bv, .int .i64 bt]) ∧ Below W.heap.size W w') := hid (eval_is ((HSH.out.env.past HP8.out).alloc (tenO T U)) (twoT_in o (HSH.out.tin.on HP8.out) (HSH.out.uin.on HP8.out)) (x := bv) (t := bt) ((twoT_ev (frL [a3, a4]) HLE.out _ HSH.out.tright HSH.out.uright).trans (by rw [HNU.out.1, HNU.out.2]; exact HBR.out))); obtain ⟨⟨b0, b1, b2, b3, b4⟩, d0, d1, d2, d3, d4⟩ := HSH.out.cells HP8.out)
            | (go_at_call 24; ((with_reducible refine (V1.out _ (Past.refl wb)).mono ?_); rintro e w7 ⟨rfl, hb⟩); have HP7 : Hid (Past wb w7) := hid hb; clear hb; obtain ⟨⟨b0, b1, b2, b3, b4⟩, d0, d1, d2, d3, d4⟩ := HSH.out.cells HP7.out))
          go_ret
          exact ⟨rfl, HPE.out⟩
        · have ev : (v != 0) = true := by simpa using hv
          have HBR : Hid (binR o (n, 0) (m, v) = (0, v)) := hid (by unfold binR; rw [if_pos rfl]; simp only [HAL.out]; rw [if_neg hv])
          clear hv
          go_wp2_with (first
            | (go_at_call 24; ((with_reducible refine (V3.out _ (Past.refl _)).mono ?_); rintro e w9 ⟨rfl, hb⟩); have HPE := hid (stepB (stepB HSH.out.past (HP8.out.alloc (tenO T U))) hb); have HP9 := hid hb; clear hb)
            | (go_at_call 24; ((with_reducible refine (V2.out _ HP7.out).mono ?_); rintro e w8 ⟨rfl, hb⟩); have HP8 : Hid (Past wb w8) := hid (HP7.out.on hb); clear hb; have V3 : Hid (∀ W, Past (w8.alloc (tenO T U)) W → Calls Tryz.prog 24 #[.pointer (some ⟨E, 0, none⟩), .agg #[.int .i64 4, .string o, .int .i64 0, .string { data := #[] }, .slice (some ⟨w8.heap.size, 0, none⟩) 2 2]] W fun e w' => e = .returned (.tuple #[.int .i64 0, .int .i64 v]) ∧ Below W.heap.size W w') := hid (eval_is ((HSH.out.env.past HP8.out).alloc (tenO T U)) (twoT_in o (HSH.out.tin.on HP8.out) (HSH.out.uin.on HP8.out)) (x := 0) (t := v) ((twoT_ev (frL [a3, a4]) HLE.out _ HSH.out.tright HSH.out.uright).trans (by rw [HNU.out.1, HNU.out.2]; exact HBR.out))); obtain ⟨⟨b0, b1, b2, b3, b4⟩, d0, d1, d2, d3, d4⟩ := HSH.out.cells HP8.out)
            | (go_at_call 24; ((with_reducible refine (V1.out _ (Past.refl wb)).mono ?_); rintro e w7 ⟨rfl, hb⟩); have HP7 : Hid (Past wb w7) := hid hb; clear hb; obtain ⟨⟨b0, b1, b2, b3, b4⟩, d0, d1, d2, d3, d4⟩ := HSH.out.cells HP7.out))
          go_ret
          exact ⟨rfl, HPE.out⟩
    · rw [decide_eq_false o1] at q1
      by_cases o2 : o.data.toList = [124, 124]
      · rw [decide_eq_true o2] at q2
        by_cases hn : n = 0
        · subst hn
          have z0 : ((0 : Int) == 0) = true := rfl
          have HAL : Hid (aloneV o 0 = none) := hid (by unfold aloneV; rw [if_neg (fun h => o1 h.1), if_neg (fun h => h.2 rfl)])
          clear o1 o2
          by_cases hv : v = 0
          · subst hv
            have HBR0 : Hid (binR o (0, 0) (m, 0) = (binV o 0 m, binT o m)) := hid (by unfold binR; rw [if_pos rfl]; simp only [HAL.out, if_true])
            have HBX := hid (fun W => HBN.out W 0 m)
            obtain ⟨bv, bt, hbv, hbt⟩ : ∃ bv bt, binV o 0 m = bv ∧ binT o m = bt := ⟨_, _, rfl, rfl⟩
            rw [hbv, hbt] at HBR0 HBX
            have HBR := HBR0
            clear hbv hbt HBR0
            go_wp2_with (first
              | (go_at_call 34; ((with_reducible refine (HBX.out _).mono ?_); rintro e w10 ⟨rfl, hb⟩); have HPE := hid (stepB (stepB HSH.out.past (HP8.out.alloc (tenO T U))) (stepB HP9.out hb)); clear hb)
              | (go_at_call 24; ((with_reducible refine (V3.out _ (Past.refl _)).mono ?_); rintro e w9 ⟨rfl, hb⟩); have HP9 := hid hb; clear hb)
              | (go_at_call 24; ((with_reducible refine (V2.out _ HP7.out).mono ?_); rintro e w8 ⟨rfl, hb⟩); have HP8 : Hid (Past wb w8) := hid (HP7.out.on hb); clear hb; have V3 : Hid (∀ W, Past (w8.alloc (tenO T U)) W → Calls Tryz.prog 24 #[.pointer (some ⟨E, 0, none⟩), .agg #[.int .i64 4, .string o, .int .i64 0, .string { data := #[] }, .slice (some ⟨w8.heap.size, 0, none⟩) 2 2]] W fun e w' => e = .returned (.tuple #[.int .i64 bv, .int .i64 bt]) ∧ Below W.heap.size W w') := hid (eval_is ((HSH.out.env.past HP8.out).alloc (tenO T U)) (twoT_in o (HSH.out.tin.on HP8.out) (HSH.out.uin.on HP8.out)) (x := bv) (t := bt) ((twoT_ev (frL [a3, a4]) HLE.out _ HSH.out.tright HSH.out.uright).trans (by rw [HNU.out.1, HNU.out.2]; exact HBR.out))); obtain ⟨⟨b0, b1, b2, b3, b4⟩, d0, d1, d2, d3, d4⟩ := HSH.out.cells HP8.out)
              | (go_at_call 24; ((with_reducible refine (V1.out _ (Past.refl wb)).mono ?_); rintro e w7 ⟨rfl, hb⟩); have HP7 : Hid (Past wb w7) := hid hb; clear hb; obtain ⟨⟨b0, b1, b2, b3, b4⟩, d0, d1, d2, d3, d4⟩ := HSH.out.cells HP7.out))
            go_ret
            exact ⟨rfl, HPE.out⟩
          · have ev : (v != 0) = true := by simpa using hv
            have HBR : Hid (binR o (0, 0) (m, v) = (0, v)) := hid (by unfold binR; rw [if_pos rfl]; simp only [HAL.out]; rw [if_neg hv])
            clear hv
            go_wp2_with (first
              | (go_at_call 24; ((with_reducible refine (V3.out _ (Past.refl _)).mono ?_); rintro e w9 ⟨rfl, hb⟩); have HPE := hid (stepB (stepB HSH.out.past (HP8.out.alloc (tenO T U))) hb); have HP9 := hid hb; clear hb)
              | (go_at_call 24; ((with_reducible refine (V2.out _ HP7.out).mono ?_); rintro e w8 ⟨rfl, hb⟩); have HP8 : Hid (Past wb w8) := hid (HP7.out.on hb); clear hb; have V3 : Hid (∀ W, Past (w8.alloc (tenO T U)) W → Calls Tryz.prog 24 #[.pointer (some ⟨E, 0, none⟩), .agg #[.int .i64 4, .string o, .int .i64 0, .string { data := #[] }, .slice (some ⟨w8.heap.size, 0, none⟩) 2 2]] W fun e w' => e = .returned (.tuple #[.int .i64 0, .int .i64 v]) ∧ Below W.heap.size W w') := hid (eval_is ((HSH.out.env.past HP8.out).alloc (tenO T U)) (twoT_in o (HSH.out.tin.on HP8.out) (HSH.out.uin.on HP8.out)) (x := 0) (t := v) ((twoT_ev (frL [a3, a4]) HLE.out _ HSH.out.tright HSH.out.uright).trans (by rw [HNU.out.1, HNU.out.2]; exact HBR.out))); obtain ⟨⟨b0, b1, b2, b3, b4⟩, d0, d1, d2, d3, d4⟩ := HSH.out.cells HP8.out)
              | (go_at_call 24; ((with_reducible refine (V1.out _ (Past.refl wb)).mono ?_); rintro e w7 ⟨rfl, hb⟩); have HP7 : Hid (Past wb w7) := hid hb; clear hb; obtain ⟨⟨b0, b1, b2, b3, b4⟩, d0, d1, d2, d3, d4⟩ := HSH.out.cells HP7.out))
            go_ret
            exact ⟨rfl, HPE.out⟩
        · have z0 : (n == 0) = false := by simpa using hn
          have z1 : (n != 0) = true := by simpa using hn
          have HBR : Hid (binR o (n, 0) (m, v) = (1, 0)) := hid (by unfold binR aloneV; rw [if_pos rfl, if_neg (fun h => o1 h.1), if_pos ⟨o2, hn⟩])
          have HBV : Hid (binV o n 0 = 1) := hid (by rw [of_list o2, binV_either]; unfold bit; simp only [z1]; rfl)
          clear o1 o2 hn
          go_wp2_with (first
            | (go_at_call 34; have hx := HBN.out w9 n 0; rw [HBV.out] at hx; refine hx.mono ?_; clear hx; rintro e w10 ⟨rfl, hb⟩; have HPE := hid (stepB (stepB HSH.out.past (HP8.out.alloc (tenO T U))) (stepB HP9.out hb)); clear hb)
            | (go_at_call 24; ((with_reducible refine (V3.out _ (Past.refl _)).mono ?_); rintro e w9 ⟨rfl, hb⟩); have HP9 := hid hb; clear hb)
            | (go_at_call 24; ((with_reducible refine (V2.out _ HP7.out).mono ?_); rintro e w8 ⟨rfl, hb⟩); have HP8 : Hid (Past wb w8) := hid (HP7.out.on hb); clear hb; have V3 : Hid (∀ W, Past (w8.alloc (tenO T U)) W → Calls Tryz.prog 24 #[.pointer (some ⟨E, 0, none⟩), .agg #[.int .i64 4, .string o, .int .i64 0, .string { data := #[] }, .slice (some ⟨w8.heap.size, 0, none⟩) 2 2]] W fun e w' => e = .returned (.tuple #[.int .i64 1, .int .i64 0]) ∧ Below W.heap.size W w') := hid (eval_is ((HSH.out.env.past HP8.out).alloc (tenO T U)) (twoT_in o (HSH.out.tin.on HP8.out) (HSH.out.uin.on HP8.out)) (x := 1) (t := 0) ((twoT_ev (frL [a3, a4]) HLE.out _ HSH.out.tright HSH.out.uright).trans (by rw [HNU.out.1, HNU.out.2]; exact HBR.out))); obtain ⟨⟨b0, b1, b2, b3, b4⟩, d0, d1, d2, d3, d4⟩ := HSH.out.cells HP8.out)
            | (go_at_call 24; ((with_reducible refine (V1.out _ (Past.refl wb)).mono ?_); rintro e w7 ⟨rfl, hb⟩); have HP7 : Hid (Past wb w7) := hid hb; clear hb; obtain ⟨⟨b0, b1, b2, b3, b4⟩, d0, d1, d2, d3, d4⟩ := HSH.out.cells HP7.out))
          go_ret
          exact ⟨rfl, HPE.out⟩
      · rw [decide_eq_false o2] at q2
        have HAL : Hid (aloneV o n = none) := hid (by unfold aloneV; rw [if_neg (fun h => o1 h.1), if_neg (fun h => o2 h.1)])
        clear o1 o2
        by_cases hv : v = 0
        · subst hv
          have HBR0 : Hid (binR o (n, 0) (m, 0) = (binV o n m, binT o m)) := hid (by unfold binR; rw [if_pos rfl]; simp only [HAL.out, if_true])
          have HBX := hid (fun W => HBN.out W n m)
          obtain ⟨bv, bt, hbv, hbt⟩ : ∃ bv bt, binV o n m = bv ∧ binT o m = bt := ⟨_, _, rfl, rfl⟩
          rw [hbv, hbt] at HBR0 HBX
          have HBR := HBR0
          clear hbv hbt HBR0
          go_wp2_with (first
            | (go_at_call 34; ((with_reducible refine (HBX.out _).mono ?_); rintro e w10 ⟨rfl, hb⟩); have HPE := hid (stepB (stepB HSH.out.past (HP8.out.alloc (tenO T U))) (stepB HP9.out hb)); clear hb)
            | (go_at_call 24; ((with_reducible refine (V3.out _ (Past.refl _)).mono ?_); rintro e w9 ⟨rfl, hb⟩); have HP9 := hid hb; clear hb)
            | (go_at_call 24; ((with_reducible refine (V2.out _ HP7.out).mono ?_); rintro e w8 ⟨rfl, hb⟩); have HP8 : Hid (Past wb w8) := hid (HP7.out.on hb); clear hb; have V3 : Hid (∀ W, Past (w8.alloc (tenO T U)) W → Calls Tryz.prog 24 #[.pointer (some ⟨E, 0, none⟩), .agg #[.int .i64 4, .string o, .int .i64 0, .string { data := #[] }, .slice (some ⟨w8.heap.size, 0, none⟩) 2 2]] W fun e w' => e = .returned (.tuple #[.int .i64 bv, .int .i64 bt]) ∧ Below W.heap.size W w') := hid (eval_is ((HSH.out.env.past HP8.out).alloc (tenO T U)) (twoT_in o (HSH.out.tin.on HP8.out) (HSH.out.uin.on HP8.out)) (x := bv) (t := bt) ((twoT_ev (frL [a3, a4]) HLE.out _ HSH.out.tright HSH.out.uright).trans (by rw [HNU.out.1, HNU.out.2]; exact HBR.out))); obtain ⟨⟨b0, b1, b2, b3, b4⟩, d0, d1, d2, d3, d4⟩ := HSH.out.cells HP8.out)
            | (go_at_call 24; ((with_reducible refine (V1.out _ (Past.refl wb)).mono ?_); rintro e w7 ⟨rfl, hb⟩); have HP7 : Hid (Past wb w7) := hid hb; clear hb; obtain ⟨⟨b0, b1, b2, b3, b4⟩, d0, d1, d2, d3, d4⟩ := HSH.out.cells HP7.out))
          go_ret
          exact ⟨rfl, HPE.out⟩
        · have ev : (v != 0) = true := by simpa using hv
          have HBR : Hid (binR o (n, 0) (m, v) = (0, v)) := hid (by unfold binR; rw [if_pos rfl]; simp only [HAL.out]; rw [if_neg hv])
          clear hv
          go_wp2_with (first
            | (go_at_call 24; ((with_reducible refine (V3.out _ (Past.refl _)).mono ?_); rintro e w9 ⟨rfl, hb⟩); have HPE := hid (stepB (stepB HSH.out.past (HP8.out.alloc (tenO T U))) hb); have HP9 := hid hb; clear hb)
            | (go_at_call 24; ((with_reducible refine (V2.out _ HP7.out).mono ?_); rintro e w8 ⟨rfl, hb⟩); have HP8 : Hid (Past wb w8) := hid (HP7.out.on hb); clear hb; have V3 : Hid (∀ W, Past (w8.alloc (tenO T U)) W → Calls Tryz.prog 24 #[.pointer (some ⟨E, 0, none⟩), .agg #[.int .i64 4, .string o, .int .i64 0, .string { data := #[] }, .slice (some ⟨w8.heap.size, 0, none⟩) 2 2]] W fun e w' => e = .returned (.tuple #[.int .i64 0, .int .i64 v]) ∧ Below W.heap.size W w') := hid (eval_is ((HSH.out.env.past HP8.out).alloc (tenO T U)) (twoT_in o (HSH.out.tin.on HP8.out) (HSH.out.uin.on HP8.out)) (x := 0) (t := v) ((twoT_ev (frL [a3, a4]) HLE.out _ HSH.out.tright HSH.out.uright).trans (by rw [HNU.out.1, HNU.out.2]; exact HBR.out))); obtain ⟨⟨b0, b1, b2, b3, b4⟩, d0, d1, d2, d3, d4⟩ := HSH.out.cells HP8.out)
            | (go_at_call 24; ((with_reducible refine (V1.out _ (Past.refl wb)).mono ?_); rintro e w7 ⟨rfl, hb⟩); have HP7 : Hid (Past wb w7) := hid hb; clear hb; obtain ⟨⟨b0, b1, b2, b3, b4⟩, d0, d1, d2, d3, d4⟩ := HSH.out.cells HP7.out))
          go_ret
          exact ⟨rfl, HPE.out⟩
  · have eu : (u != 0) = true := by simpa using hu
    have HBR : Hid (binR o (n, u) (m, v) = (0, u)) := hid (by unfold binR; rw [if_neg hu])
    clear hu
    go_wp2_with (first
      | (go_at_call 24; ((with_reducible refine (V3.out _ (Past.refl _)).mono ?_); rintro e w9 ⟨rfl, hb⟩); have HPE := hid (stepB (stepB HSH.out.past (HP8.out.alloc (tenO T U))) hb); have HP9 := hid hb; clear hb)
      | (go_at_call 24; ((with_reducible refine (V2.out _ HP7.out).mono ?_); rintro e w8 ⟨rfl, hb⟩); have HP8 : Hid (Past wb w8) := hid (HP7.out.on hb); clear hb; have V3 : Hid (∀ W, Past (w8.alloc (tenO T U)) W → Calls Tryz.prog 24 #[.pointer (some ⟨E, 0, none⟩), .agg #[.int .i64 4, .string o, .int .i64 0, .string { data := #[] }, .slice (some ⟨w8.heap.size, 0, none⟩) 2 2]] W fun e w' => e = .returned (.tuple #[.int .i64 0, .int .i64 u]) ∧ Below W.heap.size W w') := hid (eval_is ((HSH.out.env.past HP8.out).alloc (tenO T U)) (twoT_in o (HSH.out.tin.on HP8.out) (HSH.out.uin.on HP8.out)) (x := 0) (t := u) ((twoT_ev (frL [a3, a4]) HLE.out _ HSH.out.tright HSH.out.uright).trans (by rw [HNU.out.1, HNU.out.2]; exact HBR.out))); obtain ⟨⟨b0, b1, b2, b3, b4⟩, d0, d1, d2, d3, d4⟩ := HSH.out.cells HP8.out)
      | (go_at_call 24; ((with_reducible refine (V1.out _ (Past.refl wb)).mono ?_); rintro e w7 ⟨rfl, hb⟩); have HP7 : Hid (Past wb w7) := hid hb; clear hb; obtain ⟨⟨b0, b1, b2, b3, b4⟩, d0, d1, d2, d3, d4⟩ := HSH.out.cells HP7.out))
    go_ret
    exact ⟨rfl, HPE.out⟩
end Go.Proofs.YtdaklmbifkehpaaGreatDoor.Ev
