/- Each number is parsed as it is put, with its sign, and behind an operation, too: the walk of ParseNumbers. (Written by gennum4.py.) -/
import Derived.Test.YtgkdoealhbhnmaaGreatDoorPLaid
import Derived.Test.YtgkdoealhbhnmaaGreatDoorPNumM
import Derived.Test.YtgkdoealhbhnmaaGreatDoorTSameM
set_option linter.unusedSimpArgs false
set_option linter.unusedVariables false
namespace Go.Proofs.YtgkdoealhbhnmaaGreatDoor.Pm
open Go Go.RowKit Go.Proofs.YtgkdoealhbhnmaaGreatDoor
open Go.Lib (hid)
open Go.Lib (itoa)
open Go.Lib (hid)

theorem num_len (n : Int) (h : -9223372036854775808 ≤ n ∧ n ≤ 9223372036854775807) : (itoa n).length ≤ 24 := by
  unfold itoa
  split
  · have := dec_len n.natAbs (by omega)
    simp only [List.length_cons]; omega
  · have := dec_len n.toNat (by omega)
    omega
abbrev nlit (n : Int) : ET := .mk 0 mE n mE none 0 []
theorem nlit_in (w : World) (n : Int) (h : -9223372036854775808 ≤ n ∧ n ≤ 9223372036854775807) : (nlit n).In w 0 := by
  rw [ET.In, EsIn]
  exact ⟨h, by simp, trivial⟩
theorem nlit_right (n : Int) : (nlit n).rightB = true := by simp [ET.rightB, rightEs, formedC]
theorem put_num {w : World} (H : Wo w) {n : Int} (h : -9223372036854775808 ≤ n ∧ n ≤ 9223372036854775807) : Calls Tryz.prog 17 #[.agg #[.int .i64 0, .string { data := #[] }, .int .i64 n, .string { data := #[] }, .slice none 0 0]] w fun e w' => (∃ s : ByteArray, e = .returned (.string s) ∧ s.data.toList = itoa n ∧ s.size ≤ 24) ∧ Below w.heap.size w w' := by
  have hl : (putR levL (nlit n).re).length ≤ 24 := num_len n h
  have := putExpr_any (w0 := w) H.pw (nlit_in w n h) (nlit_right n) (by omega) w (Past.refl _)
  refine this.mono ?_
  rintro e w' ⟨rfl, hb⟩
  refine ⟨⟨_, rfl, ?_, ?_⟩, hb⟩
  · show (itoa n).toArray.toList = itoa n
    rw [List.toList_toArray]
  · show (itoa n).toArray.size ≤ 24
    rw [List.size_toArray]; exact hl
theorem same_of {w0 : World} {T U : ET} (hT : T.In w0 0) (hU : U.In w0 0) (h : T.rightB = true) (h' : U.rightB = true) (e : T.re = U.re) : ∀ W, Past w0 W → Calls Tryz.prog 19 #[.agg #[.int .i64 T.kind, .string T.op, .int .i64 T.n, .string T.name, .slice T.kaddr T.kids.length T.kcap], .agg #[.int .i64 U.kind, .string U.op, .int .i64 U.n, .string U.name, .slice U.kaddr U.kids.length U.kcap]] W fun e w' => e = .returned (.bool true) ∧ Below W.heap.size W w' := fun W hW => by
  have h1 := sameExpr_any hT hU W hW
  rw [(sameE_iff _ T U (Nat.le_refl _) h h').2 e, ET.val_is, ET.val_is] at h1
  exact h1
theorem cellDr {w : World} {a : Addr} {v : Value} (h : w.cell? a = some v) : w.drew.cell? a = some v := h
set_option maxHeartbeats 8000000 in
set_option maxRecDepth 100000 in
theorem numbers_false (a0 : Int) (h0 : -9223372036854775808 ≤ a0 ∧ a0 ≤ 9223372036854775807) (w : World) (H : Wo w) :
    Calls Tryz.prog 7 #[.int .i64 a0, .bool false] w fun e w' => e = .returned (.bool true) ∧ Below w.heap.size w w' := by
  have HO := hid H
  clear H
  go_enter Tryz.func7, Tryz.ntmps7
  go_upto_region 6 with (go_at_call 10; refine (ex_any HO.out).mono ?_; rintro e w1 ⟨rfl, hp⟩; have HP1 := hid hp; clear hp)
  obtain ⟨n, hn⟩ : ∃ n : Int, n = a0 := ⟨_, rfl⟩
  rw [← hn]
  rw [← hn] at h0
  have hr := h0
  clear hn
  clear h0
  have HR := hid hr
  obtain ⟨m, hm⟩ := (num1 hr).and ((num2 hr).and (num3 hr))
  obtain ⟨ev1, ev2, ev3⟩ := hm m (Nat.le_refl _)
  have E1 := hid ev1
  have E2 := hid ev2
  have E3 := hid ev3
  clear ev1 ev2 ev3 hm hr
  go_upto_region 10 with (first
    | (go_at_call 18; refine (expr_fine (HO.out.on (HP4.out.alloc (.cells #[.int .i64 TB.kind, .string TB.op, .int .i64 TB.n, .string TB.name, .slice TB.kaddr TB.kids.length TB.kcap] 43))) m _ (l := 45 :: 40 :: (itoa n ++ [41])) (by simp [HS.out.1]) (by have := HS.out.2; simp; omega) E3.out).mono ?_; rintro e w5 ⟨hb, TC, rfl, hT⟩; have HTC := hid hT; have HP5 : Hid (Past w w5) := hid (past_alloc HP4.out hb); have HB5 := hid hb; clear hb hT)
    | (go_at_call 18; refine (expr_fine (HO.out.on (HP3.out.alloc (.cells #[.int .i64 TA.kind, .string TA.op, .int .i64 TA.n, .string TA.name, .slice TA.kaddr TA.kids.length TA.kcap] 43))) m _ (l := [120, 32, 45, 32] ++ itoa n) (by simp [HS.out.1]) (by have := HS.out.2; simp; omega) E2.out).mono ?_; rintro e w4 ⟨hb, TB, rfl, hT⟩; have HTB := hid hT; have HP4 : Hid (Past w w4) := hid (past_alloc HP3.out hb); have HB4 := hid hb; clear hb hT)
    | (go_at_call 18; refine (expr_fine (HO.out.on HP2.out) m _ (l := itoa n) HS.out.1 (by have := HS.out.2; omega) E1.out).mono ?_; rintro e w3 ⟨hb, TA, rfl, hT⟩; have HTA := hid hT; have HP3 : Hid (Past w w3) := hid (HP2.out.on hb); clear hb hT)
    | (go_at_call 17; refine (put_num (HO.out.on HP1.out) HR.out).mono ?_; rintro e w2 ⟨⟨sN, rfl, hs1, hs2⟩, hb⟩; have HP2 : Hid (Past w w2) := hid (HP1.out.on hb); have hz : sN.size ≤ 24 := hs2; have HS : Hid (sN.data.toList = itoa n ∧ (itoa n).length ≤ 24) := hid ⟨hs1, num_len n HR.out⟩; clear hb hs1 hs2))
  have b4 := HB4.out
  have b5 := HB5.out
  have z4 := b4.size
  have z5 := b5.size
  simp at z4 z5
  have qA : (w5.alloc (.cells #[.int .i64 TC.kind, .string TC.op, .int .i64 TC.n, .string TC.name, .slice TC.kaddr TC.kids.length TC.kcap] 43)).heap[w3.heap.size]? = some (.cells #[.int .i64 TA.kind, .string TA.op, .int .i64 TA.n, .string TA.name, .slice TA.kaddr TA.kids.length TA.kcap] 43 (0, 0)) := bk_old _ ((b5.block _ (by simp; omega)).trans (bk_old _ ((b4.block _ (by simp)).trans (bk_new w3 _))))
  have qB : (w5.alloc (.cells #[.int .i64 TC.kind, .string TC.op, .int .i64 TC.n, .string TC.name, .slice TC.kaddr TC.kids.length TC.kcap] 43)).heap[w4.heap.size]? = some (.cells #[.int .i64 TB.kind, .string TB.op, .int .i64 TB.n, .string TB.name, .slice TB.kaddr TB.kids.length TB.kcap] 43 (0, 0)) := bk_old _ ((b5.block _ (by simp)).trans (bk_new w4 _))
  have qC : (w5.alloc (.cells #[.int .i64 TC.kind, .string TC.op, .int .i64 TC.n, .string TC.name, .slice TC.kaddr TC.kids.length TC.kcap] 43)).heap[w5.heap.size]? = some (.cells #[.int .i64 TC.kind, .string TC.op, .int .i64 TC.n, .string TC.name, .slice TC.kaddr TC.kids.length TC.kcap] 43 (0, 0)) := bk_new w5 _
  have iA : TA.In (w5.alloc (.cells #[.int .i64 TC.kind, .string TC.op, .int .i64 TC.n, .string TC.name, .slice TC.kaddr TC.kids.length TC.kcap] 43)) 0 := (inB (inA b5 (inA b4 HTA.out.2.2))).mono (Nat.zero_le _)
  have iB : TB.In (w5.alloc (.cells #[.int .i64 TC.kind, .string TC.op, .int .i64 TC.n, .string TC.name, .slice TC.kaddr TC.kids.length TC.kcap] 43)) 0 := (inB (inA b5 HTB.out.2.2)).mono (Nat.zero_le _)
  have iC : TC.In (w5.alloc (.cells #[.int .i64 TC.kind, .string TC.op, .int .i64 TC.n, .string TC.name, .slice TC.kaddr TC.kids.length TC.kcap] 43)) 0 := (inB HTC.out.2.2).mono (Nat.zero_le _)
  have HB6 := hid (HP5.out.alloc (.cells #[.int .i64 TC.kind, .string TC.op, .int .i64 TC.n, .string TC.name, .slice TC.kaddr TC.kids.length TC.kcap] 43))
  clear b4 b5 z4 z5 HB4 HB5
  generalize w5.alloc (.cells #[.int .i64 TC.kind, .string TC.op, .int .i64 TC.n, .string TC.name, .slice TC.kaddr TC.kids.length TC.kcap] 43) = w6 at qA qB qC iA iB iC HB6 ⊢
  generalize w3.heap.size = XA at qA ⊢
  generalize w4.heap.size = XB at qB ⊢
  generalize w5.heap.size = XC at qC ⊢
  obtain ⟨bB, oB, KB, eB, lB, pB, rB, tB, jB, dB⟩ := bin_shape HTB.out.1 HTB.out.2.1 iB
  obtain ⟨bC, oC, KC, eC, lC, kC, rC, tC, jC, dC⟩ := un_shape HTC.out.1 HTC.out.2.1 iC
  have qr : TA.re = (nlit n).re := by rw [HTA.out.1]; rfl
  have hs1 := same_of iA (nlit_in w6 n HR.out) HTA.out.2.1 (nlit_right n) qr
  have HS1 : Hid (∀ W, Past w6 W → Calls Tryz.prog 19 #[.agg #[.int .i64 TA.kind, .string TA.op, .int .i64 TA.n, .string TA.name, .slice TA.kaddr TA.kids.length TA.kcap], .agg #[.int .i64 0, .string { data := #[] }, .int .i64 n, .string { data := #[] }, .slice none 0 0]] W fun e w' => e = .returned (.bool true) ∧ Below W.heap.size W w') := hid hs1
  clear hs1 qr
  have HS2 := hid (same_of jB iA tB HTA.out.2.1 (by rw [HTA.out.1, rB]))
  have HS3 := hid (same_of jC iA tC HTA.out.2.1 (by rw [HTA.out.1, rC]))
  have pB' : TB.op = { data := #[45] } := Lx.ba_ext pB
  rw [eB, lB] at qB
  rw [eC, lC] at qC
  rw [pB'] at qB
  rw [kC] at qC
  obtain ⟨y0, y1, y2, y3, y4⟩ := cells5 qA
  have u1 : w6.cell? ⟨XB, 1, none⟩ = some (.string { data := #[45] }) := bk_cell (k := 1) qB rfl
  have u4 : w6.cell? ⟨XB, 4, none⟩ = some (.slice (some ⟨bB, oB, none⟩) 2 TB.kcap) := bk_cell (k := 4) qB rfl
  have v0 : w6.cell? ⟨XC, 0, none⟩ = some (.int .i64 3) := bk_cell (k := 0) qC rfl
  have v4 : w6.cell? ⟨XC, 4, none⟩ = some (.slice (some ⟨bC, oC, none⟩) 1 TC.kcap) := bk_cell (k := 4) qC rfl
  obtain ⟨d0, d1, d2, d3, d4⟩ := dB
  obtain ⟨e0, e1, e2, e3, e4⟩ := dC
  have QA := hid (And.intro (lt_of_block qA) qA)
  have QB := hid (And.intro (lt_of_block qB) qB)
  have QC := hid (And.intro (lt_of_block qC) qC)
  have l1 := lt_of_block qA
  have l2 := lt_of_block qB
  have l3 := lt_of_block qC
  have l4 := World.block_lt_of_cell? w6 _ d0
  have l5 := World.block_lt_of_cell? w6 _ e0
  clear qA qB qC iA iB iC jB jC pB rB rC tB tC eB eC lB lC kC HTA HTB HTC E1 E2 E3 HS HR HP1 HP2 HP3 HP4 HP5
  have HC : Hid (∀ W, Past w6 W → (W.cell? ⟨XA, 0, none⟩ = some (.int .i64 TA.kind) ∧ W.cell? ⟨XA, 1, none⟩ = some (.string TA.op) ∧ W.cell? ⟨XA, 2, none⟩ = some (.int .i64 TA.n) ∧ W.cell? ⟨XA, 3, none⟩ = some (.string TA.name) ∧ W.cell? ⟨XA, 4, none⟩ = some (.slice TA.kaddr TA.kids.length TA.kcap) ∧ W.cell? ⟨XB, 1, none⟩ = some (.string { data := #[45] }) ∧ W.cell? ⟨XB, 4, none⟩ = some (.slice (some ⟨bB, oB, none⟩) 2 TB.kcap) ∧ W.cell? ⟨XC, 0, none⟩ = some (.int .i64 3) ∧ W.cell? ⟨XC, 4, none⟩ = some (.slice (some ⟨bC, oC, none⟩) 1 TC.kcap) ∧ W.cell? ⟨bB, oB + 5, none⟩ = some (.int .i64 KB.kind) ∧ W.cell? ⟨bB, oB + 5 + 1, none⟩ = some (.string KB.op) ∧ W.cell? ⟨bB, oB + 5 + 2, none⟩ = some (.int .i64 KB.n) ∧ W.cell? ⟨bB, oB + 5 + 3, none⟩ = some (.string KB.name) ∧ W.cell? ⟨bB, oB + 5 + 4, none⟩ = some (.slice KB.kaddr KB.kids.length KB.kcap) ∧ W.cell? ⟨bC, oC, none⟩ = some (.int .i64 KC.kind) ∧ W.cell? ⟨bC, oC + 1, none⟩ = some (.string KC.op) ∧ W.cell? ⟨bC, oC + 2, none⟩ = some (.int .i64 KC.n) ∧ W.cell? ⟨bC, oC + 3, none⟩ = some (.string KC.name) ∧ W.cell? ⟨bC, oC + 4, none⟩ = some (.slice KC.kaddr KC.kids.length KC.kcap))) := hid fun W hW => ⟨cell0 hW y0, cell0 hW y1, cell0 hW y2, cell0 hW y3, cell0 hW y4, cell0 hW u1, cell0 hW u4, cell0 hW v0, cell0 hW v4, cell0 hW d0, cell0 hW d1, cell0 hW d2, cell0 hW d3, cell0 hW d4, cell0 hW e0, cell0 hW e1, cell0 hW e2, cell0 hW e3, cell0 hW e4⟩
  go_upto_region 12 with (fail)
  clear y0 y1 y2 y3 y4 u1 u4 v0 v4 d0 d1 d2 d3 d4 e0 e1 e2 e3 e4
  have hp : Hid (Past w6 w6.drew) := hid (Below.refl w6.heap.size w6).drew
  go_region_held3 (fun w' => w'.cell? ⟨XA, 0, none⟩ = some (.int .i64 TA.kind) ∧ w'.cell? ⟨XA, 1, none⟩ = some (.string TA.op) ∧ w'.cell? ⟨XA, 2, none⟩ = some (.int .i64 TA.n) ∧ w'.cell? ⟨XA, 3, none⟩ = some (.string TA.name) ∧ w'.cell? ⟨XA, 4, none⟩ = some (.slice TA.kaddr TA.kids.length TA.kcap) ∧ w'.cell? ⟨XB, 1, none⟩ = some (.string { data := #[45] }) ∧ w'.cell? ⟨XB, 4, none⟩ = some (.slice (some ⟨bB, oB, none⟩) 2 TB.kcap) ∧ w'.cell? ⟨XC, 0, none⟩ = some (.int .i64 3) ∧ w'.cell? ⟨XC, 4, none⟩ = some (.slice (some ⟨bC, oC, none⟩) 1 TC.kcap) ∧ w'.cell? ⟨bB, oB + 5, none⟩ = some (.int .i64 KB.kind) ∧ w'.cell? ⟨bB, oB + 5 + 1, none⟩ = some (.string KB.op) ∧ w'.cell? ⟨bB, oB + 5 + 2, none⟩ = some (.int .i64 KB.n) ∧ w'.cell? ⟨bB, oB + 5 + 3, none⟩ = some (.string KB.name) ∧ w'.cell? ⟨bB, oB + 5 + 4, none⟩ = some (.slice KB.kaddr KB.kids.length KB.kcap) ∧ w'.cell? ⟨bC, oC, none⟩ = some (.int .i64 KC.kind) ∧ w'.cell? ⟨bC, oC + 1, none⟩ = some (.string KC.op) ∧ w'.cell? ⟨bC, oC + 2, none⟩ = some (.int .i64 KC.n) ∧ w'.cell? ⟨bC, oC + 3, none⟩ = some (.string KC.name) ∧ w'.cell? ⟨bC, oC + 4, none⟩ = some (.slice KC.kaddr KC.kids.length KC.kcap)) (with_reducible exact HC.out _ hp.out)
    (first
      | (go_at_call 19; ((with_reducible refine (HS3.out _ hp.out).mono ?_); rintro e wk ⟨rfl, hb⟩); have hq := hid (hp.out.on hb); clear hp hb; have hp := hq; clear hq)
      | (go_at_call 19; ((with_reducible refine (HS2.out _ hp.out).mono ?_); rintro e wk ⟨rfl, hb⟩); have hq := hid (hp.out.on hb); clear hp hb; have hp := hq; clear hq)
      | (go_at_call 19; ((with_reducible refine (HS1.out _ hp.out).mono ?_); rintro e wk ⟨rfl, hb⟩); have hq := hid (hp.out.on hb); clear hp hb; have hp := hq; clear hq))
  go_wp2
  go_ret
  exact ⟨rfl, step_on HB6.out hp.out⟩
set_option maxHeartbeats 8000000 in
set_option maxRecDepth 100000 in
theorem numbers_true (a0 : Int) (h0 : -9223372036854775808 ≤ a0 ∧ a0 ≤ 9223372036854775807) (w : World) (H : Wo w) :
    Calls Tryz.prog 7 #[.int .i64 a0, .bool true] w fun e w' => e = .returned (.bool true) ∧ Below w.heap.size w w' := by
  have HO := hid H
  clear H
  go_enter Tryz.func7, Tryz.ntmps7
  go_upto_region 6 with (go_at_call 10; refine (ex_any HO.out).mono ?_; rintro e w1 ⟨rfl, hp⟩; have HP1 := hid hp; clear hp)
  obtain ⟨n, hn⟩ : ∃ n : Int, n = -9223372036854775808 := ⟨_, rfl⟩
  rw [← hn]
  have hr : -9223372036854775808 ≤ n ∧ n ≤ 9223372036854775807 := by omega
  clear hn
  clear h0
  have HR := hid hr
  obtain ⟨m, hm⟩ := (num1 hr).and ((num2 hr).and (num3 hr))
  obtain ⟨ev1, ev2, ev3⟩ := hm m (Nat.le_refl _)
  have E1 := hid ev1
  have E2 := hid ev2
  have E3 := hid ev3
  clear ev1 ev2 ev3 hm hr
  go_upto_region 10 with (first
    | (go_at_call 18; refine (expr_fine (HO.out.on (HP4.out.alloc (.cells #[.int .i64 TB.kind, .string TB.op, .int .i64 TB.n, .string TB.name, .slice TB.kaddr TB.kids.length TB.kcap] 43))) m _ (l := 45 :: 40 :: (itoa n ++ [41])) (by simp [HS.out.1]) (by have := HS.out.2; simp; omega) E3.out).mono ?_; rintro e w5 ⟨hb, TC, rfl, hT⟩; have HTC := hid hT; have HP5 : Hid (Past w w5) := hid (past_alloc HP4.out hb); have HB5 := hid hb; clear hb hT)
    | (go_at_call 18; refine (expr_fine (HO.out.on (HP3.out.alloc (.cells #[.int .i64 TA.kind, .string TA.op, .int .i64 TA.n, .string TA.name, .slice TA.kaddr TA.kids.length TA.kcap] 43))) m _ (l := [120, 32, 45, 32] ++ itoa n) (by simp [HS.out.1]) (by have := HS.out.2; simp; omega) E2.out).mono ?_; rintro e w4 ⟨hb, TB, rfl, hT⟩; have HTB := hid hT; have HP4 : Hid (Past w w4) := hid (past_alloc HP3.out hb); have HB4 := hid hb; clear hb hT)
    | (go_at_call 18; refine (expr_fine (HO.out.on HP2.out) m _ (l := itoa n) HS.out.1 (by have := HS.out.2; omega) E1.out).mono ?_; rintro e w3 ⟨hb, TA, rfl, hT⟩; have HTA := hid hT; have HP3 : Hid (Past w w3) := hid (HP2.out.on hb); clear hb hT)
    | (go_at_call 17; refine (put_num (HO.out.on HP1.out) HR.out).mono ?_; rintro e w2 ⟨⟨sN, rfl, hs1, hs2⟩, hb⟩; have HP2 : Hid (Past w w2) := hid (HP1.out.on hb); have hz : sN.size ≤ 24 := hs2; have HS : Hid (sN.data.toList = itoa n ∧ (itoa n).length ≤ 24) := hid ⟨hs1, num_len n HR.out⟩; clear hb hs1 hs2))
  have b4 := HB4.out
  have b5 := HB5.out
  have z4 := b4.size
  have z5 := b5.size
  simp at z4 z5
  have qA : (w5.alloc (.cells #[.int .i64 TC.kind, .string TC.op, .int .i64 TC.n, .string TC.name, .slice TC.kaddr TC.kids.length TC.kcap] 43)).heap[w3.heap.size]? = some (.cells #[.int .i64 TA.kind, .string TA.op, .int .i64 TA.n, .string TA.name, .slice TA.kaddr TA.kids.length TA.kcap] 43 (0, 0)) := bk_old _ ((b5.block _ (by simp; omega)).trans (bk_old _ ((b4.block _ (by simp)).trans (bk_new w3 _))))
  have qB : (w5.alloc (.cells #[.int .i64 TC.kind, .string TC.op, .int .i64 TC.n, .string TC.name, .slice TC.kaddr TC.kids.length TC.kcap] 43)).heap[w4.heap.size]? = some (.cells #[.int .i64 TB.kind, .string TB.op, .int .i64 TB.n, .string TB.name, .slice TB.kaddr TB.kids.length TB.kcap] 43 (0, 0)) := bk_old _ ((b5.block _ (by simp)).trans (bk_new w4 _))
  have qC : (w5.alloc (.cells #[.int .i64 TC.kind, .string TC.op, .int .i64 TC.n, .string TC.name, .slice TC.kaddr TC.kids.length TC.kcap] 43)).heap[w5.heap.size]? = some (.cells #[.int .i64 TC.kind, .string TC.op, .int .i64 TC.n, .string TC.name, .slice TC.kaddr TC.kids.length TC.kcap] 43 (0, 0)) := bk_new w5 _
  have iA : TA.In (w5.alloc (.cells #[.int .i64 TC.kind, .string TC.op, .int .i64 TC.n, .string TC.name, .slice TC.kaddr TC.kids.length TC.kcap] 43)) 0 := (inB (inA b5 (inA b4 HTA.out.2.2))).mono (Nat.zero_le _)
  have iB : TB.In (w5.alloc (.cells #[.int .i64 TC.kind, .string TC.op, .int .i64 TC.n, .string TC.name, .slice TC.kaddr TC.kids.length TC.kcap] 43)) 0 := (inB (inA b5 HTB.out.2.2)).mono (Nat.zero_le _)
  have iC : TC.In (w5.alloc (.cells #[.int .i64 TC.kind, .string TC.op, .int .i64 TC.n, .string TC.name, .slice TC.kaddr TC.kids.length TC.kcap] 43)) 0 := (inB HTC.out.2.2).mono (Nat.zero_le _)
  have HB6 := hid (HP5.out.alloc (.cells #[.int .i64 TC.kind, .string TC.op, .int .i64 TC.n, .string TC.name, .slice TC.kaddr TC.kids.length TC.kcap] 43))
  clear b4 b5 z4 z5 HB4 HB5
  generalize w5.alloc (.cells #[.int .i64 TC.kind, .string TC.op, .int .i64 TC.n, .string TC.name, .slice TC.kaddr TC.kids.length TC.kcap] 43) = w6 at qA qB qC iA iB iC HB6 ⊢
  generalize w3.heap.size = XA at qA ⊢
  generalize w4.heap.size = XB at qB ⊢
  generalize w5.heap.size = XC at qC ⊢
  obtain ⟨bB, oB, KB, eB, lB, pB, rB, tB, jB, dB⟩ := bin_shape HTB.out.1 HTB.out.2.1 iB
  obtain ⟨bC, oC, KC, eC, lC, kC, rC, tC, jC, dC⟩ := un_shape HTC.out.1 HTC.out.2.1 iC
  have qr : TA.re = (nlit n).re := by rw [HTA.out.1]; rfl
  have hs1 := same_of iA (nlit_in w6 n HR.out) HTA.out.2.1 (nlit_right n) qr
  have HS1 : Hid (∀ W, Past w6 W → Calls Tryz.prog 19 #[.agg #[.int .i64 TA.kind, .string TA.op, .int .i64 TA.n, .string TA.name, .slice TA.kaddr TA.kids.length TA.kcap], .agg #[.int .i64 0, .string { data := #[] }, .int .i64 n, .string { data := #[] }, .slice none 0 0]] W fun e w' => e = .returned (.bool true) ∧ Below W.heap.size W w') := hid hs1
  clear hs1 qr
  have HS2 := hid (same_of jB iA tB HTA.out.2.1 (by rw [HTA.out.1, rB]))
  have HS3 := hid (same_of jC iA tC HTA.out.2.1 (by rw [HTA.out.1, rC]))
  have pB' : TB.op = { data := #[45] } := Lx.ba_ext pB
  rw [eB, lB] at qB
  rw [eC, lC] at qC
  rw [pB'] at qB
  rw [kC] at qC
  obtain ⟨y0, y1, y2, y3, y4⟩ := cells5 qA
  have u1 : w6.cell? ⟨XB, 1, none⟩ = some (.string { data := #[45] }) := bk_cell (k := 1) qB rfl
  have u4 : w6.cell? ⟨XB, 4, none⟩ = some (.slice (some ⟨bB, oB, none⟩) 2 TB.kcap) := bk_cell (k := 4) qB rfl
  have v0 : w6.cell? ⟨XC, 0, none⟩ = some (.int .i64 3) := bk_cell (k := 0) qC rfl
  have v4 : w6.cell? ⟨XC, 4, none⟩ = some (.slice (some ⟨bC, oC, none⟩) 1 TC.kcap) := bk_cell (k := 4) qC rfl
  obtain ⟨d0, d1, d2, d3, d4⟩ := dB
  obtain ⟨e0, e1, e2, e3, e4⟩ := dC
  have QA := hid (And.intro (lt_of_block qA) qA)
  have QB := hid (And.intro (lt_of_block qB) qB)
  have QC := hid (And.intro (lt_of_block qC) qC)
  have l1 := lt_of_block qA
  have l2 := lt_of_block qB
  have l3 := lt_of_block qC
  have l4 := World.block_lt_of_cell? w6 _ d0
  have l5 := World.block_lt_of_cell? w6 _ e0
  clear qA qB qC iA iB iC jB jC pB rB rC tB tC eB eC lB lC kC HTA HTB HTC E1 E2 E3 HS HR HP1 HP2 HP3 HP4 HP5
  have HC : Hid (∀ W, Past w6 W → (W.cell? ⟨XA, 0, none⟩ = some (.int .i64 TA.kind) ∧ W.cell? ⟨XA, 1, none⟩ = some (.string TA.op) ∧ W.cell? ⟨XA, 2, none⟩ = some (.int .i64 TA.n) ∧ W.cell? ⟨XA, 3, none⟩ = some (.string TA.name) ∧ W.cell? ⟨XA, 4, none⟩ = some (.slice TA.kaddr TA.kids.length TA.kcap) ∧ W.cell? ⟨XB, 1, none⟩ = some (.string { data := #[45] }) ∧ W.cell? ⟨XB, 4, none⟩ = some (.slice (some ⟨bB, oB, none⟩) 2 TB.kcap) ∧ W.cell? ⟨XC, 0, none⟩ = some (.int .i64 3) ∧ W.cell? ⟨XC, 4, none⟩ = some (.slice (some ⟨bC, oC, none⟩) 1 TC.kcap) ∧ W.cell? ⟨bB, oB + 5, none⟩ = some (.int .i64 KB.kind) ∧ W.cell? ⟨bB, oB + 5 + 1, none⟩ = some (.string KB.op) ∧ W.cell? ⟨bB, oB + 5 + 2, none⟩ = some (.int .i64 KB.n) ∧ W.cell? ⟨bB, oB + 5 + 3, none⟩ = some (.string KB.name) ∧ W.cell? ⟨bB, oB + 5 + 4, none⟩ = some (.slice KB.kaddr KB.kids.length KB.kcap) ∧ W.cell? ⟨bC, oC, none⟩ = some (.int .i64 KC.kind) ∧ W.cell? ⟨bC, oC + 1, none⟩ = some (.string KC.op) ∧ W.cell? ⟨bC, oC + 2, none⟩ = some (.int .i64 KC.n) ∧ W.cell? ⟨bC, oC + 3, none⟩ = some (.string KC.name) ∧ W.cell? ⟨bC, oC + 4, none⟩ = some (.slice KC.kaddr KC.kids.length KC.kcap))) := hid fun W hW => ⟨cell0 hW y0, cell0 hW y1, cell0 hW y2, cell0 hW y3, cell0 hW y4, cell0 hW u1, cell0 hW u4, cell0 hW v0, cell0 hW v4, cell0 hW d0, cell0 hW d1, cell0 hW d2, cell0 hW d3, cell0 hW d4, cell0 hW e0, cell0 hW e1, cell0 hW e2, cell0 hW e3, cell0 hW e4⟩
  go_upto_region 12 with (fail)
  clear y0 y1 y2 y3 y4 u1 u4 v0 v4 d0 d1 d2 d3 d4 e0 e1 e2 e3 e4
  have hp : Hid (Past w6 w6.drew) := hid (Below.refl w6.heap.size w6).drew
  go_region_held3 (fun w' => w'.cell? ⟨XA, 0, none⟩ = some (.int .i64 TA.kind) ∧ w'.cell? ⟨XA, 1, none⟩ = some (.string TA.op) ∧ w'.cell? ⟨XA, 2, none⟩ = some (.int .i64 TA.n) ∧ w'.cell? ⟨XA, 3, none⟩ = some (.string TA.name) ∧ w'.cell? ⟨XA, 4, none⟩ = some (.slice TA.kaddr TA.kids.length TA.kcap) ∧ w'.cell? ⟨XB, 1, none⟩ = some (.string { data := #[45] }) ∧ w'.cell? ⟨XB, 4, none⟩ = some (.slice (some ⟨bB, oB, none⟩) 2 TB.kcap) ∧ w'.cell? ⟨XC, 0, none⟩ = some (.int .i64 3) ∧ w'.cell? ⟨XC, 4, none⟩ = some (.slice (some ⟨bC, oC, none⟩) 1 TC.kcap) ∧ w'.cell? ⟨bB, oB + 5, none⟩ = some (.int .i64 KB.kind) ∧ w'.cell? ⟨bB, oB + 5 + 1, none⟩ = some (.string KB.op) ∧ w'.cell? ⟨bB, oB + 5 + 2, none⟩ = some (.int .i64 KB.n) ∧ w'.cell? ⟨bB, oB + 5 + 3, none⟩ = some (.string KB.name) ∧ w'.cell? ⟨bB, oB + 5 + 4, none⟩ = some (.slice KB.kaddr KB.kids.length KB.kcap) ∧ w'.cell? ⟨bC, oC, none⟩ = some (.int .i64 KC.kind) ∧ w'.cell? ⟨bC, oC + 1, none⟩ = some (.string KC.op) ∧ w'.cell? ⟨bC, oC + 2, none⟩ = some (.int .i64 KC.n) ∧ w'.cell? ⟨bC, oC + 3, none⟩ = some (.string KC.name) ∧ w'.cell? ⟨bC, oC + 4, none⟩ = some (.slice KC.kaddr KC.kids.length KC.kcap)) (with_reducible exact HC.out _ hp.out)
    (first
      | (go_at_call 19; ((with_reducible refine (HS3.out _ hp.out).mono ?_); rintro e wk ⟨rfl, hb⟩); have hq := hid (hp.out.on hb); clear hp hb; have hp := hq; clear hq)
      | (go_at_call 19; ((with_reducible refine (HS2.out _ hp.out).mono ?_); rintro e wk ⟨rfl, hb⟩); have hq := hid (hp.out.on hb); clear hp hb; have hp := hq; clear hq)
      | (go_at_call 19; ((with_reducible refine (HS1.out _ hp.out).mono ?_); rintro e wk ⟨rfl, hb⟩); have hq := hid (hp.out.on hb); clear hp hb; have hp := hq; clear hq))
  go_wp2
  go_ret
  exact ⟨rfl, step_on HB6.out hp.out⟩
end Go.Proofs.YtgkdoealhbhnmaaGreatDoor.Pm

namespace Go.Proofs.YtgkdoealhbhnmaaGreatDoor
open Go Go.RowKit Go.Proofs.YtgkdoealhbhnmaaGreatDoor.Pm
open Go.Lib (hid)
theorem parseNumbers_walk (a0 : Int) (a1 : Bool) (w0 : (Lit.int .i64 a0).wf = true) (w : World) (H : Wo w) :
    Calls Tryz.prog 7 #[.int .i64 a0, .bool a1] w fun e w' => e = .returned (.bool true) ∧ Below w.heap.size w w' := by
  have h0 : -9223372036854775808 ≤ a0 ∧ a0 ≤ 9223372036854775807 := by
    simp only [Lit.wf, IntKind.min, IntKind.max, Bool.and_eq_true] at w0
    exact ⟨of_decide_eq_true w0.1, of_decide_eq_true w0.2⟩
  cases a1
  · exact numbers_false a0 h0 w H
  · exact numbers_true a0 h0 w H
end Go.Proofs.YtgkdoealhbhnmaaGreatDoor
