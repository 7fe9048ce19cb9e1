/- The walk of TreeExprs: what is put of two right expressions is alike just if they are the same. -/
import Derived.Test.YtkfogoglaiibiaaGreatDoorTFeedA
import Derived.Test.YtkfogoglaiibiaaGreatDoorTSameM
import Derived.Test.YtkfogoglaiibiaaGreatDoorTLaid
import Derived.OpenShut
set_option linter.unusedSimpArgs false
set_option linter.unusedVariables false
namespace Go.Proofs.YtkfogoglaiibiaaGreatDoor
open Go Go.RowKit

abbrev nab : List ByteArray := [{ data := #[97] }, { data := #[98] }]
abbrev nxs : List ByteArray := [{ data := #[120, 115] }]
theorem nab_ok : nab.all nmB = true := by kernel_rfl
theorem nxs_ok : nxs.all nmB = true := by kernel_rfl
theorem txt_same {w : World} {T U : ET} (hT : T.In w 0) (hU : U.In w 0) (h : T.rightB = true) (h' : U.rightB = true) : ((⟨(putR levL T.re).toArray⟩ : ByteArray).toList == (⟨(putR levL U.re).toArray⟩ : ByteArray).toList) = sameE T U := by
  have hs := putE_same hT hU h h'
  rw [ByteArray.toList_eq, ByteArray.toList_eq]
  cases hc : sameE T U with
  | true => simp [hs.2 hc]
  | false =>
    have : ¬ putR levL T.re = putR levL U.re := fun e => by rw [hs.1 e] at hc; cases hc
    simpa using this
set_option maxHeartbeats 20000000 in
set_option maxRecDepth 100000 in
theorem exprs_true (a0 : Option Addr) (len0 cap0 : Nat) (z0 : List Int) (a1 : Option Addr) (len1 cap1 : Nat) (z1 : List Int) (w : World) (H : Pow w) (r0 : RowIn .u8 w a0 len0 z0) (r1 : RowIn .u8 w a1 len1 z1) :
    Calls Tryz.prog 5 #[.slice a0 len0 cap0, .slice a1 len1 cap1, .bool true] w fun e w' => e = .returned (.bool true) ∧ Below w.heap.size w w' := by
  have HP := Lib.hid H
  have R0 := Lib.hid r0
  have RY := Lib.hid r0
  clear H r0 r1
  go_enter Tryz.func5, Tryz.ntmps5
  go_wp2_with (go_at_call 9; have hx := ex_any HP.out w (Past.refl _); refine hx.mono ?_; clear hx; rintro e w1 ⟨rfl, hb1⟩; have HB1 := Lib.hid hb1; clear hb1)
  have hl : Below w1.heap.size w1 ((((((w1.alloc (.cells #[.string { data := #[97] }, .string { data := #[98] }] 9)).alloc (.cells #[.string { data := #[120, 115] }] 9)).alloc (.cells #[.slice a0 len0 cap0, .int .i64 0, .slice (some ⟨w1.heap.size, 0, none⟩) 2 2, .slice (some ⟨w1.heap.size + 1, 0, none⟩) 1 1, .int .i64 0, .int .i64 0, .bool false] 74)).alloc (.cells #[.string { data := #[97] }, .string { data := #[98] }] 9)).alloc (.cells #[.string { data := #[120, 115] }] 9)).alloc (.cells #[.slice a0 len0 cap0, .int .i64 0, .slice (some ⟨w1.heap.size + 3, 0, none⟩) 2 2, .slice (some ⟨w1.heap.size + 4, 0, none⟩) 1 1, .int .i64 0, .int .i64 0, .bool false] 74)) := by
    repeat' (first | with_reducible exact Below.refl _ _ | with_reducible refine Below.alloc ?_ ?_ _ | (simp; done) | (simp; omega))
  obtain ⟨n, hn⟩ : ∃ n, n = w1.heap.size := ⟨_, rfl⟩
  have bk : ∀ {W : World} {b : Nat} {o : Obj}, W.heap[b]? = some o → W.heap[b]? = some o := fun h => h
  have k0 : ((((((w1.alloc (.cells #[.string { data := #[97] }, .string { data := #[98] }] 9)).alloc (.cells #[.string { data := #[120, 115] }] 9)).alloc (.cells #[.slice a0 len0 cap0, .int .i64 0, .slice (some ⟨w1.heap.size, 0, none⟩) 2 2, .slice (some ⟨w1.heap.size + 1, 0, none⟩) 1 1, .int .i64 0, .int .i64 0, .bool false] 74)).alloc (.cells #[.string { data := #[97] }, .string { data := #[98] }] 9)).alloc (.cells #[.string { data := #[120, 115] }] 9)).alloc (.cells #[.slice a0 len0 cap0, .int .i64 0, .slice (some ⟨w1.heap.size + 3, 0, none⟩) 2 2, .slice (some ⟨w1.heap.size + 4, 0, none⟩) 1 1, .int .i64 0, .int .i64 0, .bool false] 74)).heap[w1.heap.size]? = some (.cells #[.string { data := #[97] }, .string { data := #[98] }] 9 (0, 0)) := by
    repeat' (first | (with_reducible refine bk_new' _ ?_; simp; done) | with_reducible apply bk_old)
  have k1 : ((((((w1.alloc (.cells #[.string { data := #[97] }, .string { data := #[98] }] 9)).alloc (.cells #[.string { data := #[120, 115] }] 9)).alloc (.cells #[.slice a0 len0 cap0, .int .i64 0, .slice (some ⟨w1.heap.size, 0, none⟩) 2 2, .slice (some ⟨w1.heap.size + 1, 0, none⟩) 1 1, .int .i64 0, .int .i64 0, .bool false] 74)).alloc (.cells #[.string { data := #[97] }, .string { data := #[98] }] 9)).alloc (.cells #[.string { data := #[120, 115] }] 9)).alloc (.cells #[.slice a0 len0 cap0, .int .i64 0, .slice (some ⟨w1.heap.size + 3, 0, none⟩) 2 2, .slice (some ⟨w1.heap.size + 4, 0, none⟩) 1 1, .int .i64 0, .int .i64 0, .bool false] 74)).heap[w1.heap.size + 1]? = some (.cells #[.string { data := #[120, 115] }] 9 (0, 0)) := by
    repeat' (first | (with_reducible refine bk_new' _ ?_; simp; done) | with_reducible apply bk_old)
  have k2 : ((((((w1.alloc (.cells #[.string { data := #[97] }, .string { data := #[98] }] 9)).alloc (.cells #[.string { data := #[120, 115] }] 9)).alloc (.cells #[.slice a0 len0 cap0, .int .i64 0, .slice (some ⟨w1.heap.size, 0, none⟩) 2 2, .slice (some ⟨w1.heap.size + 1, 0, none⟩) 1 1, .int .i64 0, .int .i64 0, .bool false] 74)).alloc (.cells #[.string { data := #[97] }, .string { data := #[98] }] 9)).alloc (.cells #[.string { data := #[120, 115] }] 9)).alloc (.cells #[.slice a0 len0 cap0, .int .i64 0, .slice (some ⟨w1.heap.size + 3, 0, none⟩) 2 2, .slice (some ⟨w1.heap.size + 4, 0, none⟩) 1 1, .int .i64 0, .int .i64 0, .bool false] 74)).heap[w1.heap.size + 2]? = some (.cells #[.slice a0 len0 cap0, .int .i64 0, .slice (some ⟨w1.heap.size, 0, none⟩) 2 2, .slice (some ⟨w1.heap.size + 1, 0, none⟩) 1 1, .int .i64 0, .int .i64 0, .bool false] 74 (0, 0)) := by
    repeat' (first | (with_reducible refine bk_new' _ ?_; simp; done) | with_reducible apply bk_old)
  have k3 : ((((((w1.alloc (.cells #[.string { data := #[97] }, .string { data := #[98] }] 9)).alloc (.cells #[.string { data := #[120, 115] }] 9)).alloc (.cells #[.slice a0 len0 cap0, .int .i64 0, .slice (some ⟨w1.heap.size, 0, none⟩) 2 2, .slice (some ⟨w1.heap.size + 1, 0, none⟩) 1 1, .int .i64 0, .int .i64 0, .bool false] 74)).alloc (.cells #[.string { data := #[97] }, .string { data := #[98] }] 9)).alloc (.cells #[.string { data := #[120, 115] }] 9)).alloc (.cells #[.slice a0 len0 cap0, .int .i64 0, .slice (some ⟨w1.heap.size + 3, 0, none⟩) 2 2, .slice (some ⟨w1.heap.size + 4, 0, none⟩) 1 1, .int .i64 0, .int .i64 0, .bool false] 74)).heap[w1.heap.size + 3]? = some (.cells #[.string { data := #[97] }, .string { data := #[98] }] 9 (0, 0)) := by
    repeat' (first | (with_reducible refine bk_new' _ ?_; simp; done) | with_reducible apply bk_old)
  have k4 : ((((((w1.alloc (.cells #[.string { data := #[97] }, .string { data := #[98] }] 9)).alloc (.cells #[.string { data := #[120, 115] }] 9)).alloc (.cells #[.slice a0 len0 cap0, .int .i64 0, .slice (some ⟨w1.heap.size, 0, none⟩) 2 2, .slice (some ⟨w1.heap.size + 1, 0, none⟩) 1 1, .int .i64 0, .int .i64 0, .bool false] 74)).alloc (.cells #[.string { data := #[97] }, .string { data := #[98] }] 9)).alloc (.cells #[.string { data := #[120, 115] }] 9)).alloc (.cells #[.slice a0 len0 cap0, .int .i64 0, .slice (some ⟨w1.heap.size + 3, 0, none⟩) 2 2, .slice (some ⟨w1.heap.size + 4, 0, none⟩) 1 1, .int .i64 0, .int .i64 0, .bool false] 74)).heap[w1.heap.size + 4]? = some (.cells #[.string { data := #[120, 115] }] 9 (0, 0)) := by
    repeat' (first | (with_reducible refine bk_new' _ ?_; simp; done) | with_reducible apply bk_old)
  have k5 : ((((((w1.alloc (.cells #[.string { data := #[97] }, .string { data := #[98] }] 9)).alloc (.cells #[.string { data := #[120, 115] }] 9)).alloc (.cells #[.slice a0 len0 cap0, .int .i64 0, .slice (some ⟨w1.heap.size, 0, none⟩) 2 2, .slice (some ⟨w1.heap.size + 1, 0, none⟩) 1 1, .int .i64 0, .int .i64 0, .bool false] 74)).alloc (.cells #[.string { data := #[97] }, .string { data := #[98] }] 9)).alloc (.cells #[.string { data := #[120, 115] }] 9)).alloc (.cells #[.slice a0 len0 cap0, .int .i64 0, .slice (some ⟨w1.heap.size + 3, 0, none⟩) 2 2, .slice (some ⟨w1.heap.size + 4, 0, none⟩) 1 1, .int .i64 0, .int .i64 0, .bool false] 74)).heap[w1.heap.size + 5]? = some (.cells #[.slice a0 len0 cap0, .int .i64 0, .slice (some ⟨w1.heap.size + 3, 0, none⟩) 2 2, .slice (some ⟨w1.heap.size + 4, 0, none⟩) 1 1, .int .i64 0, .int .i64 0, .bool false] 74 (0, 0)) := by
    repeat' (first | (with_reducible refine bk_new' _ ?_; simp; done) | with_reducible apply bk_old)
  have hz : ((((((w1.alloc (.cells #[.string { data := #[97] }, .string { data := #[98] }] 9)).alloc (.cells #[.string { data := #[120, 115] }] 9)).alloc (.cells #[.slice a0 len0 cap0, .int .i64 0, .slice (some ⟨w1.heap.size, 0, none⟩) 2 2, .slice (some ⟨w1.heap.size + 1, 0, none⟩) 1 1, .int .i64 0, .int .i64 0, .bool false] 74)).alloc (.cells #[.string { data := #[97] }, .string { data := #[98] }] 9)).alloc (.cells #[.string { data := #[120, 115] }] 9)).alloc (.cells #[.slice a0 len0 cap0, .int .i64 0, .slice (some ⟨w1.heap.size + 3, 0, none⟩) 2 2, .slice (some ⟨w1.heap.size + 4, 0, none⟩) 1 1, .int .i64 0, .int .i64 0, .bool false] 74)).heap.size = w1.heap.size + 6 := by simp
  have HL := Lib.hid hl
  have K0 := Lib.hid k0
  have K1 := Lib.hid k1
  have K2 := Lib.hid k2
  have K3 := Lib.hid k3
  have K4 := Lib.hid k4
  have K5 := Lib.hid k5
  have HZ := Lib.hid hz
  clear hl k0 k1 k2 k3 k4 k5 hz bk hn n
  generalize ((((((w1.alloc (.cells #[.string { data := #[97] }, .string { data := #[98] }] 9)).alloc (.cells #[.string { data := #[120, 115] }] 9)).alloc (.cells #[.slice a0 len0 cap0, .int .i64 0, .slice (some ⟨w1.heap.size, 0, none⟩) 2 2, .slice (some ⟨w1.heap.size + 1, 0, none⟩) 1 1, .int .i64 0, .int .i64 0, .bool false] 74)).alloc (.cells #[.string { data := #[97] }, .string { data := #[98] }] 9)).alloc (.cells #[.string { data := #[120, 115] }] 9)).alloc (.cells #[.slice a0 len0 cap0, .int .i64 0, .slice (some ⟨w1.heap.size + 3, 0, none⟩) 2 2, .slice (some ⟨w1.heap.size + 4, 0, none⟩) 1 1, .int .i64 0, .int .i64 0, .bool false] 74)) = w6 at HL K0 K1 K2 K3 K4 K5 HZ ⊢
  have B6 : Below w.heap.size w w6 := step_on HB1.out HL.out
  have hsz : w.heap.size ≤ w1.heap.size := HB1.out.size
  have hz6 : w6.heap.size = w1.heap.size + 6 := HZ.out
  have hFx : Fd ⟨a0, len0, cap0, z0, w1.heap.size, nab, w1.heap.size + 1, nxs, false⟩ (w1.heap.size + 6) (w1.heap.size + 2) 0 0 0 w6 :=
    mk_feed R0.out B6.block K0.out K1.out K2.out (by omega) (by omega) (by omega) (by omega) (by omega) (by omega) (by omega) (by omega) (by decide) (by decide) nab_ok nxs_ok
  have HX := Lib.hid (feedE_any 4 (by omega) 0 w6 hFx)
  have HB6 := Lib.hid B6
  have HSZ := Lib.hid hsz
  clear hz6 hFx B6 hsz
  refine HX.out.mono ?_
  rintro e w7 ⟨T, q, he, hT, hin, h7, hg7⟩
  rw [ET.val_is] at he
  subst he
  have hb7 : ∀ b, b < w.heap.size → w7.heap[b]? = w.heap[b]? := fun b hb => (hg7.block b (by have := HZ.out; have := HSZ.out; omega) (by have := HSZ.out; simp; omega)).trans (HB6.out.block b hb)
  have hFy : Fd ⟨a0, len0, cap0, z0, w1.heap.size + 3, nab, w1.heap.size + 4, nxs, false⟩ (w1.heap.size + 6) (w1.heap.size + 5) 0 0 0 w7 := by
    have hz6 := HZ.out
    have hsz := HSZ.out
    have h7s := hg7.size
    exact mk_feed RY.out hb7 ((hg7.block _ (by omega) (by simp)).trans K3.out) ((hg7.block _ (by omega) (by simp)).trans K4.out) ((hg7.block _ (by omega) (by simp)).trans K5.out) (by omega) (by omega) (by omega) (by omega) (by omega) (by omega) (by omega) (by omega) (by decide) (by decide) nab_ok nxs_ok
  have HFY := Lib.hid hFy
  have HT := Lib.hid hT
  have HIN := Lib.hid hin
  have HG7 := Lib.hid hg7
  clear hFy hT hin h7 hg7 hb7 HX
  go_wp2_with (go_at_call 33; have hx := feedE_any 4 (by omega) 0 _ (HFY.out.alloc (.cells #[.int .i64 T.kind, .string T.op, .int .i64 T.n, .string T.name, .slice T.kaddr T.kids.length T.kcap] 30)); refine hx.mono ?_; clear hx; rintro e w8 ⟨U, q2, he, hU, hin8, h8, hg8⟩; rw [ET.val_is] at he; subst he; have hX := (hg8.block w7.heap.size (by simp) (by have := HG7.out.size; have := HZ.out; simp; omega)).trans (bk_new _ _); have HX8 := Lib.hid hX; have HU := Lib.hid hU; have HIN8 := Lib.hid hin8; have HG8 := Lib.hid hg8; clear hX hU hin8 h8 hg8)
  have hT9 : T.In (w8.alloc (.cells #[.int .i64 U.kind, .string U.op, .int .i64 U.n, .string U.name, .slice U.kaddr U.kids.length U.kcap] 30)) 0 := ((((HIN.out.on ((Below.refl w7.heap.size w7).alloc (Nat.le_refl _) (.cells #[.int .i64 T.kind, .string T.op, .int .i64 T.n, .string T.name, .slice T.kaddr T.kids.length T.kcap] 30))).keep (keep_of_grown HG8.out (by have := HZ.out; simp; omega))).on ((Below.refl w8.heap.size w8).alloc (Nat.le_refl _) (.cells #[.int .i64 U.kind, .string U.op, .int .i64 U.n, .string U.name, .slice U.kaddr U.kids.length U.kcap] 30)))).mono (Nat.zero_le _)
  have hU9 : U.In (w8.alloc (.cells #[.int .i64 U.kind, .string U.op, .int .i64 U.n, .string U.name, .slice U.kaddr U.kids.length U.kcap] 30)) 0 := ((HIN8.out.on ((Below.refl w8.heap.size w8).alloc (Nat.le_refl _) (.cells #[.int .i64 U.kind, .string U.op, .int .i64 U.n, .string U.name, .slice U.kaddr U.kids.length U.kcap] 30)))).mono (Nat.zero_le _)
  have B9 : Below w.heap.size w (w8.alloc (.cells #[.int .i64 U.kind, .string U.op, .int .i64 U.n, .string U.name, .slice U.kaddr U.kids.length U.kcap] 30)) := by
    have s7 := HG7.out.size
    have s8 := HG8.out.size
    have hz6 := HZ.out
    have hsz := HSZ.out
    simp at s8
    have b1 : Below w.heap.size w6 w7 := ⟨HG7.out.os, HG7.out.tape, HG7.out.output, HG7.out.size, fun k hk => HG7.out.block k (by omega) (by simp; omega)⟩
    have b2 : Below w.heap.size w7 (w7.alloc (.cells #[.int .i64 T.kind, .string T.op, .int .i64 T.n, .string T.name, .slice T.kaddr T.kids.length T.kcap] 30)) := (Below.refl _ _).alloc (by omega) _
    have b3 : Below w.heap.size (w7.alloc (.cells #[.int .i64 T.kind, .string T.op, .int .i64 T.n, .string T.name, .slice T.kaddr T.kids.length T.kcap] 30)) w8 := ⟨HG8.out.os, HG8.out.tape, HG8.out.output, HG8.out.size, fun k hk => HG8.out.block k (by simp; omega) (by simp; omega)⟩
    exact (((HB6.out.trans b1).trans b2).trans b3).alloc (by omega) _
  have HX9 := Lib.hid (bk_old (.cells #[.int .i64 U.kind, .string U.op, .int .i64 U.n, .string U.name, .slice U.kaddr U.kids.length U.kcap] 30) HX8.out)
  have HY9 : Hid ((w8.alloc (.cells #[.int .i64 U.kind, .string U.op, .int .i64 U.n, .string U.name, .slice U.kaddr U.kids.length U.kcap] 30)).heap[w8.heap.size]? = some (.cells #[.int .i64 U.kind, .string U.op, .int .i64 U.n, .string U.name, .slice U.kaddr U.kids.length U.kcap] 30 (0, 0))) := Lib.hid (bk_new _ _)
  have HB9 := Lib.hid B9
  have P9 := Lib.hid (HP.out.on (show Past w (w8.alloc (.cells #[.int .i64 U.kind, .string U.op, .int .i64 U.n, .string U.name, .slice U.kaddr U.kids.length U.kcap] 30)) from B9))
  clear B9 HX8 HIN HIN8 HG7 HG8 HB6 HZ HSZ K0 K1 K2 K3 K4 K5 HFY HL HB1 HP R0 RY
  generalize w8.alloc (.cells #[.int .i64 U.kind, .string U.op, .int .i64 U.n, .string U.name, .slice U.kaddr U.kids.length U.kcap] 30) = w9 at hT9 hU9 HX9 HY9 HB9 P9 ⊢
  have LX := Lib.hid (lt_of_block HX9.out)
  have LY := Lib.hid (lt_of_block HY9.out)
  generalize w7.heap.size = X at HX9 LX ⊢
  generalize w8.heap.size = Y at HY9 LY ⊢
  have HQ := Lib.hid (txt_same hT9 hU9 HT.out.right HU.out.right)
  have HRT : Hid (∀ W, Past w9 W → Calls Tryz.prog 16 #[.agg #[.int .i64 T.kind, .string T.op, .int .i64 T.n, .string T.name, .slice T.kaddr T.kids.length T.kcap]] W fun e w' => e = .returned (.bool true) ∧ Below W.heap.size W w') := Lib.hid fun W hW => by
    have := rightExpr_any hT9 W hW
    rw [HT.out.right, ET.val_is] at this; exact this
  have HRU : Hid (∀ W, Past w9 W → Calls Tryz.prog 16 #[.agg #[.int .i64 U.kind, .string U.op, .int .i64 U.n, .string U.name, .slice U.kaddr U.kids.length U.kcap]] W fun e w' => e = .returned (.bool true) ∧ Below W.heap.size W w') := Lib.hid fun W hW => by
    have := rightExpr_any hU9 W hW
    rw [HU.out.right, ET.val_is] at this; exact this
  have HPT : Hid (∀ W, Past w9 W → Calls Tryz.prog 21 #[.agg #[.int .i64 T.kind, .string T.op, .int .i64 T.n, .string T.name, .slice T.kaddr T.kids.length T.kcap]] W fun e w' => e = .returned (.string ⟨(putR levL T.re).toArray⟩) ∧ Below W.heap.size W w') := Lib.hid fun W hW => by
    have := putExpr_any P9.out hT9 HT.out.right (ge_big HT.out (by omega)) W hW
    rw [ET.val_is] at this; exact this
  have HPU : Hid (∀ W, Past w9 W → Calls Tryz.prog 21 #[.agg #[.int .i64 U.kind, .string U.op, .int .i64 U.n, .string U.name, .slice U.kaddr U.kids.length U.kcap]] W fun e w' => e = .returned (.string ⟨(putR levL U.re).toArray⟩) ∧ Below W.heap.size W w') := Lib.hid fun W hW => by
    have := putExpr_any P9.out hU9 HU.out.right (ge_big HU.out (by omega)) W hW
    rw [ET.val_is] at this; exact this
  have HSE : Hid (∀ W, Past w9 W → Calls Tryz.prog 31 #[.agg #[.int .i64 T.kind, .string T.op, .int .i64 T.n, .string T.name, .slice T.kaddr T.kids.length T.kcap], .agg #[.int .i64 U.kind, .string U.op, .int .i64 U.n, .string U.name, .slice U.kaddr U.kids.length U.kcap]] W fun e w' => e = .returned (.bool (sameE T U)) ∧ Below W.heap.size W w') := Lib.hid fun W hW => by
    have := sameExpr_any hT9 hU9 W hW
    rw [ET.val_is, ET.val_is] at this; exact this
  clear hT9 hU9 HT HU P9
  generalize (⟨(putR levL T.re).toArray⟩ : ByteArray) = tx at HQ HPT
  generalize (⟨(putR levL U.re).toArray⟩ : ByteArray) = ty at HQ HPU
  generalize sameE T U = sv at HQ HSE
  have hp : Hid (Past w9 w9.drew) := Lib.hid (Below.refl w9.heap.size w9).drew
  obtain ⟨x0, x1, x2, x3, x4⟩ := cells5 HX9.out
  obtain ⟨y0, y1, y2, y3, y4⟩ := cells5 HY9.out
  have hq := HQ.out
  go_region_held3 (fun w' => (w'.cell? ⟨X, 0, none⟩ = some (.int .i64 T.kind) ∧ w'.cell? ⟨X, 1, none⟩ = some (.string T.op) ∧ w'.cell? ⟨X, 2, none⟩ = some (.int .i64 T.n) ∧ w'.cell? ⟨X, 3, none⟩ = some (.string T.name) ∧ w'.cell? ⟨X, 4, none⟩ = some (.slice T.kaddr T.kids.length T.kcap)) ∧ (w'.cell? ⟨Y, 0, none⟩ = some (.int .i64 U.kind) ∧ w'.cell? ⟨Y, 1, none⟩ = some (.string U.op) ∧ w'.cell? ⟨Y, 2, none⟩ = some (.int .i64 U.n) ∧ w'.cell? ⟨Y, 3, none⟩ = some (.string U.name) ∧ w'.cell? ⟨Y, 4, none⟩ = some (.slice U.kaddr U.kids.length U.kcap))) ((refine ⟨⟨?_, ?_, ?_, ?_, ?_⟩, ⟨?_, ?_, ?_, ?_, ?_⟩⟩ <;> (first | with_reducible assumption | (with_reducible refine cellD ?_; with_reducible assumption))))
    (first
      | (go_at_call 16; ((with_reducible refine (HRT.out _ hp.out).mono ?_); rintro e wk ⟨rfl, hb⟩); have hq := Lib.hid (hp.out.on hb); clear hp hb; have hp := hq; clear hq; obtain ⟨x0, x1, x2, x3, x4⟩ := cells5 ((hp.out.block X LX.out).trans HX9.out); obtain ⟨y0, y1, y2, y3, y4⟩ := cells5 ((hp.out.block Y LY.out).trans HY9.out))
      | (go_at_call 16; ((with_reducible refine (HRU.out _ hp.out).mono ?_); rintro e wk ⟨rfl, hb⟩); have hq := Lib.hid (hp.out.on hb); clear hp hb; have hp := hq; clear hq; obtain ⟨x0, x1, x2, x3, x4⟩ := cells5 ((hp.out.block X LX.out).trans HX9.out); obtain ⟨y0, y1, y2, y3, y4⟩ := cells5 ((hp.out.block Y LY.out).trans HY9.out))
      | (go_at_call 21; ((with_reducible refine (HPT.out _ hp.out).mono ?_); rintro e wk ⟨rfl, hb⟩); have hq := Lib.hid (hp.out.on hb); clear hp hb; have hp := hq; clear hq; obtain ⟨x0, x1, x2, x3, x4⟩ := cells5 ((hp.out.block X LX.out).trans HX9.out); obtain ⟨y0, y1, y2, y3, y4⟩ := cells5 ((hp.out.block Y LY.out).trans HY9.out))
      | (go_at_call 21; ((with_reducible refine (HPU.out _ hp.out).mono ?_); rintro e wk ⟨rfl, hb⟩); have hq := Lib.hid (hp.out.on hb); clear hp hb; have hp := hq; clear hq; obtain ⟨x0, x1, x2, x3, x4⟩ := cells5 ((hp.out.block X LX.out).trans HX9.out); obtain ⟨y0, y1, y2, y3, y4⟩ := cells5 ((hp.out.block Y LY.out).trans HY9.out))
      | (go_at_call 31; ((with_reducible refine (HSE.out _ hp.out).mono ?_); rintro e wk ⟨rfl, hb⟩); have hq := Lib.hid (hp.out.on hb); clear hp hb; have hp := hq; clear hq; obtain ⟨x0, x1, x2, x3, x4⟩ := cells5 ((hp.out.block X LX.out).trans HX9.out); obtain ⟨y0, y1, y2, y3, y4⟩ := cells5 ((hp.out.block Y LY.out).trans HY9.out)))
  go_wp2
  go_ret
  exact ⟨by simp [hq], step_on HB9.out hp.out⟩
set_option maxHeartbeats 20000000 in
set_option maxRecDepth 100000 in
theorem exprs_false (a0 : Option Addr) (len0 cap0 : Nat) (z0 : List Int) (a1 : Option Addr) (len1 cap1 : Nat) (z1 : List Int) (w : World) (H : Pow w) (r0 : RowIn .u8 w a0 len0 z0) (r1 : RowIn .u8 w a1 len1 z1) :
    Calls Tryz.prog 5 #[.slice a0 len0 cap0, .slice a1 len1 cap1, .bool false] w fun e w' => e = .returned (.bool true) ∧ Below w.heap.size w w' := by
  have HP := Lib.hid H
  have R0 := Lib.hid r0
  have RY := Lib.hid r1
  clear H r0 r1
  go_enter Tryz.func5, Tryz.ntmps5
  go_wp2_with (go_at_call 9; have hx := ex_any HP.out w (Past.refl _); refine hx.mono ?_; clear hx; rintro e w1 ⟨rfl, hb1⟩; have HB1 := Lib.hid hb1; clear hb1)
  have hl : Below w1.heap.size w1 ((((((w1.alloc (.cells #[.string { data := #[97] }, .string { data := #[98] }] 9)).alloc (.cells #[.string { data := #[120, 115] }] 9)).alloc (.cells #[.slice a0 len0 cap0, .int .i64 0, .slice (some ⟨w1.heap.size, 0, none⟩) 2 2, .slice (some ⟨w1.heap.size + 1, 0, none⟩) 1 1, .int .i64 0, .int .i64 0, .bool false] 74)).alloc (.cells #[.string { data := #[97] }, .string { data := #[98] }] 9)).alloc (.cells #[.string { data := #[120, 115] }] 9)).alloc (.cells #[.slice a1 len1 cap1, .int .i64 0, .slice (some ⟨w1.heap.size + 3, 0, none⟩) 2 2, .slice (some ⟨w1.heap.size + 4, 0, none⟩) 1 1, .int .i64 0, .int .i64 0, .bool false] 74)) := by
    repeat' (first | with_reducible exact Below.refl _ _ | with_reducible refine Below.alloc ?_ ?_ _ | (simp; done) | (simp; omega))
  obtain ⟨n, hn⟩ : ∃ n, n = w1.heap.size := ⟨_, rfl⟩
  have bk : ∀ {W : World} {b : Nat} {o : Obj}, W.heap[b]? = some o → W.heap[b]? = some o := fun h => h
  have k0 : ((((((w1.alloc (.cells #[.string { data := #[97] }, .string { data := #[98] }] 9)).alloc (.cells #[.string { data := #[120, 115] }] 9)).alloc (.cells #[.slice a0 len0 cap0, .int .i64 0, .slice (some ⟨w1.heap.size, 0, none⟩) 2 2, .slice (some ⟨w1.heap.size + 1, 0, none⟩) 1 1, .int .i64 0, .int .i64 0, .bool false] 74)).alloc (.cells #[.string { data := #[97] }, .string { data := #[98] }] 9)).alloc (.cells #[.string { data := #[120, 115] }] 9)).alloc (.cells #[.slice a1 len1 cap1, .int .i64 0, .slice (some ⟨w1.heap.size + 3, 0, none⟩) 2 2, .slice (some ⟨w1.heap.size + 4, 0, none⟩) 1 1, .int .i64 0, .int .i64 0, .bool false] 74)).heap[w1.heap.size]? = some (.cells #[.string { data := #[97] }, .string { data := #[98] }] 9 (0, 0)) := by
    repeat' (first | (with_reducible refine bk_new' _ ?_; simp; done) | with_reducible apply bk_old)
  have k1 : ((((((w1.alloc (.cells #[.string { data := #[97] }, .string { data := #[98] }] 9)).alloc (.cells #[.string { data := #[120, 115] }] 9)).alloc (.cells #[.slice a0 len0 cap0, .int .i64 0, .slice (some ⟨w1.heap.size, 0, none⟩) 2 2, .slice (some ⟨w1.heap.size + 1, 0, none⟩) 1 1, .int .i64 0, .int .i64 0, .bool false] 74)).alloc (.cells #[.string { data := #[97] }, .string { data := #[98] }] 9)).alloc (.cells #[.string { data := #[120, 115] }] 9)).alloc (.cells #[.slice a1 len1 cap1, .int .i64 0, .slice (some ⟨w1.heap.size + 3, 0, none⟩) 2 2, .slice (some ⟨w1.heap.size + 4, 0, none⟩) 1 1, .int .i64 0, .int .i64 0, .bool false] 74)).heap[w1.heap.size + 1]? = some (.cells #[.string { data := #[120, 115] }] 9 (0, 0)) := by
    repeat' (first | (with_reducible refine bk_new' _ ?_; simp; done) | with_reducible apply bk_old)
  have k2 : ((((((w1.alloc (.cells #[.string { data := #[97] }, .string { data := #[98] }] 9)).alloc (.cells #[.string { data := #[120, 115] }] 9)).alloc (.cells #[.slice a0 len0 cap0, .int .i64 0, .slice (some ⟨w1.heap.size, 0, none⟩) 2 2, .slice (some ⟨w1.heap.size + 1, 0, none⟩) 1 1, .int .i64 0, .int .i64 0, .bool false] 74)).alloc (.cells #[.string { data := #[97] }, .string { data := #[98] }] 9)).alloc (.cells #[.string { data := #[120, 115] }] 9)).alloc (.cells #[.slice a1 len1 cap1, .int .i64 0, .slice (some ⟨w1.heap.size + 3, 0, none⟩) 2 2, .slice (some ⟨w1.heap.size + 4, 0, none⟩) 1 1, .int .i64 0, .int .i64 0, .bool false] 74)).heap[w1.heap.size + 2]? = some (.cells #[.slice a0 len0 cap0, .int .i64 0, .slice (some ⟨w1.heap.size, 0, none⟩) 2 2, .slice (some ⟨w1.heap.size + 1, 0, none⟩) 1 1, .int .i64 0, .int .i64 0, .bool false] 74 (0, 0)) := by
    repeat' (first | (with_reducible refine bk_new' _ ?_; simp; done) | with_reducible apply bk_old)
  have k3 : ((((((w1.alloc (.cells #[.string { data := #[97] }, .string { data := #[98] }] 9)).alloc (.cells #[.string { data := #[120, 115] }] 9)).alloc (.cells #[.slice a0 len0 cap0, .int .i64 0, .slice (some ⟨w1.heap.size, 0, none⟩) 2 2, .slice (some ⟨w1.heap.size + 1, 0, none⟩) 1 1, .int .i64 0, .int .i64 0, .bool false] 74)).alloc (.cells #[.string { data := #[97] }, .string { data := #[98] }] 9)).alloc (.cells #[.string { data := #[120, 115] }] 9)).alloc (.cells #[.slice a1 len1 cap1, .int .i64 0, .slice (some ⟨w1.heap.size + 3, 0, none⟩) 2 2, .slice (some ⟨w1.heap.size + 4, 0, none⟩) 1 1, .int .i64 0, .int .i64 0, .bool false] 74)).heap[w1.heap.size + 3]? = some (.cells #[.string { data := #[97] }, .string { data := #[98] }] 9 (0, 0)) := by
    repeat' (first | (with_reducible refine bk_new' _ ?_; simp; done) | with_reducible apply bk_old)
  have k4 : ((((((w1.alloc (.cells #[.string { data := #[97] }, .string { data := #[98] }] 9)).alloc (.cells #[.string { data := #[120, 115] }] 9)).alloc (.cells #[.slice a0 len0 cap0, .int .i64 0, .slice (some ⟨w1.heap.size, 0, none⟩) 2 2, .slice (some ⟨w1.heap.size + 1, 0, none⟩) 1 1, .int .i64 0, .int .i64 0, .bool false] 74)).alloc (.cells #[.string { data := #[97] }, .string { data := #[98] }] 9)).alloc (.cells #[.string { data := #[120, 115] }] 9)).alloc (.cells #[.slice a1 len1 cap1, .int .i64 0, .slice (some ⟨w1.heap.size + 3, 0, none⟩) 2 2, .slice (some ⟨w1.heap.size + 4, 0, none⟩) 1 1, .int .i64 0, .int .i64 0, .bool false] 74)).heap[w1.heap.size + 4]? = some (.cells #[.string { data := #[120, 115] }] 9 (0, 0)) := by
    repeat' (first | (with_reducible refine bk_new' _ ?_; simp; done) | with_reducible apply bk_old)
  have k5 : ((((((w1.alloc (.cells #[.string { data := #[97] }, .string { data := #[98] }] 9)).alloc (.cells #[.string { data := #[120, 115] }] 9)).alloc (.cells #[.slice a0 len0 cap0, .int .i64 0, .slice (some ⟨w1.heap.size, 0, none⟩) 2 2, .slice (some ⟨w1.heap.size + 1, 0, none⟩) 1 1, .int .i64 0, .int .i64 0, .bool false] 74)).alloc (.cells #[.string { data := #[97] }, .string { data := #[98] }] 9)).alloc (.cells #[.string { data := #[120, 115] }] 9)).alloc (.cells #[.slice a1 len1 cap1, .int .i64 0, .slice (some ⟨w1.heap.size + 3, 0, none⟩) 2 2, .slice (some ⟨w1.heap.size + 4, 0, none⟩) 1 1, .int .i64 0, .int .i64 0, .bool false] 74)).heap[w1.heap.size + 5]? = some (.cells #[.slice a1 len1 cap1, .int .i64 0, .slice (some ⟨w1.heap.size + 3, 0, none⟩) 2 2, .slice (some ⟨w1.heap.size + 4, 0, none⟩) 1 1, .int .i64 0, .int .i64 0, .bool false] 74 (0, 0)) := by
    repeat' (first | (with_reducible refine bk_new' _ ?_; simp; done) | with_reducible apply bk_old)
  have hz : ((((((w1.alloc (.cells #[.string { data := #[97] }, .string { data := #[98] }] 9)).alloc (.cells #[.string { data := #[120, 115] }] 9)).alloc (.cells #[.slice a0 len0 cap0, .int .i64 0, .slice (some ⟨w1.heap.size, 0, none⟩) 2 2, .slice (some ⟨w1.heap.size + 1, 0, none⟩) 1 1, .int .i64 0, .int .i64 0, .bool false] 74)).alloc (.cells #[.string { data := #[97] }, .string { data := #[98] }] 9)).alloc (.cells #[.string { data := #[120, 115] }] 9)).alloc (.cells #[.slice a1 len1 cap1, .int .i64 0, .slice (some ⟨w1.heap.size + 3, 0, none⟩) 2 2, .slice (some ⟨w1.heap.size + 4, 0, none⟩) 1 1, .int .i64 0, .int .i64 0, .bool false] 74)).heap.size = w1.heap.size + 6 := by simp
  have HL := Lib.hid hl
  have K0 := Lib.hid k0
  have K1 := Lib.hid k1
  have K2 := Lib.hid k2
  have K3 := Lib.hid k3
  have K4 := Lib.hid k4
  have K5 := Lib.hid k5
  have HZ := Lib.hid hz
  clear hl k0 k1 k2 k3 k4 k5 hz bk hn n
  generalize ((((((w1.alloc (.cells #[.string { data := #[97] }, .string { data := #[98] }] 9)).alloc (.cells #[.string { data := #[120, 115] }] 9)).alloc (.cells #[.slice a0 len0 cap0, .int .i64 0, .slice (some ⟨w1.heap.size, 0, none⟩) 2 2, .slice (some ⟨w1.heap.size + 1, 0, none⟩) 1 1, .int .i64 0, .int .i64 0, .bool false] 74)).alloc (.cells #[.string { data := #[97] }, .string { data := #[98] }] 9)).alloc (.cells #[.string { data := #[120, 115] }] 9)).alloc (.cells #[.slice a1 len1 cap1, .int .i64 0, .slice (some ⟨w1.heap.size + 3, 0, none⟩) 2 2, .slice (some ⟨w1.heap.size + 4, 0, none⟩) 1 1, .int .i64 0, .int .i64 0, .bool false] 74)) = w6 at HL K0 K1 K2 K3 K4 K5 HZ ⊢
  have B6 : Below w.heap.size w w6 := step_on HB1.out HL.out
  have hsz : w.heap.size ≤ w1.heap.size := HB1.out.size
  have hz6 : w6.heap.size = w1.heap.size + 6 := HZ.out
  have hFx : Fd ⟨a0, len0, cap0, z0, w1.heap.size, nab, w1.heap.size + 1, nxs, false⟩ (w1.heap.size + 6) (w1.heap.size + 2) 0 0 0 w6 :=
    mk_feed R0.out B6.block K0.out K1.out K2.out (by omega) (by omega) (by omega) (by omega) (by omega) (by omega) (by omega) (by omega) (by decide) (by decide) nab_ok nxs_ok
  have HX := Lib.hid (feedE_any 4 (by omega) 0 w6 hFx)
  have HB6 := Lib.hid B6
  have HSZ := Lib.hid hsz
  clear hz6 hFx B6 hsz
  refine HX.out.mono ?_
  rintro e w7 ⟨T, q, he, hT, hin, h7, hg7⟩
  rw [ET.val_is] at he
  subst he
  have hb7 : ∀ b, b < w.heap.size → w7.heap[b]? = w.heap[b]? := fun b hb => (hg7.block b (by have := HZ.out; have := HSZ.out; omega) (by have := HSZ.out; simp; omega)).trans (HB6.out.block b hb)
  have hFy : Fd ⟨a1, len1, cap1, z1, w1.heap.size + 3, nab, w1.heap.size + 4, nxs, false⟩ (w1.heap.size + 6) (w1.heap.size + 5) 0 0 0 w7 := by
    have hz6 := HZ.out
    have hsz := HSZ.out
    have h7s := hg7.size
    exact mk_feed RY.out hb7 ((hg7.block _ (by omega) (by simp)).trans K3.out) ((hg7.block _ (by omega) (by simp)).trans K4.out) ((hg7.block _ (by omega) (by simp)).trans K5.out) (by omega) (by omega) (by omega) (by omega) (by omega) (by omega) (by omega) (by omega) (by decide) (by decide) nab_ok nxs_ok
  have HFY := Lib.hid hFy
  have HT := Lib.hid hT
  have HIN := Lib.hid hin
  have HG7 := Lib.hid hg7
  clear hFy hT hin h7 hg7 hb7 HX
  go_wp2_with (go_at_call 33; have hx := feedE_any 4 (by omega) 0 _ (HFY.out.alloc (.cells #[.int .i64 T.kind, .string T.op, .int .i64 T.n, .string T.name, .slice T.kaddr T.kids.length T.kcap] 30)); refine hx.mono ?_; clear hx; rintro e w8 ⟨U, q2, he, hU, hin8, h8, hg8⟩; rw [ET.val_is] at he; subst he; have hX := (hg8.block w7.heap.size (by simp) (by have := HG7.out.size; have := HZ.out; simp; omega)).trans (bk_new _ _); have HX8 := Lib.hid hX; have HU := Lib.hid hU; have HIN8 := Lib.hid hin8; have HG8 := Lib.hid hg8; clear hX hU hin8 h8 hg8)
  have hT9 : T.In (w8.alloc (.cells #[.int .i64 U.kind, .string U.op, .int .i64 U.n, .string U.name, .slice U.kaddr U.kids.length U.kcap] 30)) 0 := ((((HIN.out.on ((Below.refl w7.heap.size w7).alloc (Nat.le_refl _) (.cells #[.int .i64 T.kind, .string T.op, .int .i64 T.n, .string T.name, .slice T.kaddr T.kids.length T.kcap] 30))).keep (keep_of_grown HG8.out (by have := HZ.out; simp; omega))).on ((Below.refl w8.heap.size w8).alloc (Nat.le_refl _) (.cells #[.int .i64 U.kind, .string U.op, .int .i64 U.n, .string U.name, .slice U.kaddr U.kids.length U.kcap] 30)))).mono (Nat.zero_le _)
  have hU9 : U.In (w8.alloc (.cells #[.int .i64 U.kind, .string U.op, .int .i64 U.n, .string U.name, .slice U.kaddr U.kids.length U.kcap] 30)) 0 := ((HIN8.out.on ((Below.refl w8.heap.size w8).alloc (Nat.le_refl _) (.cells #[.int .i64 U.kind, .string U.op, .int .i64 U.n, .string U.name, .slice U.kaddr U.kids.length U.kcap] 30)))).mono (Nat.zero_le _)
  have B9 : Below w.heap.size w (w8.alloc (.cells #[.int .i64 U.kind, .string U.op, .int .i64 U.n, .string U.name, .slice U.kaddr U.kids.length U.kcap] 30)) := by
    have s7 := HG7.out.size
    have s8 := HG8.out.size
    have hz6 := HZ.out
    have hsz := HSZ.out
    simp at s8
    have b1 : Below w.heap.size w6 w7 := ⟨HG7.out.os, HG7.out.tape, HG7.out.output, HG7.out.size, fun k hk => HG7.out.block k (by omega) (by simp; omega)⟩
    have b2 : Below w.heap.size w7 (w7.alloc (.cells #[.int .i64 T.kind, .string T.op, .int .i64 T.n, .string T.name, .slice T.kaddr T.kids.length T.kcap] 30)) := (Below.refl _ _).alloc (by omega) _
    have b3 : Below w.heap.size (w7.alloc (.cells #[.int .i64 T.kind, .string T.op, .int .i64 T.n, .string T.name, .slice T.kaddr T.kids.length T.kcap] 30)) w8 := ⟨HG8.out.os, HG8.out.tape, HG8.out.output, HG8.out.size, fun k hk => HG8.out.block k (by simp; omega) (by simp; omega)⟩
    exact (((HB6.out.trans b1).trans b2).trans b3).alloc (by omega) _
  have HX9 := Lib.hid (bk_old (.cells #[.int .i64 U.kind, .string U.op, .int .i64 U.n, .string U.name, .slice U.kaddr U.kids.length U.kcap] 30) HX8.out)
  have HY9 : Hid ((w8.alloc (.cells #[.int .i64 U.kind, .string U.op, .int .i64 U.n, .string U.name, .slice U.kaddr U.kids.length U.kcap] 30)).heap[w8.heap.size]? = some (.cells #[.int .i64 U.kind, .string U.op, .int .i64 U.n, .string U.name, .slice U.kaddr U.kids.length U.kcap] 30 (0, 0))) := Lib.hid (bk_new _ _)
  have HB9 := Lib.hid B9
  have P9 := Lib.hid (HP.out.on (show Past w (w8.alloc (.cells #[.int .i64 U.kind, .string U.op, .int .i64 U.n, .string U.name, .slice U.kaddr U.kids.length U.kcap] 30)) from B9))
  clear B9 HX8 HIN HIN8 HG7 HG8 HB6 HZ HSZ K0 K1 K2 K3 K4 K5 HFY HL HB1 HP R0 RY
  generalize w8.alloc (.cells #[.int .i64 U.kind, .string U.op, .int .i64 U.n, .string U.name, .slice U.kaddr U.kids.length U.kcap] 30) = w9 at hT9 hU9 HX9 HY9 HB9 P9 ⊢
  have LX := Lib.hid (lt_of_block HX9.out)
  have LY := Lib.hid (lt_of_block HY9.out)
  generalize w7.heap.size = X at HX9 LX ⊢
  generalize w8.heap.size = Y at HY9 LY ⊢
  have HQ := Lib.hid (txt_same hT9 hU9 HT.out.right HU.out.right)
  have HRT : Hid (∀ W, Past w9 W → Calls Tryz.prog 16 #[.agg #[.int .i64 T.kind, .string T.op, .int .i64 T.n, .string T.name, .slice T.kaddr T.kids.length T.kcap]] W fun e w' => e = .returned (.bool true) ∧ Below W.heap.size W w') := Lib.hid fun W hW => by
    have := rightExpr_any hT9 W hW
    rw [HT.out.right, ET.val_is] at this; exact this
  have HRU : Hid (∀ W, Past w9 W → Calls Tryz.prog 16 #[.agg #[.int .i64 U.kind, .string U.op, .int .i64 U.n, .string U.name, .slice U.kaddr U.kids.length U.kcap]] W fun e w' => e = .returned (.bool true) ∧ Below W.heap.size W w') := Lib.hid fun W hW => by
    have := rightExpr_any hU9 W hW
    rw [HU.out.right, ET.val_is] at this; exact this
  have HPT : Hid (∀ W, Past w9 W → Calls Tryz.prog 21 #[.agg #[.int .i64 T.kind, .string T.op, .int .i64 T.n, .string T.name, .slice T.kaddr T.kids.length T.kcap]] W fun e w' => e = .returned (.string ⟨(putR levL T.re).toArray⟩) ∧ Below W.heap.size W w') := Lib.hid fun W hW => by
    have := putExpr_any P9.out hT9 HT.out.right (ge_big HT.out (by omega)) W hW
    rw [ET.val_is] at this; exact this
  have HPU : Hid (∀ W, Past w9 W → Calls Tryz.prog 21 #[.agg #[.int .i64 U.kind, .string U.op, .int .i64 U.n, .string U.name, .slice U.kaddr U.kids.length U.kcap]] W fun e w' => e = .returned (.string ⟨(putR levL U.re).toArray⟩) ∧ Below W.heap.size W w') := Lib.hid fun W hW => by
    have := putExpr_any P9.out hU9 HU.out.right (ge_big HU.out (by omega)) W hW
    rw [ET.val_is] at this; exact this
  have HSE : Hid (∀ W, Past w9 W → Calls Tryz.prog 31 #[.agg #[.int .i64 T.kind, .string T.op, .int .i64 T.n, .string T.name, .slice T.kaddr T.kids.length T.kcap], .agg #[.int .i64 U.kind, .string U.op, .int .i64 U.n, .string U.name, .slice U.kaddr U.kids.length U.kcap]] W fun e w' => e = .returned (.bool (sameE T U)) ∧ Below W.heap.size W w') := Lib.hid fun W hW => by
    have := sameExpr_any hT9 hU9 W hW
    rw [ET.val_is, ET.val_is] at this; exact this
  clear hT9 hU9 HT HU P9
  generalize (⟨(putR levL T.re).toArray⟩ : ByteArray) = tx at HQ HPT
  generalize (⟨(putR levL U.re).toArray⟩ : ByteArray) = ty at HQ HPU
  generalize sameE T U = sv at HQ HSE
  have hp : Hid (Past w9 w9.drew) := Lib.hid (Below.refl w9.heap.size w9).drew
  obtain ⟨x0, x1, x2, x3, x4⟩ := cells5 HX9.out
  obtain ⟨y0, y1, y2, y3, y4⟩ := cells5 HY9.out
  have hq := HQ.out
  go_region_held3 (fun w' => (w'.cell? ⟨X, 0, none⟩ = some (.int .i64 T.kind) ∧ w'.cell? ⟨X, 1, none⟩ = some (.string T.op) ∧ w'.cell? ⟨X, 2, none⟩ = some (.int .i64 T.n) ∧ w'.cell? ⟨X, 3, none⟩ = some (.string T.name) ∧ w'.cell? ⟨X, 4, none⟩ = some (.slice T.kaddr T.kids.length T.kcap)) ∧ (w'.cell? ⟨Y, 0, none⟩ = some (.int .i64 U.kind) ∧ w'.cell? ⟨Y, 1, none⟩ = some (.string U.op) ∧ w'.cell? ⟨Y, 2, none⟩ = some (.int .i64 U.n) ∧ w'.cell? ⟨Y, 3, none⟩ = some (.string U.name) ∧ w'.cell? ⟨Y, 4, none⟩ = some (.slice U.kaddr U.kids.length U.kcap))) ((refine ⟨⟨?_, ?_, ?_, ?_, ?_⟩, ⟨?_, ?_, ?_, ?_, ?_⟩⟩ <;> (first | with_reducible assumption | (with_reducible refine cellD ?_; with_reducible assumption))))
    (first
      | (go_at_call 16; ((with_reducible refine (HRT.out _ hp.out).mono ?_); rintro e wk ⟨rfl, hb⟩); have hq := Lib.hid (hp.out.on hb); clear hp hb; have hp := hq; clear hq; obtain ⟨x0, x1, x2, x3, x4⟩ := cells5 ((hp.out.block X LX.out).trans HX9.out); obtain ⟨y0, y1, y2, y3, y4⟩ := cells5 ((hp.out.block Y LY.out).trans HY9.out))
      | (go_at_call 16; ((with_reducible refine (HRU.out _ hp.out).mono ?_); rintro e wk ⟨rfl, hb⟩); have hq := Lib.hid (hp.out.on hb); clear hp hb; have hp := hq; clear hq; obtain ⟨x0, x1, x2, x3, x4⟩ := cells5 ((hp.out.block X LX.out).trans HX9.out); obtain ⟨y0, y1, y2, y3, y4⟩ := cells5 ((hp.out.block Y LY.out).trans HY9.out))
      | (go_at_call 21; ((with_reducible refine (HPT.out _ hp.out).mono ?_); rintro e wk ⟨rfl, hb⟩); have hq := Lib.hid (hp.out.on hb); clear hp hb; have hp := hq; clear hq; obtain ⟨x0, x1, x2, x3, x4⟩ := cells5 ((hp.out.block X LX.out).trans HX9.out); obtain ⟨y0, y1, y2, y3, y4⟩ := cells5 ((hp.out.block Y LY.out).trans HY9.out))
      | (go_at_call 21; ((with_reducible refine (HPU.out _ hp.out).mono ?_); rintro e wk ⟨rfl, hb⟩); have hq := Lib.hid (hp.out.on hb); clear hp hb; have hp := hq; clear hq; obtain ⟨x0, x1, x2, x3, x4⟩ := cells5 ((hp.out.block X LX.out).trans HX9.out); obtain ⟨y0, y1, y2, y3, y4⟩ := cells5 ((hp.out.block Y LY.out).trans HY9.out))
      | (go_at_call 31; ((with_reducible refine (HSE.out _ hp.out).mono ?_); rintro e wk ⟨rfl, hb⟩); have hq := Lib.hid (hp.out.on hb); clear hp hb; have hp := hq; clear hq; obtain ⟨x0, x1, x2, x3, x4⟩ := cells5 ((hp.out.block X LX.out).trans HX9.out); obtain ⟨y0, y1, y2, y3, y4⟩ := cells5 ((hp.out.block Y LY.out).trans HY9.out)))
  go_wp2
  go_ret
  exact ⟨by simp [hq], step_on HB9.out hp.out⟩
theorem treeExprs_walk (a0 : Option Addr) (len0 cap0 : Nat) (z0 : List Int) (a1 : Option Addr) (len1 cap1 : Nat) (z1 : List Int) (a2 : Bool) (w : World) (H : Pow w) (r0 : RowIn .u8 w a0 len0 z0) (r1 : RowIn .u8 w a1 len1 z1) :
    Calls Tryz.prog 5 #[.slice a0 len0 cap0, .slice a1 len1 cap1, .bool a2] w fun e w' => e = .returned (.bool true) ∧ Below w.heap.size w w' := by
  cases a2
  · exact exprs_false a0 len0 cap0 z0 a1 len1 cap1 z1 w H r0 r1
  · exact exprs_true a0 len0 cap0 z0 a1 len1 cap1 z1 w H r0 r1
end Go.Proofs.YtkfogoglaiibiaaGreatDoor
