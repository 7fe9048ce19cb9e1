/- The function of the statements' environments; what Get, Set and their like answer of given cells; the chapter's examples. (Written by genex7.py.) -/
import Derived.Test.YtdaklmbifkehpaaGreatDoorECells
import Derived.Test.YtdaklmbifkehpaaGreatDoorEWhole
import Derived.Test.YtdaklmbifkehpaaGreatDoorPLaid
set_option linter.unusedSimpArgs false
set_option linter.unusedVariables false
namespace Go.Proofs.YtdaklmbifkehpaaGreatDoor.Ev
open Go Go.RowKit Go.Proofs.YtdaklmbifkehpaaGreatDoor Go.Proofs.YtdaklmbifkehpaaGreatDoor.Pm
open Go.Lib (hid)

abbrev sP : ByteArray := { data := #[112] }
abbrev sA : ByteArray := { data := #[97] }
abbrev sB : ByteArray := { data := #[98] }
abbrev sXs : ByteArray := { data := #[120, 115] }
abbrev sYs : ByteArray := { data := #[121, 115] }
abbrev sZs : ByteArray := { data := #[122, 115] }
abbrev frPs : List ByteArray := [sP, sA]
abbrev frDs : List (ByteArray × Int) := [(sB, 0), (sXs, 3), (sYs, 70), (sZs, -4)]
def frL (zs : List Int) : List PC := newL frPs frDs zs
set_option maxHeartbeats 4000000 in
set_option maxRecDepth 100000 in
theorem frame_any (w : World) : Calls Tryz.prog 10 #[.bool false] w fun e w' => (∃ x y nm, e = .returned (.agg #[.string nm, .slice (some ⟨x, 0, none⟩) 2 2, .slice (some ⟨y, 0, none⟩) 4 4, .slice none 0 0]) ∧ StrsAt w' (some ⟨x, 0, none⟩) frPs ∧ DeclsAt w' (some ⟨y, 0, none⟩) frDs) ∧ Below w.heap.size w w' := by
  go_enter Tryz.func10, Tryz.ntmps10
  go_wp2
  refine bodyPost_ret (v := .agg #[.string { data := #[109, 97, 105, 110] }, .slice (some ⟨w.heap.size + 1, 0, none⟩) 2 2, .slice (some ⟨w.heap.size + 1 + 1, 0, none⟩) 4 4, .slice none 0 0]) (by simp [results, Tryz.results10, go_sem]) rfl ⟨⟨w.heap.size + 1, w.heap.size + 1 + 1, _, rfl, ?_, ?_⟩, ?_⟩
  · have hb : ∀ W : World, W.heap[w.heap.size + 1]? = some (.cells #[.string { data := #[112] }, .string { data := #[97] }] 9 (0, 0)) → StrsAt W (some ⟨w.heap.size + 1, 0, none⟩) frPs := fun W h i s hs => by
      match i, hs with
      | 0, hs => cases hs; exact ⟨_, _, rfl, bk_cell h rfl, by decide⟩
      | 1, hs => cases hs; exact ⟨_, _, rfl, bk_cell h rfl, by decide⟩
    refine hb _ ?_
    repeat' (first | (with_reducible refine bk_new' _ ?_; simp; done) | with_reducible apply bk_old)
  · have hb : ∀ W : World, W.heap[w.heap.size + 1 + 1]? = some (.cells #[.string { data := #[98] }, .int .i64 0, .string { data := #[120, 115] }, .int .i64 3, .string { data := #[121, 115] }, .int .i64 70, .string { data := #[122, 115] }, .int .i64 (-4)] 88 (0, 0)) → DeclsAt W (some ⟨w.heap.size + 1 + 1, 0, none⟩) frDs := fun W h i s hs => by
      match i, hs with
      | 0, hs => cases hs; exact ⟨_, _, rfl, bk_cell h rfl, bk_cell h rfl, by decide⟩
      | 1, hs => cases hs; exact ⟨_, _, rfl, bk_cell h rfl, bk_cell h rfl, by decide⟩
      | 2, hs => cases hs; exact ⟨_, _, rfl, bk_cell h rfl, bk_cell h rfl, by decide⟩
      | 3, hs => cases hs; exact ⟨_, _, rfl, bk_cell h rfl, bk_cell h rfl, by decide⟩
    refine hb _ ?_
    repeat' (first | (with_reducible refine bk_new' _ ?_; simp; done) | with_reducible apply bk_old)
  · repeat' (first | with_reducible exact Below.refl _ _ | with_reducible refine Below.alloc ?_ ?_ _ | (simp; done) | (simp; omega))
theorem StrsAt.on {w w' : World} {a : Option Addr} {ps : List ByteArray} (h : StrsAt w a ps) (hb : Below w.heap.size w w') : StrsAt w' a ps := fun i s hs => by
  obtain ⟨b, o, e, h1, h2⟩ := h i s hs
  exact ⟨b, o, e, cellB hb h1, h2⟩
theorem DeclsAt.on {w w' : World} {a : Option Addr} {ds : List (ByteArray × Int)} (h : DeclsAt w a ds) (hb : Below w.heap.size w w') : DeclsAt w' a ds := fun i s hs => by
  obtain ⟨b, o, e, h1, h2, h3⟩ := h i s hs
  exact ⟨b, o, e, cellB hb h1, cellB hb h2, h3⟩
theorem newF {x y : Nat} {nm : ByteArray} {W : World} (hp : StrsAt W (some ⟨x, 0, none⟩) frPs) (hd : DeclsAt W (some ⟨y, 0, none⟩) frDs) {aa : Option Addr} {an ac : Nat} {zs : List Int} (hz : RowIn .i64 W aa an zs) (hl : zs.length = an) :
    Calls Tryz.prog 11 #[.agg #[.string nm, .slice (some ⟨x, 0, none⟩) 2 2, .slice (some ⟨y, 0, none⟩) 4 4, .slice none 0 0], .slice aa an ac] W fun e w' => (∃ E blk, e = .returned (.pointer (some ⟨E, 0, none⟩)) ∧ EnvIn W.heap.size E blk (frL zs) w') ∧ Below W.heap.size W w' :=
  new_any nm _ _ aa 2 4 ac an _ frPs frDs zs (by decide) (by decide) W hp hd hz hl
section
variable {B E : Nat} {blk : Nat → Nat} {L : List PC} {W : World}
theorem get_some (h : EnvIn B E blk L W) (s : ByteArray) (hs : s.size ≤ maxLen) {x : Int} (ho : getV L s.data.toList false 0 = some x) : Calls Tryz.prog 15 #[.pointer (some ⟨E, 0, none⟩), .string s] W fun e w' => e = .returned (.tuple #[.int .i64 x, .bool true]) ∧ w' = W := by
  have := get_any h s hs
  rw [ho] at this; exact this
theorem get_none (h : EnvIn B E blk L W) (s : ByteArray) (hs : s.size ≤ maxLen) (ho : getV L s.data.toList false 0 = none) : Calls Tryz.prog 15 #[.pointer (some ⟨E, 0, none⟩), .string s] W fun e w' => e = .returned (.tuple #[.int .i64 0, .bool false]) ∧ w' = W := by
  have := get_any h s hs
  rw [ho] at this; exact this
theorem at_some (h : EnvIn B E blk L W) (s : ByteArray) (hs : s.size ≤ maxLen) {i : Int} {x : Int} (ho : getV L s.data.toList true i = some x) : Calls Tryz.prog 19 #[.pointer (some ⟨E, 0, none⟩), .string s, .int .i64 i] W fun e w' => e = .returned (.tuple #[.int .i64 x, .bool true]) ∧ w' = W := by
  have := at_any h s hs i
  rw [ho] at this; exact this
theorem at_none (h : EnvIn B E blk L W) (s : ByteArray) (hs : s.size ≤ maxLen) {i : Int} (ho : getV L s.data.toList true i = none) : Calls Tryz.prog 19 #[.pointer (some ⟨E, 0, none⟩), .string s, .int .i64 i] W fun e w' => e = .returned (.tuple #[.int .i64 0, .bool false]) ∧ w' = W := by
  have := at_any h s hs i
  rw [ho] at this; exact this
theorem set_is (h : EnvIn B E blk L W) (s : ByteArray) (hs : s.size ≤ maxLen) {n : Int} (hn : in64 n) {o : Bool} (ho : (slot L s.data.toList false 0).isSome = o) {L' : List PC} (hL : setV L s.data.toList false 0 n = L') : Calls Tryz.prog 17 #[.pointer (some ⟨E, 0, none⟩), .string s, .int .i64 n] W fun e w' => e = .returned (.bool o) ∧ EnvIn B E blk L' w' ∧ Below B W w' ∧ (o = false → w' = W) := by
  subst ho; subst hL
  refine (set_any h s hs hn).mono ?_
  rintro e w' ⟨rfl, h1, h2, h3, h4⟩
  refine ⟨rfl, h1, h2, fun h5 => ?_⟩
  rcases h4 with ⟨-, h6⟩ | ⟨k, j, h6, -⟩
  · exact h6
  · rw [h6] at h5; cases h5
theorem put_is (h : EnvIn B E blk L W) (s : ByteArray) (hs : s.size ≤ maxLen) {i n : Int} (hn : in64 n) {o : Bool} (ho : (slot L s.data.toList true i).isSome = o) {L' : List PC} (hL : setV L s.data.toList true i n = L') : Calls Tryz.prog 21 #[.pointer (some ⟨E, 0, none⟩), .string s, .int .i64 i, .int .i64 n] W fun e w' => e = .returned (.bool o) ∧ EnvIn B E blk L' w' ∧ Below B W w' ∧ (o = false → w' = W) := by
  subst ho; subst hL
  refine (put_any' h s hs i hn).mono ?_
  rintro e w' ⟨rfl, h1, h2, h3, h4⟩
  refine ⟨rfl, h1, h2, fun h5 => ?_⟩
  rcases h4 with ⟨-, h6⟩ | ⟨k, j, h6, -⟩
  · exact h6
  · rw [h6] at h5; cases h5
theorem eval_is (h : EnvIn B E blk L W) {T : ET} {A : Nat} (hin : T.In W A) {x t : Int} (ho : evT L T = (x, t)) : ∀ w, Past W w → Calls Tryz.prog 24 #[.pointer (some ⟨E, 0, none⟩), .agg #[.int .i64 T.kind, .string T.op, .int .i64 T.n, .string T.name, .slice T.kaddr T.kids.length T.kcap]] w fun e w' => e = .returned (.tuple #[.int .i64 x, .int .i64 t]) ∧ Below w.heap.size w w' := by
  intro w hp
  have := eval_any h T (hin.mono (Nat.zero_le _)) w hp
  rw [ho, ET.val_is] at this
  exact this
theorem cells_is (h : EnvIn B E blk L W) {n : Nat} (hn : L.length = n) (hl : n ≤ 10000) : Calls Tryz.prog 28 #[.pointer (some ⟨E, 0, none⟩)] W fun e w' => ∃ ao cap, e = .returned (.slice ao n cap) ∧ Told W.heap.size blk L L.length (.slice ao n cap) w' ∧ Below W.heap.size W w' := by
  subst hn; exact cells_any h hl
theorem told_at {ao : Option Addr} {n cap k : Nat} {c : PC} (h : Told B blk L L.length (.slice ao n cap) W) (hk : L[k]? = some c) : ∃ g a2 c2, ao = some ⟨g, 0, none⟩ ∧ g < W.heap.size ∧ W.cell? ⟨g, k * 3 + 1, none⟩ = some (.bool c.arr) ∧ W.cell? ⟨g, k * 3 + 2, none⟩ = some (.slice a2 c.v.length c2) ∧ W.ownsRow B 2 1 (.slice a2 c.v.length c2) c.v.length (c.v.map (Value.int .i64)) := by
  obtain ⟨vs, r1, r2, -⟩ := h
  have hl := (List.getElem?_eq_some_iff.1 hk).1
  obtain ⟨ao', cap', e⟩ := own_form r1
  obtain ⟨rfl, rfl, rfl⟩ : ao = ao' ∧ n = L.length ∧ cap = cap' := by simpa using e
  rcases own_cells r1 with ⟨-, -, e0, -⟩ | ⟨g, rfl, hg, hcl⟩
  · omega
  obtain ⟨t0, t1, t2⟩ := toldRow_at vs L 0 k c hk
  rw [Nat.zero_add] at t2
  have h2 := (r2 k c hk hl).1
  obtain ⟨a2, c2, e2⟩ := own_form h2
  rw [e2] at h2 t2
  exact ⟨g, a2, c2, rfl, hg, hcl _ _ t1, hcl _ _ t2, h2⟩
end
theorem row1_in {W : World} {b : Nat} {z : Int} (h : W.heap[b]? = some (.cells #[.int .i64 z] 2 (0, 0))) (hz : in64 z) : RowIn .i64 W (some ⟨b, 0, none⟩) 1 [z] :=
  ⟨by decide, fun _ => ⟨b, 0, rfl, lt_of_block h, fun i hi => by
    obtain rfl : i = 0 := by omega
    exact ⟨bk_cell h rfl, WalkArith.wf_i64 hz⟩⟩⟩
theorem ev_of {L : List PC} {T : ET} {r : RE} {x : Int × Int} (h : T.re = r ∧ T.rightB = true) (he : evE L r = x) : evT L T = x := by
  unfold evT
  rw [if_pos h.2, h.1, he]
def exL1 : List PC := setV (frL [5]) [98] false 0 7
def exL2 : List PC := setV exL1 [120, 115] true 2 9
def xt1 : List UInt8 := [98, 32, 42, 32, 50, 32, 43, 32, 120, 115, 91, 50, 93, 32, 45, 32, 112]
def xr1 : RE := .bin [45] (.bin [43] (.bin [42] (.var [98]) (.num 2)) (.idx [120, 115] (.num 2))) (.var [112])
def xt2 : List UInt8 := [98, 32, 60, 32, 48, 32, 38, 38, 32, 49, 32, 47, 32, 48]
def xr2 : RE := .bin [38, 38] (.bin [60] (.var [98]) (.num 0)) (.bin [47] (.num 1) (.num 0))
def xt3 : List UInt8 := [120, 115, 91, 51, 93]
def xr3 : RE := .idx [120, 115] (.num 3)
theorem xe1 : ∃ mo, exprF 100 xt1 = .ok xr1 mo := ⟨1, by kernel_rfl⟩
theorem xe2 : ∃ mo, exprF 100 xt2 = .ok xr2 mo := ⟨0, by kernel_rfl⟩
theorem xe3 : ∃ mo, exprF 100 xt3 = .ok xr3 mo := ⟨1, by kernel_rfl⟩
theorem xv1 : evE exL2 xr1 = (18, 0) := by kernel_rfl
theorem xv2 : evE exL2 xr2 = (0, 0) := by kernel_rfl
theorem xv3 : evE exL2 xr3 = (0, 3) := by kernel_rfl
theorem xg1 : getV exL2 [97] false 0 = some 0 := by kernel_rfl
theorem xg2 : getV exL2 [120, 115] false 0 = none := by kernel_rfl
theorem xg3 : getV exL2 [121, 115] true 64 = none := by kernel_rfl
theorem xs1 : (slot (frL [5]) [98] false 0).isSome = true := by kernel_rfl
theorem xs2 : (slot exL1 [120, 115] true 2).isSome = true := by kernel_rfl
theorem xs3 : (slot exL2 [120, 115] false 0).isSome = false := by kernel_rfl
theorem xs4 : (slot exL2 [98] true 0).isSome = false := by kernel_rfl
theorem xl4 : exL2[4]? = some ⟨[121, 115], true, List.replicate 64 0⟩ := by kernel_rfl
theorem xl5 : exL2[5]? = some ⟨[122, 115], false, [0]⟩ := by kernel_rfl
theorem xll : exL2.length = 6 := by kernel_rfl
set_option maxHeartbeats 8000000 in
set_option maxRecDepth 100000 in
theorem ex_any {w : World} (H0 : Wo w) : Calls Tryz.prog 9 #[] w fun e w' => e = .returned (.bool true) ∧ Past w w' := by
  have HO := hid H0
  obtain ⟨m1, x1⟩ := xe1
  obtain ⟨m2, x2⟩ := xe2
  obtain ⟨m3, x3⟩ := xe3
  have X1 := hid x1
  have X2 := hid x2
  have X3 := hid x3
  clear H0 x1 x2 x3
  go_enter Tryz.func9, Tryz.ntmps9
  go_upto_region 6 with (first
    | (go_at_call 21; refine (put_is HE3.out sXs (by decide) (by decide) xs2 (L' := exL2) rfl).mono ?_; rintro e w4 ⟨rfl, hE, hb, -⟩; have HE4 := hid hE; have HB4 : Hid (Past w w4) := hid (HB3.out.1.trans (hb.mono HB3.out.2)); clear hE hb)
    | (go_at_call 17; refine (set_is HE2.out sB (by decide) (by decide) xs1 (L' := exL1) rfl).mono ?_; rintro e w3 ⟨rfl, hE, hb, -⟩; have HE3 := hid hE; have HB3 : Hid (Past w w3 ∧ _) := hid ⟨HB2.out.1.trans (hb.mono HB2.out.2), HB2.out.2⟩; clear hE hb)
    | (go_at_call 11; refine (newF (HS1.out.1.on ((Below.refl w1.heap.size w1).alloc (Nat.le_refl _) (.cells #[.int .i64 5] 2))) (HS1.out.2.on ((Below.refl w1.heap.size w1).alloc (Nat.le_refl _) (.cells #[.int .i64 5] 2))) (row1_in (bk_new w1 (.cells #[.int .i64 5] 2)) (by decide)) rfl).mono ?_; rintro e w2 ⟨⟨E, blk, rfl, hE⟩, hb⟩; have HE2 := hid hE; have HB2 : Hid (Past w w2 ∧ w.heap.size ≤ _) := hid ⟨(HB1.out.alloc (.cells #[.int .i64 5] 2)).on hb, Nat.le_trans HB1.out.size (World.grownBy_alloc w1 (.cells #[.int .i64 5] 2) none).size⟩; clear hE hb)
    | (go_at_call 10; refine (frame_any w).mono ?_; rintro e w1 ⟨⟨x, y, nm, rfl, hs, hd⟩, hb⟩; have HS1 := hid (And.intro hs hd); have HB1 : Hid (Past w w1) := hid hb; clear hs hd hb))
  go_upto_region 9 with (first
    | (go_at_call 31; refine (expr_fine (HO.out.on ((HB6.out.1).alloc (.cells #[.int .i64 T2.kind, .string T2.op, .int .i64 T2.n, .string T2.name, .slice T2.kaddr T2.kids.length T2.kcap] 26))) 100 _ (l := xt3) rfl (by decide) X3.out).mono ?_; rintro e w7 ⟨hb, T3, rfl, hT⟩; have HT3 := hid hT; have HB7 : Hid (Past w w7 ∧ Below w6.heap.size w6 w7 ∧ Below (w6.alloc (.cells #[.int .i64 T2.kind, .string T2.op, .int .i64 T2.n, .string T2.name, .slice T2.kaddr T2.kids.length T2.kcap] 26)).heap.size (w6.alloc (.cells #[.int .i64 T2.kind, .string T2.op, .int .i64 T2.n, .string T2.name, .slice T2.kaddr T2.kids.length T2.kcap] 26)) w7) := hid ⟨(HB6.out.1.alloc (.cells #[.int .i64 T2.kind, .string T2.op, .int .i64 T2.n, .string T2.name, .slice T2.kaddr T2.kids.length T2.kcap] 26)).on hb, stepB ((Below.refl w6.heap.size w6).alloc (Nat.le_refl _) (.cells #[.int .i64 T2.kind, .string T2.op, .int .i64 T2.n, .string T2.name, .slice T2.kaddr T2.kids.length T2.kcap] 26)) hb, hb⟩; clear hb hT)
    | (go_at_call 31; refine (expr_fine (HO.out.on ((HB5.out.1).alloc (.cells #[.int .i64 T1.kind, .string T1.op, .int .i64 T1.n, .string T1.name, .slice T1.kaddr T1.kids.length T1.kcap] 26))) 100 _ (l := xt2) rfl (by decide) X2.out).mono ?_; rintro e w6 ⟨hb, T2, rfl, hT⟩; have HT2 := hid hT; have HB6 : Hid (Past w w6 ∧ Below w5.heap.size w5 w6 ∧ Below (w5.alloc (.cells #[.int .i64 T1.kind, .string T1.op, .int .i64 T1.n, .string T1.name, .slice T1.kaddr T1.kids.length T1.kcap] 26)).heap.size (w5.alloc (.cells #[.int .i64 T1.kind, .string T1.op, .int .i64 T1.n, .string T1.name, .slice T1.kaddr T1.kids.length T1.kcap] 26)) w6) := hid ⟨(HB5.out.1.alloc (.cells #[.int .i64 T1.kind, .string T1.op, .int .i64 T1.n, .string T1.name, .slice T1.kaddr T1.kids.length T1.kcap] 26)).on hb, stepB ((Below.refl w5.heap.size w5).alloc (Nat.le_refl _) (.cells #[.int .i64 T1.kind, .string T1.op, .int .i64 T1.n, .string T1.name, .slice T1.kaddr T1.kids.length T1.kcap] 26)) hb, hb⟩; clear hb hT)
    | (go_at_call 31; refine (expr_fine (HO.out.on HB4.out) 100 _ (l := xt1) rfl (by decide) X1.out).mono ?_; rintro e w5 ⟨hb, T1, rfl, hT⟩; have HT1 := hid hT; have HB5 : Hid (Past w w5 ∧ Below w4.heap.size w4 w5) := hid ⟨HB4.out.on hb, hb⟩; clear hb hT))
  have hsz := xll
  have HLL := hid hsz
  clear hsz
  have hw : Past w (w7.alloc (.cells #[.int .i64 T3.kind, .string T3.op, .int .i64 T3.n, .string T3.name, .slice T3.kaddr T3.kids.length T3.kcap] 26)) := HB7.out.1.alloc (.cells #[.int .i64 T3.kind, .string T3.op, .int .i64 T3.n, .string T3.name, .slice T3.kaddr T3.kids.length T3.kcap] 26)
  have h7 : Below w7.heap.size w7 (w7.alloc (.cells #[.int .i64 T3.kind, .string T3.op, .int .i64 T3.n, .string T3.name, .slice T3.kaddr T3.kids.length T3.kcap] 26)) := (Below.refl _ _).alloc (Nat.le_refl _) _
  have h6 : Below w6.heap.size w6 (w7.alloc (.cells #[.int .i64 T3.kind, .string T3.op, .int .i64 T3.n, .string T3.name, .slice T3.kaddr T3.kids.length T3.kcap] 26)) := stepB HB7.out.2.1 h7
  have h5 : Below w5.heap.size w5 (w7.alloc (.cells #[.int .i64 T3.kind, .string T3.op, .int .i64 T3.n, .string T3.name, .slice T3.kaddr T3.kids.length T3.kcap] 26)) := stepB HB6.out.2.1 h6
  have h4 : Below w4.heap.size w4 (w7.alloc (.cells #[.int .i64 T3.kind, .string T3.op, .int .i64 T3.n, .string T3.name, .slice T3.kaddr T3.kids.length T3.kcap] 26)) := stepB HB5.out.2 h5
  have b3 := cells5 (bk_new w7 (.cells #[.int .i64 T3.kind, .string T3.op, .int .i64 T3.n, .string T3.name, .slice T3.kaddr T3.kids.length T3.kcap] 26))
  have b2 := box5 (bk_new w6 (.cells #[.int .i64 T2.kind, .string T2.op, .int .i64 T2.n, .string T2.name, .slice T2.kaddr T2.kids.length T2.kcap] 26)) (stepB HB7.out.2.2 h7)
  have b1 := box5 (bk_new w5 (.cells #[.int .i64 T1.kind, .string T1.op, .int .i64 T1.n, .string T1.name, .slice T1.kaddr T1.kids.length T1.kcap] 26)) (stepB HB6.out.2.2 h6)
  have hE := HE4.out.on h4
  have i1 := HT1.out.2.2.on h5
  have i2 := HT2.out.2.2.on h6
  have i3 := HT3.out.2.2.on h7
  have V1 := hid (eval_is hE i1 (ev_of ⟨HT1.out.1, HT1.out.2.1⟩ xv1))
  have V2 := hid (eval_is hE i2 (ev_of ⟨HT2.out.1, HT2.out.2.1⟩ xv2))
  have V3 := hid (eval_is hE i3 (ev_of ⟨HT3.out.1, HT3.out.2.1⟩ xv3))
  have hB : w.heap.size ≤ (w1.alloc (.cells #[.int .i64 5] 2)).heap.size := HB3.out.2
  have HEB := hid (And.intro hE hB)
  have G1 := hid (fun W hW => get_some (hE.past (w' := W) hW) { data := #[97] } (by decide) xg1)
  have G2 := hid (fun W hW => get_none (hE.past (w' := W) hW) { data := #[120, 115] } (by decide) xg2)
  have HW := hid hw
  clear hE hw h7 h6 h5 h4 i1 i2 i3 hB HB7 HB6 HB5 HB4 HB3 HB2 HB1 HS1 HE4 HE3 HE2 HT1 HT2 HT3 X1 X2 X3 HO
  generalize w7.alloc (.cells #[.int .i64 T3.kind, .string T3.op, .int .i64 T3.n, .string T3.name, .slice T3.kaddr T3.kids.length T3.kcap] 26) = wb at *
  generalize w7.heap.size = q3 at *
  generalize w6.heap.size = q2 at *
  generalize w5.heap.size = q1 at *
  have HX : Hid (∀ W, Past wb W → (W.cell? ⟨q1, 0, none⟩ = some (.int .i64 T1.kind) ∧ W.cell? ⟨q1, 1, none⟩ = some (.string T1.op) ∧ W.cell? ⟨q1, 2, none⟩ = some (.int .i64 T1.n) ∧ W.cell? ⟨q1, 3, none⟩ = some (.string T1.name) ∧ W.cell? ⟨q1, 4, none⟩ = some (.slice T1.kaddr T1.kids.length T1.kcap)) ∧ (W.cell? ⟨q2, 0, none⟩ = some (.int .i64 T2.kind) ∧ W.cell? ⟨q2, 1, none⟩ = some (.string T2.op) ∧ W.cell? ⟨q2, 2, none⟩ = some (.int .i64 T2.n) ∧ W.cell? ⟨q2, 3, none⟩ = some (.string T2.name) ∧ W.cell? ⟨q2, 4, none⟩ = some (.slice T2.kaddr T2.kids.length T2.kcap)) ∧ (W.cell? ⟨q3, 0, none⟩ = some (.int .i64 T3.kind) ∧ W.cell? ⟨q3, 1, none⟩ = some (.string T3.op) ∧ W.cell? ⟨q3, 2, none⟩ = some (.int .i64 T3.n) ∧ W.cell? ⟨q3, 3, none⟩ = some (.string T3.name) ∧ W.cell? ⟨q3, 4, none⟩ = some (.slice T3.kaddr T3.kids.length T3.kcap))) := hid fun W hW => ⟨⟨cellB hW b1.1, cellB hW b1.2.1, cellB hW b1.2.2.1, cellB hW b1.2.2.2.1, cellB hW b1.2.2.2.2⟩, ⟨cellB hW b2.1, cellB hW b2.2.1, cellB hW b2.2.2.1, cellB hW b2.2.2.2.1, cellB hW b2.2.2.2.2⟩, cellB hW b3.1, cellB hW b3.2.1, cellB hW b3.2.2.1, cellB hW b3.2.2.2.1, cellB hW b3.2.2.2.2⟩
  clear b1 b2 b3
  obtain ⟨⟨x10, x11, x12, x13, x14⟩, ⟨x20, x21, x22, x23, x24⟩, ⟨x30, x31, x32, x33, x34⟩⟩ := HX.out _ (Past.refl wb)
  go_wp2_with (first
    | (go_at_call 21; refine (put_is (HEB.out.1.past HP4.out) sB (by decide) (by decide) xs4 rfl).mono ?_; rintro e w13 ⟨rfl, -, -, hq⟩; obtain rfl := hq rfl; clear hq)
    | (go_at_call 17; refine (set_is (HEB.out.1.past HP4.out) sXs (by decide) (by decide) xs3 rfl).mono ?_; rintro e w12 ⟨rfl, -, -, hq⟩; obtain rfl := hq rfl; clear hq)
    | (go_at_call 28; refine (cells_is (HEB.out.1.past HP3.out) HLL.out (by decide)).mono ?_; rintro e w11 ⟨ao, cap, rfl, hT, hb⟩; obtain ⟨g, a2, c2, rfl, hg, -, z4, -⟩ := told_at hT xl4; obtain ⟨g', a3, c3, hgg, -, z5, -, -⟩ := told_at hT xl5; cases hgg; have HP4 : Hid (Past wb w11) := hid (stepB HP3.out hb); have y4 : w11.cell? ⟨g, 14, none⟩ = some (.slice a2 64 c2) := z4; have y5 : w11.cell? ⟨g, 16, none⟩ = some (.bool false) := z5; clear z4 z5 hT hb)
    | (go_at_call 19; refine (at_none (HEB.out.1.past HP3.out) sYs (by decide) xg3).mono ?_; rintro e wk ⟨rfl, rfl⟩)
    | (go_at_call 15; ((with_reducible refine (G2.out _ HP3.out).mono ?_); rintro e wk ⟨rfl, rfl⟩))
    | (go_at_call 15; ((with_reducible refine (G1.out _ HP3.out).mono ?_); rintro e wk ⟨rfl, rfl⟩))
    | (go_at_call 24; refine (V3.out _ HP2.out).mono ?_; rintro e w10 ⟨rfl, hb⟩; have HP3 : Hid (Past wb w10) := hid (stepB HP2.out hb); clear hb; obtain ⟨⟨x10, x11, x12, x13, x14⟩, ⟨x20, x21, x22, x23, x24⟩, ⟨x30, x31, x32, x33, x34⟩⟩ := HX.out _ HP3.out)
    | (go_at_call 24; refine (V2.out _ HP1.out).mono ?_; rintro e w9 ⟨rfl, hb⟩; have HP2 : Hid (Past wb w9) := hid (stepB HP1.out hb); clear hb; obtain ⟨⟨x10, x11, x12, x13, x14⟩, ⟨x20, x21, x22, x23, x24⟩, ⟨x30, x31, x32, x33, x34⟩⟩ := HX.out _ HP2.out)
    | (go_at_call 24; refine (V1.out _ (Past.refl wb)).mono ?_; rintro e w8 ⟨rfl, hb⟩; have HP1 : Hid (Past wb w8) := hid hb; clear hb; obtain ⟨⟨x10, x11, x12, x13, x14⟩, ⟨x20, x21, x22, x23, x24⟩, ⟨x30, x31, x32, x33, x34⟩⟩ := HX.out _ HP1.out))
  go_ret
  exact ⟨rfl, stepB HW.out HP4.out⟩
end Go.Proofs.YtdaklmbifkehpaaGreatDoor.Ev
