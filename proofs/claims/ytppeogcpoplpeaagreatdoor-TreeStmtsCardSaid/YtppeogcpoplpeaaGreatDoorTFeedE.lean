/- An expression of the feed: right, of a bounded text, in new blocks. -/
import Derived.Test.YtppeogcpoplpeaaGreatDoorTFeed
import Derived.Test.YtppeogcpoplpeaaGreatDoorTExpr4
set_option linter.unusedSimpArgs false
set_option linter.unusedVariables false
namespace Go.Proofs.YtppeogcpoplpeaaGreatDoor
open Go Go.RowKit

def ExprPost (F : FeedC) (B f d : Nat) (left tag : Int) (w : World) (e : Ending) (w' : World) : Prop := ∃ (T : ET) (q : Nat), e = .returned T.val ∧ GE d T ∧ T.In w' w.heap.size ∧ Fd F B f q left tag w' ∧ w.grownBy w' (some f)
/-- Which name the byte v asks for. -/
theorem pick_name {B f ia : Nat} {ns : List ByteArray} {w : World} (h : NamesIn B f ia ns w) {v : Int} (v0 : 0 ≤ v) : ∃ (k n : Nat) (s : ByteArray), ns.length = n ∧ 0 < n ∧ n ≤ 10 ∧ k < n ∧ v / 16 % n = k ∧ ns.getD k mE = s ∧ nmB s = true ∧ w.cell? ⟨ia, k, none⟩ = some (.string s) := by
  obtain ⟨-, -, ⟨h0, h1⟩, hc⟩ := h
  refine ⟨(v / 16 % ns.length).toNat, ns.length, _, rfl, h0, h1, ?_, ?_, rfl, ?_⟩
  · have := Int.emod_lt_of_pos (v / 16) (b := ns.length) (by omega)
    have := Int.emod_nonneg (v / 16) (b := ns.length) (by omega)
    omega
  · have := Int.emod_nonneg (v / 16) (b := ns.length) (by omega)
    omega
  · have := Int.emod_lt_of_pos (v / 16) (b := ns.length) (by omega)
    have := Int.emod_nonneg (v / 16) (b := ns.length) (by omega)
    exact ⟨(hc _ (by omega)).2, (hc _ (by omega)).1⟩
/-- The numbers of an expression of the feed. -/
def fnums : List Int := [0, 1, 2, 3, -1, 5, 7, -9223372036854775808, 64, 9223372036854775807]
def fnum (v : Int) : Int := fnums.getD (v / 16 % 10).toNat 0
theorem fnum_in (v : Int) : -9223372036854775808 ≤ fnum v ∧ fnum v ≤ 9223372036854775807 := by
  have : ∀ k : Fin 10, -9223372036854775808 ≤ fnums.getD k.val 0 ∧ fnums.getD k.val 0 ≤ 9223372036854775807 := by decide
  exact this ⟨(v / 16 % 10).toNat, by omega⟩
theorem fnum_cell (w : World) (v : Int) : (w.alloc (.cells #[.int .i64 0, .int .i64 1, .int .i64 2, .int .i64 3, .int .i64 (-1), .int .i64 5, .int .i64 7, .int .i64 (-9223372036854775808), .int .i64 64, .int .i64 9223372036854775807] 2)).cell? ⟨w.heap.size, (v / 16 % 10).toNat, none⟩ = some (.int .i64 (fnum v)) := by
  refine bk_cell (bk_new _ _) ?_
  have : ∀ k : Fin 10, (#[.int .i64 0, .int .i64 1, .int .i64 2, .int .i64 3, .int .i64 (-1), .int .i64 5, .int .i64 7, .int .i64 (-9223372036854775808), .int .i64 64, .int .i64 9223372036854775807] : Array Value)[k.val]? = some (.int .i64 (fnums.getD k.val 0)) := by
    intro k
    match k with
    | ⟨0, _⟩ => rfl
    | ⟨1, _⟩ => rfl
    | ⟨2, _⟩ => rfl
    | ⟨3, _⟩ => rfl
    | ⟨4, _⟩ => rfl
    | ⟨5, _⟩ => rfl
    | ⟨6, _⟩ => rfl
    | ⟨7, _⟩ => rfl
    | ⟨8, _⟩ => rfl
    | ⟨9, _⟩ => rfl
  exact this ⟨(v / 16 % 10).toNat, by omega⟩
/-- The operations of one expression, of two. -/
def uopl : List ByteArray := [{ data := #[45] }, { data := #[126] }, { data := #[33] }]
def uopN (k : Nat) : ByteArray := uopl.getD k mE
abbrev uopC : Array Value := #[.string { data := #[45] }, .string { data := #[126] }, .string { data := #[33] }]
theorem uopC_at : ∀ k, k < 3 → uopC[k]? = some (.string (uopN k))
  | 0, _ => rfl
  | 1, _ => rfl
  | 2, _ => rfl
theorem uopN_un : ∀ k, k < 3 → unB (uopN k) = true
  | 0, _ => rfl
  | 1, _ => rfl
  | 2, _ => rfl
theorem pick_uop {v : Int} (v0 : 0 ≤ v) : ∃ k : Nat, k < 3 ∧ v / 16 % 3 = k := ⟨(v / 16 % 3).toNat, by omega, by omega⟩
def bopl : List ByteArray := [{ data := #[124, 124] }, { data := #[38, 38] }, { data := #[124] }, { data := #[94] }, { data := #[38] }, { data := #[61, 61] }, { data := #[33, 61] }, { data := #[60] }, { data := #[60, 61] }, { data := #[62] }, { data := #[62, 61] }, { data := #[60, 60] }, { data := #[62, 62] }, { data := #[43] }, { data := #[45] }, { data := #[42] }, { data := #[47] }, { data := #[37] }, { data := #[60] }, { data := #[43] }, { data := #[45] }, { data := #[61, 61] }]
def bopN (k : Nat) : ByteArray := bopl.getD k mE
abbrev bopC : Array Value := #[.string { data := #[124, 124] }, .string { data := #[38, 38] }, .string { data := #[124] }, .string { data := #[94] }, .string { data := #[38] }, .string { data := #[61, 61] }, .string { data := #[33, 61] }, .string { data := #[60] }, .string { data := #[60, 61] }, .string { data := #[62] }, .string { data := #[62, 61] }, .string { data := #[60, 60] }, .string { data := #[62, 62] }, .string { data := #[43] }, .string { data := #[45] }, .string { data := #[42] }, .string { data := #[47] }, .string { data := #[37] }, .string { data := #[60] }, .string { data := #[43] }, .string { data := #[45] }, .string { data := #[61, 61] }]
theorem bopC_is : bopC = (bopl.map Value.string).toArray := rfl
theorem bopC_at (k : Nat) (h : k < 22) : bopC[k]? = some (.string (bopN k)) := by
  have hl : k < bopl.length := h
  rw [bopC_is, List.getElem?_toArray, List.getElem?_map, List.getElem?_eq_getElem hl]
  simp only [Option.map_some, bopN, List.getD_eq_getElem?_getD, List.getElem?_eq_getElem hl, Option.getD_some]
theorem bopN_lev (k : Nat) (h : k < 22) : 0 < levelV (bopN k) := by
  have : ∀ k : Fin 22, 0 < levelV (bopN k.val) := by decide +kernel
  exact this ⟨k, h⟩
theorem num_in {n : Int} (h : -9223372036854775808 ≤ n ∧ n ≤ 9223372036854775807) (w : World) (B : Nat) : (ET.mk 0 mE n mE none 0 []).In w B := by
  rw [ET.In, EsIn]
  exact ⟨h, by simp, trivial⟩
theorem var_in (s : ByteArray) (w : World) (B : Nat) : (ET.mk 1 mE 0 s none 0 []).In w B := by
  rw [ET.In, EsIn]
  exact ⟨by decide, by simp, trivial⟩
theorem keep_of_grown {w w' : World} {R A : Nat} (hg : w.grownBy w' (some R)) (hR : R < A) : ∀ p v, A ≤ p.block → w.cell? p = some v → w'.cell? p = some v := fun p v hp hc => by
  rw [World.cell?_of_block (w := w) (hg.block p.block (World.block_lt_of_cell? w p hc) (by simp; omega))]
  exact hc
/-- The cells of one kid, of two. -/
abbrev five (T : ET) : Array Value := #[.int .i64 T.kind, .string T.op, .int .i64 T.n, .string T.name, .slice T.kaddr T.kids.length T.kcap]
theorem kid_in {wx w' : World} {A R : Nat} {T : ET} (h : T.In wx A) (hx : A ≤ wx.heap.size) (hR : R < A) (hA : (wx.alloc (.cells (five T) 30)).grownBy w' (some R)) (k : Int) (o s : ByteArray) : (ET.mk k o 0 s (some ⟨wx.heap.size, 0, none⟩) 1 [T]).In w' R := by
  have h1 : T.In w' R := ((h.on ((Below.refl _ _).alloc (Nat.le_refl _) _)).keep (keep_of_grown hA hR)).mono (Nat.le_of_lt hR)
  have h2 : w'.heap[wx.heap.size]? = some (.cells (five T) 30 (0, 0)) := (hA.block _ (by simp) (by simp; omega)).trans (bk_new _ _)
  rw [ET.In, EsIn, EsIn]
  refine ⟨by decide, by simp, ⟨wx.heap.size, 0, rfl, by omega, fun j v hj => bk_cell h2 ?_⟩, h1, trivial⟩
  rw [ET.cells_is] at hj
  rw [show 0 + 0 * 5 + j = j by omega]
  exact hj
section
variable {F : FeedC} {B f : Nat} {left tag : Int}
set_option maxHeartbeats 2000000 in
set_option maxRecDepth 100000 in
theorem feedE_zero (p : Nat) (w : World) (h : Fd F B f p left tag w) : Calls Tryz.prog 33 #[.pointer (some ⟨f, 0, none⟩), .int .i64 0] w (ExprPost F B f 0 left tag w) := by
  have HB : f < w.heap.size := by have := h.lt; have := h.size; omega
  have H := Lib.hid h
  clear h
  go_enter Tryz.func33, Tryz.ntmps33
  go_wp2_with (go_at_call 61; have hx := next_any (H.out.alloc (.cells #[.int .i64 0, .string { data := #[] }, .int .i64 0, .string { data := #[] }, .slice none 0 0] 30)); refine hx.mono ?_; clear hx; rintro e w1 ⟨v, q, rfl, ⟨v0, v1⟩, h1, hg1⟩; have hR := (hg1.block w.heap.size (by simp) (by simp; omega)).trans (bk_new w _); have hn := fnum_cell w1 v; obtain ⟨r0, r1, r2, r3, r4⟩ := cells5 hR; have z0 := bk_free (k := 0) hR; have z1 := bk_free (k := 1) hR; have z2 := bk_free (k := 2) hR; have z3 := bk_free (k := 3) hR; have z4 := bk_free (k := 4) hR; have HR := Lib.hid hR; have H1 := Lib.hid h1; have HG1 := Lib.hid hg1; have hlt : w.heap.size < w1.heap.size := lt_of_block hR; clear h1 hg1 hR)
  · refine bodyPost_ret (v := .agg #[.int .i64 0, .string { data := #[] }, .int .i64 (fnum v), .string { data := #[] }, .slice none 0 0]) (by simp [results, Tryz.results33, go_sem, *]) rfl ?_
    refine ⟨.mk 0 mE (fnum v) mE none 0 [], q, rfl, ge_num 0 _ (fnum_in v) _ _, num_in (fnum_in v) _ _, ?_, ?_⟩
    · clear hn
      have hBR := H.out.size
      have h1 := H1.out
      repeat (first | with_reducible exact h1 | with_reducible refine Fd.far ?_ hBR _ _ | with_reducible refine Fd.drew ?_ | with_reducible refine Fd.drewN ?_ _ | with_reducible refine Fd.alloc ?_ _)
    · clear hn
      have h0 := grown_trans (World.grownBy_alloc w _ (some f)) HG1.out
      repeat (first | with_reducible exact h0 | with_reducible refine grown_new ?_ (Nat.le_refl _) _ _ | with_reducible refine grown_drew ?_ | with_reducible refine grown_drewN ?_ _ | with_reducible refine grown_alloc ?_ _)
  · obtain ⟨k, n, s, hn0, hn1, hn2, hk, hv, hs, hnm, hc⟩ := pick_name H1.out.ints v0
    have c2 := H1.out.c2
    rw [hn0] at c2
    have HS := Lib.hid hnm
    clear hn0 hs hnm hn
    have t1 : (v.tdiv 16).tmod n = k := by rw [← hv, Int.tdiv_eq_ediv_of_nonneg v0, Int.tmod_eq_emod_of_nonneg (by omega)]
    have t2 : (v / 16).tmod n = k := by rw [← hv, Int.tmod_eq_emod_of_nonneg (by omega)]
    have ne1 : ¬ w.heap.size = f := by omega
    have ne2 : ¬ w.heap.size = F.ia := by have := H1.out.ints.1; have := H1.out.ints.2.1; have := H.out.size; omega
    have n0 : ((n : Int) == 0) = false := by simp; omega
    have u1 : IntKind.i64.wrap (v.tdiv 16) = v / 16 := by rw [Int.tdiv_eq_ediv_of_nonneg v0]; exact IntWalk.i64_in _ (by omega)
    have u3 : (IntKind.i64.wrap (v.tdiv 16)).tmod n = k := by rw [u1]; exact t2
    have u4 : IntKind.i64.wrap (v / 16) = v / 16 := IntWalk.i64_in _ (by omega)
    have n3 : (n == 0) = false := by simp; omega
    have n4 : ¬ n = 0 := by omega
    have n5 : (0 : Int) < n := by omega
    have k0 : (0 : Int) ≤ k := by omega
    have k1 : (k : Int) < n := by omega
    go_region_held3 (fun w' => w'.cell? ⟨f, 2, none⟩ = some (.slice (some ⟨F.ia, 0, none⟩) n n) ∧ w'.cell? ⟨F.ia, k, none⟩ = some (.string s)) (go_keep) (fail)
    go_wp2
    refine bodyPost_ret (v := .agg #[.int .i64 1, .string { data := #[] }, .int .i64 0, .string s, .slice none 0 0]) (by simp [results, Tryz.results33, go_sem, *]) rfl ?_
    refine ⟨.mk 1 mE 0 s none 0 [], q, rfl, ge_var 0 HS.out _ _, var_in _ _ _, ?_, ?_⟩
    · skip
      have hBR := H.out.size
      have h1 := H1.out
      repeat (first | with_reducible exact h1 | with_reducible refine Fd.far ?_ hBR _ _ | with_reducible refine Fd.drew ?_ | with_reducible refine Fd.drewN ?_ _ | with_reducible refine Fd.alloc ?_ _)
    · skip
      have h0 := grown_trans (World.grownBy_alloc w _ (some f)) HG1.out
      repeat (first | with_reducible exact h0 | with_reducible refine grown_new ?_ (Nat.le_refl _) _ _ | with_reducible refine grown_drew ?_ | with_reducible refine grown_drewN ?_ _ | with_reducible refine grown_alloc ?_ _)
/-- An expression that a call of the feed has made, in blocks of the call's own behind block R. -/
def Kid (F : FeedC) (B f d : Nat) (left tag : Int) (w w2 : World) (T : ET) : Prop := GE d T ∧ (∃ q, Fd F B f q left tag w2) ∧ w.grownBy w2 (some f) ∧ ∃ A, w.heap.size < A ∧ A ≤ w2.heap.size ∧ T.In w2 A
theorem kid_of {w w0 w2 : World} {d q : Nat} {T : ET} (hT : GE d T) (h2 : Fd F B f q left tag w2) (hg : w.grownBy w0 (some f)) (hg2 : w0.grownBy w2 (some f)) (hin : T.In w2 w0.heap.size) (h0 : w.heap.size < w0.heap.size) : Kid F B f d left tag w w2 T :=
  ⟨hT, ⟨q, h2⟩, grown_trans hg hg2, w0.heap.size, h0, hg2.size, hin⟩
theorem one_post {w w2 wx : World} {d g : Nat} {T : ET} {k : Int} {o s : ByteArray} (hk : Kid F B f d left tag w w2 T) (hB : B ≤ w.heap.size)
    (hU : GE (d + 1) (.mk k o 0 s (some ⟨g, 0, none⟩) 1 [T])) (hx : w2.grownBy wx (some w.heap.size)) (hgx : wx.heap.size = g) : ExprPost F B f (d + 1) left tag w (.returned (.agg #[.int .i64 k, .string o, .int .i64 0, .string s, .slice (some ⟨g, 0, none⟩) 1 1])) (wx.alloc (.cells (five T) 30)) := by
  subst hgx
  obtain ⟨-, ⟨q, h2⟩, hg, A, h0, h0', hin⟩ := hk
  have h3 := grown_trans hx (World.grownBy_alloc wx (.cells (five T) 30) _)
  refine ⟨_, q, rfl, hU, kid_in (hin.keep (keep_of_grown hx h0)) (Nat.le_trans h0' hx.size) h0 (grown_refl _ _) k o s, h2.grownR hB h3, ?_⟩
  exact ⟨h3.os.trans hg.os, h3.tape.trans hg.tape, h3.output.trans hg.output, Nat.le_trans hg.size h3.size, fun i hi hr => (h3.block i (Nat.lt_of_lt_of_le hi hg.size) (by simp; omega)).trans (hg.block i hi hr)⟩
theorem post_alloc {w w' : World} {d : Nat} {e : Ending} (h : ExprPost F B f d left tag w e w') (o : Obj) : ExprPost F B f d left tag w e (w'.alloc o) := by
  obtain ⟨T, q, he, hT, hin, h2, hg⟩ := h
  exact ⟨T, q, he, hT, hin.on ((Below.refl _ _).alloc (Nat.le_refl _) _), h2.alloc _, grown_alloc hg _⟩
theorem post_drew {w w' : World} {d : Nat} {e : Ending} (h : ExprPost F B f d left tag w e w') : ExprPost F B f d left tag w e w'.drew := by
  obtain ⟨T, q, he, hT, hin, h2, hg⟩ := h
  exact ⟨T, q, he, hT, hin.on (Below.refl _ _).drew, h2.drew, grown_drew hg⟩
end
end Go.Proofs.YtppeogcpoplpeaaGreatDoor
