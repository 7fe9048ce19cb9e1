/- How long what the feed makes is put: right expressions and statements, and bounds of their texts. No walk stands in this text. The feed of billhooklaw07: a block that holds bytes, where it stands in them, names, how many statements there may be more; the next byte. An expression of the feed: right, of a bounded text, in new blocks. An expression of the feed, deeper: its parts by the contract for less deep ones. Any expression of the feed; a feed that has just been made, over bytes that came in. A list of statements that a loop appends to: its row, and its statements' parts, which lie elsewhere. No walk stands in this text. A statement of the feed: what its walk keeps, from call to call; the next byte, told. -/
import Derived.Test.YtdaklmbifkehpaaGreatDoorTMade
import Derived.Deep.RegionHeld3
import Derived.Test.YtdaklmbifkehpaaGreatDoorTStW4
set_option linter.unusedSimpArgs false
set_option linter.unusedVariables false
namespace Go.Proofs.YtdaklmbifkehpaaGreatDoor
open Go Go.RowKit
open Go.Lib (hid)
open Go.Lib (decDigits itoa)
open Go.Lib (hid)

def LE : Nat → Nat
  | 0 => 24
  | d + 1 => 2 * LE d + 12
theorem LE_ge : ∀ d, 24 ≤ LE d
  | 0 => Nat.le_refl _
  | d + 1 => by have := LE_ge d; rw [LE]; omega
theorem itoa_len (n : Int) (h : -9223372036854775808 ≤ n ∧ n ≤ 9223372036854775807) : (itoa n).length ≤ 24 := by
  unfold itoa
  split
  · have := dec_len n.natAbs (by omega)
    simp only [List.length_cons]; omega
  · have := dec_len n.toNat (by omega)
    omega
theorem inBr_len (b : Bool) (l : List UInt8) : (inBr b l).length ≤ l.length + 2 := by
  cases b <;> simp [inBr]
theorem nmB_len {m : ByteArray} (h : nmB m = true) : m.data.toList.length ≤ 24 := by
  simp only [nmB, nameOk, Bool.and_eq_true, decide_eq_true_eq] at h
  exact h.1.1.1.2
theorem op_len {o : ByteArray} (h : 0 < levelV o) : o.data.toList.length ≤ 2 := by
  have h1 := level_op h
  have h2 : ops18.all (fun l => decide (l.length ≤ 2)) = true := by decide
  rw [List.contains_iff_mem] at h1
  have := List.all_eq_true.1 h2 _ h1
  simpa using this

structure GE (d : Nat) (T : ET) : Prop where
  right : T.rightB = true
  len : (putR levL T.re).length ≤ LE d
  dep : T.re.dep ≤ d
theorem GE.up {d : Nat} {T : ET} (h : GE d T) : GE (d + 1) T := ⟨h.right, by have := h.len; rw [LE]; omega, by have := h.dep; omega⟩
theorem ge_num (d : Nat) (n : Int) (h : -9223372036854775808 ≤ n ∧ n ≤ 9223372036854775807) (a : Option Addr) (c : Nat) : GE d (.mk 0 mE n mE a c []) :=
  ⟨by simp [ET.rightB, rightEs, formedC], by show (itoa n).length ≤ _; have := itoa_len n h; have := LE_ge d; omega, Nat.zero_le _⟩
theorem ge_var (d : Nat) {m : ByteArray} (h : nmB m = true) (a : Option Addr) (c : Nat) : GE d (.mk 1 mE 0 m a c []) :=
  ⟨by simp [ET.rightB, rightEs, formedC, namesC, h], by show (m.data.toList).length ≤ _; have := nmB_len h; have := LE_ge d; omega, Nat.zero_le _⟩
theorem ge_idx {d : Nat} {m : ByteArray} (h : nmB m = true) {T : ET} (hT : GE d T) (a : Option Addr) (c : Nat) : GE (d + 1) (.mk 2 mE 0 m a c [T]) :=
  ⟨by simp [ET.rightB, rightEs, formedC, namesC, h, hT.right], by
    show (m.data.toList ++ 91 :: (putR levL T.re ++ [93])).length ≤ _
    have := nmB_len h
    have := hT.len
    have := LE_ge d
    simp only [List.length_append, List.length_cons, List.length_nil, LE]; omega, Nat.succ_le_succ hT.dep⟩
theorem ge_un {d : Nat} {o : ByteArray} (h : unB o = true) {T : ET} (hT : GE d T) (a : Option Addr) (c : Nat) : GE (d + 1) (.mk 3 o 0 mE a c [T]) :=
  ⟨by simp [ET.rightB, rightEs, formedC, reckC, h, hT.right], by
    show ((o.data.toList.headD 0) :: inBr (unBr (o.data.toList.headD 0) T.re) (putR levL T.re)).length ≤ _
    have := inBr_len (unBr (o.data.toList.headD 0) T.re) (putR levL T.re)
    have := hT.len
    simp only [List.length_cons, LE]; omega, Nat.succ_le_succ hT.dep⟩
theorem ge_bin {d : Nat} {o : ByteArray} (h : 0 < levelV o) {T U : ET} (hT : GE d T) (hU : GE d U) (a : Option Addr) (c : Nat) : GE (d + 1) (.mk 4 o 0 mE a c [T, U]) :=
  ⟨by simp [ET.rightB, rightEs, formedC, reckC, h, hT.right, hU.right], by
    show (inBr (T.re.lower levL (levL o.data.toList)) (putR levL T.re) ++ 32 :: (o.data.toList ++ 32 :: inBr (U.re.lower levL (levL o.data.toList + 1)) (putR levL U.re))).length ≤ _
    have := inBr_len (T.re.lower levL (levL o.data.toList)) (putR levL T.re)
    have := inBr_len (U.re.lower levL (levL o.data.toList + 1)) (putR levL U.re)
    have := hT.len
    have := hU.len
    have := op_len h
    simp only [List.length_append, List.length_cons, LE]; omega, Nat.succ_le_succ (Nat.max_le.2 ⟨hT.dep, hU.dep⟩)⟩
section
variable {t : Int} (h0 : 0 ≤ t) (h1 : t ≤ 1000000)
include h0 h1
end
end Go.Proofs.YtdaklmbifkehpaaGreatDoor

set_option linter.unusedSimpArgs false
set_option linter.unusedVariables false
namespace Go.Proofs.YtdaklmbifkehpaaGreatDoor
open Go Go.RowKit
open Go.Lib (hid)

structure FeedC where
  la : Option Addr
  len : Nat
  cap : Nat
  zs : List Int
  ia : Nat
  ns : List ByteArray
  xa : Nat
  ms : List ByteArray
  main : Bool
def NamesIn (B f ia : Nat) (ns : List ByteArray) (w : World) : Prop := ia < B ∧ ia ≠ f ∧ (0 < ns.length ∧ ns.length ≤ 10) ∧ ∀ i, i < ns.length → w.cell? ⟨ia, i, none⟩ = some (.string (ns.getD i mE)) ∧ nmB (ns.getD i mE) = true
theorem NamesIn.grown {B f ia : Nat} {ns : List ByteArray} {w w' : World} (h : NamesIn B f ia ns w) (hs : B ≤ w.heap.size) (hg : w.grownBy w' (some f)) : NamesIn B f ia ns w' :=
  ⟨h.1, h.2.1, h.2.2.1, fun i hi => ⟨by
    have h1 := (h.2.2.2 i hi).1
    rw [World.cell?_of_block (w := w) (hg.block ia (by have := h.1; omega) (by have := h.2.1; simp; omega))]
    exact h1, (h.2.2.2 i hi).2⟩⟩
structure Fd (F : FeedC) (B f : Nat) (p : Nat) (left tag : Int) (w : World) : Prop where
  lt : f < B
  size : B ≤ w.heap.size
  blk : w.heap[f]? = some (.cells #[.slice F.la F.len F.cap, .int .i64 p, .slice (some ⟨F.ia, 0, none⟩) F.ns.length F.ns.length, .slice (some ⟨F.xa, 0, none⟩) F.ms.length F.ms.length, .int .i64 left, .int .i64 tag, .bool F.main] 54 (0, 0))
  lep : p ≤ F.len
  lel : F.len ≤ 9223372036854775807
  bytes : ∀ i, i < F.len → ∃ b off, F.la = some ⟨b, off, none⟩ ∧ b < B ∧ b ≠ f ∧ w.cell? ⟨b, off + i, none⟩ = some (.int .u8 (F.zs.getD i 0)) ∧ 0 ≤ F.zs.getD i 0 ∧ F.zs.getD i 0 ≤ 255
  ints : NamesIn B f F.ia F.ns w
  arrs : NamesIn B f F.xa F.ms w
section
variable {F : FeedC} {B f : Nat} {p : Nat} {left tag : Int} {w : World}
theorem Fd.put (h : Fd F B f p left tag w) {w' : World} (hg : w.grownBy w' (some f)) {q : Nat} {l' t' : Int} (hq : q ≤ F.len) (hb : w'.heap[f]? = some (.cells #[.slice F.la F.len F.cap, .int .i64 q, .slice (some ⟨F.ia, 0, none⟩) F.ns.length F.ns.length, .slice (some ⟨F.xa, 0, none⟩) F.ms.length F.ms.length, .int .i64 l', .int .i64 t', .bool F.main] 54 (0, 0))) : Fd F B f q l' t' w' :=
  ⟨h.lt, Nat.le_trans h.size hg.size, hb, hq, h.lel, fun i hi => by
    obtain ⟨b, off, e, hb, hne, hc, hv⟩ := h.bytes i hi
    refine ⟨b, off, e, hb, hne, ?_, hv⟩
    rw [World.cell?_of_block (w := w) (hg.block b (by have := h.size; omega) (by simp; omega))]
    exact hc, h.ints.grown h.size hg, h.arrs.grown h.size hg⟩
theorem Fd.setp (h : Fd F B f p left tag w) {q : Nat} (hq : q ≤ F.len) : Fd F B f q left tag (w.setCell ⟨f, 1, none⟩ (.int .i64 q)) := h.put (setCell_grown _ _ _ _) hq (bk_set _ h.blk)
theorem Fd.on (h : Fd F B f p left tag w) {w' : World} (hb : Below w.heap.size w w') : Fd F B f p left tag w' :=
  h.put ⟨hb.os, hb.tape, hb.output, hb.size, fun k hk _ => hb.block k hk⟩ h.lep ((hb.block f (lt_of_block h.blk)).trans h.blk)
theorem Fd.alloc (h : Fd F B f p left tag w) (o : Obj) : Fd F B f p left tag (w.alloc o) := h.on ((Below.refl _ _).alloc (Nat.le_refl _) _)
theorem Fd.keep (h : Fd F B f p left tag w) {w' : World} (hs : B ≤ w'.heap.size) (hk : ∀ b, b < B → w'.heap[b]? = w.heap[b]?) : Fd F B f p left tag w' :=
  ⟨h.lt, hs, (hk f h.lt).trans h.blk, h.lep, h.lel, fun i hi => by
    obtain ⟨b, off, e, hb, hne, hc, hv⟩ := h.bytes i hi
    refine ⟨b, off, e, hb, hne, ?_, hv⟩
    rw [World.cell?_of_block (w := w) (hk b hb)]
    exact hc, ⟨h.ints.1, h.ints.2.1, h.ints.2.2.1, fun i hi => ⟨by
      rw [World.cell?_of_block (w := w) (hk F.ia h.ints.1)]
      exact (h.ints.2.2.2 i hi).1, (h.ints.2.2.2 i hi).2⟩⟩, ⟨h.arrs.1, h.arrs.2.1, h.arrs.2.2.1, fun i hi => ⟨by
      rw [World.cell?_of_block (w := w) (hk F.xa h.arrs.1)]
      exact (h.arrs.2.2.2 i hi).1, (h.arrs.2.2.2 i hi).2⟩⟩⟩
theorem Fd.far (h : Fd F B f p left tag w) {R : Nat} (hR : B ≤ R) (k : Nat) (u : Value) : Fd F B f p left tag (w.setCell ⟨R, k, none⟩ u) :=
  h.keep (by simpa [World.setCell] using h.size) fun b hb => Below.heap_setCell _ _ _ _ (by simp; omega)
theorem Fd.grownR (h : Fd F B f p left tag w) {R : Nat} (hR : B ≤ R) {w' : World} (hg : w.grownBy w' (some R)) : Fd F B f p left tag w' :=
  h.keep (Nat.le_trans h.size hg.size) fun b hb => hg.block b (by have := h.size; omega) (by simp; omega)
theorem Fd.drew (h : Fd F B f p left tag w) : Fd F B f p left tag w.drew := h.on (Below.refl _ _).drew
theorem Fd.drewN (h : Fd F B f p left tag w) (n : Nat) : Fd F B f p left tag (w.drewN n) := h.on ⟨rfl, rfl, rfl, Nat.le_refl _, fun _ _ => rfl⟩
theorem Fd.c0 (h : Fd F B f p left tag w) : w.cell? ⟨f, 0, none⟩ = some (.slice F.la F.len F.cap) := bk_cell h.blk rfl
theorem Fd.c1 (h : Fd F B f p left tag w) : w.cell? ⟨f, 1, none⟩ = some (.int .i64 p) := bk_cell h.blk rfl
theorem Fd.c2 (h : Fd F B f p left tag w) : w.cell? ⟨f, 2, none⟩ = some (.slice (some ⟨F.ia, 0, none⟩) F.ns.length F.ns.length) := bk_cell h.blk rfl
theorem Fd.c3 (h : Fd F B f p left tag w) : w.cell? ⟨f, 3, none⟩ = some (.slice (some ⟨F.xa, 0, none⟩) F.ms.length F.ms.length) := bk_cell h.blk rfl
theorem Fd.c4 (h : Fd F B f p left tag w) : w.cell? ⟨f, 4, none⟩ = some (.int .i64 left) := bk_cell h.blk rfl
theorem Fd.c5 (h : Fd F B f p left tag w) : w.cell? ⟨f, 5, none⟩ = some (.int .i64 tag) := bk_cell h.blk rfl
theorem Fd.f1 (h : Fd F B f p left tag w) (k : Nat) : w.frozen? ⟨f, k, none⟩ = false := bk_free h.blk
def NextPost (F : FeedC) (B f : Nat) (left tag : Int) (w : World) (e : Ending) (w' : World) : Prop := ∃ (v : Int) (q : Nat), e = .returned (.int .i64 v) ∧ (0 ≤ v ∧ v ≤ 255) ∧ Fd F B f q left tag w' ∧ w.grownBy w' (some f)
set_option maxHeartbeats 1000000 in
theorem next_any (h : Fd F B f p left tag w) : Calls Tryz.prog 43 #[.pointer (some ⟨f, 0, none⟩)] w (NextPost F B f left tag w) := by
  have c0 := h.c0
  have c1 := h.c1
  have f1 := h.f1 1
  have hl := h.lep
  have hm := h.lel
  by_cases hlt : p < F.len
  · obtain ⟨b, off, hla, -, hne, hc, hv0, hv1⟩ := h.bytes p hlt
    have hne' : (b == f) = false := by simpa using hne
    have n1 : decide (F.len ≤ p) = false := by simp; omega
    have b1 : p < F.len := hlt
    have H := hid h
    have HL := hid hla
    have HC := hid hc
    clear h hl hc hlt
    rw [hla] at c0
    clear hla
    go_enter Tryz.func43, Tryz.ntmps43
    go_wp2
    go_quiet (fail)
    go_wp2
    have hg := grown_set (f := f) (grown_drewN (grown_refl w (some f)) nq) 1 (.int .i64 (((p + 1 : Nat)) : Int))
    have H2 := (H.out.drewN nq).setp (q := p + 1) (by omega)
    have e1 : ((p + 1 : Nat) : Int) = (p : Int) + 1 := rfl
    rw [e1] at hg
    have H3 : Hid (Fd F B f (p + 1) left tag ((w.drewN nq).setCell ⟨f, 1, none⟩ (.int .i64 ((p : Int) + 1)))) := hid H2
    clear H2
    generalize (w.drewN nq).setCell ⟨f, 1, none⟩ (.int .i64 ((p : Int) + 1)) = w2 at hg H3 ⊢
    have HG := hid hg
    have d0 := H3.out.c0
    have d1 : w2.cell? ⟨f, 1, none⟩ = some (.int .i64 ((p : Int) + 1)) := H3.out.c1
    obtain ⟨b', off', hla', -, -, d2, -⟩ := H3.out.bytes p b1
    rw [HL.out] at hla'
    simp only [Option.some.injEq, Addr.mk.injEq, and_true] at hla'
    obtain ⟨rfl, rfl⟩ := hla'
    rw [HL.out] at d0
    generalize F.zs.getD p 0 = v at hv0 hv1 d2
    have k0 : (0 : Int) ≤ p := by omega
    have k1 : (p : Int) < F.len := by omega
    have k2 : IntKind.i64.wrap ((p : Int) + 1 - 1) = p := by rw [Int.add_sub_cancel]; exact IntWalk.i64_in _ (by omega)
    clear c0 c1 f1 hg hne e1
    go_quiet (fail)
    go_wp2
    go_ret
    exact ⟨v, p + 1, rfl, ⟨hv0, hv1⟩, H3.out.drewN _, grown_drewN HG.out _⟩
  · have n1 : decide (F.len ≤ p) = true := by simp; omega
    have H := hid h
    clear h hl
    go_enter Tryz.func43, Tryz.ntmps43
    go_wp2
    go_quiet (fail)
    go_wp2
    go_ret
    exact ⟨0, p, rfl, by omega, H.out.drewN _, grown_drewN (grown_refl _ _) _⟩
end
end Go.Proofs.YtdaklmbifkehpaaGreatDoor

set_option linter.unusedSimpArgs false
set_option linter.unusedVariables false
namespace Go.Proofs.YtdaklmbifkehpaaGreatDoor
open Go Go.RowKit
open Go.Lib (hid)

def ExprPost (F : FeedC) (B f d : Nat) (left tag : Int) (w : World) (e : Ending) (w' : World) : Prop := ∃ (T : ET) (q : Nat), e = .returned T.val ∧ GE d T ∧ T.In w' w.heap.size ∧ Fd F B f q left tag w' ∧ w.grownBy w' (some f)
theorem pick_name {B f ia : Nat} {ns : List ByteArray} {w : World} (h : NamesIn B f ia ns w) {v : Int} (v0 : 0 ≤ v) : ∃ (k n : Nat) (s : ByteArray), ns.length = n ∧ 0 < n ∧ n ≤ 10 ∧ k < n ∧ v / 16 % n = k ∧ ns.getD k mE = s ∧ nmB s = true ∧ w.cell? ⟨ia, k, none⟩ = some (.string s) := by
  obtain ⟨-, -, ⟨h0, h1⟩, hc⟩ := h
  refine ⟨(v / 16 % ns.length).toNat, ns.length, _, rfl, h0, h1, ?_, ?_, rfl, ?_⟩
  · have := Int.emod_lt_of_pos (v / 16) (b := ns.length) (by omega)
    have := Int.emod_nonneg (v / 16) (b := ns.length) (by omega)
    omega
  · have := Int.emod_nonneg (v / 16) (b := ns.length) (by omega)
    omega
  · have := Int.emod_lt_of_pos (v / 16) (b := ns.length) (by omega)
    have := Int.emod_nonneg (v / 16) (b := ns.length) (by omega)
    exact ⟨(hc _ (by omega)).2, (hc _ (by omega)).1⟩
def fnums : List Int := [0, 1, 2, 3, -1, 5, 7, -9223372036854775808, 64, 9223372036854775807]
def fnum (v : Int) : Int := fnums.getD (v / 16 % 10).toNat 0
theorem fnum_in (v : Int) : -9223372036854775808 ≤ fnum v ∧ fnum v ≤ 9223372036854775807 := by
  have : ∀ k : Fin 10, -9223372036854775808 ≤ fnums.getD k.val 0 ∧ fnums.getD k.val 0 ≤ 9223372036854775807 := by decide
  exact this ⟨(v / 16 % 10).toNat, by omega⟩
theorem fnum_cell (w : World) (v : Int) : (w.alloc (.cells #[.int .i64 0, .int .i64 1, .int .i64 2, .int .i64 3, .int .i64 (-1), .int .i64 5, .int .i64 7, .int .i64 (-9223372036854775808), .int .i64 64, .int .i64 9223372036854775807] 2)).cell? ⟨w.heap.size, (v / 16 % 10).toNat, none⟩ = some (.int .i64 (fnum v)) := by
  refine bk_cell (bk_new _ _) ?_
  have : ∀ k : Fin 10, (#[.int .i64 0, .int .i64 1, .int .i64 2, .int .i64 3, .int .i64 (-1), .int .i64 5, .int .i64 7, .int .i64 (-9223372036854775808), .int .i64 64, .int .i64 9223372036854775807] : Array Value)[k.val]? = some (.int .i64 (fnums.getD k.val 0)) := by
    intro k
    match k with
    | ⟨0, _⟩ => rfl
    | ⟨1, _⟩ => rfl
    | ⟨2, _⟩ => rfl
    | ⟨3, _⟩ => rfl
    | ⟨4, _⟩ => rfl
    | ⟨5, _⟩ => rfl
    | ⟨6, _⟩ => rfl
    | ⟨7, _⟩ => rfl
    | ⟨8, _⟩ => rfl
    | ⟨9, _⟩ => rfl
  exact this ⟨(v / 16 % 10).toNat, by omega⟩
def bopl : List ByteArray := [{ data := #[124, 124] }, { data := #[38, 38] }, { data := #[124] }, { data := #[94] }, { data := #[38] }, { data := #[61, 61] }, { data := #[33, 61] }, { data := #[60] }, { data := #[60, 61] }, { data := #[62] }, { data := #[62, 61] }, { data := #[60, 60] }, { data := #[62, 62] }, { data := #[43] }, { data := #[45] }, { data := #[42] }, { data := #[47] }, { data := #[37] }, { data := #[60] }, { data := #[43] }, { data := #[45] }, { data := #[61, 61] }]
def bopN (k : Nat) : ByteArray := bopl.getD k mE
abbrev bopC : Array Value := #[.string { data := #[124, 124] }, .string { data := #[38, 38] }, .string { data := #[124] }, .string { data := #[94] }, .string { data := #[38] }, .string { data := #[61, 61] }, .string { data := #[33, 61] }, .string { data := #[60] }, .string { data := #[60, 61] }, .string { data := #[62] }, .string { data := #[62, 61] }, .string { data := #[60, 60] }, .string { data := #[62, 62] }, .string { data := #[43] }, .string { data := #[45] }, .string { data := #[42] }, .string { data := #[47] }, .string { data := #[37] }, .string { data := #[60] }, .string { data := #[43] }, .string { data := #[45] }, .string { data := #[61, 61] }]
theorem bopC_is : bopC = (bopl.map Value.string).toArray := rfl
theorem bopC_at (k : Nat) (h : k < 22) : bopC[k]? = some (.string (bopN k)) := by
  have hl : k < bopl.length := h
  rw [bopC_is, List.getElem?_toArray, List.getElem?_map, List.getElem?_eq_getElem hl]
  simp only [Option.map_some, bopN, List.getD_eq_getElem?_getD, List.getElem?_eq_getElem hl, Option.getD_some]
theorem bopN_lev (k : Nat) (h : k < 22) : 0 < levelV (bopN k) := by
  have : ∀ k : Fin 22, 0 < levelV (bopN k.val) := by decide +kernel
  exact this ⟨k, h⟩
section
variable {F : FeedC} {B f : Nat} {left tag : Int}
set_option maxHeartbeats 2000000 in
set_option maxRecDepth 100000 in
theorem feedE_zero (p : Nat) (w : World) (h : Fd F B f p left tag w) : Calls Tryz.prog 23 #[.pointer (some ⟨f, 0, none⟩), .int .i64 0] w (ExprPost F B f 0 left tag w) := by
  have HB : f < w.heap.size := by have := h.lt; have := h.size; omega
  have H := hid h
  clear h
  go_enter Tryz.func23, Tryz.ntmps23
  go_wp2_with (go_at_call 43; have hx := next_any (H.out.alloc (.cells #[.int .i64 0, .string { data := #[] }, .int .i64 0, .string { data := #[] }, .slice none 0 0] 26)); refine hx.mono ?_; clear hx; rintro e w1 ⟨v, q, rfl, ⟨v0, v1⟩, h1, hg1⟩; have hR := (hg1.block w.heap.size (by simp) (by simp; omega)).trans (bk_new w _); have hn := fnum_cell w1 v; obtain ⟨r0, r1, r2, r3, r4⟩ := cells5 hR; have z0 := bk_free (k := 0) hR; have z1 := bk_free (k := 1) hR; have z2 := bk_free (k := 2) hR; have z3 := bk_free (k := 3) hR; have z4 := bk_free (k := 4) hR; have HR := hid hR; have H1 := hid h1; have HG1 := hid hg1; have hlt : w.heap.size < w1.heap.size := lt_of_block hR; clear h1 hg1 hR)
  · refine bodyPost_ret (v := .agg #[.int .i64 0, .string { data := #[] }, .int .i64 (fnum v), .string { data := #[] }, .slice none 0 0]) (by simp [results, Tryz.results23, go_sem, *]) rfl ?_
    refine ⟨.mk 0 mE (fnum v) mE none 0 [], q, rfl, ge_num 0 _ (fnum_in v) _ _, num_in (fnum_in v) _ _, ?_, ?_⟩
    · clear hn
      have hBR := H.out.size
      have h1 := H1.out
      repeat (first | with_reducible exact h1 | with_reducible refine Fd.far ?_ hBR _ _ | with_reducible refine Fd.drew ?_ | with_reducible refine Fd.drewN ?_ _ | with_reducible refine Fd.alloc ?_ _)
    · clear hn
      have h0 := grown_trans (World.grownBy_alloc w _ (some f)) HG1.out
      repeat (first | with_reducible exact h0 | with_reducible refine grown_new ?_ (Nat.le_refl _) _ _ | with_reducible refine grown_drew ?_ | with_reducible refine grown_drewN ?_ _ | with_reducible refine grown_alloc ?_ _)
  · obtain ⟨k, n, s, hn0, hn1, hn2, hk, hv, hs, hnm, hc⟩ := pick_name H1.out.ints v0
    have c2 := H1.out.c2
    rw [hn0] at c2
    have HS := hid hnm
    clear hn0 hs hnm hn
    have t1 : (v.tdiv 16).tmod n = k := by rw [← hv, Int.tdiv_eq_ediv_of_nonneg v0, Int.tmod_eq_emod_of_nonneg (by omega)]
    have t2 : (v / 16).tmod n = k := by rw [← hv, Int.tmod_eq_emod_of_nonneg (by omega)]
    have ne1 : ¬ w.heap.size = f := by omega
    have ne2 : ¬ w.heap.size = F.ia := by have := H1.out.ints.1; have := H1.out.ints.2.1; have := H.out.size; omega
    have n0 : ((n : Int) == 0) = false := by simp; omega
    have u1 : IntKind.i64.wrap (v.tdiv 16) = v / 16 := by rw [Int.tdiv_eq_ediv_of_nonneg v0]; exact IntWalk.i64_in _ (by omega)
    have u3 : (IntKind.i64.wrap (v.tdiv 16)).tmod n = k := by rw [u1]; exact t2
    have u4 : IntKind.i64.wrap (v / 16) = v / 16 := IntWalk.i64_in _ (by omega)
    have n3 : (n == 0) = false := by simp; omega
    have n4 : ¬ n = 0 := by omega
    have n5 : (0 : Int) < n := by omega
    have k0 : (0 : Int) ≤ k := by omega
    have k1 : (k : Int) < n := by omega
    go_region_held3 (fun w' => w'.cell? ⟨f, 2, none⟩ = some (.slice (some ⟨F.ia, 0, none⟩) n n) ∧ w'.cell? ⟨F.ia, k, none⟩ = some (.string s)) (go_keep) (fail)
    go_wp2
    refine bodyPost_ret (v := .agg #[.int .i64 1, .string { data := #[] }, .int .i64 0, .string s, .slice none 0 0]) (by simp [results, Tryz.results23, go_sem, *]) rfl ?_
    refine ⟨.mk 1 mE 0 s none 0 [], q, rfl, ge_var 0 HS.out _ _, var_in _ _ _, ?_, ?_⟩
    · skip
      have hBR := H.out.size
      have h1 := H1.out
      repeat (first | with_reducible exact h1 | with_reducible refine Fd.far ?_ hBR _ _ | with_reducible refine Fd.drew ?_ | with_reducible refine Fd.drewN ?_ _ | with_reducible refine Fd.alloc ?_ _)
    · skip
      have h0 := grown_trans (World.grownBy_alloc w _ (some f)) HG1.out
      repeat (first | with_reducible exact h0 | with_reducible refine grown_new ?_ (Nat.le_refl _) _ _ | with_reducible refine grown_drew ?_ | with_reducible refine grown_drewN ?_ _ | with_reducible refine grown_alloc ?_ _)
def Kid (F : FeedC) (B f d : Nat) (left tag : Int) (w w2 : World) (T : ET) : Prop := GE d T ∧ (∃ q, Fd F B f q left tag w2) ∧ w.grownBy w2 (some f) ∧ ∃ A, w.heap.size < A ∧ A ≤ w2.heap.size ∧ T.In w2 A
theorem kid_of {w w0 w2 : World} {d q : Nat} {T : ET} (hT : GE d T) (h2 : Fd F B f q left tag w2) (hg : w.grownBy w0 (some f)) (hg2 : w0.grownBy w2 (some f)) (hin : T.In w2 w0.heap.size) (h0 : w.heap.size < w0.heap.size) : Kid F B f d left tag w w2 T :=
  ⟨hT, ⟨q, h2⟩, grown_trans hg hg2, w0.heap.size, h0, hg2.size, hin⟩
theorem one_post {w w2 wx : World} {d g : Nat} {T : ET} {k : Int} {o s : ByteArray} (hk : Kid F B f d left tag w w2 T) (hB : B ≤ w.heap.size)
    (hU : GE (d + 1) (.mk k o 0 s (some ⟨g, 0, none⟩) 1 [T])) (hx : w2.grownBy wx (some w.heap.size)) (hgx : wx.heap.size = g) : ExprPost F B f (d + 1) left tag w (.returned (.agg #[.int .i64 k, .string o, .int .i64 0, .string s, .slice (some ⟨g, 0, none⟩) 1 1])) (wx.alloc (.cells (five T) 26)) := by
  subst hgx
  obtain ⟨-, ⟨q, h2⟩, hg, A, h0, h0', hin⟩ := hk
  have h3 := grown_trans hx (World.grownBy_alloc wx (.cells (five T) 26) _)
  refine ⟨_, q, rfl, hU, kid_in (hin.keep (keep_of_grown hx h0)) (Nat.le_trans h0' hx.size) h0 (grown_refl _ _) k o s, h2.grownR hB h3, ?_⟩
  exact ⟨h3.os.trans hg.os, h3.tape.trans hg.tape, h3.output.trans hg.output, Nat.le_trans hg.size h3.size, fun i hi hr => (h3.block i (Nat.lt_of_lt_of_le hi hg.size) (by simp; omega)).trans (hg.block i hi hr)⟩
theorem post_alloc {w w' : World} {d : Nat} {e : Ending} (h : ExprPost F B f d left tag w e w') (o : Obj) : ExprPost F B f d left tag w e (w'.alloc o) := by
  obtain ⟨T, q, he, hT, hin, h2, hg⟩ := h
  exact ⟨T, q, he, hT, hin.on ((Below.refl _ _).alloc (Nat.le_refl _) _), h2.alloc _, grown_alloc hg _⟩
end
end Go.Proofs.YtdaklmbifkehpaaGreatDoor

set_option linter.unusedSimpArgs false
set_option linter.unusedVariables false
namespace Go.Proofs.YtdaklmbifkehpaaGreatDoor
open Go Go.RowKit
open Go.Lib (hid)

section
variable {F : FeedC} {B f : Nat} {left tag : Int}
theorem two_post {w w2 w5 wx : World} {d g q A : Nat} {T U : ET} {o : ByteArray} (hk : Kid F B f d left tag w w2 T) (hB : B ≤ w.heap.size) (hg5 : w2.grownBy w5 (some f)) (h5 : Fd F B f q left tag w5) (hU : GE d U) (hin5 : U.In w5 A) (hA : w.heap.size < A) (hA' : A ≤ w5.heap.size) (hf : f < w.heap.size) (ho : 0 < levelV o)
    (hx : w5.grownBy wx (some w.heap.size)) (hgx : wx.heap.size = g) : ExprPost F B f (d + 1) left tag w (.returned (.agg #[.int .i64 4, .string o, .int .i64 0, .string { data := #[] }, .slice (some ⟨g, 0, none⟩) 2 2])) (wx.alloc (.cells #[.int .i64 T.kind, .string T.op, .int .i64 T.n, .string T.name, .slice T.kaddr T.kids.length T.kcap, .int .i64 U.kind, .string U.op, .int .i64 U.n, .string U.name, .slice U.kaddr U.kids.length U.kcap] 26)) := by
  subst hgx
  obtain ⟨hT, -, hg, A0, h0, h0', hin⟩ := hk
  have h3 := grown_trans hx (World.grownBy_alloc wx (.cells #[.int .i64 T.kind, .string T.op, .int .i64 T.n, .string T.name, .slice T.kaddr T.kids.length T.kcap, .int .i64 U.kind, .string U.op, .int .i64 U.n, .string U.name, .slice U.kaddr U.kids.length U.kcap] 26) _)
  have hT' := ((hin.keep (keep_of_grown hg5 (by omega))).keep (keep_of_grown h3 h0)).mono (Nat.le_of_lt h0)
  have hU' := (hin5.keep (keep_of_grown h3 hA)).mono (Nat.le_of_lt hA)
  have hb : (wx.alloc (.cells #[.int .i64 T.kind, .string T.op, .int .i64 T.n, .string T.name, .slice T.kaddr T.kids.length T.kcap, .int .i64 U.kind, .string U.op, .int .i64 U.n, .string U.name, .slice U.kaddr U.kids.length U.kcap] 26)).heap[wx.heap.size]? = _ := bk_new _ _
  have hgw := grown_trans hg hg5
  refine ⟨.mk 4 o 0 mE (some ⟨wx.heap.size, 0, none⟩) 2 [T, U], q, rfl, ge_bin ho hT hU _ _, ?_, h5.grownR hB h3, ⟨h3.os.trans hgw.os, h3.tape.trans hgw.tape, h3.output.trans hgw.output, Nat.le_trans hgw.size h3.size, fun i hi hr => (h3.block i (Nat.lt_of_lt_of_le hi hgw.size) (by simp; omega)).trans (hgw.block i hi hr)⟩⟩
  have hwx : w.heap.size ≤ wx.heap.size := Nat.le_trans hgw.size hx.size
  rw [ET.In, EsIn, EsIn, EsIn]
  refine ⟨by decide, by simp, ⟨wx.heap.size, 0, rfl, hwx, fun j v hj => bk_cell hb ?_⟩, hT', ⟨wx.heap.size, 0, rfl, hwx, fun j v hj => bk_cell hb ?_⟩, hU', trivial⟩
  all_goals
    rw [ET.cells_is] at hj
    have hj5 : j < 5 := by
      rcases Nat.lt_or_ge j 5 with h | h
      · exact h
      · rw [Array.getElem?_eq_none (by simpa using h)] at hj; cases hj
    match j, hj5, hj with
    | 0, _, hj => exact hj
    | 1, _, hj => exact hj
    | 2, _, hj => exact hj
    | 3, _, hj => exact hj
    | 4, _, hj => exact hj
theorem cellD {w : World} {a : Addr} {v : Value} (h : w.cell? a = some v) : w.drew.cell? a = some v := h
theorem cellA {w : World} {a : Addr} {v : Value} (h : w.cell? a = some v) (o : Obj) : (w.alloc o).cell? a = some v := by
  rw [World.cell?_alloc_some _ _ _ (by rw [h]; rfl)]; exact h
theorem cellS {w : World} {X R j i : Nat} {u v : Value} (h : w.cell? ⟨X, i, none⟩ = some v) (hn : ¬ R = X) : (w.setCell ⟨R, j, none⟩ u).cell? ⟨X, i, none⟩ = some v := by
  rw [World.cell?_setCell_far _ _ _ _ hn]; exact h
def OpsW (O : Nat) (w : World) : Prop := ∀ k, k < 22 → w.cell? ⟨O, k, none⟩ = some (.string (bopN k))
theorem OpsW.drew {O : Nat} {w : World} (h : ∀ k, k < 22 → w.cell? ⟨O, k, none⟩ = some (.string (bopN k))) : ∀ k, k < 22 → w.drew.cell? ⟨O, k, none⟩ = some (.string (bopN k)) := h
theorem OpsW.alloc {O : Nat} {w : World} (h : ∀ k, k < 22 → w.cell? ⟨O, k, none⟩ = some (.string (bopN k))) (o : Obj) : ∀ k, k < 22 → (w.alloc o).cell? ⟨O, k, none⟩ = some (.string (bopN k)) := fun k hk => by
  rw [World.cell?_alloc_some _ _ _ (by rw [h k hk]; rfl)]; exact h k hk
theorem OpsW.set {O R j : Nat} {w : World} {u : Value} (h : ∀ k, k < 22 → w.cell? ⟨O, k, none⟩ = some (.string (bopN k))) (hn : ¬ R = O) : ∀ k, k < 22 → (w.setCell ⟨R, j, none⟩ u).cell? ⟨O, k, none⟩ = some (.string (bopN k)) := fun k hk => by
  rw [World.cell?_setCell_far _ _ _ _ hn]; exact h k hk
theorem un_post {w w2 wx : World} {d g : Nat} {T : ET} {o : ByteArray} (hk : Kid F B f d left tag w w2 T) (hB : B ≤ w.heap.size) (ho : unB o = true) (hx : w2.grownBy wx (some w.heap.size)) (hgx : wx.heap.size = g) : ExprPost F B f (d + 1) left tag w (.returned (.agg #[.int .i64 3, .string o, .int .i64 0, .string { data := #[] }, .slice (some ⟨g, 0, none⟩) 1 1])) (wx.alloc (.cells #[.int .i64 T.kind, .string T.op, .int .i64 T.n, .string T.name, .slice T.kaddr T.kids.length T.kcap] 26)) :=
  one_post hk hB (ge_un ho hk.1 _ _) hx hgx
set_option maxHeartbeats 40000000 in
set_option maxRecDepth 100000 in
theorem feedE_succ (d p : Nat) (hd : d ≤ 9) (ih : ∀ (p : Nat) (w : World), Fd F B f p left tag w → Calls Tryz.prog 23 #[.pointer (some ⟨f, 0, none⟩), .int .i64 d] w (ExprPost F B f d left tag w))
   (w : World) (h : Fd F B f p left tag w) : Calls Tryz.prog 23 #[.pointer (some ⟨f, 0, none⟩), .int .i64 ((d : Int) + 1)] w (ExprPost F B f (d + 1) left tag w) := by
  have HB : f < w.heap.size := by have := h.lt; have := h.size; omega
  have H := hid h
  have IH := hid ih
  have k9 : decide ((d : Int) + 1 < 1) = false := by simp; omega
  have k8 : IntKind.i64.wrap ((d : Int) + 1 - 1) = d := by rw [Int.add_sub_cancel]; exact IntWalk.i64_in _ (by omega)
  have k7 : IntKind.i64.wrap (d : Int) = d := IntWalk.i64_in _ (by omega)
  clear h ih
  go_enter Tryz.func23, Tryz.ntmps23
  go_wp2_with (go_at_call 43; have hx := next_any (H.out.alloc (.cells #[.int .i64 0, .string { data := #[] }, .int .i64 0, .string { data := #[] }, .slice none 0 0] 26)); refine hx.mono ?_; clear hx; rintro e w1 ⟨v, q, rfl, ⟨v0, v1⟩, h1, hg1⟩; have hR := (hg1.block w.heap.size (by simp) (by simp; omega)).trans (bk_new w _); have hn := fnum_cell w1 v; obtain ⟨r0, r1, r2, r3, r4⟩ := cells5 hR; have z0 := bk_free (k := 0) hR; have z1 := bk_free (k := 1) hR; have z2 := bk_free (k := 2) hR; have z3 := bk_free (k := 3) hR; have z4 := bk_free (k := 4) hR; have HR := hid hR; have H1 := hid h1; have HG1 := hid hg1; have hlt : w.heap.size < w1.heap.size := lt_of_block hR; clear h1 hg1 hR)
  · refine bodyPost_ret (v := .agg #[.int .i64 0, .string { data := #[] }, .int .i64 (fnum v), .string { data := #[] }, .slice none 0 0]) (by simp [results, Tryz.results23, go_sem, *]) rfl ?_
    refine ⟨.mk 0 mE (fnum v) mE none 0 [], q, rfl, ge_num (d + 1) _ (fnum_in v) _ _, num_in (fnum_in v) _ _, ?_, ?_⟩
    · clear hn
      have hBR := H.out.size
      have h1 := H1.out
      repeat (first | with_reducible exact h1 | with_reducible refine Fd.far ?_ hBR _ _ | with_reducible refine Fd.drew ?_ | with_reducible refine Fd.drewN ?_ _ | with_reducible refine Fd.alloc ?_ _)
    · clear hn
      have h0 := grown_trans (World.grownBy_alloc w _ (some f)) HG1.out
      repeat (first | with_reducible exact h0 | with_reducible refine grown_new ?_ (Nat.le_refl _) _ _ | with_reducible refine grown_drew ?_ | with_reducible refine grown_drewN ?_ _ | with_reducible refine grown_alloc ?_ _)
  · obtain ⟨k, n, s, hn0, hn1, hn2, hk, hv, hs, hnm, hc⟩ := pick_name H1.out.ints v0
    have c2 := H1.out.c2
    rw [hn0] at c2
    have HS := hid hnm
    clear hn0 hs hnm hn
    have t1 : (v.tdiv 16).tmod n = k := by rw [← hv, Int.tdiv_eq_ediv_of_nonneg v0, Int.tmod_eq_emod_of_nonneg (by omega)]
    have t2 : (v / 16).tmod n = k := by rw [← hv, Int.tmod_eq_emod_of_nonneg (by omega)]
    have ne1 : ¬ w.heap.size = f := by omega
    have ne2 : ¬ w.heap.size = F.ia := by have := H1.out.ints.1; have := H1.out.ints.2.1; have := H.out.size; omega
    have n0 : ((n : Int) == 0) = false := by simp; omega
    have u1 : IntKind.i64.wrap (v.tdiv 16) = v / 16 := by rw [Int.tdiv_eq_ediv_of_nonneg v0]; exact IntWalk.i64_in _ (by omega)
    have u3 : (IntKind.i64.wrap (v.tdiv 16)).tmod n = k := by rw [u1]; exact t2
    have u4 : IntKind.i64.wrap (v / 16) = v / 16 := IntWalk.i64_in _ (by omega)
    have n3 : (n == 0) = false := by simp; omega
    have n4 : ¬ n = 0 := by omega
    have n5 : (0 : Int) < n := by omega
    have k0 : (0 : Int) ≤ k := by omega
    have k1 : (k : Int) < n := by omega
    go_region_held3 (fun w' => w'.cell? ⟨f, 2, none⟩ = some (.slice (some ⟨F.ia, 0, none⟩) n n) ∧ w'.cell? ⟨F.ia, k, none⟩ = some (.string s)) (go_keep) (fail)
    go_wp2
    refine bodyPost_ret (v := .agg #[.int .i64 1, .string { data := #[] }, .int .i64 0, .string s, .slice none 0 0]) (by simp [results, Tryz.results23, go_sem, *]) rfl ?_
    refine ⟨.mk 1 mE 0 s none 0 [], q, rfl, ge_var (d + 1) HS.out _ _, var_in _ _ _, ?_, ?_⟩
    · skip
      have hBR := H.out.size
      have h1 := H1.out
      repeat (first | with_reducible exact h1 | with_reducible refine Fd.far ?_ hBR _ _ | with_reducible refine Fd.drew ?_ | with_reducible refine Fd.drewN ?_ _ | with_reducible refine Fd.alloc ?_ _)
    · skip
      have h0 := grown_trans (World.grownBy_alloc w _ (some f)) HG1.out
      repeat (first | with_reducible exact h0 | with_reducible refine grown_new ?_ (Nat.le_refl _) _ _ | with_reducible refine grown_drew ?_ | with_reducible refine grown_drewN ?_ _ | with_reducible refine grown_alloc ?_ _)
  · obtain ⟨k, n, s, hn0, hn1, hn2, hk, hv, hs, hnm, hc⟩ := pick_name H1.out.arrs v0
    have c3 := H1.out.c3
    rw [hn0] at c3
    have HN := hid hn0
    have HS := hid hnm
    clear hn0 hs hnm hn
    have t1 : (v.tdiv 16).tmod n = k := by rw [← hv, Int.tdiv_eq_ediv_of_nonneg v0, Int.tmod_eq_emod_of_nonneg (by omega)]
    have t2 : (v / 16).tmod n = k := by rw [← hv, Int.tmod_eq_emod_of_nonneg (by omega)]
    have ne1 : ¬ w.heap.size = f := by omega
    have ne2 : ¬ w.heap.size = F.xa := by have := H1.out.arrs.1; have := H1.out.arrs.2.1; have := H.out.size; omega
    have NX : Hid (F.xa ≠ f) := hid H1.out.arrs.2.1
    have n0 : ((n : Int) == 0) = false := by simp; omega
    have u1 : IntKind.i64.wrap (v.tdiv 16) = v / 16 := by rw [Int.tdiv_eq_ediv_of_nonneg v0]; exact IntWalk.i64_in _ (by omega)
    have u3 : (IntKind.i64.wrap (v.tdiv 16)).tmod n = k := by rw [u1]; exact t2
    have u4 : IntKind.i64.wrap (v / 16) = v / 16 := IntWalk.i64_in _ (by omega)
    have n3 : (n == 0) = false := by simp; omega
    have n4 : ¬ n = 0 := by omega
    have n5 : (0 : Int) < n := by omega
    have k0 : (0 : Int) ≤ k := by omega
    have k1 : (k : Int) < n := by omega
    go_region_held3 (fun w' => w'.cell? ⟨f, 3, none⟩ = some (.slice (some ⟨F.xa, 0, none⟩) n n) ∧ w'.cell? ⟨F.xa, k, none⟩ = some (.string s)) (go_keep)
      ((go_at_call 23; have hx := IH.out q _ H1.out.drew; refine hx.mono ?_; clear hx; rintro e w2 ⟨T, q2, he, hT, hin, h2, hg2⟩; rw [ET.val_is] at he; subst he; have d3 := h2.c3; rw [HN.out] at d3; have dc : w2.cell? ⟨F.xa, k, none⟩ = some (.string s) := hg2.cell (a := ⟨F.xa, k, none⟩) hc (by have := NX.out; simp; omega); have hR2 := (hg2.block w.heap.size hlt (by simp; omega)).trans HR.out; obtain ⟨s0, s1, s2, s3, s4⟩ := cells5 hR2; have y0 := bk_free (k := 0) hR2; have y1 := bk_free (k := 1) hR2; have y2 := bk_free (k := 2) hR2; have y3 := bk_free (k := 3) hR2; have y4 := bk_free (k := 4) hR2; have HR2 := hid hR2; have HK := hid (kid_of hT h2 (grown_drew (grown_trans (World.grownBy_alloc w _ (some f)) HG1.out)) hg2 hin hlt); have hlt2 : w.heap.size < w2.heap.size := lt_of_block hR2; clear h2 hg2 hR2 hin hT))
    go_wp2
    refine bodyPost_ret (v := .agg #[.int .i64 2, .string { data := #[] }, .int .i64 0, .string s, .slice (some ⟨w2.heap.size, 0, none⟩) 1 1]) (by simp [results, Tryz.results23, go_sem, *]) rfl ?_
    refine one_post (T := T) (k := 2) (o := mE) (s := s) (g := w2.heap.size) HK.out H.out.size (ge_idx HS.out (show GE d T from And.left HK.out) _ _) ?_ ?_
    · have h0 := grown_refl w2 (some w.heap.size)
      repeat (first | with_reducible exact h0 | with_reducible refine grown_set ?_ _ _ | with_reducible refine grown_drew ?_)
    · simp
  · have t2 : (v / 16).tmod 3 = v / 16 % 3 := Int.tmod_eq_emod_of_nonneg (by omega)
    have u1 : IntKind.i64.wrap (v.tdiv 16) = v / 16 := by rw [Int.tdiv_eq_ediv_of_nonneg v0]; exact IntWalk.i64_in _ (by omega)
    have u3 : (IntKind.i64.wrap (v.tdiv 16)).tmod 3 = v / 16 % 3 := by rw [u1]; exact t2
    have u4 : IntKind.i64.wrap (v / 16) = v / 16 := IntWalk.i64_in _ (by omega)
    have NF : Hid (f < w.heap.size) := hid HB
    clear hn
    obtain hv | hv | hv : v / 16 % 3 = 0 ∨ v / 16 % 3 = 1 ∨ v / 16 % 3 = 2 := by omega
    · rw [hv] at t2 u3
      go_region_with
      (first
        | (go_at_call 23; have hx := IH.out q _ H1.out.drew; ((with_reducible refine hx.mono ?_); clear hx; rintro e w2 ⟨T, q2, he, hT, hin, h2, hg2⟩); rw [ET.val_is] at he; subst he; have hR2 := (hg2.block w.heap.size hlt (by have := NF.out; simp; omega)).trans HR.out; obtain ⟨s0, s1, s2, s3, s4⟩ := cells5 hR2; have y0 := bk_free (k := 0) hR2; have y1 := bk_free (k := 1) hR2; have y2 := bk_free (k := 2) hR2; have y3 := bk_free (k := 3) hR2; have y4 := bk_free (k := 4) hR2; have HR2 := hid hR2; have HK := hid (kid_of hT h2 (grown_drew (grown_trans (World.grownBy_alloc w _ (some f)) HG1.out)) hg2 hin hlt); have hlt2 : w.heap.size < w2.heap.size := lt_of_block hR2; clear h2 hg2 hR2 hin hT)
        | (go_at_call 23; have hx := IH.out q _ (H1.out.alloc (.cells #[.string { data := #[45] }, .string { data := #[126] }, .string { data := #[33] }] 9)).drew; ((with_reducible refine hx.mono ?_); clear hx; rintro e w2 ⟨T, q2, he, hT, hin, h2, hg2⟩); rw [ET.val_is] at he; subst he; have hR3 := (hg2.block w1.heap.size (by simp) (by have := NF.out; simp; omega)).trans (bk_new _ _); have q0 : w2.cell? ⟨w1.heap.size, 0, none⟩ = some (.string { data := #[45] }) := bk_cell hR3 rfl; have q1 : w2.cell? ⟨w1.heap.size, 1, none⟩ = some (.string { data := #[126] }) := bk_cell hR3 rfl; have q2 : w2.cell? ⟨w1.heap.size, 2, none⟩ = some (.string { data := #[33] }) := bk_cell hR3 rfl; have hlt3 : w1.heap.size < w2.heap.size := lt_of_block hR3; clear hR3; have hR2 := (hg2.block w.heap.size (by simp; omega) (by have := NF.out; simp; omega)).trans (bk_old _ HR.out); obtain ⟨s0, s1, s2, s3, s4⟩ := cells5 hR2; have y0 := bk_free (k := 0) hR2; have y1 := bk_free (k := 1) hR2; have y2 := bk_free (k := 2) hR2; have y3 := bk_free (k := 3) hR2; have y4 := bk_free (k := 4) hR2; have HR2 := hid hR2; have HK := hid (kid_of hT h2 (grown_drew (grown_alloc (grown_trans (World.grownBy_alloc w _ (some f)) HG1.out) _)) hg2 hin (by simp; omega)); have hlt2 : w.heap.size < w2.heap.size := lt_of_block hR2; clear h2 hg2 hR2 hin hT))
      all_goals go_wp2
      · refine bodyPost_ret (v := .agg #[.int .i64 3, .string { data := #[45] }, .int .i64 0, .string { data := #[] }, .slice (some ⟨w2.heap.size, 0, none⟩) 1 1]) (by simp [results, Tryz.results23, go_sem, *]) rfl ?_
        refine un_post HK.out H.out.size rfl ?_ (by simp)
        have h0 := grown_refl w2 (some w.heap.size)
        repeat (first | with_reducible exact h0 | with_reducible refine grown_set ?_ _ _ | with_reducible refine grown_drew ?_ | with_reducible refine grown_alloc ?_ _)
      · refine bodyPost_ret (v := .agg #[.int .i64 3, .string { data := #[45] }, .int .i64 0, .string { data := #[] }, .slice (some ⟨w2.heap.size, 0, none⟩) 1 1]) (by simp [results, Tryz.results23, go_sem, *]) rfl ?_
        refine un_post HK.out H.out.size rfl ?_ (by simp)
        have h0 := grown_refl w2 (some w.heap.size)
        repeat (first | with_reducible exact h0 | with_reducible refine grown_set ?_ _ _ | with_reducible refine grown_drew ?_ | with_reducible refine grown_alloc ?_ _)
      · refine bodyPost_ret (v := .agg #[.int .i64 3, .string { data := #[45] }, .int .i64 0, .string { data := #[] }, .slice (some ⟨w2.heap.size, 0, none⟩) 1 1]) (by simp [results, Tryz.results23, go_sem, *]) rfl ?_
        refine un_post HK.out H.out.size rfl ?_ (by simp)
        have h0 := grown_refl w2 (some w.heap.size)
        repeat (first | with_reducible exact h0 | with_reducible refine grown_set ?_ _ _ | with_reducible refine grown_drew ?_ | with_reducible refine grown_alloc ?_ _)
      · refine bodyPost_ret (v := .agg #[.int .i64 3, .string { data := #[45] }, .int .i64 0, .string { data := #[] }, .slice (some ⟨w2.heap.size + 1, 0, none⟩) 1 1]) (by simp [results, Tryz.results23, go_sem, *]) rfl ?_
        refine un_post HK.out H.out.size rfl ?_ (by simp)
        have h0 := grown_refl w2 (some w.heap.size)
        repeat (first | with_reducible exact h0 | with_reducible refine grown_set ?_ _ _ | with_reducible refine grown_drew ?_ | with_reducible refine grown_alloc ?_ _)
      · refine bodyPost_ret (v := .agg #[.int .i64 3, .string { data := #[45] }, .int .i64 0, .string { data := #[] }, .slice (some ⟨w2.heap.size + 1, 0, none⟩) 1 1]) (by simp [results, Tryz.results23, go_sem, *]) rfl ?_
        refine un_post HK.out H.out.size rfl ?_ (by simp)
        have h0 := grown_refl w2 (some w.heap.size)
        repeat (first | with_reducible exact h0 | with_reducible refine grown_set ?_ _ _ | with_reducible refine grown_drew ?_ | with_reducible refine grown_alloc ?_ _)
      · refine bodyPost_ret (v := .agg #[.int .i64 3, .string { data := #[45] }, .int .i64 0, .string { data := #[] }, .slice (some ⟨w2.heap.size, 0, none⟩) 1 1]) (by simp [results, Tryz.results23, go_sem, *]) rfl ?_
        refine post_alloc ?_ _
        refine un_post HK.out H.out.size rfl ?_ (by simp)
        have h0 := grown_refl w2 (some w.heap.size)
        repeat (first | with_reducible exact h0 | with_reducible refine grown_set ?_ _ _ | with_reducible refine grown_drew ?_ | with_reducible refine grown_alloc ?_ _)
    · rw [hv] at t2 u3
      go_region_with
      (first
        | (go_at_call 23; have hx := IH.out q _ H1.out.drew; ((with_reducible refine hx.mono ?_); clear hx; rintro e w2 ⟨T, q2, he, hT, hin, h2, hg2⟩); rw [ET.val_is] at he; subst he; have hR2 := (hg2.block w.heap.size hlt (by have := NF.out; simp; omega)).trans HR.out; obtain ⟨s0, s1, s2, s3, s4⟩ := cells5 hR2; have y0 := bk_free (k := 0) hR2; have y1 := bk_free (k := 1) hR2; have y2 := bk_free (k := 2) hR2; have y3 := bk_free (k := 3) hR2; have y4 := bk_free (k := 4) hR2; have HR2 := hid hR2; have HK := hid (kid_of hT h2 (grown_drew (grown_trans (World.grownBy_alloc w _ (some f)) HG1.out)) hg2 hin hlt); have hlt2 : w.heap.size < w2.heap.size := lt_of_block hR2; clear h2 hg2 hR2 hin hT)
        | (go_at_call 23; have hx := IH.out q _ (H1.out.alloc (.cells #[.string { data := #[45] }, .string { data := #[126] }, .string { data := #[33] }] 9)).drew; ((with_reducible refine hx.mono ?_); clear hx; rintro e w2 ⟨T, q2, he, hT, hin, h2, hg2⟩); rw [ET.val_is] at he; subst he; have hR3 := (hg2.block w1.heap.size (by simp) (by have := NF.out; simp; omega)).trans (bk_new _ _); have q0 : w2.cell? ⟨w1.heap.size, 0, none⟩ = some (.string { data := #[45] }) := bk_cell hR3 rfl; have q1 : w2.cell? ⟨w1.heap.size, 1, none⟩ = some (.string { data := #[126] }) := bk_cell hR3 rfl; have q2 : w2.cell? ⟨w1.heap.size, 2, none⟩ = some (.string { data := #[33] }) := bk_cell hR3 rfl; have hlt3 : w1.heap.size < w2.heap.size := lt_of_block hR3; clear hR3; have hR2 := (hg2.block w.heap.size (by simp; omega) (by have := NF.out; simp; omega)).trans (bk_old _ HR.out); obtain ⟨s0, s1, s2, s3, s4⟩ := cells5 hR2; have y0 := bk_free (k := 0) hR2; have y1 := bk_free (k := 1) hR2; have y2 := bk_free (k := 2) hR2; have y3 := bk_free (k := 3) hR2; have y4 := bk_free (k := 4) hR2; have HR2 := hid hR2; have HK := hid (kid_of hT h2 (grown_drew (grown_alloc (grown_trans (World.grownBy_alloc w _ (some f)) HG1.out) _)) hg2 hin (by simp; omega)); have hlt2 : w.heap.size < w2.heap.size := lt_of_block hR2; clear h2 hg2 hR2 hin hT))
      all_goals go_wp2
      · refine bodyPost_ret (v := .agg #[.int .i64 3, .string { data := #[126] }, .int .i64 0, .string { data := #[] }, .slice (some ⟨w2.heap.size, 0, none⟩) 1 1]) (by simp [results, Tryz.results23, go_sem, *]) rfl ?_
        refine un_post HK.out H.out.size rfl ?_ (by simp)
        have h0 := grown_refl w2 (some w.heap.size)
        repeat (first | with_reducible exact h0 | with_reducible refine grown_set ?_ _ _ | with_reducible refine grown_drew ?_ | with_reducible refine grown_alloc ?_ _)
      · refine bodyPost_ret (v := .agg #[.int .i64 3, .string { data := #[126] }, .int .i64 0, .string { data := #[] }, .slice (some ⟨w2.heap.size, 0, none⟩) 1 1]) (by simp [results, Tryz.results23, go_sem, *]) rfl ?_
        refine un_post HK.out H.out.size rfl ?_ (by simp)
        have h0 := grown_refl w2 (some w.heap.size)
        repeat (first | with_reducible exact h0 | with_reducible refine grown_set ?_ _ _ | with_reducible refine grown_drew ?_ | with_reducible refine grown_alloc ?_ _)
      · refine bodyPost_ret (v := .agg #[.int .i64 3, .string { data := #[126] }, .int .i64 0, .string { data := #[] }, .slice (some ⟨w2.heap.size, 0, none⟩) 1 1]) (by simp [results, Tryz.results23, go_sem, *]) rfl ?_
        refine un_post HK.out H.out.size rfl ?_ (by simp)
        have h0 := grown_refl w2 (some w.heap.size)
        repeat (first | with_reducible exact h0 | with_reducible refine grown_set ?_ _ _ | with_reducible refine grown_drew ?_ | with_reducible refine grown_alloc ?_ _)
      · refine bodyPost_ret (v := .agg #[.int .i64 3, .string { data := #[126] }, .int .i64 0, .string { data := #[] }, .slice (some ⟨w2.heap.size + 1, 0, none⟩) 1 1]) (by simp [results, Tryz.results23, go_sem, *]) rfl ?_
        refine un_post HK.out H.out.size rfl ?_ (by simp)
        have h0 := grown_refl w2 (some w.heap.size)
        repeat (first | with_reducible exact h0 | with_reducible refine grown_set ?_ _ _ | with_reducible refine grown_drew ?_ | with_reducible refine grown_alloc ?_ _)
      · refine bodyPost_ret (v := .agg #[.int .i64 3, .string { data := #[126] }, .int .i64 0, .string { data := #[] }, .slice (some ⟨w2.heap.size + 1, 0, none⟩) 1 1]) (by simp [results, Tryz.results23, go_sem, *]) rfl ?_
        refine un_post HK.out H.out.size rfl ?_ (by simp)
        have h0 := grown_refl w2 (some w.heap.size)
        repeat (first | with_reducible exact h0 | with_reducible refine grown_set ?_ _ _ | with_reducible refine grown_drew ?_ | with_reducible refine grown_alloc ?_ _)
      · refine bodyPost_ret (v := .agg #[.int .i64 3, .string { data := #[126] }, .int .i64 0, .string { data := #[] }, .slice (some ⟨w2.heap.size, 0, none⟩) 1 1]) (by simp [results, Tryz.results23, go_sem, *]) rfl ?_
        refine post_alloc ?_ _
        refine un_post HK.out H.out.size rfl ?_ (by simp)
        have h0 := grown_refl w2 (some w.heap.size)
        repeat (first | with_reducible exact h0 | with_reducible refine grown_set ?_ _ _ | with_reducible refine grown_drew ?_ | with_reducible refine grown_alloc ?_ _)
    · rw [hv] at t2 u3
      go_region_with
      (first
        | (go_at_call 23; have hx := IH.out q _ H1.out.drew; ((with_reducible refine hx.mono ?_); clear hx; rintro e w2 ⟨T, q2, he, hT, hin, h2, hg2⟩); rw [ET.val_is] at he; subst he; have hR2 := (hg2.block w.heap.size hlt (by have := NF.out; simp; omega)).trans HR.out; obtain ⟨s0, s1, s2, s3, s4⟩ := cells5 hR2; have y0 := bk_free (k := 0) hR2; have y1 := bk_free (k := 1) hR2; have y2 := bk_free (k := 2) hR2; have y3 := bk_free (k := 3) hR2; have y4 := bk_free (k := 4) hR2; have HR2 := hid hR2; have HK := hid (kid_of hT h2 (grown_drew (grown_trans (World.grownBy_alloc w _ (some f)) HG1.out)) hg2 hin hlt); have hlt2 : w.heap.size < w2.heap.size := lt_of_block hR2; clear h2 hg2 hR2 hin hT)
        | (go_at_call 23; have hx := IH.out q _ (H1.out.alloc (.cells #[.string { data := #[45] }, .string { data := #[126] }, .string { data := #[33] }] 9)).drew; ((with_reducible refine hx.mono ?_); clear hx; rintro e w2 ⟨T, q2, he, hT, hin, h2, hg2⟩); rw [ET.val_is] at he; subst he; have hR3 := (hg2.block w1.heap.size (by simp) (by have := NF.out; simp; omega)).trans (bk_new _ _); have q0 : w2.cell? ⟨w1.heap.size, 0, none⟩ = some (.string { data := #[45] }) := bk_cell hR3 rfl; have q1 : w2.cell? ⟨w1.heap.size, 1, none⟩ = some (.string { data := #[126] }) := bk_cell hR3 rfl; have q2 : w2.cell? ⟨w1.heap.size, 2, none⟩ = some (.string { data := #[33] }) := bk_cell hR3 rfl; have hlt3 : w1.heap.size < w2.heap.size := lt_of_block hR3; clear hR3; have hR2 := (hg2.block w.heap.size (by simp; omega) (by have := NF.out; simp; omega)).trans (bk_old _ HR.out); obtain ⟨s0, s1, s2, s3, s4⟩ := cells5 hR2; have y0 := bk_free (k := 0) hR2; have y1 := bk_free (k := 1) hR2; have y2 := bk_free (k := 2) hR2; have y3 := bk_free (k := 3) hR2; have y4 := bk_free (k := 4) hR2; have HR2 := hid hR2; have HK := hid (kid_of hT h2 (grown_drew (grown_alloc (grown_trans (World.grownBy_alloc w _ (some f)) HG1.out) _)) hg2 hin (by simp; omega)); have hlt2 : w.heap.size < w2.heap.size := lt_of_block hR2; clear h2 hg2 hR2 hin hT))
      all_goals go_wp2
      · refine bodyPost_ret (v := .agg #[.int .i64 3, .string { data := #[33] }, .int .i64 0, .string { data := #[] }, .slice (some ⟨w2.heap.size, 0, none⟩) 1 1]) (by simp [results, Tryz.results23, go_sem, *]) rfl ?_
        refine un_post HK.out H.out.size rfl ?_ (by simp)
        have h0 := grown_refl w2 (some w.heap.size)
        repeat (first | with_reducible exact h0 | with_reducible refine grown_set ?_ _ _ | with_reducible refine grown_drew ?_ | with_reducible refine grown_alloc ?_ _)
      · refine bodyPost_ret (v := .agg #[.int .i64 3, .string { data := #[33] }, .int .i64 0, .string { data := #[] }, .slice (some ⟨w2.heap.size, 0, none⟩) 1 1]) (by simp [results, Tryz.results23, go_sem, *]) rfl ?_
        refine un_post HK.out H.out.size rfl ?_ (by simp)
        have h0 := grown_refl w2 (some w.heap.size)
        repeat (first | with_reducible exact h0 | with_reducible refine grown_set ?_ _ _ | with_reducible refine grown_drew ?_ | with_reducible refine grown_alloc ?_ _)
      · refine bodyPost_ret (v := .agg #[.int .i64 3, .string { data := #[33] }, .int .i64 0, .string { data := #[] }, .slice (some ⟨w2.heap.size, 0, none⟩) 1 1]) (by simp [results, Tryz.results23, go_sem, *]) rfl ?_
        refine un_post HK.out H.out.size rfl ?_ (by simp)
        have h0 := grown_refl w2 (some w.heap.size)
        repeat (first | with_reducible exact h0 | with_reducible refine grown_set ?_ _ _ | with_reducible refine grown_drew ?_ | with_reducible refine grown_alloc ?_ _)
      · refine bodyPost_ret (v := .agg #[.int .i64 3, .string { data := #[33] }, .int .i64 0, .string { data := #[] }, .slice (some ⟨w2.heap.size + 1, 0, none⟩) 1 1]) (by simp [results, Tryz.results23, go_sem, *]) rfl ?_
        refine un_post HK.out H.out.size rfl ?_ (by simp)
        have h0 := grown_refl w2 (some w.heap.size)
        repeat (first | with_reducible exact h0 | with_reducible refine grown_set ?_ _ _ | with_reducible refine grown_drew ?_ | with_reducible refine grown_alloc ?_ _)
      · refine bodyPost_ret (v := .agg #[.int .i64 3, .string { data := #[33] }, .int .i64 0, .string { data := #[] }, .slice (some ⟨w2.heap.size + 1, 0, none⟩) 1 1]) (by simp [results, Tryz.results23, go_sem, *]) rfl ?_
        refine un_post HK.out H.out.size rfl ?_ (by simp)
        have h0 := grown_refl w2 (some w.heap.size)
        repeat (first | with_reducible exact h0 | with_reducible refine grown_set ?_ _ _ | with_reducible refine grown_drew ?_ | with_reducible refine grown_alloc ?_ _)
      · refine bodyPost_ret (v := .agg #[.int .i64 3, .string { data := #[33] }, .int .i64 0, .string { data := #[] }, .slice (some ⟨w2.heap.size, 0, none⟩) 1 1]) (by simp [results, Tryz.results23, go_sem, *]) rfl ?_
        refine post_alloc ?_ _
        refine un_post HK.out H.out.size rfl ?_ (by simp)
        have h0 := grown_refl w2 (some w.heap.size)
        repeat (first | with_reducible exact h0 | with_reducible refine grown_set ?_ _ _ | with_reducible refine grown_drew ?_ | with_reducible refine grown_alloc ?_ _)
  · have hx := IH.out q _ (H1.out.alloc (.cells bopC 9))
    refine hx.mono ?_
    clear hx
    rintro e w2 ⟨T, q2, he, hT, hin, h2, hg2⟩
    rw [ET.val_is] at he
    subst he
    have NF : Hid (f < w.heap.size) := hid HB
    have hO := (hg2.block w1.heap.size (by simp) (by simp; omega)).trans (bk_new _ _)
    have hR2 := (hg2.block w.heap.size (by simp; omega) (by simp; omega)).trans (bk_old _ HR.out)
    have HK := hid (kid_of hT h2 (grown_alloc (grown_trans (World.grownBy_alloc w _ (some f)) HG1.out) _) hg2 hin (by simp; omega))
    have hlt3 : w1.heap.size < w2.heap.size := lt_of_block hO
    clear r0 r1 r2 r3 r4 z0 z1 z2 z3 z4 hn hin hT
    have HG2 := hid hg2
    have H2 := hid h2
    have HO2 := hid hO
    have HR2 := hid hR2
    clear hg2 h2 hO hR2
    go_wp2
    have HX : Hid ((w2.alloc (.cells #[.int .i64 T.kind, .string T.op, .int .i64 T.n, .string T.name, .slice T.kaddr T.kids.length T.kcap] 26)).heap[w2.heap.size]? = some (.cells #[.int .i64 T.kind, .string T.op, .int .i64 T.n, .string T.name, .slice T.kaddr T.kids.length T.kcap] 26 (0, 0))) := hid (bk_new _ _)
    have HO3 := hid (bk_old (.cells #[.int .i64 T.kind, .string T.op, .int .i64 T.n, .string T.name, .slice T.kaddr T.kids.length T.kcap] 26) HO2.out)
    have HR3 := hid (bk_old (.cells #[.int .i64 T.kind, .string T.op, .int .i64 T.n, .string T.name, .slice T.kaddr T.kids.length T.kcap] 26) HR2.out)
    have H3 := hid (H2.out.alloc (.cells #[.int .i64 T.kind, .string T.op, .int .i64 T.n, .string T.name, .slice T.kaddr T.kids.length T.kcap] 26))
    have HG3 := hid (World.grownBy_alloc w2 (.cells #[.int .i64 T.kind, .string T.op, .int .i64 T.n, .string T.name, .slice T.kaddr T.kids.length T.kcap] 26) (some f))
    have HS3 : Hid (w.heap.size < w1.heap.size ∧ w1.heap.size < w2.heap.size) := hid ⟨hlt, hlt3⟩
    have HXn : Hid (w2.heap.size < (w2.alloc (.cells #[.int .i64 T.kind, .string T.op, .int .i64 T.n, .string T.name, .slice T.kaddr T.kids.length T.kcap] 26)).heap.size) := hid (by simp)
    clear HO2 HR2 H2 HR H1 HG1 HG2 hlt hlt3
    generalize (w2.alloc (.cells #[.int .i64 T.kind, .string T.op, .int .i64 T.n, .string T.name, .slice T.kaddr T.kids.length T.kcap] 26)) = w3 at HX HO3 HR3 H3 HG3 HXn ⊢
    generalize w2.heap.size = X at HX HS3 HXn ⊢
    generalize w1.heap.size = O at HO3 HS3 ⊢
    obtain ⟨x0, x1, x2, x3, x4⟩ := cells5 HX.out
    have ho : ∀ k, k < 22 → w3.cell? ⟨O, k, none⟩ = some (.string (bopN k)) := fun k hk => bk_cell HO3.out (bopC_at k hk)
    have ne1 : ¬ w.heap.size = X := by have := HS3.out; omega
    have ne2 : ¬ w.heap.size = O := by have := HS3.out; omega
    go_region_held3 (fun w' => (w'.cell? ⟨X, 0, none⟩ = some (.int .i64 T.kind) ∧ w'.cell? ⟨X, 1, none⟩ = some (.string T.op) ∧ w'.cell? ⟨X, 2, none⟩ = some (.int .i64 T.n) ∧ w'.cell? ⟨X, 3, none⟩ = some (.string T.name) ∧ w'.cell? ⟨X, 4, none⟩ = some (.slice T.kaddr T.kids.length T.kcap)) ∧ ∀ k, k < 22 → w'.cell? ⟨O, k, none⟩ = some (.string (bopN k))) ((refine ⟨⟨?_, ?_, ?_, ?_, ?_⟩, ?_⟩ <;> (repeat (first | with_reducible assumption | with_reducible refine OpsW.drew ?_ | with_reducible refine OpsW.alloc ?_ _ | with_reducible refine OpsW.set ?_ ne2 | with_reducible refine cellD ?_ | with_reducible refine cellA ?_ _ | with_reducible refine cellS ?_ ne1))))
      (first
        | (go_at_call 43; have hx := next_any H3.out.drew; ((with_reducible refine hx.mono ?_); clear hx; rintro e w4 ⟨v2, q3, rfl, ⟨b0, b1⟩, h4, hg4⟩); have hX4 := (hg4.block X (lt_of_block HX.out) (by have := HS3.out; have := NF.out; simp; omega)).trans HX.out; have hO4 := (hg4.block O (lt_of_block HO3.out) (by have := HS3.out; have := NF.out; simp; omega)).trans HO3.out; have hR4 := (hg4.block w.heap.size (lt_of_block HR3.out) (by have := NF.out; simp; omega)).trans HR3.out; obtain ⟨xx0, xx1, xx2, xx3, xx4⟩ := cells5 hX4; have ho4 : ∀ k, k < 22 → w4.cell? ⟨O, k, none⟩ = some (.string (bopN k)) := (fun k hk => bk_cell hO4 (bopC_at k hk)); have HX4 := hid hX4; have HO4 := hid hO4; have HR4 := hid hR4; have H4 := hid h4; have HG4 := hid hg4; obtain ⟨k2, hk2, hv2⟩ : ∃ k2 : Nat, k2 < 22 ∧ v2.tmod 22 = k2 := ⟨(v2 % 22).toNat, by omega, by rw [Int.tmod_eq_emod_of_nonneg b0]; omega⟩; have hv3 : v2 % 22 = k2 := (by rw [← Int.tmod_eq_emod_of_nonneg b0]; exact hv2); have i0 : (0 : Int) ≤ k2 := (by omega); have i1 : (k2 : Int) < 22 := (by omega); clear hX4 hO4 hR4 h4 hg4)
        | (go_at_call 23; have hx := IH.out q3 _ H4.out; ((with_reducible refine hx.mono ?_); clear hx; rintro e w5 ⟨U, q5, he, hU, hin5, h5, hg5⟩); rw [ET.val_is] at he; subst he; have hX5 := (hg5.block X (lt_of_block HX4.out) (by have := HS3.out; have := NF.out; simp; omega)).trans HX4.out; have hO5 := (hg5.block O (lt_of_block HO4.out) (by have := HS3.out; have := NF.out; simp; omega)).trans HO4.out; have hR5 := (hg5.block w.heap.size (lt_of_block HR4.out) (by have := NF.out; simp; omega)).trans HR4.out; obtain ⟨y0, y1, y2, y3, y4⟩ := cells5 hX5; have ho5 : ∀ k, k < 22 → w5.cell? ⟨O, k, none⟩ = some (.string (bopN k)) := (fun k hk => bk_cell hO5 (bopC_at k hk)); obtain ⟨s0, s1, s2, s3, s4⟩ := cells5 hR5; have z0 := bk_free (k := 0) hR5; have z1 := bk_free (k := 1) hR5; have z2 := bk_free (k := 2) hR5; have z3 := bk_free (k := 3) hR5; have z4 := bk_free (k := 4) hR5; have HR5 := hid hR5; have H5 := hid h5; have HG5 := hid hg5; have HU := hid (And.intro hU hin5); have hlt5 : w.heap.size < w5.heap.size := lt_of_block hR5; clear hX5 hO5 hR5 h5 hg5 hU hin5))
    have HLE := hid (bopN_lev k2 hk2)
    clear ho ho4 ho5
    go_wp2
    refine bodyPost_ret (v := .agg #[.int .i64 4, .string (bopN k2), .int .i64 0, .string { data := #[] }, .slice (some ⟨w5.heap.size, 0, none⟩) 2 2]) (by simp [results, Tryz.results23, go_sem, *]) rfl ?_
    have e1 : w2.grownBy w3 (some f) := HG3.out
    have e2 : w3.grownBy w3.drew (some f) := grown_drew (grown_refl w3 (some f))
    have e3 : w3.drew.grownBy w4 (some f) := HG4.out
    have e4 : w4.grownBy w5 (some f) := HG5.out
    have hgg : w2.grownBy w5 (some f) := grown_trans e1 (grown_trans e2 (grown_trans e3 e4))
    have hRA : w.heap.size < w4.heap.size := lt_of_block HR4.out
    have hP := fun wx g hx hgx => two_post (wx := wx) (g := g) HK.out H.out.size hgg H5.out HU.out.1 HU.out.2 hRA HG5.out.size NF.out HLE.out hx hgx
    with_reducible refine hP _ _ ?_ (by simp)
    have h0 := grown_refl w5 (some w.heap.size)
    repeat (first | with_reducible exact h0 | with_reducible refine grown_set ?_ _ _ | with_reducible refine grown_drew ?_ | with_reducible refine grown_alloc ?_ _)
end
end Go.Proofs.YtdaklmbifkehpaaGreatDoor

set_option linter.unusedSimpArgs false
set_option linter.unusedVariables false
namespace Go.Proofs.YtdaklmbifkehpaaGreatDoor
open Go Go.RowKit

theorem feedE_any {F : FeedC} {B f : Nat} {left tag : Int} : ∀ (d : Nat), d ≤ 9 → ∀ (p : Nat) (w : World), Fd F B f p left tag w → Calls Tryz.prog 23 #[.pointer (some ⟨f, 0, none⟩), .int .i64 d] w (ExprPost F B f d left tag w)
  | 0, _, p, w, h => feedE_zero p w h
  | d + 1, hd, p, w, h => feedE_succ d p (by omega) (fun p w h => feedE_any d (by omega) p w h) w h
theorem names_lit {B f ia : Nat} {ns : List ByteArray} {t : TypeId} {fr : Nat × Nat} {w : World} (h : w.heap[ia]? = some (.cells (ns.map Value.string).toArray t fr)) (h1 : ia < B) (h2 : ia ≠ f) (h3 : 0 < ns.length ∧ ns.length ≤ 10) (h4 : ns.all nmB = true) : NamesIn B f ia ns w :=
  ⟨h1, h2, h3, fun i hi => by
    have e : ns.getD i mE = ns[i] := by rw [List.getD_eq_getElem?_getD, List.getElem?_eq_getElem hi]; rfl
    refine ⟨bk_cell h ?_, ?_⟩
    · rw [List.getElem?_toArray, List.getElem?_map, List.getElem?_eq_getElem hi, e]; rfl
    · rw [e]; exact List.all_eq_true.1 h4 _ (List.getElem_mem hi)⟩
theorem mk_feed {w wk : World} {a : Option Addr} {len cap : Nat} {zs : List Int} {ia xa f B : Nat} {ns ms : List ByteArray} {t t' : TypeId} {main : Bool} {left tag : Int} (r : RowIn .u8 w a len zs) (hb : ∀ b, b < w.heap.size → wk.heap[b]? = w.heap[b]?)
    (h1 : wk.heap[ia]? = some (.cells (ns.map Value.string).toArray t (0, 0))) (h2 : wk.heap[xa]? = some (.cells (ms.map Value.string).toArray t' (0, 0)))
    (h3 : wk.heap[f]? = some (.cells #[.slice a len cap, .int .i64 0, .slice (some ⟨ia, 0, none⟩) ns.length ns.length, .slice (some ⟨xa, 0, none⟩) ms.length ms.length, .int .i64 left, .int .i64 tag, .bool main] 54 (0, 0)))
    (l1 : ia < B) (l2 : xa < B) (l3 : f < B) (l4 : B ≤ wk.heap.size) (n1 : ia ≠ f) (n2 : xa ≠ f) (n3 : w.heap.size ≤ f) (n4 : w.heap.size ≤ B)
    (c1 : 0 < ns.length ∧ ns.length ≤ 10) (c2 : 0 < ms.length ∧ ms.length ≤ 10) (c3 : ns.all nmB = true) (c4 : ms.all nmB = true) :
    Fd ⟨a, len, cap, zs, ia, ns, xa, ms, main⟩ B f 0 left tag wk :=
  ⟨l3, l4, h3, Nat.zero_le _, r.1, fun i hi => by
    obtain ⟨b, off, e, hlt, hc⟩ := r.2 (show 0 < len from Nat.lt_of_le_of_lt (Nat.zero_le _) hi)
    obtain ⟨h5, h6⟩ := hc i hi
    refine ⟨b, off, e, by omega, by omega, ?_, ?_⟩
    · rw [World.cell?_of_block (w := w) (hb b hlt)]; exact h5
    · simp only [Lit.wf, IntKind.min, IntKind.max, Bool.and_eq_true] at h6
      exact ⟨of_decide_eq_true h6.1, of_decide_eq_true h6.2⟩, names_lit h1 l1 n1 c1 c3, names_lit h2 l2 n2 c2 c4⟩
end Go.Proofs.YtdaklmbifkehpaaGreatDoor

set_option linter.unusedSimpArgs false
set_option linter.unusedVariables false
namespace Go.Proofs.YtdaklmbifkehpaaGreatDoor
open Go Go.RowKit

end Go.Proofs.YtdaklmbifkehpaaGreatDoor

set_option linter.unusedSimpArgs false
set_option linter.unusedVariables false
namespace Go.Proofs.YtdaklmbifkehpaaGreatDoor
open Go Go.RowKit

abbrev zS : Array Value := #[.int .i64 0, .int .i64 0, .string { data := #[] }, .string { data := #[] }, .slice none 0 0, .slice none 0 0, .slice none 0 0]
def FeedC.nq (F : FeedC) (p : Nat) : Nat := if p < F.len then p + 1 else p
section
variable {F : FeedC} {B f : Nat} {p : Nat} {left tag : Int} {w : World}
end
def leftOf (f : Nat) (w : World) : Int := intOf ((w.cell? ⟨f, 4, none⟩).getD (.bool false))
structure MidS (F : FeedC) (B f : Nat) (w : World) (X : Nat) (c : Nat → Value) (q : Nat) (left tag : Int) (v : World) : Prop where
  lt : w.heap.size < X
  hB : B ≤ w.heap.size
  hf : f < B
  hX : v.heap[X]? = some (.cells #[c 0, c 1, c 2, c 3, c 4, c 5, c 6] 130 (0, 0))
  hR : v.heap[w.heap.size]? = some (.cells zS 130 (0, 0))
  fd : Fd F B f q left tag v
  gr : w.grownBy v (some f)
  lo : left ≤ leftOf f w
def upd (c : Nat → Value) (k : Nat) (u : Value) : Nat → Value := fun i => if i = k then u else c i
def Three (f R X : Nat) (b : Nat) : Prop := b = f ∨ b = R ∨ b = X
section
variable {F : FeedC} {B f X : Nat} {c : Nat → Value} {q : Nat} {left tag : Int} {w v : World}
theorem MidS.xlt (h : MidS F B f w X c q left tag v) : X < v.heap.size := lt_of_block h.hX
theorem MidS.alloc (h : MidS F B f w X c q left tag v) (o : Obj) : MidS F B f w X c q left tag (v.alloc o) := ⟨h.lt, h.hB, h.hf, bk_old _ h.hX, bk_old _ h.hR, h.fd.alloc _, grown_alloc h.gr _, h.lo⟩
theorem MidS.drew (h : MidS F B f w X c q left tag v) : MidS F B f w X c q left tag v.drew := ⟨h.lt, h.hB, h.hf, h.hX, h.hR, h.fd.drew, grown_drew h.gr, h.lo⟩
theorem MidS.drewN (h : MidS F B f w X c q left tag v) (n : Nat) : MidS F B f w X c q left tag (v.drewN n) := ⟨h.lt, h.hB, h.hf, h.hX, h.hR, h.fd.drewN _, grown_drewN h.gr _, h.lo⟩
theorem MidS.set (h : MidS F B f w X c q left tag v) {k : Nat} (hk : k < 7) (u : Value) : MidS F B f w X (upd c k u) q left tag (v.setCell ⟨X, k, none⟩ u) := by
  have hne : w.heap.size ≠ X := by have := h.lt; omega
  refine ⟨h.lt, h.hB, h.hf, ?_, (Below.heap_setCell _ _ _ _ hne).trans h.hR, h.fd.far (by have := h.hB; have := h.lt; omega) _ _, grown_new h.gr (Nat.le_of_lt h.lt) _ _, h.lo⟩
  rw [bk_set u h.hX]
  match k, hk with
  | 0, _ => rfl
  | 1, _ => rfl
  | 2, _ => rfl
  | 3, _ => rfl
  | 4, _ => rfl
  | 5, _ => rfl
  | 6, _ => rfl
theorem MidS.call (h : MidS F B f w X c q left tag v) {v' : World} {q' : Nat} {l' t' : Int} (hd : Fd F B f q' l' t' v') (hg : v.grownBy v' (some f)) (hl : l' ≤ left) : MidS F B f w X c q' l' t' v' :=
  ⟨h.lt, h.hB, h.hf, (hg.block X h.xlt (by have := h.lt; have := h.hB; have := h.hf; simp; omega)).trans h.hX, (hg.block _ (lt_of_block h.hR) (by have := h.hB; have := h.hf; simp; omega)).trans h.hR, hd, grown_trans h.gr hg, Int.le_trans hl h.lo⟩
theorem MidS.expr (h : MidS F B f w X c q left tag v) (d : Nat) (hd : d ≤ 9) : Calls Tryz.prog 23 #[.pointer (some ⟨f, 0, none⟩), .int .i64 d] v (fun e v' => ∃ (T : ET) (q' : Nat), e = .returned (.agg #[.int .i64 T.kind, .string T.op, .int .i64 T.n, .string T.name, .slice T.kaddr T.kids.length T.kcap]) ∧ GE d T ∧ T.In v' v.heap.size ∧ X < v.heap.size ∧ MidS F B f w X c q' left tag v' ∧ KeptP (Three f w.heap.size X) v v') := by
  refine (feedE_any d hd q v h.fd).mono ?_
  rintro e v' ⟨T, q', he, hT, hin, h2, hg⟩
  rw [ET.val_is] at he
  exact ⟨T, q', he, hT, hin, h.xlt, h.call h2 hg (Int.le_refl _), (KeptP.refl _ _).grown (Or.inl rfl) hg⟩
end
end Go.Proofs.YtdaklmbifkehpaaGreatDoor
