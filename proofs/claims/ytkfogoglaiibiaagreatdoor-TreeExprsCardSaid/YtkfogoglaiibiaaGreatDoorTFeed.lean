/- The feed of billhooklaw03: a block that holds bytes, where it stands in them, names, how many statements there may be more; the next byte. -/
import Derived.Test.YtkfogoglaiibiaaGreatDoorTFeedM
import Derived.Test.YtkfogoglaiibiaaGreatDoorTExpr
import Derived.Deep.QuietTactic
import Derived.BigQuiet
import Derived.Deep.RegionHeld3
import Derived.IntWalk
set_option linter.unusedSimpArgs false
set_option linter.unusedVariables false
namespace Go.Proofs.YtkfogoglaiibiaaGreatDoor
open Go Go.RowKit

theorem setCell_grown (w : World) (f k : Nat) (u : Value) : w.grownBy (w.setCell ⟨f, k, none⟩ u) (some f) :=
  ⟨rfl, rfl, rfl, by simp [World.setCell], fun k _ hk => Below.heap_setCell _ _ _ _ (fun e => hk (by simp [e]))⟩
theorem grown_refl (w : World) (r : Option Nat) : w.grownBy w r := ⟨rfl, rfl, rfl, Nat.le_refl _, fun _ _ _ => rfl⟩
theorem grown_trans {w w1 w2 : World} {r : Option Nat} (h : w.grownBy w1 r) (k : w1.grownBy w2 r) : w.grownBy w2 r :=
  ⟨k.os.trans h.os, k.tape.trans h.tape, k.output.trans h.output, Nat.le_trans h.size k.size, fun i hi hr => (k.block i (Nat.lt_of_lt_of_le hi h.size) hr).trans (h.block i hi hr)⟩
theorem grown_alloc {w w1 : World} {r : Option Nat} (h : w.grownBy w1 r) (o : Obj) : w.grownBy (w1.alloc o) r := grown_trans h (World.grownBy_alloc _ o r)
theorem grown_drew {w w1 : World} {r : Option Nat} (h : w.grownBy w1 r) : w.grownBy w1.drew r := grown_trans h ⟨rfl, rfl, rfl, Nat.le_refl _, fun _ _ _ => rfl⟩
theorem grown_drewN {w w1 : World} {r : Option Nat} (h : w.grownBy w1 r) (n : Nat) : w.grownBy (w1.drewN n) r := grown_trans h ⟨rfl, rfl, rfl, Nat.le_refl _, fun _ _ _ => rfl⟩
theorem grown_set {w w1 : World} {f : Nat} (h : w.grownBy w1 (some f)) (k : Nat) (u : Value) : w.grownBy (w1.setCell ⟨f, k, none⟩ u) (some f) := grown_trans h (setCell_grown _ _ _ _)

theorem grown_new {w w1 : World} {r : Option Nat} (h : w.grownBy w1 r) {R : Nat} (hR : w.heap.size ≤ R) (k : Nat) (u : Value) : w.grownBy (w1.setCell ⟨R, k, none⟩ u) r :=
  ⟨h.os, h.tape, h.output, by simpa [World.setCell] using h.size, fun i hi hr => (Below.heap_setCell _ _ _ _ (by simp; omega)).trans (h.block i hi hr)⟩
/-- What of a feed never turns: its bytes, and where they lie; its names, and where they lie. -/
structure FeedC where
  la : Option Addr
  len : Nat
  cap : Nat
  zs : List Int
  ia : Nat
  ns : List ByteArray
  xa : Nat
  ms : List ByteArray
  main : Bool
/-- Names lie there. -/
def NamesIn (B f ia : Nat) (ns : List ByteArray) (w : World) : Prop := ia < B ∧ ia ≠ f ∧ (0 < ns.length ∧ ns.length ≤ 10) ∧ ∀ i, i < ns.length → w.cell? ⟨ia, i, none⟩ = some (.string (ns.getD i mE)) ∧ nmB (ns.getD i mE) = true
theorem NamesIn.grown {B f ia : Nat} {ns : List ByteArray} {w w' : World} (h : NamesIn B f ia ns w) (hs : B ≤ w.heap.size) (hg : w.grownBy w' (some f)) : NamesIn B f ia ns w' :=
  ⟨h.1, h.2.1, h.2.2.1, fun i hi => ⟨by
    have h1 := (h.2.2.2 i hi).1
    rw [World.cell?_of_block (w := w) (hg.block ia (by have := h.1; omega) (by have := h.2.1; simp; omega))]
    exact h1, (h.2.2.2 i hi).2⟩⟩
/-- Block f is the feed; it stands at byte p; what it makes lies in blocks from B on. -/
structure Fd (F : FeedC) (B f : Nat) (p : Nat) (left tag : Int) (w : World) : Prop where
  lt : f < B
  size : B ≤ w.heap.size
  blk : w.heap[f]? = some (.cells #[.slice F.la F.len F.cap, .int .i64 p, .slice (some ⟨F.ia, 0, none⟩) F.ns.length F.ns.length, .slice (some ⟨F.xa, 0, none⟩) F.ms.length F.ms.length, .int .i64 left, .int .i64 tag, .bool F.main] 74 (0, 0))
  lep : p ≤ F.len
  lel : F.len ≤ 9223372036854775807
  bytes : ∀ i, i < F.len → ∃ b off, F.la = some ⟨b, off, none⟩ ∧ b < B ∧ b ≠ f ∧ w.cell? ⟨b, off + i, none⟩ = some (.int .u8 (F.zs.getD i 0)) ∧ 0 ≤ F.zs.getD i 0 ∧ F.zs.getD i 0 ≤ 255
  ints : NamesIn B f F.ia F.ns w
  arrs : NamesIn B f F.xa F.ms w
section
variable {F : FeedC} {B f : Nat} {p : Nat} {left tag : Int} {w : World}
theorem Fd.put (h : Fd F B f p left tag w) {w' : World} (hg : w.grownBy w' (some f)) {q : Nat} {l' t' : Int} (hq : q ≤ F.len) (hb : w'.heap[f]? = some (.cells #[.slice F.la F.len F.cap, .int .i64 q, .slice (some ⟨F.ia, 0, none⟩) F.ns.length F.ns.length, .slice (some ⟨F.xa, 0, none⟩) F.ms.length F.ms.length, .int .i64 l', .int .i64 t', .bool F.main] 74 (0, 0))) : Fd F B f q l' t' w' :=
  ⟨h.lt, Nat.le_trans h.size hg.size, hb, hq, h.lel, fun i hi => by
    obtain ⟨b, off, e, hb, hne, hc, hv⟩ := h.bytes i hi
    refine ⟨b, off, e, hb, hne, ?_, hv⟩
    rw [World.cell?_of_block (w := w) (hg.block b (by have := h.size; omega) (by simp; omega))]
    exact hc, h.ints.grown h.size hg, h.arrs.grown h.size hg⟩
theorem Fd.setp (h : Fd F B f p left tag w) {q : Nat} (hq : q ≤ F.len) : Fd F B f q left tag (w.setCell ⟨f, 1, none⟩ (.int .i64 q)) := h.put (setCell_grown _ _ _ _) hq (bk_set _ h.blk)
theorem Fd.setl (h : Fd F B f p left tag w) (l' : Int) : Fd F B f p l' tag (w.setCell ⟨f, 4, none⟩ (.int .i64 l')) := h.put (setCell_grown _ _ _ _) h.lep (bk_set _ h.blk)
theorem Fd.sett (h : Fd F B f p left tag w) (t' : Int) : Fd F B f p left t' (w.setCell ⟨f, 5, none⟩ (.int .i64 t')) := h.put (setCell_grown _ _ _ _) h.lep (bk_set _ h.blk)
/-- The feed stands as it stood, where its block is as it was. -/
theorem Fd.on (h : Fd F B f p left tag w) {w' : World} (hb : Below w.heap.size w w') : Fd F B f p left tag w' :=
  h.put ⟨hb.os, hb.tape, hb.output, hb.size, fun k hk _ => hb.block k hk⟩ h.lep ((hb.block f (lt_of_block h.blk)).trans h.blk)
theorem Fd.alloc (h : Fd F B f p left tag w) (o : Obj) : Fd F B f p left tag (w.alloc o) := h.on ((Below.refl _ _).alloc (Nat.le_refl _) _)
theorem Fd.keep (h : Fd F B f p left tag w) {w' : World} (hs : B ≤ w'.heap.size) (hk : ∀ b, b < B → w'.heap[b]? = w.heap[b]?) : Fd F B f p left tag w' :=
  ⟨h.lt, hs, (hk f h.lt).trans h.blk, h.lep, h.lel, fun i hi => by
    obtain ⟨b, off, e, hb, hne, hc, hv⟩ := h.bytes i hi
    refine ⟨b, off, e, hb, hne, ?_, hv⟩
    rw [World.cell?_of_block (w := w) (hk b hb)]
    exact hc, ⟨h.ints.1, h.ints.2.1, h.ints.2.2.1, fun i hi => ⟨by
      rw [World.cell?_of_block (w := w) (hk F.ia h.ints.1)]
      exact (h.ints.2.2.2 i hi).1, (h.ints.2.2.2 i hi).2⟩⟩, ⟨h.arrs.1, h.arrs.2.1, h.arrs.2.2.1, fun i hi => ⟨by
      rw [World.cell?_of_block (w := w) (hk F.xa h.arrs.1)]
      exact (h.arrs.2.2.2 i hi).1, (h.arrs.2.2.2 i hi).2⟩⟩⟩
theorem Fd.far (h : Fd F B f p left tag w) {R : Nat} (hR : B ≤ R) (k : Nat) (u : Value) : Fd F B f p left tag (w.setCell ⟨R, k, none⟩ u) :=
  h.keep (by simpa [World.setCell] using h.size) fun b hb => Below.heap_setCell _ _ _ _ (by simp; omega)
theorem Fd.grownR (h : Fd F B f p left tag w) {R : Nat} (hR : B ≤ R) {w' : World} (hg : w.grownBy w' (some R)) : Fd F B f p left tag w' :=
  h.keep (Nat.le_trans h.size hg.size) fun b hb => hg.block b (by have := h.size; omega) (by simp; omega)
theorem Fd.drew (h : Fd F B f p left tag w) : Fd F B f p left tag w.drew := h.on (Below.refl _ _).drew
theorem Fd.drewN (h : Fd F B f p left tag w) (n : Nat) : Fd F B f p left tag (w.drewN n) := h.on ⟨rfl, rfl, rfl, Nat.le_refl _, fun _ _ => rfl⟩
theorem Fd.c0 (h : Fd F B f p left tag w) : w.cell? ⟨f, 0, none⟩ = some (.slice F.la F.len F.cap) := bk_cell h.blk rfl
theorem Fd.c1 (h : Fd F B f p left tag w) : w.cell? ⟨f, 1, none⟩ = some (.int .i64 p) := bk_cell h.blk rfl
theorem Fd.c2 (h : Fd F B f p left tag w) : w.cell? ⟨f, 2, none⟩ = some (.slice (some ⟨F.ia, 0, none⟩) F.ns.length F.ns.length) := bk_cell h.blk rfl
theorem Fd.c3 (h : Fd F B f p left tag w) : w.cell? ⟨f, 3, none⟩ = some (.slice (some ⟨F.xa, 0, none⟩) F.ms.length F.ms.length) := bk_cell h.blk rfl
theorem Fd.c4 (h : Fd F B f p left tag w) : w.cell? ⟨f, 4, none⟩ = some (.int .i64 left) := bk_cell h.blk rfl
theorem Fd.c5 (h : Fd F B f p left tag w) : w.cell? ⟨f, 5, none⟩ = some (.int .i64 tag) := bk_cell h.blk rfl
theorem Fd.c6 (h : Fd F B f p left tag w) : w.cell? ⟨f, 6, none⟩ = some (.bool F.main) := bk_cell h.blk rfl
theorem Fd.f1 (h : Fd F B f p left tag w) (k : Nat) : w.frozen? ⟨f, k, none⟩ = false := bk_free h.blk
/-- What the next byte leaves. -/
def NextPost (F : FeedC) (B f : Nat) (left tag : Int) (w : World) (e : Ending) (w' : World) : Prop := ∃ (v : Int) (q : Nat), e = .returned (.int .i64 v) ∧ (0 ≤ v ∧ v ≤ 255) ∧ Fd F B f q left tag w' ∧ w.grownBy w' (some f)
set_option maxHeartbeats 1000000 in
theorem next_any (h : Fd F B f p left tag w) : Calls Tryz.prog 61 #[.pointer (some ⟨f, 0, none⟩)] w (NextPost F B f left tag w) := by
  have c0 := h.c0
  have c1 := h.c1
  have f1 := h.f1 1
  have hl := h.lep
  have hm := h.lel
  by_cases hlt : p < F.len
  · obtain ⟨b, off, hla, -, hne, hc, hv0, hv1⟩ := h.bytes p hlt
    have hne' : (b == f) = false := by simpa using hne
    have n1 : decide (F.len ≤ p) = false := by simp; omega
    have b1 : p < F.len := hlt
    have H := Lib.hid h
    have HL := Lib.hid hla
    have HC := Lib.hid hc
    clear h hl hc hlt
    rw [hla] at c0
    clear hla
    go_enter Tryz.func61, Tryz.ntmps61
    go_wp2
    go_quiet (fail)
    go_wp2
    have hg := grown_set (f := f) (grown_drewN (grown_refl w (some f)) nq) 1 (.int .i64 (((p + 1 : Nat)) : Int))
    have H2 := (H.out.drewN nq).setp (q := p + 1) (by omega)
    have e1 : ((p + 1 : Nat) : Int) = (p : Int) + 1 := rfl
    rw [e1] at hg
    have H3 : Hid (Fd F B f (p + 1) left tag ((w.drewN nq).setCell ⟨f, 1, none⟩ (.int .i64 ((p : Int) + 1)))) := Lib.hid H2
    clear H2
    generalize (w.drewN nq).setCell ⟨f, 1, none⟩ (.int .i64 ((p : Int) + 1)) = w2 at hg H3 ⊢
    have HG := Lib.hid hg
    have d0 := H3.out.c0
    have d1 : w2.cell? ⟨f, 1, none⟩ = some (.int .i64 ((p : Int) + 1)) := H3.out.c1
    obtain ⟨b', off', hla', -, -, d2, -⟩ := H3.out.bytes p b1
    rw [HL.out] at hla'
    simp only [Option.some.injEq, Addr.mk.injEq, and_true] at hla'
    obtain ⟨rfl, rfl⟩ := hla'
    rw [HL.out] at d0
    generalize F.zs.getD p 0 = v at hv0 hv1 d2
    have k0 : (0 : Int) ≤ p := by omega
    have k1 : (p : Int) < F.len := by omega
    have k2 : IntKind.i64.wrap ((p : Int) + 1 - 1) = p := by rw [Int.add_sub_cancel]; exact IntWalk.i64_in _ (by omega)
    clear c0 c1 f1 hg hne e1
    go_quiet (fail)
    go_wp2
    go_ret
    exact ⟨v, p + 1, rfl, ⟨hv0, hv1⟩, H3.out.drewN _, grown_drewN HG.out _⟩
  · have n1 : decide (F.len ≤ p) = true := by simp; omega
    have H := Lib.hid h
    clear h hl
    go_enter Tryz.func61, Tryz.ntmps61
    go_wp2
    go_quiet (fail)
    go_wp2
    go_ret
    exact ⟨0, p, rfl, by omega, H.out.drewN _, grown_drewN (grown_refl _ _) _⟩
end
end Go.Proofs.YtkfogoglaiibiaaGreatDoor
