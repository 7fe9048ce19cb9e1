/- What the writer writes of a right expression. -/
import Derived.Test.YtkfogoglaiibiaaGreatDoorTHeap
import Derived.Deep.QuietTactic
import Derived.BigQuiet
import Derived.Deep.RegionWith
import Derived.BigRegion
import Derived.Lib.AppendIntMem
set_option linter.unusedSimpArgs false
set_option linter.unusedVariables false
namespace Go.Proofs.YtkfogoglaiibiaaGreatDoor
open Go Go.RowKit

/-- Since w0 nothing that was there has turned. -/
def Past (w0 w : World) : Prop := Below w0.heap.size w0 w
theorem Past.refl (w : World) : Past w w := Below.refl _ _
theorem Past.on {w0 w w' : World} (h : Past w0 w) (hb : Below w.heap.size w w') : Past w0 w' := Below.trans h (hb.mono h.size)
theorem Past.alloc {w0 w : World} (h : Past w0 w) (o : Obj) : Past w0 (w.alloc o) := Below.alloc h h.size o
theorem Past.drew {w0 w : World} (h : Past w0 w) : Past w0 w.drew := Below.drew h
theorem Past.went {w0 w w' : World} {B b : Nat} {bs : List UInt8} {k : Int} (h : Past w0 w) (hB : w0.heap.size ≤ B) (g : Went B b bs k w w') : Past w0 w' := Below.trans h (g.below.mono hB)
/-- The table of powers, at w0 and whenever nothing that was there has turned. -/
def Pow (w0 : World) : Prop := Lib.TabBelow Tryz.prog w0.heap.size w0 "internal/strconv.uint64pow10" .u64 Lib.pow10Tab
def txt (n : Int) : ByteArray := ⟨(Lib.itoa n).toArray⟩
theorem wordText_any {w0 : World} (H : Pow w0) (n : Int) (hn : -9223372036854775808 ≤ n ∧ n ≤ 9223372036854775807) (w : World) (h : Past w0 w) :
    Calls Tryz.prog 82 #[.int .i64 n] w fun e w' => e = .returned (.string (txt n)) ∧ Below w.heap.size w w' := by
  have ht : Hid (Lib.TabIs Tryz.prog w "internal/strconv.uint64pow10" .u64 Lib.pow10Tab) := Lib.hid (H w h)
  obtain ⟨h0, h1⟩ := hn
  go_enter Tryz.func82, Tryz.ntmps82
  go_wp2_with (go_at_call 108; refine (Tryz.strconv_FormatInt_10 _ (by assumption) (by assumption) _ ht.out).mono ?_; rintro e w' ⟨rfl, k, os, rfl⟩)
  go_ret
  exact ⟨rfl, Lib.below_grow _ _ (Nat.le_refl _) _ _⟩

theorem Wr.on {B b : Nat} {bs : List UInt8} {k : Int} {w w' : World} (h : Wr B b bs k w) (hb : Below w.heap.size w w') : Went B b bs k w w' := by
  have hlt := h.lt
  obtain ⟨hB, p, v, hp, hbk, ho, hne⟩ := h
  refine ⟨⟨hB, p, v, hp, (hb.block b hlt).trans hbk, ?_, hne⟩, hb.mono (by omega), fun q o _ hq _ => (hb.block q (lt_of_block hq)).trans hq⟩
  exact ho.kept (row := none) ⟨hb.os, hb.tape, hb.output, hb.size, fun k hk _ => hb.block k hk⟩ (by cases hv : v.ownBlock <;> simp)

abbrev ptrW (b : Nat) : Value := .pointer (some ⟨b, 0, none⟩)
/-- What writing an expression does, in every world since w0. -/
def ExprDoes (w0 : World) (f : FuncId) (T : Value) (txt : List UInt8) : Prop :=
  ∀ (B b : Nat) (bs : List UInt8) (k : Int) (w : World), w0.heap.size ≤ B → Wr B b bs k w → Past w0 w → bs.length + txt.length ≤ 140737488355328 →
    Calls Tryz.prog f #[ptrW b, T] w fun e w' => e = .returned (.tuple #[]) ∧ Went B b (bs ++ txt) k w w'

theorem Keeps.box {b : Nat} {w w' : World} (h : Keeps b w w') {q : Nat} {cs : Array Value} {t : TypeId} {fr : Nat × Nat} (hq : w.heap[q]? = some (.cells cs t fr)) (hne : q ≠ b) (ht : t ≠ 5) : w'.heap[q]? = some (.cells cs t fr) :=
  h q _ hne hq (fun c f e => by simp only [Obj.cells.injEq] at e; exact ht e.2.1)
theorem bk_new' {w : World} {n : Nat} (o : Obj) (h : w.heap.size = n) : (w.alloc o).heap[n]? = some o := by subst h; exact bk_new w o
theorem cells5 {w : World} {b : Nat} {t : TypeId} {fr : Nat × Nat} {v0 v1 v2 v3 v4 : Value} (h : w.heap[b]? = some (.cells #[v0, v1, v2, v3, v4] t fr)) :
    w.cell? ⟨b, 0, none⟩ = some v0 ∧ w.cell? ⟨b, 1, none⟩ = some v1 ∧ w.cell? ⟨b, 2, none⟩ = some v2 ∧ w.cell? ⟨b, 3, none⟩ = some v3 ∧ w.cell? ⟨b, 4, none⟩ = some v4 :=
  ⟨bk_cell h rfl, bk_cell h rfl, bk_cell h rfl, bk_cell h rfl, bk_cell h rfl⟩
theorem catB_one (s : ByteArray) : catB [s] = s.data.toList := by simp [catB]

set_option maxHeartbeats 2000000 in
set_option maxRecDepth 100000 in
theorem around_of {w0 : World} {kk : Int} {oo : ByteArray} {nn : Int} {mm : ByteArray} {vv : Value} {tx : List UInt8} (HX : ExprDoes w0 51 (.agg #[.int .i64 kk, .string oo, .int .i64 nn, .string mm, vv]) tx)
    (s1 s2 : ByteArray) (B b : Nat) (bs : List UInt8) (k : Int) (w : World) (hB : w0.heap.size ≤ B) (h : Wr B b bs k w) (hp : Past w0 w) (hlen : bs.length + (s1.size + tx.length + s2.size) ≤ 140737488355328) :
    Calls Tryz.prog 83 #[ptrW b, .string s1, .agg #[.int .i64 kk, .string oo, .int .i64 nn, .string mm, vv], .string s2] w fun e w' => e = .returned (.tuple #[]) ∧ Went B b (bs ++ (s1.data.toList ++ (tx ++ s2.data.toList))) k w w' := by
  have z1 : s1.data.toList.length = s1.size := Array.length_toList
  have z2 : s2.data.toList.length = s2.size := Array.length_toList
  have L1 : Hid (bs.length + (catB [s1]).length ≤ 140737488355328) := Lib.hid (by rw [catB_one, z1]; omega)
  have L2 : Hid ((bs ++ catB [s1]).length + tx.length ≤ 140737488355328) := Lib.hid (by rw [List.length_append, catB_one, z1]; omega)
  have L3 : Hid (((bs ++ catB [s1]) ++ tx).length + (catB [s2]).length ≤ 140737488355328) := Lib.hid (by rw [List.length_append, List.length_append, catB_one, catB_one, z1, z2]; omega)
  have HW := Lib.hid h
  have HP := Lib.hid hp
  have HB := Lib.hid hB
  have hlt := Lib.hid h.lt
  have HX' := Lib.hid HX
  clear h hp hB hlen z1 z2 HX
  go_enter Tryz.func83, Tryz.ntmps83
  go_wp2_with (first
    | (go_at_call 81; have hx := text_any (G2.out.wr.alloc (.cells #[.string s2] 9)) w2.heap.size 1 [s2] _ (bk_new _ _) rfl (by simp) L3.out; refine hx.mono ?_; clear hx; rintro e w3 ⟨rfl, g3⟩; have G3 := Lib.hid ((G2.out.alloc _).trans g3); clear g3)
    | (go_at_call 51; have hx := HX'.out B b _ k _ HB.out G1.out.wr (HP.out.went HB.out G1.out) L2.out; refine hx.mono ?_; clear hx; rintro e w2 ⟨rfl, g2⟩; have G2 := Lib.hid (G1.out.trans g2); clear g2)
    | (go_at_call 81; refine (text_any ((HW.out.alloc _).alloc _) (w.heap.size + 1) 1 [s1] _ (bk_new' _ (by simp)) rfl (by simp) L1.out).mono ?_; rintro e w1 ⟨rfl, g1⟩; have G1 := Lib.hid (((HW.out.went.alloc _).alloc _).trans g1); have hbox := g1.keeps.box (bk_old _ (bk_new w _)) (Nat.ne_of_gt hlt.out) (by decide); obtain ⟨c0, c1, c2, c3, c4⟩ := cells5 hbox; clear g1 hbox))
  go_end0
  refine ⟨rfl, ?_⟩
  have := G3.out
  rw [catB_one, catB_one, List.append_assoc, List.append_assoc] at this
  exact this
end Go.Proofs.YtkfogoglaiibiaaGreatDoor
