/- The chapter's examples. (Written by genex4.py.) From the rows' condition on the listed variables: strconv's two errors are errors, its table is the powers of ten. -/
import Derived.Test.YtdaklmbifkehpaaGreatDoorPParse
import Derived.Test.YtdaklmbifkehpaaGreatDoorTLaid
import Derived.Stop.LaidErr
set_option linter.unusedSimpArgs false
set_option linter.unusedVariables false
namespace Go.Proofs.YtdaklmbifkehpaaGreatDoor.Pm
open Go Go.RowKit Go.Proofs.YtdaklmbifkehpaaGreatDoor

structure Wo (w : World) : Prop where
  er : Lx.Errs w
  pw : Pow w
theorem Wo.on {w w' : World} (h : Wo w) (hp : Past w w') : Wo w' := ⟨h.er.on (show Lx.Past w w' from hp), h.pw.on hp⟩
theorem cellA {w w' : World} {o : Obj} {p : Addr} {v : Value} (hb : Below (w.alloc o).heap.size (w.alloc o) w') (hc : w.cell? p = some v) : w'.cell? p = some v := by
  have hlt := World.block_lt_of_cell? w p hc
  rw [World.cell?_of_block (w := w.alloc o) (hb.block p.block (by simp; omega)), World.cell?_alloc_lt _ _ _ hlt]
  exact hc
section
variable {w0 w : World}
def EOk (r : RE) (n : Nat) (w : World) (e : Ending) (w' : World) : Prop := Below w.heap.size w w' ∧ ∃ T : ET, e = .returned (.tuple #[.agg #[.int .i64 T.kind, .string T.op, .int .i64 T.n, .string T.name, .slice T.kaddr T.kids.length T.kcap], .int .i64 (n : Nat), .int .i64 0]) ∧ T.re = r ∧ T.rightB = true ∧ T.In w' w.heap.size
theorem expr_fine (H : Wo w) (m : Nat) (sb : ByteArray) {l : List UInt8} {r : RE} {mo : Nat} (hs : sb.data.toList = l) (hl : l.length ≤ 8192) (ev : exprF m l = .ok r mo) : Calls Tryz.prog 31 #[.string sb] w (EOk r l.length w) := by
  subst hs
  refine (pExpr_any m sb hl H.er (finA_ok ev)).mono ?_
  intro e w' hq
  rw [ev] at hq
  obtain ⟨hb, v, rfl, T, hv, hT⟩ := hq
  rw [ET.val_is] at hv
  subst hv
  exact ⟨hb, T, rfl, hT⟩
end
end Go.Proofs.YtdaklmbifkehpaaGreatDoor.Pm

namespace Go.Proofs.YtdaklmbifkehpaaGreatDoor.Pm
open Go Go.RowKit Go.Proofs.YtdaklmbifkehpaaGreatDoor
theorem gSyn : Tryz.prog.globalNamed "strconv.ErrSyntax" = some 3 := by kernel_rfl
theorem gRng : Tryz.prog.globalNamed "strconv.ErrRange" = some 4 := by kernel_rfl
theorem gSynT : (Tryz.prog.globals[3]?).map (·.type) = some 176 := by kernel_rfl
theorem gRngT : (Tryz.prog.globals[4]?).map (·.type) = some 176 := by kernel_rfl
theorem starErr : "*" ++ "errors.errorString" = "*errors.errorString" := by decide
theorem row_err (u : TypeId) (h : Tryz.prog.typeName? 3 u = some "*errors.errorString") : u = 222 :=
  typeName_ptr_named (nm := "errors.errorString") (by rw [starErr]; kernel_rfl) (by kernel_rfl) (by decide) u (by rw [starErr]; exact h)
theorem errs_facts {x y z : String × DataW Unit} {W : World}
    (h : laidMet Tryz.prog [x, y, z, ("strconv.ErrRange", .iface "*errors.errorString" (.ptr (.agg [.lit (.string [118, 97, 108, 117, 101, 32, 111, 117, 116, 32, 111, 102, 32, 114, 97, 110, 103, 101])]))), ("strconv.ErrSyntax", .iface "*errors.errorString" (.ptr (.agg [.lit (.string [105, 110, 118, 97, 108, 105, 100, 32, 115, 121, 110, 116, 97, 120])])))] W) : Lx.Errs W := by
  have h3 := h.tail.tail.tail
  obtain ⟨a1, s1, hv1, _⟩ := laid_sentinel h3 gRng gRngT Tryz.underlying176 row_err Tryz.underlying222 Tryz.underlying224 rfl rfl Tryz.underlying9 (by kernel_rfl) (by kernel_rfl)
  obtain ⟨a2, s2, hv2, _⟩ := laid_sentinel h3.tail gSyn gSynT Tryz.underlying176 row_err Tryz.underlying222 Tryz.underlying224 rfl rfl Tryz.underlying9 (by kernel_rfl) (by kernel_rfl)
  exact ⟨⟨_, _, hv2⟩, ⟨_, _, hv1⟩⟩
theorem wo_facts {x y : String × DataW Unit} {W : World} (h : laidMet Tryz.prog [x, y, ("internal/strconv.uint64pow10", (Lib.tabData .u64 Lib.pow10Tab : DataW Unit)), ("strconv.ErrRange", .iface "*errors.errorString" (.ptr (.agg [.lit (.string [118, 97, 108, 117, 101, 32, 111, 117, 116, 32, 111, 102, 32, 114, 97, 110, 103, 101])]))), ("strconv.ErrSyntax", .iface "*errors.errorString" (.ptr (.agg [.lit (.string [105, 110, 118, 97, 108, 105, 100, 32, 115, 121, 110, 116, 97, 120])])))] W) : Wo W :=
  ⟨errs_facts h, laid_facts h⟩
end Go.Proofs.YtdaklmbifkehpaaGreatDoor.Pm
