/- From the row's condition on the listed variables: strconv's two errors are errors. -/
import Derived.Test.YtgfobalchpcgbaaDoorLTake
import Derived.Stop.LaidErr
import Derived.ProofKit
namespace Go.Proofs.YtgfobalchpcgbaaDoor
open Go Go.RowKit
theorem gSyn : Tryd.prog.globalNamed "strconv.ErrSyntax" = some 0 := by kernel_rfl
theorem gRng : Tryd.prog.globalNamed "strconv.ErrRange" = some 1 := by kernel_rfl
theorem gSynT : (Tryd.prog.globals[0]?).map (·.type) = some 57 := by kernel_rfl
theorem gRngT : (Tryd.prog.globals[1]?).map (·.type) = some 57 := by kernel_rfl
theorem starErr : "*" ++ "errors.errorString" = "*errors.errorString" := by decide
theorem row_err (u : TypeId) (h : Tryd.prog.typeName? 3 u = some "*errors.errorString") : u = 74 :=
  typeName_ptr_named (nm := "errors.errorString") (by rw [starErr]; kernel_rfl) (by kernel_rfl) (by decide) u (by rw [starErr]; exact h)
theorem laid_facts {x y z : String × DataW Unit} {W : World}
    (h : laidMet Tryd.prog [x, y, z, ("strconv.ErrRange", .iface "*errors.errorString" (.ptr (.agg [.lit (.string [118, 97, 108, 117, 101, 32, 111, 117, 116, 32, 111, 102, 32, 114, 97, 110, 103, 101])]))), ("strconv.ErrSyntax", .iface "*errors.errorString" (.ptr (.agg [.lit (.string [105, 110, 118, 97, 108, 105, 100, 32, 115, 121, 110, 116, 97, 120])])))] W) : Errs W := by
  have h3 := h.tail.tail.tail
  obtain ⟨a1, s1, hv1, _⟩ := laid_sentinel h3 gRng gRngT Tryd.underlying57 row_err Tryd.underlying74 Tryd.underlying76 rfl rfl Tryd.underlying9 (by kernel_rfl) (by kernel_rfl)
  obtain ⟨a2, s2, hv2, _⟩ := laid_sentinel h3.tail gSyn gSynT Tryd.underlying57 row_err Tryd.underlying74 Tryd.underlying76 rfl rfl Tryd.underlying9 (by kernel_rfl) (by kernel_rfl)
  exact ⟨⟨_, _, hv2⟩, ⟨_, _, hv1⟩⟩
end Go.Proofs.YtgfobalchpcgbaaDoor
