/- Two declarations compared by the language. -/
import Derived.Test.YtkfogoglaiibiaaGreatDoorTProg
set_option linter.unusedSimpArgs false
set_option linter.unusedVariables false
namespace Go.Proofs.YtkfogoglaiibiaaGreatDoor
open Go Go.RowKit
set_option maxHeartbeats 1000000 in
theorem eq_decl (W : World) (n m : ByteArray) (s t : Int) (d : Nat) : (Op.equalIn (d + 2) 85 (.agg #[.string n, .int .i64 s]) (.agg #[.string m, .int .i64 t])).run Tryz.prog W = .ok (n == m && s == t) W := by
  have hh : Tryz.prog.stoodInHeld 85 = false := by kernel_rfl
  have p1 : ∀ (n : ByteArray) (s : Int), (part 9 #[.string n, .int .i64 s] 0).run Tryz.prog W = .ok (.string n) W := fun n s => by simp [part, sizeOf, typeInfo]
  have p2 : ∀ (n : ByteArray) (s : Int), (part 3 #[.string n, .int .i64 s] 1).run Tryz.prog W = .ok (.int .i64 s) W := fun n s => by simp [part, sizeOf, typeInfo]
  have hp : Sem.run Tryz.prog (Sem.program Sem.pure) W = .ok Tryz.prog W := rfl
  have q1 : (Op.equalIn (d + 1) 9 (.string n) (.string m)).run Tryz.prog W = .ok (n == m) W := by simp [Op.equalIn, run_underlying Tryz.underlying9]
  have q2 : (Op.equalIn (d + 1) 3 (.int .i64 s) (.int .i64 t)).run Tryz.prog W = .ok (s == t) W := by simp [Op.equalIn, run_underlying Tryz.underlying3]
  rw [Op.equalIn]
  simp [run_underlying Tryz.underlying85, program, hh, p1, p2, hp, q1, q2]
  cases (n == m) <;> by_cases h : s = t <;> simp [h]
theorem run_neq_decl (W : World) (n m : ByteArray) (s t : Int) : (binOp .neq 85 (.agg #[.string n, .int .i64 s]) (.agg #[.string m, .int .i64 t])).run Tryz.prog W = .ok (.bool (!(n == m && s == t))) W := by
  simp only [binOp]
  simp only [Op.equal, Op.maxDepth, Sem.run_bind, eq_decl W n m s t 9998, Result.andThen_ok]
  rfl
end Go.Proofs.YtkfogoglaiibiaaGreatDoor
