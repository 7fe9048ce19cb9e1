/- Two declarations compared by the language. What same asks of declarations, of functions and of programs. -/
import Derived.Test.YtppeogcpoplpeaaGreatDoorTProg2
import Derived.Test.YtppeogcpoplpeaaGreatDoorTSame2
set_option linter.unusedSimpArgs false
set_option linter.unusedVariables false
namespace Go.Proofs.YtppeogcpoplpeaaGreatDoor
open Go Go.RowKit
set_option maxHeartbeats 1000000 in
theorem eq_decl (W : World) (n m : ByteArray) (s t : Int) (d : Nat) : (Op.equalIn (d + 2) 85 (.agg #[.string n, .int .i64 s]) (.agg #[.string m, .int .i64 t])).run Tryz.prog W = .ok (n == m && s == t) W := by
  have hh : Tryz.prog.stoodInHeld 85 = false := by kernel_rfl
  have p1 : ∀ (n : ByteArray) (s : Int), (part 9 #[.string n, .int .i64 s] 0).run Tryz.prog W = .ok (.string n) W := fun n s => by simp [part, sizeOf, typeInfo]
  have p2 : ∀ (n : ByteArray) (s : Int), (part 3 #[.string n, .int .i64 s] 1).run Tryz.prog W = .ok (.int .i64 s) W := fun n s => by simp [part, sizeOf, typeInfo]
  have hp : Sem.run Tryz.prog (Sem.program Sem.pure) W = .ok Tryz.prog W := rfl
  have q1 : (Op.equalIn (d + 1) 9 (.string n) (.string m)).run Tryz.prog W = .ok (n == m) W := by simp [Op.equalIn, run_underlying Tryz.underlying9]
  have q2 : (Op.equalIn (d + 1) 3 (.int .i64 s) (.int .i64 t)).run Tryz.prog W = .ok (s == t) W := by simp [Op.equalIn, run_underlying Tryz.underlying3]
  rw [Op.equalIn]
  simp [run_underlying Tryz.underlying85, program, hh, p1, p2, hp, q1, q2]
  cases (n == m) <;> by_cases h : s = t <;> simp [h]
theorem run_neq_decl (W : World) (n m : ByteArray) (s t : Int) : (binOp .neq 85 (.agg #[.string n, .int .i64 s]) (.agg #[.string m, .int .i64 t])).run Tryz.prog W = .ok (.bool (!(n == m && s == t))) W := by
  simp only [binOp]
  simp only [Op.equal, Op.maxDepth, Sem.run_bind, eq_decl W n m s t 9998, Result.andThen_ok]
  rfl
end Go.Proofs.YtppeogcpoplpeaaGreatDoor

set_option linter.unusedSimpArgs false
set_option linter.unusedVariables false
namespace Go.Proofs.YtppeogcpoplpeaaGreatDoor
open Go Go.RowKit

def sameD (d e : ByteArray × Int) : Bool := d.1 == e.1 && d.2 == e.2
def sameDs : List (ByteArray × Int) → List (ByteArray × Int) → Bool
  | [], [] => true
  | d :: l, e :: m => sameD d e && sameDs l m
  | [], _ :: _ => false
  | _ :: _, [] => false
theorem sameDs_len {l m : List (ByteArray × Int)} (h : ¬ l.length = m.length) : sameDs l m = false := by
  induction l generalizing m with
  | nil =>
    cases m with
    | nil => exact absurd rfl h
    | cons U m => rw [sameDs]
  | cons X l ih =>
    cases m with
    | nil => rw [sameDs]
    | cons U m => rw [sameDs, ih (by simpa using h)]; simp
theorem sameDs_no {l m : List (ByteArray × Int)} {n : Nat} (hn : n < l.length) (hn' : n < m.length) (h : sameD l[n] m[n] = false) : sameDs l m = false := by
  induction l generalizing m n with
  | nil => simp at hn
  | cons X l ih =>
    cases m with
    | nil => simp at hn'
    | cons U m =>
      cases n with
      | zero => rw [sameDs, show sameD X U = false from h]; rfl
      | succ n => rw [sameDs, ih (m := m) (n := n) (by simpa using hn) (by simpa using hn') h]; simp
theorem sameDs_take {l m : List (ByteArray × Int)} {n : Nat} (hn : n < l.length) (hn' : n < m.length) : sameDs (l.take (n + 1)) (m.take (n + 1)) = (sameDs (l.take n) (m.take n) && sameD l[n] m[n]) := by
  induction l generalizing m n with
  | nil => simp at hn
  | cons X l ih =>
    cases m with
    | nil => simp at hn'
    | cons U m =>
      cases n with
      | zero => simp [sameDs]
      | succ n =>
        have := ih (m := m) (n := n) (by simpa using hn) (by simpa using hn')
        rw [List.take_succ_cons, List.take_succ_cons, sameDs, this, List.take_succ_cons, List.take_succ_cons, sameDs, Bool.and_assoc]
        rfl
theorem below_dN (w : World) (n : Nat) : Below w.heap.size w (w.drewN n) := ⟨rfl, rfl, rfl, Nat.le_refl _, fun _ _ => rfl⟩
set_option maxHeartbeats 4000000 in
set_option maxRecDepth 100000 in
theorem equal_decls {w0 : World} (a a' : Option Addr) (c c' : Nat) (l m : List (ByteArray × Int)) (hl : l.length ≤ 9223372036854775807) (hm : m.length ≤ 9223372036854775807) (hin : ∀ (i : Nat) (h : i < l.length), RowAt w0 0 a i 2 #[.string l[i].1, .int .i64 l[i].2]) (hin' : ∀ (i : Nat) (h : i < m.length), RowAt w0 0 a' i 2 #[.string m[i].1, .int .i64 m[i].2]) (w : World) (hp : Past w0 w) :
    Calls Tryz.prog 72 #[.slice a l.length c, .slice a' m.length c'] w fun e w' => e = .returned (.bool (sameDs l m)) ∧ Below w.heap.size w w' := by
  have HI := Lib.hid hin
  have HI' := Lib.hid hin'
  have HP := Lib.hid hp
  clear hin hin' hp
  by_cases hlen : l.length = m.length
  · have hne : ((l.length : Int) != (m.length : Int)) = false := by rw [hlen]; simp
    have hlm : Hid (m.length = l.length) := Lib.hid hlen.symm
    have HLN := Lib.hid hlen
    clear hlen
    go_enter Tryz.func72, Tryz.ntmps72
    go_wp2
    go_loopw [5, 13] (fun _ i wr => ∃ n : Nat, n ≤ l.length ∧ i = .int .i64 n ∧ Below w.heap.size w wr ∧ sameDs (l.take n) (m.take n) = true) (fun _ i _ => l.length - (intOf i).toNat)
    case atStart => exact ⟨0, Nat.zero_le _, rfl, Below.refl _ _, by simp [sameDs]⟩
    case round =>
      obtain ⟨n, hn, rfl, hb, ht⟩ := hrel
      have HB := Lib.hid hb
      have HT := Lib.hid ht
      clear hb ht
      by_cases hlt : n < l.length
      · have hlt' : n < m.length := by have := hlm.out; omega
        have hrow := HI.out n hlt
        have hrow2 := HI'.out n hlt'
        have hrow' := hrow
        have hrow2' := hrow2
        obtain ⟨kb, ko, rfl, -⟩ := hrow'
        obtain ⟨kb', ko', rfl, -⟩ := hrow2'
        obtain ⟨r0, r1, hkb⟩ := row_cells2 hrow (HP.out.on HB.out)
        obtain ⟨s0, s1, hkb2⟩ := row_cells2 hrow2 (HP.out.on HB.out)
        clear hrow hrow2
        have hneq : ∀ W, (binOp .neq 85 (.agg #[.string l[n].1, .int .i64 l[n].2]) (.agg #[.string m[n].1, .int .i64 m[n].2])).run Tryz.prog W = .ok (.bool (!(sameD l[n] m[n]))) W := fun W => run_neq_decl W _ _ _ _
        cases hr : sameD l[n] m[n] with
        | false =>
          have HR := Lib.hid (sameDs_no hlt hlt' hr)
          rw [hr] at hneq
          clear hr
          go_wp2
          go_quiet (fail)
          go_wp2
          go_ret
          exact ⟨by rw [HR.out]; rfl, step_on HB.out (below_dN _ _)⟩
        | true =>
          have HR := Lib.hid (show sameDs (l.take (n + 1)) (m.take (n + 1)) = true by rw [sameDs_take hlt hlt', HT.out, hr]; rfl)
          rw [hr] at hneq
          clear hr
          go_wp2
          go_quiet (fail)
          go_wp2
          go_round
          case rel => exact ⟨n + 1, by omega, by go_num, step_on HB.out (below_dN _ _), HR.out⟩
          case measure => simp [intOf]; omega
      · obtain rfl : n = l.length := by omega
        have HT2 : Hid (sameDs l m = true) := Lib.hid (by have := HT.out; rw [List.take_length, HLN.out, List.take_length] at this; exact this)
        go_wp2
        go_ret
        exact ⟨by rw [HT2.out]; rfl, HB.out⟩
  · have hne : ((l.length : Int) != (m.length : Int)) = true := by simp; omega
    have HR := Lib.hid (sameDs_len hlen)
    go_enter Tryz.func72, Tryz.ntmps72
    go_wp2_with fail
    go_ret
    exact ⟨by rw [HR.out]; rfl, Below.refl _ _⟩
end Go.Proofs.YtppeogcpoplpeaaGreatDoor
