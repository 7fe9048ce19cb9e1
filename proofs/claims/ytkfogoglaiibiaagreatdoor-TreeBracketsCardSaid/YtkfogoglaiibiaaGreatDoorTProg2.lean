/- What right asks of a function, and of a program. -/
import Derived.Test.YtkfogoglaiibiaaGreatDoorTProg
set_option linter.unusedSimpArgs false
set_option linter.unusedVariables false
namespace Go.Proofs.YtkfogoglaiibiaaGreatDoor
open Go Go.RowKit

theorem cells4 {w : World} {b : Nat} {t : TypeId} {fr : Nat × Nat} {v0 v1 v2 v3 : Value} (h : w.heap[b]? = some (.cells #[v0, v1, v2, v3] t fr)) :
    w.cell? ⟨b, 0, none⟩ = some v0 ∧ w.cell? ⟨b, 1, none⟩ = some v1 ∧ w.cell? ⟨b, 2, none⟩ = some v2 ∧ w.cell? ⟨b, 3, none⟩ = some v3 :=
  ⟨bk_cell h rfl, bk_cell h rfl, bk_cell h rfl, bk_cell h rfl⟩
structure Cells4 (w : World) (b o : Nat) (v0 v1 v2 v3 : Value) : Prop where
  c0 : w.cell? ⟨b, o, none⟩ = some v0
  c1 : w.cell? ⟨b, o + 1, none⟩ = some v1
  c2 : w.cell? ⟨b, o + 2, none⟩ = some v2
  c3 : w.cell? ⟨b, o + 3, none⟩ = some v3
  lt : b < w.heap.size
theorem row_cells4 {w0 w : World} {B b o i : Nat} {v0 v1 v2 v3 : Value} (h : RowAt w0 B (some ⟨b, o, none⟩) i 4 #[v0, v1, v2, v3]) (hp : Past w0 w) : Cells4 w b (o + i * 4) v0 v1 v2 v3 := by
  obtain ⟨b', o', e, -, hc⟩ := h
  simp only [Option.some.injEq, Addr.mk.injEq, and_true] at e
  obtain ⟨rfl, rfl⟩ := e
  have k := below_keep hp (B := 0)
  have h0 := k _ _ (Nat.zero_le _) (hc 0 v0 rfl)
  exact ⟨h0, k _ _ (Nat.zero_le _) (hc 1 v1 rfl), k _ _ (Nat.zero_le _) (hc 2 v2 rfl), k _ _ (Nat.zero_le _) (hc 3 v3 rfl), cell_lt h0⟩
set_option maxHeartbeats 4000000 in
set_option maxRecDepth 100000 in
theorem funcRight_any {w0 : World} (F : FT) (hin : F.In w0 0) (w : World) (hp : Past w0 w) :
    Calls Tryz.prog 40 #[F.val] w fun e w' => e = .returned (.bool F.rightB) ∧ Below w.heap.size w w' := by
  have HN := Lib.hid (fun W hW => all_names (w0 := w0) F.pa F.pc F.params hin.pl hin.ps W hW)
  have HD := Lib.hid (fun W hW => all_decls (w0 := w0) F.va F.vc F.vars hin.vl hin.vs W hW)
  have HS := Lib.hid (fun W hW => all_stmts (w0 := w0) F.ba F.bc F.body hin.bl hin.ss (fun n hn w hw => rightS_any _ F.body[n] (Nat.le_refl _) (hin.ss.nth n hn).2 w hw) W hW)
  have HP := Lib.hid hp
  unfold FT.rightB
  show Calls Tryz.prog 40 #[.agg #[.string F.name, .slice F.pa F.params.length F.pc, .slice F.va F.vars.length F.vc, .slice F.ba F.body.length F.bc]] w _
  generalize F.params.all nmB = r2 at HN
  generalize F.vars.all declB = r3 at HD
  generalize rightSs F.body = r4 at HS
  generalize hr : (nmB F.name && (r2 && (r3 && r4))) = r
  have key : nmB F.name = false ∧ r = false ∨ nmB F.name = true ∧ (r2 = false ∧ r = false ∨ r2 = true ∧ (r3 = false ∧ r = false ∨ r3 = true ∧ r4 = r)) := by
    rw [← hr]
    cases nmB F.name <;> cases r2 <;> cases r3 <;> simp
  clear hr hin hp
  rcases key with ⟨h1, rfl⟩ | ⟨h1, (⟨rfl, rfl⟩ | ⟨rfl, (⟨rfl, rfl⟩ | ⟨rfl, rfl⟩)⟩)⟩
  all_goals
    go_enter Tryz.func40, Tryz.ntmps40
    go_wp2_with (first
      | (go_at_call 53; have hx := HS.out _ (HP.out.on B3.out); refine hx.mono ?_; clear hx; rintro e w4 ⟨rfl, hb4⟩; have B4 := Lib.hid (step_on B3.out hb4); clear hb4)
      | (go_at_call 66; have hx := HD.out _ (HP.out.on B2.out); refine hx.mono ?_; clear hx; rintro e w3 ⟨rfl, hb3⟩; have B3 := Lib.hid (step_on B2.out hb3); obtain ⟨p0, p1, p2, p3⟩ := cells4 ((hb3.block w.heap.size (lt_of_block X2.out)).trans X2.out); clear hb3)
      | (go_at_call 65; have hx := HN.out _ (HP.out.alloc (.cells #[.string F.name, .slice F.pa F.params.length F.pc, .slice F.va F.vars.length F.vc, .slice F.ba F.body.length F.bc] 55)); refine hx.mono ?_; clear hx; rintro e w2 ⟨rfl, hb2⟩; have B2 := Lib.hid (step_on ((Below.refl _ _).alloc (Nat.le_refl _) _) hb2); have X2 := Lib.hid ((hb2.block w.heap.size (by simp)).trans (bk_new w _)); obtain ⟨c0, c1, c2, c3⟩ := cells4 X2.out; clear hb2)
      | (go_at_call 64; refine (isName_any _ _).mono ?_; rintro e w' ⟨rfl, rfl⟩; rw [h1]))
    go_ret
    exact ⟨by simp, by first | exact B4.out | exact B3.out | exact B2.out | exact (Below.refl _ _).alloc (Nat.le_refl _) _⟩
set_option maxHeartbeats 2000000 in
set_option maxRecDepth 100000 in
theorem all_funcs {w0 : World} (a : Option Addr) (c : Nat) (l : List FT) (hin : FsIn w0 0 a l) (w : World) (hp : Past w0 w) :
    Calls Tryz.prog 39 #[.slice a l.length c, .func (.func 40) #[] #[]] w fun e w' => e = .returned (.bool (l.all FT.rightB)) ∧ Below w.heap.size w w' := by
  have hl := hin.len
  have HI := Lib.hid hin
  have HP := Lib.hid hp
  clear hin hp
  go_enter Tryz.func39, Tryz.ntmps39
  go_wp2
  go_loopw [6, 9] (fun _ i wr => ∃ n : Nat, n ≤ l.length ∧ i = .int .i64 n ∧ Below w.heap.size w wr ∧ (l.take n).all FT.rightB = true) (fun _ i _ => l.length - (intOf i).toNat)
  case atStart => exact ⟨0, Nat.zero_le _, rfl, Below.refl _ _, rfl⟩
  case round =>
    obtain ⟨n, hn, rfl, hb, ht⟩ := hrel
    have HB := Lib.hid hb
    have HT := Lib.hid ht
    clear hb ht
    by_cases hlt : n < l.length
    · have hrow := HI.out.row n hlt
      have hrow' := hrow
      obtain ⟨kb, ko, rfl, -⟩ := hrow'
      unfold FT.cells at hrow
      obtain ⟨r0, r1, r2, r3, hkb⟩ := row_cells4 hrow (HP.out.on HB.out)
      have hcall : ∀ W, Past w0 W → Calls Tryz.prog 40 #[.agg #[.string l[n].name, .slice l[n].pa l[n].params.length l[n].pc, .slice l[n].va l[n].vars.length l[n].vc, .slice l[n].ba l[n].body.length l[n].bc]] W fun e w' => e = .returned (.bool l[n].rightB) ∧ Below W.heap.size W w' := fun W hW => funcRight_any l[n] (HI.out.fs n hlt) W hW
      have HC := Lib.hid hcall
      clear hcall hrow
      cases hr : l[n].rightB with
      | false =>
        have HR := Lib.hid (all_false FT.rightB hlt hr)
        rw [hr] at HC
        clear hr
        go_wp2_with (go_at_call 40; have hx := HC.out _ ((HP.out.on HB.out).alloc (.cells #[.string l[n].name, .slice l[n].pa l[n].params.length l[n].pc, .slice l[n].va l[n].vars.length l[n].vc, .slice l[n].ba l[n].body.length l[n].bc] 55)); refine hx.mono ?_; clear hx; rintro e w2 ⟨rfl, hb2⟩; have HB2 := Lib.hid (step_on (HB.out.alloc HB.out.size _) hb2); clear hb2)
        go_ret
        exact ⟨by rw [HR.out]; rfl, HB2.out⟩
      | true =>
        have HR := Lib.hid (show (l.take (n + 1)).all FT.rightB = true by rw [all_take _ hlt, HT.out, hr]; rfl)
        rw [hr] at HC
        clear hr
        go_wp2_with (go_at_call 40; have hx := HC.out _ ((HP.out.on HB.out).alloc (.cells #[.string l[n].name, .slice l[n].pa l[n].params.length l[n].pc, .slice l[n].va l[n].vars.length l[n].vc, .slice l[n].ba l[n].body.length l[n].bc] 55)); refine hx.mono ?_; clear hx; rintro e w2 ⟨rfl, hb2⟩; have HB2 := Lib.hid (step_on (HB.out.alloc HB.out.size _) hb2); clear hb2)
        go_round
        case rel => exact ⟨n + 1, by omega, by go_num, HB2.out, HR.out⟩
        case measure => simp [intOf]; omega
    · obtain rfl : n = l.length := by omega
      rw [List.take_length] at HT
      go_wp2
      go_ret
      exact ⟨by rw [HT.out]; rfl, HB.out⟩
abbrev prV (a : Option Addr) (n c : Nat) : Value := .agg #[.slice a n c]
theorem rightP_any {w0 : World} (a : Option Addr) (c : Nat) (l : List FT) (hin : FsIn w0 0 a l) (w : World) (hp : Past w0 w) :
    Calls Tryz.prog 12 #[.agg #[.slice a l.length c]] w fun e w' => e = .returned (.bool (l.all FT.rightB)) ∧ Below w.heap.size w w' := by
  have HH := Lib.hid (fun W hW => all_funcs (w0 := w0) a c l hin W hW)
  have HP := Lib.hid hp
  clear hin hp
  go_enter Tryz.func12, Tryz.ntmps12
  go_wp2_with (go_at_call 39; have hx := HH.out _ (HP.out.alloc (.cells #[.slice a l.length c] 24)); refine hx.mono ?_; clear hx; rintro e w1 ⟨rfl, hb⟩)
  go_ret
  exact ⟨rfl, step_on ((Below.refl _ _).alloc (Nat.le_refl _) _) hb⟩
end Go.Proofs.YtkfogoglaiibiaaGreatDoor
