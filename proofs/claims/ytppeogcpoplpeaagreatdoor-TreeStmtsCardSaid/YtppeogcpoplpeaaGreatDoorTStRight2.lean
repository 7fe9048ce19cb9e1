/- What right asks of lists of statements, and of a statement with all below it. -/
import Derived.Test.YtppeogcpoplpeaaGreatDoorTStRight
set_option linter.unusedSimpArgs false
set_option linter.unusedVariables false
namespace Go.Proofs.YtppeogcpoplpeaaGreatDoor
open Go Go.RowKit

def ST.kind : ST → Int
  | .mk k _ _ _ _ _ _ _ _ _ _ _ _ => k
def ST.tag : ST → Int
  | .mk _ t _ _ _ _ _ _ _ _ _ _ _ => t
def ST.name : ST → ByteArray
  | .mk _ _ n _ _ _ _ _ _ _ _ _ _ => n
def ST.func : ST → ByteArray
  | .mk _ _ _ f _ _ _ _ _ _ _ _ _ => f
def ST.ea : ST → Option Addr
  | .mk _ _ _ _ ea ec e ba bc b la lc l => ea
def ST.ec : ST → Nat
  | .mk _ _ _ _ ea ec e ba bc b la lc l => ec
def ST.en : ST → Nat
  | .mk _ _ _ _ ea ec e ba bc b la lc l => e.length
def ST.ba : ST → Option Addr
  | .mk _ _ _ _ ea ec e ba bc b la lc l => ba
def ST.bc : ST → Nat
  | .mk _ _ _ _ ea ec e ba bc b la lc l => bc
def ST.bn : ST → Nat
  | .mk _ _ _ _ ea ec e ba bc b la lc l => b.length
def ST.la : ST → Option Addr
  | .mk _ _ _ _ ea ec e ba bc b la lc l => la
def ST.lc : ST → Nat
  | .mk _ _ _ _ ea ec e ba bc b la lc l => lc
def ST.ln : ST → Nat
  | .mk _ _ _ _ ea ec e ba bc b la lc l => l.length
theorem ST.cells_eq (S : ST) : S.cells = #[.int .i64 S.kind, .int .i64 S.tag, .string S.name, .string S.func, .slice S.ea S.en S.ec, .slice S.ba S.bn S.bc, .slice S.la S.ln S.lc] := by cases S; rfl
theorem ST.val_eq (S : ST) : S.val = .agg #[.int .i64 S.kind, .int .i64 S.tag, .string S.name, .string S.func, .slice S.ea S.en S.ec, .slice S.ba S.bn S.bc, .slice S.la S.ln S.lc] := by cases S; rfl
structure Cells7 (w : World) (b o : Nat) (v0 v1 v2 v3 v4 v5 v6 : Value) : Prop where
  c0 : w.cell? ⟨b, o, none⟩ = some v0
  c1 : w.cell? ⟨b, o + 1, none⟩ = some v1
  c2 : w.cell? ⟨b, o + 2, none⟩ = some v2
  c3 : w.cell? ⟨b, o + 3, none⟩ = some v3
  c4 : w.cell? ⟨b, o + 4, none⟩ = some v4
  c5 : w.cell? ⟨b, o + 5, none⟩ = some v5
  c6 : w.cell? ⟨b, o + 6, none⟩ = some v6
  lt : b < w.heap.size
theorem row_cells7 {w0 w : World} {B b o i : Nat} {v0 v1 v2 v3 v4 v5 v6 : Value} (h : RowAt w0 B (some ⟨b, o, none⟩) i 7 #[v0, v1, v2, v3, v4, v5, v6]) (hp : Past w0 w) : Cells7 w b (o + i * 7) v0 v1 v2 v3 v4 v5 v6 := by
  obtain ⟨b', o', e, -, hc⟩ := h
  simp only [Option.some.injEq, Addr.mk.injEq, and_true] at e
  obtain ⟨rfl, rfl⟩ := e
  have k := below_keep hp (B := 0)
  have h0 := k _ _ (Nat.zero_le _) (hc 0 v0 rfl)
  exact ⟨h0, k _ _ (Nat.zero_le _) (hc 1 v1 rfl), k _ _ (Nat.zero_le _) (hc 2 v2 rfl), k _ _ (Nat.zero_le _) (hc 3 v3 rfl), k _ _ (Nat.zero_le _) (hc 4 v4 rfl), k _ _ (Nat.zero_le _) (hc 5 v5 rfl), k _ _ (Nat.zero_le _) (hc 6 v6 rfl), cell_lt h0⟩

set_option maxHeartbeats 2000000 in
set_option maxRecDepth 100000 in
theorem all_stmts {w0 : World} (a : Option Addr) (c : Nat) (l : List ST) (hl : l.length ≤ 9223372036854775807) (hin : SsIn w0 0 a 0 l)
    (hf : ∀ (n : Nat) (hn : n < l.length) (w : World), Past w0 w → Calls Tryz.prog 54 #[l[n].val] w fun e w' => e = .returned (.bool l[n].rightB) ∧ Below w.heap.size w w') (w : World) (hp : Past w0 w) :
    Calls Tryz.prog 53 #[.slice a l.length c, .func (.func 54) #[] #[]] w fun e w' => e = .returned (.bool (rightSs l)) ∧ Below w.heap.size w w' := by
  have HF := Lib.hid hf
  have HI := Lib.hid hin
  have HP := Lib.hid hp
  clear hf hin hp
  go_enter Tryz.func53, Tryz.ntmps53
  go_wp2
  go_loopw [6, 9] (fun _ i wr => ∃ n : Nat, n ≤ l.length ∧ i = .int .i64 n ∧ Below w.heap.size w wr ∧ rightSs (l.take n) = true) (fun _ i _ => l.length - (intOf i).toNat)
  case atStart => exact ⟨0, Nat.zero_le _, rfl, Below.refl _ _, rfl⟩
  case round =>
    obtain ⟨n, hn, rfl, hb, ht⟩ := hrel
    have HB := Lib.hid hb
    have HT := Lib.hid ht
    clear hb ht
    by_cases hlt : n < l.length
    · obtain ⟨hrow, -⟩ := HI.out.nth n hlt
      have hrow' := hrow
      obtain ⟨kb, ko, rfl, -⟩ := hrow'
      rw [ST.cells_eq, Nat.zero_add] at hrow
      obtain ⟨r0, r1, r2, r3, r4, r5, r6, hkb⟩ := row_cells7 hrow (HP.out.on HB.out)
      have hcall := HF.out n hlt
      rw [ST.val_eq] at hcall
      have HC := Lib.hid hcall
      clear hcall hrow
      cases hr : l[n].rightB with
      | false =>
        have HR := Lib.hid (rightSs_false hlt hr)
        rw [hr] at HC
        clear hr
        go_wp2_with (go_at_call 54; have hx := HC.out _ ((HP.out.on HB.out).alloc (.cells #[.int .i64 l[n].kind, .int .i64 l[n].tag, .string l[n].name, .string l[n].func, .slice l[n].ea l[n].en l[n].ec, .slice l[n].ba l[n].bn l[n].bc, .slice l[n].la l[n].ln l[n].lc] 83)); refine hx.mono ?_; clear hx; rintro e w2 ⟨rfl, hb2⟩; have HB2 := Lib.hid (step_on (HB.out.alloc HB.out.size _) hb2); clear hb2)
        go_ret
        exact ⟨by rw [HR.out]; rfl, HB2.out⟩
      | true =>
        have HR := Lib.hid (show rightSs (l.take (n + 1)) = true by rw [rightSs_take hlt, HT.out, hr]; rfl)
        rw [hr] at HC
        clear hr
        go_wp2_with (go_at_call 54; have hx := HC.out _ ((HP.out.on HB.out).alloc (.cells #[.int .i64 l[n].kind, .int .i64 l[n].tag, .string l[n].name, .string l[n].func, .slice l[n].ea l[n].en l[n].ec, .slice l[n].ba l[n].bn l[n].bc, .slice l[n].la l[n].ln l[n].lc] 83)); refine hx.mono ?_; clear hx; rintro e w2 ⟨rfl, hb2⟩; have HB2 := Lib.hid (step_on (HB.out.alloc HB.out.size _) hb2); clear hb2)
        go_round
        case rel => exact ⟨n + 1, by omega, by go_num, HB2.out, HR.out⟩
        case measure => simp [intOf]; omega
    · obtain rfl : n = l.length := by omega
      rw [List.take_length] at HT
      go_wp2
      go_ret
      exact ⟨by rw [HT.out]; rfl, HB.out⟩

def SRightOk (w0 : World) (S : ST) : Prop := ∀ w, Past w0 w → Calls Tryz.prog 54 #[S.val] w fun e w' => e = .returned (.bool S.rightB) ∧ Below w.heap.size w w'
set_option maxHeartbeats 4000000 in
set_option maxRecDepth 100000 in
theorem rightS_any {w0 : World} : ∀ (m : Nat) (S : ST), S.sz ≤ m → S.In w0 0 → SRightOk w0 S := by
  intro m
  induction m with
  | zero => intro S hm; obtain ⟨k, t, n, f, ea, ec, e, ba, bc, b, la, lc, l⟩ := S; simp [ST.sz] at hm
  | succ m ih =>
    intro S hm hin w hp
    obtain ⟨k, t, n, f, ea, ec, e, ba, bc, b, la, lc, l⟩ := S
    rw [ST.In] at hin
    obtain ⟨-, ⟨z1, z2, z3⟩, i1, i2, i3⟩ := hin
    simp only [ST.sz] at hm
    have HA := Lib.hid (fun W hW => all_exprs (w0 := w0) ea ec e z1 i1 (fun n hn w hw => right_any _ e[n] (Nat.le_refl _) (i1.nth n hn).2 w hw) W hW)
    have HB := Lib.hid (fun W hW => all_stmts (w0 := w0) ba bc b z2 i2 (fun n hn w hw => ih b[n] (by have := Szs_nth hn; omega) (i2.nth n hn).2 w hw) W hW)
    have HL := Lib.hid (fun W hW => all_stmts (w0 := w0) la lc l z3 i3 (fun n hn w hw => ih l[n] (by have := Szs_nth hn; omega) (i3.nth n hn).2 w hw) W hW)
    have HP := Lib.hid hp
    have e1 : (ST.mk k t n f ea ec e ba bc b la lc l).rightB = (formedS k t n f e.length b.length l.length && rightEs e && rightSs b && rightSs l) := by rw [ST.rightB]
    rw [e1]
    show Calls Tryz.prog 54 #[stV k t n f (.slice ea e.length ec) ba b.length bc la l.length lc] w _
    have HF := Lib.hid (fun W => formedS_any k t n f ea e.length ec ba b.length bc la l.length lc W)
    generalize formedS k t n f e.length b.length l.length = r1 at HF
    generalize rightEs e = r2 at HA
    generalize rightSs b = r3 at HB
    generalize rightSs l = r4 at HL
    clear ih hp e1 z1 z2 z3 i1 i2 i3 hm
    generalize hr : (r1 && r2 && r3 && r4) = r
    have key : r1 = false ∧ r = false ∨ r1 = true ∧ (r2 = false ∧ r = false ∨ r2 = true ∧ (r3 = false ∧ r = false ∨ r3 = true ∧ r4 = r)) := by
      rw [← hr]
      cases r1 <;> cases r2 <;> cases r3 <;> simp
    clear hr
    rcases key with ⟨rfl, rfl⟩ | ⟨rfl, (⟨rfl, rfl⟩ | ⟨rfl, (⟨rfl, rfl⟩ | ⟨rfl, rfl⟩)⟩)⟩
    all_goals
      go_enter Tryz.func54, Tryz.ntmps54
      go_wp2_with (first
        | (go_at_call 53; have hx := HL.out _ (HP.out.on B3.out); refine hx.mono ?_; clear hx; rintro e w4 ⟨rfl, hb4⟩; have B4 := Lib.hid (step_on B3.out hb4); clear hb4)
        | (go_at_call 53; have hx := HB.out _ (HP.out.on B2.out); refine hx.mono ?_; clear hx; rintro e w3 ⟨rfl, hb3⟩; have B3 := Lib.hid (step_on B2.out hb3); have X3 := Lib.hid ((hb3.block w.heap.size (lt_of_block X2.out)).trans X2.out); obtain ⟨p0, p1, p2, p3, p4, p5, p6⟩ := cells7 X3.out; clear hb3)
        | (go_at_call 74; have hx := HA.out _ (HP.out.on B1.out); refine hx.mono ?_; clear hx; rintro e w2 ⟨rfl, hb2⟩; have B2 := Lib.hid (step_on B1.out hb2); have X2 := Lib.hid ((hb2.block w.heap.size (lt_of_block X1.out)).trans X1.out); obtain ⟨d0, d1, d2, d3, d4, d5, d6⟩ := cells7 X2.out; clear hb2)
        | (go_at_call 86; refine (HF.out _).mono ?_; rintro e w1 ⟨rfl, hb⟩; have B1 := Lib.hid (step_on ((Below.refl _ _).alloc (Nat.le_refl _) _) hb); have X1 := Lib.hid ((hb.block w.heap.size (by simp)).trans (bk_new w _)); obtain ⟨c0, c1, c2, c3, c4, c5, c6⟩ := cells7 X1.out; clear hb))
      go_ret
      exact ⟨by simp, by first | exact B4.out | exact B3.out | exact B2.out | exact B1.out⟩
theorem rightStmts_any {w0 : World} (a : Option Addr) (c : Nat) (l : List ST) (hl : l.length ≤ 9223372036854775807) (hin : SsIn w0 0 a 0 l) (w : World) (hp : Past w0 w) :
    Calls Tryz.prog 25 #[.slice a l.length c] w fun e w' => e = .returned (.bool (rightSs l)) ∧ Below w.heap.size w w' := by
  have HH := Lib.hid (all_stmts a c l hl hin (fun n hn w hw => rightS_any _ l[n] (Nat.le_refl _) (hin.nth n hn).2 w hw) w hp)
  clear hin hp
  go_enter Tryz.func25, Tryz.ntmps25
  go_wp2_with (go_at_call 53; refine HH.out.mono ?_; rintro e w1 ⟨rfl, hb⟩)
  go_ret
  exact ⟨rfl, hb⟩
end Go.Proofs.YtppeogcpoplpeaaGreatDoor
