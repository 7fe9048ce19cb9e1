/- What same asks of functions and of programs. (Written by gens4.py.) -/
import Derived.Test.YtppeogcpoplpeaaGreatDoorTSame3
set_option linter.unusedSimpArgs false
set_option linter.unusedVariables false
namespace Go.Proofs.YtppeogcpoplpeaaGreatDoor
open Go Go.RowKit

theorem FT.cells_eq (F : FT) : F.cells = #[.string F.name, .slice F.pa F.params.length F.pc, .slice F.va F.vars.length F.vc, .slice F.ba F.body.length F.bc] := rfl
theorem FT.val_eq (F : FT) : F.val = .agg #[.string F.name, .slice F.pa F.params.length F.pc, .slice F.va F.vars.length F.vc, .slice F.ba F.body.length F.bc] := rfl
structure FsAt (w : World) (B : Nat) (a : Option Addr) (z : Nat) (l : List FT) : Prop where
  it : FsIn w B a l
theorem FsAt.nth {w : World} {B : Nat} {a : Option Addr} {l : List FT} (h : FsAt w B a 0 l) (j : Nat) (hj : j < l.length) : RowAt w B a (0 + j) 4 l[j].cells ∧ l[j].In w B := by
  rw [Nat.zero_add]; exact ⟨h.it.row j hj, h.it.fs j hj⟩
def sameF (F G : FT) : Bool := F.name.toList == G.name.toList && (decide (F.params = G.params) && (sameDs F.vars G.vars && sameSs F.body G.body))
def sameFs : List FT → List FT → Bool
  | [], [] => true
  | S :: l, U :: m => sameF S U && sameFs l m
  | [], _ :: _ => false
  | _ :: _, [] => false
theorem sameFs_len {l m : List FT} (h : ¬ l.length = m.length) : sameFs l m = false := by
  induction l generalizing m with
  | nil =>
    cases m with
    | nil => exact absurd rfl h
    | cons U m => rw [sameFs]
  | cons X l ih =>
    cases m with
    | nil => rw [sameFs]
    | cons U m => rw [sameFs, ih (by simpa using h)]; simp
theorem sameFs_no {l m : List FT} {n : Nat} (hn : n < l.length) (hn' : n < m.length) (h : sameF l[n] m[n] = false) : sameFs l m = false := by
  induction l generalizing m n with
  | nil => simp at hn
  | cons X l ih =>
    cases m with
    | nil => simp at hn'
    | cons U m =>
      cases n with
      | zero => rw [sameFs, show sameF X U = false from h]; rfl
      | succ n => rw [sameFs, ih (m := m) (n := n) (by simpa using hn) (by simpa using hn') h]; simp
theorem sameFs_take {l m : List FT} {n : Nat} (hn : n < l.length) (hn' : n < m.length) : sameFs (l.take (n + 1)) (m.take (n + 1)) = (sameFs (l.take n) (m.take n) && sameF l[n] m[n]) := by
  induction l generalizing m n with
  | nil => simp at hn
  | cons X l ih =>
    cases m with
    | nil => simp at hn'
    | cons U m =>
      cases n with
      | zero => simp [sameFs]
      | succ n =>
        have := ih (m := m) (n := n) (by simpa using hn) (by simpa using hn')
        rw [List.take_succ_cons, List.take_succ_cons, sameFs, this, List.take_succ_cons, List.take_succ_cons, sameFs, Bool.and_assoc]
        rfl
set_option maxHeartbeats 4000000 in
set_option maxRecDepth 100000 in
theorem equal_funcs {w0 : World} (a a' : Option Addr) (c c' : Nat) (l m : List FT) (hl : l.length ≤ 9223372036854775807) (hm : m.length ≤ 9223372036854775807) (hin : FsAt w0 0 a 0 l) (hin' : FsAt w0 0 a' 0 m)
    (hf : ∀ (n : Nat) (hn : n < l.length) (hn' : n < m.length) (w : World), Past w0 w → Calls Tryz.prog 43 #[l[n].val, m[n].val] w fun e w' => e = .returned (.bool (sameF l[n] m[n])) ∧ Below w.heap.size w w') (w : World) (hp : Past w0 w) :
    Calls Tryz.prog 42 #[.slice a l.length c, .slice a' m.length c', .func (.func 43) #[] #[]] w fun e w' => e = .returned (.bool (sameFs l m)) ∧ Below w.heap.size w w' := by
  have HF := Lib.hid hf
  have HI := Lib.hid hin
  have HI' := Lib.hid hin'
  have HP := Lib.hid hp
  clear hf hin hin' hp
  by_cases hlen : l.length = m.length
  · have hne : ((l.length : Int) != (m.length : Int)) = false := by rw [hlen]; simp
    have hlm : Hid (m.length = l.length) := Lib.hid hlen.symm
    have HLN := Lib.hid hlen
    clear hlen
    go_enter Tryz.func42, Tryz.ntmps42
    go_wp2
    go_loopw [7, 8, 9, 17] (fun _ _ _ i wr => ∃ n : Nat, n ≤ l.length ∧ i = .int .i64 n ∧ Below w.heap.size w wr ∧ sameFs (l.take n) (m.take n) = true) (fun _ _ _ i _ => l.length - (intOf i).toNat)
    case atStart => exact ⟨0, Nat.zero_le _, rfl, Below.refl _ _, by simp [sameFs]⟩
    case round =>
      obtain ⟨n, hn, rfl, hb, ht⟩ := hrel
      have HB := Lib.hid hb
      have HT := Lib.hid ht
      clear hb ht
      by_cases hlt : n < l.length
      · have hlt' : n < m.length := by have := hlm.out; omega
        obtain ⟨hrow, -⟩ := HI.out.nth n hlt
        obtain ⟨hrow2, -⟩ := HI'.out.nth n hlt'
        have hrow' := hrow
        have hrow2' := hrow2
        obtain ⟨kb, ko, rfl, -⟩ := hrow'
        obtain ⟨kb', ko', rfl, -⟩ := hrow2'
        rw [FT.cells_eq, Nat.zero_add] at hrow hrow2
        obtain ⟨r0, r1, r2, r3, hkb⟩ := row_cells4 hrow (HP.out.on HB.out)
        obtain ⟨s0, s1, s2, s3, hkb2⟩ := row_cells4 hrow2 (HP.out.on HB.out)
        have hcall := HF.out n hlt hlt'
        rw [FT.val_eq, FT.val_eq] at hcall
        have HC := Lib.hid hcall
        clear hcall hrow hrow2
        cases hr : sameF l[n] m[n] with
        | false =>
          have HR := Lib.hid (sameFs_no hlt hlt' hr)
          rw [hr] at HC
          clear hr
          go_wp2_with (go_at_call 43; have hx := HC.out _ (((HP.out.on HB.out).alloc (.cells #[.string l[n].name, .slice l[n].pa l[n].params.length l[n].pc, .slice l[n].va l[n].vars.length l[n].vc, .slice l[n].ba l[n].body.length l[n].bc] 55)).alloc (.cells #[.string m[n].name, .slice m[n].pa m[n].params.length m[n].pc, .slice m[n].va m[n].vars.length m[n].vc, .slice m[n].ba m[n].body.length m[n].bc] 55)); refine hx.mono ?_; clear hx; rintro e w2 ⟨rfl, hb2⟩; have HB2 := Lib.hid (step_on ((HB.out.alloc HB.out.size _).alloc (Nat.le_trans HB.out.size (by simp)) _) hb2); clear hb2)
          go_ret
          exact ⟨by rw [HR.out]; rfl, HB2.out⟩
        | true =>
          have HR := Lib.hid (show sameFs (l.take (n + 1)) (m.take (n + 1)) = true by rw [sameFs_take hlt hlt', HT.out, hr]; rfl)
          rw [hr] at HC
          clear hr
          go_wp2_with (go_at_call 43; have hx := HC.out _ (((HP.out.on HB.out).alloc (.cells #[.string l[n].name, .slice l[n].pa l[n].params.length l[n].pc, .slice l[n].va l[n].vars.length l[n].vc, .slice l[n].ba l[n].body.length l[n].bc] 55)).alloc (.cells #[.string m[n].name, .slice m[n].pa m[n].params.length m[n].pc, .slice m[n].va m[n].vars.length m[n].vc, .slice m[n].ba m[n].body.length m[n].bc] 55)); refine hx.mono ?_; clear hx; rintro e w2 ⟨rfl, hb2⟩; have HB2 := Lib.hid (step_on ((HB.out.alloc HB.out.size _).alloc (Nat.le_trans HB.out.size (by simp)) _) hb2); clear hb2)
          go_round
          case rel => exact ⟨n + 1, by omega, by go_num, HB2.out, HR.out⟩
          case measure => simp [intOf]; omega
      · obtain rfl : n = l.length := by omega
        have HT2 : Hid (sameFs l m = true) := Lib.hid (by have := HT.out; rw [List.take_length, HLN.out, List.take_length] at this; exact this)
        go_wp2
        go_ret
        exact ⟨by rw [HT2.out]; rfl, HB.out⟩
  · have hne : ((l.length : Int) != (m.length : Int)) = true := by simp; omega
    have HR := Lib.hid (sameFs_len hlen)
    go_enter Tryz.func42, Tryz.ntmps42
    go_wp2_with fail
    go_ret
    exact ⟨by rw [HR.out]; rfl, Below.refl _ _⟩
theorem equal_names {w0 : World} (a a' : Option Addr) (c c' : Nat) (l m : List ByteArray) (hl : l.length ≤ 9223372036854775807) (hm : m.length ≤ 9223372036854775807) (hin : ∀ (i : Nat) (h : i < l.length), StrAt w0 0 a i l[i]) (hin' : ∀ (i : Nat) (h : i < m.length), StrAt w0 0 a' i m[i]) (w : World) (hp : Past w0 w) :
    Calls Tryz.prog 71 #[.slice a l.length c, .slice a' m.length c'] w fun e w' => e = .returned (.bool (decide (l = m))) ∧ Below w.heap.size w w' := by
  by_cases hlen : l.length = m.length
  · by_cases h0 : l.length = 0
    · obtain rfl : l = [] := List.length_eq_zero_iff.1 h0
      obtain rfl : m = [] := List.length_eq_zero_iff.1 (by omega)
      refine (Tryz.slices_Equal_string_empty a a' c 0 c' w (by omega)).mono ?_
      rintro e w' ⟨rfl, rfl⟩
      exact ⟨by simp, Below.refl _ _⟩
    · have k := below_keep hp (B := 0)
      obtain ⟨b, o, ea, -, -⟩ := hin 0 (by omega)
      obtain ⟨b', o', ea', -, -⟩ := hin' 0 (by omega)
      subst ea
      subst ea'
      refine (Tryz.slices_Equal_string b o l.length c b' o' m.length c' l m w (Nat.le_refl _) (Nat.le_refl _) hl hm ?_ ?_).mono ?_
      · intro j hj
        obtain ⟨b1, o1, e1, -, h1⟩ := hin j hj
        simp only [Option.some.injEq, Addr.mk.injEq, and_true] at e1
        obtain ⟨rfl, rfl⟩ := e1
        rw [k _ _ (Nat.zero_le _) h1, List.getD_eq_getElem?_getD, List.getElem?_eq_getElem hj]; rfl
      · intro j hj
        obtain ⟨b1, o1, e1, -, h1⟩ := hin' j hj
        simp only [Option.some.injEq, Addr.mk.injEq, and_true] at e1
        obtain ⟨rfl, rfl⟩ := e1
        rw [k _ _ (Nat.zero_le _) h1, List.getD_eq_getElem?_getD, List.getElem?_eq_getElem hj]; rfl
      · rintro e w' ⟨rfl, q, rfl⟩
        rw [List.take_length, List.take_length]
        exact ⟨rfl, below_dN _ _⟩
  · refine (Tryz.slices_Equal_string_lens a a' l.length c m.length c' w hlen).mono ?_
    rintro e w' ⟨rfl, rfl⟩
    exact ⟨by rw [decide_eq_false (fun e => hlen (by rw [e]))], Below.refl _ _⟩
set_option maxHeartbeats 8000000 in
set_option maxRecDepth 100000 in
theorem sameFunc_any {w0 : World} (F G : FT) (hF : F.In w0 0) (hG : G.In w0 0) (w : World) (hp : Past w0 w) :
    Calls Tryz.prog 43 #[F.val, G.val] w fun e w' => e = .returned (.bool (sameF F G)) ∧ Below w.heap.size w w' := by
  have HA := Lib.hid (fun W hW => equal_names (w0 := w0) F.pa G.pa F.pc G.pc F.params G.params hF.pl hG.pl hF.ps hG.ps W hW)
  have HB := Lib.hid (fun W hW => equal_decls (w0 := w0) F.va G.va F.vc G.vc F.vars G.vars hF.vl hG.vl hF.vs hG.vs W hW)
  have HC := Lib.hid (fun W hW => sameBlock_any (w0 := w0) F.ba G.ba F.bc G.bc F.body G.body hF.bl hG.bl hF.ss hG.ss W hW)
  have HP := Lib.hid hp
  rw [FT.val_eq, FT.val_eq]
  unfold sameF
  generalize decide (F.params = G.params) = r2 at HA
  generalize sameDs F.vars G.vars = r3 at HB
  generalize sameSs F.body G.body = r4 at HC
  generalize hr : (F.name.toList == G.name.toList && (r2 && (r3 && r4))) = r
  have key : (F.name.toList == G.name.toList) = false ∧ r = false ∨ (F.name.toList == G.name.toList) = true ∧ (r2 = false ∧ r = false ∨ r2 = true ∧ (r3 = false ∧ r = false ∨ r3 = true ∧ r4 = r)) := by
    rw [← hr]
    cases (F.name.toList == G.name.toList) <;> cases r2 <;> cases r3 <;> simp
  clear hr hp hF hG
  rcases key with ⟨h1, rfl⟩ | ⟨h1, (⟨rfl, rfl⟩ | ⟨rfl, (⟨rfl, rfl⟩ | ⟨rfl, rfl⟩)⟩)⟩
  all_goals
    go_enter Tryz.func43, Tryz.ntmps43
    go_wp2_with (first
      | (go_at_call 58; have hx := HC.out _ (HP.out.on B3.out); refine hx.mono ?_; clear hx; rintro e w4 ⟨rfl, hb4⟩; have B4 := Lib.hid (step_on B3.out hb4); clear hb4)
      | (go_at_call 72; have hx := HB.out _ (HP.out.on B2.out); refine hx.mono ?_; clear hx; rintro e w3 ⟨rfl, hb3⟩; have B3 := Lib.hid (step_on B2.out hb3); have X31 := Lib.hid ((hb3.block w.heap.size (lt_of_block X21.out)).trans X21.out); have X32 := Lib.hid ((hb3.block (w.heap.size + 1) (lt_of_block X22.out)).trans X22.out); obtain ⟨p0, p1, p2, p3⟩ := cells4 X31.out; obtain ⟨q0, q1, q2, q3⟩ := cells4 X32.out; clear hb3)
      | (go_at_call 71; have hx := HA.out _ ((HP.out.alloc (.cells #[.string F.name, .slice F.pa F.params.length F.pc, .slice F.va F.vars.length F.vc, .slice F.ba F.body.length F.bc] 55)).alloc (.cells #[.string G.name, .slice G.pa G.params.length G.pc, .slice G.va G.vars.length G.vc, .slice G.ba G.body.length G.bc] 55)); refine hx.mono ?_; clear hx; rintro e w2 ⟨rfl, hb2⟩; have B2 := Lib.hid (step_on (((Below.refl _ _).alloc (Nat.le_refl _) _).alloc (by simp) _) hb2); have X21 := Lib.hid ((hb2.block w.heap.size (by simp; omega)).trans (bk_old _ (bk_new w (.cells #[.string F.name, .slice F.pa F.params.length F.pc, .slice F.va F.vars.length F.vc, .slice F.ba F.body.length F.bc] 55)))); have X22 := Lib.hid ((hb2.block (w.heap.size + 1) (by simp)).trans (bk_new' (.cells #[.string G.name, .slice G.pa G.params.length G.pc, .slice G.va G.vars.length G.vc, .slice G.ba G.body.length G.bc] 55) (by simp))); obtain ⟨c0, c1, c2, c3⟩ := cells4 X21.out; obtain ⟨d0, d1, d2, d3⟩ := cells4 X22.out; clear hb2))
    go_ret
    exact ⟨by simp, by first | exact B4.out | exact B3.out | exact B2.out | exact ((Below.refl _ _).alloc (Nat.le_refl _) _).alloc (by simp) _⟩
theorem sameP_any {w0 : World} (a a' : Option Addr) (c c' : Nat) (l m : List FT) (hin : FsIn w0 0 a l) (hin' : FsIn w0 0 a' m) (w : World) (hp : Past w0 w) :
    Calls Tryz.prog 14 #[.agg #[.slice a l.length c], .agg #[.slice a' m.length c']] w fun e w' => e = .returned (.bool (sameFs l m)) ∧ Below w.heap.size w w' := by
  have HH := Lib.hid (fun W hW => equal_funcs (w0 := w0) a a' c c' l m hin.len hin'.len ⟨hin⟩ ⟨hin'⟩ (fun n hn hn' w hw => sameFunc_any l[n] m[n] (hin.fs n hn) (hin'.fs n hn') w hw) W hW)
  have HP := Lib.hid hp
  clear hin hin' hp
  go_enter Tryz.func14, Tryz.ntmps14
  go_wp2_with (go_at_call 42; have hx := HH.out _ ((HP.out.alloc (.cells #[.slice a l.length c] 24)).alloc (.cells #[.slice a' m.length c'] 24)); refine hx.mono ?_; clear hx; rintro e w1 ⟨rfl, hb⟩)
  go_ret
  exact ⟨rfl, step_on (((Below.refl _ _).alloc (Nat.le_refl _) _).alloc (by simp) _) hb⟩
end Go.Proofs.YtppeogcpoplpeaaGreatDoor
