/- What same asks of two expressions, and of two statements, with all below. (Written by gens2.py.) -/
import Derived.Test.YtppeogcpoplpeaaGreatDoorTSame
set_option linter.unusedSimpArgs false
set_option linter.unusedVariables false
namespace Go.Proofs.YtppeogcpoplpeaaGreatDoor
open Go Go.RowKit

set_option maxHeartbeats 4000000 in
set_option maxRecDepth 100000 in
theorem sameE_core {w0 : World} (k k' : Int) (o o' : ByteArray) (n n' : Int) (m m' : ByteArray) (a a' : Option Addr) (x x' c c' : Nat) (r5 : Bool)
    (hA : ∀ W, Past w0 W → Calls Tryz.prog 92 #[.slice a x c, .slice a' x' c', .func (.func 60) #[] #[]] W fun e w' => e = .returned (.bool r5) ∧ Below W.heap.size W w') (w : World) (hp : Past w0 w) :
    Calls Tryz.prog 60 #[exV k o n m (.slice a x c), exV k' o' n' m' (.slice a' x' c')] w fun e w' => e = .returned (.bool ((k == k') && ((o.toList == o'.toList) && ((n == n') && ((m.toList == m'.toList) && (r5)))))) ∧ Below w.heap.size w w' := by
  have HA := Lib.hid hA
  have HP := Lib.hid hp
  clear hA hp
  generalize hr : ((k == k') && ((o.toList == o'.toList) && ((n == n') && ((m.toList == m'.toList) && (r5))))) = r
  have key : (k == k') = false ∧ r = false ∨ (k == k') = true ∧ ((o.toList == o'.toList) = false ∧ r = false ∨ (o.toList == o'.toList) = true ∧ ((n == n') = false ∧ r = false ∨ (n == n') = true ∧ ((m.toList == m'.toList) = false ∧ r = false ∨ (m.toList == m'.toList) = true ∧ (r = (r5))))) := by
    rw [← hr]
    cases (k == k') <;> cases (o.toList == o'.toList) <;> cases (n == n') <;> cases (m.toList == m'.toList) <;> simp
  clear hr
  rcases key with ⟨h1, rfl⟩ | ⟨h1, (⟨h2, rfl⟩ | ⟨h2, (⟨h3, rfl⟩ | ⟨h3, (⟨h4, rfl⟩ | ⟨h4, (rfl)⟩)⟩)⟩)⟩
  all_goals
    go_enter Tryz.func60, Tryz.ntmps60
    go_wp2_with (go_at_call 92; have hx := HA.out _ ((HP.out.alloc (.cells #[.int .i64 k, .string o, .int .i64 n, .string m, .slice a x c] 30)).alloc (.cells #[.int .i64 k', .string o', .int .i64 n', .string m', .slice a' x' c'] 30)); refine hx.mono ?_; clear hx; rintro e w2 ⟨rfl, hb2⟩; have HB2 := Lib.hid (step_on (((Below.refl _ _).alloc (Nat.le_refl _) _).alloc (by simp) _) hb2); clear hb2)
    go_ret
    exact ⟨by simp, by first | exact HB2.out | exact ((Below.refl _ _).alloc (Nat.le_refl _) _).alloc (by simp) _⟩
theorem sameE_any {w0 : World} : ∀ (m : Nat) (T U : ET), T.sz ≤ m → T.In w0 0 → U.In w0 0 → ∀ w, Past w0 w → Calls Tryz.prog 60 #[T.val, U.val] w fun e w' => e = .returned (.bool (sameE T U)) ∧ Below w.heap.size w w' := by
  intro m
  induction m with
  | zero => intro T U hm; obtain ⟨k, o, n, m, a, c, l⟩ := T; simp [ET.sz] at hm
  | succ m ih =>
    intro T U hm hin hin' w hp
    obtain ⟨k, o, n, m1, a, c, l⟩ := T
    obtain ⟨k', o', n', m1', a', c', l'⟩ := U
    rw [ET.In] at hin hin'
    have := sameE_core k k' o o' n n' m1 m1' a a' l.length l'.length c c' (sameEs l l') (fun W hW => equal_exprs a a' c c' l l' hin.2.1 hin'.2.1 hin.2.2 hin'.2.2 (fun i hi hi' w hw => ih l[i] l'[i] (by have := szs_nth hi; simp [ET.sz] at hm; omega) (hin.2.2.nth i hi).2 (hin'.2.2.nth i hi').2 w hw) W hW) w hp
    rw [sameE]
    exact this
theorem equalEs_any {w0 : World} (a a' : Option Addr) (c c' : Nat) (l l' : List ET) (z : l.length ≤ 9223372036854775807) (z' : l'.length ≤ 9223372036854775807) (hin : EsIn w0 0 a 0 l) (hin' : EsIn w0 0 a' 0 l') (W : World) (hW : Past w0 W) :
    Calls Tryz.prog 92 #[.slice a l.length c, .slice a' l'.length c', .func (.func 60) #[] #[]] W fun e w' => e = .returned (.bool (sameEs l l')) ∧ Below W.heap.size W w' :=
  equal_exprs a a' c c' l l' z z' hin hin' (fun i hi hi' w hw => sameE_any _ l[i] l'[i] (Nat.le_refl _) (hin.nth i hi).2 (hin'.nth i hi').2 w hw) W hW
set_option maxHeartbeats 4000000 in
set_option maxRecDepth 100000 in
theorem sameExpr_any {w0 : World} {T U : ET} (hin : T.In w0 0) (hin' : U.In w0 0) (w : World) (hp : Past w0 w) : Calls Tryz.prog 31 #[T.val, U.val] w fun e w' => e = .returned (.bool (sameE T U)) ∧ Below w.heap.size w w' := by
  have HH := Lib.hid (sameE_any T.sz T U (Nat.le_refl _) hin hin')
  have HP := Lib.hid hp
  clear hin hin' hp
  rw [ET.val_is, ET.val_is] at HH ⊢
  generalize sameE T U = r at HH
  go_enter Tryz.func31, Tryz.ntmps31
  go_wp2_with (go_at_call 60; have hx := HH.out _ ((HP.out.alloc (.cells #[.int .i64 T.kind, .string T.op, .int .i64 T.n, .string T.name, .slice T.kaddr T.kids.length T.kcap] 30)).alloc (.cells #[.int .i64 U.kind, .string U.op, .int .i64 U.n, .string U.name, .slice U.kaddr U.kids.length U.kcap] 30)); refine hx.mono ?_; clear hx; rintro e w1 ⟨rfl, hb⟩)
  go_ret
  exact ⟨rfl, step_on (((Below.refl _ _).alloc (Nat.le_refl _) _).alloc (by simp) _) hb⟩
set_option maxHeartbeats 4000000 in
set_option maxRecDepth 100000 in
theorem sameS_core {w0 : World} (k k' t t' : Int) (n n' f f' : ByteArray) (ea ea' : Option Addr) (x x' c c' : Nat) (ba ba' : Option Addr) (b b' bc bc' : Nat) (la la' : Option Addr) (l l' lc lc' : Nat) (r5 r6 r7 : Bool)
    (hA : ∀ W, Past w0 W → Calls Tryz.prog 92 #[.slice ea x c, .slice ea' x' c', .func (.func 60) #[] #[]] W fun e w' => e = .returned (.bool r5) ∧ Below W.heap.size W w')
    (hB : ∀ W, Past w0 W → Calls Tryz.prog 58 #[.slice ba b bc, .slice ba' b' bc'] W fun e w' => e = .returned (.bool r6) ∧ Below W.heap.size W w')
    (hC : ∀ W, Past w0 W → Calls Tryz.prog 58 #[.slice la l lc, .slice la' l' lc'] W fun e w' => e = .returned (.bool r7) ∧ Below W.heap.size W w') (w : World) (hp : Past w0 w) :
    Calls Tryz.prog 91 #[.agg #[.int .i64 k, .int .i64 t, .string n, .string f, .slice ea x c, .slice ba b bc, .slice la l lc], .agg #[.int .i64 k', .int .i64 t', .string n', .string f', .slice ea' x' c', .slice ba' b' bc', .slice la' l' lc']] w fun e w' => e = .returned (.bool ((k == k') && ((t == t') && ((n.toList == n'.toList) && ((f.toList == f'.toList) && ((r5) && ((r6) && (r7)))))))) ∧ Below w.heap.size w w' := by
  have HA := Lib.hid hA
  have HB := Lib.hid hB
  have HC := Lib.hid hC
  have HP := Lib.hid hp
  clear hA hB hC hp
  generalize hr : ((k == k') && ((t == t') && ((n.toList == n'.toList) && ((f.toList == f'.toList) && ((r5) && ((r6) && (r7))))))) = r
  have key : (k == k') = false ∧ r = false ∨ (k == k') = true ∧ ((t == t') = false ∧ r = false ∨ (t == t') = true ∧ ((n.toList == n'.toList) = false ∧ r = false ∨ (n.toList == n'.toList) = true ∧ ((f.toList == f'.toList) = false ∧ r = false ∨ (f.toList == f'.toList) = true ∧ ((r5) = false ∧ r = false ∨ (r5) = true ∧ ((r6) = false ∧ r = false ∨ (r6) = true ∧ (r = (r7))))))) := by
    rw [← hr]
    cases (k == k') <;> cases (t == t') <;> cases (n.toList == n'.toList) <;> cases (f.toList == f'.toList) <;> cases r5 <;> cases r6 <;> simp
  clear hr
  rcases key with ⟨h1, rfl⟩ | ⟨h1, (⟨h2, rfl⟩ | ⟨h2, (⟨h3, rfl⟩ | ⟨h3, (⟨h4, rfl⟩ | ⟨h4, (⟨rfl, rfl⟩ | ⟨rfl, (⟨rfl, rfl⟩ | ⟨rfl, (rfl)⟩)⟩)⟩)⟩)⟩)⟩
  all_goals
    go_enter Tryz.func91, Tryz.ntmps91
    go_wp2_with (first
      | (go_at_call 58; have hx := HC.out _ (HP.out.on B3.out); refine hx.mono ?_; clear hx; rintro e w4 ⟨rfl, hb4⟩; have B4 := Lib.hid (step_on B3.out hb4); clear hb4)
      | (go_at_call 58; have hx := HB.out _ (HP.out.on B2.out); refine hx.mono ?_; clear hx; rintro e w3 ⟨rfl, hb3⟩; have B3 := Lib.hid (step_on B2.out hb3); have X31 := Lib.hid ((hb3.block w.heap.size (lt_of_block X21.out)).trans X21.out); have X32 := Lib.hid ((hb3.block (w.heap.size + 1) (lt_of_block X22.out)).trans X22.out); obtain ⟨p0, p1, p2, p3, p4, p5, p6⟩ := cells7 X31.out; obtain ⟨q0, q1, q2, q3, q4, q5, q6⟩ := cells7 X32.out; clear hb3)
      | (go_at_call 92; have hx := HA.out _ ((HP.out.alloc (.cells #[.int .i64 k, .int .i64 t, .string n, .string f, .slice ea x c, .slice ba b bc, .slice la l lc] 83)).alloc (.cells #[.int .i64 k', .int .i64 t', .string n', .string f', .slice ea' x' c', .slice ba' b' bc', .slice la' l' lc'] 83)); refine hx.mono ?_; clear hx; rintro e w2 ⟨rfl, hb2⟩; have B2 := Lib.hid (step_on (((Below.refl _ _).alloc (Nat.le_refl _) _).alloc (by simp) _) hb2); have X21 := Lib.hid ((hb2.block w.heap.size (by simp; omega)).trans (bk_old _ (bk_new w (.cells #[.int .i64 k, .int .i64 t, .string n, .string f, .slice ea x c, .slice ba b bc, .slice la l lc] 83)))); have X22 := Lib.hid ((hb2.block (w.heap.size + 1) (by simp)).trans (bk_new' (.cells #[.int .i64 k', .int .i64 t', .string n', .string f', .slice ea' x' c', .slice ba' b' bc', .slice la' l' lc'] 83) (by simp))); obtain ⟨c0, c1, c2, c3, c4, c5, c6⟩ := cells7 X21.out; obtain ⟨d0, d1, d2, d3, d4, d5, d6⟩ := cells7 X22.out; clear hb2))
    go_ret
    exact ⟨by simp, by first | exact B4.out | exact B3.out | exact B2.out | exact ((Below.refl _ _).alloc (Nat.le_refl _) _).alloc (by simp) _⟩
def SameOk (w0 : World) (l l' : List ST) : Prop := ∀ (i : Nat) (hi : i < l.length) (hi' : i < l'.length) (w : World), Past w0 w → Calls Tryz.prog 91 #[l[i].val, l'[i].val] w fun e w' => e = .returned (.bool (sameS l[i] l'[i])) ∧ Below w.heap.size w w'
theorem sameBlock_of {w0 : World} (a a' : Option Addr) (c c' : Nat) (l l' : List ST) (z : l.length ≤ 9223372036854775807) (z' : l'.length ≤ 9223372036854775807) (hin : SsIn w0 0 a 0 l) (hin' : SsIn w0 0 a' 0 l') (hs : SameOk w0 l l') (w : World) (hp : Past w0 w) :
    Calls Tryz.prog 58 #[.slice a l.length c, .slice a' l'.length c'] w fun e w' => e = .returned (.bool (sameSs l l')) ∧ Below w.heap.size w w' := by
  have HH := Lib.hid (equal_stmts a a' c c' l l' z z' hin hin' hs w hp)
  clear hin hin' hs hp
  go_enter Tryz.func58, Tryz.ntmps58
  go_wp2_with (go_at_call 90; refine HH.out.mono ?_; rintro e w1 ⟨rfl, hb⟩)
  go_ret
  exact ⟨rfl, hb⟩
theorem sameS_any {w0 : World} : ∀ (m : Nat) (S U : ST), S.sz ≤ m → S.In w0 0 → U.In w0 0 → ∀ w, Past w0 w → Calls Tryz.prog 91 #[S.val, U.val] w fun e w' => e = .returned (.bool (sameS S U)) ∧ Below w.heap.size w w' := by
  intro m
  induction m with
  | zero => intro S U hm; obtain ⟨k, t, n, f, ea, ec, e, ba, bc, b, la, lc, l⟩ := S; simp [ST.sz] at hm
  | succ m ih =>
    intro S U hm hin hin' w hp
    obtain ⟨k, t, n, f, ea, ec, e, ba, bc, b, la, lc, l⟩ := S
    obtain ⟨k', t', n', f', ea', ec', e', ba', bc', b', la', lc', l'⟩ := U
    rw [ST.In] at hin hin'
    obtain ⟨-, ⟨z1, z2, z3⟩, i1, i2, i3⟩ := hin
    obtain ⟨-, ⟨y1, y2, y3⟩, j1, j2, j3⟩ := hin'
    simp only [ST.sz] at hm
    have := sameS_core k k' t t' n n' f f' ea ea' e.length e'.length ec ec' ba ba' b.length b'.length bc bc' la la' l.length l'.length lc lc' (sameEs e e') (sameSs b b') (sameSs l l')
      (fun W hW => equalEs_any ea ea' ec ec' e e' z1 y1 i1 j1 W hW)
      (fun W hW => sameBlock_of ba ba' bc bc' b b' z2 y2 i2 j2 (fun i hi hi' w hw => ih b[i] b'[i] (by have := Szs_nth hi; omega) (i2.nth i hi).2 (j2.nth i hi').2 w hw) W hW)
      (fun W hW => sameBlock_of la la' lc lc' l l' z3 y3 i3 j3 (fun i hi hi' w hw => ih l[i] l'[i] (by have := Szs_nth hi; omega) (i3.nth i hi).2 (j3.nth i hi').2 w hw) W hW) w hp
    rw [sameS]
    exact this
theorem sameBlock_any {w0 : World} (a a' : Option Addr) (c c' : Nat) (l l' : List ST) (z : l.length ≤ 9223372036854775807) (z' : l'.length ≤ 9223372036854775807) (hin : SsIn w0 0 a 0 l) (hin' : SsIn w0 0 a' 0 l') (w : World) (hp : Past w0 w) :
    Calls Tryz.prog 58 #[.slice a l.length c, .slice a' l'.length c'] w fun e w' => e = .returned (.bool (sameSs l l')) ∧ Below w.heap.size w w' :=
  sameBlock_of a a' c c' l l' z z' hin hin' (fun i hi hi' w hw => sameS_any _ l[i] l'[i] (Nat.le_refl _) (hin.nth i hi).2 (hin'.nth i hi').2 w hw) w hp
theorem sameStmts_any {w0 : World} (a a' : Option Addr) (c c' : Nat) (l l' : List ST) (z : l.length ≤ 9223372036854775807) (z' : l'.length ≤ 9223372036854775807) (hin : SsIn w0 0 a 0 l) (hin' : SsIn w0 0 a' 0 l') (w : World) (hp : Past w0 w) :
    Calls Tryz.prog 29 #[.slice a l.length c, .slice a' l'.length c'] w fun e w' => e = .returned (.bool (sameSs l l')) ∧ Below w.heap.size w w' := by
  have HH := Lib.hid (sameBlock_any a a' c c' l l' z z' hin hin' w hp)
  clear hin hin' hp
  go_enter Tryz.func29, Tryz.ntmps29
  go_wp2_with (go_at_call 58; refine HH.out.mono ?_; rintro e w1 ⟨rfl, hb⟩)
  go_ret
  exact ⟨rfl, hb⟩
end Go.Proofs.YtppeogcpoplpeaaGreatDoor
