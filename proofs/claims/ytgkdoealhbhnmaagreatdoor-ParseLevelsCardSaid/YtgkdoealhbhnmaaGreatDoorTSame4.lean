/- What same asks of lists of expressions and of statements: are all fields the same, wherever they lie? (Written by gens.py.) What same asks of two expressions, and of two statements, with all below. (Written by gens2.py.) Two declarations compared by the language. What same asks of declarations, of functions and of programs. What same asks of functions and of programs. (Written by gens4.py.) -/
import Derived.Test.YtgkdoealhbhnmaaGreatDoorTProg3
set_option linter.unusedSimpArgs false
set_option linter.unusedVariables false
namespace Go.Proofs.YtgkdoealhbhnmaaGreatDoor
open Go Go.RowKit
open Go.Lib (hid)

mutual
def sameE : ET → ET → Bool
  | .mk k o n m _ _ l, .mk k' o' n' m' _ _ l' => k == k' && (o.toList == o'.toList && (n == n' && (m.toList == m'.toList && sameEs l l')))
def sameEs : List ET → List ET → Bool
  | [], [] => true
  | T :: l, U :: m => sameE T U && sameEs l m
  | [], _ :: _ => false
  | _ :: _, [] => false
end
mutual
def sameS : ST → ST → Bool
  | .mk k t n f _ _ e _ _ b _ _ l, .mk k' t' n' f' _ _ e' _ _ b' _ _ l' => k == k' && (t == t' && (n.toList == n'.toList && (f.toList == f'.toList && (sameEs e e' && (sameSs b b' && sameSs l l')))))
def sameSs : List ST → List ST → Bool
  | [], [] => true
  | S :: l, U :: m => sameS S U && sameSs l m
  | [], _ :: _ => false
  | _ :: _, [] => false
end
theorem sameEs_len {l m : List ET} (h : ¬ l.length = m.length) : sameEs l m = false := by
  induction l generalizing m with
  | nil =>
    cases m with
    | nil => exact absurd rfl h
    | cons U m => rw [sameEs]
  | cons X l ih =>
    cases m with
    | nil => rw [sameEs]
    | cons U m => rw [sameEs, ih (by simpa using h)]; simp
theorem sameEs_no {l m : List ET} {n : Nat} (hn : n < l.length) (hn' : n < m.length) (h : sameE l[n] m[n] = false) : sameEs l m = false := by
  induction l generalizing m n with
  | nil => simp at hn
  | cons X l ih =>
    cases m with
    | nil => simp at hn'
    | cons U m =>
      cases n with
      | zero => rw [sameEs, show sameE X U = false from h]; rfl
      | succ n => rw [sameEs, ih (m := m) (n := n) (by simpa using hn) (by simpa using hn') h]; simp
theorem sameEs_take {l m : List ET} {n : Nat} (hn : n < l.length) (hn' : n < m.length) : sameEs (l.take (n + 1)) (m.take (n + 1)) = (sameEs (l.take n) (m.take n) && sameE l[n] m[n]) := by
  induction l generalizing m n with
  | nil => simp at hn
  | cons X l ih =>
    cases m with
    | nil => simp at hn'
    | cons U m =>
      cases n with
      | zero => simp [sameEs]
      | succ n =>
        have := ih (m := m) (n := n) (by simpa using hn) (by simpa using hn')
        rw [List.take_succ_cons, List.take_succ_cons, sameEs, this, List.take_succ_cons, List.take_succ_cons, sameEs, Bool.and_assoc]
        rfl
theorem sameSs_len {l m : List ST} (h : ¬ l.length = m.length) : sameSs l m = false := by
  induction l generalizing m with
  | nil =>
    cases m with
    | nil => exact absurd rfl h
    | cons U m => rw [sameSs]
  | cons X l ih =>
    cases m with
    | nil => rw [sameSs]
    | cons U m => rw [sameSs, ih (by simpa using h)]; simp
theorem sameSs_no {l m : List ST} {n : Nat} (hn : n < l.length) (hn' : n < m.length) (h : sameS l[n] m[n] = false) : sameSs l m = false := by
  induction l generalizing m n with
  | nil => simp at hn
  | cons X l ih =>
    cases m with
    | nil => simp at hn'
    | cons U m =>
      cases n with
      | zero => rw [sameSs, show sameS X U = false from h]; rfl
      | succ n => rw [sameSs, ih (m := m) (n := n) (by simpa using hn) (by simpa using hn') h]; simp
theorem sameSs_take {l m : List ST} {n : Nat} (hn : n < l.length) (hn' : n < m.length) : sameSs (l.take (n + 1)) (m.take (n + 1)) = (sameSs (l.take n) (m.take n) && sameS l[n] m[n]) := by
  induction l generalizing m n with
  | nil => simp at hn
  | cons X l ih =>
    cases m with
    | nil => simp at hn'
    | cons U m =>
      cases n with
      | zero => simp [sameSs]
      | succ n =>
        have := ih (m := m) (n := n) (by simpa using hn) (by simpa using hn')
        rw [List.take_succ_cons, List.take_succ_cons, sameSs, this, List.take_succ_cons, List.take_succ_cons, sameSs, Bool.and_assoc]
        rfl
set_option maxHeartbeats 4000000 in
set_option maxRecDepth 100000 in
theorem equal_exprs {w0 : World} (a a' : Option Addr) (c c' : Nat) (l m : List ET) (hl : l.length ≤ 9223372036854775807) (hm : m.length ≤ 9223372036854775807) (hin : EsIn w0 0 a 0 l) (hin' : EsIn w0 0 a' 0 m)
    (hf : ∀ (n : Nat) (hn : n < l.length) (hn' : n < m.length) (w : World), Past w0 w → Calls Tryz.prog 34 #[l[n].val, m[n].val] w fun e w' => e = .returned (.bool (sameE l[n] m[n])) ∧ Below w.heap.size w w') (w : World) (hp : Past w0 w) :
    Calls Tryz.prog 57 #[.slice a l.length c, .slice a' m.length c', .func (.func 34) #[] #[]] w fun e w' => e = .returned (.bool (sameEs l m)) ∧ Below w.heap.size w w' := by
  have HF := hid hf
  have HI := hid hin
  have HI' := hid hin'
  have HP := hid hp
  clear hf hin hin' hp
  by_cases hlen : l.length = m.length
  · have hne : ((l.length : Int) != (m.length : Int)) = false := by rw [hlen]; simp
    have hlm : Hid (m.length = l.length) := hid hlen.symm
    have HLN := hid hlen
    clear hlen
    go_enter Tryz.func57, Tryz.ntmps57
    go_wp2
    go_loopw [7, 8, 9, 17] (fun _ _ _ i wr => ∃ n : Nat, n ≤ l.length ∧ i = .int .i64 n ∧ Below w.heap.size w wr ∧ sameEs (l.take n) (m.take n) = true) (fun _ _ _ i _ => l.length - (intOf i).toNat)
    case atStart => exact ⟨0, Nat.zero_le _, rfl, Below.refl _ _, by simp [sameEs]⟩
    case round =>
      obtain ⟨n, hn, rfl, hb, ht⟩ := hrel
      have HB := hid hb
      have HT := hid ht
      clear hb ht
      by_cases hlt : n < l.length
      · have hlt' : n < m.length := by have := hlm.out; omega
        obtain ⟨hrow, -⟩ := HI.out.nth n hlt
        obtain ⟨hrow2, -⟩ := HI'.out.nth n hlt'
        have hrow' := hrow
        have hrow2' := hrow2
        obtain ⟨kb, ko, rfl, -⟩ := hrow'
        obtain ⟨kb', ko', rfl, -⟩ := hrow2'
        rw [ET.cells_is, Nat.zero_add] at hrow hrow2
        obtain ⟨r0, r1, r2, r3, r4, hkb⟩ := row_cells hrow (HP.out.on HB.out)
        obtain ⟨s0, s1, s2, s3, s4, hkb2⟩ := row_cells hrow2 (HP.out.on HB.out)
        have hcall := HF.out n hlt hlt'
        rw [ET.val_is, ET.val_is] at hcall
        have HC := hid hcall
        clear hcall hrow hrow2
        cases hr : sameE l[n] m[n] with
        | false =>
          have HR := hid (sameEs_no hlt hlt' hr)
          rw [hr] at HC
          clear hr
          go_wp2_with (go_at_call 34; have hx := HC.out _ (((HP.out.on HB.out).alloc (.cells #[.int .i64 l[n].kind, .string l[n].op, .int .i64 l[n].n, .string l[n].name, .slice l[n].kaddr l[n].kids.length l[n].kcap] 43)).alloc (.cells #[.int .i64 m[n].kind, .string m[n].op, .int .i64 m[n].n, .string m[n].name, .slice m[n].kaddr m[n].kids.length m[n].kcap] 43)); refine hx.mono ?_; clear hx; rintro e w2 ⟨rfl, hb2⟩; have HB2 := hid (step_on ((HB.out.alloc HB.out.size _).alloc (Nat.le_trans HB.out.size (by simp)) _) hb2); clear hb2)
          go_ret
          exact ⟨by rw [HR.out]; rfl, HB2.out⟩
        | true =>
          have HR := hid (show sameEs (l.take (n + 1)) (m.take (n + 1)) = true by rw [sameEs_take hlt hlt', HT.out, hr]; rfl)
          rw [hr] at HC
          clear hr
          go_wp2_with (go_at_call 34; have hx := HC.out _ (((HP.out.on HB.out).alloc (.cells #[.int .i64 l[n].kind, .string l[n].op, .int .i64 l[n].n, .string l[n].name, .slice l[n].kaddr l[n].kids.length l[n].kcap] 43)).alloc (.cells #[.int .i64 m[n].kind, .string m[n].op, .int .i64 m[n].n, .string m[n].name, .slice m[n].kaddr m[n].kids.length m[n].kcap] 43)); refine hx.mono ?_; clear hx; rintro e w2 ⟨rfl, hb2⟩; have HB2 := hid (step_on ((HB.out.alloc HB.out.size _).alloc (Nat.le_trans HB.out.size (by simp)) _) hb2); clear hb2)
          go_round
          case rel => exact ⟨n + 1, by omega, by go_num, HB2.out, HR.out⟩
          case measure => simp [intOf]; omega
      · obtain rfl : n = l.length := by omega
        have HT2 : Hid (sameEs l m = true) := hid (by have := HT.out; rw [List.take_length, HLN.out, List.take_length] at this; exact this)
        go_wp2
        go_ret
        exact ⟨by rw [HT2.out]; rfl, HB.out⟩
  · have hne : ((l.length : Int) != (m.length : Int)) = true := by simp; omega
    have HR := hid (sameEs_len hlen)
    go_enter Tryz.func57, Tryz.ntmps57
    go_wp2_with fail
    go_ret
    exact ⟨by rw [HR.out]; rfl, Below.refl _ _⟩
set_option maxHeartbeats 4000000 in
set_option maxRecDepth 100000 in
theorem equal_stmts {w0 : World} (a a' : Option Addr) (c c' : Nat) (l m : List ST) (hl : l.length ≤ 9223372036854775807) (hm : m.length ≤ 9223372036854775807) (hin : SsIn w0 0 a 0 l) (hin' : SsIn w0 0 a' 0 m)
    (hf : ∀ (n : Nat) (hn : n < l.length) (hn' : n < m.length) (w : World), Past w0 w → Calls Tryz.prog 84 #[l[n].val, m[n].val] w fun e w' => e = .returned (.bool (sameS l[n] m[n])) ∧ Below w.heap.size w w') (w : World) (hp : Past w0 w) :
    Calls Tryz.prog 83 #[.slice a l.length c, .slice a' m.length c', .func (.func 84) #[] #[]] w fun e w' => e = .returned (.bool (sameSs l m)) ∧ Below w.heap.size w w' := by
  have HF := hid hf
  have HI := hid hin
  have HI' := hid hin'
  have HP := hid hp
  clear hf hin hin' hp
  by_cases hlen : l.length = m.length
  · have hne : ((l.length : Int) != (m.length : Int)) = false := by rw [hlen]; simp
    have hlm : Hid (m.length = l.length) := hid hlen.symm
    have HLN := hid hlen
    clear hlen
    go_enter Tryz.func83, Tryz.ntmps83
    go_wp2
    go_loopw [7, 8, 9, 17] (fun _ _ _ i wr => ∃ n : Nat, n ≤ l.length ∧ i = .int .i64 n ∧ Below w.heap.size w wr ∧ sameSs (l.take n) (m.take n) = true) (fun _ _ _ i _ => l.length - (intOf i).toNat)
    case atStart => exact ⟨0, Nat.zero_le _, rfl, Below.refl _ _, by simp [sameSs]⟩
    case round =>
      obtain ⟨n, hn, rfl, hb, ht⟩ := hrel
      have HB := hid hb
      have HT := hid ht
      clear hb ht
      by_cases hlt : n < l.length
      · have hlt' : n < m.length := by have := hlm.out; omega
        obtain ⟨hrow, -⟩ := HI.out.nth n hlt
        obtain ⟨hrow2, -⟩ := HI'.out.nth n hlt'
        have hrow' := hrow
        have hrow2' := hrow2
        obtain ⟨kb, ko, rfl, -⟩ := hrow'
        obtain ⟨kb', ko', rfl, -⟩ := hrow2'
        rw [ST.cells_eq, Nat.zero_add] at hrow hrow2
        obtain ⟨r0, r1, r2, r3, r4, r5, r6, hkb⟩ := row_cells7 hrow (HP.out.on HB.out)
        obtain ⟨s0, s1, s2, s3, s4, s5, s6, hkb2⟩ := row_cells7 hrow2 (HP.out.on HB.out)
        have hcall := HF.out n hlt hlt'
        rw [ST.val_eq, ST.val_eq] at hcall
        have HC := hid hcall
        clear hcall hrow hrow2
        cases hr : sameS l[n] m[n] with
        | false =>
          have HR := hid (sameSs_no hlt hlt' hr)
          rw [hr] at HC
          clear hr
          go_wp2_with (go_at_call 84; have hx := HC.out _ (((HP.out.on HB.out).alloc (.cells #[.int .i64 l[n].kind, .int .i64 l[n].tag, .string l[n].name, .string l[n].func, .slice l[n].ea l[n].en l[n].ec, .slice l[n].ba l[n].bn l[n].bc, .slice l[n].la l[n].ln l[n].lc] 61)).alloc (.cells #[.int .i64 m[n].kind, .int .i64 m[n].tag, .string m[n].name, .string m[n].func, .slice m[n].ea m[n].en m[n].ec, .slice m[n].ba m[n].bn m[n].bc, .slice m[n].la m[n].ln m[n].lc] 61)); refine hx.mono ?_; clear hx; rintro e w2 ⟨rfl, hb2⟩; have HB2 := hid (step_on ((HB.out.alloc HB.out.size _).alloc (Nat.le_trans HB.out.size (by simp)) _) hb2); clear hb2)
          go_ret
          exact ⟨by rw [HR.out]; rfl, HB2.out⟩
        | true =>
          have HR := hid (show sameSs (l.take (n + 1)) (m.take (n + 1)) = true by rw [sameSs_take hlt hlt', HT.out, hr]; rfl)
          rw [hr] at HC
          clear hr
          go_wp2_with (go_at_call 84; have hx := HC.out _ (((HP.out.on HB.out).alloc (.cells #[.int .i64 l[n].kind, .int .i64 l[n].tag, .string l[n].name, .string l[n].func, .slice l[n].ea l[n].en l[n].ec, .slice l[n].ba l[n].bn l[n].bc, .slice l[n].la l[n].ln l[n].lc] 61)).alloc (.cells #[.int .i64 m[n].kind, .int .i64 m[n].tag, .string m[n].name, .string m[n].func, .slice m[n].ea m[n].en m[n].ec, .slice m[n].ba m[n].bn m[n].bc, .slice m[n].la m[n].ln m[n].lc] 61)); refine hx.mono ?_; clear hx; rintro e w2 ⟨rfl, hb2⟩; have HB2 := hid (step_on ((HB.out.alloc HB.out.size _).alloc (Nat.le_trans HB.out.size (by simp)) _) hb2); clear hb2)
          go_round
          case rel => exact ⟨n + 1, by omega, by go_num, HB2.out, HR.out⟩
          case measure => simp [intOf]; omega
      · obtain rfl : n = l.length := by omega
        have HT2 : Hid (sameSs l m = true) := hid (by have := HT.out; rw [List.take_length, HLN.out, List.take_length] at this; exact this)
        go_wp2
        go_ret
        exact ⟨by rw [HT2.out]; rfl, HB.out⟩
  · have hne : ((l.length : Int) != (m.length : Int)) = true := by simp; omega
    have HR := hid (sameSs_len hlen)
    go_enter Tryz.func83, Tryz.ntmps83
    go_wp2_with fail
    go_ret
    exact ⟨by rw [HR.out]; rfl, Below.refl _ _⟩
end Go.Proofs.YtgkdoealhbhnmaaGreatDoor

set_option linter.unusedSimpArgs false
set_option linter.unusedVariables false
namespace Go.Proofs.YtgkdoealhbhnmaaGreatDoor
open Go Go.RowKit
open Go.Lib (hid)

set_option maxHeartbeats 4000000 in
set_option maxRecDepth 100000 in
theorem sameE_core {w0 : World} (k k' : Int) (o o' : ByteArray) (n n' : Int) (m m' : ByteArray) (a a' : Option Addr) (x x' c c' : Nat) (r5 : Bool)
    (hA : ∀ W, Past w0 W → Calls Tryz.prog 57 #[.slice a x c, .slice a' x' c', .func (.func 34) #[] #[]] W fun e w' => e = .returned (.bool r5) ∧ Below W.heap.size W w') (w : World) (hp : Past w0 w) :
    Calls Tryz.prog 34 #[exV k o n m (.slice a x c), exV k' o' n' m' (.slice a' x' c')] w fun e w' => e = .returned (.bool ((k == k') && ((o.toList == o'.toList) && ((n == n') && ((m.toList == m'.toList) && (r5)))))) ∧ Below w.heap.size w w' := by
  have HA := hid hA
  have HP := hid hp
  clear hA hp
  generalize hr : ((k == k') && ((o.toList == o'.toList) && ((n == n') && ((m.toList == m'.toList) && (r5))))) = r
  have key : (k == k') = false ∧ r = false ∨ (k == k') = true ∧ ((o.toList == o'.toList) = false ∧ r = false ∨ (o.toList == o'.toList) = true ∧ ((n == n') = false ∧ r = false ∨ (n == n') = true ∧ ((m.toList == m'.toList) = false ∧ r = false ∨ (m.toList == m'.toList) = true ∧ (r = (r5))))) := by
    rw [← hr]
    cases (k == k') <;> cases (o.toList == o'.toList) <;> cases (n == n') <;> cases (m.toList == m'.toList) <;> simp
  clear hr
  rcases key with ⟨h1, rfl⟩ | ⟨h1, (⟨h2, rfl⟩ | ⟨h2, (⟨h3, rfl⟩ | ⟨h3, (⟨h4, rfl⟩ | ⟨h4, (rfl)⟩)⟩)⟩)⟩
  all_goals
    go_enter Tryz.func34, Tryz.ntmps34
    go_wp2_with (go_at_call 57; have hx := HA.out _ ((HP.out.alloc (.cells #[.int .i64 k, .string o, .int .i64 n, .string m, .slice a x c] 43)).alloc (.cells #[.int .i64 k', .string o', .int .i64 n', .string m', .slice a' x' c'] 43)); refine hx.mono ?_; clear hx; rintro e w2 ⟨rfl, hb2⟩; have HB2 := hid (step_on (((Below.refl _ _).alloc (Nat.le_refl _) _).alloc (by simp) _) hb2); clear hb2)
    go_ret
    exact ⟨by simp, by first | exact HB2.out | exact ((Below.refl _ _).alloc (Nat.le_refl _) _).alloc (by simp) _⟩
theorem sameE_any {w0 : World} : ∀ (m : Nat) (T U : ET), T.sz ≤ m → T.In w0 0 → U.In w0 0 → ∀ w, Past w0 w → Calls Tryz.prog 34 #[T.val, U.val] w fun e w' => e = .returned (.bool (sameE T U)) ∧ Below w.heap.size w w' := by
  intro m
  induction m with
  | zero => intro T U hm; obtain ⟨k, o, n, m, a, c, l⟩ := T; simp [ET.sz] at hm
  | succ m ih =>
    intro T U hm hin hin' w hp
    obtain ⟨k, o, n, m1, a, c, l⟩ := T
    obtain ⟨k', o', n', m1', a', c', l'⟩ := U
    rw [ET.In] at hin hin'
    have := sameE_core k k' o o' n n' m1 m1' a a' l.length l'.length c c' (sameEs l l') (fun W hW => equal_exprs a a' c c' l l' hin.2.1 hin'.2.1 hin.2.2 hin'.2.2 (fun i hi hi' w hw => ih l[i] l'[i] (by have := szs_nth hi; simp [ET.sz] at hm; omega) (hin.2.2.nth i hi).2 (hin'.2.2.nth i hi').2 w hw) W hW) w hp
    rw [sameE]
    exact this
theorem equalEs_any {w0 : World} (a a' : Option Addr) (c c' : Nat) (l l' : List ET) (z : l.length ≤ 9223372036854775807) (z' : l'.length ≤ 9223372036854775807) (hin : EsIn w0 0 a 0 l) (hin' : EsIn w0 0 a' 0 l') (W : World) (hW : Past w0 W) :
    Calls Tryz.prog 57 #[.slice a l.length c, .slice a' l'.length c', .func (.func 34) #[] #[]] W fun e w' => e = .returned (.bool (sameEs l l')) ∧ Below W.heap.size W w' :=
  equal_exprs a a' c c' l l' z z' hin hin' (fun i hi hi' w hw => sameE_any _ l[i] l'[i] (Nat.le_refl _) (hin.nth i hi).2 (hin'.nth i hi').2 w hw) W hW
set_option maxHeartbeats 4000000 in
set_option maxRecDepth 100000 in
theorem sameExpr_any {w0 : World} {T U : ET} (hin : T.In w0 0) (hin' : U.In w0 0) (w : World) (hp : Past w0 w) : Calls Tryz.prog 19 #[T.val, U.val] w fun e w' => e = .returned (.bool (sameE T U)) ∧ Below w.heap.size w w' := by
  have HH := hid (sameE_any T.sz T U (Nat.le_refl _) hin hin')
  have HP := hid hp
  clear hin hin' hp
  rw [ET.val_is, ET.val_is] at HH ⊢
  generalize sameE T U = r at HH
  go_enter Tryz.func19, Tryz.ntmps19
  go_wp2_with (go_at_call 34; have hx := HH.out _ ((HP.out.alloc (.cells #[.int .i64 T.kind, .string T.op, .int .i64 T.n, .string T.name, .slice T.kaddr T.kids.length T.kcap] 43)).alloc (.cells #[.int .i64 U.kind, .string U.op, .int .i64 U.n, .string U.name, .slice U.kaddr U.kids.length U.kcap] 43)); refine hx.mono ?_; clear hx; rintro e w1 ⟨rfl, hb⟩)
  go_ret
  exact ⟨rfl, step_on (((Below.refl _ _).alloc (Nat.le_refl _) _).alloc (by simp) _) hb⟩
set_option maxHeartbeats 4000000 in
set_option maxRecDepth 100000 in
theorem sameS_core {w0 : World} (k k' t t' : Int) (n n' f f' : ByteArray) (ea ea' : Option Addr) (x x' c c' : Nat) (ba ba' : Option Addr) (b b' bc bc' : Nat) (la la' : Option Addr) (l l' lc lc' : Nat) (r5 r6 r7 : Bool)
    (hA : ∀ W, Past w0 W → Calls Tryz.prog 57 #[.slice ea x c, .slice ea' x' c', .func (.func 34) #[] #[]] W fun e w' => e = .returned (.bool r5) ∧ Below W.heap.size W w')
    (hB : ∀ W, Past w0 W → Calls Tryz.prog 48 #[.slice ba b bc, .slice ba' b' bc'] W fun e w' => e = .returned (.bool r6) ∧ Below W.heap.size W w')
    (hC : ∀ W, Past w0 W → Calls Tryz.prog 48 #[.slice la l lc, .slice la' l' lc'] W fun e w' => e = .returned (.bool r7) ∧ Below W.heap.size W w') (w : World) (hp : Past w0 w) :
    Calls Tryz.prog 84 #[.agg #[.int .i64 k, .int .i64 t, .string n, .string f, .slice ea x c, .slice ba b bc, .slice la l lc], .agg #[.int .i64 k', .int .i64 t', .string n', .string f', .slice ea' x' c', .slice ba' b' bc', .slice la' l' lc']] w fun e w' => e = .returned (.bool ((k == k') && ((t == t') && ((n.toList == n'.toList) && ((f.toList == f'.toList) && ((r5) && ((r6) && (r7)))))))) ∧ Below w.heap.size w w' := by
  have HA := hid hA
  have HB := hid hB
  have HC := hid hC
  have HP := hid hp
  clear hA hB hC hp
  generalize hr : ((k == k') && ((t == t') && ((n.toList == n'.toList) && ((f.toList == f'.toList) && ((r5) && ((r6) && (r7))))))) = r
  have key : (k == k') = false ∧ r = false ∨ (k == k') = true ∧ ((t == t') = false ∧ r = false ∨ (t == t') = true ∧ ((n.toList == n'.toList) = false ∧ r = false ∨ (n.toList == n'.toList) = true ∧ ((f.toList == f'.toList) = false ∧ r = false ∨ (f.toList == f'.toList) = true ∧ ((r5) = false ∧ r = false ∨ (r5) = true ∧ ((r6) = false ∧ r = false ∨ (r6) = true ∧ (r = (r7))))))) := by
    rw [← hr]
    cases (k == k') <;> cases (t == t') <;> cases (n.toList == n'.toList) <;> cases (f.toList == f'.toList) <;> cases r5 <;> cases r6 <;> simp
  clear hr
  rcases key with ⟨h1, rfl⟩ | ⟨h1, (⟨h2, rfl⟩ | ⟨h2, (⟨h3, rfl⟩ | ⟨h3, (⟨h4, rfl⟩ | ⟨h4, (⟨rfl, rfl⟩ | ⟨rfl, (⟨rfl, rfl⟩ | ⟨rfl, (rfl)⟩)⟩)⟩)⟩)⟩)⟩
  all_goals
    go_enter Tryz.func84, Tryz.ntmps84
    go_wp2_with (first
      | (go_at_call 48; have hx := HC.out _ (HP.out.on B3.out); refine hx.mono ?_; clear hx; rintro e w4 ⟨rfl, hb4⟩; have B4 := hid (step_on B3.out hb4); clear hb4)
      | (go_at_call 48; have hx := HB.out _ (HP.out.on B2.out); refine hx.mono ?_; clear hx; rintro e w3 ⟨rfl, hb3⟩; have B3 := hid (step_on B2.out hb3); have X31 := hid ((hb3.block w.heap.size (lt_of_block X21.out)).trans X21.out); have X32 := hid ((hb3.block (w.heap.size + 1) (lt_of_block X22.out)).trans X22.out); obtain ⟨p0, p1, p2, p3, p4, p5, p6⟩ := cells7 X31.out; obtain ⟨q0, q1, q2, q3, q4, q5, q6⟩ := cells7 X32.out; clear hb3)
      | (go_at_call 57; have hx := HA.out _ ((HP.out.alloc (.cells #[.int .i64 k, .int .i64 t, .string n, .string f, .slice ea x c, .slice ba b bc, .slice la l lc] 61)).alloc (.cells #[.int .i64 k', .int .i64 t', .string n', .string f', .slice ea' x' c', .slice ba' b' bc', .slice la' l' lc'] 61)); refine hx.mono ?_; clear hx; rintro e w2 ⟨rfl, hb2⟩; have B2 := hid (step_on (((Below.refl _ _).alloc (Nat.le_refl _) _).alloc (by simp) _) hb2); have X21 := hid ((hb2.block w.heap.size (by simp; omega)).trans (bk_old _ (bk_new w (.cells #[.int .i64 k, .int .i64 t, .string n, .string f, .slice ea x c, .slice ba b bc, .slice la l lc] 61)))); have X22 := hid ((hb2.block (w.heap.size + 1) (by simp)).trans (bk_new' (.cells #[.int .i64 k', .int .i64 t', .string n', .string f', .slice ea' x' c', .slice ba' b' bc', .slice la' l' lc'] 61) (by simp))); obtain ⟨c0, c1, c2, c3, c4, c5, c6⟩ := cells7 X21.out; obtain ⟨d0, d1, d2, d3, d4, d5, d6⟩ := cells7 X22.out; clear hb2))
    go_ret
    exact ⟨by simp, by first | exact B4.out | exact B3.out | exact B2.out | exact ((Below.refl _ _).alloc (Nat.le_refl _) _).alloc (by simp) _⟩
def SameOk (w0 : World) (l l' : List ST) : Prop := ∀ (i : Nat) (hi : i < l.length) (hi' : i < l'.length) (w : World), Past w0 w → Calls Tryz.prog 84 #[l[i].val, l'[i].val] w fun e w' => e = .returned (.bool (sameS l[i] l'[i])) ∧ Below w.heap.size w w'
theorem sameBlock_of {w0 : World} (a a' : Option Addr) (c c' : Nat) (l l' : List ST) (z : l.length ≤ 9223372036854775807) (z' : l'.length ≤ 9223372036854775807) (hin : SsIn w0 0 a 0 l) (hin' : SsIn w0 0 a' 0 l') (hs : SameOk w0 l l') (w : World) (hp : Past w0 w) :
    Calls Tryz.prog 48 #[.slice a l.length c, .slice a' l'.length c'] w fun e w' => e = .returned (.bool (sameSs l l')) ∧ Below w.heap.size w w' := by
  have HH := hid (equal_stmts a a' c c' l l' z z' hin hin' hs w hp)
  clear hin hin' hs hp
  go_enter Tryz.func48, Tryz.ntmps48
  go_wp2_with (go_at_call 83; refine HH.out.mono ?_; rintro e w1 ⟨rfl, hb⟩)
  go_ret
  exact ⟨rfl, hb⟩
theorem sameS_any {w0 : World} : ∀ (m : Nat) (S U : ST), S.sz ≤ m → S.In w0 0 → U.In w0 0 → ∀ w, Past w0 w → Calls Tryz.prog 84 #[S.val, U.val] w fun e w' => e = .returned (.bool (sameS S U)) ∧ Below w.heap.size w w' := by
  intro m
  induction m with
  | zero => intro S U hm; obtain ⟨k, t, n, f, ea, ec, e, ba, bc, b, la, lc, l⟩ := S; simp [ST.sz] at hm
  | succ m ih =>
    intro S U hm hin hin' w hp
    obtain ⟨k, t, n, f, ea, ec, e, ba, bc, b, la, lc, l⟩ := S
    obtain ⟨k', t', n', f', ea', ec', e', ba', bc', b', la', lc', l'⟩ := U
    rw [ST.In] at hin hin'
    obtain ⟨-, ⟨z1, z2, z3⟩, i1, i2, i3⟩ := hin
    obtain ⟨-, ⟨y1, y2, y3⟩, j1, j2, j3⟩ := hin'
    simp only [ST.sz] at hm
    have := sameS_core k k' t t' n n' f f' ea ea' e.length e'.length ec ec' ba ba' b.length b'.length bc bc' la la' l.length l'.length lc lc' (sameEs e e') (sameSs b b') (sameSs l l')
      (fun W hW => equalEs_any ea ea' ec ec' e e' z1 y1 i1 j1 W hW)
      (fun W hW => sameBlock_of ba ba' bc bc' b b' z2 y2 i2 j2 (fun i hi hi' w hw => ih b[i] b'[i] (by have := Szs_nth hi; omega) (i2.nth i hi).2 (j2.nth i hi').2 w hw) W hW)
      (fun W hW => sameBlock_of la la' lc lc' l l' z3 y3 i3 j3 (fun i hi hi' w hw => ih l[i] l'[i] (by have := Szs_nth hi; omega) (i3.nth i hi).2 (j3.nth i hi').2 w hw) W hW) w hp
    rw [sameS]
    exact this
theorem sameBlock_any {w0 : World} (a a' : Option Addr) (c c' : Nat) (l l' : List ST) (z : l.length ≤ 9223372036854775807) (z' : l'.length ≤ 9223372036854775807) (hin : SsIn w0 0 a 0 l) (hin' : SsIn w0 0 a' 0 l') (w : World) (hp : Past w0 w) :
    Calls Tryz.prog 48 #[.slice a l.length c, .slice a' l'.length c'] w fun e w' => e = .returned (.bool (sameSs l l')) ∧ Below w.heap.size w w' :=
  sameBlock_of a a' c c' l l' z z' hin hin' (fun i hi hi' w hw => sameS_any _ l[i] l'[i] (Nat.le_refl _) (hin.nth i hi).2 (hin'.nth i hi').2 w hw) w hp
end Go.Proofs.YtgkdoealhbhnmaaGreatDoor

set_option linter.unusedSimpArgs false
set_option linter.unusedVariables false
namespace Go.Proofs.YtgkdoealhbhnmaaGreatDoor
open Go Go.RowKit
open Go.Lib (hid)
set_option maxHeartbeats 1000000 in
theorem eq_decl (W : World) (n m : ByteArray) (s t : Int) (d : Nat) : (Op.equalIn (d + 2) 87 (.agg #[.string n, .int .i64 s]) (.agg #[.string m, .int .i64 t])).run Tryz.prog W = .ok (n == m && s == t) W := by
  have hh : Tryz.prog.stoodInHeld 87 = false := by kernel_rfl
  have p1 : ∀ (n : ByteArray) (s : Int), (part 9 #[.string n, .int .i64 s] 0).run Tryz.prog W = .ok (.string n) W := fun n s => by simp [part, sizeOf, typeInfo]
  have p2 : ∀ (n : ByteArray) (s : Int), (part 3 #[.string n, .int .i64 s] 1).run Tryz.prog W = .ok (.int .i64 s) W := fun n s => by simp [part, sizeOf, typeInfo]
  have hp : Sem.run Tryz.prog (Sem.program Sem.pure) W = .ok Tryz.prog W := rfl
  have q1 : (Op.equalIn (d + 1) 9 (.string n) (.string m)).run Tryz.prog W = .ok (n == m) W := by simp [Op.equalIn, run_underlying Tryz.underlying9]
  have q2 : (Op.equalIn (d + 1) 3 (.int .i64 s) (.int .i64 t)).run Tryz.prog W = .ok (s == t) W := by simp [Op.equalIn, run_underlying Tryz.underlying3]
  rw [Op.equalIn]
  simp [run_underlying Tryz.underlying87, program, hh, p1, p2, hp, q1, q2]
  cases (n == m) <;> by_cases h : s = t <;> simp [h]
theorem run_neq_decl (W : World) (n m : ByteArray) (s t : Int) : (binOp .neq 87 (.agg #[.string n, .int .i64 s]) (.agg #[.string m, .int .i64 t])).run Tryz.prog W = .ok (.bool (!(n == m && s == t))) W := by
  simp only [binOp]
  simp only [Op.equal, Op.maxDepth, Sem.run_bind, eq_decl W n m s t 9998, Result.andThen_ok]
  rfl
end Go.Proofs.YtgkdoealhbhnmaaGreatDoor

set_option linter.unusedSimpArgs false
set_option linter.unusedVariables false
namespace Go.Proofs.YtgkdoealhbhnmaaGreatDoor
open Go Go.RowKit
open Go.Lib (hid)

def sameD (d e : ByteArray × Int) : Bool := d.1 == e.1 && d.2 == e.2
def sameDs : List (ByteArray × Int) → List (ByteArray × Int) → Bool
  | [], [] => true
  | d :: l, e :: m => sameD d e && sameDs l m
  | [], _ :: _ => false
  | _ :: _, [] => false
theorem sameDs_len {l m : List (ByteArray × Int)} (h : ¬ l.length = m.length) : sameDs l m = false := by
  induction l generalizing m with
  | nil =>
    cases m with
    | nil => exact absurd rfl h
    | cons U m => rw [sameDs]
  | cons X l ih =>
    cases m with
    | nil => rw [sameDs]
    | cons U m => rw [sameDs, ih (by simpa using h)]; simp
theorem sameDs_no {l m : List (ByteArray × Int)} {n : Nat} (hn : n < l.length) (hn' : n < m.length) (h : sameD l[n] m[n] = false) : sameDs l m = false := by
  induction l generalizing m n with
  | nil => simp at hn
  | cons X l ih =>
    cases m with
    | nil => simp at hn'
    | cons U m =>
      cases n with
      | zero => rw [sameDs, show sameD X U = false from h]; rfl
      | succ n => rw [sameDs, ih (m := m) (n := n) (by simpa using hn) (by simpa using hn') h]; simp
theorem sameDs_take {l m : List (ByteArray × Int)} {n : Nat} (hn : n < l.length) (hn' : n < m.length) : sameDs (l.take (n + 1)) (m.take (n + 1)) = (sameDs (l.take n) (m.take n) && sameD l[n] m[n]) := by
  induction l generalizing m n with
  | nil => simp at hn
  | cons X l ih =>
    cases m with
    | nil => simp at hn'
    | cons U m =>
      cases n with
      | zero => simp [sameDs]
      | succ n =>
        have := ih (m := m) (n := n) (by simpa using hn) (by simpa using hn')
        rw [List.take_succ_cons, List.take_succ_cons, sameDs, this, List.take_succ_cons, List.take_succ_cons, sameDs, Bool.and_assoc]
        rfl
theorem below_dN (w : World) (n : Nat) : Below w.heap.size w (w.drewN n) := ⟨rfl, rfl, rfl, Nat.le_refl _, fun _ _ => rfl⟩
set_option maxHeartbeats 4000000 in
set_option maxRecDepth 100000 in
theorem equal_decls {w0 : World} (a a' : Option Addr) (c c' : Nat) (l m : List (ByteArray × Int)) (hl : l.length ≤ 9223372036854775807) (hm : m.length ≤ 9223372036854775807) (hin : ∀ (i : Nat) (h : i < l.length), RowAt w0 0 a i 2 #[.string l[i].1, .int .i64 l[i].2]) (hin' : ∀ (i : Nat) (h : i < m.length), RowAt w0 0 a' i 2 #[.string m[i].1, .int .i64 m[i].2]) (w : World) (hp : Past w0 w) :
    Calls Tryz.prog 47 #[.slice a l.length c, .slice a' m.length c'] w fun e w' => e = .returned (.bool (sameDs l m)) ∧ Below w.heap.size w w' := by
  have HI := hid hin
  have HI' := hid hin'
  have HP := hid hp
  clear hin hin' hp
  by_cases hlen : l.length = m.length
  · have hne : ((l.length : Int) != (m.length : Int)) = false := by rw [hlen]; simp
    have hlm : Hid (m.length = l.length) := hid hlen.symm
    have HLN := hid hlen
    clear hlen
    go_enter Tryz.func47, Tryz.ntmps47
    go_wp2
    go_loopw [5, 13] (fun _ i wr => ∃ n : Nat, n ≤ l.length ∧ i = .int .i64 n ∧ Below w.heap.size w wr ∧ sameDs (l.take n) (m.take n) = true) (fun _ i _ => l.length - (intOf i).toNat)
    case atStart => exact ⟨0, Nat.zero_le _, rfl, Below.refl _ _, by simp [sameDs]⟩
    case round =>
      obtain ⟨n, hn, rfl, hb, ht⟩ := hrel
      have HB := hid hb
      have HT := hid ht
      clear hb ht
      by_cases hlt : n < l.length
      · have hlt' : n < m.length := by have := hlm.out; omega
        have hrow := HI.out n hlt
        have hrow2 := HI'.out n hlt'
        have hrow' := hrow
        have hrow2' := hrow2
        obtain ⟨kb, ko, rfl, -⟩ := hrow'
        obtain ⟨kb', ko', rfl, -⟩ := hrow2'
        obtain ⟨r0, r1, hkb⟩ := row_cells2 hrow (HP.out.on HB.out)
        obtain ⟨s0, s1, hkb2⟩ := row_cells2 hrow2 (HP.out.on HB.out)
        clear hrow hrow2
        have hneq : ∀ W, (binOp .neq 87 (.agg #[.string l[n].1, .int .i64 l[n].2]) (.agg #[.string m[n].1, .int .i64 m[n].2])).run Tryz.prog W = .ok (.bool (!(sameD l[n] m[n]))) W := fun W => run_neq_decl W _ _ _ _
        cases hr : sameD l[n] m[n] with
        | false =>
          have HR := hid (sameDs_no hlt hlt' hr)
          rw [hr] at hneq
          clear hr
          go_wp2
          go_quiet (fail)
          go_wp2
          go_ret
          exact ⟨by rw [HR.out]; rfl, step_on HB.out (below_dN _ _)⟩
        | true =>
          have HR := hid (show sameDs (l.take (n + 1)) (m.take (n + 1)) = true by rw [sameDs_take hlt hlt', HT.out, hr]; rfl)
          rw [hr] at hneq
          clear hr
          go_wp2
          go_quiet (fail)
          go_wp2
          go_round
          case rel => exact ⟨n + 1, by omega, by go_num, step_on HB.out (below_dN _ _), HR.out⟩
          case measure => simp [intOf]; omega
      · obtain rfl : n = l.length := by omega
        have HT2 : Hid (sameDs l m = true) := hid (by have := HT.out; rw [List.take_length, HLN.out, List.take_length] at this; exact this)
        go_wp2
        go_ret
        exact ⟨by rw [HT2.out]; rfl, HB.out⟩
  · have hne : ((l.length : Int) != (m.length : Int)) = true := by simp; omega
    have HR := hid (sameDs_len hlen)
    go_enter Tryz.func47, Tryz.ntmps47
    go_wp2_with fail
    go_ret
    exact ⟨by rw [HR.out]; rfl, Below.refl _ _⟩
end Go.Proofs.YtgkdoealhbhnmaaGreatDoor

set_option linter.unusedSimpArgs false
set_option linter.unusedVariables false
namespace Go.Proofs.YtgkdoealhbhnmaaGreatDoor
open Go Go.RowKit
open Go.Lib (hid)

structure FsAt (w : World) (B : Nat) (a : Option Addr) (z : Nat) (l : List FT) : Prop where
  it : FsIn w B a l
theorem FsAt.nth {w : World} {B : Nat} {a : Option Addr} {l : List FT} (h : FsAt w B a 0 l) (j : Nat) (hj : j < l.length) : RowAt w B a (0 + j) 4 l[j].cells ∧ l[j].In w B := by
  rw [Nat.zero_add]; exact ⟨h.it.row j hj, h.it.fs j hj⟩
def sameF (F G : FT) : Bool := F.name.toList == G.name.toList && (decide (F.params = G.params) && (sameDs F.vars G.vars && sameSs F.body G.body))
def sameFs : List FT → List FT → Bool
  | [], [] => true
  | S :: l, U :: m => sameF S U && sameFs l m
  | [], _ :: _ => false
  | _ :: _, [] => false
theorem sameFs_len {l m : List FT} (h : ¬ l.length = m.length) : sameFs l m = false := by
  induction l generalizing m with
  | nil =>
    cases m with
    | nil => exact absurd rfl h
    | cons U m => rw [sameFs]
  | cons X l ih =>
    cases m with
    | nil => rw [sameFs]
    | cons U m => rw [sameFs, ih (by simpa using h)]; simp
theorem sameFs_no {l m : List FT} {n : Nat} (hn : n < l.length) (hn' : n < m.length) (h : sameF l[n] m[n] = false) : sameFs l m = false := by
  induction l generalizing m n with
  | nil => simp at hn
  | cons X l ih =>
    cases m with
    | nil => simp at hn'
    | cons U m =>
      cases n with
      | zero => rw [sameFs, show sameF X U = false from h]; rfl
      | succ n => rw [sameFs, ih (m := m) (n := n) (by simpa using hn) (by simpa using hn') h]; simp
theorem sameFs_take {l m : List FT} {n : Nat} (hn : n < l.length) (hn' : n < m.length) : sameFs (l.take (n + 1)) (m.take (n + 1)) = (sameFs (l.take n) (m.take n) && sameF l[n] m[n]) := by
  induction l generalizing m n with
  | nil => simp at hn
  | cons X l ih =>
    cases m with
    | nil => simp at hn'
    | cons U m =>
      cases n with
      | zero => simp [sameFs]
      | succ n =>
        have := ih (m := m) (n := n) (by simpa using hn) (by simpa using hn')
        rw [List.take_succ_cons, List.take_succ_cons, sameFs, this, List.take_succ_cons, List.take_succ_cons, sameFs, Bool.and_assoc]
        rfl
set_option maxHeartbeats 4000000 in
set_option maxRecDepth 100000 in
theorem equal_funcs {w0 : World} (a a' : Option Addr) (c c' : Nat) (l m : List FT) (hl : l.length ≤ 9223372036854775807) (hm : m.length ≤ 9223372036854775807) (hin : FsAt w0 0 a 0 l) (hin' : FsAt w0 0 a' 0 m)
    (hf : ∀ (n : Nat) (hn : n < l.length) (hn' : n < m.length) (w : World), Past w0 w → Calls Tryz.prog 27 #[l[n].val, m[n].val] w fun e w' => e = .returned (.bool (sameF l[n] m[n])) ∧ Below w.heap.size w w') (w : World) (hp : Past w0 w) :
    Calls Tryz.prog 26 #[.slice a l.length c, .slice a' m.length c', .func (.func 27) #[] #[]] w fun e w' => e = .returned (.bool (sameFs l m)) ∧ Below w.heap.size w w' := by
  have HF := hid hf
  have HI := hid hin
  have HI' := hid hin'
  have HP := hid hp
  clear hf hin hin' hp
  by_cases hlen : l.length = m.length
  · have hne : ((l.length : Int) != (m.length : Int)) = false := by rw [hlen]; simp
    have hlm : Hid (m.length = l.length) := hid hlen.symm
    have HLN := hid hlen
    clear hlen
    go_enter Tryz.func26, Tryz.ntmps26
    go_wp2
    go_loopw [7, 8, 9, 17] (fun _ _ _ i wr => ∃ n : Nat, n ≤ l.length ∧ i = .int .i64 n ∧ Below w.heap.size w wr ∧ sameFs (l.take n) (m.take n) = true) (fun _ _ _ i _ => l.length - (intOf i).toNat)
    case atStart => exact ⟨0, Nat.zero_le _, rfl, Below.refl _ _, by simp [sameFs]⟩
    case round =>
      obtain ⟨n, hn, rfl, hb, ht⟩ := hrel
      have HB := hid hb
      have HT := hid ht
      clear hb ht
      by_cases hlt : n < l.length
      · have hlt' : n < m.length := by have := hlm.out; omega
        obtain ⟨hrow, -⟩ := HI.out.nth n hlt
        obtain ⟨hrow2, -⟩ := HI'.out.nth n hlt'
        have hrow' := hrow
        have hrow2' := hrow2
        obtain ⟨kb, ko, rfl, -⟩ := hrow'
        obtain ⟨kb', ko', rfl, -⟩ := hrow2'
        rw [FT.cells_eq, Nat.zero_add] at hrow hrow2
        obtain ⟨r0, r1, r2, r3, hkb⟩ := row_cells4 hrow (HP.out.on HB.out)
        obtain ⟨s0, s1, s2, s3, hkb2⟩ := row_cells4 hrow2 (HP.out.on HB.out)
        have hcall := HF.out n hlt hlt'
        rw [FT.val_eq, FT.val_eq] at hcall
        have HC := hid hcall
        clear hcall hrow hrow2
        cases hr : sameF l[n] m[n] with
        | false =>
          have HR := hid (sameFs_no hlt hlt' hr)
          rw [hr] at HC
          clear hr
          go_wp2_with (go_at_call 27; have hx := HC.out _ (((HP.out.on HB.out).alloc (.cells #[.string l[n].name, .slice l[n].pa l[n].params.length l[n].pc, .slice l[n].va l[n].vars.length l[n].vc, .slice l[n].ba l[n].body.length l[n].bc] 59)).alloc (.cells #[.string m[n].name, .slice m[n].pa m[n].params.length m[n].pc, .slice m[n].va m[n].vars.length m[n].vc, .slice m[n].ba m[n].body.length m[n].bc] 59)); refine hx.mono ?_; clear hx; rintro e w2 ⟨rfl, hb2⟩; have HB2 := hid (step_on ((HB.out.alloc HB.out.size _).alloc (Nat.le_trans HB.out.size (by simp)) _) hb2); clear hb2)
          go_ret
          exact ⟨by rw [HR.out]; rfl, HB2.out⟩
        | true =>
          have HR := hid (show sameFs (l.take (n + 1)) (m.take (n + 1)) = true by rw [sameFs_take hlt hlt', HT.out, hr]; rfl)
          rw [hr] at HC
          clear hr
          go_wp2_with (go_at_call 27; have hx := HC.out _ (((HP.out.on HB.out).alloc (.cells #[.string l[n].name, .slice l[n].pa l[n].params.length l[n].pc, .slice l[n].va l[n].vars.length l[n].vc, .slice l[n].ba l[n].body.length l[n].bc] 59)).alloc (.cells #[.string m[n].name, .slice m[n].pa m[n].params.length m[n].pc, .slice m[n].va m[n].vars.length m[n].vc, .slice m[n].ba m[n].body.length m[n].bc] 59)); refine hx.mono ?_; clear hx; rintro e w2 ⟨rfl, hb2⟩; have HB2 := hid (step_on ((HB.out.alloc HB.out.size _).alloc (Nat.le_trans HB.out.size (by simp)) _) hb2); clear hb2)
          go_round
          case rel => exact ⟨n + 1, by omega, by go_num, HB2.out, HR.out⟩
          case measure => simp [intOf]; omega
      · obtain rfl : n = l.length := by omega
        have HT2 : Hid (sameFs l m = true) := hid (by have := HT.out; rw [List.take_length, HLN.out, List.take_length] at this; exact this)
        go_wp2
        go_ret
        exact ⟨by rw [HT2.out]; rfl, HB.out⟩
  · have hne : ((l.length : Int) != (m.length : Int)) = true := by simp; omega
    have HR := hid (sameFs_len hlen)
    go_enter Tryz.func26, Tryz.ntmps26
    go_wp2_with fail
    go_ret
    exact ⟨by rw [HR.out]; rfl, Below.refl _ _⟩
theorem equal_names {w0 : World} (a a' : Option Addr) (c c' : Nat) (l m : List ByteArray) (hl : l.length ≤ 9223372036854775807) (hm : m.length ≤ 9223372036854775807) (hin : ∀ (i : Nat) (h : i < l.length), StrAt w0 0 a i l[i]) (hin' : ∀ (i : Nat) (h : i < m.length), StrAt w0 0 a' i m[i]) (w : World) (hp : Past w0 w) :
    Calls Tryz.prog 46 #[.slice a l.length c, .slice a' m.length c'] w fun e w' => e = .returned (.bool (decide (l = m))) ∧ Below w.heap.size w w' := by
  by_cases hlen : l.length = m.length
  · by_cases h0 : l.length = 0
    · obtain rfl : l = [] := List.length_eq_zero_iff.1 h0
      obtain rfl : m = [] := List.length_eq_zero_iff.1 (by omega)
      refine (Tryz.slices_Equal_string_empty a a' c 0 c' w (by omega)).mono ?_
      rintro e w' ⟨rfl, rfl⟩
      exact ⟨by simp, Below.refl _ _⟩
    · have k := below_keep hp (B := 0)
      obtain ⟨b, o, ea, -, -⟩ := hin 0 (by omega)
      obtain ⟨b', o', ea', -, -⟩ := hin' 0 (by omega)
      subst ea
      subst ea'
      refine (Tryz.slices_Equal_string b o l.length c b' o' m.length c' l m w (Nat.le_refl _) (Nat.le_refl _) hl hm ?_ ?_).mono ?_
      · intro j hj
        obtain ⟨b1, o1, e1, -, h1⟩ := hin j hj
        simp only [Option.some.injEq, Addr.mk.injEq, and_true] at e1
        obtain ⟨rfl, rfl⟩ := e1
        rw [k _ _ (Nat.zero_le _) h1, List.getD_eq_getElem?_getD, List.getElem?_eq_getElem hj]; rfl
      · intro j hj
        obtain ⟨b1, o1, e1, -, h1⟩ := hin' j hj
        simp only [Option.some.injEq, Addr.mk.injEq, and_true] at e1
        obtain ⟨rfl, rfl⟩ := e1
        rw [k _ _ (Nat.zero_le _) h1, List.getD_eq_getElem?_getD, List.getElem?_eq_getElem hj]; rfl
      · rintro e w' ⟨rfl, q, rfl⟩
        rw [List.take_length, List.take_length]
        exact ⟨rfl, below_dN _ _⟩
  · refine (Tryz.slices_Equal_string_lens a a' l.length c m.length c' w hlen).mono ?_
    rintro e w' ⟨rfl, rfl⟩
    exact ⟨by rw [decide_eq_false (fun e => hlen (by rw [e]))], Below.refl _ _⟩
set_option maxHeartbeats 8000000 in
set_option maxRecDepth 100000 in
theorem sameFunc_any {w0 : World} (F G : FT) (hF : F.In w0 0) (hG : G.In w0 0) (w : World) (hp : Past w0 w) :
    Calls Tryz.prog 27 #[F.val, G.val] w fun e w' => e = .returned (.bool (sameF F G)) ∧ Below w.heap.size w w' := by
  have HA := hid (fun W hW => equal_names (w0 := w0) F.pa G.pa F.pc G.pc F.params G.params hF.pl hG.pl hF.ps hG.ps W hW)
  have HB := hid (fun W hW => equal_decls (w0 := w0) F.va G.va F.vc G.vc F.vars G.vars hF.vl hG.vl hF.vs hG.vs W hW)
  have HC := hid (fun W hW => sameBlock_any (w0 := w0) F.ba G.ba F.bc G.bc F.body G.body hF.bl hG.bl hF.ss hG.ss W hW)
  have HP := hid hp
  rw [FT.val_eq, FT.val_eq]
  unfold sameF
  generalize decide (F.params = G.params) = r2 at HA
  generalize sameDs F.vars G.vars = r3 at HB
  generalize sameSs F.body G.body = r4 at HC
  generalize hr : (F.name.toList == G.name.toList && (r2 && (r3 && r4))) = r
  have key : (F.name.toList == G.name.toList) = false ∧ r = false ∨ (F.name.toList == G.name.toList) = true ∧ (r2 = false ∧ r = false ∨ r2 = true ∧ (r3 = false ∧ r = false ∨ r3 = true ∧ r4 = r)) := by
    rw [← hr]
    cases (F.name.toList == G.name.toList) <;> cases r2 <;> cases r3 <;> simp
  clear hr hp hF hG
  rcases key with ⟨h1, rfl⟩ | ⟨h1, (⟨rfl, rfl⟩ | ⟨rfl, (⟨rfl, rfl⟩ | ⟨rfl, rfl⟩)⟩)⟩
  all_goals
    go_enter Tryz.func27, Tryz.ntmps27
    go_wp2_with (first
      | (go_at_call 48; have hx := HC.out _ (HP.out.on B3.out); refine hx.mono ?_; clear hx; rintro e w4 ⟨rfl, hb4⟩; have B4 := hid (step_on B3.out hb4); clear hb4)
      | (go_at_call 47; have hx := HB.out _ (HP.out.on B2.out); refine hx.mono ?_; clear hx; rintro e w3 ⟨rfl, hb3⟩; have B3 := hid (step_on B2.out hb3); have X31 := hid ((hb3.block w.heap.size (lt_of_block X21.out)).trans X21.out); have X32 := hid ((hb3.block (w.heap.size + 1) (lt_of_block X22.out)).trans X22.out); obtain ⟨p0, p1, p2, p3⟩ := cells4 X31.out; obtain ⟨q0, q1, q2, q3⟩ := cells4 X32.out; clear hb3)
      | (go_at_call 46; have hx := HA.out _ ((HP.out.alloc (.cells #[.string F.name, .slice F.pa F.params.length F.pc, .slice F.va F.vars.length F.vc, .slice F.ba F.body.length F.bc] 59)).alloc (.cells #[.string G.name, .slice G.pa G.params.length G.pc, .slice G.va G.vars.length G.vc, .slice G.ba G.body.length G.bc] 59)); refine hx.mono ?_; clear hx; rintro e w2 ⟨rfl, hb2⟩; have B2 := hid (step_on (((Below.refl _ _).alloc (Nat.le_refl _) _).alloc (by simp) _) hb2); have X21 := hid ((hb2.block w.heap.size (by simp; omega)).trans (bk_old _ (bk_new w (.cells #[.string F.name, .slice F.pa F.params.length F.pc, .slice F.va F.vars.length F.vc, .slice F.ba F.body.length F.bc] 59)))); have X22 := hid ((hb2.block (w.heap.size + 1) (by simp)).trans (bk_new' (.cells #[.string G.name, .slice G.pa G.params.length G.pc, .slice G.va G.vars.length G.vc, .slice G.ba G.body.length G.bc] 59) (by simp))); obtain ⟨c0, c1, c2, c3⟩ := cells4 X21.out; obtain ⟨d0, d1, d2, d3⟩ := cells4 X22.out; clear hb2))
    go_ret
    exact ⟨by simp, by first | exact B4.out | exact B3.out | exact B2.out | exact ((Below.refl _ _).alloc (Nat.le_refl _) _).alloc (by simp) _⟩
theorem sameP_any {w0 : World} (a a' : Option Addr) (c c' : Nat) (l m : List FT) (hin : FsIn w0 0 a l) (hin' : FsIn w0 0 a' m) (w : World) (hp : Past w0 w) :
    Calls Tryz.prog 14 #[.agg #[.slice a l.length c], .agg #[.slice a' m.length c']] w fun e w' => e = .returned (.bool (sameFs l m)) ∧ Below w.heap.size w w' := by
  have HH := hid (fun W hW => equal_funcs (w0 := w0) a a' c c' l m hin.len hin'.len ⟨hin⟩ ⟨hin'⟩ (fun n hn hn' w hw => sameFunc_any l[n] m[n] (hin.fs n hn) (hin'.fs n hn') w hw) W hW)
  have HP := hid hp
  clear hin hin' hp
  go_enter Tryz.func14, Tryz.ntmps14
  go_wp2_with (go_at_call 26; have hx := HH.out _ ((HP.out.alloc (.cells #[.slice a l.length c] 24)).alloc (.cells #[.slice a' m.length c'] 24)); refine hx.mono ?_; clear hx; rintro e w1 ⟨rfl, hb⟩)
  go_ret
  exact ⟨rfl, step_on (((Below.refl _ _).alloc (Nat.le_refl _) _).alloc (by simp) _) hb⟩
end Go.Proofs.YtgkdoealhbhnmaaGreatDoor
