/- What same asks of lists of expressions and of statements: are all fields the same, wherever they lie? (Written by gens.py.) -/
import Derived.Test.YtppeogcpoplpeaaGreatDoorTStRight2
set_option linter.unusedSimpArgs false
set_option linter.unusedVariables false
namespace Go.Proofs.YtppeogcpoplpeaaGreatDoor
open Go Go.RowKit

mutual
def sameE : ET → ET → Bool
  | .mk k o n m _ _ l, .mk k' o' n' m' _ _ l' => k == k' && (o.toList == o'.toList && (n == n' && (m.toList == m'.toList && sameEs l l')))
def sameEs : List ET → List ET → Bool
  | [], [] => true
  | T :: l, U :: m => sameE T U && sameEs l m
  | [], _ :: _ => false
  | _ :: _, [] => false
end
mutual
def sameS : ST → ST → Bool
  | .mk k t n f _ _ e _ _ b _ _ l, .mk k' t' n' f' _ _ e' _ _ b' _ _ l' => k == k' && (t == t' && (n.toList == n'.toList && (f.toList == f'.toList && (sameEs e e' && (sameSs b b' && sameSs l l')))))
def sameSs : List ST → List ST → Bool
  | [], [] => true
  | S :: l, U :: m => sameS S U && sameSs l m
  | [], _ :: _ => false
  | _ :: _, [] => false
end
theorem sameEs_len {l m : List ET} (h : ¬ l.length = m.length) : sameEs l m = false := by
  induction l generalizing m with
  | nil =>
    cases m with
    | nil => exact absurd rfl h
    | cons U m => rw [sameEs]
  | cons X l ih =>
    cases m with
    | nil => rw [sameEs]
    | cons U m => rw [sameEs, ih (by simpa using h)]; simp
theorem sameEs_no {l m : List ET} {n : Nat} (hn : n < l.length) (hn' : n < m.length) (h : sameE l[n] m[n] = false) : sameEs l m = false := by
  induction l generalizing m n with
  | nil => simp at hn
  | cons X l ih =>
    cases m with
    | nil => simp at hn'
    | cons U m =>
      cases n with
      | zero => rw [sameEs, show sameE X U = false from h]; rfl
      | succ n => rw [sameEs, ih (m := m) (n := n) (by simpa using hn) (by simpa using hn') h]; simp
theorem sameEs_take {l m : List ET} {n : Nat} (hn : n < l.length) (hn' : n < m.length) : sameEs (l.take (n + 1)) (m.take (n + 1)) = (sameEs (l.take n) (m.take n) && sameE l[n] m[n]) := by
  induction l generalizing m n with
  | nil => simp at hn
  | cons X l ih =>
    cases m with
    | nil => simp at hn'
    | cons U m =>
      cases n with
      | zero => simp [sameEs]
      | succ n =>
        have := ih (m := m) (n := n) (by simpa using hn) (by simpa using hn')
        rw [List.take_succ_cons, List.take_succ_cons, sameEs, this, List.take_succ_cons, List.take_succ_cons, sameEs, Bool.and_assoc]
        rfl
theorem sameSs_len {l m : List ST} (h : ¬ l.length = m.length) : sameSs l m = false := by
  induction l generalizing m with
  | nil =>
    cases m with
    | nil => exact absurd rfl h
    | cons U m => rw [sameSs]
  | cons X l ih =>
    cases m with
    | nil => rw [sameSs]
    | cons U m => rw [sameSs, ih (by simpa using h)]; simp
theorem sameSs_no {l m : List ST} {n : Nat} (hn : n < l.length) (hn' : n < m.length) (h : sameS l[n] m[n] = false) : sameSs l m = false := by
  induction l generalizing m n with
  | nil => simp at hn
  | cons X l ih =>
    cases m with
    | nil => simp at hn'
    | cons U m =>
      cases n with
      | zero => rw [sameSs, show sameS X U = false from h]; rfl
      | succ n => rw [sameSs, ih (m := m) (n := n) (by simpa using hn) (by simpa using hn') h]; simp
theorem sameSs_take {l m : List ST} {n : Nat} (hn : n < l.length) (hn' : n < m.length) : sameSs (l.take (n + 1)) (m.take (n + 1)) = (sameSs (l.take n) (m.take n) && sameS l[n] m[n]) := by
  induction l generalizing m n with
  | nil => simp at hn
  | cons X l ih =>
    cases m with
    | nil => simp at hn'
    | cons U m =>
      cases n with
      | zero => simp [sameSs]
      | succ n =>
        have := ih (m := m) (n := n) (by simpa using hn) (by simpa using hn')
        rw [List.take_succ_cons, List.take_succ_cons, sameSs, this, List.take_succ_cons, List.take_succ_cons, sameSs, Bool.and_assoc]
        rfl
set_option maxHeartbeats 4000000 in
set_option maxRecDepth 100000 in
theorem equal_exprs {w0 : World} (a a' : Option Addr) (c c' : Nat) (l m : List ET) (hl : l.length ≤ 9223372036854775807) (hm : m.length ≤ 9223372036854775807) (hin : EsIn w0 0 a 0 l) (hin' : EsIn w0 0 a' 0 m)
    (hf : ∀ (n : Nat) (hn : n < l.length) (hn' : n < m.length) (w : World), Past w0 w → Calls Tryz.prog 60 #[l[n].val, m[n].val] w fun e w' => e = .returned (.bool (sameE l[n] m[n])) ∧ Below w.heap.size w w') (w : World) (hp : Past w0 w) :
    Calls Tryz.prog 92 #[.slice a l.length c, .slice a' m.length c', .func (.func 60) #[] #[]] w fun e w' => e = .returned (.bool (sameEs l m)) ∧ Below w.heap.size w w' := by
  have HF := Lib.hid hf
  have HI := Lib.hid hin
  have HI' := Lib.hid hin'
  have HP := Lib.hid hp
  clear hf hin hin' hp
  by_cases hlen : l.length = m.length
  · have hne : ((l.length : Int) != (m.length : Int)) = false := by rw [hlen]; simp
    have hlm : Hid (m.length = l.length) := Lib.hid hlen.symm
    have HLN := Lib.hid hlen
    clear hlen
    go_enter Tryz.func92, Tryz.ntmps92
    go_wp2
    go_loopw [7, 8, 9, 17] (fun _ _ _ i wr => ∃ n : Nat, n ≤ l.length ∧ i = .int .i64 n ∧ Below w.heap.size w wr ∧ sameEs (l.take n) (m.take n) = true) (fun _ _ _ i _ => l.length - (intOf i).toNat)
    case atStart => exact ⟨0, Nat.zero_le _, rfl, Below.refl _ _, by simp [sameEs]⟩
    case round =>
      obtain ⟨n, hn, rfl, hb, ht⟩ := hrel
      have HB := Lib.hid hb
      have HT := Lib.hid ht
      clear hb ht
      by_cases hlt : n < l.length
      · have hlt' : n < m.length := by have := hlm.out; omega
        obtain ⟨hrow, -⟩ := HI.out.nth n hlt
        obtain ⟨hrow2, -⟩ := HI'.out.nth n hlt'
        have hrow' := hrow
        have hrow2' := hrow2
        obtain ⟨kb, ko, rfl, -⟩ := hrow'
        obtain ⟨kb', ko', rfl, -⟩ := hrow2'
        rw [ET.cells_is, Nat.zero_add] at hrow hrow2
        obtain ⟨r0, r1, r2, r3, r4, hkb⟩ := row_cells hrow (HP.out.on HB.out)
        obtain ⟨s0, s1, s2, s3, s4, hkb2⟩ := row_cells hrow2 (HP.out.on HB.out)
        have hcall := HF.out n hlt hlt'
        rw [ET.val_is, ET.val_is] at hcall
        have HC := Lib.hid hcall
        clear hcall hrow hrow2
        cases hr : sameE l[n] m[n] with
        | false =>
          have HR := Lib.hid (sameEs_no hlt hlt' hr)
          rw [hr] at HC
          clear hr
          go_wp2_with (go_at_call 60; have hx := HC.out _ (((HP.out.on HB.out).alloc (.cells #[.int .i64 l[n].kind, .string l[n].op, .int .i64 l[n].n, .string l[n].name, .slice l[n].kaddr l[n].kids.length l[n].kcap] 30)).alloc (.cells #[.int .i64 m[n].kind, .string m[n].op, .int .i64 m[n].n, .string m[n].name, .slice m[n].kaddr m[n].kids.length m[n].kcap] 30)); refine hx.mono ?_; clear hx; rintro e w2 ⟨rfl, hb2⟩; have HB2 := Lib.hid (step_on ((HB.out.alloc HB.out.size _).alloc (Nat.le_trans HB.out.size (by simp)) _) hb2); clear hb2)
          go_ret
          exact ⟨by rw [HR.out]; rfl, HB2.out⟩
        | true =>
          have HR := Lib.hid (show sameEs (l.take (n + 1)) (m.take (n + 1)) = true by rw [sameEs_take hlt hlt', HT.out, hr]; rfl)
          rw [hr] at HC
          clear hr
          go_wp2_with (go_at_call 60; have hx := HC.out _ (((HP.out.on HB.out).alloc (.cells #[.int .i64 l[n].kind, .string l[n].op, .int .i64 l[n].n, .string l[n].name, .slice l[n].kaddr l[n].kids.length l[n].kcap] 30)).alloc (.cells #[.int .i64 m[n].kind, .string m[n].op, .int .i64 m[n].n, .string m[n].name, .slice m[n].kaddr m[n].kids.length m[n].kcap] 30)); refine hx.mono ?_; clear hx; rintro e w2 ⟨rfl, hb2⟩; have HB2 := Lib.hid (step_on ((HB.out.alloc HB.out.size _).alloc (Nat.le_trans HB.out.size (by simp)) _) hb2); clear hb2)
          go_round
          case rel => exact ⟨n + 1, by omega, by go_num, HB2.out, HR.out⟩
          case measure => simp [intOf]; omega
      · obtain rfl : n = l.length := by omega
        have HT2 : Hid (sameEs l m = true) := Lib.hid (by have := HT.out; rw [List.take_length, HLN.out, List.take_length] at this; exact this)
        go_wp2
        go_ret
        exact ⟨by rw [HT2.out]; rfl, HB.out⟩
  · have hne : ((l.length : Int) != (m.length : Int)) = true := by simp; omega
    have HR := Lib.hid (sameEs_len hlen)
    go_enter Tryz.func92, Tryz.ntmps92
    go_wp2_with fail
    go_ret
    exact ⟨by rw [HR.out]; rfl, Below.refl _ _⟩
set_option maxHeartbeats 4000000 in
set_option maxRecDepth 100000 in
theorem equal_stmts {w0 : World} (a a' : Option Addr) (c c' : Nat) (l m : List ST) (hl : l.length ≤ 9223372036854775807) (hm : m.length ≤ 9223372036854775807) (hin : SsIn w0 0 a 0 l) (hin' : SsIn w0 0 a' 0 m)
    (hf : ∀ (n : Nat) (hn : n < l.length) (hn' : n < m.length) (w : World), Past w0 w → Calls Tryz.prog 91 #[l[n].val, m[n].val] w fun e w' => e = .returned (.bool (sameS l[n] m[n])) ∧ Below w.heap.size w w') (w : World) (hp : Past w0 w) :
    Calls Tryz.prog 90 #[.slice a l.length c, .slice a' m.length c', .func (.func 91) #[] #[]] w fun e w' => e = .returned (.bool (sameSs l m)) ∧ Below w.heap.size w w' := by
  have HF := Lib.hid hf
  have HI := Lib.hid hin
  have HI' := Lib.hid hin'
  have HP := Lib.hid hp
  clear hf hin hin' hp
  by_cases hlen : l.length = m.length
  · have hne : ((l.length : Int) != (m.length : Int)) = false := by rw [hlen]; simp
    have hlm : Hid (m.length = l.length) := Lib.hid hlen.symm
    have HLN := Lib.hid hlen
    clear hlen
    go_enter Tryz.func90, Tryz.ntmps90
    go_wp2
    go_loopw [7, 8, 9, 17] (fun _ _ _ i wr => ∃ n : Nat, n ≤ l.length ∧ i = .int .i64 n ∧ Below w.heap.size w wr ∧ sameSs (l.take n) (m.take n) = true) (fun _ _ _ i _ => l.length - (intOf i).toNat)
    case atStart => exact ⟨0, Nat.zero_le _, rfl, Below.refl _ _, by simp [sameSs]⟩
    case round =>
      obtain ⟨n, hn, rfl, hb, ht⟩ := hrel
      have HB := Lib.hid hb
      have HT := Lib.hid ht
      clear hb ht
      by_cases hlt : n < l.length
      · have hlt' : n < m.length := by have := hlm.out; omega
        obtain ⟨hrow, -⟩ := HI.out.nth n hlt
        obtain ⟨hrow2, -⟩ := HI'.out.nth n hlt'
        have hrow' := hrow
        have hrow2' := hrow2
        obtain ⟨kb, ko, rfl, -⟩ := hrow'
        obtain ⟨kb', ko', rfl, -⟩ := hrow2'
        rw [ST.cells_eq, Nat.zero_add] at hrow hrow2
        obtain ⟨r0, r1, r2, r3, r4, r5, r6, hkb⟩ := row_cells7 hrow (HP.out.on HB.out)
        obtain ⟨s0, s1, s2, s3, s4, s5, s6, hkb2⟩ := row_cells7 hrow2 (HP.out.on HB.out)
        have hcall := HF.out n hlt hlt'
        rw [ST.val_eq, ST.val_eq] at hcall
        have HC := Lib.hid hcall
        clear hcall hrow hrow2
        cases hr : sameS l[n] m[n] with
        | false =>
          have HR := Lib.hid (sameSs_no hlt hlt' hr)
          rw [hr] at HC
          clear hr
          go_wp2_with (go_at_call 91; have hx := HC.out _ (((HP.out.on HB.out).alloc (.cells #[.int .i64 l[n].kind, .int .i64 l[n].tag, .string l[n].name, .string l[n].func, .slice l[n].ea l[n].en l[n].ec, .slice l[n].ba l[n].bn l[n].bc, .slice l[n].la l[n].ln l[n].lc] 83)).alloc (.cells #[.int .i64 m[n].kind, .int .i64 m[n].tag, .string m[n].name, .string m[n].func, .slice m[n].ea m[n].en m[n].ec, .slice m[n].ba m[n].bn m[n].bc, .slice m[n].la m[n].ln m[n].lc] 83)); refine hx.mono ?_; clear hx; rintro e w2 ⟨rfl, hb2⟩; have HB2 := Lib.hid (step_on ((HB.out.alloc HB.out.size _).alloc (Nat.le_trans HB.out.size (by simp)) _) hb2); clear hb2)
          go_ret
          exact ⟨by rw [HR.out]; rfl, HB2.out⟩
        | true =>
          have HR := Lib.hid (show sameSs (l.take (n + 1)) (m.take (n + 1)) = true by rw [sameSs_take hlt hlt', HT.out, hr]; rfl)
          rw [hr] at HC
          clear hr
          go_wp2_with (go_at_call 91; have hx := HC.out _ (((HP.out.on HB.out).alloc (.cells #[.int .i64 l[n].kind, .int .i64 l[n].tag, .string l[n].name, .string l[n].func, .slice l[n].ea l[n].en l[n].ec, .slice l[n].ba l[n].bn l[n].bc, .slice l[n].la l[n].ln l[n].lc] 83)).alloc (.cells #[.int .i64 m[n].kind, .int .i64 m[n].tag, .string m[n].name, .string m[n].func, .slice m[n].ea m[n].en m[n].ec, .slice m[n].ba m[n].bn m[n].bc, .slice m[n].la m[n].ln m[n].lc] 83)); refine hx.mono ?_; clear hx; rintro e w2 ⟨rfl, hb2⟩; have HB2 := Lib.hid (step_on ((HB.out.alloc HB.out.size _).alloc (Nat.le_trans HB.out.size (by simp)) _) hb2); clear hb2)
          go_round
          case rel => exact ⟨n + 1, by omega, by go_num, HB2.out, HR.out⟩
          case measure => simp [intOf]; omega
      · obtain rfl : n = l.length := by omega
        have HT2 : Hid (sameSs l m = true) := Lib.hid (by have := HT.out; rw [List.take_length, HLN.out, List.take_length] at this; exact this)
        go_wp2
        go_ret
        exact ⟨by rw [HT2.out]; rfl, HB.out⟩
  · have hne : ((l.length : Int) != (m.length : Int)) = true := by simp; omega
    have HR := Lib.hid (sameSs_len hlen)
    go_enter Tryz.func90, Tryz.ntmps90
    go_wp2_with fail
    go_ret
    exact ⟨by rw [HR.out]; rfl, Below.refl _ _⟩
end Go.Proofs.YtppeogcpoplpeaaGreatDoor
