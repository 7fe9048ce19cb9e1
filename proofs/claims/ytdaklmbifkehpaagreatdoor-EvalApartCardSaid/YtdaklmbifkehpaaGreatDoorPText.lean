/- The words of a text are good, and no more than it has bytes. What Parse, Expr and Nest answer, as plain functions of a text. No walk stands in this text. What is put of an expression, and of programs, is parsed as they are. No walk stands in this text. -/
import Derived.Test.YtdaklmbifkehpaaGreatDoorLAll
import Derived.Test.YtdaklmbifkehpaaGreatDoorPBackS
import Derived.Test.YtdaklmbifkehpaaGreatDoorPTake
set_option linter.unusedSimpArgs false
set_option linter.unusedVariables false
namespace Go.Proofs.YtdaklmbifkehpaaGreatDoor.Pm
open Go
open Go.Proofs.YtdaklmbifkehpaaGreatDoor.Lx (wordOf_letter wordOf_digit wordOf_tag wordOf_other)

theorem numOf_le {most : Nat} {l : List UInt8} {u : Nat} (h : numOf most l = some u) : u ≤ most := by
  unfold numOf at h
  split at h
  · cases h
  · split at h
    · split at h
      · cases h
      · cases h; omega
    · cases h
theorem word_good {c : UInt8} {r : List UInt8} {k len n p : Nat} (h : wordOf (c :: r) = some (k, len, n)) (hp : p ≤ 100000) : Good ⟨k, (c :: r).take len, n, p⟩ := by
  have tk : ∀ (q : UInt8 → Bool), (c :: r).take ((c :: r).takeWhile q).length = (c :: r).takeWhile q := fun q => tw_take _
  have hall : ∀ (q : UInt8 → Bool) (l : List UInt8), (l.takeWhile q).all q = true := fun q l => by
    exact List.all_takeWhile
  have brk : ∀ (l : List UInt8), l.head?.any (fun x => isLt x || isDg x || x.toNat == 64) = true → opens l = false ∧ shuts l = false := fun l hl => by
    cases l with
    | nil => cases hl
    | cons a t =>
      simp only [List.head?_cons, Option.any_some] at hl
      have ne : ∀ x : UInt8, (isLt x || isDg x || x.toNat == 64) = false → a ≠ x := fun x hx e => by rw [e, hx] at hl; cases hl
      have h1 := ne 40 (by decide)
      have h2 := ne 91 (by decide)
      have h3 := ne 123 (by decide)
      have h4 := ne 41 (by decide)
      have h5 := ne 93 (by decide)
      have h6 := ne 125 (by decide)
      simp [opens, shuts, h1, h2, h3, h4, h5, h6]
  by_cases hl : isLt c = true
  · have e := wordOf_letter (r := r) hl
    rw [e] at h
    have hpt : isPt c = true := by simp [isPt, hl]
    have hd : ((c :: r).takeWhile isPt).head? = some c := by rw [List.takeWhile_cons_of_pos hpt]; rfl
    by_cases hk : isKeyL ((c :: r).takeWhile isPt) = true
    · rw [if_pos hk] at h
      simp only [Option.some.injEq, Prod.mk.injEq] at h
      obtain ⟨rfl, rfl, rfl⟩ := h
      rw [tk]
      exact ⟨by simp, by simp, by simp, by simp, fun _ => brk _ (by rw [hd]; simp [hl]), by simp, hp⟩
    · rw [if_neg hk] at h
      by_cases hb : 24 < ((c :: r).takeWhile isPt).length
      · rw [if_pos hb] at h; cases h
      · rw [if_neg hb] at h
        simp only [Option.some.injEq, Prod.mk.injEq] at h
        obtain ⟨rfl, rfl, rfl⟩ := h
        rw [tk]
        refine ⟨fun _ => ?_, by simp, by simp, by simp, fun _ => brk _ (by rw [hd]; simp [hl]), by simp, hp⟩
        show nameOk ((c :: r).takeWhile isPt) = true
        have h0 : 0 < ((c :: r).takeWhile isPt).length := by rw [List.takeWhile_cons_of_pos hpt]; simp
        simp only [nameOk, Bool.and_eq_true, decide_eq_true_eq, Bool.not_eq_true']
        exact ⟨⟨⟨⟨h0, by omega⟩, by simpa using hk⟩, by rw [hd]; simpa using hl⟩, hall _ _⟩
  · have hl' : isLt c = false := by simpa using hl
    by_cases hd : isDg c = true
    · rw [wordOf_digit hl' hd] at h
      cases hn : numOf 9223372036854775808 ((c :: r).takeWhile isDg) with
      | none => rw [hn] at h; cases h
      | some m =>
        rw [hn] at h
        simp only [Option.map_some, Option.some.injEq, Prod.mk.injEq] at h
        obtain ⟨rfl, rfl, rfl⟩ := h
        rw [tk]
        have hm := numOf_le hn
        exact ⟨by simp, hm, by simp, by simp, fun _ => brk _ (by rw [List.takeWhile_cons_of_pos hd]; simp [hd]), by simp, hp⟩
    · have hd' : isDg c = false := by simpa using hd
      by_cases h64 : (c.toNat == 64) = true
      · rw [wordOf_tag hl' hd' h64] at h
        cases hn : numOf 1000000 (r.takeWhile isDg) with
        | none => rw [hn] at h; cases h
        | some m =>
          rw [hn] at h
          simp only [Option.map_some, Option.some.injEq, Prod.mk.injEq] at h
          obtain ⟨rfl, rfl, rfl⟩ := h
          have hm := numOf_le hn
          refine ⟨by simp, by show m ≤ _; omega, fun _ => hm, by simp, fun _ => brk _ ?_, by simp, hp⟩
          rw [Nat.add_comm, List.take_succ_cons]
          simp [h64]
      · rw [wordOf_other hl' hd' (by simpa using h64)] at h
        by_cases hne : longest (c :: r) = []
        · rw [if_pos hne] at h; cases h
        · rw [if_neg hne] at h
          simp only [Option.some.injEq, Prod.mk.injEq] at h
          obtain ⟨rfl, rfl, rfl⟩ := h
          have hlt : (c :: r).take (longest (c :: r)).length = longest (c :: r) := (List.prefix_iff_eq_take.1 (longest_is (c :: r)).2).symm
          rw [hlt]
          have hin : longest (c :: r) ∈ signsL := (longest_is (c :: r)).1.resolve_left hne
          generalize longest (c :: r) = q at hin
          exact ⟨by simp, by simp, by simp, by simp, (fun h => (h rfl).elim), (fun _ => hin), hp⟩
theorem lex_good : ∀ (n p : Nat) (l : List UInt8), l.length < n → p + l.length ≤ 100000 → ∀ ts q, lexP p l = (some ts, q) → (∀ t ∈ ts, Good t) ∧ ts.length ≤ l.length ∧ (∀ t ∈ ts, t.at' < p + l.length) := by
  intro n
  induction n with
  | zero => intro p l h; omega
  | succ n ih =>
    intro p l hl hp ts q e
    cases l with
    | nil => rw [lexP_nil] at e; cases e; simp
    | cons c r =>
      simp only [List.length_cons] at hl hp ⊢
      cases h : isSp c with
      | true =>
        rw [lexP_space p r h] at e
        obtain ⟨h1, h2, h3⟩ := ih (p + 1) r (by omega) (by omega) ts q e
        exact ⟨h1, by omega, fun t ht => by have := h3 t ht; omega⟩
      | false =>
        cases hw : wordOf (c :: r) with
        | none => rw [lexP_bad p r h hw] at e; cases e
        | some x =>
          obtain ⟨k, len, m⟩ := x
          have hlen := wordOf_len hw
          simp only [List.length_cons] at hlen
          rw [lexP_word p r h hw] at e
          cases e2 : lexP (p + len) ((c :: r).drop len) with
          | mk o q' =>
            rw [e2] at e
            cases o with
            | none => cases e
            | some ts' =>
              simp only [pre, Option.map_some, Prod.mk.injEq, Option.some.injEq] at e
              obtain ⟨rfl, rfl⟩ := e
              have hd : ((c :: r).drop len).length = r.length + 1 - len := by simp
              obtain ⟨h1, h2, h3⟩ := ih (p + len) ((c :: r).drop len) (by omega) (by omega) ts' q' e2
              refine ⟨fun t ht => ?_, by simp only [List.length_cons]; omega, fun t ht => ?_⟩
              · rcases List.mem_cons.1 ht with rfl | ht
                · exact word_good hw (by omega)
                · exact h1 t ht
              · rcases List.mem_cons.1 ht with rfl | ht
                · show p < _; omega
                · have := h3 t ht; omega
inductive Ans (α : Type) where
  | ok (a : α) (mo : Nat)
  | bad (at' e : Nat)
deriving DecidableEq
def answerF {α : Type} (m : Nat) (rule : Nat → Nat → PS → PR α) (l : List UInt8) : Ans α := match lexP 0 l with
  | (none, p) => .bad p 2
  | (some ws, _) => match whole l.length (rule l.length m) ws with
    | .ok a s => .ok a s.mo
    | .bad n s => .bad (place l.length s) n
def FinA {α : Type} (m : Nat) (rule : Nat → Nat → PS → PR α) (l : List UInt8) : Prop := ∀ ws q, lexP 0 l = (some ws, q) → Fin (whole l.length (rule l.length m) ws)
theorem finA_ok {α : Type} {m : Nat} {rule : Nat → Nat → PS → PR α} {l : List UInt8} {a : α} {n : Nat} (h : answerF m rule l = .ok a n) : FinA m rule l := fun ws q e s' e' => by
  unfold answerF at h
  rw [e] at h
  simp only at h
  rw [e'] at h
  cases h
theorem lex_many {l : List UInt8} (hl : l.length ≤ 100000) {ws : List Tok} {q : Nat} (h : lexP 0 l = (some ws, q)) : (∀ t ∈ ws, Good t) ∧ ws.length ≤ l.length ∧ q = l.length := by
  obtain ⟨h1, h2, -⟩ := lex_good (l.length + 1) 0 l (by omega) (by omega) ws q h
  have := (lexP_at (l.length + 1) 0 l (by omega)).2 ws (by rw [h])
  rw [h] at this
  exact ⟨h1, h2, by simpa using this⟩
def exprF (m : Nat) (l : List UInt8) : Ans RE := answerF m expr l
def parseF (m : Nat) (l : List UInt8) : Ans (List RF) := answerF m program l
end Go.Proofs.YtdaklmbifkehpaaGreatDoor.Pm

set_option linter.unusedSimpArgs false
set_option linter.unusedVariables false
namespace Go.Proofs.YtdaklmbifkehpaaGreatDoor.Pm
open Go

theorem lx_toks {l : List UInt8} {W : List Wd} (h : Lx l W) : ∃ ts, lexP 0 l = (some ts, l.length) ∧ wds ts = W := by
  have h0 := h 0
  cases e : lexP 0 l with
  | mk o q =>
    rw [e] at h0
    cases o with
    | none => cases h0
    | some ts =>
      have hq := (lexP_at (l.length + 1) 0 l (by omega)).2 ts (by rw [e])
      rw [e] at hq
      simp only [Nat.zero_add] at hq
      subst hq
      simp only [Option.map_some, Option.some.injEq] at h0
      exact ⟨ts, rfl, h0⟩
theorem whole_ok {α : Type} {z : Nat} {f : PS → PR α} {ws : List Tok} {a : α} {s : PS} (h : f ⟨ws, 0, 0, 0⟩ = .ok a s) (he : s.ws = []) : whole z f ws = .ok a s := by
  unfold whole
  rw [h]
  show (if s.ws.isEmpty = true then PR.ok a s else .bad 3 s) = _
  rw [if_pos (by rw [he]; rfl)]
theorem answer_of {α : Type} {m : Nat} {rule : Nat → Nat → PS → PR α} {l : List UInt8} {ws : List Tok} {q : Nat} (e : lexP 0 l = (some ws, q)) {a : α} {s : PS} (h : whole l.length (rule l.length m) ws = .ok a s) : answerF m rule l = .ok a s.mo := by
  unfold answerF
  rw [e]
  simp only
  rw [h]
theorem no_prog {l : List UInt8} {W : List Wd} (hx : Lx l W) (h : ∀ x, W.head? = some x → x.2.1 ≠ kFunc) (m : Nat) : ∃ p, parseF m l = .bad p 3 := by
  obtain ⟨ts, e, hw⟩ := lx_toks hx
  have hat : at' l.length kFunc ⟨ts, 0, 0, 0⟩ = false := hd_no (l := W) (t := []) (by decide) (by rw [List.append_nil]; exact h) ⟨ts, 0, 0, 0⟩ (by rw [List.append_nil]; exact hw)
  refine ⟨place l.length ⟨ts, 0, 0, 0⟩, ?_⟩
  show answerF m program l = _
  unfold answerF whole
  rw [e]
  simp only
  unfold program function take
  rw [if_neg (by rw [hat]; decide)]
  rfl
theorem dBr_le (b : Bool) (n : Nat) : dBr b n ≤ 1 + n := by
  cases b
  · show n ≤ _; omega
  · exact Nat.le_refl _
theorem dE_le (r : RE) : dE r ≤ 2 * r.dep := by
  induction r with
  | num n => exact Nat.zero_le _
  | var s => exact Nat.zero_le _
  | idx s e ih => rw [dE, RE.dep]; omega
  | un c e ih => rw [dE, RE.dep]; have := dBr_le (unBr c e) (dE e); omega
  | bin o a b iha ihb =>
    rw [dE, RE.dep]
    have h1 := dBr_le (a.lower lev (lev o)) (dE a)
    have h2 := dBr_le (b.lower lev (lev o + 1)) (dE b)
    omega
end Go.Proofs.YtdaklmbifkehpaaGreatDoor.Pm
