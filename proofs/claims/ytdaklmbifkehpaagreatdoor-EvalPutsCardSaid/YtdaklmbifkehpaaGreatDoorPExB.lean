/- Numbers as they are put, behind an operation, in brackets behind a sign: what the parser answers; the parts of a tree by what it is. No walk stands in this text. An expression with brackets more: what the parser answers. No walk stands in this text. What is put of a right expression is parsed as the same, however it is bracketed more: the walk of ParseExprBack. (Written by genexb.py.) -/
import Derived.Test.YtdaklmbifkehpaaGreatDoorPText
import Derived.Test.YtdaklmbifkehpaaGreatDoorTFeedS
import Derived.Test.YtdaklmbifkehpaaGreatDoorTLaid
import Derived.OpenShut
import Derived.Deep.AppendLies
import Derived.Stop.LaidErr
import Derived.ProofKit
import Derived.Defers
import Derived.Recover
import Derived.Lib.LaidU8
set_option linter.unusedSimpArgs false
set_option linter.unusedVariables false
namespace Go.Proofs.YtdaklmbifkehpaaGreatDoor.Pm
open Go Go.RowKit Go.Proofs.YtdaklmbifkehpaaGreatDoor
open Go.Lib (itoa)

theorem expr_words {l : List UInt8} {W : List Wd} {r : RE} {n : Nat} (h : Bds l.length 1 W n r) (hn : n ≤ 40) (hx : Lx l W) : Evn fun m => exprF m l = .ok r n := by
  obtain ⟨ts, e, hw⟩ := lx_toks hx
  obtain ⟨m0, h⟩ := h
  refine ⟨m0, fun m hm => ?_⟩
  have h1 := h m hm [] (fun x hx => by cases hx) (by decide) ⟨ts, 0, 0, 0⟩ (by rw [List.append_nil]; exact hw) (Nat.le_refl _) (by show 0 + n ≤ 40; omega)
  have hlen : ts.length = W.length := by rw [← hw]; simp [wds]
  have h2 := whole_ok (z := l.length) h1 (by show ts.drop _ = []; rw [← hlen]; simp)
  show answerF m expr l = _
  rw [answer_of e h2]
  show Ans.ok r (max 0 (0 + n)) = _
  congr 1
  omega
theorem bds_of (z : Nat) {r : RE} (h : r.wf = true) : Bds z 1 (tkE lev r) (dE r) r := expr_back z h
theorem bds_br {z : Nat} {W : List Wd} {n : Nat} {r : RE} (h : Bds z 1 W n r) : Bds z 1 (sgW [40] :: (W ++ [sgW [41]])) (1 + n) r := bound_op (ops_br h)
section
variable {n : Int} (h : -9223372036854775808 ≤ n ∧ n ≤ 9223372036854775807)
include h
end
end Go.Proofs.YtdaklmbifkehpaaGreatDoor.Pm

set_option linter.unusedSimpArgs false
set_option linter.unusedVariables false
namespace Go.Proofs.YtdaklmbifkehpaaGreatDoor.Pm
open Go Go.RowKit Go.Proofs.YtdaklmbifkehpaaGreatDoor
open Go.Lib (decDigits)

def brT : Nat → List UInt8 → List UInt8
  | 0, l => l
  | n + 1, l => 40 :: 32 :: (brT n l ++ [41])
def brW : Nat → List Wd → List Wd
  | 0, W => W
  | n + 1, W => sgW [40] :: (brW n W ++ [sgW [41]])
theorem brT_len (n : Nat) (l : List UInt8) : (brT n l).length = l.length + 3 * n := by
  induction n with
  | zero => rfl
  | succ n ih => simp [brT, ih]; omega
theorem br_bds {z : Nat} {W : List Wd} {k : Nat} {r : RE} (h : Bds z 1 W k r) : ∀ n, Bds z 1 (brW n W) (n + k) r
  | 0 => by rw [Nat.zero_add]; exact h
  | n + 1 => by
    have := bds_br (br_bds h n)
    rw [show n + 1 + k = 1 + (n + k) by omega]
    exact this
theorem br_lx {r : RE} (h : r.wf = true) : ∀ (n : Nat) (t : List UInt8) (ws : List Wd), NP t → Lx t ws → Lx (brT n (putR lev r) ++ t) (brW n (tkE lev r) ++ ws)
  | 0, t, ws, ht, hx => put_lx lev r h t ws ht hx
  | n + 1, t, ws, ht, hx => by
    have := br_lx h n (41 :: t) (sgW [41] :: ws) (NP.cons (by decide) _) (Lx.lone (by decide) hx)
    rw [brT, brW]
    simp only [List.cons_append, List.append_assoc, List.nil_append]
    exact Lx.lone (by decide) (Lx.sp (by decide) this)
theorem nm_func {s : List UInt8} (h : nameOk s = true) : s ≠ kFunc := fun e => by
  rw [e] at h
  revert h
  decide
theorem dec_func (u : Nat) : decDigits u ≠ kFunc := fun e => by
  have := dec_all u 102 (by rw [e]; decide)
  revert this
  decide
theorem e_head (r : RE) (h : r.wf = true) : ∃ x l, tkE lev r = x :: l ∧ x.2.1 ≠ kFunc := by
  induction r with
  | num n =>
    rw [tkE]
    unfold numW
    split
    · exact ⟨_, _, rfl, by decide⟩
    · exact ⟨_, _, rfl, dec_func _⟩
  | var s => exact ⟨_, _, rfl, nm_func h⟩
  | idx s e ih =>
    rw [RE.wf, Bool.and_eq_true] at h
    exact ⟨_, _, rfl, nm_func h.1⟩
  | un c e ih =>
    refine ⟨_, _, rfl, fun e => ?_⟩
    have h2 : (1 : Nat) = 4 := congrArg List.length e
    omega
  | bin o a b iha ihb =>
    rw [RE.wf, Bool.and_eq_true, Bool.and_eq_true] at h
    rw [tkE]
    unfold utk
    split
    · exact ⟨_, _, rfl, by decide⟩
    · obtain ⟨x, l, e, hx⟩ := iha h.1.2
      rw [e]
      exact ⟨x, _, rfl, hx⟩
theorem br_head (r : RE) (h : r.wf = true) (n : Nat) : ∀ x, (brW n (tkE lev r)).head? = some x → x.2.1 ≠ kFunc := by
  cases n with
  | zero =>
    obtain ⟨y, l, e, hy⟩ := e_head r h
    intro x hx
    rw [brW, e] at hx
    simp only [List.head?_cons, Option.some.injEq] at hx
    rw [← hx]
    exact hy
  | succ n =>
    intro x hx
    rw [brW] at hx
    simp only [List.head?_cons, Option.some.injEq] at hx
    rw [← hx]
    decide
theorem br_all {r : RE} (h : r.wf = true) (n : Nat) (hn : n + dE r ≤ 40) : Evn fun m => exprF m (brT n (putR lev r)) = .ok r (n + dE r) ∧ ∃ p, parseF m (brT n (putR lev r)) = .bad p 3 := by
  have hx : Lx (brT n (putR lev r)) (brW n (tkE lev r)) := by
    have := br_lx h n [] [] NP.nil Lx.nil
    simpa using this
  refine Evn.and (expr_words (br_bds (bds_of _ h) n) hn hx) ?_
  exact evn_all fun m => no_prog hx (br_head r h n) m
end Go.Proofs.YtdaklmbifkehpaaGreatDoor.Pm

set_option linter.unusedSimpArgs false
set_option linter.unusedVariables false
namespace Go.Proofs.YtdaklmbifkehpaaGreatDoor.Pm
open Go Go.RowKit Go.Proofs.YtdaklmbifkehpaaGreatDoor

theorem le5 {T : ET} (h : GE 5 T) : (putR levL T.re).length ≤ 1140 := h.len
structure ExF (w : World) (T : ET) (n : Nat) (m : Nat) (d : Nat) : Prop where
  e0 : exprF m (putR levL T.re) = .ok T.re (0 + d)
  e1 : exprF m (brT n (putR levL T.re)) = .ok T.re (n + d)
  p0 : ∃ p, parseF m (putR levL T.re) = .bad p 3
  p1 : ∃ p, parseF m (brT n (putR levL T.re)) = .bad p 3
  len : (putR levL T.re).length ≤ 1140 ∧ (brT n (putR levL T.re)).length ≤ 1200
theorem exf_of {w : World} {T : ET} {n A : Nat} (hg : GE 5 T) (hin : T.In w A) (hn : n < 20) : ∃ m, ExF w T n m (dE T.re) := by
  have hw := right_wf _ (Nat.le_refl _) hg.right hin
  have hd := dE_le T.re
  have hd2 := hg.dep
  obtain ⟨m, hm⟩ := (br_all hw 0 (by omega)).and (br_all hw n (by omega))
  obtain ⟨⟨a, b⟩, c, d⟩ := hm m (Nat.le_refl _)
  have hl := le5 hg
  refine ⟨m, a, c, b, d, hl, ?_⟩
  rw [brT_len]; omega
end Go.Proofs.YtdaklmbifkehpaaGreatDoor.Pm
namespace Go.Proofs.YtdaklmbifkehpaaGreatDoor
open Go Go.RowKit Go.Proofs.YtdaklmbifkehpaaGreatDoor.Pm
end Go.Proofs.YtdaklmbifkehpaaGreatDoor
