/- Numbers as they are put, behind an operation, in brackets behind a sign: what the parser answers; the parts of a tree by what it is. No walk stands in this text. -/
import Derived.Test.YtgkdoealhbhnmaaGreatDoorPText
set_option linter.unusedSimpArgs false
set_option linter.unusedVariables false
namespace Go.Proofs.YtgkdoealhbhnmaaGreatDoor.Pm
open Go Go.RowKit Go.Proofs.YtgkdoealhbhnmaaGreatDoor
open Go.Lib (itoa)

theorem expr_words {l : List UInt8} {W : List Wd} {r : RE} {n : Nat} (h : Bds l.length 1 W n r) (hn : n ≤ 40) (hx : Lx l W) : Evn fun m => exprF m l = .ok r n := by
  obtain ⟨ts, e, hw⟩ := lx_toks hx
  obtain ⟨m0, h⟩ := h
  refine ⟨m0, fun m hm => ?_⟩
  have h1 := h m hm [] (fun x hx => by cases hx) (by decide) ⟨ts, 0, 0, 0⟩ (by rw [List.append_nil]; exact hw) (Nat.le_refl _) (by show 0 + n ≤ 40; omega)
  have hlen : ts.length = W.length := by rw [← hw]; simp [wds]
  have h2 := whole_ok (z := l.length) h1 (by show ts.drop _ = []; rw [← hlen]; simp)
  show answerF m expr l = _
  rw [answer_of e h2]
  show Ans.ok r (max 0 (0 + n)) = _
  congr 1
  omega
theorem bds_of (z : Nat) {r : RE} (h : r.wf = true) : Bds z 1 (tkE lev r) (dE r) r := expr_back z h
theorem bds_br {z : Nat} {W : List Wd} {n : Nat} {r : RE} (h : Bds z 1 W n r) : Bds z 1 (sgW [40] :: (W ++ [sgW [41]])) (1 + n) r := bound_op (ops_br h)
section
variable {n : Int} (h : -9223372036854775808 ≤ n ∧ n ≤ 9223372036854775807)
include h
theorem num1 : Evn fun m => exprF m (itoa n) = .ok (.num n) 0 := by
  refine expr_words (W := tkE lev (.num n)) (n := dE (.num n)) (bds_of _ (by simp [RE.wf]; omega)) (Nat.zero_le _) ?_
  have := num_lx n h NP.nil Lx.nil
  simpa [tkE] using this
theorem num2 : Evn fun m => exprF m ([120, 32, 45, 32] ++ itoa n) = .ok (.bin [45] (.var [120]) (.num n)) 0 := by
  have hw : (RE.bin [45] (.var [120]) (.num n)).wf = true := by
    simp only [RE.wf, Bool.and_eq_true, decide_eq_true_eq]
    exact ⟨⟨by decide, by decide⟩, h⟩
  refine expr_words (W := tkE lev (.bin [45] (.var [120]) (.num n))) (n := dE (.bin [45] (.var [120]) (.num n))) (bds_of _ hw) (by show max 0 0 ≤ 40; decide) ?_
  have := put_lx lev _ hw [] [] NP.nil Lx.nil
  simp only [List.append_nil] at this
  exact this
theorem num3 : Evn fun m => exprF m (45 :: 40 :: (itoa n ++ [41])) = .ok (.un 45 (.num n)) 2 := by
  have hb : ∀ z, Bds z 1 (sgW [45] :: (sgW [40] :: (tkE lev (.num n) ++ [sgW [41]]))) 2 (.un 45 (.num n)) := fun z => by
    refine bound_op ?_
    obtain ⟨m0, hu⟩ := ops_br (bds_of z (r := .num n) (by simp [RE.wf]; omega))
    refine ⟨m0 + 1, fun m hm t ht => ?_⟩
    obtain ⟨m', rfl⟩ : ∃ m', m = m' + 1 := ⟨m - 1, by omega⟩
    exact un_back (by decide) (hu m' (by omega) t ht) fun _ x l e hx => by
      simp only [List.cons_append, List.cons.injEq] at e
      rw [← e.1] at hx
      cases hx
  refine expr_words (hb _) (by decide) ?_
  refine Lx.lone (by decide) (Lx.lone (by decide) ?_)
  have := num_lx n h (t := [41]) (ws := [sgW [41]]) (NP.cons (by decide) _) (Lx.lone (by decide) Lx.nil)
  simpa [tkE] using this
end
def C5 (w : World) (b o : Nat) (T : ET) : Prop := w.cell? ⟨b, o, none⟩ = some (.int .i64 T.kind) ∧ w.cell? ⟨b, o + 1, none⟩ = some (.string T.op) ∧ w.cell? ⟨b, o + 2, none⟩ = some (.int .i64 T.n) ∧ w.cell? ⟨b, o + 3, none⟩ = some (.string T.name) ∧ w.cell? ⟨b, o + 4, none⟩ = some (.slice T.kaddr T.kids.length T.kcap)
theorem c5_row {w : World} {B : Nat} {b o i : Nat} {T : ET} (h : RowAt w B (some ⟨b, o, none⟩) i 5 T.cells) : C5 w b (o + i * 5) T := by
  obtain ⟨b', o', e, -, hc⟩ := h
  simp only [Option.some.injEq, Addr.mk.injEq, and_true] at e
  obtain ⟨rfl, rfl⟩ := e
  rw [ET.cells_is] at hc
  exact ⟨hc 0 _ rfl, hc 1 _ rfl, hc 2 _ rfl, hc 3 _ rfl, hc 4 _ rfl⟩
theorem un_shape {V : ET} {w : World} {A : Nat} {c : UInt8} {r : RE} (h : V.re = .un c r) (hr : V.rightB = true) (hin : V.In w A) : ∃ b o K, V.kaddr = some ⟨b, o, none⟩ ∧ V.kids.length = 1 ∧ V.kind = 3 ∧ K.re = r ∧ K.rightB = true ∧ K.In w A ∧ C5 w b o K := by
  rcases right_cases hr with ⟨n', a, q, rfl⟩ | ⟨m, a, q, _, rfl⟩ | ⟨m, a, q, e, _, _, rfl⟩ | ⟨p, a, q, e, hu, he, rfl⟩ | ⟨p, a, q, e, f, _, _, _, rfl⟩
  · simp [ET.re] at h
  · simp [ET.re] at h
  · simp [ET.re] at h
  · simp [ET.re] at h
    rw [ET.In, EsIn] at hin
    obtain ⟨-, -, hrow, hK, -⟩ := hin
    obtain ⟨b, o, rfl, -, -⟩ := id hrow
    have := c5_row hrow
    rw [Nat.zero_mul, Nat.add_zero] at this
    exact ⟨b, o, e, rfl, rfl, rfl, h.2, he, hK, this⟩
  · simp [ET.re] at h
theorem bin_shape {V : ET} {w : World} {A : Nat} {c : List UInt8} {r q0 : RE} (h : V.re = .bin c q0 r) (hr : V.rightB = true) (hin : V.In w A) : ∃ b o K, V.kaddr = some ⟨b, o, none⟩ ∧ V.kids.length = 2 ∧ V.op.data.toList = c ∧ K.re = r ∧ K.rightB = true ∧ K.In w A ∧ C5 w b (o + 5) K := by
  rcases right_cases hr with ⟨n', a, q, rfl⟩ | ⟨m, a, q, _, rfl⟩ | ⟨m, a, q, e, _, _, rfl⟩ | ⟨p, a, q, e, hu, he, rfl⟩ | ⟨p, a, q, e, f, _, he, hf, rfl⟩
  · simp [ET.re] at h
  · simp [ET.re] at h
  · simp [ET.re] at h
  · simp [ET.re] at h
  · simp [ET.re] at h
    rw [ET.In, EsIn, EsIn] at hin
    obtain ⟨-, -, hrow, hK, hrow2, hK2, -⟩ := hin
    obtain ⟨b, o, rfl, -, -⟩ := id hrow
    have := c5_row hrow2
    exact ⟨b, o, f, rfl, rfl, h.1, h.2.2, hf, hK2, this⟩
end Go.Proofs.YtgkdoealhbhnmaaGreatDoor.Pm
