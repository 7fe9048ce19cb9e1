/- With three rounds of fuel for each word, and six more, the parser comes to an end. No walk stands in this text. What is put of an expression is parsed as the same: the words of an expression, whatever follows that no expression goes on with, are read as it. No walk stands in this text. What is put of a program is parsed as the same: the words of statements, of functions, of a program are read as they. No walk stands in this text. -/
import Derived.Test.YtgkdoealhbhnmaaGreatDoorPUps

set_option linter.unusedSimpArgs false
set_option linter.unusedVariables false
namespace Go.Proofs.YtgkdoealhbhnmaaGreatDoor.Pm
open Go

abbrev wd (t : Tok) : Wd := (t.kind, t.text, t.n)
abbrev wds (l : List Tok) : List Wd := l.map wd
theorem cur_wd {z : Nat} {s : PS} {x : Wd} {l : List Wd} (h : wds s.ws = x :: l) : (cur z s).kind = x.1 ∧ (cur z s).text = x.2.1 ∧ (cur z s).n = x.2.2 ∧ s.ws ≠ [] := by
  unfold cur
  cases e : s.ws with
  | nil => rw [e] at h; cases h
  | cons t r =>
    rw [e] at h
    simp only [wds, List.map_cons, List.cons.injEq] at h
    rw [← h.1]
    exact ⟨rfl, rfl, rfl, by simp⟩
theorem nxt_wd {z : Nat} {s : PS} {x y : Wd} {l : List Wd} (h : wds s.ws = x :: y :: l) : (nxt z s).kind = y.1 ∧ (nxt z s).text = y.2.1 ∧ (nxt z s).n = y.2.2 := by
  unfold nxt
  cases e : s.ws with
  | nil => rw [e] at h; cases h
  | cons t r =>
    cases e2 : r with
    | nil => rw [e, e2] at h; cases h
    | cons t2 r2 =>
      rw [e, e2] at h
      simp only [wds, List.map_cons, List.cons.injEq] at h
      rw [← h.2.1]
      exact ⟨rfl, rfl, rfl⟩
def adv (s : PS) (k n c : Nat) : PS := ⟨s.ws.drop k, s.sts + c, s.op, max s.mo (s.op + n)⟩
theorem ps_ext {a b : PS} (h1 : a.ws = b.ws) (h2 : a.sts = b.sts) (h3 : a.op = b.op) (h4 : a.mo = b.mo) : a = b := by
  cases a; cases b; simp_all
theorem adv_adv (s : PS) (k n c k' n' c' : Nat) : adv (adv s k n c) k' n' c' = adv s (k + k') (max n n') (c + c') := by
  unfold adv
  simp only [List.drop_drop, PS.mk.injEq, true_and]
  exact ⟨by omega, by omega⟩
theorem adv_le {s : PS} (h : s.op ≤ s.mo) (k n c : Nat) : (adv s k n c).op ≤ (adv s k n c).mo := by show s.op ≤ max _ _; omega
theorem adv_wd {s : PS} {l t : List Wd} (h : wds s.ws = l ++ t) (n c : Nat) : wds (adv s l.length n c).ws = t := by
  show wds (s.ws.drop l.length) = t
  rw [wds, List.map_drop]
  show (wds s.ws).drop _ = t
  rw [h, List.drop_left']
  rfl
theorem skip_adv {s : PS} (h : s.op ≤ s.mo) : skip s = adv s 1 0 0 := by
  cases s
  simp only [skip, adv, PS.mk.injEq, Nat.add_zero, List.drop_one, true_and]
  exact (Nat.max_eq_left h).symm
def Rds {α : Type} (f : PS → PR α) (l t : List Wd) (n : Nat) (a : α) : Prop := ∀ s, wds s.ws = l ++ t → s.op ≤ s.mo → s.op + n ≤ 40 → f s = .ok a (adv s l.length n 0)
theorem rds_open {z : Nat} {l : List UInt8} (hl : opens l = true) (t : List Wd) (s : PS) (h : wds s.ws = sgW l :: t) (h40 : s.op + 1 ≤ 40) : take z l s = .ok () ⟨s.ws.tail, s.sts, s.op + 1, max s.mo (s.op + 1)⟩ := by
  obtain ⟨-, h2, -, -⟩ := cur_wd (z := z) h
  have e1 : (cur z s).text = l := h2
  unfold take at'
  rw [if_pos (by rw [e1]; simp)]
  unfold pass
  rw [if_pos (by rw [e1]; exact hl)]
  unfold enter
  rw [if_neg (by omega)]
  rfl
theorem rds_shut {z : Nat} {l : List UInt8} (ho : opens l = false) (hl : shuts l = true) (t : List Wd) (s : PS) (h : wds s.ws = sgW l :: t) : take z l s = .ok () ⟨s.ws.tail, s.sts, s.op - 1, s.mo⟩ := by
  obtain ⟨-, h2, -, -⟩ := cur_wd (z := z) h
  have e1 : (cur z s).text = l := h2
  unfold take at'
  rw [if_pos (by rw [e1]; simp)]
  unfold pass
  rw [if_neg (by rw [e1, ho]; simp), if_pos (by rw [e1]; exact hl)]
  rfl
theorem rds_flat {z : Nat} {x : Wd} (ho : opens x.2.1 = false) (hl : shuts x.2.1 = false) (t : List Wd) (s : PS) (h : wds s.ws = x :: t) : take z x.2.1 s = .ok () (skip s) := by
  obtain ⟨-, e1, -, -⟩ := cur_wd (z := z) h
  unfold take at'
  rw [if_pos (by rw [e1]; simp)]
  unfold pass
  rw [if_neg (by rw [e1, ho]; simp), if_neg (by rw [e1, hl]; simp)]
  rfl
theorem wds_tail {s : PS} {x : Wd} {t : List Wd} (h : wds s.ws = x :: t) : wds s.ws.tail = t := by
  cases e : s.ws with
  | nil => rw [e] at h; cases h
  | cons a r => rw [e] at h; simp only [wds, List.map_cons, List.cons.injEq] at h; exact h.2
theorem rds_within {α : Type} {z : Nat} {o c : List UInt8} (ho : opens o = true) (hc : opens c = false) (hs : shuts c = true) {f : PS → PR α} {l t : List Wd} {n : Nat} {a : α} (hf : Rds f l (sgW c :: t) n a) : Rds (within z o f c) (sgW o :: (l ++ [sgW c])) t (1 + n) a := by
  intro s h hm h40
  have h' : wds s.ws = sgW o :: (l ++ sgW c :: t) := by rw [h]; simp
  unfold within
  rw [rds_open ho _ s h' (by omega)]
  show (f _).bind _ = _
  rw [hf _ (wds_tail h') (by show s.op + 1 ≤ max _ _; omega) (by show s.op + 1 + n ≤ 40; omega)]
  show (take z c _).bind _ = _
  rw [rds_shut hc hs t _ (adv_wd (wds_tail h') n 0)]
  show PR.ok a _ = .ok a _
  congr 1
  refine ps_ext ?_ rfl (by show s.op + 1 - 1 = s.op; omega) (by show max (max s.mo (s.op + 1)) (s.op + 1 + n) = max s.mo (s.op + (1 + n)); omega)
  show ((s.ws.tail).drop l.length).tail = s.ws.drop _
  rw [← List.drop_one, List.drop_drop, ← List.drop_one, List.drop_drop]
  congr 1
  simp
  omega
def dBr (b : Bool) (n : Nat) : Nat := if b then 1 + n else n
def dE : RE → Nat
  | .num _ => 0
  | .var _ => 0
  | .idx _ e => 1 + dE e
  | .un c e => 1 + dBr (unBr c e) (dE e)
  | .bin o a b => max (dBr (a.lower lev (lev o)) (dE a)) (dBr (b.lower lev (lev o + 1)) (dE b))
def spE : RE → Nat
  | .bin o a _ => (if a.lower lev (lev o) then 0 else spE a) + 1
  | _ => 0
def hlev (t : List Wd) : Int := lev ((t.head?.map fun x => x.2.1).getD [])
theorem hlev_cur {z : Nat} {s : PS} {t : List Wd} (h : wds s.ws = t) : lev (cur z s).text = hlev t := by
  unfold hlev cur
  cases e : s.ws with
  | nil => rw [e] at h; subst h; rfl
  | cons a r => rw [e] at h; subst h; rfl
def noIdx (t : List Wd) : Prop := ∀ x, t.head? = some x → x.2.1 ≠ [91]
theorem noIdx_at {z : Nat} {s : PS} {t : List Wd} (h : wds s.ws = t) (hn : noIdx t) : at' z [91] s = false := by
  unfold at' cur
  cases e : s.ws with
  | nil => rfl
  | cons a r =>
    rw [e] at h
    subst h
    have := hn (wd a) rfl
    simpa using this
theorem num_back {z m : Nat} (n : Int) (h : (-9223372036854775808 ≤ n ∧ n ≤ 9223372036854775807)) (t : List Wd) : Rds (operand z (m + 1)) (numW n) t 0 (.num n) := by
  intro s hw hm _
  rw [operand]
  unfold numW at hw ⊢
  by_cases h0 : n < 0
  · rw [if_pos h0] at hw ⊢
    simp only [List.cons_append, List.nil_append] at hw
    obtain ⟨c1, c2, c3, c4⟩ := cur_wd (z := z) hw
    obtain ⟨n1, n2, n3⟩ := nxt_wd (z := z) hw
    simp only at c1 c2 c3 n1 n2 n3
    rw [if_neg (by rw [c1]; decide), if_neg (by rw [c1]; decide), if_pos (by unfold at'; rw [c2, n1]; decide)]
    unfold negative
    rw [n3]
    have e1 : -((n.natAbs : Nat) : Int) = n := by omega
    rw [e1, skip_adv hm, skip_adv (adv_le hm _ _ _), adv_adv]
    rfl
  · rw [if_neg h0] at hw ⊢
    simp only [List.cons_append, List.nil_append] at hw
    obtain ⟨c1, c2, c3, c4⟩ := cur_wd (z := z) hw
    simp only at c1 c2 c3
    rw [if_pos (by rw [c1]; decide)]
    unfold number
    rw [c3, if_pos (by omega)]
    have e1 : ((n.toNat : Nat) : Int) = n := by omega
    rw [e1, skip_adv hm]
    rfl
theorem var_back {z m : Nat} (x : List UInt8) {t : List Wd} (ht : noIdx t) : Rds (operand z (m + 1)) [nmW x] t 0 (.var x) := by
  intro s hw hm _
  rw [operand]
  simp only [List.cons_append, List.nil_append] at hw
  obtain ⟨c1, c2, c3, c4⟩ := cur_wd (z := z) hw
  simp only at c1 c2 c3
  rw [if_neg (by rw [c1]; decide), if_pos (by rw [c1]; decide)]
  unfold named name
  rw [if_pos (by rw [c1]; decide)]
  show (if at' z [91] (skip s) = true then _ else _) = _
  rw [if_neg (by rw [noIdx_at (s := skip s) (wds_tail hw) ht]; decide), c2, skip_adv hm]
  rfl
theorem idx_back {z m : Nat} (x : List UInt8) {l t : List Wd} {n : Nat} {e : RE} (hf : Rds (bound z m 1) l (sgW [93] :: t) n e) : Rds (operand z (m + 1)) (nmW x :: sgW [91] :: (l ++ [sgW [93]])) t (1 + n) (.idx x e) := by
  intro s hw hm h40
  rw [operand]
  rw [List.cons_append] at hw
  obtain ⟨c1, c2, c3, c4⟩ := cur_wd (z := z) hw
  simp only at c1 c2 c3
  rw [if_neg (by rw [c1]; decide), if_pos (by rw [c1]; decide)]
  unfold named name
  rw [if_pos (by rw [c1]; decide)]
  have hw1 : wds (skip s).ws = sgW [91] :: (l ++ [sgW [93]]) ++ t := wds_tail hw
  show (if at' z [91] (skip s) = true then _ else _) = _
  rw [if_pos (by unfold at'; rw [(cur_wd (z := z) hw1).2.1]; decide), rds_within (o := [91]) (c := [93]) rfl rfl rfl hf (skip s) hw1 (by rw [skip_adv hm]; exact adv_le hm _ _ _) h40]
  show PR.ok _ _ = _
  rw [c2, skip_adv hm, adv_adv]
  simp only [List.length_cons, List.length_append, List.length_nil, Nat.zero_max]
  congr 2
  omega
theorem un_back {z m : Nat} {c : UInt8} (hc : (c == 45 || c == 126 || c == 33) = true) {l t : List Wd} {n : Nat} {e : RE} (hf : Rds (operand z m) l t n e) (hn : c = 45 → ∀ x r, l ++ t = x :: r → x.1 ≠ 2) : Rds (operand z (m + 1)) (sgW [c] :: l) t (1 + n) (.un c e) := by
  intro s hw hm h40
  rw [operand]
  rw [List.cons_append] at hw
  obtain ⟨c1, c2, c3, c4⟩ := cur_wd (z := z) hw
  simp only at c1 c2 c3
  have h1 : at' z [45] s = (c == 45) := by unfold at'; rw [c2]; simp
  have h2 : c = 45 → (nxt z s).kind ≠ 2 := fun hc45 => by
    cases e2 : l ++ t with
    | nil =>
      unfold nxt
      have : s.ws.tail = [] := List.map_eq_nil_iff.1 ((wds_tail hw).trans e2)
      rw [this]
      show (0 : Nat) ≠ 2
      decide
    | cons x r => rw [e2] at hw; rw [(nxt_wd (z := z) hw).1]; exact hn hc45 x r e2
  have hun : isUn [c] = true := by
    unfold isUn
    simp only [Bool.or_eq_true, beq_iff_eq] at hc ⊢
    rcases hc with (rfl | rfl) | rfl <;> simp
  have h40' : at' z [40] s = false := by
    unfold at'; rw [c2]
    simp only [Bool.or_eq_true, beq_iff_eq] at hc
    rcases hc with (rfl | rfl) | rfl <;> rfl
  rw [if_neg (by rw [c1]; decide), if_neg (by rw [c1]; decide), if_neg (by
    rw [h1]
    simp only [Bool.and_eq_true, beq_iff_eq]
    exact fun hh => h2 hh.1 (by simpa using hh.2)), if_neg (by rw [h40']; decide)]
  unfold unary
  rw [if_pos (by rw [c2]; exact hun)]
  unfold enter
  rw [if_neg (by omega)]
  have hs : skip { s with op := s.op + 1, mo := max s.mo (s.op + 1) } = ⟨s.ws.tail, s.sts, s.op + 1, max s.mo (s.op + 1)⟩ := rfl
  show (operand z m (skip { s with op := s.op + 1, mo := max s.mo (s.op + 1) })).bind _ = _
  rw [hs]
  rw [hf ⟨s.ws.tail, s.sts, s.op + 1, max s.mo (s.op + 1)⟩ (wds_tail hw) (by show s.op + 1 ≤ max _ _; omega) (by show s.op + 1 + n ≤ 40; omega)]
  show PR.ok _ _ = _
  rw [c2]
  show PR.ok (RE.un c e) _ = _
  congr 1
  refine ps_ext ?_ rfl (by show s.op + 1 - 1 = s.op; omega) (by show max (max s.mo (s.op + 1)) (s.op + 1 + n) = max s.mo (s.op + (1 + n)); omega)
  show (s.ws.tail).drop l.length = s.ws.drop _
  rw [← List.drop_one, List.drop_drop]
  congr 1
  simp
  omega
theorem br_back {z m : Nat} {l t : List Wd} {n : Nat} {e : RE} (hf : Rds (bound z m 1) l (sgW [41] :: t) n e) : Rds (operand z (m + 1)) (sgW [40] :: (l ++ [sgW [41]])) t (1 + n) e := by
  intro s hw hm h40
  rw [operand]
  have hw' := hw
  rw [List.cons_append] at hw
  obtain ⟨c1, c2, c3, c4⟩ := cur_wd (z := z) hw
  simp only at c1 c2 c3
  rw [if_neg (by rw [c1]; decide), if_neg (by rw [c1]; decide), if_neg (by unfold at'; rw [c2]; simp), if_pos (by unfold at'; rw [c2]; decide)]
  exact rds_within (o := [40]) (c := [41]) rfl rfl rfl hf s hw' hm h40
theorem tail_end {z m : Nat} {k : Int} {x : RE} {s : PS} {t : List Wd} (h : wds s.ws = t) (hl : hlev t < k) : tail z (m + 1) k x s = .ok x s := by
  rw [tail, if_neg (by rw [hlev_cur h]; omega)]
def Ops (z : Nat) (l : List Wd) (n : Nat) (e : RE) : Prop := ∃ m0, ∀ m, m0 ≤ m → ∀ t, noIdx t → Rds (operand z m) l t n e
def Bds (z : Nat) (k : Int) (l : List Wd) (n : Nat) (e : RE) : Prop := ∃ m0, ∀ m, m0 ≤ m → ∀ t, noIdx t → hlev t < k → Rds (bound z m k) l t n e
def Lefts (z : Nat) (r : RE) (k : Int) : Prop := ∃ m0, ∀ m, m0 ≤ m → ∀ t, noIdx t → (∀ x ∈ (flat lev r).2, hlev t ≤ lev x.1) → ∀ s, wds s.ws = tkE lev r ++ t → s.op ≤ s.mo → s.op + dE r ≤ 40 →
  (operand z (m + spE r) s).bind (fun x s1 => tail z (m + spE r) k x s1) = tail z m k r (adv s (tkE lev r).length (dE r) 0)
theorem lefts_of {z : Nat} {r : RE} (hs : spE r = 0) (h : Ops z (tkE lev r) (dE r) r) (k : Int) : Lefts z r k := by
  obtain ⟨m0, h⟩ := h
  refine ⟨m0, fun m hm t hn _ s hw h1 h2 => ?_⟩
  rw [hs, Nat.add_zero, h m hm t hn s hw h1 h2]
  rfl
theorem bound_of {z : Nat} {r : RE} {k : Int} (hl : Lefts z r k) (hk : ∀ x ∈ (flat lev r).2, k ≤ lev x.1) : Bds z k (tkE lev r) (dE r) r := by
  obtain ⟨m0, h⟩ := hl
  refine ⟨m0 + 1 + spE r + 1, fun m hm t hn ht s hw h1 h2 => ?_⟩
  obtain ⟨m', rfl⟩ : ∃ m', m = m' + 1 + spE r + 1 := ⟨m - 1 - spE r - 1, by omega⟩
  rw [bound]
  have := h (m' + 1) (by omega) t hn (fun x hx => by have := hk x hx; omega) s hw h1 h2
  rw [this]
  exact tail_end (adv_wd hw _ _) ht
theorem bound_op {z : Nat} {k : Int} {l : List Wd} {n : Nat} {e : RE} (h : Ops z l n e) : Bds z k l n e := by
  obtain ⟨m0, h⟩ := h
  refine ⟨m0 + 2, fun m hm t hn ht s hw h1 h2 => ?_⟩
  obtain ⟨m', rfl⟩ : ∃ m', m = m' + 1 + 1 := ⟨m - 2, by omega⟩
  rw [bound, h (m' + 1) (by omega) t hn s hw h1 h2]
  exact tail_end (adv_wd hw _ _) ht
theorem hlev_sg (l : List UInt8) (t : List Wd) : hlev (sgW l :: t) = lev l := rfl
theorem lev_41 : lev [41] = 0 := by decide
theorem lev_93 : lev [93] = 0 := by decide
theorem op_lev {o : List UInt8} (h : ops18.contains o = true) : 1 ≤ lev o := by
  have : ∀ o ∈ ops18, 1 ≤ lev o := by decide
  exact this o (by simpa using h)
theorem op_not91 {o : List UInt8} (h : ops18.contains o = true) : o ≠ [91] ∧ opens o = false ∧ shuts o = false := by
  have : ∀ o ∈ ops18, o ≠ [91] ∧ opens o = false ∧ shuts o = false := by decide
  exact this o (by simpa using h)
theorem noIdx_sg {l : List UInt8} (h : l ≠ [91]) (t : List Wd) : noIdx (sgW l :: t) := fun x hx => by
  simp only [List.head?_cons, Option.some.injEq] at hx
  subst hx
  exact h
theorem first_num (r : RE) (h : r.wf = true) (hb : r.isBin = false) (t : List Wd) (x : Wd) (l : List Wd) (e : tkE lev r ++ t = x :: l) (hx : x.1 = 2) : r.pos = true := by
  cases r with
  | num n =>
    unfold tkE numW at e
    split at e
    · simp only [List.cons_append, List.cons.injEq] at e
      rw [← e.1] at hx; cases hx
    · simp [RE.pos]; omega
  | var s => unfold tkE at e; simp only [List.cons_append, List.cons.injEq] at e; rw [← e.1] at hx; cases hx
  | idx s a => unfold tkE at e; simp only [List.cons_append, List.cons.injEq] at e; rw [← e.1] at hx; cases hx
  | un c a => unfold tkE at e; simp only [List.cons_append, List.cons.injEq] at e; rw [← e.1] at hx; cases hx
  | bin o a b => cases hb
theorem ops_br {z : Nat} {l : List Wd} {n : Nat} {e : RE} (h : Bds z 1 l n e) : Ops z (sgW [40] :: (l ++ [sgW [41]])) (1 + n) e := by
  obtain ⟨m0, h⟩ := h
  refine ⟨m0 + 1, fun m hm t hn => ?_⟩
  obtain ⟨m', rfl⟩ : ∃ m', m = m' + 1 := ⟨m - 1, by omega⟩
  exact br_back (h m' (by omega) _ (noIdx_sg (by decide) _) (by rw [hlev_sg, lev_41]; decide))
theorem bin_step {z : Nat} {k : Int} {la lb : List Wd} {na nb sa : Nat} {o : List UInt8} {a b : RE}
    (hl : ∃ m0, ∀ m, m0 ≤ m → ∀ t s, wds s.ws = la ++ sgW o :: (lb ++ t) → s.op ≤ s.mo → s.op + na ≤ 40 → (operand z (m + sa) s).bind (fun x s1 => tail z (m + sa) k x s1) = tail z m k a (adv s la.length na 0))
    (hr : Bds z (lev o + 1) lb nb b) (hk : k ≤ lev o) :
    ∃ m0, ∀ m, m0 ≤ m → ∀ t, noIdx t → hlev t ≤ lev o → ∀ s, wds s.ws = (la ++ sgW o :: lb) ++ t → s.op ≤ s.mo → s.op + max na nb ≤ 40 → (operand z (m + (sa + 1)) s).bind (fun x s1 => tail z (m + (sa + 1)) k x s1) = tail z m k (.bin o a b) (adv s (la ++ sgW o :: lb).length (max na nb) 0) := by
  obtain ⟨m1, hl⟩ := hl
  obtain ⟨m2, hr⟩ := hr
  refine ⟨m1 + m2, fun m hm t hn ht s hw h1 h2 => ?_⟩
  have hw' : wds s.ws = la ++ sgW o :: (lb ++ t) := by rw [hw]; simp
  have e1 : m + (sa + 1) = m + 1 + sa := by omega
  rw [e1, hl (m + 1) (by omega) t s hw' h1 (by omega)]
  have hw1 := adv_wd hw' na 0
  rw [tail, if_pos (by rw [hlev_cur hw1]; exact hk), (cur_wd (z := z) hw1).2.1]
  have hs := skip_adv (adv_le h1 la.length na 0)
  rw [hs, adv_adv]
  have hw2 : wds (adv s (la.length + 1) (max na 0) (0 + 0)).ws = lb ++ t := by
    have := wds_tail hw1
    rw [show (adv s la.length na 0).ws.tail = (adv s (la.length + 1) (max na 0) (0 + 0)).ws by unfold adv; rw [← List.drop_one, List.drop_drop]] at this
    exact this
  rw [hr m (by omega) t hn (by omega) _ hw2 (adv_le h1 _ _ _) (by show s.op + nb ≤ 40; omega)]
  show tail z m k (.bin o a b) _ = _
  rw [adv_adv]
  congr 2
  · simp; omega
  · omega
theorem lower_out {r : RE} {o : Int} (h : r.lower lev o = false) : ∀ x ∈ (flat lev r).2, o ≤ lev x.1 := flat_lev lev r o h
theorem one_out {r : RE} (h : r.wf = true) : ∀ x ∈ (flat lev r).2, 1 ≤ lev x.1 := fun x hx => op_lev ((flat_wf lev r h).2 x hx).1
theorem back_all (z : Nat) : ∀ (r : RE), r.wf = true → (r.isBin = false → Ops z (tkE lev r) (dE r) r) ∧ (∀ (k : Int), 1 ≤ k → (∀ x ∈ (flat lev r).2, k ≤ lev x.1) → Lefts z r k) := by
  intro r
  induction r with
  | num n =>
    intro h
    simp only [RE.wf, Bool.and_eq_true, decide_eq_true_eq] at h
    have key : Ops z (tkE lev (.num n)) (dE (.num n)) (.num n) := ⟨1, fun m hm t _ => by
      obtain ⟨m', rfl⟩ : ∃ m', m = m' + 1 := ⟨m - 1, by omega⟩
      exact num_back n h t⟩
    exact ⟨fun _ => key, fun k _ _ => lefts_of rfl key k⟩
  | var x =>
    intro h
    have key : Ops z (tkE lev (.var x)) (dE (.var x)) (.var x) := ⟨1, fun m hm t ht => by
      obtain ⟨m', rfl⟩ : ∃ m', m = m' + 1 := ⟨m - 1, by omega⟩
      exact var_back x ht⟩
    exact ⟨fun _ => key, fun k _ _ => lefts_of rfl key k⟩
  | idx x e ih =>
    intro h
    simp only [RE.wf, Bool.and_eq_true] at h
    have key : Ops z (tkE lev (.idx x e)) (dE (.idx x e)) (.idx x e) := by
      obtain ⟨m0, hb⟩ := bound_of ((ih h.2).2 1 (by decide) (one_out h.2)) (one_out h.2)
      refine ⟨m0 + 1, fun m hm t ht => ?_⟩
      obtain ⟨m', rfl⟩ : ∃ m', m = m' + 1 := ⟨m - 1, by omega⟩
      exact idx_back x (hb m' (by omega) _ (noIdx_sg (by decide) _) (by rw [hlev_sg, lev_93]; decide))
    exact ⟨fun _ => key, fun k _ _ => lefts_of rfl key k⟩
  | un c e ih =>
    intro h
    simp only [RE.wf, Bool.and_eq_true] at h
    have hu : Ops z (utk (unBr c e) (tkE lev e)) (dBr (unBr c e) (dE e)) e := by
      cases hb : unBr c e with
      | true => exact ops_br (bound_of ((ih h.2).2 1 (by decide) (one_out h.2)) (one_out h.2))
      | false =>
        unfold unBr at hb
        simp only [Bool.or_eq_false_iff] at hb
        exact (ih h.2).1 hb.1
    have key : Ops z (tkE lev (.un c e)) (dE (.un c e)) (.un c e) := by
      obtain ⟨m0, hu⟩ := hu
      refine ⟨m0 + 1, fun m hm t ht => ?_⟩
      obtain ⟨m', rfl⟩ : ∃ m', m = m' + 1 := ⟨m - 1, by omega⟩
      refine un_back h.1 (hu m' (by omega) t ht) fun hc x l e1 hx => ?_
      cases hb : unBr c e with
      | true =>
        rw [hb] at e1
        simp only [utk, if_true, List.cons_append, List.cons.injEq] at e1
        rw [← e1.1] at hx
        cases hx
      | false =>
        rw [hb] at e1
        unfold unBr at hb
        simp only [Bool.or_eq_false_iff, Bool.and_eq_false_iff] at hb
        have hp := first_num e h.2 hb.1 t x l e1 hx
        rcases hb.2 with h1 | h1
        · rw [hc] at h1; cases h1
        · rw [hp] at h1; cases h1
    exact ⟨fun _ => key, fun k _ _ => lefts_of rfl key k⟩
  | bin o a b iha ihb =>
    intro h
    simp only [RE.wf, Bool.and_eq_true] at h
    obtain ⟨⟨ho, hwa⟩, hwb⟩ := h
    refine ⟨(fun hb => by cases hb), fun k hk1 hk => ?_⟩
    rw [flat_bin] at hk
    have hko : k ≤ lev o := hk (o, _) (List.mem_append_right _ List.mem_cons_self)
    have hR : Bds z (lev o + 1) (utk (b.lower lev (lev o + 1)) (tkE lev b)) (dBr (b.lower lev (lev o + 1)) (dE b)) b := by
      cases hc : b.lower lev (lev o + 1) with
      | true => exact bound_op (ops_br (bound_of ((ihb hwb).2 1 (by decide) (one_out hwb)) (one_out hwb)))
      | false => exact bound_of ((ihb hwb).2 (lev o + 1) (by have := op_lev ho; omega) (lower_out hc)) (lower_out hc)
    have hno : ∀ t, noIdx (sgW o :: (utk (b.lower lev (lev o + 1)) (tkE lev b) ++ t)) := fun t => noIdx_sg (op_not91 ho).1 _
    have hL : ∃ m0, ∀ m, m0 ≤ m → ∀ t s, wds s.ws = utk (a.lower lev (lev o)) (tkE lev a) ++ sgW o :: (utk (b.lower lev (lev o + 1)) (tkE lev b) ++ t) → s.op ≤ s.mo → s.op + dBr (a.lower lev (lev o)) (dE a) ≤ 40 → (operand z (m + (if a.lower lev (lev o) then 0 else spE a)) s).bind (fun x s1 => tail z (m + (if a.lower lev (lev o) then 0 else spE a)) k x s1) = tail z m k a (adv s (utk (a.lower lev (lev o)) (tkE lev a)).length (dBr (a.lower lev (lev o)) (dE a)) 0) := by
      cases hc : a.lower lev (lev o) with
      | true =>
        obtain ⟨m0, hu⟩ := ops_br (bound_of ((iha hwa).2 1 (by decide) (one_out hwa)) (one_out hwa))
        refine ⟨m0, fun m hm t s hw h1 h2 => ?_⟩
        simp only [if_true, Nat.add_zero]
        rw [hu m hm _ (hno t) s hw h1 h2]
        rfl
      | false =>
        rw [hc] at hk
        obtain ⟨m0, h0⟩ := (iha hwa).2 k hk1 (fun x hx => hk x (List.mem_append_left _ hx))
        exact ⟨m0, fun m hm t s hw h1 h2 => h0 m hm _ (hno t) (fun x hx => by rw [hlev_sg]; exact lower_out hc x hx) s hw h1 h2⟩
    obtain ⟨m0, h⟩ := bin_step hL hR hko
    refine ⟨m0, fun m hm t hn ht s hw h1 h2 => ?_⟩
    rw [flat_bin] at ht
    have := h m hm t hn (ht (o, _) (List.mem_append_right _ List.mem_cons_self)) s (by rw [hw]; rw [tkE]) h1 h2
    rw [show spE (.bin o a b) = (if a.lower lev (lev o) then 0 else spE a) + 1 from rfl, this]
    rfl
theorem expr_back (z : Nat) {r : RE} (h : r.wf = true) : ∃ m0, ∀ m, m0 ≤ m → ∀ t, noIdx t → hlev t < 1 → Rds (expr z m) (tkE lev r) t (dE r) r :=
  bound_of ((back_all z r h).2 1 (by decide) (one_out h)) (one_out h)
end Go.Proofs.YtgkdoealhbhnmaaGreatDoor.Pm

set_option linter.unusedSimpArgs false
set_option linter.unusedVariables false
namespace Go.Proofs.YtgkdoealhbhnmaaGreatDoor.Pm
open Go

def Rdc {α : Type} (f : PS → PR α) (l t : List Wd) (n c : Nat) (a : α) : Prop := ∀ s, wds s.ws = l ++ t → s.op ≤ s.mo → s.op + n ≤ 40 → s.sts + c ≤ 400 → f s = .ok a (adv s l.length n c)
section
variable {α β : Type} {f : PS → PR α} {l t : List Wd} {n c : Nat} {a : α}
theorem Rds.cc (h : Rds f l t n a) : Rdc f l t n 0 a := fun s h1 h2 h3 _ => h s h1 h2 h3
theorem Rdc.cast (h : Rdc f l t n c a) {l' : List Wd} {n' c' : Nat} (h1 : l' = l) (h2 : n' = n) (h3 : c' = c) : Rdc f l' t n' c' a := by subst h1; subst h2; subst h3; exact h
theorem adv_zero {s : PS} (h : s.op ≤ s.mo) : adv s 0 0 0 = s := by
  unfold adv
  cases s
  simp only [List.drop_zero, Nat.add_zero, PS.mk.injEq, true_and]
  exact Nat.max_eq_left h
theorem rdc_pure (t : List Wd) (a : α) : Rdc (fun s => .ok a s) [] t 0 0 a := fun s _ h _ _ => by
  show PR.ok a s = .ok a (adv s 0 0 0)
  rw [adv_zero h]
theorem rdc_bind {g : α → PS → PR β} {l2 : List Wd} {n2 c2 : Nat} {b : β} (h : Rdc f l (l2 ++ t) n c a) (hg : Rdc (g a) l2 t n2 c2 b) : Rdc (fun s => (f s).bind g) (l ++ l2) t (max n n2) (c + c2) b := fun s h1 h2 h3 h4 => by
  have h1' : wds s.ws = l ++ (l2 ++ t) := by rw [h1]; simp
  show (f s).bind g = _
  rw [h s h1' h2 (by omega) (by omega)]
  show g a _ = _
  rw [hg _ (adv_wd h1' n c) (adv_le h2 _ _ _) (by show s.op + n2 ≤ 40; omega) (by show s.sts + c + c2 ≤ 400; omega), adv_adv, List.length_append]
theorem rdc_yes {p : PS → Bool} {g : PS → PR α} (hp : ∀ s, wds s.ws = l ++ t → p s = true) (h : Rdc f l t n c a) : Rdc (fun s => if p s = true then f s else g s) l t n c a := fun s h1 h2 h3 h4 => by
  show (if p s = true then f s else g s) = _
  rw [if_pos (hp s h1)]; exact h s h1 h2 h3 h4
theorem rdc_no {p : PS → Bool} {g : PS → PR α} (hp : ∀ s, wds s.ws = l ++ t → p s = false) (h : Rdc f l t n c a) : Rdc (fun s => if p s = true then g s else f s) l t n c a := fun s h1 h2 h3 h4 => by
  show (if p s = true then g s else f s) = _
  rw [if_neg (by rw [hp s h1]; decide)]; exact h s h1 h2 h3 h4
theorem at_wd {z : Nat} {u : List UInt8} {s : PS} {x : Wd} {r : List Wd} (h : wds s.ws = x :: r) : at' z u s = (x.2.1 == u) := by
  unfold at'; rw [(cur_wd (z := z) h).2.1]
theorem at_nil {z : Nat} {u : List UInt8} {s : PS} (h : wds s.ws = []) (hu : u ≠ []) : at' z u s = false := by
  unfold at' cur
  cases e : s.ws with
  | nil => simpa using fun h => hu h
  | cons a r => rw [e] at h; cases h
theorem hd_yes {z : Nat} {u : List UInt8} {x : Wd} {r : List Wd} (e : l ++ t = x :: r) (hx : x.2.1 = u) : ∀ s, wds s.ws = l ++ t → at' z u s = true := fun s h => by
  rw [e] at h; rw [at_wd h, hx]; simp
theorem hd_no {z : Nat} {u : List UInt8} (hu : u ≠ []) (hx : ∀ x, (l ++ t).head? = some x → x.2.1 ≠ u) : ∀ s, wds s.ws = l ++ t → at' z u s = false := fun s h => by
  cases e : l ++ t with
  | nil => rw [e] at h; exact at_nil h hu
  | cons x r =>
    rw [e] at h hx
    rw [at_wd h]
    simpa using hx x rfl
theorem rdc_flat (z : Nat) (x : Wd) (ho : opens x.2.1 = false) (hs : shuts x.2.1 = false) (t : List Wd) : Rdc (take z x.2.1) [x] t 0 0 () := fun s h1 h2 _ _ => by
  rw [rds_flat ho hs t s h1, skip_adv h2]
  rfl
theorem rdc_name (z : Nat) (x : List UInt8) (t : List Wd) : Rdc (name z) [nmW x] t 0 0 x := fun s h1 h2 _ _ => by
  obtain ⟨c1, c2, c3, c4⟩ := cur_wd (z := z) (s := s) h1
  unfold name
  rw [if_pos (by rw [c1]; rfl), c2, skip_adv h2]
  rfl
theorem rdc_within {z : Nat} {o k : List UInt8} (ho : opens o = true) (hc : opens k = false) (hs : shuts k = true) (hf : Rdc f l (sgW k :: t) n c a) : Rdc (within z o f k) (sgW o :: (l ++ [sgW k])) t (1 + n) c a := by
  intro s h hm h40 h400
  have h' : wds s.ws = sgW o :: (l ++ sgW k :: t) := by rw [h]; simp
  unfold within
  rw [rds_open ho _ s h' (by omega)]
  show (f _).bind _ = _
  rw [hf ⟨s.ws.tail, s.sts, s.op + 1, max s.mo (s.op + 1)⟩ (wds_tail h') (by show s.op + 1 ≤ max _ _; omega) (by show s.op + 1 + n ≤ 40; omega) h400]
  show (take z k _).bind _ = _
  rw [rds_shut hc hs t _ (adv_wd (wds_tail h') n c)]
  show PR.ok a _ = .ok a _
  congr 1
  refine ps_ext ?_ rfl (by show s.op + 1 - 1 = s.op; omega) (by show max (max s.mo (s.op + 1)) (s.op + 1 + n) = max s.mo (s.op + (1 + n)); omega)
  show ((s.ws.tail).drop l.length).tail = s.ws.drop _
  rw [← List.drop_one, List.drop_drop, ← List.drop_one, List.drop_drop]
  congr 1
  simp
  omega
theorem rdc_skip {x : Wd} (h : Rdc f l t n c a) : Rdc (fun s => f (skip s)) (x :: l) t n c a := fun s h1 h2 h3 h4 => by
  have e := skip_adv h2
  have hw : wds (skip s).ws = l ++ t := wds_tail h1
  show f (skip s) = _
  rw [h (skip s) hw (by rw [e]; exact adv_le h2 _ _ _) h3 h4, e, adv_adv]
  congr 2
  · simp; omega
  · omega
def Evn (P : Nat → Prop) : Prop := ∃ m0, ∀ m, m0 ≤ m → P m
theorem evn_all {P : Nat → Prop} (h : ∀ m, P m) : Evn P := ⟨0, fun m _ => h m⟩
theorem Evn.and {P Q : Nat → Prop} (h : Evn P) (k : Evn Q) : Evn fun m => P m ∧ Q m := by
  obtain ⟨a, h⟩ := h
  obtain ⟨b, k⟩ := k
  exact ⟨a + b, fun m hm => ⟨h m (by omega), k m (by omega)⟩⟩
theorem Evn.mono {P Q : Nat → Prop} (h : Evn P) (k : ∀ m, P m → Q m) : Evn Q := by
  obtain ⟨a, h⟩ := h
  exact ⟨a, fun m hm => k m (h m hm)⟩
theorem Evn.succ {P Q : Nat → Prop} (h : Evn P) (k : ∀ m, P m → Q (m + 1)) : Evn Q := by
  obtain ⟨a, h⟩ := h
  refine ⟨a + 1, fun m hm => ?_⟩
  obtain ⟨m', rfl⟩ : ∃ m', m = m' + 1 := ⟨m - 1, by omega⟩
  exact k m' (h m' (by omega))
theorem evn_list {α : Type} {l : List α} {P : α → Nat → Prop} (h : ∀ a ∈ l, Evn (P a)) : Evn fun m => ∀ a ∈ l, P a m := by
  induction l with
  | nil => exact evn_all fun _ a ha => by cases ha
  | cons x r ih =>
    refine ((h x List.mem_cons_self).and (ih fun a ha => h a (List.mem_cons_of_mem _ ha))).mono fun m hm a ha => ?_
    rcases List.mem_cons.1 ha with rfl | ha
    · exact hm.1
    · exact hm.2 a ha
end
theorem stop_hlev {t : List Wd} (h : stopW t) : hlev t < 1 ∧ noIdx t := by
  have a1 : ∀ x ∈ stopL, lev x.2.1 = 0 := by decide
  have a2 : ∀ x ∈ stopL, x.2.1 ≠ [91] := by decide
  refine ⟨?_, fun x hx => a2 x (h x hx)⟩
  unfold hlev
  cases e : t.head? with
  | none => decide
  | some x => have := a1 x (h x e); simp only [Option.map_some, Option.getD_some]; omega
theorem expr_all_stops (z : Nat) {r : RE} (h : r.wf = true) : Evn fun m => ∀ t, stopW t → Rdc (expr z m) (tkE lev r) t (dE r) 0 r := by
  obtain ⟨m0, hb⟩ := expr_back z h
  exact ⟨m0, fun m hm t ht => (hb m hm t (stop_hlev ht).2 (stop_hlev ht).1).cc⟩
theorem expr_rdc (z : Nat) {r : RE} (h : r.wf = true) {t : List Wd} (ht : stopW t) : Evn fun m => Rdc (expr z m) (tkE lev r) t (dE r) 0 r := (expr_all_stops z h).mono fun m hm => hm t ht
def dA (l : List RE) : Nat := l.foldr (fun e n => max (dE e) n) 0
mutual
def dB : RS → Nat
  | .asg _ _ e => dE e
  | .sto _ _ i e => max (1 + dE i) (dE e)
  | .rd _ _ => 1
  | .call _ _ _ l => 1 + dA l
  | .ife _ c b l => max (1 + dE c) (max (1 + dSs b) (if l.isEmpty then 0 else 1 + dSs l))
  | .whl _ c b => max (1 + dE c) (1 + dSs b)
  | .brk _ => 0
  | .cnt _ => 0
  | .ret _ e => dE e
  | .ass _ e => 1 + dE e
def dSs : List RS → Nat
  | [] => 0
  | s :: l => max (dB s) (dSs l)
end
theorem more_back {α : Type} {z : Nat} {f : PS → PR α} {g : α → List Wd} {d : α → Nat} {t : List Wd} (ht : ∀ x, t.head? = some x → x.2.1 ≠ [44]) : ∀ (l : List α) (acc : List α), (∀ a ∈ l, ∀ t', (t'.head? = some cmW ∨ t' = t) → Rdc f (g a) t' (d a) 0 a) →
    ∀ n, l.length < n → Rdc (more z f n acc) (l.flatMap fun a => cmW :: g a) t (l.foldr (fun a k => max (d a) k) 0) 0 (acc ++ l) := by
  intro l
  induction l with
  | nil =>
    intro acc _ n hn
    obtain ⟨n, rfl⟩ : ∃ n', n = n' + 1 := ⟨n - 1, by omega⟩
    rw [show (more z f (n + 1) acc) = fun s => if at' z [44] s = true then (f (skip s)).bind fun x s2 => more z f n (acc ++ [x]) s2 else .ok acc s from funext fun s => by rw [more]]
    rw [List.append_nil]
    exact rdc_no (hd_no (by decide) ht) (rdc_pure t acc)
  | cons a l ih =>
    intro acc h n hn
    simp only [List.length_cons] at hn
    obtain ⟨n, rfl⟩ : ∃ n', n = n' + 1 := ⟨n - 1, by omega⟩
    rw [show (more z f (n + 1) acc) = fun s => if at' z [44] s = true then (f (skip s)).bind fun x s2 => more z f n (acc ++ [x]) s2 else .ok acc s from funext fun s => by rw [more]]
    refine rdc_yes (hd_yes (x := cmW) rfl rfl) ?_
    have h1 : Rdc f (g a) ((l.flatMap fun a => cmW :: g a) ++ t) (d a) 0 a := h a List.mem_cons_self _ (by
      cases l with
      | nil => exact .inr rfl
      | cons b l => exact .inl rfl)
    have h2 := ih (acc ++ [a]) (fun b hb => h b (List.mem_cons_of_mem _ hb)) n (by omega)
    have h3 := rdc_skip (x := cmW) (rdc_bind (g := fun x s2 => more z f n (acc ++ [x]) s2) h1 h2)
    rw [List.append_assoc] at h3
    exact h3.cast rfl rfl rfl
theorem commas_flat {α : Type} (g : α → List Wd) (a : α) (l : List α) : commas [cmW] g (a :: l) = g a ++ l.flatMap fun b => cmW :: g b := by
  induction l generalizing a with
  | nil => rw [commas_one]; simp
  | cons b l ih => rw [commas_two, ih b]; simp
theorem list_back {α : Type} {z : Nat} {f : PS → PR α} {g : α → List Wd} {d : α → Nat} {t : List Wd} (ht : ∀ x, t.head? = some x → x.2.1 ≠ [44]) {l : List α} (hne : l ≠ []) (h : ∀ a ∈ l, ∀ t', (t'.head? = some cmW ∨ t' = t) → Rdc f (g a) t' (d a) 0 a) {n : Nat} (hn : l.length ≤ n) :
    Rdc (list z n f) (commas [cmW] g l) t (l.foldr (fun a k => max (d a) k) 0) 0 l := by
  cases l with
  | nil => exact absurd rfl hne
  | cons a l =>
    rw [commas_flat]
    have h1 : Rdc f (g a) ((l.flatMap fun a => cmW :: g a) ++ t) (d a) 0 a := h a List.mem_cons_self _ (by
      cases l with
      | nil => exact .inr rfl
      | cons b l => exact .inl rfl)
    have h2 := more_back (z := z) ht l [a] (fun b hb => h b (List.mem_cons_of_mem _ hb)) n (by simp at hn; omega)
    exact rdc_bind (g := fun x s1 => more z f n [x] s1) h1 h2
theorem args_back {α : Type} {z : Nat} {f : PS → PR α} {g : α → List Wd} {d : α → Nat} {t : List Wd} {l : List α} (hg : ∀ a ∈ l, ∀ x, (g a).head? = some x → x.2.1 ≠ [41]) (hg2 : ∀ a ∈ l, g a ≠ []) (h : ∀ a ∈ l, ∀ t', (t'.head? = some cmW ∨ t' = sgW [41] :: t) → Rdc f (g a) t' (d a) 0 a) {n : Nat} (hn : l.length ≤ n) :
    Rdc (args z n f) (sgW [40] :: (commas [cmW] g l ++ [sgW [41]])) t (1 + l.foldr (fun a k => max (d a) k) 0) 0 l := by
  refine rdc_within (f := fun s1 => if at' z [41] s1 = true then .ok [] s1 else list z n f s1) rfl rfl rfl ?_
  cases l with
  | nil => exact rdc_yes (hd_yes (x := sgW [41]) rfl rfl) (rdc_pure _ _)
  | cons a l =>
    refine rdc_no (hd_no (by decide) fun x hx => ?_) (list_back (fun x hx => by simp only [List.head?_cons, Option.some.injEq] at hx; subst hx; decide) (by simp) h hn)
    rw [commas_flat] at hx
    cases e : g a with
    | nil => exact absurd e (hg2 a List.mem_cons_self)
    | cons y r =>
      rw [e] at hx
      simp only [List.cons_append, List.head?_cons, Option.some.injEq] at hx
      subst hx
      exact hg a List.mem_cons_self y (by rw [e]; rfl)
theorem stop_59 (t : List Wd) : stopW (sgW [59] :: t) := stop_cons (by decide) t
theorem stop_41 (t : List Wd) : stopW (sgW [41] :: t) := stop_cons (by decide) t
theorem stop_93 (t : List Wd) : stopW (sgW [93] :: t) := stop_cons (by decide) t
theorem stop_cm {t : List Wd} (h : t.head? = some cmW) : stopW t := fun x hx => by rw [h] at hx; cases hx; decide
theorem ending_back (z : Nat) (r : RS) (t : List Wd) : Rdc (ending z r) [sgW [59]] t 0 0 r := (rdc_bind (rdc_flat z (sgW [59]) rfl rfl _) (rdc_pure t r)).cast rfl rfl rfl
theorem test_back {z m : Nat} {k : List UInt8} (ho : opens k = false) (hs : shuts k = false) {c : RE} {t : List Wd} (hc : Rdc (expr z m) (tkE lev c) (sgW [41] :: t) (dE c) 0 c) : Rdc (test z m k) (kW k :: sgW [40] :: (tkE lev c ++ [sgW [41]])) t (1 + dE c) 0 c :=
  (rdc_bind (rdc_flat z (kW k) ho hs _) (rdc_within (z := z) (o := [40]) (k := [41]) rfl rfl rfl hc)).cast rfl (by omega) rfl
theorem store_back {z m : Nat} {x : List UInt8} {i e : RE} {t : List Wd} (hi : Rdc (expr z m) (tkE lev i) (sgW [93] :: (sgW [61] :: (tkE lev e ++ [sgW [59]]) ++ t)) (dE i) 0 i) (he : Rdc (expr z m) (tkE lev e) (sgW [59] :: t) (dE e) 0 e) :
    Rdc (store z m x) (sgW [91] :: (tkE lev i ++ sgW [93] :: sgW [61] :: (tkE lev e ++ [sgW [59]]))) t (max (1 + dE i) (dE e)) 0 (.sto 0 x i e) := by
  have h3 := rdc_bind (g := fun e s3 => ending z (.sto 0 x i e) s3) he (ending_back z (.sto 0 x i e) t)
  have h2 := rdc_bind (g := fun _ s2 => (expr z m s2).bind fun e s3 => ending z (.sto 0 x i e) s3) (rdc_flat z (sgW [61]) rfl rfl ((tkE lev e ++ [sgW [59]]) ++ t)) h3
  have h1 := rdc_bind (g := fun i s1 => (take z [61] s1).bind fun _ s2 => (expr z m s2).bind fun e s3 => ending z (.sto 0 x i e) s3) (rdc_within (z := z) (o := [91]) (k := [93]) rfl rfl rfl hi) h2
  exact h1.cast (by simp) (by omega) rfl
theorem input_back (z : Nat) (x : List UInt8) (t : List Wd) : Rdc (input z x) [kW kRead, sgW [40], sgW [41], sgW [59]] t 1 0 (.rd 0 x) := by
  have h0 : Rdc (within z [40] (fun s => PR.ok () s) [41]) [sgW [40], sgW [41]] ([sgW [59]] ++ t) (1 + 0) 0 () := rdc_within (z := z) (o := [40]) (k := [41]) rfl rfl rfl (rdc_pure _ ())
  have h2 := rdc_bind (g := fun _ s => ending z (.rd 0 x) s) h0 (ending_back z (.rd 0 x) t)
  have h1 := rdc_bind (g := fun _ s => (within z [40] (fun s => PR.ok () s) [41] s).bind fun _ s => ending z (.rd 0 x) s) (rdc_flat z (kW kRead) rfl rfl ([sgW [40], sgW [41], sgW [59]] ++ t)) h2
  intro s hs a b c
  have e : input z x s = (take z kRead s).bind fun _ s => (within z [40] (fun s => PR.ok () s) [41] s).bind fun _ s => ending z (.rd 0 x) s := by
    unfold input
    cases take z kRead s with
    | bad n s1 => rfl
    | ok u s1 =>
      show (take z [40] s1).bind _ = (within z [40] (fun s => PR.ok () s) [41] s1).bind _
      unfold within
      cases take z [40] s1 with
      | bad n s2 => rfl
      | ok u s2 =>
        show (take z [41] s2).bind _ = ((take z [41] s2).bind _).bind _
        cases take z [41] s2 <;> rfl
  rw [e]
  exact h1 s hs a b c
def Fst (x : Wd) : Prop := x = sgW [40] ∨ x = sgW [45] ∨ x = sgW [126] ∨ x = sgW [33] ∨ (∃ n, x = (2, Go.Lib.decDigits n, n)) ∨ (∃ s, nameOk s = true ∧ x = nmW s)
theorem fst_of : ∀ (r : RE), r.wf = true → ∃ x t, tkE lev r = x :: t ∧ Fst x := by
  intro r
  induction r with
  | num n =>
    intro _
    by_cases h0 : n < 0
    · exact ⟨_, _, by rw [tkE, numW, if_pos h0], .inr (.inl rfl)⟩
    · exact ⟨_, _, by rw [tkE, numW, if_neg h0], .inr (.inr (.inr (.inr (.inl ⟨_, rfl⟩))))⟩
  | var s => intro h; exact ⟨_, _, by rw [tkE], .inr (.inr (.inr (.inr (.inr ⟨s, h, rfl⟩))))⟩
  | idx s e ih =>
    intro h
    simp only [RE.wf, Bool.and_eq_true] at h
    exact ⟨_, _, by rw [tkE], .inr (.inr (.inr (.inr (.inr ⟨s, h.1, rfl⟩))))⟩
  | un c e ih =>
    intro h
    simp only [RE.wf, Bool.and_eq_true, Bool.or_eq_true, beq_iff_eq] at h
    refine ⟨_, _, by rw [tkE], ?_⟩
    rcases h.1 with (rfl | rfl) | rfl
    · exact .inr (.inl rfl)
    · exact .inr (.inr (.inl rfl))
    · exact .inr (.inr (.inr (.inl rfl)))
  | bin o a b iha ihb =>
    intro h
    simp only [RE.wf, Bool.and_eq_true] at h
    cases hc : a.lower lev (lev o) with
    | true => exact ⟨sgW [40], _, by rw [tkE, hc, utk, if_pos rfl]; rfl, .inl rfl⟩
    | false =>
      obtain ⟨x, t, e, hx⟩ := iha h.1.2
      exact ⟨x, _, by rw [tkE, hc, utk, if_neg (by decide), e]; rfl, hx⟩
theorem dig_not (n : Nat) (u : List UInt8) (hu : u.all isDg = false) : Go.Lib.decDigits n ≠ u := fun e => by
  have : (Go.Lib.decDigits n).all isDg = true := List.all_eq_true.2 fun c hc => dec_all n c hc
  rw [e, hu] at this; cases this
theorem fst_not {x : Wd} (h : Fst x) : x.2.1 ≠ [41] ∧ x.2.1 ≠ [91] ∧ x.2.1 ≠ kRead := by
  rcases h with rfl | rfl | rfl | rfl | ⟨n, rfl⟩ | ⟨s, hs, rfl⟩
  · decide
  · decide
  · decide
  · decide
  · exact ⟨dig_not n _ (by decide), dig_not n _ (by decide), dig_not n _ (by decide)⟩
  · exact ⟨fun e => by rw [show s = _ from e] at hs; revert hs; decide, fun e => by rw [show s = _ from e] at hs; revert hs; decide, fun e => by rw [show s = _ from e] at hs; revert hs; decide⟩
theorem e_name2 (r : RE) (h : r.wf = true) {s : List UInt8} {y : Wd} {t t' : List Wd} (st : stopW t) (e : tkE lev r ++ t = nmW s :: y :: t') : y.2.1 ≠ [40] := by
  obtain ⟨hu, hl⟩ := flat_wf lev r h
  rw [flat_words lev r, List.append_assoc] at e
  have key : ∀ z, (tailW lev (flat lev r).2 ++ t).head? = some z → z.2.1 ≠ [40] := by
    intro z hz
    cases e2 : (flat lev r).2 with
    | nil => rw [e2] at hz; exact (by decide : ∀ x ∈ stopL, x.2.1 ≠ [40]) z (st z hz)
    | cons x L =>
      rw [e2, tailW_cons] at hz
      simp only [List.cons_append, List.head?_cons, Option.some.injEq] at hz
      subst hz
      have := (hl x (by rw [e2]; exact List.mem_cons_self)).1
      intro e
      rw [show x.1 = [40] from e] at this
      revert this; decide
  generalize (flat lev r).1 = u at e hu
  obtain ⟨b, u⟩ := u
  cases b with
  | true => simp [utU, utk, sgW] at e
  | false =>
    obtain ⟨hw, hb⟩ := hu
    cases u with
    | num n => simp only [utU, utk, Bool.false_eq_true, if_false, tkE, numW, sgW] at e; split at e <;> simp at e
    | var x =>
      simp only [utU, utk, tkE, Bool.false_eq_true, if_false, List.cons_append, List.nil_append, List.cons.injEq] at e
      exact key y (by rw [e.2]; rfl)
    | idx x f =>
      simp only [utU, utk, tkE, Bool.false_eq_true, if_false, List.cons_append, List.nil_append, List.cons.injEq] at e
      rw [← e.2.1]; decide
    | un c f => simp [utU, utk, tkE, sgW] at e
    | bin o a b => exact absurd (hb rfl) (by simp [RE.isBin])
def setR (z m : Nat) (x : List UInt8) (s1 : PS) : PR RS :=
  if at' z [91] s1 = true then store z m x s1
  else (take z [61] s1).bind fun _ s2 => if at' z kRead s2 = true then input z x s2 else if ((cur z s2).kind == 1 && (nxt z s2).text == [40]) = true then call z m x s2 else (expr z m s2).bind fun e s3 => ending z (.asg 0 x e) s3
theorem setting_is (z m : Nat) : setting z m = fun s => (name z s).bind fun x s1 => setR z m x s1 := rfl
theorem nokey {x : List UInt8} (h : nameOk x = true) {k : List UInt8} (hk : nameOk k = false) : x ≠ k := fun e => by rw [e, hk] at h; cases h
theorem set_asg {z m : Nat} {x : List UInt8} {e : RE} (hx : nameOk x = true) (hw : e.wf = true) {t : List Wd} (he : Rdc (expr z m) (tkE lev e) (sgW [59] :: t) (dE e) 0 e) :
    Rdc (setting z m) (nmW x :: sgW [61] :: (tkE lev e ++ [sgW [59]])) t (dE e) 0 (.asg 0 x e) := by
  rw [setting_is]
  obtain ⟨y, r, hy, hf⟩ := fst_of e hw
  obtain ⟨f1, f2, f3⟩ := fst_not hf
  have h4 := rdc_bind (g := fun e s3 => ending z (.asg 0 x e) s3) he (ending_back z (.asg 0 x e) t)
  have h3 : Rdc (fun s2 => if ((cur z s2).kind == 1 && (nxt z s2).text == [40]) = true then call z m x s2 else (expr z m s2).bind fun e s3 => ending z (.asg 0 x e) s3) (tkE lev e ++ [sgW [59]]) t (max (dE e) 0) (0 + 0) (.asg 0 x e) := rdc_no (fun s hs => by
    rw [hy] at hs
    simp only [List.cons_append] at hs
    obtain ⟨c1, c2, -, -⟩ := cur_wd (z := z) hs
    cases hk : (cur z s).kind == 1 with
    | false => rfl
    | true =>
      have hk1 : y.1 = 1 := by rw [← c1]; simpa using hk
      have hnm : ∃ q, y = nmW q := by
        rcases hf with rfl | rfl | rfl | rfl | ⟨n, rfl⟩ | ⟨q, hq, rfl⟩
        · cases hk1
        · cases hk1
        · cases hk1
        · cases hk1
        · cases hk1
        · exact ⟨q, rfl⟩
      obtain ⟨q, rfl⟩ := hnm
      have hr : ∃ y2 r2, r ++ [sgW [59]] ++ t = y2 :: r2 := by
        cases r with
        | nil => exact ⟨_, _, rfl⟩
        | cons a b => exact ⟨_, _, rfl⟩
      obtain ⟨y2, r2, e2⟩ := hr
      rw [e2] at hs
      rw [(nxt_wd (z := z) hs).2.1]
      have e3 : tkE lev e ++ (sgW [59] :: t) = nmW q :: y2 :: r2 := by rw [hy, ← e2]; simp
      have : y2.2.1 ≠ [40] := e_name2 e hw (stop_59 t) e3
      simpa using this) h4
  have h2 : Rdc (fun s2 => if at' z kRead s2 = true then input z x s2 else if ((cur z s2).kind == 1 && (nxt z s2).text == [40]) = true then call z m x s2 else (expr z m s2).bind fun e s3 => ending z (.asg 0 x e) s3) (tkE lev e ++ [sgW [59]]) t (max (dE e) 0) (0 + 0) (.asg 0 x e) := rdc_no (hd_no (by decide) fun y' hy' => by
    rw [hy] at hy'
    simp only [List.cons_append, List.head?_cons, Option.some.injEq] at hy'
    subst hy'
    exact f3) h3
  have h1 := rdc_bind (g := fun _ s2 => if at' z kRead s2 = true then input z x s2 else if ((cur z s2).kind == 1 && (nxt z s2).text == [40]) = true then call z m x s2 else (expr z m s2).bind fun e s3 => ending z (.asg 0 x e) s3) (rdc_flat z (sgW [61]) rfl rfl (tkE lev e ++ [sgW [59]] ++ t)) h2
  have h0 : Rdc (setR z m x) ([sgW [61]] ++ (tkE lev e ++ [sgW [59]])) t (max 0 (max (dE e) 0)) (0 + (0 + 0)) (.asg 0 x e) := rdc_no (hd_no (by decide) fun y' hy' => by
    simp only [List.cons_append, List.nil_append, List.head?_cons, Option.some.injEq] at hy'
    subst hy'
    decide) h1
  exact (rdc_bind (g := fun x s1 => setR z m x s1) (rdc_name z x _) h0).cast rfl (by omega) rfl
theorem set_sto {z m : Nat} {x : List UInt8} {i e : RE} {t : List Wd} (hi : Rdc (expr z m) (tkE lev i) (sgW [93] :: (sgW [61] :: (tkE lev e ++ [sgW [59]]) ++ t)) (dE i) 0 i) (he : Rdc (expr z m) (tkE lev e) (sgW [59] :: t) (dE e) 0 e) :
    Rdc (setting z m) (nmW x :: sgW [91] :: (tkE lev i ++ sgW [93] :: sgW [61] :: (tkE lev e ++ [sgW [59]]))) t (max (1 + dE i) (dE e)) 0 (.sto 0 x i e) := by
  rw [setting_is]
  have h0 : Rdc (setR z m x) _ t _ _ _ := rdc_yes (hd_yes (x := sgW [91]) rfl rfl) (store_back (x := x) hi he)
  exact (rdc_bind (g := fun x s1 => setR z m x s1) (rdc_name z x _) h0).cast rfl (by omega) rfl
theorem set_rd (z m : Nat) (x : List UInt8) (t : List Wd) : Rdc (setting z m) [nmW x, sgW [61], kW [114, 101, 97, 100], sgW [40], sgW [41], sgW [59]] t 1 0 (.rd 0 x) := by
  rw [setting_is]
  have h2 : Rdc (fun s2 => if at' z kRead s2 = true then input z x s2 else if ((cur z s2).kind == 1 && (nxt z s2).text == [40]) = true then call z m x s2 else (expr z m s2).bind fun e s3 => ending z (.asg 0 x e) s3) [kW kRead, sgW [40], sgW [41], sgW [59]] t 1 0 (.rd 0 x) := rdc_yes (hd_yes (x := kW kRead) rfl rfl) (input_back z x t)
  have h1 := rdc_bind (g := fun _ s2 => if at' z kRead s2 = true then input z x s2 else if ((cur z s2).kind == 1 && (nxt z s2).text == [40]) = true then call z m x s2 else (expr z m s2).bind fun e s3 => ending z (.asg 0 x e) s3) (rdc_flat z (sgW [61]) rfl rfl _) h2
  have h0 : Rdc (setR z m x) _ t _ _ _ := rdc_no (hd_no (by decide) fun y' hy' => by
    simp only [List.cons_append, List.nil_append, List.head?_cons, Option.some.injEq] at hy'
    subst hy'
    decide) h1
  exact (rdc_bind (g := fun x s1 => setR z m x s1) (rdc_name z x _) h0).cast rfl (by omega) rfl
theorem set_call {z m : Nat} {x f : List UInt8} {l : List RE} (hf : nameOk f = true) (hl : ∀ a ∈ l, a.wf = true) {t : List Wd} (he : ∀ a ∈ l, ∀ t', (t'.head? = some cmW ∨ t' = sgW [41] :: ([sgW [59]] ++ t)) → Rdc (expr z m) (tkE lev a) t' (dE a) 0 a) (hm : l.length ≤ m) :
    Rdc (setting z m) (nmW x :: sgW [61] :: nmW f :: sgW [40] :: (tkA lev l ++ [sgW [41], sgW [59]])) t (1 + dA l) 0 (.call 0 x f l) := by
  rw [setting_is]
  have h5 : Rdc (args z m (expr z m)) (sgW [40] :: (commas [cmW] (tkE lev) l ++ [sgW [41]])) ([sgW [59]] ++ t) (1 + dA l) 0 l := args_back (fun a ha y hy => by
      obtain ⟨y', r, e, hfst⟩ := fst_of a (hl a ha)
      rw [e] at hy
      simp only [List.head?_cons, Option.some.injEq] at hy
      subst hy
      exact (fst_not hfst).1) (fun a ha => by
      obtain ⟨y', r, e, hfst⟩ := fst_of a (hl a ha)
      rw [e]; simp) he hm
  have h4 := rdc_bind (g := fun l s2 => ending z (.call 0 x f l) s2) h5 (ending_back z (.call 0 x f l) t)
  have h3 := rdc_bind (g := fun f s1 => (args z m (expr z m) s1).bind fun l s2 => ending z (.call 0 x f l) s2) (rdc_name z f _) h4
  have h3' : Rdc (call z m x) ([nmW f] ++ (sgW [40] :: (commas [cmW] (tkE lev) l ++ [sgW [41]]) ++ [sgW [59]])) t (max 0 (max (1 + dA l) 0)) (0 + (0 + 0)) (.call 0 x f l) := h3
  have h2a : Rdc (fun s2 => if ((cur z s2).kind == 1 && (nxt z s2).text == [40]) = true then call z m x s2 else (expr z m s2).bind fun e s3 => ending z (.asg 0 x e) s3) _ t _ _ _ := rdc_yes (fun s hs => by
    simp only [List.cons_append, List.nil_append] at hs
    rw [(cur_wd (z := z) hs).1, (nxt_wd (z := z) hs).2.1]
    rfl) h3'
  have h2 : Rdc (fun s2 => if at' z kRead s2 = true then input z x s2 else if ((cur z s2).kind == 1 && (nxt z s2).text == [40]) = true then call z m x s2 else (expr z m s2).bind fun e s3 => ending z (.asg 0 x e) s3) _ t _ _ _ := rdc_no (hd_no (by decide) fun y' hy' => by
    simp only [List.cons_append, List.nil_append, List.head?_cons, Option.some.injEq] at hy'
    subst hy'
    exact nokey hf (by decide)) h2a
  have h1 := rdc_bind (g := fun _ s2 => if at' z kRead s2 = true then input z x s2 else if ((cur z s2).kind == 1 && (nxt z s2).text == [40]) = true then call z m x s2 else (expr z m s2).bind fun e s3 => ending z (.asg 0 x e) s3) (rdc_flat z (sgW [61]) rfl rfl _) h2
  have h0 : Rdc (setR z m x) _ t _ _ _ := rdc_no (hd_no (by decide) fun y' hy' => by
    simp only [List.cons_append, List.nil_append, List.head?_cons, Option.some.injEq] at hy'
    subst hy'
    decide) h1
  exact (rdc_bind (g := fun x s1 => setR z m x s1) (rdc_name z x _) h0).cast (by simp [tkA]) (by omega) rfl
def RS.bare (s : RS) : RS := RS.put 0 s
theorem put_bare (s : RS) : RS.put s.tag (RS.bare s) = s := by cases s <;> rfl
def bodyR (z m : Nat) (s1 : PS) : PR RS :=
  if at' z kIf s1 = true then branch z m s1
  else if at' z kWhile s1 = true then loop z m s1
  else if at' z kBreak s1 = true then breakOff z s1
  else if at' z kContinue s1 = true then goOn z s1
  else if at' z kReturn s1 = true then giveBack z m s1
  else if at' z kAssert s1 = true then assertion z m s1
  else setting z m s1
theorem stmt_is (z m : Nat) : stmt z (m + 1) = fun s => (tag z s).bind fun t s1 => (bodyR z m s1).bind fun r s2 => .ok (RS.put t r) s2 := funext fun s => by rw [stmt]; rfl
theorem tag_back (z : Nat) (n : Nat) {l t : List Wd} (hl : ∀ x, (l ++ t).head? = some x → x.1 ≠ 3) : Rdc (tag z) (tgW n) (l ++ t) 0 0 n := fun s h1 h2 _ _ => by
  unfold tgW at h1 ⊢
  unfold tag
  by_cases hn : n = 0
  · subst hn
    rw [if_pos rfl] at h1 ⊢
    rw [if_neg ?_]
    · show PR.ok 0 s = .ok 0 (adv s 0 0 0)
      rw [adv_zero h2]
    · rw [List.nil_append] at h1
      cases e : l ++ t with
      | nil =>
        rw [e] at h1
        have e2 : s.ws = [] := List.map_eq_nil_iff.1 h1
        unfold cur
        rw [e2]
        show ¬ ((0 : Nat) == 3) = true
        decide
      | cons x r =>
        rw [e] at h1
        rw [(cur_wd (z := z) h1).1]
        simpa using hl x (by rw [e]; rfl)
  · rw [if_neg hn] at h1 ⊢
    obtain ⟨c1, c2, c3, c4⟩ := cur_wd (z := z) h1
    simp only at c1 c3
    rw [if_pos (by rw [c1]; decide), c3, if_pos (by omega), skip_adv h2]
    rfl
section
variable {z m : Nat} {l t : List Wd} {n c : Nat} {a : RS} {x : Wd} {r : List Wd}
theorem body_if (e : l ++ t = x :: r) (hx : x.2.1 = kIf) (h : Rdc (branch z m) l t n c a) : Rdc (bodyR z m) l t n c a := rdc_yes (hd_yes e hx) h
theorem hd_no' {u : List UInt8} (hu : u ≠ []) (e : l ++ t = x :: r) (hx : x.2.1 ≠ u) : ∀ s, wds s.ws = l ++ t → at' z u s = false := hd_no hu fun y hy => by
  rw [e] at hy
  simp only [List.head?_cons, Option.some.injEq] at hy
  subst hy
  exact hx
theorem body_while (e : l ++ t = x :: r) (hx : x.2.1 = kWhile) (h : Rdc (loop z m) l t n c a) : Rdc (bodyR z m) l t n c a :=
  rdc_no (hd_no' (by decide) e (by rw [hx]; decide)) (rdc_yes (hd_yes e hx) h)
theorem body_break (e : l ++ t = x :: r) (hx : x.2.1 = kBreak) (h : Rdc (breakOff z) l t n c a) : Rdc (bodyR z m) l t n c a :=
  rdc_no (hd_no' (by decide) e (by rw [hx]; decide)) (rdc_no (hd_no' (by decide) e (by rw [hx]; decide)) (rdc_yes (hd_yes e hx) h))
theorem body_continue (e : l ++ t = x :: r) (hx : x.2.1 = kContinue) (h : Rdc (goOn z) l t n c a) : Rdc (bodyR z m) l t n c a :=
  rdc_no (hd_no' (by decide) e (by rw [hx]; decide)) (rdc_no (hd_no' (by decide) e (by rw [hx]; decide)) (rdc_no (hd_no' (by decide) e (by rw [hx]; decide)) (rdc_yes (hd_yes e hx) h)))
theorem body_return (e : l ++ t = x :: r) (hx : x.2.1 = kReturn) (h : Rdc (giveBack z m) l t n c a) : Rdc (bodyR z m) l t n c a :=
  rdc_no (hd_no' (by decide) e (by rw [hx]; decide)) (rdc_no (hd_no' (by decide) e (by rw [hx]; decide)) (rdc_no (hd_no' (by decide) e (by rw [hx]; decide)) (rdc_no (hd_no' (by decide) e (by rw [hx]; decide)) (rdc_yes (hd_yes e hx) h))))
theorem body_assert (e : l ++ t = x :: r) (hx : x.2.1 = kAssert) (h : Rdc (assertion z m) l t n c a) : Rdc (bodyR z m) l t n c a :=
  rdc_no (hd_no' (by decide) e (by rw [hx]; decide)) (rdc_no (hd_no' (by decide) e (by rw [hx]; decide)) (rdc_no (hd_no' (by decide) e (by rw [hx]; decide)) (rdc_no (hd_no' (by decide) e (by rw [hx]; decide)) (rdc_no (hd_no' (by decide) e (by rw [hx]; decide)) (rdc_yes (hd_yes e hx) h)))))
theorem body_set {q : List UInt8} (hq : nameOk q = true) (e : l ++ t = nmW q :: r) (h : Rdc (setting z m) l t n c a) : Rdc (bodyR z m) l t n c a :=
  rdc_no (hd_no' (by decide) e (nokey hq (by decide))) (rdc_no (hd_no' (by decide) e (nokey hq (by decide))) (rdc_no (hd_no' (by decide) e (nokey hq (by decide))) (rdc_no (hd_no' (by decide) e (nokey hq (by decide))) (rdc_no (hd_no' (by decide) e (nokey hq (by decide))) (rdc_no (hd_no' (by decide) e (nokey hq (by decide))) h)))))
end
def noElse2 (t : List Wd) : Prop := ∀ x, t.head? = some x → x.2.1 ≠ kElse
theorem b_first (s : RS) (h : s.wf = true) : ∃ x r, tkB lev s = x :: r ∧ x.1 ≠ 3 ∧ x.2.1 ≠ kElse ∧ x.2.1 ≠ [125] ∧ x.2.1 ≠ kVar := by
  have nm : ∀ q : List UInt8, nameOk q = true → (nmW q).1 ≠ 3 ∧ (nmW q).2.1 ≠ kElse ∧ (nmW q).2.1 ≠ [125] ∧ (nmW q).2.1 ≠ kVar := fun q hq => ⟨(by decide : (1 : Nat) ≠ 3), nokey hq (by decide), nokey hq (by decide), nokey hq (by decide)⟩
  cases s with
  | asg g x e => simp only [RS.wf, Bool.and_eq_true] at h; exact ⟨_, _, by rw [tkB], nm x h.1.2⟩
  | sto g x i e => simp only [RS.wf, Bool.and_eq_true] at h; exact ⟨_, _, by rw [tkB], nm x h.1.1.2⟩
  | rd g x => simp only [RS.wf, Bool.and_eq_true] at h; exact ⟨_, _, by rw [tkB], nm x h.2⟩
  | call g x f l => simp only [RS.wf, Bool.and_eq_true] at h; exact ⟨_, _, by rw [tkB], nm x h.1.1.2⟩
  | ife g c b l => exact ⟨_, _, by rw [tkB], by decide⟩
  | whl g c b => exact ⟨_, _, by rw [tkB], by decide⟩
  | brk g => exact ⟨_, _, by rw [tkB], by decide⟩
  | cnt g => exact ⟨_, _, by rw [tkB], by decide⟩
  | ret g e => exact ⟨_, _, by rw [tkB], by decide⟩
  | ass g e => exact ⟨_, _, by rw [tkB], by decide⟩
theorem s_first (s : RS) (h : s.wf = true) (t : List Wd) : ∃ x r, tgW s.tag ++ (tkB lev s ++ t) = x :: r ∧ x.2.1 ≠ kElse ∧ x.2.1 ≠ [125] ∧ x.2.1 ≠ kVar := by
  obtain ⟨x, r, e, -, h2, h3, h4⟩ := b_first s h
  unfold tgW
  by_cases hn : s.tag = 0
  · rw [if_pos hn, e]; exact ⟨x, _, rfl, h2, h3, h4⟩
  · rw [if_neg hn]; exact ⟨_, _, rfl, by simp [kElse], by simp, by simp [kVar]⟩
theorem ss_first (l : List RS) (h : wfSs l = true) {t : List Wd} (ht : endW t) : ∀ x, (tkSs lev l ++ t).head? = some x → x.2.1 ≠ kElse ∧ x.2.1 ≠ kVar := by
  cases l with
  | nil => intro x hx; rw [tkSs] at hx; rw [ht x hx]; decide
  | cons s l =>
    intro x hx
    simp only [wfSs, Bool.and_eq_true] at h
    rw [tkSs, List.append_assoc, List.append_assoc] at hx
    obtain ⟨y, r, e, h2, h3, h4⟩ := s_first s h.1 (tkSs lev l ++ t)
    rw [e] at hx
    simp only [List.head?_cons, Option.some.injEq] at hx
    subst hx
    exact ⟨h2, h4⟩
def SBack (z : Nat) (l : List RS) : Prop := ∀ t, endW t → t ≠ [] → ∀ acc, Evn fun m => Rdc (block z m acc) (tkSs lev l) t (dSs l) (nSs l) (acc ++ l)
def BBack (z : Nat) (s : RS) : Prop := ∀ t, noElse2 t → Evn fun m => Rdc (bodyR z m) (tkB lev s) t (dB s) (nB s) (RS.bare s)
theorem braced_back {z : Nat} {l : List RS} (h : SBack z l) (t : List Wd) : Evn fun m => Rdc (within z [123] (block z m []) [125]) (sgW [123] :: (tkSs lev l ++ [sgW [125]])) t (1 + dSs l) (nSs l) l :=
  (h (sgW [125] :: t) (end_rc t) (by simp) []).mono fun m hm => rdc_within (z := z) (o := [123]) (k := [125]) rfl rfl rfl hm
theorem end_head {t : List Wd} (h : endW t) (hn : t ≠ []) : ∃ r, t = sgW [125] :: r := by
  cases t with
  | nil => exact absurd rfl hn
  | cons x r => exact ⟨r, by rw [h x rfl]⟩
mutual
theorem body_back (z : Nat) : ∀ (s : RS), s.wf = true → BBack z s
  | .asg g x e, h => fun t ht => by
    simp only [RS.wf, Bool.and_eq_true] at h
    exact (expr_rdc z h.2 (stop_59 t)).mono fun m hm => body_set h.1.2 (by rw [tkB]; rfl) (by rw [tkB]; exact set_asg h.1.2 h.2 hm)
  | .sto g x i e, h => fun t ht => by
    simp only [RS.wf, Bool.and_eq_true] at h
    exact ((expr_rdc z h.1.2 (stop_93 _)).and (expr_rdc z h.2 (stop_59 t))).mono fun m hm => body_set h.1.1.2 (by rw [tkB]; rfl) (by rw [tkB]; exact set_sto hm.1 hm.2)
  | .rd g x, h => fun t ht => by
    simp only [RS.wf, Bool.and_eq_true] at h
    exact evn_all fun m => body_set h.2 (by rw [tkB]; rfl) (by rw [tkB]; exact set_rd z m x t)
  | .call g x f l, h => fun t ht => by
    simp only [RS.wf, Bool.and_eq_true, List.all_eq_true] at h
    obtain ⟨⟨⟨h1, h2⟩, h3⟩, h4⟩ := h
    have he : Evn fun m => ∀ a ∈ l, ∀ t', (t'.head? = some cmW ∨ t' = sgW [41] :: ([sgW [59]] ++ t)) → Rdc (expr z m) (tkE lev a) t' (dE a) 0 a := evn_list fun a ha => by
      obtain ⟨m0, h0⟩ := expr_all_stops z (h4 a ha)
      exact ⟨m0, fun m hm t' ht' => h0 m hm t' (by
        rcases ht' with ht' | rfl
        · exact stop_cm ht'
        · exact stop_41 _)⟩
    obtain ⟨m0, he⟩ := he
    refine ⟨m0 + l.length, fun m hm => body_set h2 (by rw [tkB]; rfl) (by rw [tkB]; exact set_call h3 h4 (he m (by omega)) (by omega))⟩
  | .ife g c b l, h => fun t ht => by
    simp only [RS.wf, Bool.and_eq_true] at h
    obtain ⟨⟨⟨h1, h2⟩, h3⟩, h4⟩ := h
    have hb := block_back z b h3
    have hl := block_back z l h4
    have hB : ∀ m, branch z (m + 1) = fun s => (test z m kIf s).bind fun c s1 => (within z [123] (block z m []) [125] s1).bind fun b s2 => if at' z kElse s2 = true then (within z [123] (block z m []) [125] (skip s2)).bind fun l s4 => .ok (.ife 0 c b l) s4 else .ok (.ife 0 c b []) s2 := fun m => funext fun s => by rw [branch]
    cases hle : l.isEmpty with
    | true =>
      have hl0 : l = [] := by simpa using hle
      subst hl0
      refine ((expr_rdc z h2 (stop_41 (sgW [123] :: (tkSs lev b ++ [sgW [125]]) ++ t))).and (braced_back hb t)).succ fun m hm => ?_
      refine body_if (by rw [tkB]; rfl) rfl ?_
      have h6 : Rdc (fun s2 => if at' z kElse s2 = true then (within z [123] (block z m []) [125] (skip s2)).bind fun l s4 => .ok (.ife 0 c b l) s4 else .ok (RS.ife 0 c b []) s2) [] t 0 0 (.ife 0 c b []) := rdc_no (hd_no (by decide) ht) (rdc_pure t (RS.ife 0 c b []))
      have h5 := rdc_bind (g := fun b s2 => if at' z kElse s2 = true then (within z [123] (block z m []) [125] (skip s2)).bind fun l s4 => .ok (.ife 0 c b l) s4 else .ok (RS.ife 0 c b []) s2) hm.2 h6
      have h4 := rdc_bind (g := fun c s1 => (within z [123] (block z m []) [125] s1).bind fun b s2 => if at' z kElse s2 = true then (within z [123] (block z m []) [125] (skip s2)).bind fun l s4 => .ok (.ife 0 c b l) s4 else .ok (RS.ife 0 c b []) s2) (test_back (z := z) (m := m) (k := kIf) rfl rfl (t := sgW [123] :: (tkSs lev b ++ [sgW [125]]) ++ [] ++ t) (by rw [List.append_nil]; exact hm.1)) h5
      rw [hB]
      exact h4.cast (by rw [tkB]; simp [kIf]) (by rw [dB]; simp <;> omega) (by rw [nB, nSs]; omega)
    | false =>
      have hE : (if l.isEmpty then [] else kW [101, 108, 115, 101] :: sgW [123] :: (tkSs lev l ++ [sgW [125]])) = kW kElse :: (sgW [123] :: (tkSs lev l ++ [sgW [125]])) := by rw [if_neg (by simp [hle])]; rfl
      refine (((expr_rdc z h2 (stop_41 (sgW [123] :: (tkSs lev b ++ [sgW [125]]) ++ (kW kElse :: (sgW [123] :: (tkSs lev l ++ [sgW [125]]))) ++ t))).and (braced_back hb (kW kElse :: (sgW [123] :: (tkSs lev l ++ [sgW [125]])) ++ t))).and (braced_back hl t)).succ fun m hm => ?_
      obtain ⟨⟨hm1, hm2⟩, hm3⟩ := hm
      refine body_if (by rw [tkB]; rfl) rfl ?_
      have h7 := rdc_skip (x := kW kElse) (rdc_bind (g := fun l s4 => PR.ok (RS.ife 0 c b l) s4) hm3 (rdc_pure t (RS.ife 0 c b l)))
      have h6 : Rdc (fun s2 => if at' z kElse s2 = true then (within z [123] (block z m []) [125] (skip s2)).bind fun l s4 => .ok (.ife 0 c b l) s4 else .ok (RS.ife 0 c b []) s2) _ t _ _ (.ife 0 c b l) := rdc_yes (hd_yes (x := kW kElse) rfl rfl) h7
      rw [List.append_nil] at h6
      have h5 := rdc_bind (g := fun b s2 => if at' z kElse s2 = true then (within z [123] (block z m []) [125] (skip s2)).bind fun l s4 => .ok (.ife 0 c b l) s4 else .ok (RS.ife 0 c b []) s2) hm2 h6
      have h4 := rdc_bind (g := fun c s1 => (within z [123] (block z m []) [125] s1).bind fun b s2 => if at' z kElse s2 = true then (within z [123] (block z m []) [125] (skip s2)).bind fun l s4 => .ok (.ife 0 c b l) s4 else .ok (RS.ife 0 c b []) s2) (test_back (z := z) (m := m) (k := kIf) rfl rfl hm1) h5
      rw [hB]
      exact h4.cast (by rw [tkB, hE]; simp [kIf]) (by rw [dB, hle]; simp <;> omega) (by rw [nB]; omega)
  | .whl g c b, h => fun t ht => by
    simp only [RS.wf, Bool.and_eq_true] at h
    obtain ⟨⟨h1, h2⟩, h3⟩ := h
    have hb := block_back z b h3
    refine ((expr_rdc z h2 (stop_41 (sgW [123] :: (tkSs lev b ++ [sgW [125]]) ++ t))).and (braced_back hb t)).succ fun m hm => ?_
    refine body_while (by rw [tkB]; rfl) rfl ?_
    have h5 := rdc_bind (g := fun b s2 => PR.ok (RS.whl 0 c b) s2) hm.2 (rdc_pure t (RS.whl 0 c b))
    have h4 := rdc_bind (g := fun c s1 => (within z [123] (block z m []) [125] s1).bind fun b s2 => PR.ok (RS.whl 0 c b) s2) (test_back (z := z) (m := m) (k := kWhile) rfl rfl (t := sgW [123] :: (tkSs lev b ++ [sgW [125]]) ++ [] ++ t) (by rw [List.append_nil]; exact hm.1)) h5
    rw [show loop z (m + 1) = fun s => (test z m kWhile s).bind fun c s1 => (within z [123] (block z m []) [125] s1).bind fun b s2 => .ok (.whl 0 c b) s2 from funext fun s => by rw [loop]]
    exact h4.cast (by rw [tkB]; simp [kWhile]) (by rw [dB]; omega) (by rw [nB]; omega)
  | .brk g, h => fun t ht => evn_all fun m => body_break (by rw [tkB]; rfl) rfl (by
    rw [tkB]
    exact (rdc_bind (g := fun _ s1 => ending z (.brk 0) s1) (rdc_flat z (kW kBreak) rfl rfl _) (ending_back z (.brk 0) t)).cast rfl rfl rfl)
  | .cnt g, h => fun t ht => evn_all fun m => body_continue (by rw [tkB]; rfl) rfl (by
    rw [tkB]
    exact (rdc_bind (g := fun _ s1 => ending z (.cnt 0) s1) (rdc_flat z (kW kContinue) rfl rfl _) (ending_back z (.cnt 0) t)).cast rfl rfl rfl)
  | .ret g e, h => fun t ht => by
    simp only [RS.wf, Bool.and_eq_true] at h
    refine (expr_rdc z h.2 (stop_59 t)).mono fun m hm => body_return (by rw [tkB]; rfl) rfl ?_
    rw [tkB]
    have h2 := rdc_bind (g := fun e s2 => ending z (.ret 0 e) s2) hm (ending_back z (.ret 0 e) t)
    exact (rdc_bind (g := fun _ s1 => (expr z m s1).bind fun e s2 => ending z (.ret 0 e) s2) (rdc_flat z (kW kReturn) rfl rfl _) h2).cast rfl (by rw [dB]; omega) rfl
  | .ass g e, h => fun t ht => by
    simp only [RS.wf, Bool.and_eq_true] at h
    refine (expr_rdc z h.2 (stop_41 ([sgW [59]] ++ t))).mono fun m hm => body_assert (by rw [tkB]; rfl) rfl ?_
    rw [tkB]
    exact (rdc_bind (g := fun e s1 => ending z (.ass 0 e) s1) (test_back (z := z) (m := m) (k := kAssert) rfl rfl hm) (ending_back z (.ass 0 e) t)).cast (by simp [kAssert]) (by rw [dB]; omega) rfl
theorem block_back (z : Nat) : ∀ (l : List RS), wfSs l = true → SBack z l
  | [], h => fun t ht hn acc => by
    obtain ⟨r, rfl⟩ := end_head ht hn
    refine ⟨1, fun m hm => ?_⟩
    obtain ⟨m, rfl⟩ : ∃ m', m = m' + 1 := ⟨m - 1, by omega⟩
    rw [tkSs, dSs, nSs, List.append_nil]
    rw [show block z (m + 1) acc = fun s => if at' z [125] s = true then .ok acc s else if s.sts = 400 then .bad 5 s else (stmt z m { s with sts := s.sts + 1 }).bind fun r s1 => block z m (acc ++ [r]) s1 from funext fun s => by rw [block]]
    exact rdc_yes (hd_yes (x := sgW [125]) rfl rfl) (rdc_pure _ acc)
  | s :: l, h => fun t ht hn acc => by
    simp only [wfSs, Bool.and_eq_true] at h
    have hb := body_back z s h.1 (tkSs lev l ++ t) (fun x hx => (ss_first l h.2 ht x hx).1)
    have hl := block_back z l h.2 t ht hn (acc ++ [s])
    have hS : Evn fun m => Rdc (stmt z m) (tgW s.tag ++ tkB lev s) (tkSs lev l ++ t) (dB s) (nB s) s := hb.succ fun m hm => by
      obtain ⟨x, r, e, h3, -⟩ := b_first s h.1
      have h2 := rdc_bind (g := fun r s2 => PR.ok (RS.put s.tag r) s2) (l2 := []) (t := tkSs lev l ++ t) hm (rdc_pure _ (RS.put s.tag (RS.bare s)))
      have h1 := rdc_bind (g := fun t s1 => (bodyR z m s1).bind fun r s2 => .ok (RS.put t r) s2) (tag_back z s.tag (l := tkB lev s ++ []) (t := tkSs lev l ++ t) (by
        rw [e]; intro x hx; simp only [List.cons_append, List.head?_cons, Option.some.injEq] at hx; subst hx; exact h3)) h2
      rw [stmt_is]
      rw [put_bare] at h1
      exact h1.cast (by simp) (by omega) (by omega)
    refine (hS.and hl).succ fun m hm => ?_
    obtain ⟨hm1, hm2⟩ := hm
    intro s0 hw q1 q2 q3
    rw [tkSs] at hw ⊢
    rw [dSs] at q2 ⊢
    rw [nSs] at q3 ⊢
    have hw' : wds s0.ws = tgW s.tag ++ tkB lev s ++ (tkSs lev l ++ t) := by rw [hw]; simp
    obtain ⟨x, r, e, -, h3, -⟩ := s_first s h.1 (tkSs lev l ++ t)
    have hat : at' z [125] s0 = false := by
      rw [at_wd (show wds s0.ws = x :: r by rw [hw', ← e]; simp)]
      simpa using h3
    rw [block, if_neg (by rw [hat]; decide), if_neg (by omega)]
    rw [hm1 { s0 with sts := s0.sts + 1 } hw' q1 (by show s0.op + dB s ≤ 40; omega) (by show s0.sts + 1 + nB s ≤ 400; omega)]
    show block z m (acc ++ [s]) _ = _
    have hadv : adv { s0 with sts := s0.sts + 1 } (tgW s.tag ++ tkB lev s).length (dB s) (nB s) = adv s0 (tgW s.tag ++ tkB lev s).length (dB s) (1 + nB s) := by
      unfold adv
      simp only [PS.mk.injEq, true_and, and_true]
      omega
    rw [hadv, hm2 _ (adv_wd hw' _ _) (adv_le q1 _ _ _) (by show s0.op + dSs l ≤ 40; omega) (by show s0.sts + (1 + nB s) + nSs l ≤ 400; omega), adv_adv]
    rw [show acc ++ [s] ++ l = acc ++ s :: l by simp]
    congr 2
    · simp; omega
end
theorem decl_back (z : Nat) (d : List UInt8 × Nat) (h2 : d.2 ≤ 1000000) {t : List Wd} (ht : ∀ x, t.head? = some x → x.2.1 ≠ [91]) : Rdc (decl z) (tkD d) t (if d.2 = 0 then 0 else 1) 0 d := by
  obtain ⟨x, n⟩ := d
  unfold tkD
  by_cases hn : n = 0
  · subst hn
    have h1 : Rdc (fun s1 => if at' z [91] s1 = true then (within z [91] (length z) [93] s1).bind fun n s2 => PR.ok (x, n) s2 else .ok (x, 0) s1) [] t 0 0 (x, 0) := rdc_no (hd_no (by decide) ht) (rdc_pure t (x, 0))
    exact (rdc_bind (g := fun x s1 => if at' z [91] s1 = true then (within z [91] (length z) [93] s1).bind fun n s2 => PR.ok (x, n) s2 else .ok (x, 0) s1) (rdc_name z x _) h1).cast rfl rfl rfl
  · have hl : Rdc (length z) [(2, Go.Lib.decDigits n, n)] (sgW [93] :: t) 0 0 n := fun s hs q1 q2 q3 => by
      obtain ⟨c1, c2, c3, c4⟩ := cur_wd (z := z) (s := s) hs
      simp only at c1 c3
      unfold length
      simp only at h2
      rw [c1, c3, if_pos (by simp; omega), skip_adv q1]
      rfl
    have h1 : Rdc (fun s1 => if at' z [91] s1 = true then (within z [91] (length z) [93] s1).bind fun n s2 => PR.ok (x, n) s2 else .ok (x, 0) s1) _ t _ _ (x, n) := rdc_yes (hd_yes (x := sgW [91]) rfl rfl) (rdc_bind (g := fun n s2 => PR.ok (x, n) s2) (rdc_within (z := z) (o := [91]) (k := [93]) rfl rfl rfl hl) (rdc_pure t (x, n)))
    exact (rdc_bind (g := fun x s1 => if at' z [91] s1 = true then (within z [91] (length z) [93] s1).bind fun n s2 => PR.ok (x, n) s2 else .ok (x, 0) s1) (rdc_name z x _) h1).cast (by simp [hn]) (by simp [hn]) rfl
def dD (d : List UInt8 × Nat) : Nat := if d.2 = 0 then 0 else 1
def dV (l : List (List UInt8 × Nat)) : Nat := l.foldr (fun a k => max (dD a) k) 0
theorem vars_back (z : Nat) (l : List (List UInt8 × Nat)) (h2 : ∀ d ∈ l, d.2 ≤ 1000000) {t : List Wd} (ht : ∀ x, t.head? = some x → x.2.1 ≠ kVar) {m : Nat} (hm : l.length ≤ m) : Rdc (vars z m) (tkV l) t (dV l) 0 l := by
  unfold tkV
  cases l with
  | nil => exact rdc_no (hd_no (by decide) ht) (rdc_pure t [])
  | cons d l =>
    have h3 : Rdc (list z m (decl z)) (commas [cmW] tkD (d :: l)) ([sgW [59]] ++ t) (dV (d :: l)) 0 (d :: l) := list_back (d := dD) (fun x hx => by simp only [List.cons_append, List.head?_cons, Option.some.injEq] at hx; subst hx; decide) (by simp) (fun a ha t' ht' => decl_back z a (h2 a ha) fun x hx => by
      rcases ht' with ht' | rfl
      · rw [ht'] at hx; cases hx; decide
      · simp only [List.cons_append, List.head?_cons, Option.some.injEq] at hx; subst hx; decide) hm
    have h4 := rdc_bind (g := fun l s2 => (take z [59] s2).bind fun _ s3 => PR.ok l s3) h3 (rdc_bind (g := fun _ s3 => PR.ok (d :: l) s3) (rdc_flat z (sgW [59]) rfl rfl _) (rdc_pure t (d :: l)))
    have h5 : Rdc (vars z m) (kW kVar :: (commas [cmW] tkD (d :: l) ++ ([sgW [59]] ++ []))) t _ _ (d :: l) := rdc_yes (hd_yes (x := kW kVar) rfl rfl) (rdc_skip (x := kW kVar) h4)
    exact h5.cast (by simp [kVar]) (by omega) rfl
def dF (f : RF) : Nat := max 1 (1 + max (dV f.vars) (dSs f.body))
def RF.ok (f : RF) : Prop := f.wf = true ∧ ∀ d ∈ f.vars, d.2 ≤ 1000000
theorem function_back (z : Nat) (f : RF) (h : RF.ok f) (t : List Wd) : Evn fun m => Rdc (function z m) (tkF lev f) t (dF f) (nSs f.body) f := by
  obtain ⟨hw, hv⟩ := h
  simp only [RF.wf, Bool.and_eq_true, List.all_eq_true] at hw
  obtain ⟨⟨⟨h1, h2⟩, h3⟩, h4⟩ := hw
  obtain ⟨x, ps, vs, b⟩ := f
  simp only at h1 h2 h3 h4 hv
  obtain ⟨m0, hb⟩ := block_back z b h4 (sgW [125] :: t) (end_rc t) (by simp) []
  refine ⟨m0 + ps.length + vs.length, fun m hm => ?_⟩
  have hb := hb m (by omega)
  have hin : Rdc (fun s4 => (vars z m s4).bind fun vs s5 => (block z m [] s5).bind fun b s6 => .ok (vs, b) s6) (tkV vs ++ (tkSs lev b ++ [])) (sgW [125] :: t) (max (dV vs) (max (dSs b) 0)) (0 + (nSs b + 0)) (vs, b) := by
    refine rdc_bind (g := fun vs s5 => (block z m [] s5).bind fun b s6 => .ok (vs, b) s6) (vars_back z vs hv (fun x hx => ?_) (by omega)) (rdc_bind (g := fun b s6 => PR.ok (vs, b) s6) (by rw [List.nil_append]; exact hb) (rdc_pure _ (vs, b)))
    rw [List.append_nil] at hx
    exact (ss_first b h4 (end_rc t) x hx).2
  have hbr := rdc_within (z := z) (o := [123]) (k := [125]) rfl rfl rfl hin
  have hps : Rdc (args z m (name z)) (sgW [40] :: (commas [cmW] (fun s => [nmW s]) ps ++ [sgW [41]])) (sgW [123] :: (tkV vs ++ (tkSs lev b ++ []) ++ [sgW [125]]) ++ [] ++ t) (1 + ps.foldr (fun _ k => max 0 k) 0) 0 ps := args_back (d := fun _ => 0) (fun a ha y hy => by
      simp only [List.head?_cons, Option.some.injEq] at hy
      subst hy
      exact nokey (h2 a ha) (by decide)) (fun a ha => by simp) (fun a ha t' _ => rdc_name z a t') (by omega)
  have hp0 : ps.foldr (fun _ k => max 0 k) 0 = 0 := by
    clear hps hm h2
    induction ps with
    | nil => rfl
    | cons a l ih => show max 0 (List.foldr _ _ _) = 0; rw [ih]; rfl
  have e4 := rdc_bind (g := fun (y : List (List UInt8 × Nat) × List RS) s7 => PR.ok (⟨x, ps, y.1, y.2⟩ : RF) s7) (a := (vs, b)) (l2 := []) (t := t) (by rw [List.nil_append]; exact hbr) (rdc_pure t (⟨x, ps, vs, b⟩ : RF))
  have e3 := rdc_bind (g := fun ps s3 => (within z [123] (fun s4 => (vars z m s4).bind fun vs s5 => (block z m [] s5).bind fun b s6 => .ok (vs, b) s6) [125] s3).bind fun y s7 => PR.ok (⟨x, ps, y.1, y.2⟩ : RF) s7) hps e4
  have e2 := rdc_bind (g := fun x s2 => (args z m (name z) s2).bind fun ps s3 => (within z [123] (fun s4 => (vars z m s4).bind fun vs s5 => (block z m [] s5).bind fun b s6 => .ok (vs, b) s6) [125] s3).bind fun y s7 => PR.ok (⟨x, ps, y.1, y.2⟩ : RF) s7) (rdc_name z x _) e3
  have e1 := rdc_bind (g := fun _ s1 => (name z s1).bind fun x s2 => (args z m (name z) s2).bind fun ps s3 => (within z [123] (fun s4 => (vars z m s4).bind fun vs s5 => (block z m [] s5).bind fun b s6 => .ok (vs, b) s6) [125] s3).bind fun y s7 => PR.ok (⟨x, ps, y.1, y.2⟩ : RF) s7) (rdc_flat z (kW kFunc) rfl rfl _) e2
  have ef : function z m = fun s => (take z kFunc s).bind fun _ s1 => (name z s1).bind fun x s2 => (args z m (name z) s2).bind fun ps s3 => (within z [123] (fun s4 => (vars z m s4).bind fun vs s5 => (block z m [] s5).bind fun b s6 => .ok (vs, b) s6) [125] s3).bind fun y s7 => PR.ok (⟨x, ps, y.1, y.2⟩ : RF) s7 := funext fun s => by
    unfold function
    have bb : ∀ {α β γ : Type} (r : PR α) (g : α → PS → PR β) (h : β → PS → PR γ), (r.bind g).bind h = r.bind fun a s => (g a s).bind h := fun r g h => by cases r <;> rfl
    unfold within
    simp only [bb]
    rfl
  show Rdc (function z m) _ _ _ _ _
  rw [ef]
  refine e1.cast ?_ ?_ ?_
  · simp [tkF, kFunc]
  · rw [hp0]; unfold dF; simp only; omega
  · simp only; omega
def dP (p : List RF) : Nat := p.foldr (fun f k => max (dF f) k) 0
def nP (p : List RF) : Nat := p.foldr (fun f k => nSs f.body + k) 0
theorem funcs_back (z : Nat) : ∀ (p : List RF) (acc : List RF), (∀ f ∈ p, RF.ok f) → ∃ m0, ∀ m, m0 ≤ m → ∀ k, p.length < k → Rdc (funcs z m k acc) (tkP lev p) [] (dP p) (nP p) (acc ++ p) := by
  intro p
  induction p with
  | nil =>
    intro acc _
    refine ⟨0, fun m _ k hk => ?_⟩
    obtain ⟨k, rfl⟩ : ∃ k', k = k' + 1 := ⟨k - 1, by omega⟩
    intro s hs q1 q2 q3
    have hws : s.ws = [] := by simpa [wds, tkP] using hs
    rw [funcs, if_pos (by rw [hws]; rfl), List.append_nil]
    show PR.ok acc s = .ok acc (adv s 0 0 0)
    rw [adv_zero q1]
  | cons f p ih =>
    intro acc h
    obtain ⟨m1, h1⟩ := function_back z f (h f List.mem_cons_self) (tkP lev p ++ [])
    obtain ⟨m2, h2⟩ := ih (acc ++ [f]) (fun g hg => h g (List.mem_cons_of_mem _ hg))
    refine ⟨m1 + m2, fun m hm k hk => ?_⟩
    simp only [List.length_cons] at hk
    obtain ⟨k, rfl⟩ : ∃ k', k = k' + 1 := ⟨k - 1, by omega⟩
    have h3 := rdc_bind (g := fun f s1 => funcs z m k (acc ++ [f]) s1) (h1 m (by omega)) (h2 m (by omega) k (by omega))
    intro s hs q1 q2 q3
    have hne : s.ws ≠ [] := fun e => by rw [e] at hs; simp [tkP, tkF, wds] at hs
    have e1 : tkP lev (f :: p) = tkF lev f ++ tkP lev p := by simp [tkP]
    rw [e1] at hs ⊢
    rw [funcs, if_neg (by simpa using hne)]
    rw [show acc ++ f :: p = acc ++ [f] ++ p by simp]
    exact h3 s hs q1 q2 q3
theorem program_back (z : Nat) (f : RF) (p : List RF) (h : ∀ g ∈ f :: p, RF.ok g) : Evn fun m => Rdc (program z m) (tkP lev (f :: p)) [] (dP (f :: p)) (nP (f :: p)) (f :: p) := by
  obtain ⟨m1, h1⟩ := function_back z f (h f List.mem_cons_self) (tkP lev p ++ [])
  obtain ⟨m2, h2⟩ := funcs_back z p [f] (fun g hg => h g (List.mem_cons_of_mem _ hg))
  refine ⟨m1 + m2 + p.length + 1, fun m hm => ?_⟩
  have e1 : tkP lev (f :: p) = tkF lev f ++ tkP lev p := by simp [tkP]
  rw [e1]
  exact rdc_bind (g := fun f s1 => funcs z m m [f] s1) (h1 m (by omega)) (h2 m (by omega) m (by omega))
end Go.Proofs.YtgkdoealhbhnmaaGreatDoor.Pm
