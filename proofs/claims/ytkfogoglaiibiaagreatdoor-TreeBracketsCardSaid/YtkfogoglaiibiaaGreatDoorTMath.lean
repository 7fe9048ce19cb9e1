/- Right expressions as plain data; the words that they are put in; two right expressions of the same words are the same. No program stands in this text. -/
import Derived.Test.YtkfogoglaiibiaaGreatDoorLDigits
set_option linter.unusedSimpArgs false
set_option linter.unusedVariables false
namespace Go.Proofs.YtkfogoglaiibiaaGreatDoor
open Go
open Go.Lib (decDigits)

/-- A word, wherever it stands: its kind, its text, its number. -/
abbrev Wd := Nat × List UInt8 × Nat
abbrev sgW (l : List UInt8) : Wd := (4, l, 0)

/-- A right expression. -/
inductive RE where
  | num (n : Int)
  | var (s : List UInt8)
  | idx (s : List UInt8) (e : RE)
  | un (c : UInt8) (e : RE)
  | bin (o : List UInt8) (a b : RE)
deriving DecidableEq

def RE.isBin : RE → Bool
  | .bin .. => true
  | _ => false
def RE.pos : RE → Bool
  | .num n => decide (0 ≤ n)
  | _ => false
def RE.lower (lev : List UInt8 → Int) (k : Int) : RE → Bool
  | .bin o _ _ => decide (lev o < k)
  | _ => false
def unBr (c : UInt8) (e : RE) : Bool := e.isBin || (c == 45 && e.pos)
def utk (b : Bool) (ws : List Wd) : List Wd := if b then sgW [40] :: (ws ++ [sgW [41]]) else ws
def numW (n : Int) : List Wd := if n < 0 then [sgW [45], (2, decDigits n.natAbs, n.natAbs)] else [(2, decDigits n.toNat, n.toNat)]

section
variable (lev : List UInt8 → Int)

/-- The words of an expression. -/
def tkE : RE → List Wd
  | .num n => numW n
  | .var s => [(1, s, 0)]
  | .idx s e => (1, s, 0) :: sgW [91] :: (tkE e ++ [sgW [93]])
  | .un c e => sgW [c] :: utk (unBr c e) (tkE e)
  | .bin o a b => utk (a.lower lev (lev o)) (tkE a) ++ sgW o :: utk (b.lower lev (lev o + 1)) (tkE b)

abbrev Un := Bool × RE
/-- An expression as what stands side by side in it, with the operations between. -/
def flat : RE → Un × List (List UInt8 × Un)
  | .bin o a b =>
    ((if a.lower lev (lev o) then ((true, a), []) else flat a).1,
      (if a.lower lev (lev o) then ((true, a), []) else flat a).2 ++ (o, (if b.lower lev (lev o + 1) then ((true, b), []) else flat b).1) :: (if b.lower lev (lev o + 1) then ((true, b), []) else flat b).2)
  | .num n => ((false, .num n), [])
  | .var s => ((false, .var s), [])
  | .idx s e => ((false, .idx s e), [])
  | .un c e => ((false, .un c e), [])
def fbr (c : Bool) (r : RE) : Un × List (List UInt8 × Un) := if c then ((true, r), []) else flat lev r
theorem flat_bin (o : List UInt8) (a b : RE) : flat lev (.bin o a b) = ((fbr lev (a.lower lev (lev o)) a).1, (fbr lev (a.lower lev (lev o)) a).2 ++ (o, (fbr lev (b.lower lev (lev o + 1)) b).1) :: (fbr lev (b.lower lev (lev o + 1)) b).2) := rfl
theorem flat_not {r : RE} (h : r.isBin = false) : flat lev r = ((false, r), []) := by cases r <;> first | rfl | cases h

def utU (u : Un) : List Wd := utk u.1 (tkE lev u.2)
def tailW (L : List (List UInt8 × Un)) : List Wd := L.flatMap fun x => sgW x.1 :: utU lev x.2
theorem tailW_cons (x : List UInt8 × Un) (L : List (List UInt8 × Un)) : tailW lev (x :: L) = sgW x.1 :: (utU lev x.2 ++ tailW lev L) := by simp [tailW]
theorem tailW_append (L M : List (List UInt8 × Un)) : tailW lev (L ++ M) = tailW lev L ++ tailW lev M := by simp [tailW]
theorem flat_words : ∀ r : RE, tkE lev r = utU lev (flat lev r).1 ++ tailW lev (flat lev r).2
  | .num n => by simp [flat, utU, utk, tailW]
  | .var s => by simp [flat, utU, utk, tailW]
  | .idx s e => by simp [flat, utU, utk, tailW]
  | .un c e => by simp [flat, utU, utk, tailW]
  | .bin o a b => by
    have f : ∀ (c : Bool) (r : RE), tkE lev r = utU lev (flat lev r).1 ++ tailW lev (flat lev r).2 → utk c (tkE lev r) = utU lev (fbr lev c r).1 ++ tailW lev (fbr lev c r).2 := by
      intro c r h
      cases c with
      | false => exact h
      | true => simp [fbr, utU, utk, tailW]
    rw [flat_bin, tailW_append, tailW_cons, ← List.append_assoc, ← f _ a (flat_words a), ← f _ b (flat_words b)]
    rfl

theorem flat_lev : ∀ (r : RE) (k : Int), r.lower lev k = false → ∀ x ∈ (flat lev r).2, k ≤ lev x.1
  | .num n, _, _, x, hx => by simp [flat] at hx
  | .var s, _, _, x, hx => by simp [flat] at hx
  | .idx s e, _, _, x, hx => by simp [flat] at hx
  | .un c e, _, _, x, hx => by simp [flat] at hx
  | .bin o a b, k, h, x, hx => by
    have hk : k ≤ lev o := by simpa [RE.lower] using h
    have f : ∀ (r : RE) (m : Int), k ≤ m → (∀ k, r.lower lev k = false → ∀ x ∈ (flat lev r).2, k ≤ lev x.1) → ∀ x ∈ (fbr lev (r.lower lev m) r).2, k ≤ lev x.1 := by
      intro r m hm ih x hx
      cases hc : r.lower lev m with
      | true => rw [hc] at hx; simp [fbr] at hx
      | false => rw [hc] at hx; exact Int.le_trans hm (ih m hc x hx)
    rw [flat_bin] at hx
    rcases List.mem_append.1 hx with hx | hx
    · exact f a _ hk (fun k => flat_lev a k) x hx
    · rcases List.mem_cons.1 hx with rfl | hx
      · exact hk
      · exact f b _ (by omega) (fun k => flat_lev b k) x hx
theorem fbr_lev (r : RE) (m : Int) : ∀ x ∈ (fbr lev (r.lower lev m) r).2, m ≤ lev x.1 := by
  intro x hx
  cases hc : r.lower lev m with
  | true => rw [hc] at hx; simp [fbr] at hx
  | false => rw [hc] at hx; exact flat_lev lev r m hc x hx

theorem split_one {α : Type} (f : α → Int) {L1 L2 R1 R2 : List α} {x y : α} (h : L1 ++ x :: R1 = L2 ++ y :: R2) (h1 : ∀ z ∈ L1, f x ≤ f z) (h2 : ∀ z ∈ R1, f x < f z) (h3 : ∀ z ∈ L2, f y ≤ f z) (h4 : ∀ z ∈ R2, f y < f z) : L1 = L2 ∧ x = y ∧ R1 = R2 := by
  rcases List.append_eq_append_iff.1 h with ⟨as, e1, e2⟩ | ⟨as, e1, e2⟩
  · cases as with
    | nil => simp at e1 e2; exact ⟨e1.symm, e2.1, e2.2⟩
    | cons z zs =>
      simp only [List.cons_append, List.cons.injEq] at e2
      have a1 := h3 x (by rw [e1, ← e2.1]; simp)
      have a2 := h2 y (by rw [e2.2]; simp)
      omega
  · cases as with
    | nil => simp at e1 e2; exact ⟨e1, e2.1.symm, e2.2.symm⟩
    | cons z zs =>
      simp only [List.cons_append, List.cons.injEq] at e2
      have a1 := h1 y (by rw [e1, ← e2.1]; simp)
      have a2 := h4 x (by rw [e2.2]; simp)
      omega

theorem flat_nil {r : RE} (h : (flat lev r).2 = []) : r.isBin = false := by
  cases r with
  | bin o a b => rw [flat_bin] at h; simp at h
  | _ => rfl
theorem flat_inj : ∀ (r r' : RE), flat lev r = flat lev r' → r = r'
  | .bin o a b, r', h => by
    cases hb : r'.isBin with
    | false => rw [flat_not lev hb, flat_bin] at h; simp at h
    | true =>
      obtain ⟨o', a', b', rfl⟩ : ∃ o' a' b', r' = .bin o' a' b' := by
        cases r' with
        | bin o' a' b' => exact ⟨o', a', b', rfl⟩
        | _ => cases hb
      have f : ∀ (c c' : Bool) (r r' : RE), (∀ r', flat lev r = flat lev r' → r = r') → fbr lev c r = fbr lev c' r' → r = r' := by
        intro c c' r r' ih h
        cases c with
        | false =>
          cases c' with
          | false => exact ih r' h
          | true =>
            have e : flat lev r = ((true, r'), []) := h
            have := flat_not lev (flat_nil lev (by rw [e]))
            rw [e] at this; simp at this
        | true =>
          cases c' with
          | false =>
            have e : ((true, r), []) = flat lev r' := h
            have := flat_not lev (flat_nil lev (by rw [← e]))
            rw [← e] at this; simp at this
          | true =>
            have e : (((true, r), []) : Un × List (List UInt8 × Un)) = ((true, r'), []) := h
            simpa using e
      rw [flat_bin, flat_bin] at h
      simp only [Prod.mk.injEq] at h
      obtain ⟨h1, h2⟩ := h
      obtain ⟨e1, e2, e3⟩ := split_one (fun x => lev x.1) h2 (fbr_lev lev a _) (fun z hz => by have := fbr_lev lev b _ z hz; simp only; omega) (fbr_lev lev a' _) (fun z hz => by have := fbr_lev lev b' _ z hz; simp only; omega)
      simp only [Prod.mk.injEq] at e2
      obtain ⟨rfl, e2⟩ := e2
      rw [f _ _ a a' (flat_inj a) (Prod.ext h1 e1), f _ _ b b' (flat_inj b) (Prod.ext e2 e3)]
  | .num n, r', h => by
    have hb : r'.isBin = false := flat_nil lev (by rw [← h]; rfl)
    rw [flat_not lev hb] at h; simp [flat] at h; exact h
  | .var s, r', h => by
    have hb : r'.isBin = false := flat_nil lev (by rw [← h]; rfl)
    rw [flat_not lev hb] at h; simp [flat] at h; exact h
  | .idx s e, r', h => by
    have hb : r'.isBin = false := flat_nil lev (by rw [← h]; rfl)
    rw [flat_not lev hb] at h; simp [flat] at h; exact h
  | .un c e, r', h => by
    have hb : r'.isBin = false := flat_nil lev (by rw [← h]; rfl)
    rw [flat_not lev hb] at h; simp [flat] at h; exact h

/-- Which expressions may be: of 64 bits, of names, of such operations. -/
def nameOk (s : List UInt8) : Bool := decide (0 < s.length) && decide (s.length ≤ 24) && !isKeyL s && (s.head?.any isLt) && s.all isPt
def ops18 : List (List UInt8) := signsL.take 18
def RE.wf : RE → Bool
  | .num n => decide (-9223372036854775808 ≤ n) && decide (n ≤ 9223372036854775807)
  | .var s => nameOk s
  | .idx s e => nameOk s && e.wf
  | .un c e => (c == 45 || c == 126 || c == 33) && e.wf
  | .bin o a b => ops18.contains o && a.wf && b.wf

/-- What may follow an expression. -/
def stopL : List Wd := [sgW [41], sgW [93], sgW [59], sgW [44]]
def stopW (t : List Wd) : Prop := ∀ x, t.head? = some x → x ∈ stopL
def ustopW (t : List Wd) : Prop := ∀ x, t.head? = some x → x ≠ sgW [91]
theorem stop_op : ∀ x ∈ stopL, ops18.contains x.2.1 = false := by decide
theorem stop_br : ∀ x ∈ stopL, x ≠ sgW [91] := by decide
theorem stop_u {t : List Wd} (h : stopW t) : ustopW t := fun x hx => stop_br x (h x hx)
theorem stop_cons {x : Wd} (h : x ∈ stopL) (t : List Wd) : stopW (x :: t) := fun y hy => by
  simp only [List.head?_cons, Option.some.injEq] at hy; subst hy; exact h

def wfU (u : Un) : Prop := u.2.wf = true ∧ (u.1 = false → u.2.isBin = false)
theorem flat_wf : ∀ (r : RE), r.wf = true → wfU (flat lev r).1 ∧ ∀ x ∈ (flat lev r).2, ops18.contains x.1 = true ∧ wfU x.2
  | .num n, h => ⟨⟨h, fun _ => rfl⟩, fun x hx => by simp [flat] at hx⟩
  | .var s, h => ⟨⟨h, fun _ => rfl⟩, fun x hx => by simp [flat] at hx⟩
  | .idx s e, h => ⟨⟨h, fun _ => rfl⟩, fun x hx => by simp [flat] at hx⟩
  | .un c e, h => ⟨⟨h, fun _ => rfl⟩, fun x hx => by simp [flat] at hx⟩
  | .bin o a b, h => by
    simp only [RE.wf, Bool.and_eq_true] at h
    obtain ⟨⟨ho, ha⟩, hb⟩ := h
    have f : ∀ (c : Bool) (r : RE), r.wf = true → (wfU (flat lev r).1 ∧ ∀ x ∈ (flat lev r).2, ops18.contains x.1 = true ∧ wfU x.2) → wfU (fbr lev c r).1 ∧ ∀ x ∈ (fbr lev c r).2, ops18.contains x.1 = true ∧ wfU x.2 := by
      intro c r hr h
      cases c with
      | false => exact h
      | true => exact ⟨⟨hr, fun e => by cases e⟩, fun x hx => by simp [fbr] at hx⟩
    rw [flat_bin]
    obtain ⟨a1, a2⟩ := f (a.lower lev (lev o)) a ha (flat_wf a ha)
    obtain ⟨b1, b2⟩ := f (b.lower lev (lev o + 1)) b hb (flat_wf b hb)
    refine ⟨a1, fun x hx => ?_⟩
    rcases List.mem_append.1 hx with hx | hx
    · exact a2 x hx
    · rcases List.mem_cons.1 hx with rfl | hx
      · exact ⟨ho, b1⟩
      · exact b2 x hx

theorem numW_inj {n m : Int} (h : numW n = numW m) : n = m := by
  unfold numW at h
  by_cases hn : n < 0
  · by_cases hm : m < 0
    · rw [if_pos hn, if_pos hm] at h; simp only [List.cons.injEq, Prod.mk.injEq] at h; omega
    · rw [if_pos hn, if_neg hm] at h; simp at h
  · by_cases hm : m < 0
    · rw [if_neg hn, if_pos hm] at h; simp at h
    · rw [if_neg hn, if_neg hm] at h; simp only [List.cons.injEq, Prod.mk.injEq] at h; omega

def UInj (n : Nat) : Prop := ∀ (u u' : Un) (t t' : List Wd), (utU lev u).length ≤ n → wfU u → wfU u' → ustopW t → ustopW t' → utU lev u ++ t = utU lev u' ++ t' → u = u' ∧ t = t'
def EInj (n : Nat) : Prop := ∀ (r r' : RE) (t t' : List Wd), (tkE lev r).length ≤ n → r.wf = true → r'.wf = true → stopW t → stopW t' → tkE lev r ++ t = tkE lev r' ++ t' → r = r' ∧ t = t'

theorem tail_ustop (L : List (List UInt8 × Un)) (hL : ∀ x ∈ L, ops18.contains x.1 = true) {t : List Wd} (h : stopW t) : ustopW (tailW lev L ++ t) := by
  cases L with
  | nil => exact stop_u h
  | cons x L =>
    rw [tailW_cons]
    intro y hy
    simp only [List.cons_append, List.head?_cons, Option.some.injEq] at hy
    subst hy
    have := hL x List.mem_cons_self
    intro e
    simp only [Prod.mk.injEq] at e
    rw [e.2.1] at this
    revert this; decide

theorem tail_inj {n : Nat} (P : UInj lev n) : ∀ (L L' : List (List UInt8 × Un)) (t t' : List Wd), (tailW lev L).length ≤ n → (∀ x ∈ L, ops18.contains x.1 = true ∧ wfU x.2) → (∀ x ∈ L', ops18.contains x.1 = true ∧ wfU x.2) → stopW t → stopW t' → tailW lev L ++ t = tailW lev L' ++ t' → L = L' ∧ t = t' := by
  intro L
  induction L with
  | nil =>
    intro L' t t' _ _ h2 s1 s2 e
    cases L' with
    | nil => exact ⟨rfl, e⟩
    | cons x L' =>
      exfalso
      rw [tailW_cons] at e
      have e' : t = sgW x.1 :: (utU lev x.2 ++ tailW lev L' ++ t') := e
      have := stop_op _ (s1 _ (by rw [e']; rfl))
      rw [(h2 x List.mem_cons_self).1] at this; cases this
  | cons x L ih =>
    intro L' t t' hn h1 h2 s1 s2 e
    cases L' with
    | nil =>
      exfalso
      rw [tailW_cons] at e
      have e' : sgW x.1 :: (utU lev x.2 ++ tailW lev L ++ t) = t' := e
      have := stop_op _ (s2 _ (by rw [← e']; rfl))
      rw [(h1 x List.mem_cons_self).1] at this; cases this
    | cons y L' =>
      rw [tailW_cons] at hn
      rw [tailW_cons, tailW_cons] at e
      simp only [List.length_cons, List.length_append] at hn
      simp only [List.cons_append, List.cons.injEq, Prod.mk.injEq, List.append_assoc] at e
      obtain ⟨⟨-, e1, -⟩, e2⟩ := e
      obtain ⟨e3, e4⟩ := P x.2 y.2 _ _ (by omega) (h1 x List.mem_cons_self).2 (h2 y List.mem_cons_self).2 (tail_ustop lev L (fun z hz => (h1 z (List.mem_cons_of_mem _ hz)).1) s1) (tail_ustop lev L' (fun z hz => (h2 z (List.mem_cons_of_mem _ hz)).1) s2) e2
      obtain ⟨e5, e6⟩ := ih L' t t' (by omega) (fun z hz => h1 z (List.mem_cons_of_mem _ hz)) (fun z hz => h2 z (List.mem_cons_of_mem _ hz)) s1 s2 e4
      exact ⟨by rw [e5, show x = y from Prod.ext e1 e3], e6⟩

theorem e_of_u {n : Nat} (P : UInj lev n) : EInj lev n := by
  intro r r' t t' hn h h' s s' e
  rw [flat_words lev r] at hn e
  rw [flat_words lev r', List.append_assoc, List.append_assoc] at e
  obtain ⟨u1, l1⟩ := flat_wf lev r h
  obtain ⟨u2, l2⟩ := flat_wf lev r' h'
  simp only [List.length_append] at hn
  obtain ⟨e1, e2⟩ := P _ _ _ _ (by omega) u1 u2 (tail_ustop lev _ (fun z hz => (l1 z hz).1) s) (tail_ustop lev _ (fun z hz => (l2 z hz).1) s') e
  obtain ⟨e3, e4⟩ := tail_inj lev P _ _ t t' (by omega) l1 l2 s s' e2
  exact ⟨flat_inj lev r r' (Prod.ext e1 e3), e4⟩

/-- The first word of what stands side by side. -/
theorem u_head (u : Un) (h : wfU u) : ∃ x r, utU lev u = x :: r ∧ (x.1 = 2 → u.1 = false ∧ u.2.pos = true) ∧ (x.1 = 4 ∧ (x.2.1 = [40] ∨ x.2.1 = [45] ∨ x.2.1 = [126] ∨ x.2.1 = [33]) ∨ x.1 = 2 ∨ (x.1 = 1 ∧ nameOk x.2.1 = true)) := by
  obtain ⟨b, r⟩ := u
  cases b with
  | true => exact ⟨_, _, rfl, (fun e => by cases e), .inl ⟨rfl, .inl rfl⟩⟩
  | false =>
    obtain ⟨hw, hb⟩ := h
    cases r with
    | num n =>
      simp only [RE.wf, Bool.and_eq_true, decide_eq_true_eq] at hw
      by_cases hn : n < 0
      · exact ⟨sgW [45], [(2, decDigits n.natAbs, n.natAbs)], by simp [utU, utk, tkE, numW, hn], (fun e => by cases e), .inl ⟨rfl, .inr (.inl rfl)⟩⟩
      · exact ⟨(2, decDigits n.toNat, n.toNat), [], by simp [utU, utk, tkE, numW, hn], fun _ => ⟨rfl, by simp [RE.pos]; omega⟩, .inr (.inl rfl)⟩
    | var s => exact ⟨_, _, rfl, (fun e => by cases e), .inr (.inr ⟨rfl, hw⟩)⟩
    | idx s e => exact ⟨_, _, rfl, (fun e => by cases e), .inr (.inr ⟨rfl, (by simp only [RE.wf, Bool.and_eq_true] at hw; exact hw.1)⟩)⟩
    | un c e =>
      simp only [RE.wf, Bool.and_eq_true, Bool.or_eq_true, beq_iff_eq] at hw
      refine ⟨_, _, rfl, (fun e => by cases e), .inl ⟨rfl, ?_⟩⟩
      rcases hw.1 with (rfl | rfl) | rfl
      · exact .inr (.inl rfl)
      · exact .inr (.inr (.inl rfl))
      · exact .inr (.inr (.inr rfl))
    | bin o a b => exact absurd (hb rfl) (by simp [RE.isBin])

theorem un_un (c : UInt8) (e : RE) (h : e.wf = true) : wfU (unBr c e, e) := ⟨h, fun hb => by
  simp only [unBr, Bool.or_eq_false_iff] at hb; exact hb.1⟩

theorem u_inj : ∀ n, UInj lev n := by
  intro n
  induction n with
  | zero =>
    intro u u' t t' hn hu
    obtain ⟨x, r, e, -⟩ := u_head lev u hu
    rw [e] at hn; simp at hn
  | succ n ih =>
    have E := e_of_u lev ih
    intro u u' t t' hn hu hu' s s' e
    have R : ∀ (t : List Wd), stopW (sgW [41] :: t) := fun t => stop_cons (by decide) t
    have R' : ∀ (t : List Wd), stopW (sgW [93] :: t) := fun t => stop_cons (by decide) t
    obtain ⟨b, r⟩ := u
    obtain ⟨b', r'⟩ := u'
    obtain ⟨hw, hb⟩ := hu
    obtain ⟨hw', hb'⟩ := hu'
    simp only at hw hb hw' hb'
    cases b with
    | true =>
      cases b' with
      | true =>
        simp only [utU, utk, if_true, List.cons_append, List.cons.injEq, true_and, List.append_assoc, List.nil_append] at e hn
        simp only [List.length_cons, List.length_append] at hn
        obtain ⟨e1, e2⟩ := E r r' _ _ (by omega) hw hw' (R _) (R _) e
        simp only [List.cons.injEq, true_and] at e2
        exact ⟨by rw [e1], e2⟩
      | false =>
        exfalso
        cases r' with
        | num n => simp only [utU, utk, if_true, Bool.false_eq_true, if_false, tkE, numW, sgW] at e; split at e <;> simp at e
        | var s => simp [utU, utk, tkE, sgW] at e
        | idx s f => simp [utU, utk, tkE, sgW] at e
        | un c f =>
          simp only [RE.wf, Bool.and_eq_true, Bool.or_eq_true, beq_iff_eq] at hw'
          simp [utU, utk, tkE, sgW] at e
          rcases hw'.1 with (h | h) | h <;> (rw [h] at e; exact absurd e.1 (by decide))
        | bin o a b => exact absurd (hb' rfl) (by simp [RE.isBin])
    | false =>
      cases b' with
      | true =>
        exfalso
        cases r with
        | num n => simp only [utU, utk, if_true, Bool.false_eq_true, if_false, tkE, numW, sgW] at e; split at e <;> simp at e
        | var s => simp [utU, utk, tkE, sgW] at e
        | idx s f => simp [utU, utk, tkE, sgW] at e
        | un c f =>
          simp only [RE.wf, Bool.and_eq_true, Bool.or_eq_true, beq_iff_eq] at hw
          simp [utU, utk, tkE, sgW] at e
          rcases hw.1 with (h | h) | h <;> (rw [h] at e; exact absurd e.1 (by decide))
        | bin o a b => exact absurd (hb rfl) (by simp [RE.isBin])
      | false =>
        have U0 : ∀ r, utU lev (false, r) = tkE lev r := fun r => rfl
        rw [U0] at hn
        rw [U0, U0] at e
        -- a number below 0 and the negative of something
        have NU : ∀ (n : Int) (c : UInt8) (f : RE) (t t' : List Wd), f.wf = true → tkE lev (.num n) ++ t = tkE lev (.un c f) ++ t' → False := by
          intro n c f t t' hf e
          obtain ⟨x, rr, ex, hx, -⟩ := u_head lev (unBr c f, f) (un_un c f hf)
          have ex' : utk (unBr c f) (tkE lev f) = x :: rr := ex
          simp only [tkE, numW] at e
          rw [ex'] at e
          split at e
          · simp only [List.cons_append, List.cons.injEq, Prod.mk.injEq, true_and, and_true] at e
            obtain ⟨e1, e2, e3⟩ := e
            obtain ⟨h1, h2⟩ := hx (by rw [← e2])
            simp only at h1 h2
            rw [← e1] at h1
            simp [unBr, h2] at h1
          · simp [sgW] at e
        cases r with
        | num n =>
          cases r' with
          | num m =>
            have e' : numW n ++ t = numW m ++ t' := e
            have : numW n = numW m ∧ t = t' := by
              unfold numW at e' ⊢
              by_cases h1 : n < 0 <;> by_cases h2 : m < 0 <;> simp only [h1, h2, if_true, if_false, List.cons_append, List.nil_append, List.cons.injEq, Prod.mk.injEq, true_and, and_true, and_assoc] at e' ⊢
              · exact e'
              · simp at e'
              · simp at e'
              · exact e'
            rw [numW_inj this.1]; exact ⟨rfl, this.2⟩
          | var s => exfalso; simp only [tkE, numW] at e; split at e <;> simp [sgW] at e
          | idx s f => exfalso; simp only [tkE, numW] at e; split at e <;> simp [sgW] at e
          | un c f =>
            simp only [RE.wf, Bool.and_eq_true] at hw'
            exact (NU n c f t t' hw'.2 e).elim
          | bin o a b => exact absurd (hb' rfl) (by simp [RE.isBin])
        | var x =>
          cases r' with
          | num m => exfalso; simp only [tkE, numW] at e; split at e <;> simp [sgW] at e
          | var y => simp [tkE] at e; exact ⟨by rw [e.1], e.2⟩
          | idx y f =>
            exfalso
            simp only [tkE, List.cons_append, List.nil_append, List.cons.injEq, Prod.mk.injEq, true_and, and_true] at e
            exact s _ (by rw [e.2]; rfl) rfl
          | un c f => simp [tkE, sgW] at e
          | bin o a b => exact absurd (hb' rfl) (by simp [RE.isBin])
        | idx x f =>
          cases r' with
          | num m => exfalso; simp only [tkE, numW] at e; split at e <;> simp [sgW] at e
          | var y =>
            exfalso
            simp only [tkE, List.cons_append, List.nil_append, List.cons.injEq, Prod.mk.injEq, true_and, and_true] at e
            exact s' _ (by rw [← e.2]; rfl) rfl
          | idx y g =>
            simp only [tkE, List.length_cons, List.length_append, List.length_nil] at hn
            simp only [tkE, List.cons_append, List.nil_append, List.cons.injEq, Prod.mk.injEq, true_and, and_true, List.append_assoc] at e
            simp only [RE.wf, Bool.and_eq_true] at hw hw'
            obtain ⟨e1, e2⟩ := E f g _ _ (by omega) hw.2 hw'.2 (R' _) (R' _) e.2
            simp only [List.cons.injEq, true_and] at e2
            exact ⟨by rw [e.1, e1], e2⟩
          | un c g => simp [tkE, sgW] at e
          | bin o a b => exact absurd (hb' rfl) (by simp [RE.isBin])
        | un c f =>
          simp only [RE.wf, Bool.and_eq_true] at hw
          cases r' with
          | num m => exact (NU m c f t' t hw.2 e.symm).elim
          | var y => simp [tkE, sgW] at e
          | idx y g => simp [tkE, sgW] at e
          | un d g =>
            simp only [RE.wf, Bool.and_eq_true] at hw'
            simp only [tkE, List.length_cons] at hn
            simp only [tkE, List.cons_append, List.cons.injEq, Prod.mk.injEq, true_and, and_true] at e
            obtain ⟨e1, e2⟩ := ih (unBr c f, f) (unBr d g, g) t t' (by show (utk (unBr c f) (tkE lev f)).length ≤ n; omega) (un_un c f hw.2) (un_un d g hw'.2) s s' e.2
            simp only [Prod.mk.injEq] at e1
            exact ⟨by rw [e.1, e1.2], e2⟩
          | bin o a b => exact absurd (hb' rfl) (by simp [RE.isBin])
        | bin o a b => exact absurd (hb rfl) (by simp [RE.isBin])

/-- Two right expressions of the same words, up to where each ends, are the same. -/
theorem e_inj (r r' : RE) (t t' : List Wd) (h : r.wf = true) (h' : r'.wf = true) (s : stopW t) (s' : stopW t') (e : tkE lev r ++ t = tkE lev r' ++ t') : r = r' ∧ t = t' :=
  e_of_u lev (u_inj lev _) r r' t t' (Nat.le_refl _) h h' s s' e
end
end Go.Proofs.YtkfogoglaiibiaaGreatDoor
