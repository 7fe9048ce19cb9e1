/- Right expressions as plain data; the words that they are put in; two right expressions of the same words are the same. No program stands in this text. Right statements, functions and programs as plain data; the words that they are put in; two of the same words are the same. No program stands in this text. The texts that right expressions, statements, functions and programs are put as, and the words that they are cut into. No program stands in this text. -/
import Derived.Test.YtppeogcpoplpeaaGreatDoorLDigits
set_option linter.unusedSimpArgs false
set_option linter.unusedVariables false
namespace Go.Proofs.YtppeogcpoplpeaaGreatDoor
open Go
open Go.Lib (decDigits)

/-- A word, wherever it stands: its kind, its text, its number. -/
abbrev Wd := Nat × List UInt8 × Nat
abbrev sgW (l : List UInt8) : Wd := (4, l, 0)

/-- A right expression. -/
inductive RE where
  | num (n : Int)
  | var (s : List UInt8)
  | idx (s : List UInt8) (e : RE)
  | un (c : UInt8) (e : RE)
  | bin (o : List UInt8) (a b : RE)
deriving DecidableEq

def RE.isBin : RE → Bool
  | .bin .. => true
  | _ => false
def RE.pos : RE → Bool
  | .num n => decide (0 ≤ n)
  | _ => false
def RE.lower (lev : List UInt8 → Int) (k : Int) : RE → Bool
  | .bin o _ _ => decide (lev o < k)
  | _ => false
def unBr (c : UInt8) (e : RE) : Bool := e.isBin || (c == 45 && e.pos)
def utk (b : Bool) (ws : List Wd) : List Wd := if b then sgW [40] :: (ws ++ [sgW [41]]) else ws
def numW (n : Int) : List Wd := if n < 0 then [sgW [45], (2, decDigits n.natAbs, n.natAbs)] else [(2, decDigits n.toNat, n.toNat)]

section
variable (lev : List UInt8 → Int)

/-- The words of an expression. -/
def tkE : RE → List Wd
  | .num n => numW n
  | .var s => [(1, s, 0)]
  | .idx s e => (1, s, 0) :: sgW [91] :: (tkE e ++ [sgW [93]])
  | .un c e => sgW [c] :: utk (unBr c e) (tkE e)
  | .bin o a b => utk (a.lower lev (lev o)) (tkE a) ++ sgW o :: utk (b.lower lev (lev o + 1)) (tkE b)

abbrev Un := Bool × RE
/-- An expression as what stands side by side in it, with the operations between. -/
def flat : RE → Un × List (List UInt8 × Un)
  | .bin o a b =>
    ((if a.lower lev (lev o) then ((true, a), []) else flat a).1,
      (if a.lower lev (lev o) then ((true, a), []) else flat a).2 ++ (o, (if b.lower lev (lev o + 1) then ((true, b), []) else flat b).1) :: (if b.lower lev (lev o + 1) then ((true, b), []) else flat b).2)
  | .num n => ((false, .num n), [])
  | .var s => ((false, .var s), [])
  | .idx s e => ((false, .idx s e), [])
  | .un c e => ((false, .un c e), [])
def fbr (c : Bool) (r : RE) : Un × List (List UInt8 × Un) := if c then ((true, r), []) else flat lev r
theorem flat_bin (o : List UInt8) (a b : RE) : flat lev (.bin o a b) = ((fbr lev (a.lower lev (lev o)) a).1, (fbr lev (a.lower lev (lev o)) a).2 ++ (o, (fbr lev (b.lower lev (lev o + 1)) b).1) :: (fbr lev (b.lower lev (lev o + 1)) b).2) := rfl
theorem flat_not {r : RE} (h : r.isBin = false) : flat lev r = ((false, r), []) := by cases r <;> first | rfl | cases h

def utU (u : Un) : List Wd := utk u.1 (tkE lev u.2)
def tailW (L : List (List UInt8 × Un)) : List Wd := L.flatMap fun x => sgW x.1 :: utU lev x.2
theorem tailW_cons (x : List UInt8 × Un) (L : List (List UInt8 × Un)) : tailW lev (x :: L) = sgW x.1 :: (utU lev x.2 ++ tailW lev L) := by simp [tailW]
theorem tailW_append (L M : List (List UInt8 × Un)) : tailW lev (L ++ M) = tailW lev L ++ tailW lev M := by simp [tailW]
theorem flat_words : ∀ r : RE, tkE lev r = utU lev (flat lev r).1 ++ tailW lev (flat lev r).2
  | .num n => by simp [flat, utU, utk, tailW]
  | .var s => by simp [flat, utU, utk, tailW]
  | .idx s e => by simp [flat, utU, utk, tailW]
  | .un c e => by simp [flat, utU, utk, tailW]
  | .bin o a b => by
    have f : ∀ (c : Bool) (r : RE), tkE lev r = utU lev (flat lev r).1 ++ tailW lev (flat lev r).2 → utk c (tkE lev r) = utU lev (fbr lev c r).1 ++ tailW lev (fbr lev c r).2 := by
      intro c r h
      cases c with
      | false => exact h
      | true => simp [fbr, utU, utk, tailW]
    rw [flat_bin, tailW_append, tailW_cons, ← List.append_assoc, ← f _ a (flat_words a), ← f _ b (flat_words b)]
    rfl

theorem flat_lev : ∀ (r : RE) (k : Int), r.lower lev k = false → ∀ x ∈ (flat lev r).2, k ≤ lev x.1
  | .num n, _, _, x, hx => by simp [flat] at hx
  | .var s, _, _, x, hx => by simp [flat] at hx
  | .idx s e, _, _, x, hx => by simp [flat] at hx
  | .un c e, _, _, x, hx => by simp [flat] at hx
  | .bin o a b, k, h, x, hx => by
    have hk : k ≤ lev o := by simpa [RE.lower] using h
    have f : ∀ (r : RE) (m : Int), k ≤ m → (∀ k, r.lower lev k = false → ∀ x ∈ (flat lev r).2, k ≤ lev x.1) → ∀ x ∈ (fbr lev (r.lower lev m) r).2, k ≤ lev x.1 := by
      intro r m hm ih x hx
      cases hc : r.lower lev m with
      | true => rw [hc] at hx; simp [fbr] at hx
      | false => rw [hc] at hx; exact Int.le_trans hm (ih m hc x hx)
    rw [flat_bin] at hx
    rcases List.mem_append.1 hx with hx | hx
    · exact f a _ hk (fun k => flat_lev a k) x hx
    · rcases List.mem_cons.1 hx with rfl | hx
      · exact hk
      · exact f b _ (by omega) (fun k => flat_lev b k) x hx
theorem fbr_lev (r : RE) (m : Int) : ∀ x ∈ (fbr lev (r.lower lev m) r).2, m ≤ lev x.1 := by
  intro x hx
  cases hc : r.lower lev m with
  | true => rw [hc] at hx; simp [fbr] at hx
  | false => rw [hc] at hx; exact flat_lev lev r m hc x hx

theorem split_one {α : Type} (f : α → Int) {L1 L2 R1 R2 : List α} {x y : α} (h : L1 ++ x :: R1 = L2 ++ y :: R2) (h1 : ∀ z ∈ L1, f x ≤ f z) (h2 : ∀ z ∈ R1, f x < f z) (h3 : ∀ z ∈ L2, f y ≤ f z) (h4 : ∀ z ∈ R2, f y < f z) : L1 = L2 ∧ x = y ∧ R1 = R2 := by
  rcases List.append_eq_append_iff.1 h with ⟨as, e1, e2⟩ | ⟨as, e1, e2⟩
  · cases as with
    | nil => simp at e1 e2; exact ⟨e1.symm, e2.1, e2.2⟩
    | cons z zs =>
      simp only [List.cons_append, List.cons.injEq] at e2
      have a1 := h3 x (by rw [e1, ← e2.1]; simp)
      have a2 := h2 y (by rw [e2.2]; simp)
      omega
  · cases as with
    | nil => simp at e1 e2; exact ⟨e1, e2.1.symm, e2.2.symm⟩
    | cons z zs =>
      simp only [List.cons_append, List.cons.injEq] at e2
      have a1 := h1 y (by rw [e1, ← e2.1]; simp)
      have a2 := h4 x (by rw [e2.2]; simp)
      omega

theorem flat_nil {r : RE} (h : (flat lev r).2 = []) : r.isBin = false := by
  cases r with
  | bin o a b => rw [flat_bin] at h; simp at h
  | _ => rfl
theorem flat_inj : ∀ (r r' : RE), flat lev r = flat lev r' → r = r'
  | .bin o a b, r', h => by
    cases hb : r'.isBin with
    | false => rw [flat_not lev hb, flat_bin] at h; simp at h
    | true =>
      obtain ⟨o', a', b', rfl⟩ : ∃ o' a' b', r' = .bin o' a' b' := by
        cases r' with
        | bin o' a' b' => exact ⟨o', a', b', rfl⟩
        | _ => cases hb
      have f : ∀ (c c' : Bool) (r r' : RE), (∀ r', flat lev r = flat lev r' → r = r') → fbr lev c r = fbr lev c' r' → r = r' := by
        intro c c' r r' ih h
        cases c with
        | false =>
          cases c' with
          | false => exact ih r' h
          | true =>
            have e : flat lev r = ((true, r'), []) := h
            have := flat_not lev (flat_nil lev (by rw [e]))
            rw [e] at this; simp at this
        | true =>
          cases c' with
          | false =>
            have e : ((true, r), []) = flat lev r' := h
            have := flat_not lev (flat_nil lev (by rw [← e]))
            rw [← e] at this; simp at this
          | true =>
            have e : (((true, r), []) : Un × List (List UInt8 × Un)) = ((true, r'), []) := h
            simpa using e
      rw [flat_bin, flat_bin] at h
      simp only [Prod.mk.injEq] at h
      obtain ⟨h1, h2⟩ := h
      obtain ⟨e1, e2, e3⟩ := split_one (fun x => lev x.1) h2 (fbr_lev lev a _) (fun z hz => by have := fbr_lev lev b _ z hz; simp only; omega) (fbr_lev lev a' _) (fun z hz => by have := fbr_lev lev b' _ z hz; simp only; omega)
      simp only [Prod.mk.injEq] at e2
      obtain ⟨rfl, e2⟩ := e2
      rw [f _ _ a a' (flat_inj a) (Prod.ext h1 e1), f _ _ b b' (flat_inj b) (Prod.ext e2 e3)]
  | .num n, r', h => by
    have hb : r'.isBin = false := flat_nil lev (by rw [← h]; rfl)
    rw [flat_not lev hb] at h; simp [flat] at h; exact h
  | .var s, r', h => by
    have hb : r'.isBin = false := flat_nil lev (by rw [← h]; rfl)
    rw [flat_not lev hb] at h; simp [flat] at h; exact h
  | .idx s e, r', h => by
    have hb : r'.isBin = false := flat_nil lev (by rw [← h]; rfl)
    rw [flat_not lev hb] at h; simp [flat] at h; exact h
  | .un c e, r', h => by
    have hb : r'.isBin = false := flat_nil lev (by rw [← h]; rfl)
    rw [flat_not lev hb] at h; simp [flat] at h; exact h

/-- Which expressions may be: of 64 bits, of names, of such operations. -/
def nameOk (s : List UInt8) : Bool := decide (0 < s.length) && decide (s.length ≤ 24) && !isKeyL s && (s.head?.any isLt) && s.all isPt
def ops18 : List (List UInt8) := signsL.take 18
def RE.wf : RE → Bool
  | .num n => decide (-9223372036854775808 ≤ n) && decide (n ≤ 9223372036854775807)
  | .var s => nameOk s
  | .idx s e => nameOk s && e.wf
  | .un c e => (c == 45 || c == 126 || c == 33) && e.wf
  | .bin o a b => ops18.contains o && a.wf && b.wf

/-- What may follow an expression. -/
def stopL : List Wd := [sgW [41], sgW [93], sgW [59], sgW [44]]
def stopW (t : List Wd) : Prop := ∀ x, t.head? = some x → x ∈ stopL
def ustopW (t : List Wd) : Prop := ∀ x, t.head? = some x → x ≠ sgW [91]
theorem stop_op : ∀ x ∈ stopL, ops18.contains x.2.1 = false := by decide
theorem stop_br : ∀ x ∈ stopL, x ≠ sgW [91] := by decide
theorem stop_u {t : List Wd} (h : stopW t) : ustopW t := fun x hx => stop_br x (h x hx)
theorem stop_cons {x : Wd} (h : x ∈ stopL) (t : List Wd) : stopW (x :: t) := fun y hy => by
  simp only [List.head?_cons, Option.some.injEq] at hy; subst hy; exact h

def wfU (u : Un) : Prop := u.2.wf = true ∧ (u.1 = false → u.2.isBin = false)
theorem flat_wf : ∀ (r : RE), r.wf = true → wfU (flat lev r).1 ∧ ∀ x ∈ (flat lev r).2, ops18.contains x.1 = true ∧ wfU x.2
  | .num n, h => ⟨⟨h, fun _ => rfl⟩, fun x hx => by simp [flat] at hx⟩
  | .var s, h => ⟨⟨h, fun _ => rfl⟩, fun x hx => by simp [flat] at hx⟩
  | .idx s e, h => ⟨⟨h, fun _ => rfl⟩, fun x hx => by simp [flat] at hx⟩
  | .un c e, h => ⟨⟨h, fun _ => rfl⟩, fun x hx => by simp [flat] at hx⟩
  | .bin o a b, h => by
    simp only [RE.wf, Bool.and_eq_true] at h
    obtain ⟨⟨ho, ha⟩, hb⟩ := h
    have f : ∀ (c : Bool) (r : RE), r.wf = true → (wfU (flat lev r).1 ∧ ∀ x ∈ (flat lev r).2, ops18.contains x.1 = true ∧ wfU x.2) → wfU (fbr lev c r).1 ∧ ∀ x ∈ (fbr lev c r).2, ops18.contains x.1 = true ∧ wfU x.2 := by
      intro c r hr h
      cases c with
      | false => exact h
      | true => exact ⟨⟨hr, fun e => by cases e⟩, fun x hx => by simp [fbr] at hx⟩
    rw [flat_bin]
    obtain ⟨a1, a2⟩ := f (a.lower lev (lev o)) a ha (flat_wf a ha)
    obtain ⟨b1, b2⟩ := f (b.lower lev (lev o + 1)) b hb (flat_wf b hb)
    refine ⟨a1, fun x hx => ?_⟩
    rcases List.mem_append.1 hx with hx | hx
    · exact a2 x hx
    · rcases List.mem_cons.1 hx with rfl | hx
      · exact ⟨ho, b1⟩
      · exact b2 x hx

theorem numW_inj {n m : Int} (h : numW n = numW m) : n = m := by
  unfold numW at h
  by_cases hn : n < 0
  · by_cases hm : m < 0
    · rw [if_pos hn, if_pos hm] at h; simp only [List.cons.injEq, Prod.mk.injEq] at h; omega
    · rw [if_pos hn, if_neg hm] at h; simp at h
  · by_cases hm : m < 0
    · rw [if_neg hn, if_pos hm] at h; simp at h
    · rw [if_neg hn, if_neg hm] at h; simp only [List.cons.injEq, Prod.mk.injEq] at h; omega

def UInj (n : Nat) : Prop := ∀ (u u' : Un) (t t' : List Wd), (utU lev u).length ≤ n → wfU u → wfU u' → ustopW t → ustopW t' → utU lev u ++ t = utU lev u' ++ t' → u = u' ∧ t = t'
def EInj (n : Nat) : Prop := ∀ (r r' : RE) (t t' : List Wd), (tkE lev r).length ≤ n → r.wf = true → r'.wf = true → stopW t → stopW t' → tkE lev r ++ t = tkE lev r' ++ t' → r = r' ∧ t = t'

theorem tail_ustop (L : List (List UInt8 × Un)) (hL : ∀ x ∈ L, ops18.contains x.1 = true) {t : List Wd} (h : stopW t) : ustopW (tailW lev L ++ t) := by
  cases L with
  | nil => exact stop_u h
  | cons x L =>
    rw [tailW_cons]
    intro y hy
    simp only [List.cons_append, List.head?_cons, Option.some.injEq] at hy
    subst hy
    have := hL x List.mem_cons_self
    intro e
    simp only [Prod.mk.injEq] at e
    rw [e.2.1] at this
    revert this; decide

theorem tail_inj {n : Nat} (P : UInj lev n) : ∀ (L L' : List (List UInt8 × Un)) (t t' : List Wd), (tailW lev L).length ≤ n → (∀ x ∈ L, ops18.contains x.1 = true ∧ wfU x.2) → (∀ x ∈ L', ops18.contains x.1 = true ∧ wfU x.2) → stopW t → stopW t' → tailW lev L ++ t = tailW lev L' ++ t' → L = L' ∧ t = t' := by
  intro L
  induction L with
  | nil =>
    intro L' t t' _ _ h2 s1 s2 e
    cases L' with
    | nil => exact ⟨rfl, e⟩
    | cons x L' =>
      exfalso
      rw [tailW_cons] at e
      have e' : t = sgW x.1 :: (utU lev x.2 ++ tailW lev L' ++ t') := e
      have := stop_op _ (s1 _ (by rw [e']; rfl))
      rw [(h2 x List.mem_cons_self).1] at this; cases this
  | cons x L ih =>
    intro L' t t' hn h1 h2 s1 s2 e
    cases L' with
    | nil =>
      exfalso
      rw [tailW_cons] at e
      have e' : sgW x.1 :: (utU lev x.2 ++ tailW lev L ++ t) = t' := e
      have := stop_op _ (s2 _ (by rw [← e']; rfl))
      rw [(h1 x List.mem_cons_self).1] at this; cases this
    | cons y L' =>
      rw [tailW_cons] at hn
      rw [tailW_cons, tailW_cons] at e
      simp only [List.length_cons, List.length_append] at hn
      simp only [List.cons_append, List.cons.injEq, Prod.mk.injEq, List.append_assoc] at e
      obtain ⟨⟨-, e1, -⟩, e2⟩ := e
      obtain ⟨e3, e4⟩ := P x.2 y.2 _ _ (by omega) (h1 x List.mem_cons_self).2 (h2 y List.mem_cons_self).2 (tail_ustop lev L (fun z hz => (h1 z (List.mem_cons_of_mem _ hz)).1) s1) (tail_ustop lev L' (fun z hz => (h2 z (List.mem_cons_of_mem _ hz)).1) s2) e2
      obtain ⟨e5, e6⟩ := ih L' t t' (by omega) (fun z hz => h1 z (List.mem_cons_of_mem _ hz)) (fun z hz => h2 z (List.mem_cons_of_mem _ hz)) s1 s2 e4
      exact ⟨by rw [e5, show x = y from Prod.ext e1 e3], e6⟩

theorem e_of_u {n : Nat} (P : UInj lev n) : EInj lev n := by
  intro r r' t t' hn h h' s s' e
  rw [flat_words lev r] at hn e
  rw [flat_words lev r', List.append_assoc, List.append_assoc] at e
  obtain ⟨u1, l1⟩ := flat_wf lev r h
  obtain ⟨u2, l2⟩ := flat_wf lev r' h'
  simp only [List.length_append] at hn
  obtain ⟨e1, e2⟩ := P _ _ _ _ (by omega) u1 u2 (tail_ustop lev _ (fun z hz => (l1 z hz).1) s) (tail_ustop lev _ (fun z hz => (l2 z hz).1) s') e
  obtain ⟨e3, e4⟩ := tail_inj lev P _ _ t t' (by omega) l1 l2 s s' e2
  exact ⟨flat_inj lev r r' (Prod.ext e1 e3), e4⟩

/-- The first word of what stands side by side. -/
theorem u_head (u : Un) (h : wfU u) : ∃ x r, utU lev u = x :: r ∧ (x.1 = 2 → u.1 = false ∧ u.2.pos = true) ∧ (x.1 = 4 ∧ (x.2.1 = [40] ∨ x.2.1 = [45] ∨ x.2.1 = [126] ∨ x.2.1 = [33]) ∨ x.1 = 2 ∨ (x.1 = 1 ∧ nameOk x.2.1 = true)) := by
  obtain ⟨b, r⟩ := u
  cases b with
  | true => exact ⟨_, _, rfl, (fun e => by cases e), .inl ⟨rfl, .inl rfl⟩⟩
  | false =>
    obtain ⟨hw, hb⟩ := h
    cases r with
    | num n =>
      simp only [RE.wf, Bool.and_eq_true, decide_eq_true_eq] at hw
      by_cases hn : n < 0
      · exact ⟨sgW [45], [(2, decDigits n.natAbs, n.natAbs)], by simp [utU, utk, tkE, numW, hn], (fun e => by cases e), .inl ⟨rfl, .inr (.inl rfl)⟩⟩
      · exact ⟨(2, decDigits n.toNat, n.toNat), [], by simp [utU, utk, tkE, numW, hn], fun _ => ⟨rfl, by simp [RE.pos]; omega⟩, .inr (.inl rfl)⟩
    | var s => exact ⟨_, _, rfl, (fun e => by cases e), .inr (.inr ⟨rfl, hw⟩)⟩
    | idx s e => exact ⟨_, _, rfl, (fun e => by cases e), .inr (.inr ⟨rfl, (by simp only [RE.wf, Bool.and_eq_true] at hw; exact hw.1)⟩)⟩
    | un c e =>
      simp only [RE.wf, Bool.and_eq_true, Bool.or_eq_true, beq_iff_eq] at hw
      refine ⟨_, _, rfl, (fun e => by cases e), .inl ⟨rfl, ?_⟩⟩
      rcases hw.1 with (rfl | rfl) | rfl
      · exact .inr (.inl rfl)
      · exact .inr (.inr (.inl rfl))
      · exact .inr (.inr (.inr rfl))
    | bin o a b => exact absurd (hb rfl) (by simp [RE.isBin])

theorem un_un (c : UInt8) (e : RE) (h : e.wf = true) : wfU (unBr c e, e) := ⟨h, fun hb => by
  simp only [unBr, Bool.or_eq_false_iff] at hb; exact hb.1⟩

theorem u_inj : ∀ n, UInj lev n := by
  intro n
  induction n with
  | zero =>
    intro u u' t t' hn hu
    obtain ⟨x, r, e, -⟩ := u_head lev u hu
    rw [e] at hn; simp at hn
  | succ n ih =>
    have E := e_of_u lev ih
    intro u u' t t' hn hu hu' s s' e
    have R : ∀ (t : List Wd), stopW (sgW [41] :: t) := fun t => stop_cons (by decide) t
    have R' : ∀ (t : List Wd), stopW (sgW [93] :: t) := fun t => stop_cons (by decide) t
    obtain ⟨b, r⟩ := u
    obtain ⟨b', r'⟩ := u'
    obtain ⟨hw, hb⟩ := hu
    obtain ⟨hw', hb'⟩ := hu'
    simp only at hw hb hw' hb'
    cases b with
    | true =>
      cases b' with
      | true =>
        simp only [utU, utk, if_true, List.cons_append, List.cons.injEq, true_and, List.append_assoc, List.nil_append] at e hn
        simp only [List.length_cons, List.length_append] at hn
        obtain ⟨e1, e2⟩ := E r r' _ _ (by omega) hw hw' (R _) (R _) e
        simp only [List.cons.injEq, true_and] at e2
        exact ⟨by rw [e1], e2⟩
      | false =>
        exfalso
        cases r' with
        | num n => simp only [utU, utk, if_true, Bool.false_eq_true, if_false, tkE, numW, sgW] at e; split at e <;> simp at e
        | var s => simp [utU, utk, tkE, sgW] at e
        | idx s f => simp [utU, utk, tkE, sgW] at e
        | un c f =>
          simp only [RE.wf, Bool.and_eq_true, Bool.or_eq_true, beq_iff_eq] at hw'
          simp [utU, utk, tkE, sgW] at e
          rcases hw'.1 with (h | h) | h <;> (rw [h] at e; exact absurd e.1 (by decide))
        | bin o a b => exact absurd (hb' rfl) (by simp [RE.isBin])
    | false =>
      cases b' with
      | true =>
        exfalso
        cases r with
        | num n => simp only [utU, utk, if_true, Bool.false_eq_true, if_false, tkE, numW, sgW] at e; split at e <;> simp at e
        | var s => simp [utU, utk, tkE, sgW] at e
        | idx s f => simp [utU, utk, tkE, sgW] at e
        | un c f =>
          simp only [RE.wf, Bool.and_eq_true, Bool.or_eq_true, beq_iff_eq] at hw
          simp [utU, utk, tkE, sgW] at e
          rcases hw.1 with (h | h) | h <;> (rw [h] at e; exact absurd e.1 (by decide))
        | bin o a b => exact absurd (hb rfl) (by simp [RE.isBin])
      | false =>
        have U0 : ∀ r, utU lev (false, r) = tkE lev r := fun r => rfl
        rw [U0] at hn
        rw [U0, U0] at e
        -- a number below 0 and the negative of something
        have NU : ∀ (n : Int) (c : UInt8) (f : RE) (t t' : List Wd), f.wf = true → tkE lev (.num n) ++ t = tkE lev (.un c f) ++ t' → False := by
          intro n c f t t' hf e
          obtain ⟨x, rr, ex, hx, -⟩ := u_head lev (unBr c f, f) (un_un c f hf)
          have ex' : utk (unBr c f) (tkE lev f) = x :: rr := ex
          simp only [tkE, numW] at e
          rw [ex'] at e
          split at e
          · simp only [List.cons_append, List.cons.injEq, Prod.mk.injEq, true_and, and_true] at e
            obtain ⟨e1, e2, e3⟩ := e
            obtain ⟨h1, h2⟩ := hx (by rw [← e2])
            simp only at h1 h2
            rw [← e1] at h1
            simp [unBr, h2] at h1
          · simp [sgW] at e
        cases r with
        | num n =>
          cases r' with
          | num m =>
            have e' : numW n ++ t = numW m ++ t' := e
            have : numW n = numW m ∧ t = t' := by
              unfold numW at e' ⊢
              by_cases h1 : n < 0 <;> by_cases h2 : m < 0 <;> simp only [h1, h2, if_true, if_false, List.cons_append, List.nil_append, List.cons.injEq, Prod.mk.injEq, true_and, and_true, and_assoc] at e' ⊢
              · exact e'
              · simp at e'
              · simp at e'
              · exact e'
            rw [numW_inj this.1]; exact ⟨rfl, this.2⟩
          | var s => exfalso; simp only [tkE, numW] at e; split at e <;> simp [sgW] at e
          | idx s f => exfalso; simp only [tkE, numW] at e; split at e <;> simp [sgW] at e
          | un c f =>
            simp only [RE.wf, Bool.and_eq_true] at hw'
            exact (NU n c f t t' hw'.2 e).elim
          | bin o a b => exact absurd (hb' rfl) (by simp [RE.isBin])
        | var x =>
          cases r' with
          | num m => exfalso; simp only [tkE, numW] at e; split at e <;> simp [sgW] at e
          | var y => simp [tkE] at e; exact ⟨by rw [e.1], e.2⟩
          | idx y f =>
            exfalso
            simp only [tkE, List.cons_append, List.nil_append, List.cons.injEq, Prod.mk.injEq, true_and, and_true] at e
            exact s _ (by rw [e.2]; rfl) rfl
          | un c f => simp [tkE, sgW] at e
          | bin o a b => exact absurd (hb' rfl) (by simp [RE.isBin])
        | idx x f =>
          cases r' with
          | num m => exfalso; simp only [tkE, numW] at e; split at e <;> simp [sgW] at e
          | var y =>
            exfalso
            simp only [tkE, List.cons_append, List.nil_append, List.cons.injEq, Prod.mk.injEq, true_and, and_true] at e
            exact s' _ (by rw [← e.2]; rfl) rfl
          | idx y g =>
            simp only [tkE, List.length_cons, List.length_append, List.length_nil] at hn
            simp only [tkE, List.cons_append, List.nil_append, List.cons.injEq, Prod.mk.injEq, true_and, and_true, List.append_assoc] at e
            simp only [RE.wf, Bool.and_eq_true] at hw hw'
            obtain ⟨e1, e2⟩ := E f g _ _ (by omega) hw.2 hw'.2 (R' _) (R' _) e.2
            simp only [List.cons.injEq, true_and] at e2
            exact ⟨by rw [e.1, e1], e2⟩
          | un c g => simp [tkE, sgW] at e
          | bin o a b => exact absurd (hb' rfl) (by simp [RE.isBin])
        | un c f =>
          simp only [RE.wf, Bool.and_eq_true] at hw
          cases r' with
          | num m => exact (NU m c f t' t hw.2 e.symm).elim
          | var y => simp [tkE, sgW] at e
          | idx y g => simp [tkE, sgW] at e
          | un d g =>
            simp only [RE.wf, Bool.and_eq_true] at hw'
            simp only [tkE, List.length_cons] at hn
            simp only [tkE, List.cons_append, List.cons.injEq, Prod.mk.injEq, true_and, and_true] at e
            obtain ⟨e1, e2⟩ := ih (unBr c f, f) (unBr d g, g) t t' (by show (utk (unBr c f) (tkE lev f)).length ≤ n; omega) (un_un c f hw.2) (un_un d g hw'.2) s s' e.2
            simp only [Prod.mk.injEq] at e1
            exact ⟨by rw [e.1, e1.2], e2⟩
          | bin o a b => exact absurd (hb' rfl) (by simp [RE.isBin])
        | bin o a b => exact absurd (hb rfl) (by simp [RE.isBin])

/-- Two right expressions of the same words, up to where each ends, are the same. -/
theorem e_inj (r r' : RE) (t t' : List Wd) (h : r.wf = true) (h' : r'.wf = true) (s : stopW t) (s' : stopW t') (e : tkE lev r ++ t = tkE lev r' ++ t') : r = r' ∧ t = t' :=
  e_of_u lev (u_inj lev _) r r' t t' (Nat.le_refl _) h h' s s' e
end
end Go.Proofs.YtppeogcpoplpeaaGreatDoor

set_option linter.unusedSimpArgs false
set_option linter.unusedVariables false
namespace Go.Proofs.YtppeogcpoplpeaaGreatDoor
open Go
open Go.Lib (decDigits)

abbrev kW (l : List UInt8) : Wd := (5, l, 0)
abbrev nmW (l : List UInt8) : Wd := (1, l, 0)

/-- Lists of words with commas between. -/
def commas {α β : Type} (c : List β) (f : α → List β) : List α → List β
  | [] => []
  | [a] => f a
  | a :: b :: l => f a ++ (c ++ commas c f (b :: l))
theorem commas_two {α β : Type} (c : List β) (f : α → List β) (a b : α) (l : List α) : commas c f (a :: b :: l) = f a ++ (c ++ commas c f (b :: l)) := rfl
theorem commas_one {α β : Type} (c : List β) (f : α → List β) (a : α) : commas c f [a] = f a := rfl
abbrev cmW : Wd := sgW [44]
theorem commas_inj {α : Type} (f : α → List Wd) (cl : Wd) (hcl : cl ≠ cmW) (P : α → Prop)
    (hf : ∀ (a a' : α) (t t' : List Wd), P a → P a' → (∀ x, t.head? = some x → x = cl ∨ x = cmW) → (∀ x, t'.head? = some x → x = cl ∨ x = cmW) → f a ++ t = f a' ++ t' → a = a' ∧ t = t')
    (hh : ∀ a, P a → ∃ x r, f a = x :: r ∧ x ≠ cl) :
    ∀ (l l' : List α) (t t' : List Wd), (∀ a ∈ l, P a) → (∀ a ∈ l', P a) → commas [cmW] f l ++ cl :: t = commas [cmW] f l' ++ cl :: t' → l = l' ∧ t = t' := by
  have nil : ∀ (l : List α) (t t' : List Wd), (∀ a ∈ l, P a) → l ≠ [] → cl :: t = commas [cmW] f l ++ cl :: t' → False := by
    intro l t t' hl hne e
    cases l with
    | nil => exact hne rfl
    | cons a l =>
      obtain ⟨x, r, ex, hx⟩ := hh a (hl a List.mem_cons_self)
      cases l with
      | nil => rw [commas_one, ex] at e; simp only [List.cons_append, List.cons.injEq] at e; exact hx e.1.symm
      | cons b l => rw [commas_two, ex] at e; simp only [List.cons_append, List.cons.injEq] at e; exact hx e.1.symm
  have hd : ∀ (x : Wd) (t : List Wd), (x = cl ∨ x = cmW) → ∀ y, (x :: t).head? = some y → y = cl ∨ y = cmW := by
    intro x t h y hy; simp only [List.head?_cons, Option.some.injEq] at hy; subst hy; exact h
  intro l
  induction l with
  | nil =>
    intro l' t t' _ h2 e
    cases l' with
    | nil => simp only [commas, List.nil_append, List.cons.injEq, true_and] at e; exact ⟨rfl, e⟩
    | cons b l' => exact (nil _ t t' h2 (by simp) e).elim
  | cons a l ih =>
    intro l' t t' h1 h2 e
    cases l' with
    | nil => exact (nil _ t' t h1 (by simp) e.symm).elim
    | cons b l' =>
      have pa := h1 a List.mem_cons_self
      have pb := h2 b List.mem_cons_self
      cases l with
      | nil =>
        cases l' with
        | nil =>
          rw [commas_one, commas_one] at e
          obtain ⟨e1, e2⟩ := hf a b _ _ pa pb (hd _ _ (.inl rfl)) (hd _ _ (.inl rfl)) e
          simp only [List.cons.injEq, true_and] at e2
          exact ⟨by rw [e1], e2⟩
        | cons b' l' =>
          exfalso
          rw [commas_one, commas_two, List.append_assoc] at e
          obtain ⟨_, e2⟩ := hf a b _ _ pa pb (hd _ _ (.inl rfl)) (hd _ _ (.inr rfl)) e
          simp only [List.cons_append, List.cons.injEq] at e2
          exact hcl e2.1
      | cons a' l =>
        cases l' with
        | nil =>
          exfalso
          rw [commas_one, commas_two, List.append_assoc] at e
          obtain ⟨_, e2⟩ := hf a b _ _ pa pb (hd _ _ (.inr rfl)) (hd _ _ (.inl rfl)) e
          simp only [List.cons_append, List.cons.injEq] at e2
          exact hcl e2.1.symm
        | cons b' l' =>
          simp only [commas_two, List.append_assoc, List.cons_append, List.nil_append] at e
          obtain ⟨e1, e2⟩ := hf a b _ _ pa pb (hd _ _ (.inr rfl)) (hd _ _ (.inr rfl)) e
          simp only [List.cons.injEq, true_and] at e2
          obtain ⟨e3, e4⟩ := ih (b' :: l') t t' (fun z hz => h1 z (List.mem_cons_of_mem _ hz)) (fun z hz => h2 z (List.mem_cons_of_mem _ hz)) e2
          exact ⟨by rw [e1, e3], e4⟩

section
variable (lev : List UInt8 → Int)

/-- The first word of an expression. -/
theorem e_head (r : RE) (h : r.wf = true) : ∃ x t, tkE lev r = x :: t ∧ (x.1 = 4 ∨ x.1 = 2 ∨ x.1 = 1) ∧ x ≠ sgW [41] := by
  obtain ⟨hu, _⟩ := flat_wf lev r h
  obtain ⟨x, t, e, _, hx⟩ := u_head lev _ hu
  refine ⟨x, t ++ tailW lev (flat lev r).2, by rw [flat_words lev r, e]; rfl, ?_, ?_⟩
  · rcases hx with h | h | h
    · exact .inl h.1
    · exact .inr (.inl h)
    · exact .inr (.inr h.1)
  · intro e
    rw [e] at hx
    revert hx; decide
/-- What follows a name at an expression's beginning is no bracket of a call. -/
theorem e_name (r : RE) (h : r.wf = true) {s : List UInt8} {y : Wd} {t t' : List Wd} (st : stopW t) (e : tkE lev r ++ t = nmW s :: y :: t') : y ≠ sgW [40] := by
  obtain ⟨hu, hl⟩ := flat_wf lev r h
  rw [flat_words lev r, List.append_assoc] at e
  have key : ∀ z, (tailW lev (flat lev r).2 ++ t).head? = some z → z ≠ sgW [40] := by
    intro z hz
    cases e2 : (flat lev r).2 with
    | nil => rw [e2] at hz; exact (by decide : ∀ x ∈ stopL, x ≠ sgW [40]) z (st z hz)
    | cons x L =>
      rw [e2, tailW_cons] at hz
      simp only [List.cons_append, List.head?_cons, Option.some.injEq] at hz
      subst hz
      have := (hl x (by rw [e2]; exact List.mem_cons_self)).1
      intro e
      simp only [Prod.mk.injEq] at e
      rw [e.2.1] at this
      revert this; decide
  obtain ⟨b, u⟩ : Un := (flat lev r).1
  generalize (flat lev r).1 = u at e hu
  obtain ⟨b, u⟩ := u
  cases b with
  | true => simp [utU, utk, sgW] at e
  | false =>
    obtain ⟨hw, hb⟩ := hu
    cases u with
    | num n => simp only [utU, utk, Bool.false_eq_true, if_false, tkE, numW, sgW] at e; split at e <;> simp at e
    | var x =>
      simp only [utU, utk, tkE, Bool.false_eq_true, if_false, List.cons_append, List.nil_append, List.cons.injEq] at e
      exact key y (by rw [e.2]; rfl)
    | idx x f =>
      simp only [utU, utk, tkE, Bool.false_eq_true, if_false, List.cons_append, List.nil_append, List.cons.injEq] at e
      rw [← e.2.1]; decide
    | un c f => simp [utU, utk, tkE, sgW] at e
    | bin o a b => exact absurd (hb rfl) (by simp [RE.isBin])

abbrev tkA (l : List RE) : List Wd := commas [cmW] (tkE lev) l
theorem a_inj (l l' : List RE) (t t' : List Wd) (h : ∀ a ∈ l, a.wf = true) (h' : ∀ a ∈ l', a.wf = true) (e : tkA lev l ++ sgW [41] :: t = tkA lev l' ++ sgW [41] :: t') : l = l' ∧ t = t' := by
  refine commas_inj (tkE lev) (sgW [41]) (by decide) (fun a => a.wf = true) ?_ ?_ l l' t t' h h' e
  · intro a a' t t' ha ha' s s' e
    exact e_inj lev a a' t t' ha ha' (fun x hx => by rcases s x hx with h | h <;> rw [h] <;> decide) (fun x hx => by rcases s' x hx with h | h <;> rw [h] <;> decide) e
  · intro a ha
    obtain ⟨x, t, e, _, hx⟩ := e_head lev a ha
    exact ⟨x, t, e, hx⟩

/-- A right statement: its tag ahead. -/
inductive RS where
  | asg (t : Nat) (x : List UInt8) (e : RE)
  | sto (t : Nat) (x : List UInt8) (i e : RE)
  | rd (t : Nat) (x : List UInt8)
  | call (t : Nat) (x f : List UInt8) (l : List RE)
  | ife (t : Nat) (c : RE) (b l : List RS)
  | whl (t : Nat) (c : RE) (b : List RS)
  | brk (t : Nat)
  | cnt (t : Nat)
  | ret (t : Nat) (e : RE)
  | ass (t : Nat) (e : RE)
def RS.tag : RS → Nat
  | .asg t _ _ => t
  | .sto t _ _ _ => t
  | .rd t _ => t
  | .call t _ _ _ => t
  | .ife t _ _ _ => t
  | .whl t _ _ => t
  | .brk t => t
  | .cnt t => t
  | .ret t _ => t
  | .ass t _ => t
def tgW (t : Nat) : List Wd := if t = 0 then [] else [(3, 64 :: decDigits t, t)]
mutual
def tkB : RS → List Wd
  | .asg _ x e => nmW x :: sgW [61] :: (tkE lev e ++ [sgW [59]])
  | .sto _ x i e => nmW x :: sgW [91] :: (tkE lev i ++ sgW [93] :: sgW [61] :: (tkE lev e ++ [sgW [59]]))
  | .rd _ x => [nmW x, sgW [61], kW [114, 101, 97, 100], sgW [40], sgW [41], sgW [59]]
  | .call _ x f l => nmW x :: sgW [61] :: nmW f :: sgW [40] :: (tkA lev l ++ [sgW [41], sgW [59]])
  | .ife _ c b l => kW [105, 102] :: sgW [40] :: (tkE lev c ++ sgW [41] :: sgW [123] :: (tkSs b ++ sgW [125] :: (if l.isEmpty then [] else kW [101, 108, 115, 101] :: sgW [123] :: (tkSs l ++ [sgW [125]]))))
  | .whl _ c b => kW [119, 104, 105, 108, 101] :: sgW [40] :: (tkE lev c ++ sgW [41] :: sgW [123] :: (tkSs b ++ [sgW [125]]))
  | .brk _ => [kW [98, 114, 101, 97, 107], sgW [59]]
  | .cnt _ => [kW [99, 111, 110, 116, 105, 110, 117, 101], sgW [59]]
  | .ret _ e => kW [114, 101, 116, 117, 114, 110] :: (tkE lev e ++ [sgW [59]])
  | .ass _ e => kW [97, 115, 115, 101, 114, 116] :: sgW [40] :: (tkE lev e ++ [sgW [41], sgW [59]])
def tkSs : List RS → List Wd
  | [] => []
  | s :: l => tgW s.tag ++ (tkB s ++ tkSs l)
end
mutual
def RS.wf : RS → Bool
  | .asg t x e => decide (t ≤ 1000000) && nameOk x && e.wf
  | .sto t x i e => decide (t ≤ 1000000) && nameOk x && i.wf && e.wf
  | .rd t x => decide (t ≤ 1000000) && nameOk x
  | .call t x f l => decide (t ≤ 1000000) && nameOk x && nameOk f && l.all RE.wf
  | .ife t c b l => decide (t ≤ 1000000) && c.wf && wfSs b && wfSs l
  | .whl t c b => decide (t ≤ 1000000) && c.wf && wfSs b
  | .brk t => decide (t ≤ 1000000)
  | .cnt t => decide (t ≤ 1000000)
  | .ret t e => decide (t ≤ 1000000) && e.wf
  | .ass t e => decide (t ≤ 1000000) && e.wf
def wfSs : List RS → Bool
  | [] => true
  | s :: l => s.wf && wfSs l
end

def endW (t : List Wd) : Prop := ∀ x, t.head? = some x → x = sgW [125]
def noElse (t : List Wd) : Prop := ∀ x, t.head? = some x → x ≠ kW [101, 108, 115, 101]
theorem end_rc (t : List Wd) : endW (sgW [125] :: t) := fun x hx => by simp only [List.head?_cons, Option.some.injEq] at hx; exact hx.symm
theorem b_head (s : RS) : ∃ x r, tkB lev s = x :: r ∧ (x.1 = 1 ∨ x.1 = 5) ∧ x ≠ kW [101, 108, 115, 101] ∧ x ≠ kW [118, 97, 114] := by
  cases s <;> exact ⟨_, _, by rw [tkB], by simp, by simp, by simp⟩
theorem s_head (s : RS) (t : List Wd) : ∃ x r, tgW s.tag ++ (tkB lev s ++ t) = x :: r ∧ (x.1 = 1 ∨ x.1 = 5 ∨ x.1 = 3) ∧ x ≠ kW [101, 108, 115, 101] ∧ x ≠ kW [118, 97, 114] := by
  obtain ⟨x, r, e, h1, h2, h3⟩ := b_head lev s
  unfold tgW
  split
  · exact ⟨x, r ++ t, by rw [e]; rfl, by rcases h1 with h | h <;> simp [h], h2, h3⟩
  · exact ⟨_, _, rfl, by simp, by simp, by simp⟩
theorem ss_noElse (l : List RS) {t : List Wd} (h : endW t) : noElse (tkSs lev l ++ t) := by
  cases l with
  | nil => intro x hx; rw [tkSs] at hx; rw [h x hx]; decide
  | cons s l =>
    intro x hx
    rw [tkSs, List.append_assoc, List.append_assoc] at hx
    obtain ⟨y, r, e, _, h2, _⟩ := s_head lev s (tkSs lev l ++ t)
    rw [e] at hx
    simp only [List.head?_cons, Option.some.injEq] at hx
    rw [← hx]; exact h2
theorem tag_inj {a b : Nat} {s s' : RS} {t t' : List Wd} (e : tgW a ++ (tkB lev s ++ t) = tgW b ++ (tkB lev s' ++ t')) : a = b ∧ tkB lev s ++ t = tkB lev s' ++ t' := by
  obtain ⟨x, r, e1, h1, _⟩ := b_head lev s
  obtain ⟨y, r', e2, h2, _⟩ := b_head lev s'
  rw [e1, e2] at e ⊢
  unfold tgW at e
  by_cases ha : a = 0 <;> by_cases hb : b = 0
  · rw [if_pos ha, if_pos hb] at e; exact ⟨by omega, e⟩
  · rw [if_pos ha, if_neg hb] at e
    simp only [List.nil_append, List.cons_append, List.cons.injEq] at e
    rw [e.1] at h1; simp at h1
  · rw [if_neg ha, if_pos hb] at e
    simp only [List.nil_append, List.cons_append, List.cons.injEq] at e
    rw [← e.1] at h2; simp at h2
  · rw [if_neg ha, if_neg hb] at e
    simp only [List.nil_append, List.cons_append, List.cons.injEq, Prod.mk.injEq, true_and] at e ⊢
    exact ⟨e.1.2, e.2⟩

def SInj (n : Nat) : Prop := ∀ (l l' : List RS) (t t' : List Wd), (tkSs lev l).length ≤ n → wfSs l = true → wfSs l' = true → endW t → endW t' → tkSs lev l ++ t = tkSs lev l' ++ t' → l = l' ∧ t = t'
theorem b_inj {n : Nat} (S : SInj lev n) (s s' : RS) (t t' : List Wd) (hn : (tkB lev s).length ≤ n + 1) (h : s.wf = true) (h' : s'.wf = true) (ne : noElse t) (ne' : noElse t') (ht : s.tag = s'.tag) (e : tkB lev s ++ t = tkB lev s' ++ t') : s = s' ∧ t = t' := by
  have st : ∀ {x : Wd}, x ∈ stopL → ∀ t, stopW (x :: t) := fun h t => stop_cons h t
  cases s with
  | asg g x a =>
    simp only [RS.wf, Bool.and_eq_true] at h
    cases s' with
    | asg g' y b =>
      simp only [RS.wf, Bool.and_eq_true] at h'
      simp only [tkB, List.cons_append, List.append_assoc, List.nil_append, List.cons.injEq, Prod.mk.injEq, true_and, and_true] at e
      obtain ⟨e1, e2⟩ := e_inj lev a b _ _ h.2 h'.2 (st (by decide) _) (st (by decide) _) e.2
      simp only [List.cons.injEq, true_and] at e2
      cases ht
      exact ⟨by rw [e.1, e1], e2⟩
    | rd g' y =>
      exfalso
      obtain ⟨x, r, ex, hx, _⟩ := e_head lev a h.2
      simp only [tkB, ex, List.cons_append, List.append_assoc, List.nil_append, List.cons.injEq, Prod.mk.injEq, true_and, and_true] at e
      rw [e.2.1] at hx; simp at hx
    | call g' y f l =>
      exfalso
      simp only [tkB, List.cons_append, List.append_assoc, List.nil_append, List.cons.injEq, Prod.mk.injEq, true_and, and_true] at e
      exact e_name lev a h.2 (st (by decide) _) e.2 rfl
    | _ => simp [tkB] at e
  | sto g x i a =>
    simp only [RS.wf, Bool.and_eq_true] at h
    cases s' with
    | sto g' y j b =>
      simp only [RS.wf, Bool.and_eq_true] at h'
      simp only [tkB, List.cons_append, List.append_assoc, List.nil_append, List.cons.injEq, Prod.mk.injEq, true_and, and_true] at e
      obtain ⟨e1, e2⟩ := e_inj lev i j _ _ h.1.2 h'.1.2 (st (by decide) _) (st (by decide) _) e.2
      simp only [List.cons.injEq, true_and] at e2
      obtain ⟨e3, e4⟩ := e_inj lev a b _ _ h.2 h'.2 (st (by decide) _) (st (by decide) _) e2
      simp only [List.cons.injEq, true_and] at e4
      cases ht
      exact ⟨by rw [e.1, e1, e3], e4⟩
    | _ => simp [tkB] at e
  | rd g x =>
    cases s' with
    | rd g' y =>
      simp only [tkB, List.cons_append, List.append_assoc, List.nil_append, List.cons.injEq, Prod.mk.injEq, true_and, and_true] at e
      cases ht
      exact ⟨by rw [e.1], e.2⟩
    | asg g' y b =>
      exfalso
      simp only [RS.wf, Bool.and_eq_true] at h'
      obtain ⟨x, r, ex, hx, _⟩ := e_head lev b h'.2
      simp only [tkB, ex, List.cons_append, List.append_assoc, List.nil_append, List.cons.injEq, Prod.mk.injEq, true_and, and_true] at e
      rw [← e.2.1] at hx; simp at hx
    | _ => simp [tkB] at e
  | call g x f l =>
    simp only [RS.wf, Bool.and_eq_true, List.all_eq_true] at h
    cases s' with
    | call g' y f' l' =>
      simp only [RS.wf, Bool.and_eq_true, List.all_eq_true] at h'
      simp only [tkB, List.cons_append, List.append_assoc, List.nil_append, List.cons.injEq, Prod.mk.injEq, true_and, and_true] at e
      obtain ⟨e1, e2⟩ := a_inj lev l l' _ _ h.2 h'.2 e.2.2
      simp only [List.cons.injEq, true_and] at e2
      cases ht
      exact ⟨by rw [e.1, e.2.1, e1], e2⟩
    | asg g' y b =>
      exfalso
      simp only [RS.wf, Bool.and_eq_true] at h'
      simp only [tkB, List.cons_append, List.append_assoc, List.nil_append, List.cons.injEq, Prod.mk.injEq, true_and, and_true] at e
      exact e_name lev b h'.2 (st (by decide) _) e.2.symm rfl
    | _ => simp [tkB] at e
  | ife g c b l =>
    simp only [RS.wf, Bool.and_eq_true] at h
    cases s' with
    | ife g' c' b' l' =>
      simp only [RS.wf, Bool.and_eq_true] at h'
      simp only [tkB, List.length_cons, List.length_append] at hn
      simp only [tkB, List.cons_append, List.append_assoc, List.nil_append, List.cons.injEq, Prod.mk.injEq, true_and, and_true] at e
      obtain ⟨e1, e2⟩ := e_inj lev c c' _ _ h.1.1.2 h'.1.1.2 (st (by decide) _) (st (by decide) _) e
      simp only [List.cons.injEq, true_and] at e2
      obtain ⟨e3, e4⟩ := S b b' _ _ (by omega) h.1.2 h'.1.2 (end_rc _) (end_rc _) e2
      simp only [List.cons.injEq, true_and] at e4
      cases ht
      cases l with
      | nil =>
        cases l' with
        | nil =>
          simp only [List.isEmpty_nil, if_true, List.nil_append] at e4
          exact ⟨by rw [e1, e3], e4⟩
        | cons s' l' =>
          exfalso
          simp only [List.isEmpty_nil, List.isEmpty_cons, Bool.false_eq_true, if_false, if_true, List.nil_append, List.cons_append] at e4
          exact ne _ (by rw [e4]; rfl) rfl
      | cons s l =>
        cases l' with
        | nil =>
          exfalso
          simp only [List.isEmpty_nil, List.isEmpty_cons, Bool.false_eq_true, if_false, if_true, List.nil_append, List.cons_append] at e4
          exact ne' _ (by rw [← e4]; rfl) rfl
        | cons s' l' =>
          simp only [List.isEmpty_cons, Bool.false_eq_true, if_false, List.length_cons, List.length_append] at hn
          simp only [List.isEmpty_cons, Bool.false_eq_true, if_false, List.cons_append, List.append_assoc, List.nil_append, List.cons.injEq, true_and] at e4
          obtain ⟨e5, e6⟩ := S (s :: l) (s' :: l') _ _ (by omega) h.2 h'.2 (end_rc _) (end_rc _) e4
          simp only [List.cons.injEq, true_and] at e6
          exact ⟨by rw [e1, e3, e5], e6⟩
    | _ => simp [tkB] at e
  | whl g c b =>
    simp only [RS.wf, Bool.and_eq_true] at h
    cases s' with
    | whl g' c' b' =>
      simp only [RS.wf, Bool.and_eq_true] at h'
      simp only [tkB, List.length_cons, List.length_append] at hn
      simp only [tkB, List.cons_append, List.append_assoc, List.nil_append, List.cons.injEq, Prod.mk.injEq, true_and, and_true] at e
      obtain ⟨e1, e2⟩ := e_inj lev c c' _ _ h.1.2 h'.1.2 (st (by decide) _) (st (by decide) _) e
      simp only [List.cons.injEq, true_and] at e2
      obtain ⟨e3, e4⟩ := S b b' _ _ (by omega) h.2 h'.2 (end_rc _) (end_rc _) e2
      simp only [List.cons.injEq, true_and] at e4
      cases ht
      exact ⟨by rw [e1, e3], e4⟩
    | _ => simp [tkB] at e
  | brk g =>
    cases s' with
    | brk g' =>
      simp only [tkB, List.cons_append, List.nil_append, List.cons.injEq, true_and] at e
      cases ht
      exact ⟨rfl, e⟩
    | _ => simp [tkB] at e
  | cnt g =>
    cases s' with
    | cnt g' =>
      simp only [tkB, List.cons_append, List.nil_append, List.cons.injEq, true_and] at e
      cases ht
      exact ⟨rfl, e⟩
    | _ => simp [tkB] at e
  | ret g a =>
    simp only [RS.wf, Bool.and_eq_true] at h
    cases s' with
    | ret g' b =>
      simp only [RS.wf, Bool.and_eq_true] at h'
      simp only [tkB, List.cons_append, List.append_assoc, List.nil_append, List.cons.injEq, Prod.mk.injEq, true_and, and_true] at e
      obtain ⟨e1, e2⟩ := e_inj lev a b _ _ h.2 h'.2 (st (by decide) _) (st (by decide) _) e
      simp only [List.cons.injEq, true_and] at e2
      cases ht
      exact ⟨by rw [e1], e2⟩
    | _ => simp [tkB] at e
  | ass g a =>
    simp only [RS.wf, Bool.and_eq_true] at h
    cases s' with
    | ass g' b =>
      simp only [RS.wf, Bool.and_eq_true] at h'
      simp only [tkB, List.cons_append, List.append_assoc, List.nil_append, List.cons.injEq, Prod.mk.injEq, true_and, and_true] at e
      obtain ⟨e1, e2⟩ := e_inj lev a b _ _ h.2 h'.2 (st (by decide) _) (st (by decide) _) e
      simp only [List.cons.injEq, true_and] at e2
      cases ht
      exact ⟨by rw [e1], e2⟩
    | _ => simp [tkB] at e

theorem s_inj : ∀ n, SInj lev n := by
  have nil : ∀ (l : List RS) (t t' : List Wd), l ≠ [] → endW t → t = tkSs lev l ++ t' → False := by
    intro l t t' hne ht e
    cases l with
    | nil => exact hne rfl
    | cons s l =>
      rw [tkSs, List.append_assoc, List.append_assoc] at e
      obtain ⟨x, r, ex, hx, _⟩ := s_head lev s (tkSs lev l ++ t')
      rw [ex] at e
      have := ht x (by rw [e]; rfl)
      rw [this] at hx; simp at hx
  have step : ∀ n, (∀ m, m < n → SInj lev m) → SInj lev n := by
    intro n ih l l' t t' hn h h' ht ht' e
    cases l with
    | nil =>
      cases l' with
      | nil => exact ⟨rfl, e⟩
      | cons s' l' => exact (nil (s' :: l') t t' (by simp) ht (by simpa [tkSs] using e)).elim
    | cons s l =>
      cases l' with
      | nil => exact (nil (s :: l) t' t (by simp) ht' (by simpa [tkSs] using e.symm)).elim
      | cons s' l' =>
        obtain ⟨x, r, ex, _⟩ := b_head lev s
        rw [tkSs, tkSs, List.append_assoc, List.append_assoc, List.append_assoc, List.append_assoc] at e
        rw [tkSs, List.length_append, List.length_append] at hn
        simp only [wfSs, Bool.and_eq_true] at h h'
        obtain ⟨e1, e2⟩ := tag_inj lev e
        have hp : 0 < (tkB lev s).length := by rw [ex]; simp
        obtain ⟨m, rfl⟩ : ∃ m, n = m + 1 := ⟨n - 1, by omega⟩
        obtain ⟨e3, e4⟩ := b_inj lev (ih m (by omega)) s s' _ _ (by omega) h.1 h'.1 (ss_noElse lev l ht) (ss_noElse lev l' ht') e1 e2
        obtain ⟨e5, e6⟩ := ih m (by omega) l l' t t' (by omega) h.2 h'.2 ht ht' e4
        exact ⟨by rw [e3, e5], e6⟩
  intro n
  induction n using Nat.strongRecOn with
  | ind n ih => exact step n ih

/-- A right function; a right program. -/
structure RF where
  name : List UInt8
  params : List (List UInt8)
  vars : List (List UInt8 × Nat)
  body : List RS
def tkD (d : List UInt8 × Nat) : List Wd := nmW d.1 :: (if d.2 = 0 then [] else [sgW [91], (2, decDigits d.2, d.2), sgW [93]])
def tkV (l : List (List UInt8 × Nat)) : List Wd := if l.isEmpty then [] else kW [118, 97, 114] :: (commas [cmW] tkD l ++ [sgW [59]])
def tkF (f : RF) : List Wd := kW [102, 117, 110, 99] :: nmW f.name :: sgW [40] :: (commas [cmW] (fun s => [nmW s]) f.params ++ sgW [41] :: sgW [123] :: (tkV f.vars ++ (tkSs lev f.body ++ [sgW [125]])))
def tkP (p : List RF) : List Wd := p.flatMap (tkF lev)
def RF.wf (f : RF) : Bool := nameOk f.name && f.params.all nameOk && f.vars.all (fun d => nameOk d.1 && decide (d.2 ≤ 9223372036854775807)) && wfSs f.body

theorem f_inj (f f' : RF) (t t' : List Wd) (h : f.wf = true) (h' : f'.wf = true) (e : tkF lev f ++ t = tkF lev f' ++ t') : f = f' ∧ t = t' := by
  simp only [RF.wf, Bool.and_eq_true] at h h'
  simp only [tkF, List.cons_append, List.append_assoc, List.nil_append, List.cons.injEq, Prod.mk.injEq, true_and, and_true] at e
  obtain ⟨e1, e2⟩ := e
  obtain ⟨e3, e4⟩ := commas_inj (fun s => [nmW s]) (sgW [41]) (by decide) (fun _ => True) (fun a a' t t' _ _ _ _ e => by simpa using e) (fun a _ => ⟨_, _, rfl, by simp⟩) f.params f'.params _ _ (fun _ _ => trivial) (fun _ _ => trivial) e2
  simp only [List.cons.injEq, true_and] at e4
  have hv : f.vars = f'.vars ∧ tkSs lev f.body ++ sgW [125] :: t = tkSs lev f'.body ++ sgW [125] :: t' := by
    have nv : ∀ (l : List RS) (t u : List Wd), kW [118, 97, 114] :: u = tkSs lev l ++ sgW [125] :: t → False := by
      intro l t u e
      cases l with
      | nil => simp [tkSs] at e
      | cons s l =>
        rw [tkSs, List.append_assoc, List.append_assoc] at e
        obtain ⟨x, r, ex, _, _, hx⟩ := s_head lev s (tkSs lev l ++ sgW [125] :: t)
        rw [ex] at e
        simp only [List.cons.injEq] at e
        exact hx e.1.symm
    unfold tkV at e4
    cases v : f.vars with
    | nil =>
      cases v' : f'.vars with
      | nil => rw [v, v'] at e4; exact ⟨rfl, e4⟩
      | cons d l =>
        rw [v, v'] at e4
        simp only [List.isEmpty_nil, List.isEmpty_cons, if_true, Bool.false_eq_true, if_false, List.nil_append, List.cons_append] at e4
        exact (nv _ _ _ e4.symm).elim
    | cons d l =>
      cases v' : f'.vars with
      | nil =>
        rw [v, v'] at e4
        simp only [List.isEmpty_nil, List.isEmpty_cons, if_true, Bool.false_eq_true, if_false, List.nil_append, List.cons_append] at e4
        exact (nv _ _ _ e4).elim
      | cons d' l' =>
        rw [v, v'] at e4
        simp only [List.isEmpty_cons, Bool.false_eq_true, if_false, List.nil_append, List.cons_append, List.append_assoc, List.cons.injEq, true_and] at e4
        refine commas_inj tkD (sgW [59]) (by decide) (fun _ => True) ?_ (fun a _ => ⟨_, _, rfl, by simp⟩) _ _ _ _ (fun _ _ => trivial) (fun _ _ => trivial) e4
        intro a a' t t' _ _ s s' e
        obtain ⟨a1, a2⟩ := a
        obtain ⟨b1, b2⟩ := a'
        simp only [tkD, List.cons_append, List.cons.injEq, Prod.mk.injEq, true_and, and_true] at e
        obtain ⟨ea, e⟩ := e
        by_cases h1 : a2 = 0 <;> by_cases h2 : b2 = 0
        · rw [if_pos h1, if_pos h2] at e; exact ⟨by rw [ea, h1, h2], e⟩
        · exfalso
          rw [if_pos h1, if_neg h2] at e
          rcases s _ (by rw [List.nil_append] at e; rw [e]; rfl) with h | h <;> exact absurd h (by decide)
        · exfalso
          rw [if_neg h1, if_pos h2] at e
          rcases s' _ (by rw [List.nil_append] at e; rw [← e]; rfl) with h | h <;> exact absurd h (by decide)
        · rw [if_neg h1, if_neg h2] at e
          simp only [List.cons_append, List.nil_append, List.cons.injEq, Prod.mk.injEq, true_and] at e
          exact ⟨by rw [ea, e.1.2], e.2⟩
  obtain ⟨e5, e6⟩ := hv
  obtain ⟨e7, e8⟩ := s_inj lev _ f.body f'.body _ _ (Nat.le_refl _) h.2 h'.2 (end_rc _) (end_rc _) e6
  simp only [List.cons.injEq, true_and] at e8
  refine ⟨?_, e8⟩
  obtain ⟨n, ps, vs, b⟩ := f
  obtain ⟨n', ps', vs', b'⟩ := f'
  simp only at e1 e3 e5 e7
  rw [e1, e3, e5, e7]
/-- Two right programs of the same words are the same. -/
theorem p_inj : ∀ (p p' : List RF), (∀ f ∈ p, f.wf = true) → (∀ f ∈ p', f.wf = true) → tkP lev p = tkP lev p' → p = p' := by
  intro p
  induction p with
  | nil =>
    intro p' _ _ e
    cases p' with
    | nil => rfl
    | cons f p' => simp [tkP, tkF] at e
  | cons f p ih =>
    intro p' h h' e
    cases p' with
    | nil => simp [tkP, tkF] at e
    | cons f' p' =>
      rw [tkP, tkP, List.flatMap_cons, List.flatMap_cons] at e
      obtain ⟨e1, e2⟩ := f_inj lev f f' _ _ (h f List.mem_cons_self) (h' f' List.mem_cons_self) e
      rw [e1, ih p' (fun x hx => h x (List.mem_cons_of_mem _ hx)) (fun x hx => h' x (List.mem_cons_of_mem _ hx)) e2]
end
end Go.Proofs.YtppeogcpoplpeaaGreatDoor

set_option linter.unusedSimpArgs false
set_option linter.unusedVariables false
namespace Go.Proofs.YtppeogcpoplpeaaGreatDoor
open Go
open Go.Lib (decDigits itoa)

/-- A text's words are ws. -/
def Lx (l : List UInt8) (ws : List Wd) : Prop := ∀ p, (lexP p l).1.map (List.map fun t => (t.kind, t.text, t.n)) = some ws
theorem Lx.fn {l : List UInt8} {ws ws' : List Wd} (h : Lx l ws) (h' : Lx l ws') : ws = ws' := by
  have := (h 0).symm.trans (h' 0)
  simpa using this
theorem Lx.nil : Lx [] [] := fun p => by rw [lexP_nil]; rfl
theorem Lx.sp {c : UInt8} {l : List UInt8} {ws : List Wd} (hc : isSp c = true) (h : Lx l ws) : Lx (c :: l) ws := fun p => by rw [lexP_space p l hc]; exact h _
theorem Lx.word {c : UInt8} {r t : List UInt8} {k n : Nat} {ws : List Wd} (hc : isSp c = false) (hw : wordOf (c :: r ++ t) = some (k, (c :: r).length, n)) (h : Lx t ws) : Lx (c :: r ++ t) ((k, c :: r, n) :: ws) := fun p => by
  rw [List.cons_append] at hw ⊢
  rw [lexP_word p (r ++ t) hc hw, ← List.cons_append, List.take_left', List.drop_left']
  · have := h (p + (c :: r).length)
    cases e : (lexP (p + (c :: r).length) t).1 with
    | none => rw [e] at this; cases this
    | some ts =>
      rw [e] at this
      simp only [pre, e, Option.map_some, List.map_cons, Option.some.injEq] at this ⊢
      rw [this]
  · rfl
  · rfl

/-- No letter and no digit begins what follows. -/
def NP (l : List UInt8) : Prop := ∀ c, l.head? = some c → isPt c = false
theorem NP.nil : NP [] := fun c h => by simp at h
theorem NP.cons {c : UInt8} (h : isPt c = false) (l : List UInt8) : NP (c :: l) := fun d hd => by
  simp only [List.head?_cons, Option.some.injEq] at hd; subst hd; exact h
theorem tw_stop {p : UInt8 → Bool} : ∀ (s t : List UInt8), (∀ c ∈ s, p c = true) → (∀ c, t.head? = some c → p c = false) → (s ++ t).takeWhile p = s := by
  intro s
  induction s with
  | nil =>
    intro t _ h
    cases t with
    | nil => rfl
    | cons c r => rw [List.nil_append, List.takeWhile_cons_of_neg (by simp [h c rfl])]
  | cons c r ih =>
    intro t hs h
    rw [List.cons_append, List.takeWhile_cons_of_pos (hs c List.mem_cons_self), ih t (fun d hd => hs d (List.mem_cons_of_mem _ hd)) h]
theorem lt_sp {c : UInt8} (h : isLt c = true) : isSp c = false := by
  cases hs : isSp c with
  | false => rfl
  | true => rw [(sp_not hs).1] at h; cases h
theorem Lx.letters {s t : List UInt8} {ws : List Wd} (h1 : s.head?.any isLt = true) (h2 : s.all isPt = true) (hk : isKeyL s = true ∨ s.length ≤ 24) (ht : NP t) (h : Lx t ws) : Lx (s ++ t) ((if isKeyL s then 5 else 1, s, 0) :: ws) := by
  cases s with
  | nil => simp at h1
  | cons c r =>
    have hc : isLt c = true := by simpa using h1
    have htw : (c :: r ++ t).takeWhile isPt = c :: r := tw_stop _ _ (by simpa using h2) ht
    refine Lx.word (lt_sp hc) ?_ h
    rw [List.cons_append] at htw ⊢
    unfold wordOf
    simp only [hc, if_true, htw]
    cases hkk : isKeyL (c :: r) with
    | true => simp
    | false =>
      rw [hkk] at hk
      have : ¬ 24 < (c :: r).length := by
        rcases hk with h | h
        · cases h
        · omega
      simp only [Bool.false_eq_true, if_false, if_neg this]
theorem Lx.name {s t : List UInt8} {ws : List Wd} (hs : nameOk s = true) (ht : NP t) (h : Lx t ws) : Lx (s ++ t) (nmW s :: ws) := by
  simp only [nameOk, Bool.and_eq_true, decide_eq_true_eq, Bool.not_eq_true'] at hs
  obtain ⟨⟨⟨⟨_, h24⟩, hk⟩, h1⟩, h2⟩ := hs
  have := Lx.letters h1 h2 (.inr h24) ht h
  rwa [hk] at this
theorem Lx.key {s t : List UInt8} {ws : List Wd} (hk : isKeyL s = true) (h1 : s.head?.any isLt = true) (h2 : s.all isPt = true) (ht : NP t) (h : Lx t ws) : Lx (s ++ t) (kW s :: ws) := by
  have := Lx.letters h1 h2 (.inl hk) ht h
  rwa [hk] at this
theorem pt_dg {c : UInt8} (h : isPt c = false) : isDg c = false := by
  unfold isPt at h; simp only [Bool.or_eq_false_iff] at h; exact h.2
theorem Lx.num {u : Nat} {t : List UInt8} {ws : List Wd} (hu : u ≤ 9223372036854775808) (ht : NP t) (h : Lx t ws) : Lx (decDigits u ++ t) ((2, decDigits u, u) :: ws) := by
  have ha := dec_all u
  have hn := num_dec 9223372036854775808 u (by omega)
  cases e : decDigits u with
  | nil => exact absurd e (dec_ne u)
  | cons c r =>
    rw [e] at ha hn
    have hd := ha c List.mem_cons_self
    obtain ⟨hl, hs⟩ := dg_not hd
    have htw : (c :: r ++ t).takeWhile isDg = c :: r := tw_stop _ _ ha (fun d hd => pt_dg (ht d hd))
    refine Lx.word hs ?_ h
    rw [List.cons_append] at htw ⊢
    unfold wordOf
    simp only [hl, hd, if_true, Bool.false_eq_true, if_false, htw, hn]
    rw [if_neg (by omega)]; rfl
theorem Lx.tag {u : Nat} {t : List UInt8} {ws : List Wd} (hu : u ≤ 1000000) (ht : NP t) (h : Lx t ws) : Lx (64 :: decDigits u ++ t) ((3, 64 :: decDigits u, u) :: ws) := by
  have htw : (decDigits u ++ t).takeWhile isDg = decDigits u := tw_stop _ _ (dec_all u) (fun d hd => pt_dg (ht d hd))
  refine Lx.word (by decide) ?_ h
  rw [List.cons_append]
  unfold wordOf
  simp only [show isLt 64 = false by decide, show isDg 64 = false by decide, show ((64 : UInt8).toNat == 64) = true by decide, if_true, Bool.false_eq_true, if_false, htw, num_dec 1000000 u (by omega)]
  rw [if_neg (by omega)]
  simp [Nat.add_comm]

theorem sign_head : ∀ s ∈ signsL, ∀ c, s.head? = some c → isLt c = false ∧ isDg c = false ∧ (c.toNat == 64) = false ∧ isSp c = false := by decide
theorem Lx.sign {s t : List UInt8} {ws : List Wd} (hs : s ∈ signsL) (hl : longest (s ++ t) = s) (h : Lx t ws) : Lx (s ++ t) (sgW s :: ws) := by
  cases s with
  | nil => exact absurd hs (by decide)
  | cons c r =>
    obtain ⟨h1, h2, h3, h4⟩ := sign_head _ hs c rfl
    refine Lx.word h4 ?_ h
    rw [List.cons_append] at hl ⊢
    unfold wordOf
    simp only [h1, h2, h3, if_true, Bool.false_eq_true, if_false, hl]
    simp
theorem longest_one {c : UInt8} {t : List UInt8} (hc : [c] ∈ signsL) (hn : ∀ d, t.head? = some d → [c, d] ∉ signsL) : longest ([c] ++ t) = [c] := by
  obtain ⟨h1, h2⟩ := longest_is ([c] ++ t)
  have h3 := longest_most ([c] ++ t) [c] hc (List.prefix_append _ _)
  have h4 := longest_len ([c] ++ t)
  have h5 : longest ([c] ++ t) ∈ signsL := h1.resolve_left (fun e => by rw [e] at h3; simp at h3)
  have e := List.prefix_iff_eq_take.1 h2
  have h3' : 1 ≤ (longest ([c] ++ t)).length := h3
  have h6 : (longest ([c] ++ t)).length = 1 ∨ (longest ([c] ++ t)).length = 2 := by omega
  rcases h6 with h6 | h6
  · rw [h6] at e; rw [e]; rfl
  · exfalso
    rw [h6] at e
    cases t with
    | nil => rw [e] at h6; simp at h6
    | cons d r => exact hn d rfl (by rw [← show longest ([c] ++ d :: r) = [c, d] from e]; exact h5)
theorem longest_two {c d : UInt8} {t : List UInt8} (hc : [c, d] ∈ signsL) : longest ([c, d] ++ t) = [c, d] := by
  have h2 := (longest_is ([c, d] ++ t)).2
  have h3 := longest_most ([c, d] ++ t) [c, d] hc (List.prefix_append _ _)
  have h4 := longest_len ([c, d] ++ t)
  have e := List.prefix_iff_eq_take.1 h2
  have h3' : 2 ≤ (longest ([c, d] ++ t)).length := h3
  rw [show (longest ([c, d] ++ t)).length = 2 by omega] at e
  rw [e]; rfl
/-- A sign that no other sign begins with. -/
def loneS (c : UInt8) : Bool := signsL.contains [c] && signsL.all fun s => s.head? != some c || s == [c]
theorem Lx.lone {c : UInt8} {t : List UInt8} {ws : List Wd} (hc : loneS c = true) (h : Lx t ws) : Lx (c :: t) (sgW [c] :: ws) := by
  simp only [loneS, Bool.and_eq_true, List.all_eq_true, List.contains_iff_mem] at hc
  refine Lx.sign (s := [c]) hc.1 (longest_one hc.1 fun d _ hm => ?_) h
  have := hc.2 _ hm
  simp at this
theorem op_spaced : ∀ s ∈ signsL, ∀ t, longest (s ++ 32 :: t) = s := by
  intro s hs t
  have h : s.length = 1 ∨ s.length = 2 := (by decide : ∀ s ∈ signsL, s.length = 1 ∨ s.length = 2) s hs
  rcases h with h | h
  · obtain ⟨c, rfl⟩ := List.length_eq_one_iff.1 h
    refine longest_one hs fun d hd hm => ?_
    simp only [List.head?_cons, Option.some.injEq] at hd
    have := sp_sign _ hm 32 (by rw [hd]; simp)
    revert this; decide
  · match s, h, hs with
    | [c, d], _, hs => exact longest_two hs
theorem Lx.op {s t : List UInt8} {ws : List Wd} (hs : s ∈ signsL) (h : Lx t ws) : Lx (s ++ 32 :: t) (sgW s :: ws) :=
  Lx.sign hs (op_spaced s hs t) (Lx.sp (by decide) h)
theorem op_in {o : List UInt8} (h : ops18.contains o = true) : o ∈ signsL := by
  rw [List.contains_iff_mem] at h
  exact List.mem_of_mem_take h

section
variable (lev : List UInt8 → Int)
def inBr (b : Bool) (l : List UInt8) : List UInt8 := if b then 40 :: (l ++ [41]) else l
/-- The text of an expression. -/
def putR : RE → List UInt8
  | .num n => itoa n
  | .var s => s
  | .idx s e => s ++ 91 :: (putR e ++ [93])
  | .un c e => c :: inBr (unBr c e) (putR e)
  | .bin o a b => inBr (a.lower lev (lev o)) (putR a) ++ 32 :: (o ++ 32 :: inBr (b.lower lev (lev o + 1)) (putR b))

theorem num_lx (n : Int) (h : (-9223372036854775808 ≤ n ∧ n ≤ 9223372036854775807)) {t : List UInt8} {ws : List Wd} (ht : NP t) (hx : Lx t ws) : Lx (itoa n ++ t) (numW n ++ ws) := by
  unfold itoa numW
  by_cases hn : n < 0
  · rw [if_pos hn, if_pos hn]
    exact Lx.lone (by decide) (Lx.num (by omega) ht hx)
  · rw [if_neg hn, if_neg hn]
    exact Lx.num (by omega) ht hx
theorem itoa_head (n : Int) : ∃ c r, itoa n = c :: r ∧ c ≠ 61 := by
  unfold itoa
  split
  · exact ⟨_, _, rfl, by decide⟩
  · cases e : decDigits n.toNat with
    | nil => exact absurd e (dec_ne _)
    | cons c r => exact ⟨c, r, rfl, fun h => by have := dec_all n.toNat c (by rw [e]; simp); rw [h] at this; revert this; decide⟩
theorem name_head {s : List UInt8} (h : nameOk s = true) : ∃ c r, s = c :: r ∧ isLt c = true := by
  simp only [nameOk, Bool.and_eq_true] at h
  cases s with
  | nil => exact absurd h.1.1.1.1 (by simp)
  | cons c r => exact ⟨c, r, rfl, by simpa using h.1.2⟩
theorem lt_eq {c : UInt8} (h : isLt c = true) : c ≠ 61 := fun e => by rw [e] at h; revert h; decide
theorem put_head : ∀ (r : RE), r.wf = true → ∃ c l, putR lev r = c :: l ∧ c ≠ 61
  | .num n, _ => itoa_head n
  | .var s, h => by
    obtain ⟨c, r, e, hc⟩ := name_head h
    exact ⟨c, r, e, lt_eq hc⟩
  | .idx s e, h => by
    simp only [RE.wf, Bool.and_eq_true] at h
    obtain ⟨c, r, e, hc⟩ := name_head h.1
    exact ⟨c, _, by rw [putR, e]; rfl, lt_eq hc⟩
  | .un c e, h => by
    simp only [RE.wf, Bool.and_eq_true, Bool.or_eq_true, beq_iff_eq] at h
    refine ⟨c, _, rfl, ?_⟩
    rcases h.1 with (h | h) | h <;> rw [h] <;> decide
  | .bin o a b, h => by
    simp only [RE.wf, Bool.and_eq_true] at h
    obtain ⟨c, l, e, hc⟩ := put_head a h.1.2
    rw [putR]
    unfold inBr
    split
    · exact ⟨_, _, rfl, by decide⟩
    · exact ⟨c, _, by rw [e]; rfl, hc⟩
theorem inBr_head (b : Bool) (r : RE) (h : r.wf = true) : ∃ c l, inBr b (putR lev r) = c :: l ∧ c ≠ 61 := by
  unfold inBr
  split
  · exact ⟨_, _, rfl, by decide⟩
  · exact put_head lev r h
theorem put_lx : ∀ (r : RE), r.wf = true → ∀ (t : List UInt8) (ws : List Wd), NP t → Lx t ws → Lx (putR lev r ++ t) (tkE lev r ++ ws) := by
  have br : ∀ (b : Bool) (r : RE), (∀ (t : List UInt8) (ws : List Wd), NP t → Lx t ws → Lx (putR lev r ++ t) (tkE lev r ++ ws)) → ∀ (t : List UInt8) (ws : List Wd), NP t → Lx t ws → Lx (inBr b (putR lev r) ++ t) (utk b (tkE lev r) ++ ws) := by
    intro b r ih t ws ht hx
    cases b with
    | false => exact ih t ws ht hx
    | true =>
      simp only [inBr, utk, if_true, List.cons_append, List.append_assoc, List.nil_append]
      exact Lx.lone (by decide) (ih _ _ (NP.cons (by decide) _) (Lx.lone (by decide) hx))
  intro r
  induction r with
  | num n =>
    intro h t ws ht hx
    simp only [RE.wf, Bool.and_eq_true, decide_eq_true_eq] at h
    exact num_lx n h ht hx
  | var s => intro h t ws ht hx; exact Lx.name h ht hx
  | idx s e ih =>
    intro h t ws ht hx
    simp only [RE.wf, Bool.and_eq_true] at h
    simp only [putR, tkE, List.cons_append, List.append_assoc, List.nil_append]
    exact Lx.name h.1 (NP.cons (by decide) _) (Lx.lone (by decide) (ih h.2 _ _ (NP.cons (by decide) _) (Lx.lone (by decide) hx)))
  | un c e ih =>
    intro h t ws ht hx
    simp only [RE.wf, Bool.and_eq_true, Bool.or_eq_true, beq_iff_eq] at h
    simp only [putR, tkE, List.cons_append]
    have hb := br (unBr c e) e (ih h.2) t ws ht hx
    rcases h.1 with (hc | hc) | hc
    · subst hc; exact Lx.lone (by decide) hb
    · subst hc; exact Lx.lone (by decide) hb
    · subst hc
      refine Lx.sign (s := [33]) (by decide) (longest_one (by decide) fun d hd => ?_) hb
      obtain ⟨x, l, ex, hx⟩ := inBr_head lev (unBr 33 e) e h.2
      rw [ex] at hd
      have hd' : x = d := by simpa using hd
      subst hd'
      intro hm
      have : x = 61 := by
        have := (by decide : ∀ s ∈ signsL, s.head? = some 33 → s = [33] ∨ s = [33, 61]) _ hm rfl
        rcases this with h | h
        · simp at h
        · simpa using h
      exact hx this
  | bin o a b iha ihb =>
    intro h t ws ht hx
    simp only [RE.wf, Bool.and_eq_true] at h
    simp only [putR, tkE, List.cons_append, List.append_assoc, List.nil_append]
    exact br _ a (iha h.1.2) _ _ (NP.cons (by decide) _) (Lx.sp (by decide) (Lx.op (op_in h.1.1) (br _ b (ihb h.2) _ _ ht hx)))
/-- Two right expressions of one text are the same. -/
theorem put_inj (r r' : RE) (h : r.wf = true) (h' : r'.wf = true) (e : putR lev r = putR lev r') : r = r' := by
  have h1 := put_lx lev r h [] [] NP.nil Lx.nil
  have h2 := put_lx lev r' h' [] [] NP.nil Lx.nil
  rw [e] at h1
  exact (e_inj lev r r' [] [] h h' (fun x hx => by simp at hx) (fun x hx => by simp at hx) (h1.fn h2)).1

/-- The lines of statements, within d blocks. -/
def tabsT (d : Nat) : List UInt8 := List.replicate d 9
def tagT (t : Nat) : List UInt8 := if t = 0 then [] else 64 :: (decDigits t ++ [32])
def putA (l : List RE) : List UInt8 := commas [44, 32] (putR lev) l
mutual
def putB (d : Nat) : RS → List UInt8
  | .asg _ x e => x ++ 32 :: 61 :: 32 :: (putR lev e ++ [59])
  | .sto _ x i e => x ++ 91 :: (putR lev i ++ 93 :: 32 :: 61 :: 32 :: (putR lev e ++ [59]))
  | .rd _ x => x ++ [32, 61, 32, 114, 101, 97, 100, 40, 41, 59]
  | .call _ x f l => x ++ 32 :: 61 :: 32 :: (f ++ 40 :: (putA lev l ++ [41, 59]))
  | .ife _ c b l => [105, 102] ++ 32 :: 40 :: (putR lev c ++ 41 :: 32 :: 123 :: 10 :: (putL (d + 1) b ++ (tabsT d ++ 125 :: (if l.isEmpty then [] else 32 :: ([101, 108, 115, 101] ++ 32 :: 123 :: 10 :: (putL (d + 1) l ++ (tabsT d ++ [125])))))))
  | .whl _ c b => [119, 104, 105, 108, 101] ++ 32 :: 40 :: (putR lev c ++ 41 :: 32 :: 123 :: 10 :: (putL (d + 1) b ++ (tabsT d ++ [125])))
  | .brk _ => [98, 114, 101, 97, 107] ++ [59]
  | .cnt _ => [99, 111, 110, 116, 105, 110, 117, 101] ++ [59]
  | .ret _ e => [114, 101, 116, 117, 114, 110] ++ 32 :: (putR lev e ++ [59])
  | .ass _ e => [97, 115, 115, 101, 114, 116] ++ 40 :: (putR lev e ++ [41, 59])
def putL (d : Nat) : List RS → List UInt8
  | [] => []
  | s :: l => tabsT d ++ (tagT s.tag ++ (putB d s ++ 10 :: putL d l))
end
theorem putL_cons (d : Nat) (s : RS) (l : List RS) : putL lev d (s :: l) = tabsT d ++ (tagT s.tag ++ (putB lev d s ++ 10 :: putL lev d l)) := by rw [putL]
theorem putL_append (d : Nat) (l m : List RS) : putL lev d (l ++ m) = putL lev d l ++ putL lev d m := by
  induction l with
  | nil => rw [putL]; rfl
  | cons s l ih => rw [List.cons_append, putL_cons, putL_cons, ih]; simp only [List.append_assoc, List.cons_append]

theorem tabs_lx (d : Nat) {t : List UInt8} {ws : List Wd} (h : Lx t ws) : Lx (tabsT d ++ t) ws := by
  induction d with
  | zero => exact h
  | succ d ih => exact Lx.sp (by decide) ih
theorem tag_lx (n : Nat) (hn : n ≤ 1000000) {t : List UInt8} {ws : List Wd} (h : Lx t ws) : Lx (tagT n ++ t) (tgW n ++ ws) := by
  unfold tagT tgW
  split
  · exact h
  · rw [List.cons_append, List.append_assoc]
    exact Lx.tag hn (NP.cons (by decide) _) (Lx.sp (by decide) h)
theorem commas_lx {α : Type} (f : α → List UInt8) (g : α → List Wd) : ∀ (l : List α), (∀ a ∈ l, ∀ (t : List UInt8) (ws : List Wd), NP t → Lx t ws → Lx (f a ++ t) (g a ++ ws)) → ∀ (t : List UInt8) (ws : List Wd), NP t → Lx t ws → Lx (commas [44, 32] f l ++ t) (commas [cmW] g l ++ ws) := by
  intro l
  induction l with
  | nil => intro _ t ws _ h; exact h
  | cons a l ih =>
    intro hf t ws ht h
    cases l with
    | nil => exact hf a List.mem_cons_self t ws ht h
    | cons b l =>
      have := ih (fun z hz => hf z (List.mem_cons_of_mem _ hz)) t ws ht h
      rw [commas_two, commas_two]
      simp only [List.append_assoc, List.cons_append, List.nil_append]
      exact hf a List.mem_cons_self _ _ (NP.cons (by decide) _) (Lx.lone (by decide) (Lx.sp (by decide) this))
theorem a_lx (l : List RE) (hl : ∀ a ∈ l, a.wf = true) (t : List UInt8) (ws : List Wd) (ht : NP t) (h : Lx t ws) : Lx (putA lev l ++ t) (tkA lev l ++ ws) :=
  commas_lx (putR lev) (tkE lev) l (fun a ha t ws => put_lx lev a (hl a ha) t ws) t ws ht h

mutual
theorem b_lx (d : Nat) : ∀ (s : RS), s.wf = true → ∀ (t : List UInt8) (ws : List Wd), NP t → Lx t ws → Lx (putB lev d s ++ t) (tkB lev s ++ ws)
  | .asg g x e, h, t, ws, ht, hx => by
    simp only [RS.wf, Bool.and_eq_true] at h
    simp only [putB, tkB, List.cons_append, List.append_assoc, List.nil_append]
    exact Lx.name h.1.2 (NP.cons (by decide) _) (Lx.sp (by decide) (Lx.op (s := [61]) (by decide) (put_lx lev e h.2 _ _ (NP.cons (by decide) _) (Lx.lone (by decide) hx))))
  | .sto g x i e, h, t, ws, ht, hx => by
    simp only [RS.wf, Bool.and_eq_true] at h
    simp only [putB, tkB, List.cons_append, List.append_assoc, List.nil_append]
    exact Lx.name h.1.1.2 (NP.cons (by decide) _) (Lx.lone (by decide) (put_lx lev i h.1.2 _ _ (NP.cons (by decide) _) (Lx.lone (by decide) (Lx.sp (by decide) (Lx.op (s := [61]) (by decide) (put_lx lev e h.2 _ _ (NP.cons (by decide) _) (Lx.lone (by decide) hx)))))))
  | .rd g x, h, t, ws, ht, hx => by
    simp only [RS.wf, Bool.and_eq_true] at h
    simp only [putB, tkB, List.cons_append, List.append_assoc, List.nil_append]
    exact Lx.name h.2 (NP.cons (by decide) _) (Lx.sp (by decide) (Lx.op (s := [61]) (by decide) (Lx.key (s := [114, 101, 97, 100]) (by decide) (by decide) (by decide) (NP.cons (by decide) _) (Lx.lone (by decide) (Lx.lone (by decide) (Lx.lone (by decide) hx))))))
  | .call g x f l, h, t, ws, ht, hx => by
    simp only [RS.wf, Bool.and_eq_true, List.all_eq_true] at h
    simp only [putB, tkB, List.cons_append, List.append_assoc, List.nil_append]
    exact Lx.name h.1.1.2 (NP.cons (by decide) _) (Lx.sp (by decide) (Lx.op (s := [61]) (by decide) (Lx.name h.1.2 (NP.cons (by decide) _) (Lx.lone (by decide) (a_lx lev l h.2 _ _ (NP.cons (by decide) _) (Lx.lone (by decide) (Lx.lone (by decide) hx)))))))
  | .ife g c b l, h, t, ws, ht, hx => by
    simp only [RS.wf, Bool.and_eq_true] at h
    simp only [putB, tkB, List.cons_append, List.append_assoc, List.nil_append]
    refine Lx.key (s := [105, 102]) (by decide) (by decide) (by decide) (NP.cons (by decide) _) (Lx.sp (by decide) (Lx.lone (by decide) (put_lx lev c h.1.1.2 _ _ (NP.cons (by decide) _) (Lx.lone (by decide) (Lx.sp (by decide) (Lx.lone (by decide) (Lx.sp (by decide) (l_lx (d + 1) b h.1.2 _ _ (tabs_lx d (Lx.lone (by decide) ?_))))))))))
    cases l with
    | nil => exact hx
    | cons s l =>
      simp only [List.isEmpty_cons, Bool.false_eq_true, if_false, List.cons_append, List.append_assoc, List.nil_append]
      exact Lx.sp (by decide) (Lx.key (s := [101, 108, 115, 101]) (by decide) (by decide) (by decide) (NP.cons (by decide) _) (Lx.sp (by decide) (Lx.lone (by decide) (Lx.sp (by decide) (l_lx (d + 1) (s :: l) h.2 _ _ (tabs_lx d (Lx.lone (by decide) hx)))))))
  | .whl g c b, h, t, ws, ht, hx => by
    simp only [RS.wf, Bool.and_eq_true] at h
    simp only [putB, tkB, List.cons_append, List.append_assoc, List.nil_append]
    exact Lx.key (s := [119, 104, 105, 108, 101]) (by decide) (by decide) (by decide) (NP.cons (by decide) _) (Lx.sp (by decide) (Lx.lone (by decide) (put_lx lev c h.1.2 _ _ (NP.cons (by decide) _) (Lx.lone (by decide) (Lx.sp (by decide) (Lx.lone (by decide) (Lx.sp (by decide) (l_lx (d + 1) b h.2 _ _ (tabs_lx d (Lx.lone (by decide) hx))))))))))
  | .brk g, h, t, ws, ht, hx => Lx.key (s := [98, 114, 101, 97, 107]) (by decide) (by decide) (by decide) (NP.cons (by decide) _) (Lx.lone (by decide) hx)
  | .cnt g, h, t, ws, ht, hx => Lx.key (s := [99, 111, 110, 116, 105, 110, 117, 101]) (by decide) (by decide) (by decide) (NP.cons (by decide) _) (Lx.lone (by decide) hx)
  | .ret g e, h, t, ws, ht, hx => by
    simp only [RS.wf, Bool.and_eq_true] at h
    simp only [putB, tkB, List.cons_append, List.append_assoc, List.nil_append]
    exact Lx.key (s := [114, 101, 116, 117, 114, 110]) (by decide) (by decide) (by decide) (NP.cons (by decide) _) (Lx.sp (by decide) (put_lx lev e h.2 _ _ (NP.cons (by decide) _) (Lx.lone (by decide) hx)))
  | .ass g e, h, t, ws, ht, hx => by
    simp only [RS.wf, Bool.and_eq_true] at h
    simp only [putB, tkB, List.cons_append, List.append_assoc, List.nil_append]
    exact Lx.key (s := [97, 115, 115, 101, 114, 116]) (by decide) (by decide) (by decide) (NP.cons (by decide) _) (Lx.lone (by decide) (put_lx lev e h.2 _ _ (NP.cons (by decide) _) (Lx.lone (by decide) (Lx.lone (by decide) hx))))
theorem l_lx (d : Nat) : ∀ (l : List RS), wfSs l = true → ∀ (t : List UInt8) (ws : List Wd), Lx t ws → Lx (putL lev d l ++ t) (tkSs lev l ++ ws)
  | [], _, t, ws, hx => by rw [putL, tkSs]; exact hx
  | s :: l, h, t, ws, hx => by
    simp only [wfSs, Bool.and_eq_true] at h
    have ht : s.tag ≤ 1000000 := by
      have := h.1
      cases s <;> simp only [RS.wf, Bool.and_eq_true, decide_eq_true_eq, RS.tag] at this ⊢ <;> omega
    rw [putL, tkSs]
    simp only [List.cons_append, List.append_assoc]
    exact tabs_lx d (tag_lx s.tag ht (b_lx d s h.1 _ _ (NP.cons (by decide) _) (Lx.sp (by decide) (l_lx d l h.2 t ws hx))))
end

def putD (d : List UInt8 × Nat) : List UInt8 := d.1 ++ (if d.2 = 0 then [] else 91 :: (decDigits d.2 ++ [93]))
def putV (l : List (List UInt8 × Nat)) : List UInt8 := if l.isEmpty then [] else 9 :: ([118, 97, 114] ++ 32 :: (commas [44, 32] putD l ++ [59, 10]))
def putF (f : RF) : List UInt8 := [102, 117, 110, 99] ++ 32 :: (f.name ++ 40 :: (commas [44, 32] (fun s => s) f.params ++ 41 :: 32 :: 123 :: 10 :: (putV f.vars ++ (putL lev 1 f.body ++ [125, 10]))))
def putP (p : List RF) : List UInt8 := p.flatMap (putF lev)
theorem f_lx (f : RF) (h : f.wf = true) (t : List UInt8) (ws : List Wd) (hx : Lx t ws) : Lx (putF lev f ++ t) (tkF lev f ++ ws) := by
  simp only [RF.wf, Bool.and_eq_true, List.all_eq_true, decide_eq_true_eq] at h
  obtain ⟨⟨⟨h1, h2⟩, h3⟩, h4⟩ := h
  simp only [putF, tkF, List.cons_append, List.append_assoc, List.nil_append]
  have hb : Lx (putL lev 1 f.body ++ 125 :: 10 :: t) (tkSs lev f.body ++ sgW [125] :: ws) := l_lx lev 1 f.body h4 _ _ (Lx.lone (by decide) (Lx.sp (by decide) hx))
  have hv : Lx (putV f.vars ++ (putL lev 1 f.body ++ 125 :: 10 :: t)) (tkV f.vars ++ (tkSs lev f.body ++ sgW [125] :: ws)) := by
    unfold putV tkV
    split
    · exact hb
    · simp only [List.cons_append, List.append_assoc, List.nil_append]
      refine Lx.sp (by decide) (Lx.key (s := [118, 97, 114]) (by decide) (by decide) (by decide) (NP.cons (by decide) _) (Lx.sp (by decide) (commas_lx putD tkD f.vars ?_ _ _ (NP.cons (by decide) _) (Lx.lone (by decide) (Lx.sp (by decide) hb)))))
      intro d hd t ws ht hx
      unfold putD tkD
      rw [List.append_assoc, List.cons_append]
      split
      · exact Lx.name (h3 d hd).1 ht hx
      · simp only [List.cons_append, List.append_assoc, List.nil_append]
        exact Lx.name (h3 d hd).1 (NP.cons (by decide) _) (Lx.lone (by decide) (Lx.num (by have := (h3 d hd).2; omega) (NP.cons (by decide) _) (Lx.lone (by decide) hx)))
  exact Lx.key (s := [102, 117, 110, 99]) (by decide) (by decide) (by decide) (NP.cons (by decide) _) (Lx.sp (by decide) (Lx.name h1 (NP.cons (by decide) _) (Lx.lone (by decide) (commas_lx (fun s => s) (fun s => [nmW s]) f.params (fun a ha t ws ht hx => Lx.name (h2 a ha) ht hx) _ _ (NP.cons (by decide) _) (Lx.lone (by decide) (Lx.sp (by decide) (Lx.lone (by decide) (Lx.sp (by decide) hv))))))))
/-- Two right programs of one text are the same. -/
theorem putP_inj (p p' : List RF) (h : ∀ f ∈ p, f.wf = true) (h' : ∀ f ∈ p', f.wf = true) (e : putP lev p = putP lev p') : p = p' := by
  have key : ∀ p : List RF, (∀ f ∈ p, f.wf = true) → Lx (putP lev p) (tkP lev p) := by
    intro p
    induction p with
    | nil => intro _; exact Lx.nil
    | cons f p ih =>
      intro h
      rw [putP, tkP, List.flatMap_cons, List.flatMap_cons]
      exact f_lx lev f (h f List.mem_cons_self) _ _ (ih fun x hx => h x (List.mem_cons_of_mem _ hx))
  have h1 := key p h
  rw [e] at h1
  exact p_inj lev p p' h h' (h1.fn (key p' h'))
end
end Go.Proofs.YtppeogcpoplpeaaGreatDoor
