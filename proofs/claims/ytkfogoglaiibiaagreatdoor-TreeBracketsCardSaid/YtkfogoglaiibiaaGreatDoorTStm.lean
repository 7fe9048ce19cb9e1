/- Right statements, functions and programs as plain data; the words that they are put in; two of the same words are the same. No program stands in this text. -/
import Derived.Test.YtkfogoglaiibiaaGreatDoorTMath
set_option linter.unusedSimpArgs false
set_option linter.unusedVariables false
namespace Go.Proofs.YtkfogoglaiibiaaGreatDoor
open Go
open Go.Lib (decDigits)

abbrev kW (l : List UInt8) : Wd := (5, l, 0)
abbrev nmW (l : List UInt8) : Wd := (1, l, 0)

/-- Lists of words with commas between. -/
def commas {α β : Type} (c : List β) (f : α → List β) : List α → List β
  | [] => []
  | [a] => f a
  | a :: b :: l => f a ++ (c ++ commas c f (b :: l))
theorem commas_two {α β : Type} (c : List β) (f : α → List β) (a b : α) (l : List α) : commas c f (a :: b :: l) = f a ++ (c ++ commas c f (b :: l)) := rfl
theorem commas_one {α β : Type} (c : List β) (f : α → List β) (a : α) : commas c f [a] = f a := rfl
abbrev cmW : Wd := sgW [44]
theorem commas_inj {α : Type} (f : α → List Wd) (cl : Wd) (hcl : cl ≠ cmW) (P : α → Prop)
    (hf : ∀ (a a' : α) (t t' : List Wd), P a → P a' → (∀ x, t.head? = some x → x = cl ∨ x = cmW) → (∀ x, t'.head? = some x → x = cl ∨ x = cmW) → f a ++ t = f a' ++ t' → a = a' ∧ t = t')
    (hh : ∀ a, P a → ∃ x r, f a = x :: r ∧ x ≠ cl) :
    ∀ (l l' : List α) (t t' : List Wd), (∀ a ∈ l, P a) → (∀ a ∈ l', P a) → commas [cmW] f l ++ cl :: t = commas [cmW] f l' ++ cl :: t' → l = l' ∧ t = t' := by
  have nil : ∀ (l : List α) (t t' : List Wd), (∀ a ∈ l, P a) → l ≠ [] → cl :: t = commas [cmW] f l ++ cl :: t' → False := by
    intro l t t' hl hne e
    cases l with
    | nil => exact hne rfl
    | cons a l =>
      obtain ⟨x, r, ex, hx⟩ := hh a (hl a List.mem_cons_self)
      cases l with
      | nil => rw [commas_one, ex] at e; simp only [List.cons_append, List.cons.injEq] at e; exact hx e.1.symm
      | cons b l => rw [commas_two, ex] at e; simp only [List.cons_append, List.cons.injEq] at e; exact hx e.1.symm
  have hd : ∀ (x : Wd) (t : List Wd), (x = cl ∨ x = cmW) → ∀ y, (x :: t).head? = some y → y = cl ∨ y = cmW := by
    intro x t h y hy; simp only [List.head?_cons, Option.some.injEq] at hy; subst hy; exact h
  intro l
  induction l with
  | nil =>
    intro l' t t' _ h2 e
    cases l' with
    | nil => simp only [commas, List.nil_append, List.cons.injEq, true_and] at e; exact ⟨rfl, e⟩
    | cons b l' => exact (nil _ t t' h2 (by simp) e).elim
  | cons a l ih =>
    intro l' t t' h1 h2 e
    cases l' with
    | nil => exact (nil _ t' t h1 (by simp) e.symm).elim
    | cons b l' =>
      have pa := h1 a List.mem_cons_self
      have pb := h2 b List.mem_cons_self
      cases l with
      | nil =>
        cases l' with
        | nil =>
          rw [commas_one, commas_one] at e
          obtain ⟨e1, e2⟩ := hf a b _ _ pa pb (hd _ _ (.inl rfl)) (hd _ _ (.inl rfl)) e
          simp only [List.cons.injEq, true_and] at e2
          exact ⟨by rw [e1], e2⟩
        | cons b' l' =>
          exfalso
          rw [commas_one, commas_two, List.append_assoc] at e
          obtain ⟨_, e2⟩ := hf a b _ _ pa pb (hd _ _ (.inl rfl)) (hd _ _ (.inr rfl)) e
          simp only [List.cons_append, List.cons.injEq] at e2
          exact hcl e2.1
      | cons a' l =>
        cases l' with
        | nil =>
          exfalso
          rw [commas_one, commas_two, List.append_assoc] at e
          obtain ⟨_, e2⟩ := hf a b _ _ pa pb (hd _ _ (.inr rfl)) (hd _ _ (.inl rfl)) e
          simp only [List.cons_append, List.cons.injEq] at e2
          exact hcl e2.1.symm
        | cons b' l' =>
          simp only [commas_two, List.append_assoc, List.cons_append, List.nil_append] at e
          obtain ⟨e1, e2⟩ := hf a b _ _ pa pb (hd _ _ (.inr rfl)) (hd _ _ (.inr rfl)) e
          simp only [List.cons.injEq, true_and] at e2
          obtain ⟨e3, e4⟩ := ih (b' :: l') t t' (fun z hz => h1 z (List.mem_cons_of_mem _ hz)) (fun z hz => h2 z (List.mem_cons_of_mem _ hz)) e2
          exact ⟨by rw [e1, e3], e4⟩

section
variable (lev : List UInt8 → Int)

/-- The first word of an expression. -/
theorem e_head (r : RE) (h : r.wf = true) : ∃ x t, tkE lev r = x :: t ∧ (x.1 = 4 ∨ x.1 = 2 ∨ x.1 = 1) ∧ x ≠ sgW [41] := by
  obtain ⟨hu, _⟩ := flat_wf lev r h
  obtain ⟨x, t, e, _, hx⟩ := u_head lev _ hu
  refine ⟨x, t ++ tailW lev (flat lev r).2, by rw [flat_words lev r, e]; rfl, ?_, ?_⟩
  · rcases hx with h | h | h
    · exact .inl h.1
    · exact .inr (.inl h)
    · exact .inr (.inr h.1)
  · intro e
    rw [e] at hx
    revert hx; decide
/-- What follows a name at an expression's beginning is no bracket of a call. -/
theorem e_name (r : RE) (h : r.wf = true) {s : List UInt8} {y : Wd} {t t' : List Wd} (st : stopW t) (e : tkE lev r ++ t = nmW s :: y :: t') : y ≠ sgW [40] := by
  obtain ⟨hu, hl⟩ := flat_wf lev r h
  rw [flat_words lev r, List.append_assoc] at e
  have key : ∀ z, (tailW lev (flat lev r).2 ++ t).head? = some z → z ≠ sgW [40] := by
    intro z hz
    cases e2 : (flat lev r).2 with
    | nil => rw [e2] at hz; exact (by decide : ∀ x ∈ stopL, x ≠ sgW [40]) z (st z hz)
    | cons x L =>
      rw [e2, tailW_cons] at hz
      simp only [List.cons_append, List.head?_cons, Option.some.injEq] at hz
      subst hz
      have := (hl x (by rw [e2]; exact List.mem_cons_self)).1
      intro e
      simp only [Prod.mk.injEq] at e
      rw [e.2.1] at this
      revert this; decide
  obtain ⟨b, u⟩ : Un := (flat lev r).1
  generalize (flat lev r).1 = u at e hu
  obtain ⟨b, u⟩ := u
  cases b with
  | true => simp [utU, utk, sgW] at e
  | false =>
    obtain ⟨hw, hb⟩ := hu
    cases u with
    | num n => simp only [utU, utk, Bool.false_eq_true, if_false, tkE, numW, sgW] at e; split at e <;> simp at e
    | var x =>
      simp only [utU, utk, tkE, Bool.false_eq_true, if_false, List.cons_append, List.nil_append, List.cons.injEq] at e
      exact key y (by rw [e.2]; rfl)
    | idx x f =>
      simp only [utU, utk, tkE, Bool.false_eq_true, if_false, List.cons_append, List.nil_append, List.cons.injEq] at e
      rw [← e.2.1]; decide
    | un c f => simp [utU, utk, tkE, sgW] at e
    | bin o a b => exact absurd (hb rfl) (by simp [RE.isBin])

abbrev tkA (l : List RE) : List Wd := commas [cmW] (tkE lev) l
theorem a_inj (l l' : List RE) (t t' : List Wd) (h : ∀ a ∈ l, a.wf = true) (h' : ∀ a ∈ l', a.wf = true) (e : tkA lev l ++ sgW [41] :: t = tkA lev l' ++ sgW [41] :: t') : l = l' ∧ t = t' := by
  refine commas_inj (tkE lev) (sgW [41]) (by decide) (fun a => a.wf = true) ?_ ?_ l l' t t' h h' e
  · intro a a' t t' ha ha' s s' e
    exact e_inj lev a a' t t' ha ha' (fun x hx => by rcases s x hx with h | h <;> rw [h] <;> decide) (fun x hx => by rcases s' x hx with h | h <;> rw [h] <;> decide) e
  · intro a ha
    obtain ⟨x, t, e, _, hx⟩ := e_head lev a ha
    exact ⟨x, t, e, hx⟩

/-- A right statement: its tag ahead. -/
inductive RS where
  | asg (t : Nat) (x : List UInt8) (e : RE)
  | sto (t : Nat) (x : List UInt8) (i e : RE)
  | rd (t : Nat) (x : List UInt8)
  | call (t : Nat) (x f : List UInt8) (l : List RE)
  | ife (t : Nat) (c : RE) (b l : List RS)
  | whl (t : Nat) (c : RE) (b : List RS)
  | brk (t : Nat)
  | cnt (t : Nat)
  | ret (t : Nat) (e : RE)
  | ass (t : Nat) (e : RE)
def RS.tag : RS → Nat
  | .asg t _ _ => t
  | .sto t _ _ _ => t
  | .rd t _ => t
  | .call t _ _ _ => t
  | .ife t _ _ _ => t
  | .whl t _ _ => t
  | .brk t => t
  | .cnt t => t
  | .ret t _ => t
  | .ass t _ => t
def tgW (t : Nat) : List Wd := if t = 0 then [] else [(3, 64 :: decDigits t, t)]
mutual
def tkB : RS → List Wd
  | .asg _ x e => nmW x :: sgW [61] :: (tkE lev e ++ [sgW [59]])
  | .sto _ x i e => nmW x :: sgW [91] :: (tkE lev i ++ sgW [93] :: sgW [61] :: (tkE lev e ++ [sgW [59]]))
  | .rd _ x => [nmW x, sgW [61], kW [114, 101, 97, 100], sgW [40], sgW [41], sgW [59]]
  | .call _ x f l => nmW x :: sgW [61] :: nmW f :: sgW [40] :: (tkA lev l ++ [sgW [41], sgW [59]])
  | .ife _ c b l => kW [105, 102] :: sgW [40] :: (tkE lev c ++ sgW [41] :: sgW [123] :: (tkSs b ++ sgW [125] :: (if l.isEmpty then [] else kW [101, 108, 115, 101] :: sgW [123] :: (tkSs l ++ [sgW [125]]))))
  | .whl _ c b => kW [119, 104, 105, 108, 101] :: sgW [40] :: (tkE lev c ++ sgW [41] :: sgW [123] :: (tkSs b ++ [sgW [125]]))
  | .brk _ => [kW [98, 114, 101, 97, 107], sgW [59]]
  | .cnt _ => [kW [99, 111, 110, 116, 105, 110, 117, 101], sgW [59]]
  | .ret _ e => kW [114, 101, 116, 117, 114, 110] :: (tkE lev e ++ [sgW [59]])
  | .ass _ e => kW [97, 115, 115, 101, 114, 116] :: sgW [40] :: (tkE lev e ++ [sgW [41], sgW [59]])
def tkSs : List RS → List Wd
  | [] => []
  | s :: l => tgW s.tag ++ (tkB s ++ tkSs l)
end
mutual
def RS.wf : RS → Bool
  | .asg t x e => decide (t ≤ 1000000) && nameOk x && e.wf
  | .sto t x i e => decide (t ≤ 1000000) && nameOk x && i.wf && e.wf
  | .rd t x => decide (t ≤ 1000000) && nameOk x
  | .call t x f l => decide (t ≤ 1000000) && nameOk x && nameOk f && l.all RE.wf
  | .ife t c b l => decide (t ≤ 1000000) && c.wf && wfSs b && wfSs l
  | .whl t c b => decide (t ≤ 1000000) && c.wf && wfSs b
  | .brk t => decide (t ≤ 1000000)
  | .cnt t => decide (t ≤ 1000000)
  | .ret t e => decide (t ≤ 1000000) && e.wf
  | .ass t e => decide (t ≤ 1000000) && e.wf
def wfSs : List RS → Bool
  | [] => true
  | s :: l => s.wf && wfSs l
end

def endW (t : List Wd) : Prop := ∀ x, t.head? = some x → x = sgW [125]
def noElse (t : List Wd) : Prop := ∀ x, t.head? = some x → x ≠ kW [101, 108, 115, 101]
theorem end_rc (t : List Wd) : endW (sgW [125] :: t) := fun x hx => by simp only [List.head?_cons, Option.some.injEq] at hx; exact hx.symm
theorem b_head (s : RS) : ∃ x r, tkB lev s = x :: r ∧ (x.1 = 1 ∨ x.1 = 5) ∧ x ≠ kW [101, 108, 115, 101] ∧ x ≠ kW [118, 97, 114] := by
  cases s <;> exact ⟨_, _, by rw [tkB], by simp, by simp, by simp⟩
theorem s_head (s : RS) (t : List Wd) : ∃ x r, tgW s.tag ++ (tkB lev s ++ t) = x :: r ∧ (x.1 = 1 ∨ x.1 = 5 ∨ x.1 = 3) ∧ x ≠ kW [101, 108, 115, 101] ∧ x ≠ kW [118, 97, 114] := by
  obtain ⟨x, r, e, h1, h2, h3⟩ := b_head lev s
  unfold tgW
  split
  · exact ⟨x, r ++ t, by rw [e]; rfl, by rcases h1 with h | h <;> simp [h], h2, h3⟩
  · exact ⟨_, _, rfl, by simp, by simp, by simp⟩
theorem ss_noElse (l : List RS) {t : List Wd} (h : endW t) : noElse (tkSs lev l ++ t) := by
  cases l with
  | nil => intro x hx; rw [tkSs] at hx; rw [h x hx]; decide
  | cons s l =>
    intro x hx
    rw [tkSs, List.append_assoc, List.append_assoc] at hx
    obtain ⟨y, r, e, _, h2, _⟩ := s_head lev s (tkSs lev l ++ t)
    rw [e] at hx
    simp only [List.head?_cons, Option.some.injEq] at hx
    rw [← hx]; exact h2
theorem tag_inj {a b : Nat} {s s' : RS} {t t' : List Wd} (e : tgW a ++ (tkB lev s ++ t) = tgW b ++ (tkB lev s' ++ t')) : a = b ∧ tkB lev s ++ t = tkB lev s' ++ t' := by
  obtain ⟨x, r, e1, h1, _⟩ := b_head lev s
  obtain ⟨y, r', e2, h2, _⟩ := b_head lev s'
  rw [e1, e2] at e ⊢
  unfold tgW at e
  by_cases ha : a = 0 <;> by_cases hb : b = 0
  · rw [if_pos ha, if_pos hb] at e; exact ⟨by omega, e⟩
  · rw [if_pos ha, if_neg hb] at e
    simp only [List.nil_append, List.cons_append, List.cons.injEq] at e
    rw [e.1] at h1; simp at h1
  · rw [if_neg ha, if_pos hb] at e
    simp only [List.nil_append, List.cons_append, List.cons.injEq] at e
    rw [← e.1] at h2; simp at h2
  · rw [if_neg ha, if_neg hb] at e
    simp only [List.nil_append, List.cons_append, List.cons.injEq, Prod.mk.injEq, true_and] at e ⊢
    exact ⟨e.1.2, e.2⟩

def SInj (n : Nat) : Prop := ∀ (l l' : List RS) (t t' : List Wd), (tkSs lev l).length ≤ n → wfSs l = true → wfSs l' = true → endW t → endW t' → tkSs lev l ++ t = tkSs lev l' ++ t' → l = l' ∧ t = t'
theorem b_inj {n : Nat} (S : SInj lev n) (s s' : RS) (t t' : List Wd) (hn : (tkB lev s).length ≤ n + 1) (h : s.wf = true) (h' : s'.wf = true) (ne : noElse t) (ne' : noElse t') (ht : s.tag = s'.tag) (e : tkB lev s ++ t = tkB lev s' ++ t') : s = s' ∧ t = t' := by
  have st : ∀ {x : Wd}, x ∈ stopL → ∀ t, stopW (x :: t) := fun h t => stop_cons h t
  cases s with
  | asg g x a =>
    simp only [RS.wf, Bool.and_eq_true] at h
    cases s' with
    | asg g' y b =>
      simp only [RS.wf, Bool.and_eq_true] at h'
      simp only [tkB, List.cons_append, List.append_assoc, List.nil_append, List.cons.injEq, Prod.mk.injEq, true_and, and_true] at e
      obtain ⟨e1, e2⟩ := e_inj lev a b _ _ h.2 h'.2 (st (by decide) _) (st (by decide) _) e.2
      simp only [List.cons.injEq, true_and] at e2
      cases ht
      exact ⟨by rw [e.1, e1], e2⟩
    | rd g' y =>
      exfalso
      obtain ⟨x, r, ex, hx, _⟩ := e_head lev a h.2
      simp only [tkB, ex, List.cons_append, List.append_assoc, List.nil_append, List.cons.injEq, Prod.mk.injEq, true_and, and_true] at e
      rw [e.2.1] at hx; simp at hx
    | call g' y f l =>
      exfalso
      simp only [tkB, List.cons_append, List.append_assoc, List.nil_append, List.cons.injEq, Prod.mk.injEq, true_and, and_true] at e
      exact e_name lev a h.2 (st (by decide) _) e.2 rfl
    | _ => simp [tkB] at e
  | sto g x i a =>
    simp only [RS.wf, Bool.and_eq_true] at h
    cases s' with
    | sto g' y j b =>
      simp only [RS.wf, Bool.and_eq_true] at h'
      simp only [tkB, List.cons_append, List.append_assoc, List.nil_append, List.cons.injEq, Prod.mk.injEq, true_and, and_true] at e
      obtain ⟨e1, e2⟩ := e_inj lev i j _ _ h.1.2 h'.1.2 (st (by decide) _) (st (by decide) _) e.2
      simp only [List.cons.injEq, true_and] at e2
      obtain ⟨e3, e4⟩ := e_inj lev a b _ _ h.2 h'.2 (st (by decide) _) (st (by decide) _) e2
      simp only [List.cons.injEq, true_and] at e4
      cases ht
      exact ⟨by rw [e.1, e1, e3], e4⟩
    | _ => simp [tkB] at e
  | rd g x =>
    cases s' with
    | rd g' y =>
      simp only [tkB, List.cons_append, List.append_assoc, List.nil_append, List.cons.injEq, Prod.mk.injEq, true_and, and_true] at e
      cases ht
      exact ⟨by rw [e.1], e.2⟩
    | asg g' y b =>
      exfalso
      simp only [RS.wf, Bool.and_eq_true] at h'
      obtain ⟨x, r, ex, hx, _⟩ := e_head lev b h'.2
      simp only [tkB, ex, List.cons_append, List.append_assoc, List.nil_append, List.cons.injEq, Prod.mk.injEq, true_and, and_true] at e
      rw [← e.2.1] at hx; simp at hx
    | _ => simp [tkB] at e
  | call g x f l =>
    simp only [RS.wf, Bool.and_eq_true, List.all_eq_true] at h
    cases s' with
    | call g' y f' l' =>
      simp only [RS.wf, Bool.and_eq_true, List.all_eq_true] at h'
      simp only [tkB, List.cons_append, List.append_assoc, List.nil_append, List.cons.injEq, Prod.mk.injEq, true_and, and_true] at e
      obtain ⟨e1, e2⟩ := a_inj lev l l' _ _ h.2 h'.2 e.2.2
      simp only [List.cons.injEq, true_and] at e2
      cases ht
      exact ⟨by rw [e.1, e.2.1, e1], e2⟩
    | asg g' y b =>
      exfalso
      simp only [RS.wf, Bool.and_eq_true] at h'
      simp only [tkB, List.cons_append, List.append_assoc, List.nil_append, List.cons.injEq, Prod.mk.injEq, true_and, and_true] at e
      exact e_name lev b h'.2 (st (by decide) _) e.2.symm rfl
    | _ => simp [tkB] at e
  | ife g c b l =>
    simp only [RS.wf, Bool.and_eq_true] at h
    cases s' with
    | ife g' c' b' l' =>
      simp only [RS.wf, Bool.and_eq_true] at h'
      simp only [tkB, List.length_cons, List.length_append] at hn
      simp only [tkB, List.cons_append, List.append_assoc, List.nil_append, List.cons.injEq, Prod.mk.injEq, true_and, and_true] at e
      obtain ⟨e1, e2⟩ := e_inj lev c c' _ _ h.1.1.2 h'.1.1.2 (st (by decide) _) (st (by decide) _) e
      simp only [List.cons.injEq, true_and] at e2
      obtain ⟨e3, e4⟩ := S b b' _ _ (by omega) h.1.2 h'.1.2 (end_rc _) (end_rc _) e2
      simp only [List.cons.injEq, true_and] at e4
      cases ht
      cases l with
      | nil =>
        cases l' with
        | nil =>
          simp only [List.isEmpty_nil, if_true, List.nil_append] at e4
          exact ⟨by rw [e1, e3], e4⟩
        | cons s' l' =>
          exfalso
          simp only [List.isEmpty_nil, List.isEmpty_cons, Bool.false_eq_true, if_false, if_true, List.nil_append, List.cons_append] at e4
          exact ne _ (by rw [e4]; rfl) rfl
      | cons s l =>
        cases l' with
        | nil =>
          exfalso
          simp only [List.isEmpty_nil, List.isEmpty_cons, Bool.false_eq_true, if_false, if_true, List.nil_append, List.cons_append] at e4
          exact ne' _ (by rw [← e4]; rfl) rfl
        | cons s' l' =>
          simp only [List.isEmpty_cons, Bool.false_eq_true, if_false, List.length_cons, List.length_append] at hn
          simp only [List.isEmpty_cons, Bool.false_eq_true, if_false, List.cons_append, List.append_assoc, List.nil_append, List.cons.injEq, true_and] at e4
          obtain ⟨e5, e6⟩ := S (s :: l) (s' :: l') _ _ (by omega) h.2 h'.2 (end_rc _) (end_rc _) e4
          simp only [List.cons.injEq, true_and] at e6
          exact ⟨by rw [e1, e3, e5], e6⟩
    | _ => simp [tkB] at e
  | whl g c b =>
    simp only [RS.wf, Bool.and_eq_true] at h
    cases s' with
    | whl g' c' b' =>
      simp only [RS.wf, Bool.and_eq_true] at h'
      simp only [tkB, List.length_cons, List.length_append] at hn
      simp only [tkB, List.cons_append, List.append_assoc, List.nil_append, List.cons.injEq, Prod.mk.injEq, true_and, and_true] at e
      obtain ⟨e1, e2⟩ := e_inj lev c c' _ _ h.1.2 h'.1.2 (st (by decide) _) (st (by decide) _) e
      simp only [List.cons.injEq, true_and] at e2
      obtain ⟨e3, e4⟩ := S b b' _ _ (by omega) h.2 h'.2 (end_rc _) (end_rc _) e2
      simp only [List.cons.injEq, true_and] at e4
      cases ht
      exact ⟨by rw [e1, e3], e4⟩
    | _ => simp [tkB] at e
  | brk g =>
    cases s' with
    | brk g' =>
      simp only [tkB, List.cons_append, List.nil_append, List.cons.injEq, true_and] at e
      cases ht
      exact ⟨rfl, e⟩
    | _ => simp [tkB] at e
  | cnt g =>
    cases s' with
    | cnt g' =>
      simp only [tkB, List.cons_append, List.nil_append, List.cons.injEq, true_and] at e
      cases ht
      exact ⟨rfl, e⟩
    | _ => simp [tkB] at e
  | ret g a =>
    simp only [RS.wf, Bool.and_eq_true] at h
    cases s' with
    | ret g' b =>
      simp only [RS.wf, Bool.and_eq_true] at h'
      simp only [tkB, List.cons_append, List.append_assoc, List.nil_append, List.cons.injEq, Prod.mk.injEq, true_and, and_true] at e
      obtain ⟨e1, e2⟩ := e_inj lev a b _ _ h.2 h'.2 (st (by decide) _) (st (by decide) _) e
      simp only [List.cons.injEq, true_and] at e2
      cases ht
      exact ⟨by rw [e1], e2⟩
    | _ => simp [tkB] at e
  | ass g a =>
    simp only [RS.wf, Bool.and_eq_true] at h
    cases s' with
    | ass g' b =>
      simp only [RS.wf, Bool.and_eq_true] at h'
      simp only [tkB, List.cons_append, List.append_assoc, List.nil_append, List.cons.injEq, Prod.mk.injEq, true_and, and_true] at e
      obtain ⟨e1, e2⟩ := e_inj lev a b _ _ h.2 h'.2 (st (by decide) _) (st (by decide) _) e
      simp only [List.cons.injEq, true_and] at e2
      cases ht
      exact ⟨by rw [e1], e2⟩
    | _ => simp [tkB] at e

theorem s_inj : ∀ n, SInj lev n := by
  have nil : ∀ (l : List RS) (t t' : List Wd), l ≠ [] → endW t → t = tkSs lev l ++ t' → False := by
    intro l t t' hne ht e
    cases l with
    | nil => exact hne rfl
    | cons s l =>
      rw [tkSs, List.append_assoc, List.append_assoc] at e
      obtain ⟨x, r, ex, hx, _⟩ := s_head lev s (tkSs lev l ++ t')
      rw [ex] at e
      have := ht x (by rw [e]; rfl)
      rw [this] at hx; simp at hx
  have step : ∀ n, (∀ m, m < n → SInj lev m) → SInj lev n := by
    intro n ih l l' t t' hn h h' ht ht' e
    cases l with
    | nil =>
      cases l' with
      | nil => exact ⟨rfl, e⟩
      | cons s' l' => exact (nil (s' :: l') t t' (by simp) ht (by simpa [tkSs] using e)).elim
    | cons s l =>
      cases l' with
      | nil => exact (nil (s :: l) t' t (by simp) ht' (by simpa [tkSs] using e.symm)).elim
      | cons s' l' =>
        obtain ⟨x, r, ex, _⟩ := b_head lev s
        rw [tkSs, tkSs, List.append_assoc, List.append_assoc, List.append_assoc, List.append_assoc] at e
        rw [tkSs, List.length_append, List.length_append] at hn
        simp only [wfSs, Bool.and_eq_true] at h h'
        obtain ⟨e1, e2⟩ := tag_inj lev e
        have hp : 0 < (tkB lev s).length := by rw [ex]; simp
        obtain ⟨m, rfl⟩ : ∃ m, n = m + 1 := ⟨n - 1, by omega⟩
        obtain ⟨e3, e4⟩ := b_inj lev (ih m (by omega)) s s' _ _ (by omega) h.1 h'.1 (ss_noElse lev l ht) (ss_noElse lev l' ht') e1 e2
        obtain ⟨e5, e6⟩ := ih m (by omega) l l' t t' (by omega) h.2 h'.2 ht ht' e4
        exact ⟨by rw [e3, e5], e6⟩
  intro n
  induction n using Nat.strongRecOn with
  | ind n ih => exact step n ih

/-- A right function; a right program. -/
structure RF where
  name : List UInt8
  params : List (List UInt8)
  vars : List (List UInt8 × Nat)
  body : List RS
def tkD (d : List UInt8 × Nat) : List Wd := nmW d.1 :: (if d.2 = 0 then [] else [sgW [91], (2, decDigits d.2, d.2), sgW [93]])
def tkV (l : List (List UInt8 × Nat)) : List Wd := if l.isEmpty then [] else kW [118, 97, 114] :: (commas [cmW] tkD l ++ [sgW [59]])
def tkF (f : RF) : List Wd := kW [102, 117, 110, 99] :: nmW f.name :: sgW [40] :: (commas [cmW] (fun s => [nmW s]) f.params ++ sgW [41] :: sgW [123] :: (tkV f.vars ++ (tkSs lev f.body ++ [sgW [125]])))
def tkP (p : List RF) : List Wd := p.flatMap (tkF lev)
def RF.wf (f : RF) : Bool := nameOk f.name && f.params.all nameOk && f.vars.all (fun d => nameOk d.1 && decide (d.2 ≤ 9223372036854775807)) && wfSs f.body

theorem f_inj (f f' : RF) (t t' : List Wd) (h : f.wf = true) (h' : f'.wf = true) (e : tkF lev f ++ t = tkF lev f' ++ t') : f = f' ∧ t = t' := by
  simp only [RF.wf, Bool.and_eq_true] at h h'
  simp only [tkF, List.cons_append, List.append_assoc, List.nil_append, List.cons.injEq, Prod.mk.injEq, true_and, and_true] at e
  obtain ⟨e1, e2⟩ := e
  obtain ⟨e3, e4⟩ := commas_inj (fun s => [nmW s]) (sgW [41]) (by decide) (fun _ => True) (fun a a' t t' _ _ _ _ e => by simpa using e) (fun a _ => ⟨_, _, rfl, by simp⟩) f.params f'.params _ _ (fun _ _ => trivial) (fun _ _ => trivial) e2
  simp only [List.cons.injEq, true_and] at e4
  have hv : f.vars = f'.vars ∧ tkSs lev f.body ++ sgW [125] :: t = tkSs lev f'.body ++ sgW [125] :: t' := by
    have nv : ∀ (l : List RS) (t u : List Wd), kW [118, 97, 114] :: u = tkSs lev l ++ sgW [125] :: t → False := by
      intro l t u e
      cases l with
      | nil => simp [tkSs] at e
      | cons s l =>
        rw [tkSs, List.append_assoc, List.append_assoc] at e
        obtain ⟨x, r, ex, _, _, hx⟩ := s_head lev s (tkSs lev l ++ sgW [125] :: t)
        rw [ex] at e
        simp only [List.cons.injEq] at e
        exact hx e.1.symm
    unfold tkV at e4
    cases v : f.vars with
    | nil =>
      cases v' : f'.vars with
      | nil => rw [v, v'] at e4; exact ⟨rfl, e4⟩
      | cons d l =>
        rw [v, v'] at e4
        simp only [List.isEmpty_nil, List.isEmpty_cons, if_true, Bool.false_eq_true, if_false, List.nil_append, List.cons_append] at e4
        exact (nv _ _ _ e4.symm).elim
    | cons d l =>
      cases v' : f'.vars with
      | nil =>
        rw [v, v'] at e4
        simp only [List.isEmpty_nil, List.isEmpty_cons, if_true, Bool.false_eq_true, if_false, List.nil_append, List.cons_append] at e4
        exact (nv _ _ _ e4).elim
      | cons d' l' =>
        rw [v, v'] at e4
        simp only [List.isEmpty_cons, Bool.false_eq_true, if_false, List.nil_append, List.cons_append, List.append_assoc, List.cons.injEq, true_and] at e4
        refine commas_inj tkD (sgW [59]) (by decide) (fun _ => True) ?_ (fun a _ => ⟨_, _, rfl, by simp⟩) _ _ _ _ (fun _ _ => trivial) (fun _ _ => trivial) e4
        intro a a' t t' _ _ s s' e
        obtain ⟨a1, a2⟩ := a
        obtain ⟨b1, b2⟩ := a'
        simp only [tkD, List.cons_append, List.cons.injEq, Prod.mk.injEq, true_and, and_true] at e
        obtain ⟨ea, e⟩ := e
        by_cases h1 : a2 = 0 <;> by_cases h2 : b2 = 0
        · rw [if_pos h1, if_pos h2] at e; exact ⟨by rw [ea, h1, h2], e⟩
        · exfalso
          rw [if_pos h1, if_neg h2] at e
          rcases s _ (by rw [List.nil_append] at e; rw [e]; rfl) with h | h <;> exact absurd h (by decide)
        · exfalso
          rw [if_neg h1, if_pos h2] at e
          rcases s' _ (by rw [List.nil_append] at e; rw [← e]; rfl) with h | h <;> exact absurd h (by decide)
        · rw [if_neg h1, if_neg h2] at e
          simp only [List.cons_append, List.nil_append, List.cons.injEq, Prod.mk.injEq, true_and] at e
          exact ⟨by rw [ea, e.1.2], e.2⟩
  obtain ⟨e5, e6⟩ := hv
  obtain ⟨e7, e8⟩ := s_inj lev _ f.body f'.body _ _ (Nat.le_refl _) h.2 h'.2 (end_rc _) (end_rc _) e6
  simp only [List.cons.injEq, true_and] at e8
  refine ⟨?_, e8⟩
  obtain ⟨n, ps, vs, b⟩ := f
  obtain ⟨n', ps', vs', b'⟩ := f'
  simp only at e1 e3 e5 e7
  rw [e1, e3, e5, e7]
/-- Two right programs of the same words are the same. -/
theorem p_inj : ∀ (p p' : List RF), (∀ f ∈ p, f.wf = true) → (∀ f ∈ p', f.wf = true) → tkP lev p = tkP lev p' → p = p' := by
  intro p
  induction p with
  | nil =>
    intro p' _ _ e
    cases p' with
    | nil => rfl
    | cons f p' => simp [tkP, tkF] at e
  | cons f p ih =>
    intro p' h h' e
    cases p' with
    | nil => simp [tkP, tkF] at e
    | cons f' p' =>
      rw [tkP, tkP, List.flatMap_cons, List.flatMap_cons] at e
      obtain ⟨e1, e2⟩ := f_inj lev f f' _ _ (h f List.mem_cons_self) (h' f' List.mem_cons_self) e
      rw [e1, ih p' (fun x hx => h x (List.mem_cons_of_mem _ hx)) (fun x hx => h' x (List.mem_cons_of_mem _ hx)) e2]
end
end Go.Proofs.YtkfogoglaiibiaaGreatDoor
