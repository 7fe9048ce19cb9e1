/- How much fuel the plain parser needs: enough for each word. No walk stands in this text. -/
import Derived.Test.YtgkdoealhbhnmaaGreatDoorPUps
set_option linter.unusedSimpArgs false
set_option linter.unusedVariables false
namespace Go.Proofs.YtgkdoealhbhnmaaGreatDoor.Pm
open Go

theorem fin_ok {α : Type} (a : α) (s : PS) : Fin (.ok a s) := fun _ e => by cases e
theorem fin_bad {α : Type} {n : Nat} (s : PS) (h : n ≠ 99) : Fin (.bad (α := α) n s) := fun _ e => by cases e; exact h rfl
theorem fin_bind {α β : Type} {r : PR α} {g : α → PS → PR β} (h : Fin r) (hg : ∀ a s1, r = .ok a s1 → Fin (g a s1)) : Fin (r.bind g) := by
  intro s' e
  cases hr : r with
  | ok a s1 => rw [hr] at e; exact hg a s1 hr s' e
  | bad n s1 =>
    rw [hr] at e
    have e' : PR.bad (α := β) n s1 = .bad 99 s' := e
    injection e' with e1 e2
    subst e1
    exact h _ hr
theorem fin_ite {α : Type} {c : Prop} [Decidable c] {a b : PR α} (h1 : c → Fin a) (h2 : ¬ c → Fin b) : Fin (if c then a else b) := by
  by_cases hc : c
  · rw [if_pos hc]; exact h1 hc
  · rw [if_neg hc]; exact h2 hc
theorem fin_enter (s : PS) : Fin (enter s) := fin_ite (fun _ => fin_bad _ (by decide)) fun _ => fin_ok _ _
theorem fin_pass (z : Nat) (s : PS) : Fin (pass z s) := fin_ite (fun _ => fin_bind (fin_enter _) fun _ _ _ => fin_ok _ _) fun _ => fin_ite (fun _ => fin_ok _ _) fun _ => fin_ok _ _
theorem fin_take (z : Nat) (l : List UInt8) (s : PS) : Fin (take z l s) := fin_ite (fun _ => fin_bind (fin_pass _ _) fun _ _ _ => fin_ok _ _) fun _ => fin_bad _ (by decide)
theorem fin_name (z : Nat) (s : PS) : Fin (name z s) := fin_ite (fun _ => fin_ok _ _) fun _ => fin_bad _ (by decide)
theorem fin_tag (z : Nat) (s : PS) : Fin (tag z s) := fin_ite (fun _ => fin_ite (fun _ => fin_ok _ _) fun _ => fin_bad _ (by decide)) fun _ => fin_ok _ _
theorem fin_ending (z : Nat) (r : RS) (s : PS) : Fin (ending z r s) := fin_bind (fin_take _ _ _) fun _ _ _ => fin_ok _ _
theorem fin_within {α : Type} {z : Nat} {o c : List UInt8} {m : PS → PR α} {s : PS} (h : ∀ u s1, take z o s = .ok u s1 → Fin (m s1)) : Fin (within z o m c s) :=
  fin_bind (fin_take _ _ _) fun u s1 e => fin_bind (h u s1 e) fun _ _ _ => fin_bind (fin_take _ _ _) fun _ _ _ => fin_ok _ _
theorem take_less {z : Nat} {l : List UInt8} {s s' : PS} {u : Unit} (hl : l ≠ []) (h : take z l s = .ok u s') : s'.ws.length + 1 = s.ws.length := by
  obtain ⟨e, hp⟩ := take_ok h
  have h1 := (pass_ok hp).2.1
  have h2 : s.ws ≠ [] := fun e2 => hl (by rw [← e]; unfold cur; rw [e2]; rfl)
  have h3 := List.length_pos_iff.2 h2
  rw [h1, List.length_tail]; omega
theorem skip_less {s : PS} (h : s.ws ≠ []) : (skip s).ws.length + 1 = s.ws.length := by
  have h3 := List.length_pos_iff.2 h
  show s.ws.tail.length + 1 = _
  rw [List.length_tail]; omega
theorem there_text {z : Nat} {s : PS} {t : List UInt8} (h : (cur z s).text = t) (ht : t ≠ []) : s.ws ≠ [] := fun e => ht (by rw [← h]; unfold cur; rw [e]; rfl)
theorem there_kind {z : Nat} {s : PS} {k : Nat} (h : (cur z s).kind = k) (hk : k ≠ 0) : s.ws ≠ [] := fun e => hk (by rw [← h]; unfold cur; rw [e]; rfl)
theorem at_txt {z : Nat} {t : List UInt8} {s : PS} (h : at' z t s = true) : (cur z s).text = t := by unfold at' at h; simpa using h
theorem lev_there {z : Nat} {s : PS} {k : Int} (hk : 1 ≤ k) (h : k ≤ lev (cur z s).text) : s.ws ≠ [] := fun e => by
  have : (cur z s).text = [] := by unfold cur; rw [e]; rfl
  rw [this] at h
  have h0 : lev [] = 0 := by decide
  omega
def Eats {α : Type} (s : PS) (r : PR α) : Prop := ∀ a s', r = .ok a s' → s'.ws.length < s.ws.length
theorem eats_bad {α : Type} (s s' : PS) (n : Nat) : Eats (α := α) s (.bad n s') := fun _ _ h => by cases h
theorem eats_bind {α β : Type} {s : PS} {r : PR α} {g : α → PS → PR β} (h : Eats s r) (hg : ∀ a s1, KR s1 (g a s1)) : Eats s (r.bind g) := fun a s' e => by
  obtain ⟨x, s1, h1, h2⟩ := bind_ok e
  have k1 := h _ _ h1
  have k2 := hg _ _ _ _ h2
  omega
theorem eats_after {α β : Type} {s : PS} {r : PR α} {g : α → PS → PR β} (h : KR s r) (hg : ∀ a s1, Eats s1 (g a s1)) : Eats s (r.bind g) := fun a s' e => by
  obtain ⟨x, s1, h1, h2⟩ := bind_ok e
  have k1 := h _ _ h1
  have k2 := hg _ _ _ _ h2
  omega
theorem eats_ite {α : Type} {s : PS} {c : Prop} [Decidable c] {a b : PR α} (h1 : c → Eats s a) (h2 : ¬ c → Eats s b) : Eats s (if c then a else b) := by
  by_cases hc : c
  · rw [if_pos hc]; exact h1 hc
  · rw [if_neg hc]; exact h2 hc
theorem eats_take {z : Nat} {l : List UInt8} (hl : l ≠ []) (s : PS) : Eats s (take z l s) := fun _ _ h => by have := take_less hl h; omega
theorem eats_skip {α : Type} {s : PS} {r : PR α} (h : s.ws ≠ []) (hk : KR (skip s) r) : Eats s r := fun a s' e => by
  have k1 := hk _ _ e
  have k2 := skip_less h
  omega
theorem eats_name (z : Nat) (s : PS) : Eats s (name z s) := eats_ite (fun h => eats_skip (there_kind (k := 1) (by simpa using h) (by decide)) (kr_ok _ _)) fun _ => eats_bad _ _ _
theorem eats_within {α : Type} {z : Nat} {o c : List UInt8} {m : PS → PR α} (hn : o ≠ []) (hc : opens c = false) (hs : shuts c = true) (hm : ∀ s, KR s (m s)) (s : PS) : Eats s (within z o m c s) := by
  intro a s' h
  unfold within at h
  obtain ⟨u, s1, h1, h⟩ := bind_ok h
  obtain ⟨x, s2, h2, h⟩ := bind_ok h
  obtain ⟨u', s3, h3, h⟩ := bind_ok h
  cases h
  have e1 := take_less hn h1
  have e2 := hm _ _ _ h2
  have e3 := take_shut h3 hc hs
  omega
theorem eats_operand (z m : Nat) (s : PS) : Eats s (operand z m s) := by
  cases m with
  | zero => rw [operand]; exact eats_bad _ _ _
  | succ m =>
    obtain ⟨i1, i2, i3⟩ := kr_expr z m
    rw [operand]
    refine eats_ite (fun h => ?_) fun _ => eats_ite (fun h => ?_) fun _ => eats_ite (fun h => ?_) fun _ => eats_ite (fun h => ?_) fun _ => ?_
    · exact eats_ite (fun _ => eats_skip (there_kind (k := 2) (by simpa using h) (by decide)) (kr_ok _ _)) fun _ => eats_bad _ _ _
    · refine eats_bind (eats_name _ _) fun x s1 => ?_
      split
      · exact kr_bind (kr_within rfl rfl rfl (i2 1) _) fun _ _ => kr_ok _ _
      · exact kr_ok _ _
    · simp only [Bool.and_eq_true] at h
      unfold negative
      exact eats_skip (there_text (at_txt h.1) (by decide)) (kr_skip (kr_ok _ _))
    · exact eats_within (by decide) rfl rfl (i2 1) _
    · unfold unary
      refine eats_ite (fun h => ?_) fun _ => eats_bad _ _ _
      intro a s' e
      obtain ⟨u, s1, h1, e⟩ := bind_ok e
      obtain ⟨x, s2, h2, e⟩ := bind_ok e
      cases e
      have hn : s.ws ≠ [] := fun e2 => by
        have : (cur z s).text = [] := by unfold cur; rw [e2]; rfl
        rw [this] at h
        cases h
      have k2 := (i1 _ _ _ h2).1
      unfold enter at h1
      split at h1
      · cases h1
      · cases h1
        have k3 := List.length_pos_iff.2 hn
        show s2.ws.length < _
        have k4 : (skip { s with op := s.op + 1, mo := max s.mo (s.op + 1) }).ws = s.ws.tail := rfl
        rw [k4, List.length_tail] at k2
        omega
theorem fin_expr (z : Nat) : ∀ m, (∀ s, 2 * s.ws.length + 1 ≤ m → Fin (operand z m s)) ∧ (∀ k s, 1 ≤ k → 2 * s.ws.length + 2 ≤ m → Fin (bound z m k s)) ∧ (∀ k x s, 1 ≤ k → 2 * s.ws.length + 1 ≤ m → Fin (tail z m k x s)) := by
  intro m
  induction m with
  | zero => exact ⟨fun s h => by omega, fun k s _ h => by omega, fun k x s _ h => by omega⟩
  | succ m ih =>
    obtain ⟨i1, i2, i3⟩ := ih
    refine ⟨fun s h => ?_, fun k s hk h => ?_, fun k x s hk h => ?_⟩
    · rw [operand]
      refine fin_ite (fun _ => ?_) fun _ => fin_ite (fun _ => ?_) fun _ => fin_ite (fun _ => ?_) fun _ => fin_ite (fun _ => ?_) fun _ => ?_
      · exact fin_ite (fun _ => fin_ok _ _) fun _ => fin_bad _ (by decide)
      · refine fin_bind (fin_name _ _) fun x s1 e => fin_ite (fun _ => ?_) fun _ => fin_ok _ _
        have h1 := eats_name _ _ _ _ e
        exact fin_bind (fin_within fun u s2 e2 => i2 1 s2 (by decide) (by have := take_less (by decide) e2; omega)) fun _ _ _ => fin_ok _ _
      · exact fin_ok _ _
      · exact fin_within fun u s2 e2 => i2 1 s2 (by decide) (by have := take_less (by decide) e2; omega)
      · refine fin_ite (fun hu => ?_) fun _ => fin_bad _ (by decide)
        have hn : s.ws ≠ [] := fun e2 => by
          have : (cur z s).text = [] := by unfold cur; rw [e2]; rfl
          rw [this] at hu
          cases hu
        refine fin_bind (fin_enter _) fun u s1 e => fin_bind (i1 _ ?_) fun _ _ _ => fin_ok _ _
        unfold enter at e
        split at e
        · cases e
        · cases e
          have k3 := List.length_pos_iff.2 hn
          have k4 : (skip { s with op := s.op + 1, mo := max s.mo (s.op + 1) }).ws = s.ws.tail := rfl
          rw [k4, List.length_tail]
          omega
    · rw [bound]
      refine fin_bind (i1 _ (by omega)) fun x s1 e => ?_
      have := eats_operand _ _ _ _ _ e
      exact i3 _ _ _ hk (by omega)
    · rw [tail]
      refine fin_ite (fun hl => ?_) fun _ => fin_ok _ _
      have hn := skip_less (lev_there hk hl)
      refine fin_bind (i2 _ _ (by omega) (by omega)) fun y s2 e => ?_
      have := ((kr_expr z m).2.1 _ _ _ _ e).1
      exact i3 _ _ _ hk (by omega)
theorem fin_ex {z m : Nat} {s : PS} (h : 2 * s.ws.length + 2 ≤ m) : Fin (expr z m s) := (fin_expr z m).2.1 1 s (by decide) h
theorem fin_more {α : Type} {z B : Nat} {m : PS → PR α} (hi : ∀ s, s.ws.length ≤ B → Fin (m s)) (hk : ∀ s, KR s (m s)) : ∀ n (l : List α) s, s.ws.length ≤ B → s.ws.length + 1 ≤ n → Fin (more z m n l s) := by
  intro n
  induction n with
  | zero => intro l s _ h; omega
  | succ n ih =>
    intro l s hB h
    rw [more]
    refine fin_ite (fun ha => ?_) fun _ => fin_ok _ _
    have hn := skip_less (there_text (at_txt ha) (by decide))
    refine fin_bind (hi _ (by omega)) fun x s2 e => ?_
    have := (hk _ _ _ e).1
    exact ih _ _ (by omega) (by omega)
theorem fin_list {α : Type} {z B n : Nat} {m : PS → PR α} (hi : ∀ s, s.ws.length ≤ B → Fin (m s)) (hk : ∀ s, KR s (m s)) (s : PS) (hB : s.ws.length ≤ B) (h : s.ws.length + 1 ≤ n) : Fin (list z n m s) :=
  fin_bind (hi _ hB) fun x s1 e => by
    have := (hk _ _ _ e).1
    exact fin_more hi hk _ _ _ (by omega) (by omega)
theorem fin_args {α : Type} {z B n : Nat} {m : PS → PR α} (hi : ∀ s, s.ws.length ≤ B → Fin (m s)) (hk : ∀ s, KR s (m s)) (s : PS) (hB : s.ws.length ≤ B) (h : s.ws.length + 1 ≤ n) : Fin (args z n m s) :=
  fin_within fun u s1 e => fin_ite (fun _ => fin_ok _ _) fun _ => by
    have := take_less (by decide) e
    exact fin_list hi hk _ (by omega) (by omega)
theorem fin_test {z m : Nat} {k : List UInt8} {s : PS} (hk : k ≠ []) (h : 2 * s.ws.length + 2 ≤ m) : Fin (test z m k s) := fin_bind (fin_take _ _ _) fun u s1 e => fin_within fun _ s2 e2 => by
  have h1 := take_less hk e
  have h2 := take_less (by decide) e2
  exact fin_ex (by omega)
theorem fin_setting {z m : Nat} {s : PS} (h : 2 * s.ws.length + 2 ≤ m) : Fin (setting z m s) := by
  refine fin_bind (fin_name _ _) fun x s1 e => ?_
  have h1 := eats_name _ _ _ _ e
  refine fin_ite (fun _ => ?_) fun _ => ?_
  · refine fin_bind (fin_within fun _ s2 e2 => ?_) fun i s2 e2 => fin_bind (fin_take _ _ _) fun _ s3 e3 => fin_bind ?_ fun _ _ _ => fin_ending _ _ _
    · have h2 := take_less (by decide) e2
      exact fin_ex (by omega)
    · have h2 := (kr_within (o := [91]) rfl rfl rfl (kr_ex z m) _ _ _ e2).1
      have h3 := take_less (by decide) e3
      exact fin_ex (by omega)
  · refine fin_bind (fin_take _ _ _) fun _ s2 e2 => ?_
    have h2 := take_less (by decide) e2
    refine fin_ite (fun _ => ?_) fun _ => fin_ite (fun _ => ?_) fun _ => ?_
    · exact fin_bind (fin_take _ _ _) fun _ _ _ => fin_bind (fin_take _ _ _) fun _ _ _ => fin_bind (fin_take _ _ _) fun _ _ _ => fin_ending _ _ _
    · refine fin_bind (fin_name _ _) fun _ s3 e3 => fin_bind ?_ fun _ _ _ => fin_ending _ _ _
      have h3 := eats_name _ _ _ _ e3
      exact fin_args (B := s3.ws.length) (fun s4 h4 => fin_ex (by omega)) (kr_ex z m) _ (Nat.le_refl _) (by omega)
    · exact fin_bind (fin_ex (by omega)) fun _ _ _ => fin_ending _ _ _
theorem kr_set (z m : Nat) (x : List UInt8) (s1 : PS) : KR s1 (if at' z [91] s1 then store z m x s1 else (take z [61] s1).bind fun _ s2 => if at' z kRead s2 then input z x s2 else if (cur z s2).kind == 1 && (nxt z s2).text == [40] then call z m x s2 else (expr z m s2).bind fun e s3 => ending z (.asg 0 x e) s3) := by
  split
  · exact kr_bind (kr_within rfl rfl rfl (kr_ex z m) _) fun _ _ => kr_bind (kr_take rfl rfl _) fun _ _ => kr_bind (kr_ex z m _) fun _ _ => kr_ending _ _ _
  · refine kr_bind (kr_take rfl rfl _) fun _ s2 => ?_
    split
    · unfold input
      intro a s' h
      obtain ⟨u1, t1, h1, h⟩ := bind_ok h
      obtain ⟨u2, t2, h2, h⟩ := bind_ok h
      obtain ⟨u3, t3, h3, h⟩ := bind_ok h
      have k1 := take_flat h1 rfl rfl
      have k2 := take_open h2 rfl
      have k3 := take_shut h3 rfl rfl
      have k4 := kr_ending _ _ _ _ _ h
      have k5 := take_sts h1
      have k6 := take_sts h2
      have k7 := take_sts h3
      omega
    · split
      · exact kr_bind (kr_name _ _) fun _ _ => kr_bind (kr_args (kr_ex z m) _) fun _ _ => kr_ending _ _ _
      · exact kr_bind (kr_ex z m _) fun _ _ => kr_ending _ _ _
theorem eats_stmt (z m : Nat) (s : PS) : Eats s (stmt z m s) := by
  cases m with
  | zero => rw [stmt]; exact eats_bad _ _ _
  | succ m =>
    obtain ⟨i1, i2, i3, i4⟩ := kr_stmts z m
    have hE : ∀ s, Eats s (branch z m s) ∧ Eats s (loop z m s) := by
      intro s
      cases m with
      | zero => rw [branch, loop]; exact ⟨eats_bad _ _ _, eats_bad _ _ _⟩
      | succ m =>
        obtain ⟨j1, j2, j3, j4⟩ := kr_stmts z m
        have ht : ∀ k : List UInt8, k ≠ [] → Eats s (test z m k s) := fun k hk => eats_bind (eats_take hk _) fun _ _ => kr_within rfl rfl rfl (kr_ex z m) _
        rw [branch, loop]
        refine ⟨eats_bind (ht _ (by decide)) fun c s1 => kr_bind (kr_within rfl rfl rfl (j4 []) _) fun b s2 => ?_, eats_bind (ht _ (by decide)) fun c s1 => kr_bind (kr_within rfl rfl rfl (j4 []) _) fun b s2 => kr_ok _ _⟩
        split
        · exact kr_skip (kr_bind (kr_within rfl rfl rfl (j4 []) _) fun _ _ => kr_ok _ _)
        · exact kr_ok _ _
    rw [stmt]
    refine eats_after (kr_tag _ _) fun t s1 => eats_bind ?_ fun _ _ => kr_ok _ _
    refine eats_ite (fun _ => (hE _).1) fun _ => eats_ite (fun _ => (hE _).2) fun _ => eats_ite (fun _ => ?_) fun _ => eats_ite (fun _ => ?_) fun _ => eats_ite (fun _ => ?_) fun _ => eats_ite (fun _ => ?_) fun _ => ?_
    · exact eats_bind (eats_take (by decide) _) fun _ _ => kr_ending _ _ _
    · exact eats_bind (eats_take (by decide) _) fun _ _ => kr_ending _ _ _
    · exact eats_bind (eats_take (by decide) _) fun _ _ => kr_bind (kr_ex z m _) fun _ _ => kr_ending _ _ _
    · exact eats_bind (eats_bind (eats_take (by decide) _) fun _ _ => kr_within rfl rfl rfl (kr_ex z m) _) fun _ _ => kr_ending _ _ _
    · exact eats_bind (eats_name _ _) fun x s2 => kr_set z m x s2
theorem fin_stmts (z : Nat) : ∀ m, (∀ s, 3 * s.ws.length + 4 ≤ m → Fin (branch z m s) ∧ Fin (loop z m s)) ∧ (∀ s, 3 * s.ws.length + 5 ≤ m → Fin (stmt z m s)) ∧ (∀ l s, 3 * s.ws.length + 6 ≤ m → Fin (block z m l s)) := by
  intro m
  induction m with
  | zero => exact ⟨fun s h => by omega, fun s h => by omega, fun l s h => by omega⟩
  | succ m ih =>
    obtain ⟨i1, i2, i3⟩ := ih
    obtain ⟨j1, j2, j3, j4⟩ := kr_stmts z m
    have hkt : ∀ (k : List UInt8) (s : PS), k ≠ [] → opens k = false → shuts k = false → ∀ c s1, test z m k s = .ok c s1 → s1.ws.length + 1 ≤ s.ws.length := fun k s hk h1 h2 c s1 e => by
      have := eats_bind (eats_take hk s) (fun _ _ => kr_within (o := [40]) rfl rfl rfl (kr_ex z m) _) c s1 e
      omega
    have hb : ∀ (s : PS), 3 * s.ws.length + 6 ≤ m + 3 → Fin (within z [123] (block z m []) [125] s) := fun s h => fin_within fun u s2 e2 => by
      have := take_less (by decide) e2
      exact i3 _ _ (by omega)
    refine ⟨fun s h => ⟨?_, ?_⟩, fun s h => ?_, fun l s h => ?_⟩
    · rw [branch]
      refine fin_bind (fin_test (by decide) (by omega)) fun c s1 e => fin_bind (hb _ (by have := hkt _ _ (by decide) rfl rfl _ _ e; omega)) fun b s2 e2 => fin_ite (fun ha => ?_) fun _ => fin_ok _ _
      have h1 := hkt _ _ (by decide) rfl rfl _ _ e
      have h2 := (kr_within (o := [123]) rfl rfl rfl (j4 []) _ _ _ e2).1
      have h3 := skip_less (there_text (at_txt ha) (by decide))
      exact fin_bind (hb _ (by omega)) fun _ _ _ => fin_ok _ _
    · rw [loop]
      exact fin_bind (fin_test (by decide) (by omega)) fun c s1 e => fin_bind (hb _ (by have := hkt _ _ (by decide) rfl rfl _ _ e; omega)) fun b s2 e2 => fin_ok _ _
    · rw [stmt]
      refine fin_bind (fin_tag _ _) fun t s1 e => ?_
      have h1 := (kr_tag _ _ _ _ e).1
      refine fin_bind (fin_ite (fun _ => (i1 _ (by omega)).1) fun _ => fin_ite (fun _ => (i1 _ (by omega)).2) fun _ => fin_ite (fun _ => ?_) fun _ => fin_ite (fun _ => ?_) fun _ => fin_ite (fun _ => ?_) fun _ => fin_ite (fun _ => ?_) fun _ => fin_setting (by omega)) fun _ _ _ => fin_ok _ _
      · exact fin_bind (fin_take _ _ _) fun _ _ _ => fin_ending _ _ _
      · exact fin_bind (fin_take _ _ _) fun _ _ _ => fin_ending _ _ _
      · refine fin_bind (fin_take _ _ _) fun _ s2 e2 => fin_bind (fin_ex ?_) fun _ _ _ => fin_ending _ _ _
        have := take_less (by decide) e2
        omega
      · exact fin_bind (fin_test (by decide) (by omega)) fun _ _ _ => fin_ending _ _ _
    · rw [block]
      refine fin_ite (fun _ => fin_ok _ _) fun _ => fin_ite (fun _ => fin_bad _ (by decide)) fun _ => ?_
      refine fin_bind (i2 _ (by show 3 * s.ws.length + 5 ≤ m; omega)) fun r s1 e => ?_
      have h1 : s1.ws.length < s.ws.length := eats_stmt z m { s with sts := s.sts + 1 } _ _ e
      exact i3 _ _ (by omega)
theorem kr_length (z : Nat) (s : PS) : KR s (length z s) := by
  unfold length
  split
  · exact kr_skip (kr_ok _ _)
  · exact kr_bad _ _ _
theorem kr_decl (z : Nat) (s : PS) : KR s (decl z s) := by
  refine kr_bind (kr_name _ _) fun x s1 => ?_
  split
  · exact kr_bind (kr_within rfl rfl rfl (kr_length z) _) fun _ _ => kr_ok _ _
  · exact kr_ok _ _
theorem fin_length (z : Nat) (s : PS) : Fin (length z s) := fin_ite (fun _ => fin_ok _ _) fun _ => fin_bad _ (by decide)
theorem fin_decl (z : Nat) (s : PS) : Fin (decl z s) := fin_bind (fin_name _ _) fun _ _ _ => fin_ite (fun _ => fin_bind (fin_within fun _ _ _ => fin_length _ _) fun _ _ _ => fin_ok _ _) fun _ => fin_ok _ _
theorem kr_vars (z m : Nat) (s : PS) : KR s (vars z m s) := by
  unfold vars
  split
  · exact kr_skip (kr_bind (kr_list (kr_decl z) _) fun _ _ => kr_bind (kr_take rfl rfl _) fun _ _ => kr_ok _ _)
  · exact kr_ok _ _
theorem fin_vars {z m : Nat} {s : PS} (h : s.ws.length + 1 ≤ m) : Fin (vars z m s) := fin_ite (fun _ => fin_bind (fin_list (B := s.ws.length) (fun s1 _ => fin_decl z s1) (kr_decl z) _ (skip_len s).1 (by have := (skip_len s).1; omega)) fun _ _ _ => fin_bind (fin_take _ _ _) fun _ _ _ => fin_ok _ _) fun _ => fin_ok _ _
theorem function_less {z m : Nat} {s s' : PS} {f : RF} (h : function z m s = .ok f s') : s'.ws.length < s.ws.length ∧ s'.op = s.op ∧ s.sts ≤ s'.sts := by
  unfold function at h
  obtain ⟨u1, s1, h1, h⟩ := bind_ok h
  obtain ⟨x, s2, h2, h⟩ := bind_ok h
  obtain ⟨ps, s3, h3, h⟩ := bind_ok h
  obtain ⟨u4, s4, h4, h⟩ := bind_ok h
  obtain ⟨vs, s5, h5, h⟩ := bind_ok h
  obtain ⟨b, s6, h6, h⟩ := bind_ok h
  obtain ⟨u7, s7, h7, h⟩ := bind_ok h
  cases h
  have k1 := take_less (by decide) h1
  have q1 := take_flat h1 rfl rfl
  have p1 := take_sts h1
  have k2 := kr_name _ _ _ _ h2
  have k3 := kr_args (kr_name z) _ _ _ h3
  have q4 := take_open h4 rfl
  have p4 := take_sts h4
  have k5 := kr_vars _ _ _ _ _ h5
  have k6 := (kr_stmts z m).2.2.2 _ _ _ _ h6
  have q7 := take_shut h7 rfl rfl
  have p7 := take_sts h7
  omega
theorem fin_function {z m : Nat} {s : PS} (h : 3 * s.ws.length + 6 ≤ m) : Fin (function z m s) := by
  refine fin_bind (fin_take _ _ _) fun _ s1 e1 => fin_bind (fin_name _ _) fun x s2 e2 => ?_
  have k1 := take_less (by decide) e1
  have k2 := (kr_name _ _ _ _ e2).1
  refine fin_bind (fin_args (B := s2.ws.length) (fun s4 _ => fin_name z s4) (kr_name z) _ (Nat.le_refl _) (by omega)) fun ps s3 e3 => fin_bind (fin_take _ _ _) fun _ s4 e4 => ?_
  have k3 := (kr_args (kr_name z) _ _ _ e3).1
  have k4 := take_less (by decide) e4
  refine fin_bind (fin_vars (by omega)) fun vs s5 e5 => ?_
  have k5 := (kr_vars _ _ _ _ _ e5).1
  exact fin_bind ((fin_stmts z m).2.2 _ _ (by omega)) fun _ _ _ => fin_bind (fin_take _ _ _) fun _ _ _ => fin_ok _ _
theorem fin_funcs {z m : Nat} : ∀ n l s, 3 * s.ws.length + 6 ≤ m → s.ws.length + 1 ≤ n → Fin (funcs z m n l s) := by
  intro n
  induction n with
  | zero => intro l s _ h; omega
  | succ n ih =>
    intro l s hm h
    rw [funcs]
    refine fin_ite (fun _ => fin_ok _ _) fun hn => fin_bind (fin_function hm) fun f s1 e => ?_
    have := (function_less e).1
    exact ih _ _ (by omega) (by omega)
theorem fin_program {z m : Nat} {s : PS} (h : 3 * s.ws.length + 6 ≤ m) : Fin (program z m s) := fin_bind (fin_function h) fun f s1 e => by
  have := (function_less e).1
  exact fin_funcs _ _ _ (by omega) (by omega)
end Go.Proofs.YtgkdoealhbhnmaaGreatDoor.Pm
