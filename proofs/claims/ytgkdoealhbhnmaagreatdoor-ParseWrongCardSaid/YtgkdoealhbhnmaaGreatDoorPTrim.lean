/- A program that is cut off somewhere: the words that are left of it, and what the parser answers of them. No walk stands in this text. A text that is cut off somewhere: its words up to there, and one at most that is cut; what is left of a program is fewer of its functions, or wrong at its end or at a word. No walk stands in this text. -/
import Derived.Test.YtgkdoealhbhnmaaGreatDoorPFin
import Derived.Test.YtgkdoealhbhnmaaGreatDoorPText
set_option linter.unusedSimpArgs false
set_option linter.unusedVariables false
namespace Go.Proofs.YtgkdoealhbhnmaaGreatDoor.Pm
open Go

def Po (c : Nat) (s : PS) : Prop := s.op + s.ws.length ≤ 40 ∧ s.sts + s.ws.length ≤ c ∧ ∀ t ∈ s.ws, t.text ≠ [125]
def Sm {α : Type} (ws : List Tok) (r : PR α) : Prop := match r with
  | .ok _ t => Po 399 t ∧ t.ws <:+ ws
  | .bad n t => (n = 3 ∨ n = 99) ∧ t.ws <:+ ws
def Om {α : Type} (c : Nat) (s : PS) (r : PR α) : Prop := Po c s → Sm s.ws r
theorem Sm.up {α : Type} {a b : List Tok} {r : PR α} (h : Sm a r) (hs : a <:+ b) : Sm b r := by
  cases r with
  | ok x t => exact ⟨h.1, h.2.trans hs⟩
  | bad n t => exact ⟨h.1, h.2.trans hs⟩
theorem Po.up {c d : Nat} {s : PS} (h : Po c s) (hc : c ≤ d) : Po d s := ⟨h.1, Nat.le_trans h.2.1 hc, h.2.2⟩
theorem po_tail {c : Nat} {s : PS} (h : Po (c + 1) s) (hn : s.ws ≠ []) : s.op + 1 + s.ws.tail.length ≤ 40 ∧ s.sts + s.ws.tail.length ≤ c ∧ ∀ t ∈ s.ws.tail, t.text ≠ [125] := by
  have h3 := List.length_pos_iff.2 hn
  have h1 := h.1
  have h2 := h.2.1
  refine ⟨by rw [List.length_tail]; omega, by rw [List.length_tail]; omega, fun t ht => h.2.2 t (List.mem_of_mem_tail ht)⟩
theorem po_skip {c : Nat} {s : PS} (h : Po c s) : Po c (skip s) := by
  have h1 := h.1
  have h2 := h.2.1
  refine ⟨?_, ?_, fun t ht => h.2.2 t (List.mem_of_mem_tail ht)⟩
  · show s.op + s.ws.tail.length ≤ _; rw [List.length_tail]; omega
  · show s.sts + s.ws.tail.length ≤ _; rw [List.length_tail]; omega
theorem po_skip1 {c : Nat} {s : PS} (h : Po (c + 1) s) (hn : s.ws ≠ []) : Po c (skip s) := by
  obtain ⟨h1, h2, h3⟩ := po_tail h hn
  exact ⟨by show s.op + s.ws.tail.length ≤ _; omega, h2, h3⟩
theorem skip_sfx (s : PS) : (skip s).ws <:+ s.ws := List.tail_suffix _
section
variable {α β : Type}
theorem om_ok (s : PS) (a : α) : Om 399 s (.ok a s) := fun h => ⟨h, List.suffix_refl _⟩
theorem om_bad (c : Nat) (s : PS) : Om c s (PR.bad (α := α) 3 s) := fun _ => ⟨.inl rfl, List.suffix_refl _⟩
theorem om_99 (c : Nat) (s : PS) : Om c s (PR.bad (α := α) 99 s) := fun _ => ⟨.inr rfl, List.suffix_refl _⟩
theorem sm_bind {ws : List Tok} {r : PR α} {g : α → PS → PR β} (h : Sm ws r) (hg : ∀ a t, Om 399 t (g a t)) : Sm ws (r.bind g) := by
  cases r with
  | ok a t => exact (hg a t h.1).up h.2
  | bad n t => exact h
theorem om_bind {c : Nat} {s : PS} {r : PR α} {g : α → PS → PR β} (h : Om c s r) (hg : ∀ a t, Om 399 t (g a t)) : Om c s (r.bind g) := fun hp => sm_bind (h hp) hg
theorem om_ite {n : Nat} {s : PS} {c : Prop} [Decidable c] {a b : PR α} (h1 : c → Om n s a) (h2 : ¬ c → Om n s b) : Om n s (if c then a else b) := by
  by_cases h : c
  · rw [if_pos h]; exact h1 h
  · rw [if_neg h]; exact h2 h
theorem om_weak {s : PS} {r : PR α} (h : Om 400 s r) : Om 399 s r := fun hp => h (hp.up (by decide))
theorem om_skip {s : PS} {r : PR α} (h : Om 399 (skip s) r) : Om 399 s r := fun hp => (h (po_skip hp)).up (skip_sfx s)
theorem om_skip1 {s : PS} {r : PR α} (hn : s.ws ≠ []) (h : Om 399 (skip s) r) : Om 400 s r := fun hp => (h (po_skip1 hp hn)).up (skip_sfx s)
theorem om_take {z : Nat} {l : List UInt8} (hl : l ≠ []) (s : PS) : Om 400 s (take z l s) := by
  unfold take
  refine om_ite (fun ha => ?_) fun _ => om_bad _ _
  have hn := there_text (at_txt ha) hl
  intro hp
  obtain ⟨h1, h2, h3⟩ := po_tail hp hn
  have hs : s.ws.tail <:+ s.ws := List.tail_suffix _
  have hpos := List.length_pos_iff.2 hn
  have h40 := hp.1
  unfold pass
  split
  · unfold enter
    rw [if_neg (by omega)]
    exact ⟨⟨h1, h2, h3⟩, hs⟩
  · split
    · exact ⟨⟨by show s.op - 1 + s.ws.tail.length ≤ _; omega, h2, h3⟩, hs⟩
    · exact ⟨⟨by show s.op + s.ws.tail.length ≤ _; omega, h2, h3⟩, hs⟩
theorem om_end {z : Nat} {s : PS} (h : Po 399 s) : take z [125] s = .bad 3 s := by
  unfold take
  rw [if_neg]
  intro ha
  have ht := at_txt ha
  have hn := there_text ht (by decide)
  unfold cur at ht
  cases e : s.ws with
  | nil => exact hn e
  | cons x l =>
    rw [e] at ht
    exact h.2.2 x (by rw [e]; exact List.mem_cons_self) ht
theorem om_name (z : Nat) (s : PS) : Om 400 s (name z s) := om_ite (fun h => om_skip1 (there_kind (k := 1) (by simpa using h) (by decide)) (om_ok _ _)) fun _ => om_bad _ _
theorem om_within {z : Nat} {o c : List UInt8} {m : PS → PR α} (ho : o ≠ []) (hc : c ≠ []) (hm : ∀ s, Om 399 s (m s)) (s : PS) : Om 400 s (within z o m c s) :=
  om_bind (om_take ho s) fun _ _ => om_bind (hm _) fun _ _ => om_bind (om_weak (om_take hc _)) fun _ _ => om_ok _ _
theorem om_more {z : Nat} {m : PS → PR α} (hm : ∀ s, Om 399 s (m s)) : ∀ n (l : List α) s, Om 399 s (more z m n l s) := by
  intro n
  induction n with
  | zero => intro l s; rw [more]; exact om_99 _ _
  | succ n ih =>
    intro l s
    rw [more]
    exact om_ite (fun _ => om_skip (om_bind (hm _) fun _ _ => ih _ _)) fun _ => om_ok _ _
theorem om_list {z n : Nat} {m : PS → PR α} (hm : ∀ s, Om 399 s (m s)) (s : PS) : Om 399 s (list z n m s) := om_bind (hm _) fun _ _ => om_more hm _ _ _
theorem om_args {z n : Nat} {m : PS → PR α} (hm : ∀ s, Om 399 s (m s)) (s : PS) : Om 399 s (args z n m s) :=
  om_weak (om_within (by decide) (by decide) (fun s => om_ite (fun _ => om_ok _ _) fun _ => om_list hm _) _)
end
theorem un_there {z : Nat} {s : PS} (h : isUn (cur z s).text = true) : s.ws ≠ [] := fun e => by
  have : (cur z s).text = [] := by unfold cur; rw [e]; rfl
  rw [this] at h
  cases h
theorem om_unary {z : Nat} {m : PS → PR RE} (hm : ∀ s, Om 399 s (m s)) (s : PS) : Om 399 s (unary z m s) := by
  unfold unary
  refine om_ite (fun hu => ?_) fun _ => om_bad _ _
  intro hp
  have hn := un_there hu
  obtain ⟨h1, h2, h3⟩ := po_tail (c := 398) hp hn
  have hpos := List.length_pos_iff.2 hn
  have h40 := hp.1
  unfold enter
  rw [if_neg (by omega)]
  have h := hm (skip { s with op := s.op + 1, mo := max s.mo (s.op + 1) }) ⟨h1, by show s.sts + s.ws.tail.length ≤ _; omega, h3⟩
  exact (sm_bind (g := fun e s3 => PR.ok (RE.un ((cur z s).text.headD 0) e) (leave s3)) h fun e t hp => by
    have := hp.1
    exact ⟨⟨by show t.op - 1 + t.ws.length ≤ _; omega, hp.2.1, hp.2.2⟩, List.suffix_refl _⟩).up (List.tail_suffix s.ws)
theorem om_expr (z : Nat) : ∀ m, (∀ s, Om 399 s (operand z m s)) ∧ (∀ k s, Om 399 s (bound z m k s)) ∧ (∀ k x s, Om 399 s (tail z m k x s)) := by
  intro m
  induction m with
  | zero =>
    refine ⟨fun s => ?_, fun k s => ?_, fun k x s => ?_⟩
    · rw [operand]; exact om_99 _ _
    · rw [bound]; exact om_99 _ _
    · rw [tail]; exact om_99 _ _
  | succ m ih =>
    obtain ⟨i1, i2, i3⟩ := ih
    refine ⟨fun s => ?_, fun k s => ?_, fun k x s => ?_⟩
    · rw [operand]
      refine om_ite (fun _ => om_ite (fun _ => om_skip (om_ok _ _)) fun _ => om_bad _ _) fun _ => om_ite (fun _ => ?_) fun _ => om_ite (fun _ => ?_) fun _ => om_ite (fun _ => om_weak (om_within (by decide) (by decide) (i2 1) _)) fun _ => om_unary i1 _
      · exact om_bind (om_weak (om_name _ _)) fun x t => om_ite (fun _ => om_bind (om_weak (om_within (by decide) (by decide) (i2 1) _)) fun _ _ => om_ok _ _) fun _ => om_ok _ _
      · exact om_skip (om_skip (om_ok _ _))
    · rw [bound]; exact om_bind (i1 _) fun _ _ => i3 _ _ _
    · rw [tail]
      exact om_ite (fun _ => om_skip (om_bind (i2 _ _) fun _ _ => i3 _ _ _)) fun _ => om_ok _ _
theorem om_ex (z m : Nat) (s : PS) : Om 399 s (expr z m s) := (om_expr z m).2.1 1 s
theorem om_ending (z : Nat) (r : RS) (s : PS) : Om 399 s (ending z r s) := om_bind (om_weak (om_take (by decide) _)) fun _ _ => om_ok _ _
theorem om_test (z m : Nat) {k : List UInt8} (hk : k ≠ []) (s : PS) : Om 400 s (test z m k s) := om_bind (om_take hk _) fun _ _ => om_weak (om_within (by decide) (by decide) (om_ex z m) _)
theorem om_set (z m : Nat) (x : List UInt8) (s : PS) : Om 399 s (if at' z [91] s then store z m x s
  else (take z [61] s).bind fun _ s2 =>
    if at' z kRead s2 then input z x s2
    else if (cur z s2).kind == 1 && (nxt z s2).text == [40] then call z m x s2
    else (expr z m s2).bind fun e s3 => ending z (.asg 0 x e) s3) := by
  refine om_ite (fun _ => ?_) fun _ => om_bind (om_weak (om_take (by decide) _)) fun _ s2 => om_ite (fun _ => ?_) fun _ => om_ite (fun _ => ?_) fun _ => om_bind (om_ex z m _) fun _ _ => om_ending _ _ _
  · exact om_bind (om_weak (om_within (by decide) (by decide) (om_ex z m) _)) fun _ _ => om_bind (om_weak (om_take (by decide) _)) fun _ _ => om_bind (om_ex z m _) fun _ _ => om_ending _ _ _
  · exact om_bind (om_weak (om_take (by decide) _)) fun _ _ => om_bind (om_weak (om_take (by decide) _)) fun _ _ => om_bind (om_weak (om_take (by decide) _)) fun _ _ => om_ending _ _ _
  · exact om_bind (om_weak (om_name _ _)) fun _ _ => om_bind (om_args (om_ex z m) _) fun _ _ => om_ending _ _ _
theorem om_setting (z m : Nat) (s : PS) : Om 400 s (setting z m s) := om_bind (om_name _ _) fun x s1 => om_set z m x s1
theorem om_stmts (z : Nat) : ∀ m, (∀ s, Om 400 s (branch z m s)) ∧ (∀ s, Om 400 s (loop z m s)) ∧ (∀ s, Om 400 s (stmt z m s)) ∧ (∀ l s, Om 399 s (block z m l s)) := by
  intro m
  induction m with
  | zero =>
    refine ⟨fun s => ?_, fun s => ?_, fun s => ?_, fun l s => ?_⟩
    · rw [branch]; exact om_99 _ _
    · rw [loop]; exact om_99 _ _
    · rw [stmt]; exact om_99 _ _
    · rw [block]; exact om_99 _ _
  | succ m ih =>
    obtain ⟨i1, i2, i3, i4⟩ := ih
    have hw : ∀ s, Om 399 s (within z [123] (block z m []) [125] s) := fun s => om_weak (om_within (by decide) (by decide) (i4 []) _)
    refine ⟨fun s => ?_, fun s => ?_, fun s => ?_, fun l s => ?_⟩
    · rw [branch]
      exact om_bind (om_test z m (by decide) _) fun c s1 => om_bind (hw _) fun b s2 => om_ite (fun _ => om_skip (om_bind (hw _) fun _ _ => om_ok _ _)) fun _ => om_ok _ _
    · rw [loop]
      exact om_bind (om_test z m (by decide) _) fun c s1 => om_bind (hw _) fun b s2 => om_ok _ _
    · rw [stmt]
      have hr : ∀ s1, Om 400 s1 (if at' z kIf s1 then branch z m s1
          else if at' z kWhile s1 then loop z m s1
          else if at' z kBreak s1 then breakOff z s1
          else if at' z kContinue s1 then goOn z s1
          else if at' z kReturn s1 then giveBack z m s1
          else if at' z kAssert s1 then assertion z m s1
          else setting z m s1) := fun s1 => by
        refine om_ite (fun _ => i1 _) fun _ => om_ite (fun _ => i2 _) fun _ => om_ite (fun _ => ?_) fun _ => om_ite (fun _ => ?_) fun _ => om_ite (fun _ => ?_) fun _ => om_ite (fun _ => ?_) fun _ => om_setting _ _ _
        · exact om_bind (om_take (by decide) _) fun _ _ => om_ending _ _ _
        · exact om_bind (om_take (by decide) _) fun _ _ => om_ending _ _ _
        · exact om_bind (om_take (by decide) _) fun _ _ => om_bind (om_ex z m _) fun _ _ => om_ending _ _ _
        · exact om_bind (om_test z m (by decide) _) fun _ _ => om_ending _ _ _
      intro hp
      unfold tag
      split
      · split
        · exact (sm_bind (hr _ (po_skip hp)) fun _ _ => om_ok _ _).up (skip_sfx s)
        · exact ⟨.inl rfl, List.suffix_refl _⟩
      · exact (sm_bind (hr _ hp) fun _ _ => om_ok _ _).up (List.suffix_refl s.ws)
    · rw [block]
      refine om_ite (fun _ => om_ok _ _) fun _ hp => ?_
      have h2 := hp.2.1
      rw [if_neg (by omega)]
      exact sm_bind (i3 _ ⟨hp.1, by show s.sts + 1 + s.ws.length ≤ _; omega, hp.2.2⟩) fun _ _ => i4 _ _
theorem om_length (z : Nat) (s : PS) : Om 399 s (length z s) := om_ite (fun _ => om_skip (om_ok _ _)) fun _ => om_bad _ _
theorem om_decl (z : Nat) (s : PS) : Om 399 s (decl z s) := om_bind (om_weak (om_name _ _)) fun _ _ => om_ite (fun _ => om_bind (om_weak (om_within (by decide) (by decide) (om_length z) _)) fun _ _ => om_ok _ _) fun _ => om_ok _ _
theorem om_vars (z m : Nat) (s : PS) : Om 399 s (vars z m s) := om_ite (fun _ => om_skip (om_bind (om_list (om_decl z) _) fun _ _ => om_bind (om_weak (om_take (by decide) _)) fun _ _ => om_ok _ _)) fun _ => om_ok _ _
def Bd {α : Type} (ws : List Tok) (r : PR α) : Prop := ∃ n t, r = .bad n t ∧ (n = 3 ∨ n = 99) ∧ t.ws <:+ ws
theorem Bd.up {α : Type} {a b : List Tok} {r : PR α} (h : Bd a r) (hs : a <:+ b) : Bd b r := by
  obtain ⟨n, t, e, hn, ht⟩ := h
  exact ⟨n, t, e, hn, ht.trans hs⟩
theorem bd_bind {α β : Type} {ws : List Tok} {r : PR α} {g : α → PS → PR β} (h : Sm ws r) (hg : ∀ a t, Po 399 t → Bd t.ws (g a t)) : Bd ws (r.bind g) := by
  cases r with
  | ok a t => exact (hg a t h.1).up h.2
  | bad n t => exact ⟨n, t, rfl, h.1, h.2⟩
theorem bd_end {β : Type} {z : Nat} {g : Unit → PS → PR β} {s : PS} (h : Po 399 s) : Bd s.ws ((take z [125] s).bind g) := by
  rw [om_end h]
  exact ⟨3, s, rfl, .inl rfl, List.suffix_refl _⟩
def Lf (l : List Tok) (s s' : PS) : Prop := s.op ≤ 40 ∧ s.sts ≤ 400 ∧ s.op = s'.op + 2 ∧ s.sts = s'.sts + 3 ∧ (∀ t ∈ s'.ws, t.kind = 1 → t.text ≠ [125]) ∧ ∃ r r', s.ws = l ++ r ∧ s'.ws = l ++ r' ∧ r ≠ [] ∧ r'.length ≤ 1 ∧ ∀ t ∈ r', t.text ≠ [125]
def Rl (s s' : PS) : Prop := ∃ l, Lf l s s'
theorem Lf.tail {x : Tok} {l : List Tok} {s s' : PS} (h : Lf (x :: l) s s') {o p q q' m m' : Nat} (ho : o ≤ 40) (hp : o = p + 2) (hq : q ≤ 400) (hq' : q = q' + 3) : Lf l ⟨s.ws.tail, q, o, m⟩ ⟨s'.ws.tail, q', p, m'⟩ := by
  obtain ⟨-, -, -, -, h5, r, r', e, e', h6⟩ := h
  exact ⟨ho, hq, hp, hq', fun t ht => h5 t (List.mem_of_mem_tail ht), r, r', by show s.ws.tail = _; rw [e]; rfl, by show s'.ws.tail = _; rw [e']; rfl, h6⟩
theorem Lf.skip {x : Tok} {l : List Tok} {s s' : PS} (h : Lf (x :: l) s s') : Lf l (skip s) (skip s') := h.tail (s := s) (s' := s') h.1 h.2.2.1 h.2.1 h.2.2.2.1
theorem Lf.cur {x : Tok} {l : List Tok} {s s' : PS} (h : Lf (x :: l) s s') (z z' : Nat) : cur z s = x ∧ cur z' s' = x := by
  obtain ⟨-, -, -, -, -, r, r', e, e', -⟩ := h
  unfold Pm.cur
  rw [e, e']
  exact ⟨rfl, rfl⟩
theorem Lf.nxt {x y : Tok} {l : List Tok} {s s' : PS} (h : Lf (x :: y :: l) s s') (z z' : Nat) : nxt z s = y ∧ nxt z' s' = y := by
  obtain ⟨-, -, -, -, -, r, r', e, e', -⟩ := h
  unfold Pm.nxt
  rw [e, e']
  exact ⟨rfl, rfl⟩
theorem Lf.few {l : List Tok} {s s' : PS} (h : Lf l s s') (hl : l.length ≤ 1) (hb : ∀ t ∈ l, t.text ≠ [125]) : Po 399 s' := by
  obtain ⟨h1, h2, h3, h4, -, r, r', e, e', -, h6, h7⟩ := h
  have : s'.ws.length ≤ 2 := by rw [e', List.length_append]; omega
  refine ⟨by omega, by omega, fun t ht => ?_⟩
  rw [e', List.mem_append] at ht
  exact ht.elim (hb t) (h7 t)
theorem Lf.at {x : Tok} {l : List Tok} {s s' : PS} (h : Lf (x :: l) s s') (z z' : Nat) (t : List UInt8) : at' z' t s' = at' z t s := by
  unfold at'
  rw [(h.cur z z').1, (h.cur z z').2]
def Ct {α : Type} (s' : PS) (r r' : PR α) : Prop := ∀ a t, r = .ok a t → (∃ t', r' = .ok a t' ∧ Rl t t' ∧ t'.ws <:+ s'.ws) ∨ Sm s'.ws r'
section
variable {α β : Type}
theorem ct_lk {s s' : PS} {r r' : PR α} (hR : Rl s s') (hO : Om 399 s' r') (h : ∀ x l, Lf (x :: l) s s' → Ct s' r r') : Ct s' r r' := by
  obtain ⟨l, hl⟩ := hR
  cases l with
  | nil => exact fun a t _ => .inr (hO (hl.few (by simp) (fun t ht => by cases ht)))
  | cons x l => exact h x l hl
theorem ct_ok {s s' u' : PS} (h : Rl s s') (hs : s'.ws <:+ u'.ws) (a : α) : Ct u' (.ok a s) (.ok a s') := fun b t e => by
  cases e
  exact .inl ⟨s', rfl, h, hs⟩
theorem ct_same {s s' : PS} (h : Rl s s') (a : α) : Ct s' (.ok a s) (.ok a s') := ct_ok h (List.suffix_refl _) a
theorem ct_bad {s s' : PS} {n : Nat} {r' : PR α} : Ct s' (.bad n s) r' := fun b t e => by cases e
theorem ct_up {s' u' : PS} {r r' : PR α} (h : Ct s' r r') (hs : s'.ws <:+ u'.ws) : Ct u' r r' := fun a t e => by
  rcases h a t e with ⟨t', e', hr, ht⟩ | h
  · exact .inl ⟨t', e', hr, ht.trans hs⟩
  · exact .inr (h.up hs)
theorem ct_bind {s' : PS} {r r' : PR α} {g g' : α → PS → PR β} (h : Ct s' r r') (hg : ∀ a t t', r = .ok a t → Rl t t' → Ct t' (g a t) (g' a t')) (hO : ∀ a t, Om 399 t (g' a t)) : Ct s' (r.bind g) (r'.bind g') := fun b u e => by
  obtain ⟨a, t, e1, e2⟩ := bind_ok e
  rcases h a t e1 with ⟨t', e', hr, hs⟩ | hS
  · rw [e']
    exact ct_up (hg a t t' e1 hr) hs b u e2
  · exact .inr (sm_bind hS hO)
theorem ct_ite {s' : PS} {c : Prop} [Decidable c] {a b a' b' : PR α} (h1 : c → Ct s' a a') (h2 : ¬ c → Ct s' b b') : Ct s' (if c then a else b) (if c then a' else b') := by
  by_cases h : c
  · rw [if_pos h, if_pos h]; exact h1 h
  · rw [if_neg h, if_neg h]; exact h2 h
theorem ct_take {z z' : Nat} {l : List UInt8} (hl : l ≠ []) {s s' : PS} (hR : Rl s s') (h3 : 3 ≤ s.op ∨ shuts l = false) : Ct s' (take z l s) (take z' l s') := by
  refine ct_lk hR (om_weak (om_take hl _)) fun x k hk => ?_
  unfold take
  rw [hk.at z z' l]
  refine ct_ite (fun ha => ?_) fun _ => ct_bad
  have hx := at_txt ha
  unfold pass
  rw [(hk.cur z z').1] at hx ⊢
  rw [(hk.cur z z').2]
  obtain ⟨q1, q2, q3, q4, -⟩ := id hk
  have hs : s'.ws.tail <:+ s'.ws := List.tail_suffix _
  by_cases ho : opens x.text = true
  · rw [if_pos ho, if_pos ho]
    unfold enter
    by_cases h40 : s.op = 40
    · rw [if_pos h40]; exact ct_bad
    · rw [if_neg h40, if_neg (by omega)]
      exact ct_ok ⟨k, hk.tail (s := s) (s' := s') (o := s.op + 1) (p := s'.op + 1) (by omega) (by omega) q2 q4⟩ hs ()
  · rw [if_neg ho, if_neg ho]
    by_cases hc : shuts x.text = true
    · rw [if_pos hc, if_pos hc]
      have : 3 ≤ s.op := h3.elim id fun h => by rw [hx, h] at hc; cases hc
      exact ct_ok ⟨k, hk.tail (s := s) (s' := s') (by omega) (by omega) q2 q4⟩ hs ()
    · rw [if_neg hc, if_neg hc]
      exact ct_ok ⟨k, hk.tail (s := s) (s' := s') q1 q3 q2 q4⟩ hs ()
theorem ct_name {z z' : Nat} {s s' : PS} (hR : Rl s s') : Ct s' (name z s) (name z' s') := by
  refine ct_lk hR (om_weak (om_name _ _)) fun x k hk => ?_
  unfold name
  rw [(hk.cur z z').1, (hk.cur z z').2]
  exact ct_ite (fun _ => ct_ok ⟨k, hk.skip⟩ (skip_sfx _) _) fun _ => ct_bad
theorem rl_op {s s' : PS} (h : Rl s s') : 2 ≤ s.op := by
  obtain ⟨l, -, -, h3, -⟩ := h
  omega
theorem ct_within {z z' : Nat} {o c : List UInt8} (ho : opens o = true) (hc : c ≠ []) {m m' : PS → PR α} (hm : ∀ s s', Rl s s' → Ct s' (m s) (m' s')) (hk : ∀ s, KR s (m s)) (hO : ∀ s, Om 399 s (m' s)) {s s' : PS} (hR : Rl s s') : Ct s' (within z o m c s) (within z' o m' c s') := by
  have ho' : o ≠ [] := fun e => by rw [e] at ho; cases ho
  refine ct_bind (ct_take ho' hR (.inr ?_)) (fun _ t t' e1 h1 => ct_bind (hm _ _ h1) (fun _ u u' e2 h2 => ct_bind (ct_take hc h2 (.inl ?_)) (fun _ _ _ _ h3 => ct_same h3 _) fun _ _ => om_ok _ _) fun _ _ => om_bind (om_weak (om_take hc _)) fun _ _ => om_ok _ _) fun _ _ => om_bind (hO _) fun _ _ => om_bind (om_weak (om_take hc _)) fun _ _ => om_ok _ _
  · unfold opens at ho
    unfold shuts
    simp only [Bool.or_eq_true, beq_iff_eq] at ho
    rcases ho with (h | h) | h <;> rw [h] <;> rfl
  · have k1 := take_open e1 ho
    have k2 := hk _ _ _ e2
    have := rl_op hR
    omega
theorem ct_more {z z' : Nat} {m m' : PS → PR α} (hm : ∀ s s', Rl s s' → Ct s' (m s) (m' s')) (hO : ∀ s, Om 399 s (m' s)) : ∀ n (l : List α) s s', Rl s s' → Ct s' (more z m n l s) (more z' m' n l s') := by
  intro n
  induction n with
  | zero => intro l s s' _; rw [more]; exact ct_bad
  | succ n ih =>
    intro l s s' hR
    refine ct_lk hR (om_more hO _ _ _) fun x k hk => ?_
    rw [more, more, hk.at z z']
    exact ct_ite (fun _ => ct_up (ct_bind (hm _ _ ⟨k, hk.skip⟩) (fun _ _ _ _ h => ih _ _ _ h) fun _ _ => om_more hO _ _ _) (skip_sfx _)) fun _ => ct_same hR _
theorem ct_list {z z' n : Nat} {m m' : PS → PR α} (hm : ∀ s s', Rl s s' → Ct s' (m s) (m' s')) (hO : ∀ s, Om 399 s (m' s)) {s s' : PS} (hR : Rl s s') : Ct s' (list z n m s) (list z' n m' s') :=
  ct_bind (hm _ _ hR) (fun _ _ _ _ h => ct_more hm hO _ _ _ _ h) fun _ _ => om_more hO _ _ _
theorem ct_args {z z' n : Nat} {m m' : PS → PR α} (hm : ∀ s s', Rl s s' → Ct s' (m s) (m' s')) (hk : ∀ s, KR s (m s)) (hO : ∀ s, Om 399 s (m' s)) {s s' : PS} (hR : Rl s s') : Ct s' (args z n m s) (args z' n m' s') := by
  refine ct_within rfl (by decide) (fun s s' hR => ?_) (fun s => ?_) (fun s => om_ite (fun _ => om_ok _ _) fun _ => om_list hO _) hR
  · refine ct_lk hR (om_ite (fun _ => om_ok _ _) fun _ => om_list hO _) fun x k hk => ?_
    show Ct s' (if at' z [41] s = true then _ else _) (if at' z' [41] s' = true then _ else _)
    rw [hk.at z z']
    exact ct_ite (fun _ => ct_same hR _) fun _ => ct_list hm hO hR
  · show KR s (if at' z [41] s = true then _ else _)
    split
    · exact kr_ok _ _
    · exact kr_list hk _
end
theorem ct_unary {z z' : Nat} {m m' : PS → PR RE} (hm : ∀ s s', Rl s s' → Ct s' (m s) (m' s')) (hk : ∀ s, KR s (m s)) (hO : ∀ s, Om 399 s (m' s)) {s s' : PS} (hR : Rl s s') : Ct s' (unary z m s) (unary z' m' s') := by
  refine ct_lk hR (om_unary hO _) fun x k hl => ?_
  unfold unary
  rw [(hl.cur z z').1, (hl.cur z z').2]
  refine ct_ite (fun _ => ?_) fun _ => ct_bad
  obtain ⟨q1, q2, q3, q4, -⟩ := id hl
  unfold enter
  by_cases h40 : s.op = 40
  · rw [if_pos h40]; exact ct_bad
  · rw [if_neg h40, if_neg (by omega)]
    have h1 : Rl (skip { s with op := s.op + 1, mo := max s.mo (s.op + 1) }) (skip { s' with op := s'.op + 1, mo := max s'.mo (s'.op + 1) }) := ⟨k, hl.tail (s := s) (s' := s') (o := s.op + 1) (p := s'.op + 1) (by omega) (by omega) q2 q4⟩
    refine ct_up (ct_bind (g := fun e s3 => PR.ok (RE.un (x.text.headD 0) e) (leave s3)) (g' := fun e s3 => PR.ok (RE.un (x.text.headD 0) e) (leave s3)) (hm _ _ h1) (fun e t t' e1 h2 => ?_) fun e t hp => ?_) (skip_sfx { s' with op := s'.op + 1, mo := max s'.mo (s'.op + 1) })
    · have k1 := (hk _ _ _ e1).2.1
      have k2 : t.op = s.op + 1 := k1
      obtain ⟨l2, p1, p2, p3, p4, p5⟩ := h2
      exact ct_same (s := leave t) (s' := leave t') ⟨l2, by show t.op - 1 ≤ 40; omega, p2, by show t.op - 1 = t'.op - 1 + 2; omega, p4, p5⟩ _
    · have := hp.1
      exact ⟨⟨by show t.op - 1 + t.ws.length ≤ _; omega, hp.2.1, hp.2.2⟩, List.suffix_refl _⟩
theorem ct_expr (z z' : Nat) : ∀ m, (∀ s s', Rl s s' → Ct s' (operand z m s) (operand z' m s')) ∧ (∀ k s s', Rl s s' → Ct s' (bound z m k s) (bound z' m k s')) ∧ (∀ k x s s', Rl s s' → Ct s' (tail z m k x s) (tail z' m k x s')) := by
  intro m
  induction m with
  | zero =>
    refine ⟨fun s s' _ => ?_, fun k s s' _ => ?_, fun k x s s' _ => ?_⟩
    · rw [operand]; exact ct_bad
    · rw [bound]; exact ct_bad
    · rw [tail]; exact ct_bad
  | succ m ih =>
    obtain ⟨i1, i2, i3⟩ := ih
    obtain ⟨o1, o2, o3⟩ := om_expr z' m
    obtain ⟨k1, k2, k3⟩ := kr_expr z m
    refine ⟨fun s s' hR => ?_, fun k s s' hR => ?_, fun k x s s' hR => ?_⟩
    · refine ct_lk hR ((om_expr z' (m + 1)).1 _) fun x k hl => ?_
      by_cases hw : k = [] ∧ x.text = [45]
      · obtain ⟨rfl, hx⟩ := hw
        exact fun a t _ => .inr ((om_expr z' (m + 1)).1 _ (hl.few (by simp) fun t ht => by rw [List.mem_singleton] at ht; rw [ht, hx]; decide))
      have hn : (at' z [45] s && (nxt z s).kind == 2) = (at' z' [45] s' && (nxt z' s').kind == 2) := by
        cases k with
        | nil =>
          have h0 : at' z [45] s = false := by
            unfold at'
            rw [(hl.cur z z').1]
            simp only [true_and] at hw
            simpa using hw
          rw [hl.at z z', h0]; rfl
        | cons y k => rw [hl.at z z', (hl.nxt z z').1, (hl.nxt z z').2]
      rw [operand, operand, ← hn, (hl.cur z z').1, (hl.cur z z').2, hl.at z z' [40]]
      refine ct_ite (fun _ => ?_) fun _ => ct_ite (fun _ => ?_) fun _ => ct_ite (fun hg => ?_) fun _ => ct_ite (fun _ => ct_within rfl (by decide) (i2 1) (k2 1) (o2 1) hR) fun _ => ct_unary i1 k1 o1 hR
      · unfold number
        rw [(hl.cur z z').1, (hl.cur z z').2]
        exact ct_ite (fun _ => ct_ok ⟨k, hl.skip⟩ (skip_sfx _) _) fun _ => ct_bad
      · unfold named
        refine ct_bind (ct_name hR) (fun y t t' _ ht => ?_) fun y t => om_ite (fun _ => om_bind (om_weak (om_within (by decide) (by decide) (o2 1) _)) fun _ _ => om_ok _ _) fun _ => om_ok _ _
        refine ct_lk ht (om_ite (fun _ => om_bind (om_weak (om_within (by decide) (by decide) (o2 1) _)) fun _ _ => om_ok _ _) fun _ => om_ok _ _) fun x2 k2' hl2 => ?_
        rw [hl2.at z z']
        exact ct_ite (fun _ => ct_bind (ct_within rfl (by decide) (i2 1) (k2 1) (o2 1) ht) (fun _ _ _ _ h => ct_same h _) fun _ _ => om_ok _ _) fun _ => ct_same ht _
      · cases k with
        | nil =>
          exfalso
          rw [Bool.and_eq_true] at hg
          have := at_txt hg.1
          rw [(hl.cur z z').1] at this
          exact hw ⟨rfl, this⟩
        | cons y k =>
          unfold negative
          rw [(hl.nxt z z').1, (hl.nxt z z').2]
          exact ct_ok ⟨k, hl.skip.skip⟩ ((skip_sfx _).trans (skip_sfx _)) _
    · rw [bound, bound]
      exact ct_bind (i1 _ _ hR) (fun _ _ _ _ h => i3 _ _ _ _ h) fun _ _ => o3 _ _ _
    · refine ct_lk hR ((om_expr z' (m + 1)).2.2 _ _ _) fun y l hl => ?_
      rw [tail, tail, (hl.cur z z').1, (hl.cur z z').2]
      exact ct_ite (fun _ => ct_up (ct_bind (i2 _ _ _ ⟨l, hl.skip⟩) (fun _ _ _ _ h => i3 _ _ _ _ h) fun _ _ => o3 _ _ _) (skip_sfx _)) fun _ => ct_same hR _
theorem ct_ex {z z' m : Nat} {s s' : PS} (h : Rl s s') : Ct s' (expr z m s) (expr z' m s') := (ct_expr z z' m).2.1 1 s s' h
theorem ct_ending {z z' : Nat} {r : RS} {s s' : PS} (h : Rl s s') : Ct s' (ending z r s) (ending z' r s') := ct_bind (ct_take (by decide) h (.inr rfl)) (fun _ _ _ _ h => ct_same h _) fun _ _ => om_ok _ _
theorem ct_wex {z z' m : Nat} {o c : List UInt8} (ho : opens o = true) (hc : c ≠ []) {s s' : PS} (h : Rl s s') : Ct s' (within z o (expr z m) c s) (within z' o (expr z' m) c s') := ct_within ho hc (fun _ _ h => ct_ex h) (kr_ex z m) (om_ex z' m) h
theorem ct_test {z z' m : Nat} {k : List UInt8} (hk : k ≠ []) (hs : shuts k = false) {s s' : PS} (h : Rl s s') : Ct s' (test z m k s) (test z' m k s') := ct_bind (ct_take hk h (.inr hs)) (fun _ _ _ _ h => ct_wex rfl (by decide) h) fun _ _ => om_weak (om_within (by decide) (by decide) (om_ex z' m) _)
theorem ct_input {z z' : Nat} {x : List UInt8} {s s' : PS} (h : Rl s s') : Ct s' (input z x s) (input z' x s') := by
  refine ct_bind (ct_take (by decide) h (.inr rfl)) (fun _ t1 t1' e1 h1 => ct_bind (ct_take (by decide) h1 (.inr rfl)) (fun _ t2 t2' e2 h2 => ct_bind (ct_take (by decide) h2 (.inl ?_)) (fun _ _ _ _ h3 => ct_ending h3) fun _ _ => om_ending _ _ _) fun _ _ => om_bind (om_weak (om_take (by decide) _)) fun _ _ => om_ending _ _ _) fun _ _ => om_bind (om_weak (om_take (by decide) _)) fun _ _ => om_bind (om_weak (om_take (by decide) _)) fun _ _ => om_ending _ _ _
  have k1 := take_flat e1 rfl rfl
  have k2 := take_open e2 rfl
  have := rl_op h
  omega
theorem ct_setting {z z' m : Nat} {s s' : PS} (h : Rl s s') : Ct s' (setting z m s) (setting z' m s') := by
  refine ct_bind (ct_name h) (fun x t t' _ ht => ?_) fun x t => om_set z' m x t
  refine ct_lk ht (om_set z' m x _) fun y l hl => ?_
  show Ct t' (if at' z [91] t = true then _ else _) (if at' z' [91] t' = true then _ else _)
  rw [hl.at z z']
  refine ct_ite (fun _ => ?_) fun _ => ?_
  · exact ct_bind (ct_wex rfl (by decide) ht) (fun _ _ _ _ h => ct_bind (ct_take (by decide) h (.inr rfl)) (fun _ _ _ _ h => ct_bind (ct_ex h) (fun _ _ _ _ h => ct_ending h) fun _ _ => om_ending _ _ _) fun _ _ => om_bind (om_ex z' m _) fun _ _ => om_ending _ _ _) fun _ _ => om_bind (om_weak (om_take (by decide) _)) fun _ _ => om_bind (om_ex z' m _) fun _ _ => om_ending _ _ _
  have hO : ∀ s2, Om 399 s2 (if at' z' kRead s2 then input z' x s2 else if (cur z' s2).kind == 1 && (nxt z' s2).text == [40] then call z' m x s2 else (expr z' m s2).bind fun e s3 => ending z' (.asg 0 x e) s3) := fun s2 => by
    refine om_ite (fun _ => ?_) fun _ => om_ite (fun _ => ?_) fun _ => om_bind (om_ex z' m _) fun _ _ => om_ending _ _ _
    · exact om_bind (om_weak (om_take (by decide) _)) fun _ _ => om_bind (om_weak (om_take (by decide) _)) fun _ _ => om_bind (om_weak (om_take (by decide) _)) fun _ _ => om_ending _ _ _
    · exact om_bind (om_weak (om_name _ _)) fun _ _ => om_bind (om_args (om_ex z' m) _) fun _ _ => om_ending _ _ _
  refine ct_bind (ct_take (by decide) ht (.inr rfl)) (fun _ u u' _ hu => ?_) fun _ s2 => hO s2
  refine ct_lk hu (hO _) fun y2 l2 hl2 => ?_
  by_cases hw : l2 = [] ∧ y2.kind = 1
  · obtain ⟨rfl, hx⟩ := hw
    refine fun a t _ => .inr (hO _ (hl2.few (by simp) fun t ht => ?_))
    rw [List.mem_singleton] at ht
    subst ht
    obtain ⟨-, -, -, -, h5, r, r', e, e', -⟩ := hl2
    exact h5 t (by rw [e']; simp) hx
  have hn : ((cur z u).kind == 1 && (nxt z u).text == [40]) = ((cur z' u').kind == 1 && (nxt z' u').text == [40]) := by
    rw [(hl2.cur z z').1, (hl2.cur z z').2]
    cases l2 with
    | nil =>
      have h0 : (y2.kind == 1) = false := by simp only [true_and] at hw; simpa using hw
      rw [h0]; rfl
    | cons y l2 => rw [(hl2.nxt z z').1, (hl2.nxt z z').2]
  show Ct u' (if at' z kRead u = true then _ else if _ then _ else _) (if at' z' kRead u' = true then _ else if _ then _ else _)
  rw [hl2.at z z', ← hn]
  refine ct_ite (fun _ => ct_input hu) fun _ => ct_ite (fun _ => ?_) fun _ => ct_bind (ct_ex hu) (fun _ _ _ _ h => ct_ending h) fun _ _ => om_ending _ _ _
  exact ct_bind (ct_name hu) (fun _ _ _ _ h => ct_bind (ct_args (fun _ _ h => ct_ex h) (kr_ex z m) (om_ex z' m) h) (fun _ _ _ _ h => ct_ending h) fun _ _ => om_ending _ _ _) fun _ _ => om_bind (om_args (om_ex z' m) _) fun _ _ => om_ending _ _ _
theorem ct_stmts (z z' : Nat) : ∀ m, (∀ s s', Rl s s' → Ct s' (branch z m s) (branch z' m s')) ∧ (∀ s s', Rl s s' → Ct s' (loop z m s) (loop z' m s')) ∧ (∀ s s', Rl s s' → Ct s' (stmt z m s) (stmt z' m s')) ∧ (∀ l s s', Rl s s' → Ct s' (block z m l s) (block z' m l s')) := by
  intro m
  induction m with
  | zero =>
    refine ⟨fun s s' _ => ?_, fun s s' _ => ?_, fun s s' _ => ?_, fun l s s' _ => ?_⟩
    · rw [branch]; exact ct_bad
    · rw [loop]; exact ct_bad
    · rw [stmt]; exact ct_bad
    · rw [block]; exact ct_bad
  | succ m ih =>
    obtain ⟨i1, i2, i3, i4⟩ := ih
    obtain ⟨o1, o2, o3, o4⟩ := om_stmts z' m
    obtain ⟨k1, k2, k3, k4⟩ := kr_stmts z m
    have hw : ∀ s s', Rl s s' → Ct s' (within z [123] (block z m []) [125] s) (within z' [123] (block z' m []) [125] s') := fun s s' h => ct_within rfl (by decide) (i4 []) (k4 []) (o4 []) h
    have ho : ∀ s, Om 399 s (within z' [123] (block z' m []) [125] s) := fun s => om_weak (om_within (by decide) (by decide) (o4 []) _)
    refine ⟨fun s s' h => ?_, fun s s' h => ?_, fun s s' h => ?_, fun l s s' h => ?_⟩
    · rw [branch, branch]
      have he : ∀ (c : RE) (b : List RS) (s2 : PS), Om 399 s2 (if at' z' kElse s2 then (within z' [123] (block z' m []) [125] (skip s2)).bind fun l s4 => .ok (RS.ife 0 c b l) s4 else PR.ok (RS.ife 0 c b []) s2) := fun c b s2 => om_ite (fun _ => om_skip (om_bind (ho _) fun _ _ => om_ok _ _)) fun _ => om_ok _ _
      refine ct_bind (ct_test (by decide) rfl h) (fun c t t' _ ht => ct_bind (hw _ _ ht) (fun b u u' _ hu => ct_lk hu (he c b _) fun x k hl => ?_) fun b s2 => he c b s2) fun c s1 => om_bind (ho _) fun b s2 => he c b s2
      show Ct u' (if at' z kElse u = true then _ else _) (if at' z' kElse u' = true then _ else _)
      rw [hl.at z z']
      exact ct_ite (fun _ => ct_up (ct_bind (hw _ _ ⟨k, hl.skip⟩) (fun _ _ _ _ h => ct_same h _) fun _ _ => om_ok _ _) (skip_sfx _)) fun _ => ct_same hu _
    · rw [loop, loop]
      exact ct_bind (ct_test (by decide) rfl h) (fun c t t' _ ht => ct_bind (hw _ _ ht) (fun b u u' _ hu => ct_same hu _) fun _ _ => om_ok _ _) fun c s1 => om_bind (ho _) fun _ _ => om_ok _ _
    · refine ct_lk h (om_weak ((om_stmts z' (m + 1)).2.2.1 _)) fun x k hl => ?_
      rw [stmt, stmt]
      have hr : ∀ s1, Om 400 s1 (if at' z' kIf s1 then branch z' m s1
          else if at' z' kWhile s1 then loop z' m s1
          else if at' z' kBreak s1 then breakOff z' s1
          else if at' z' kContinue s1 then goOn z' s1
          else if at' z' kReturn s1 then giveBack z' m s1
          else if at' z' kAssert s1 then assertion z' m s1
          else setting z' m s1) := fun s1 => by
        refine om_ite (fun _ => o1 _) fun _ => om_ite (fun _ => o2 _) fun _ => om_ite (fun _ => ?_) fun _ => om_ite (fun _ => ?_) fun _ => om_ite (fun _ => ?_) fun _ => om_ite (fun _ => ?_) fun _ => om_setting _ _ _
        · exact om_bind (om_take (by decide) _) fun _ _ => om_ending _ _ _
        · exact om_bind (om_take (by decide) _) fun _ _ => om_ending _ _ _
        · exact om_bind (om_take (by decide) _) fun _ _ => om_bind (om_ex z' m _) fun _ _ => om_ending _ _ _
        · exact om_bind (om_test z' m (by decide) _) fun _ _ => om_ending _ _ _
      have ht : Ct s' (tag z s) (tag z' s') := by
        unfold tag
        rw [(hl.cur z z').1, (hl.cur z z').2]
        exact ct_ite (fun _ => ct_ite (fun _ => ct_ok ⟨k, hl.skip⟩ (skip_sfx _) _) fun _ => ct_bad) fun _ => ct_same h _
      refine ct_bind ht (fun g t t' _ ht => ct_bind ?_ (fun _ _ _ _ h => ct_same h _) fun _ _ => om_ok _ _) fun g s1 => om_bind (om_weak (hr s1)) fun _ _ => om_ok _ _
      refine ct_lk ht (om_weak (hr _)) fun x2 k2 hl2 => ?_
      rw [hl2.at z z', hl2.at z z', hl2.at z z', hl2.at z z', hl2.at z z', hl2.at z z']
      refine ct_ite (fun _ => i1 _ _ ht) fun _ => ct_ite (fun _ => i2 _ _ ht) fun _ => ct_ite (fun _ => ?_) fun _ => ct_ite (fun _ => ?_) fun _ => ct_ite (fun _ => ?_) fun _ => ct_ite (fun _ => ?_) fun _ => ct_setting ht
      · exact ct_bind (ct_take (by decide) ht (.inr rfl)) (fun _ _ _ _ h => ct_ending h) fun _ _ => om_ending _ _ _
      · exact ct_bind (ct_take (by decide) ht (.inr rfl)) (fun _ _ _ _ h => ct_ending h) fun _ _ => om_ending _ _ _
      · exact ct_bind (ct_take (by decide) ht (.inr rfl)) (fun _ _ _ _ h => ct_bind (ct_ex h) (fun _ _ _ _ h => ct_ending h) fun _ _ => om_ending _ _ _) fun _ _ => om_bind (om_ex z' m _) fun _ _ => om_ending _ _ _
      · exact ct_bind (ct_test (by decide) rfl ht) (fun _ _ _ _ h => ct_ending h) fun _ _ => om_ending _ _ _
    · refine ct_lk h ((om_stmts z' (m + 1)).2.2.2 _ _) fun x k hl => ?_
      rw [block, block, hl.at z z']
      refine ct_ite (fun _ => ct_same h _) fun _ => ?_
      obtain ⟨q1, q2, q3, q4, q5⟩ := hl
      by_cases hs : s.sts = 400
      · rw [if_pos hs]; exact ct_bad
      · rw [if_neg hs, if_neg (by omega)]
        exact ct_bind (i3 { s with sts := s.sts + 1 } { s' with sts := s'.sts + 1 } ⟨x :: k, q1, by show s.sts + 1 ≤ 400; omega, q3, by show s.sts + 1 = s'.sts + 1 + 3; omega, q5⟩) (fun _ _ _ _ h => i4 _ _ _ h) fun _ _ => o4 _ _
theorem ct_length {z z' : Nat} {s s' : PS} (h : Rl s s') : Ct s' (length z s) (length z' s') := by
  refine ct_lk h (om_length _ _) fun x k hl => ?_
  unfold length
  rw [(hl.cur z z').1, (hl.cur z z').2]
  exact ct_ite (fun _ => ct_ok ⟨k, hl.skip⟩ (skip_sfx _) _) fun _ => ct_bad
theorem ct_decl {z z' : Nat} {s s' : PS} (h : Rl s s') : Ct s' (decl z s) (decl z' s') := by
  have hO : ∀ (x : List UInt8) (t : PS), Om 399 t (if at' z' [91] t then (within z' [91] (length z') [93] t).bind fun n s2 => .ok (x, n) s2 else PR.ok (x, 0) t) := fun x t => om_ite (fun _ => om_bind (om_weak (om_within (by decide) (by decide) (om_length z') _)) fun _ _ => om_ok _ _) fun _ => om_ok _ _
  refine ct_bind (ct_name h) (fun x t t' _ ht => ct_lk ht (hO x _) fun y k hl => ?_) fun x t => hO x t
  show Ct t' (if at' z [91] t = true then _ else _) (if at' z' [91] t' = true then _ else _)
  rw [hl.at z z']
  exact ct_ite (fun _ => ct_bind (ct_within rfl (by decide) (fun _ _ h => ct_length h) (kr_length z) (om_length z') ht) (fun _ _ _ _ h => ct_same h _) fun _ _ => om_ok _ _) fun _ => ct_same ht _
theorem ct_vars {z z' m : Nat} {s s' : PS} (h : Rl s s') : Ct s' (vars z m s) (vars z' m s') := by
  refine ct_lk h (om_vars _ _ _) fun x k hl => ?_
  unfold vars
  rw [hl.at z z']
  exact ct_ite (fun _ => ct_up (ct_bind (ct_list (fun _ _ h => ct_decl h) (om_decl z') ⟨k, hl.skip⟩) (fun _ _ _ _ h => ct_bind (ct_take (by decide) h (.inr rfl)) (fun _ _ _ _ h => ct_same h _) fun _ _ => om_ok _ _) fun _ _ => om_bind (om_weak (om_take (by decide) _)) fun _ _ => om_ok _ _) (skip_sfx _)) fun _ => ct_same h _
def Cb {α : Type} (s' : PS) (r r' : PR α) : Prop := ∀ a t, r = .ok a t → (∃ t', r' = .ok a t' ∧ Rl t t' ∧ t'.ws <:+ s'.ws) ∨ Bd s'.ws r'
theorem cb_bind {α β : Type} {s' : PS} {r r' : PR α} {g g' : α → PS → PR β} (h : Ct s' r r') (hg : ∀ a t t', r = .ok a t → Rl t t' → Cb t' (g a t) (g' a t')) (hB : ∀ a t, Po 399 t → Bd t.ws (g' a t)) : Cb s' (r.bind g) (r'.bind g') := fun b u e => by
  obtain ⟨a, t, e1, e2⟩ := bind_ok e
  rcases h a t e1 with ⟨t', e', hr, hs⟩ | hS
  · rw [e']
    rcases hg a t t' e1 hr b u e2 with ⟨u', f, hR, hs2⟩ | hb
    · exact .inl ⟨u', f, hR, hs2.trans hs⟩
    · exact .inr (hb.up hs)
  · exact .inr (bd_bind hS hB)
theorem cb_end {β : Type} {z z' : Nat} {F : β} {s s' : PS} (hR : Rl s s') (h3 : 3 ≤ s.op) : Cb s' ((take z [125] s).bind fun _ t => PR.ok F t) ((take z' [125] s').bind fun _ t => PR.ok F t) := by
  obtain ⟨l, hl⟩ := id hR
  cases l with
  | nil => exact fun a t _ => .inr (bd_end (hl.few (by simp) (fun t ht => by cases ht)))
  | cons x k =>
    intro a t e
    obtain ⟨u, t1, e1, e2⟩ := bind_ok e
    cases e2
    obtain ⟨q1, q2, q3, q4, -⟩ := id hl
    have hx : x.text = [125] := by have := (take_ok e1).1; rwa [(hl.cur z z').1] at this
    have e3 : take z' [125] s' = .ok () { s' with ws := s'.ws.tail, op := s'.op - 1 } := by
      unfold take pass at'
      rw [(hl.cur z z').2, hx]
      rfl
    have e4 : take z [125] s = .ok () { s with ws := s.ws.tail, op := s.op - 1 } := by
      unfold take pass at'
      rw [(hl.cur z z').1, hx]
      rfl
    rw [e4] at e1
    cases e1
    rw [e3]
    exact .inl ⟨_, rfl, ⟨k, hl.tail (s := s) (s' := s') (by omega) (by omega) q2 q4⟩, List.tail_suffix _⟩
theorem cb_function {z z' m : Nat} {s s' : PS} (h : Rl s s') : Cb s' (function z m s) (function z' m s') := by
  refine cb_bind (ct_take (by decide) h (.inr rfl)) (fun _ t1 t1' e1 h1 => cb_bind (ct_name h1) (fun x t2 t2' e2 h2 => cb_bind (ct_args (fun _ _ h => ct_name h) (kr_name z) (fun s => om_weak (om_name z' s)) h2) (fun ps t3 t3' e3 h3 => cb_bind (ct_take (by decide) h3 (.inr rfl)) (fun _ t4 t4' e4 h4 => cb_bind (ct_vars h4) (fun vs t5 t5' e5 h5 => cb_bind ((ct_stmts z z' m).2.2.2 _ _ _ h5) (fun b t6 t6' e6 h6 => cb_end h6 ?_) ?_) ?_) ?_) ?_) ?_) ?_
  · have p4 := take_open e4 rfl
    have p5 := kr_vars _ _ _ _ _ e5
    have p6 := (kr_stmts z m).2.2.2 _ _ _ _ e6
    have := rl_op h3
    omega
  · exact fun _ _ h => bd_end h
  · exact fun _ _ h => bd_bind ((om_stmts z' m).2.2.2 _ _ h) fun _ _ h => bd_end h
  · exact fun _ _ h => bd_bind (om_vars _ _ _ h) fun _ _ h => bd_bind ((om_stmts z' m).2.2.2 _ _ h) fun _ _ h => bd_end h
  · exact fun _ _ h => bd_bind (om_weak (om_take (by decide) _) h) fun _ _ h => bd_bind (om_vars _ _ _ h) fun _ _ h => bd_bind ((om_stmts z' m).2.2.2 _ _ h) fun _ _ h => bd_end h
  · exact fun _ _ h => bd_bind (om_args (fun s => om_weak (om_name z' s)) _ h) fun _ _ h => bd_bind (om_weak (om_take (by decide) _) h) fun _ _ h => bd_bind (om_vars _ _ _ h) fun _ _ h => bd_bind ((om_stmts z' m).2.2.2 _ _ h) fun _ _ h => bd_end h
  · exact fun _ _ h => bd_bind (om_weak (om_name _ _) h) fun _ _ h => bd_bind (om_args (fun s => om_weak (om_name z' s)) _ h) fun _ _ h => bd_bind (om_weak (om_take (by decide) _) h) fun _ _ h => bd_bind (om_vars _ _ _ h) fun _ _ h => bd_bind ((om_stmts z' m).2.2.2 _ _ h) fun _ _ h => bd_end h
theorem funcs_len {z m : Nat} : ∀ k (l p : List RF) s t, funcs z m k l s = .ok p t → l.length ≤ p.length ∧ (s.ws ≠ [] → l.length < p.length) ∧ t.ws = [] := by
  intro k
  induction k with
  | zero => intro l p s t e; rw [funcs] at e; cases e
  | succ k ih =>
    intro l p s t e
    rw [funcs] at e
    split at e
    · rename_i hn
      cases e
      have hn' : s.ws = [] := by simpa using hn
      exact ⟨Nat.le_refl _, fun h => absurd hn' h, hn'⟩
    · obtain ⟨f, s1, e1, e2⟩ := bind_ok e
      obtain ⟨h1, -, h3⟩ := ih _ _ _ _ e2
      rw [List.length_append, List.length_singleton] at h1
      exact ⟨by omega, fun _ => by omega, h3⟩
theorem rl_there {s s' : PS} (h : Rl s s') : s.ws ≠ [] := by
  obtain ⟨l, -, -, -, -, -, r, r', e, -, h, -⟩ := h
  rw [e]
  intro h0
  exact h (List.append_eq_nil_iff.1 h0).2
theorem cut_funcs {z z' m : Nat} : ∀ k (l p : List RF) s s' t, Rl s s' → funcs z m k l s = .ok p t → (∃ q t', funcs z' m k l s' = .ok q t' ∧ l.length ≤ q.length ∧ q.length < p.length ∧ t'.ws = []) ∨ Bd s'.ws (funcs z' m k l s') := by
  intro k
  induction k with
  | zero => intro l p s s' t _ e; rw [funcs] at e; cases e
  | succ k ih =>
    intro l p s s' t hR e
    have hlen := funcs_len (k + 1) l p s t e
    have hne := rl_there hR
    rw [funcs] at e ⊢
    rw [if_neg (by simpa using hne)] at e
    by_cases hn : s'.ws.isEmpty = true
    · rw [if_pos hn]
      exact .inl ⟨l, s', rfl, Nat.le_refl _, hlen.2.1 hne, by simpa using hn⟩
    · rw [if_neg hn]
      obtain ⟨f, s1, e1, e2⟩ := bind_ok e
      rcases cb_function hR f s1 e1 with ⟨s1', e1', hR1, hs1⟩ | ⟨n, t', e1', hn, ht'⟩
      · rw [e1']
        rcases ih _ _ _ _ _ hR1 e2 with ⟨q, t', e3, h1, h2, h3⟩ | hb
        · rw [List.length_append, List.length_singleton] at h1
          exact .inl ⟨q, t', e3, by omega, h2, h3⟩
        · exact .inr (hb.up hs1)
      · rw [e1']
        exact .inr ⟨n, t', rfl, hn, ht'⟩
theorem cut_program {z z' m : Nat} {p : List RF} {s s' t : PS} (hR : Rl s s') (e : program z m s = .ok p t) : (∃ q t', program z' m s' = .ok q t' ∧ 0 < q.length ∧ q.length < p.length ∧ t'.ws = []) ∨ Bd s'.ws (program z' m s') := by
  unfold program at e ⊢
  obtain ⟨f, s1, e1, e2⟩ := bind_ok e
  rcases cb_function hR f s1 e1 with ⟨s1', e1', hR1, hs1⟩ | ⟨n, t', e1', hn, ht'⟩
  · rw [e1']
    rcases cut_funcs _ _ _ _ _ _ hR1 e2 with ⟨q, t', e3, h1, h2, h3⟩ | hb
    · exact .inl ⟨q, t', e3, h1, h2, h3⟩
    · exact .inr (hb.up hs1)
  · rw [e1']
    exact .inr ⟨n, t', rfl, hn, ht'⟩
end Go.Proofs.YtgkdoealhbhnmaaGreatDoor.Pm

set_option linter.unusedSimpArgs false
set_option linter.unusedVariables false
namespace Go.Proofs.YtgkdoealhbhnmaaGreatDoor.Pm
open Go
open Go.Proofs.YtgkdoealhbhnmaaGreatDoor.Lx (wordOf_letter wordOf_digit wordOf_tag wordOf_other)

theorem lex_place : ∀ (p : Nat) (l : List UInt8) (ts : List Tok) (e : Nat), lexP p l = (some ts, e) → ∀ t ∈ ts, t.at' ≤ p + l.length := by
  refine lex_ind (P := fun p l ts _ => ∀ t ∈ ts, t.at' ≤ p + l.length) (fun p t ht => by cases ht) (fun p c r ts e _ _ ih t ht => ?_) fun p c r k len n ts e hs hw h ih t ht => ?_
  · have := ih t ht
    rw [List.length_cons]; omega
  · have hl := wordOf_len hw
    rcases List.mem_cons.1 ht with rfl | ht
    · show p ≤ _; omega
    · have := ih t ht
      rw [List.length_drop] at this
      omega
theorem lex_cover : ∀ (p : Nat) (l : List UInt8) (ts : List Tok) (e : Nat), lexP p l = (some ts, e) → ∀ i, i < l.length → isSp (l.getD i 0) = false → ∃ t ∈ ts, p + i < t.at' + t.text.length := by
  refine lex_ind (P := fun p l ts _ => ∀ i, i < l.length → isSp (l.getD i 0) = false → ∃ t ∈ ts, p + i < t.at' + t.text.length) (fun p i hi => by simp at hi) (fun p c r ts e hc _ ih i hi hb => ?_) fun p c r k len n ts e hs hw h ih i hi hb => ?_
  · cases i with
    | zero => simp only [List.getD_cons_zero] at hb; rw [hc] at hb; cases hb
    | succ i =>
      obtain ⟨t, ht, h⟩ := ih i (by simpa using hi) (by simpa using hb)
      exact ⟨t, ht, by omega⟩
  · have hl := wordOf_len hw
    by_cases hlt : i < len
    · refine ⟨_, List.mem_cons_self, ?_⟩
      show p + i < p + ((c :: r).take len).length
      rw [List.length_take]; omega
    · obtain ⟨t, ht, h⟩ := ih (i - len) (by rw [List.length_drop]; omega) (by
        rw [← hb, List.getD_eq_getElem?_getD, List.getD_eq_getElem?_getD, List.getElem?_drop, show len + (i - len) = i by omega])
      exact ⟨t, List.mem_cons_of_mem _ ht, by omega⟩
theorem sign_end : ∀ s ∈ signsL, s.head? = some 125 → s.length = 1 := by decide
theorem word_end {r : List UInt8} {k len n : Nat} (hw : wordOf (125 :: r) = some (k, len, n)) : k = 4 ∧ len = 1 := by
  rw [wordOf_other (by decide) (by decide) (by decide)] at hw
  split at hw
  · cases hw
  · rename_i hn
    simp only [Option.some.injEq, Prod.mk.injEq] at hw
    obtain ⟨h1, h2⟩ := longest_is (125 :: r)
    have h3 := h1.resolve_left hn
    refine ⟨hw.1.symm, ?_⟩
    rw [← hw.2.1]
    refine sign_end _ h3 ?_
    obtain ⟨t, ht⟩ := h2
    cases e : longest (125 :: r) with
    | nil => exact absurd e hn
    | cons x l =>
      rw [e] at ht
      simp only [List.cons_append, List.cons.injEq] at ht
      rw [ht.1]; rfl
theorem lex_kind : ∀ (p : Nat) (l : List UInt8) (ts : List Tok) (e : Nat), lexP p l = (some ts, e) → ∀ t ∈ ts, t.kind = 1 → t.text ≠ [125] := by
  refine lex_ind (P := fun p l ts _ => ∀ t ∈ ts, t.kind = 1 → t.text ≠ [125]) (fun p t ht => by cases ht) (fun p c r ts e _ _ ih t ht => ih t ht) fun p c r k len n ts e hs hw h ih t ht hk ht2 => ?_
  rcases List.mem_cons.1 ht with rfl | ht
  · have hl := wordOf_len hw
    obtain ⟨len, rfl⟩ : ∃ m, len = m + 1 := ⟨len - 1, by omega⟩
    simp only [List.take_succ_cons, List.cons.injEq] at ht2
    obtain ⟨rfl, -⟩ := ht2
    have := (word_end hw).1
    simp only at hk
    omega
  · exact ih t ht hk ht2
theorem take_sat {p : UInt8 → Bool} (l : List UInt8) {j : Nat} (h : j ≤ (l.takeWhile p).length) : ∀ x ∈ l.take j, p x = true := fun x hx => by
  have e : l.take j = (l.takeWhile p).take j := by
    conv => lhs; rw [← List.takeWhile_append_dropWhile (p := p) (l := l)]
    rw [List.take_append_of_le_length h]
  rw [e] at hx
  have := List.mem_of_mem_take hx
  exact List.all_eq_true.1 (List.all_takeWhile (p := p) (l := l)) x this
theorem tw_sat {p : UInt8 → Bool} {l : List UInt8} (h : ∀ x ∈ l, p x = true) : l.takeWhile p = l := by
  have := tw_stop (p := p) l [] h (fun c hc => by cases hc)
  rwa [List.append_nil] at this
theorem cut_len {c : UInt8} {r : List UInt8} {k len n j : Nat} (hw : wordOf (c :: r) = some (k, len, n)) (hj : j + 1 < len) {k' len' n' : Nat} (h : wordOf (c :: r.take j) = some (k', len', n')) : len' = (c :: r.take j).length := by
  have hl := wordOf_len hw
  have e0 : c :: r.take j = (c :: r).take (j + 1) := rfl
  cases h1 : isLt c with
  | true =>
    rw [wordOf_letter h1] at hw h
    have hlen : len = ((c :: r).takeWhile isPt).length := by
      repeat' split at hw
      all_goals first | (simp only [Option.some.injEq, Prod.mk.injEq] at hw; exact hw.2.1.symm) | cases hw
    have hs := tw_sat (p := isPt) (l := c :: r.take j) (by rw [e0]; exact take_sat _ (by omega))
    rw [hs] at h
    repeat' split at h
    all_goals first | (simp only [Option.some.injEq, Prod.mk.injEq] at h; exact h.2.1.symm) | cases h
  | false =>
    cases h2 : isDg c with
    | true =>
      rw [wordOf_digit h1 h2] at hw h
      obtain ⟨x, hx, he⟩ := Option.map_eq_some_iff.1 hw
      simp only [Prod.mk.injEq] at he
      have hs := tw_sat (p := isDg) (l := c :: r.take j) (by rw [e0]; exact take_sat _ (by omega))
      rw [hs] at h
      obtain ⟨y, hy, he2⟩ := Option.map_eq_some_iff.1 h
      simp only [Prod.mk.injEq] at he2
      exact he2.2.1.symm
    | false =>
      cases h3 : c.toNat == 64 with
      | true =>
        rw [wordOf_tag h1 h2 h3] at hw h
        obtain ⟨x, hx, he⟩ := Option.map_eq_some_iff.1 hw
        simp only [Prod.mk.injEq] at he
        have hs := tw_sat (p := isDg) (l := r.take j) (take_sat _ (by omega))
        rw [hs] at h
        obtain ⟨y, hy, he2⟩ := Option.map_eq_some_iff.1 h
        simp only [Prod.mk.injEq] at he2
        rw [List.length_cons]
        omega
      | false =>
        rw [wordOf_other h1 h2 h3] at hw h
        have h4 := longest_len (c :: r)
        have hlen : len = (longest (c :: r)).length := by
          split at hw
          · cases hw
          · simp only [Option.some.injEq, Prod.mk.injEq] at hw; exact hw.2.1.symm
        obtain rfl : j = 0 := by omega
        rw [List.take_zero] at h ⊢
        split at h
        · cases h
        · rename_i hn
          simp only [Option.some.injEq, Prod.mk.injEq] at h
          have h5 := (longest_is [c]).2.length_le
          have h6 := List.length_pos_iff.2 hn
          rw [List.length_singleton] at h5 ⊢
          omega
theorem cut_word {c : UInt8} {r : List UInt8} {k len n j : Nat} (hs : isSp c = false) (hw : wordOf (c :: r) = some (k, len, n)) (hj : j + 1 < len) (p : Nat) : lexP p (c :: r.take j) = (none, p) ∨ ∃ k' n' q, lexP p (c :: r.take j) = (some [⟨k', c :: r.take j, n', p⟩], q) ∧ c :: r.take j ≠ [125] := by
  cases h : wordOf (c :: r.take j) with
  | none => exact .inl (lexP_bad p _ hs h)
  | some x =>
    obtain ⟨k', len', n'⟩ := x
    obtain rfl := cut_len hw hj h
    refine .inr ⟨k', n', p + (c :: r.take j).length, ?_, fun e => ?_⟩
    · rw [lexP_word p _ hs h, List.take_length, List.drop_length, lexP_nil]
      rfl
    · simp only [List.cons.injEq] at e
      obtain ⟨rfl, -⟩ := e
      have := (word_end hw).2
      omega
def Trim (p : Nat) (l : List UInt8) (ts : List Tok) (k : Nat) : Prop := (∃ q, lexP p (l.take k) = (none, q)) ∨ ∃ a b c q, ts = a ++ b ∧ lexP p (l.take k) = (some (a ++ c), q) ∧ c.length ≤ 1 ∧ (∀ t ∈ c, t.text ≠ [125]) ∧ ∀ t ∈ a, t.at' + t.text.length ≤ p + k
theorem trim_zero (p : Nat) (l : List UInt8) (ts : List Tok) : Trim p l ts 0 := .inr ⟨[], ts, [], p, rfl, by rw [List.take_zero, lexP_nil]; rfl, Nat.zero_le _, fun t ht => (by cases ht), fun t ht => (by cases ht)⟩
theorem lex_trim : ∀ (p : Nat) (l : List UInt8) (ts : List Tok) (e : Nat), lexP p l = (some ts, e) → ∀ k, Trim p l ts k := by
  refine lex_ind (P := fun p l ts _ => ∀ k, Trim p l ts k) (fun p k => ?_) (fun p c r ts e hc _ ih k => ?_) fun p c r k0 len n ts e hs hw h ih k => ?_
  · have := trim_zero p [] []
    unfold Trim at this ⊢
    rw [List.take_nil] at this ⊢
    refine .inr ⟨[], [], [], p, rfl, lexP_nil p, Nat.zero_le _, fun t ht => (by cases ht), fun t ht => (by cases ht)⟩
  · cases k with
    | zero => exact trim_zero _ _ _
    | succ k =>
      unfold Trim
      rw [List.take_succ_cons, lexP_space p _ hc]
      rcases ih k with h | ⟨a, b, d, q, h1, h2, h3, h4, h5⟩
      · exact .inl h
      · exact .inr ⟨a, b, d, q, h1, h2, h3, h4, fun t ht => by have := h5 t ht; omega⟩
  · have hl := wordOf_len hw
    cases k with
    | zero => exact trim_zero _ _ _
    | succ k =>
      by_cases hk : k + 1 < len
      · unfold Trim
        rw [List.take_succ_cons]
        rcases cut_word hs hw hk p with h | ⟨k', n', q, h1, h2⟩
        · exact .inl ⟨p, h⟩
        · exact .inr ⟨[], _, _, q, rfl, h1, Nat.le_refl _, fun t ht => by rw [List.mem_singleton] at ht; rw [ht]; exact h2, fun t ht => by cases ht⟩
      · obtain ⟨j, hj⟩ : ∃ j, k + 1 = len + j := ⟨k + 1 - len, by omega⟩
        have e1 : (c :: r).take (k + 1) = c :: r.take k := rfl
        have hw' : wordOf (c :: r.take k) = some (k0, len, n) := by
          rw [← e1, hj, List.take_add]
          exact wordOf_again hw (Follows.same _ _ _)
        have e2 : (c :: r.take k).take len = (c :: r).take len := by rw [← e1, List.take_take]; congr 1; omega
        have e3 : (c :: r.take k).drop len = ((c :: r).drop len).take j := by rw [← e1, List.drop_take]; congr 1; omega
        unfold Trim
        rw [e1, lexP_word p _ hs hw', e2, e3]
        rcases ih j with ⟨q, h⟩ | ⟨a, b, d, q, h1, h2, h3, h4, h5⟩
        · exact .inl ⟨q, by rw [h]; rfl⟩
        · refine .inr ⟨_ :: a, b, d, q, by rw [h1]; rfl, by rw [h2]; rfl, h3, h4, fun t ht => ?_⟩
          rcases List.mem_cons.1 ht with rfl | ht
          · show p + ((c :: r).take len).length ≤ _
            rw [List.length_take]; omega
          · have := h5 t ht; omega
def Left (n z : Nat) (r : Ans (List RF)) : Prop := match r with
  | .ok q _ => 0 < q.length ∧ q.length < n
  | .bad pl e => (e = 2 ∨ e = 3) ∧ pl ≤ z
theorem cut_text {l : List UInt8} {f : RF} {p : List RF} (hr : ∀ g ∈ f :: p, RF.ok g) (hd : dP (f :: p) ≤ 38) (hn : nP (f :: p) ≤ 397) (hx : Lx l (tkP lev (f :: p))) {i k : Nat} (hi : i < l.length) (hl : l.length ≤ 100000) (hb : isSp (l.getD i 0) = false) (hk : k ≤ i) : Evn fun m => Left (f :: p).length (l.take k).length (parseF m (l.take k)) := by
  obtain ⟨ts, e, hw⟩ := lx_toks hx
  obtain ⟨m0, h⟩ := program_back l.length f p hr
  refine ⟨m0 + 3 * l.length + 6, fun m hm => ?_⟩
  have h1 := h m (by omega) ⟨ts, 3, 2, 2⟩ (by rw [List.append_nil]; exact hw) (Nat.le_refl _) (by show 2 + _ ≤ 40; omega) (by show 3 + _ ≤ 400; omega)
  show Left _ _ (answerF m program (l.take k))
  unfold answerF
  rcases lex_trim 0 l ts _ e k with ⟨q, h2⟩ | ⟨a, b, c, q, h2, h3, h4, h5, h6⟩
  · rw [h2]
    have := (lexP_at ((l.take k).length + 1) 0 (l.take k) (by omega)).1 (by rw [h2])
    rw [h2] at this
    exact ⟨.inl rfl, by show q ≤ _; have := this.2; simp only at this; omega⟩
  · rw [h3]
    have hbn : b ≠ [] := fun hb0 => by
      rw [hb0, List.append_nil] at h2
      obtain ⟨t, ht, h7⟩ := lex_cover 0 l ts _ e i hi hb
      have := h6 t (by rw [← h2]; exact ht)
      omega
    have hR : Rl ⟨ts, 3, 2, 2⟩ ⟨a ++ c, 0, 0, 0⟩ := ⟨a, by show 2 ≤ 40; decide, by show 3 ≤ 400; decide, rfl, rfl, lex_kind 0 _ _ _ h3, b, c, h2, rfl, hbn, h4, h5⟩
    have hlen := (lex_many (l := l.take k) (by rw [List.length_take]; have := Nat.min_le_right k l.length; omega) h3).2.1
    rcases cut_program (z' := (l.take k).length) hR h1 with ⟨qs, t', h7, h8, h9, h10⟩ | ⟨n, t', h7, h8, h9⟩
    · have := whole_ok (z := (l.take k).length) h7 h10
      simp only
      rw [this]
      exact ⟨h8, h9⟩
    · have hf : Fin (program (l.take k).length m ⟨a ++ c, 0, 0, 0⟩) := fin_program (by show 3 * (a ++ c).length + 6 ≤ m; rw [List.length_take] at hlen; omega)
      rcases h8 with rfl | rfl
      · have h11 : whole (l.take k).length (program (l.take k).length m) (a ++ c) = .bad 3 t' := by unfold whole; rw [h7]; rfl
        simp only
        rw [h11]
        refine ⟨.inr rfl, ?_⟩
        show place _ t' ≤ _
        unfold place cur
        cases e5 : t'.ws with
        | nil => exact Nat.le_refl _
        | cons x y =>
          have := lex_place 0 _ _ _ h3 x (h9.subset (by rw [e5]; exact List.mem_cons_self))
          show x.at' ≤ _
          omega
      · exact absurd h7 (hf t')
end Go.Proofs.YtgkdoealhbhnmaaGreatDoor.Pm
