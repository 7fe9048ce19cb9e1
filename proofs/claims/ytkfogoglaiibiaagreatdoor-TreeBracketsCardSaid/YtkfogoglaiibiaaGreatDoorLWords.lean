/- What follows of the cutting into words: a word stands for itself before space, its end or what followed it; words put with a space between; a text cut at a word's end. No program stands in this text. -/
import Derived.Test.YtkfogoglaiibiaaGreatDoorLMath
namespace Go.Proofs.YtkfogoglaiibiaaGreatDoor
open Go

theorem tw_again {p : UInt8 → Bool} : ∀ (l r' : List UInt8), (∀ c, r'.head? = some c → p c = false) → (l.takeWhile p ++ r').takeWhile p = l.takeWhile p := by
  intro l
  induction l with
  | nil =>
    intro r' h
    cases r' with
    | nil => rfl
    | cons c r => rw [List.takeWhile_nil, List.nil_append, List.takeWhile_cons_of_neg (by simp [h c rfl])]
  | cons c r ih =>
    intro r' h
    cases hc : p c with
    | true => rw [List.takeWhile_cons_of_pos hc, List.cons_append, List.takeWhile_cons_of_pos hc, ih r' h]
    | false =>
      rw [List.takeWhile_cons_of_neg (by simp [hc]), List.nil_append]
      cases r' with
      | nil => rfl
      | cons c' r'' => rw [List.takeWhile_cons_of_neg (by simp [h c' rfl])]
theorem tw_drop {p : UInt8 → Bool} : ∀ (l : List UInt8) (c : UInt8), (l.drop (l.takeWhile p).length).head? = some c → p c = false := by
  intro l
  induction l with
  | nil => intro c h; simp at h
  | cons a r ih =>
    intro c h
    cases hc : p a with
    | true => rw [List.takeWhile_cons_of_pos hc, List.length_cons, List.drop_succ_cons] at h; exact ih c h
    | false =>
      rw [List.takeWhile_cons_of_neg (by simp [hc])] at h
      simp only [List.length_nil, List.drop_zero, List.head?_cons, Option.some.injEq] at h
      rw [← h]; exact hc
theorem tw_take {p : UInt8 → Bool} (l : List UInt8) : l.take (l.takeWhile p).length = l.takeWhile p :=
  (List.prefix_iff_eq_take.1 (List.takeWhile_prefix p)).symm

theorem sp_not {c : UInt8} (h : isSp c = true) : isLt c = false ∧ isDg c = false ∧ isPt c = false ∧ (c.toNat == 64) = false := by
  have h' : c.toNat = 32 ∨ c.toNat = 9 ∨ c.toNat = 10 ∨ c.toNat = 13 := by simpa [isSp, or_assoc] using h
  have e1 : isLt c = false := by unfold isLt; rcases h' with h' | h' | h' | h' <;> rw [h'] <;> rfl
  have e2 : isDg c = false := by unfold isDg; rcases h' with h' | h' | h' | h' <;> rw [h'] <;> rfl
  exact ⟨e1, e2, by unfold isPt; rw [e1, e2]; rfl, by rcases h' with h' | h' | h' | h' <;> rw [h'] <;> rfl⟩
theorem sp_sign : ∀ s ∈ signsL, ∀ c ∈ s, isSp c = false := by decide

/-- What may follow a word of len bytes that l begins with: nothing, space, or what followed it in l. -/
def Follows (l : List UInt8) (len : Nat) (r' : List UInt8) : Prop := ∀ c, r'.head? = some c → isSp c = true ∨ (l.drop len).head? = some c
theorem Follows.nil (l : List UInt8) (len : Nat) : Follows l len [] := fun c h => by simp at h
theorem Follows.space {l : List UInt8} {len : Nat} {c : UInt8} (r : List UInt8) (h : isSp c = true) : Follows l len (c :: r) := fun d hd => by
  simp only [List.head?_cons, Option.some.injEq] at hd; subst hd; exact .inl h
theorem Follows.same (l : List UInt8) (len m : Nat) : Follows l len ((l.drop len).take m) := fun c h => .inr (by
  cases m with
  | zero => simp at h
  | succ m => simpa [List.head?_take] using h)

theorem longest_again {l r' : List UInt8} (hne : longest l ≠ []) (hf : Follows l (longest l).length r') : longest (longest l ++ r') = longest l := by
  have hin : longest l ∈ signsL := (longest_is l).1.resolve_left hne
  have h1 := longest_most (longest l ++ r') _ hin (List.prefix_append _ _)
  obtain ⟨i2, p2⟩ := longest_is (longest l ++ r')
  have l2 := longest_len (longest l ++ r')
  have h2 : (longest (longest l ++ r')).length ≤ (longest l).length := by
    rcases Nat.lt_or_ge (longest l).length (longest (longest l ++ r')).length with hlt | hge
    · exfalso
      have hz : 0 < (longest l).length := by
        cases e : longest l with
        | nil => exact absurd e hne
        | cons => simp
      have z1 : (longest l).length = 1 := by omega
      have z2 : (longest (longest l ++ r')).length = 2 := by omega
      obtain ⟨a, ea⟩ : ∃ a, longest l = [a] := List.length_eq_one_iff.1 z1
      have i2' : longest (longest l ++ r') ∈ signsL := i2.resolve_left (fun e => by rw [e] at z2; simp at z2)
      cases r' with
      | nil =>
        have := p2.length_le
        rw [List.append_nil] at this z2
        omega
      | cons c r =>
        have e2 : longest (longest l ++ c :: r) = [a, c] := by
          have := List.prefix_iff_eq_take.1 p2
          rw [this, z2, ea]; rfl
        rcases hf c rfl with hs | hs
        · have := sp_sign _ i2' c (by rw [e2]; simp)
          rw [hs] at this; cases this
        · have hp : [a, c] <+: l := by
            have pl := (longest_is l).2
            obtain ⟨t, ht⟩ := pl
            rw [ea] at ht
            rw [ea] at hs
            rw [← ht] at hs ⊢
            cases t with
            | nil => simp at hs
            | cons d t =>
              simp only [List.length_singleton, List.singleton_append, List.drop_succ_cons, List.drop_zero, List.head?_cons, Option.some.injEq] at hs
              rw [hs]
              exact ⟨t, rfl⟩
          have := longest_most l [a, c] (by rw [← e2]; exact i2') hp
          rw [z1] at this
          simp at this
    · exact hge
  have e : longest (longest l ++ r') = (longest l ++ r').take (longest (longest l ++ r')).length := List.prefix_iff_eq_take.1 p2
  have e1 : (longest (longest l ++ r')).length = (longest l).length := by omega
  rw [e, e1, List.take_left']
  rfl

/-- A word stands for itself. -/
theorem wordOf_again {l r' : List UInt8} {k len n : Nat} (h : wordOf l = some (k, len, n)) (hf : Follows l len r') : wordOf (l.take len ++ r') = some (k, len, n) := by
  cases l with
  | nil => simp [wordOf] at h
  | cons c r =>
    have hlen := wordOf_len h
    obtain ⟨m, rfl⟩ : ∃ m, len = m + 1 := ⟨len - 1, by omega⟩
    have stopP : ∀ (p : UInt8 → Bool) (x : List UInt8), (∀ c, isSp c = true → p c = false) → (x.takeWhile p).length = m + 1 → x = c :: r → ∀ d, r'.head? = some d → p d = false := fun p x hp hx ex d hd => by
      rcases hf d hd with hs | hs
      · exact hp d hs
      · rw [← ex, ← hx] at hs; exact tw_drop x d hs
    unfold wordOf at h
    rw [List.take_succ_cons, List.cons_append]
    unfold wordOf
    simp only at h ⊢
    by_cases hl : isLt c = true
    · rw [if_pos hl] at h ⊢
      have key : ∀ hh : ((c :: r).takeWhile isPt).length = m + 1, ((c :: (r.take m ++ r')).takeWhile isPt) = (c :: r).takeWhile isPt := fun hh => by
        have e : c :: (r.take m ++ r') = (c :: r).takeWhile isPt ++ r' := by
          rw [← tw_take (p := isPt) (c :: r), hh]; rfl
        rw [e, tw_again _ _ (stopP isPt _ (fun c hc => (sp_not hc).2.2.1) hh rfl)]
      by_cases hk : isKeyL ((c :: r).takeWhile isPt) = true
      · rw [if_pos hk] at h
        simp only [Option.some.injEq, Prod.mk.injEq] at h
        rw [key h.2.1, if_pos hk]
        simp only [Option.some.injEq, Prod.mk.injEq]
        exact h
      · rw [if_neg hk] at h
        by_cases hb : 24 < ((c :: r).takeWhile isPt).length
        · rw [if_pos hb] at h; cases h
        · rw [if_neg hb] at h
          simp only [Option.some.injEq, Prod.mk.injEq] at h
          rw [key h.2.1, if_neg hk, if_neg hb]
          simp only [Option.some.injEq, Prod.mk.injEq]
          exact h
    · rw [if_neg hl] at h ⊢
      by_cases hd : isDg c = true
      · rw [if_pos hd] at h ⊢
        have hh : ((c :: r).takeWhile isDg).length = m + 1 := by
          cases hn : numOf 9223372036854775808 ((c :: r).takeWhile isDg) with
          | none => rw [hn] at h; cases h
          | some u => rw [hn] at h; simp only [Option.map_some, Option.some.injEq, Prod.mk.injEq] at h; exact h.2.1
        have e : c :: (r.take m ++ r') = (c :: r).takeWhile isDg ++ r' := by
          rw [← tw_take (p := isDg) (c :: r), hh]; rfl
        rw [e, tw_again _ _ (stopP isDg _ (fun c hc => (sp_not hc).2.1) hh rfl)]
        exact h
      · rw [if_neg hd] at h ⊢
        by_cases h64 : (c.toNat == 64) = true
        · rw [if_pos h64] at h ⊢
          have hh : (r.takeWhile isDg).length = m := by
            cases hn : numOf 1000000 (r.takeWhile isDg) with
            | none => rw [hn] at h; cases h
            | some u => rw [hn] at h; simp only [Option.map_some, Option.some.injEq, Prod.mk.injEq] at h; omega
          have e : r.take m ++ r' = r.takeWhile isDg ++ r' := by
            rw [← tw_take (p := isDg) r, hh]
          rw [e, tw_again _ _ (fun d hd' => by
            rcases hf d hd' with hs | hs
            · exact (sp_not hs).2.1
            · rw [List.drop_succ_cons, ← hh] at hs; exact tw_drop r d hs)]
          exact h
        · rw [if_neg h64] at h ⊢
          by_cases hne : longest (c :: r) = []
          · rw [if_pos hne] at h; cases h
          · rw [if_neg hne] at h
            simp only [Option.some.injEq, Prod.mk.injEq] at h
            have e : c :: (r.take m ++ r') = longest (c :: r) ++ r' := by
              have := List.prefix_iff_eq_take.1 (longest_is (c :: r)).2
              rw [h.2.1] at this
              rw [this]; rfl
            have ea := longest_again hne (r' := r') (by rw [h.2.1]; exact hf)
            rw [e, ea, if_neg hne]
            simp only [Option.some.injEq, Prod.mk.injEq]
            exact h

/-- A text's cutting, word by word. -/
theorem lex_ind {P : Nat → List UInt8 → List Tok → Nat → Prop} (nil : ∀ p, P p [] [] p)
    (sp : ∀ p c r ts e, isSp c = true → lexP (p + 1) r = (some ts, e) → P (p + 1) r ts e → P p (c :: r) ts e)
    (word : ∀ p c r k len n ts e, isSp c = false → wordOf (c :: r) = some (k, len, n) → lexP (p + len) ((c :: r).drop len) = (some ts, e) → P (p + len) ((c :: r).drop len) ts e → P p (c :: r) (⟨k, (c :: r).take len, n, p⟩ :: ts) e) :
    ∀ (p : Nat) (l : List UInt8) (ts : List Tok) (e : Nat), lexP p l = (some ts, e) → P p l ts e := by
  have main : ∀ (m p : Nat) (l : List UInt8) (ts : List Tok) (e : Nat), l.length < m → lexP p l = (some ts, e) → P p l ts e := by
    intro m
    induction m with
    | zero => intro p l ts e h; omega
    | succ m ih =>
      intro p l ts e hm h
      cases l with
      | nil => rw [lexP_nil] at h; cases h; exact nil p
      | cons c r =>
        simp only [List.length_cons] at hm
        cases hs : isSp c with
        | true => rw [lexP_space p r hs] at h; exact sp p c r ts e hs h (ih _ _ _ _ (by omega) h)
        | false =>
          cases hw : wordOf (c :: r) with
          | none => rw [lexP_bad p r hs hw] at h; cases h
          | some x =>
            obtain ⟨k, len, n⟩ := x
            have hlen := wordOf_len hw
            simp only [List.length_cons] at hlen
            rw [lexP_word p r hs hw] at h
            cases h2 : lexP (p + len) ((c :: r).drop len) with
            | mk a b =>
              rw [h2] at h
              cases a with
              | none => simp [pre] at h
              | some ts' =>
                simp only [pre, Option.map_some, Prod.mk.injEq, Option.some.injEq] at h
                obtain ⟨rfl, rfl⟩ := h
                exact word p c r k len n ts' b hs hw h2 (ih _ _ _ _ (by simp; omega) h2)
  exact fun p l ts e h => main (l.length + 1) p l ts e (by omega) h

/-- A word that stands for itself. -/
def Good (t : Tok) : Prop := ∃ c r l, t.text = c :: r ∧ isSp c = false ∧ wordOf l = some (t.kind, t.text.length, t.n) ∧ l.take t.text.length = t.text
theorem Good.pos {t : Tok} (h : Good t) : 0 < t.text.length := by obtain ⟨c, r, l, e, _⟩ := h; rw [e]; simp
theorem good_all : ∀ (p : Nat) (l : List UInt8) (ts : List Tok) (e : Nat), lexP p l = (some ts, e) → ∀ t ∈ ts, Good t :=
  lex_ind (fun _ _ h => absurd h (by simp)) (fun _ _ _ _ _ _ _ h => h) (fun p c r k len n ts e hs hw _ ih t ht => by
    rcases List.mem_cons.1 ht with rfl | ht
    · have hlen := wordOf_len hw
      have hz : ((c :: r).take len).length = len := by rw [List.length_take]; omega
      obtain ⟨m, rfl⟩ : ∃ m, len = m + 1 := ⟨len - 1, by omega⟩
      exact ⟨c, r.take m, c :: r, rfl, hs, by rw [hz]; exact hw, by rw [hz]⟩
    · exact ih t ht)
/-- A good word, and nothing or space behind it, is cut off as it is. -/
theorem Good.cut {t : Tok} (h : Good t) (q : Nat) (r' : List UInt8) (hr : ∀ c, r'.head? = some c → isSp c = true) :
    lexP q (t.text ++ r') = pre ⟨t.kind, t.text, t.n, q⟩ (lexP (q + t.text.length) r') := by
  obtain ⟨c, r, l, e, hs, hw, ht⟩ := h
  have hw' := wordOf_again (r' := r') hw (fun c hc => .inl (hr c hc))
  rw [ht] at hw'
  have e1 : t.text ++ r' = c :: (r ++ r') := by rw [e]; rfl
  rw [e1] at hw'
  rw [e1, lexP_word q _ hs hw', ← e1, List.take_left', List.drop_left'] <;> rfl

def reAt : Nat → List Tok → List Tok
  | _, [] => []
  | q, t :: ts => ⟨t.kind, t.text, t.n, q + 1⟩ :: reAt (q + 1 + t.text.length) ts
def spaced (ts : List Tok) : List UInt8 := ts.flatMap fun t => 32 :: t.text
theorem spaced_cons (t : Tok) (ts : List Tok) : spaced (t :: ts) = 32 :: (t.text ++ spaced ts) := by simp [spaced]
theorem spaced_head (ts : List Tok) : ∀ c, (spaced ts).head? = some c → isSp c = true := by
  cases ts with
  | nil => intro c h; simp [spaced] at h
  | cons t ts => intro c h; rw [spaced_cons, List.head?_cons, Option.some.injEq] at h; subst h; rfl
/-- Words put with a space between are the same words. -/
theorem lex_spaced : ∀ (ts : List Tok), (∀ t ∈ ts, Good t) → ∀ q, lexP q (spaced ts) = (some (reAt q ts), q + (spaced ts).length) := by
  intro ts
  induction ts with
  | nil => intro _ q; rfl
  | cons t ts ih =>
    intro h q
    rw [spaced_cons, lexP_space q _ rfl, (h t List.mem_cons_self).cut (q + 1) _ (spaced_head ts), ih (fun u hu => h u (List.mem_cons_of_mem _ hu))]
    simp only [pre, Option.map_some, reAt, List.length_cons, List.length_append, Prod.mk.injEq, true_and]
    omega
theorem reAt_len (q : Nat) (ts : List Tok) : (reAt q ts).length = ts.length := by
  induction ts generalizing q with
  | nil => rfl
  | cons t ts ih => simp [reAt, ih]
theorem reAt_get (q : Nat) (ts : List Tok) (d : Tok) (i : Nat) (hi : i < ts.length) : ((reAt q ts).getD i d).kind = (ts.getD i d).kind ∧ ((reAt q ts).getD i d).text = (ts.getD i d).text ∧ ((reAt q ts).getD i d).n = (ts.getD i d).n := by
  induction ts generalizing q i with
  | nil => simp at hi
  | cons t ts ih =>
    cases i with
    | zero => exact ⟨rfl, rfl, rfl⟩
    | succ i => simpa [reAt] using ih (q + 1 + t.text.length) i (by simpa using hi)

/-- Where the words stand: one behind the other, nothing but space between. -/
def Placed (s : List UInt8) : Nat → List Tok → Prop
  | _, [] => True
  | last, t :: ts => last ≤ t.at' ∧ t.at' + t.text.length ≤ s.length ∧ (s.drop t.at').take t.text.length = t.text ∧ 0 < t.text.length ∧ (∀ k, last ≤ k → k < t.at' → isSp (s.getD k 0) = true) ∧ Placed s (t.at' + t.text.length) ts
theorem placed_all (s : List UInt8) : ∀ (p : Nat) (l : List UInt8) (ts : List Tok) (e : Nat), lexP p l = (some ts, e) → s.drop p = l → ∀ last, last ≤ p → (∀ k, last ≤ k → k < p → isSp (s.getD k 0) = true) → Placed s last ts :=
  lex_ind (fun _ _ _ _ _ => trivial)
    (fun p c r ts e hs _ ih hd last hl hk => by
      have hc : s[p]? = some c := by
        have := congrArg (·[0]?) hd
        simpa using this
      refine ih (by rw [← List.drop_drop, hd]; rfl) last (by omega) (fun k h1 h2 => ?_)
      by_cases e : k = p
      · subst e; rw [List.getD_eq_getElem?_getD, hc]; exact hs
      · exact hk k h1 (by omega))
    (fun p c r k len n ts e hs hw _ ih hd last hl hk => by
      have hlen := wordOf_len hw
      have hz : ((c :: r).take len).length = len := by rw [List.length_take]; omega
      have hsz : s.length - p = (c :: r).length := by rw [← hd, List.length_drop]
      refine ⟨hl, by rw [hz]; show p + len ≤ _; omega, by rw [hz]; show (s.drop p).take len = _; rw [hd], by rw [hz]; omega, hk, ?_⟩
      rw [hz]
      exact ih (by rw [← List.drop_drop, hd]) (p + len) (Nat.le_refl _) (fun k h1 h2 => by omega))
def lastAt (ts : List Tok) : Nat → Nat
  | 0 => 0
  | i + 1 => (ts.getD i ⟨0, [], 0, 0⟩).at' + (ts.getD i ⟨0, [], 0, 0⟩).text.length
theorem placed_at {s : List UInt8} : ∀ {ts : List Tok} {last : Nat}, Placed s last ts → ∀ i, i < ts.length →
    (if i = 0 then last else lastAt ts i) ≤ (ts.getD i ⟨0, [], 0, 0⟩).at' ∧ (ts.getD i ⟨0, [], 0, 0⟩).at' + (ts.getD i ⟨0, [], 0, 0⟩).text.length ≤ s.length ∧ (s.drop (ts.getD i ⟨0, [], 0, 0⟩).at').take (ts.getD i ⟨0, [], 0, 0⟩).text.length = (ts.getD i ⟨0, [], 0, 0⟩).text ∧
    0 < (ts.getD i ⟨0, [], 0, 0⟩).text.length ∧ (∀ k, (if i = 0 then last else lastAt ts i) ≤ k → k < (ts.getD i ⟨0, [], 0, 0⟩).at' → isSp (s.getD k 0) = true) := by
  intro ts
  induction ts with
  | nil => intro last _ i hi; simp at hi
  | cons t ts ih =>
    intro last h i hi
    obtain ⟨h1, h2, h3, h4, h5, h6⟩ := h
    cases i with
    | zero => exact ⟨h1, h2, h3, h4, h5⟩
    | succ i =>
      have := ih h6 i (by simpa using hi)
      have e : (if i = 0 then t.at' + t.text.length else lastAt ts i) = (if i + 1 = 0 then last else lastAt (t :: ts) (i + 1)) := by
        cases i with
        | zero => simp [lastAt]
        | succ i => simp [lastAt]
      rw [e] at this
      simpa using this

/-- All the words of a text lie in it: their bytes are no more than its. -/
theorem spaced_len : ∀ (p : Nat) (l : List UInt8) (ts : List Tok) (e : Nat), lexP p l = (some ts, e) → (spaced ts).length ≤ 2 * l.length ∧ ts.length ≤ l.length :=
  lex_ind (fun _ => by simp [spaced])
    (fun p c r ts e _ _ ih => by simp only [List.length_cons]; omega)
    (fun p c r k len n ts e hs hw _ ih => by
      have hlen := wordOf_len hw
      have hz : ((c :: r).take len).length = len := by rw [List.length_take]; omega
      rw [spaced_cons]
      simp only [List.length_cons, List.length_append, hz, List.length_drop] at ih hlen ⊢
      omega)

/-- The end of the word i. -/
def endAt (ts : List Tok) (i : Nat) : Nat := lastAt ts (i + 1)
theorem endAt_cons_zero (t : Tok) (ts : List Tok) : endAt (t :: ts) 0 = t.at' + t.text.length := by simp [endAt, lastAt]
theorem endAt_cons_succ (t : Tok) (ts : List Tok) (i : Nat) : endAt (t :: ts) (i + 1) = endAt ts i := by simp [endAt, lastAt]
theorem lex_cut : ∀ (p : Nat) (l : List UInt8) (ts : List Tok) (e : Nat), lexP p l = (some ts, e) → ∀ k, k < ts.length → p ≤ endAt ts k ∧ endAt ts k ≤ p + l.length ∧
    lexP p (l.take (endAt ts k - p)) = (some (ts.take (k + 1)), endAt ts k) ∧ lexP (endAt ts k) (l.drop (endAt ts k - p)) = (some (ts.drop (k + 1)), e) :=
  lex_ind (fun _ k hk => absurd hk (by simp))
    (fun p c r ts e hs h ih k hk => by
      obtain ⟨h1, h2, h3, h4⟩ := ih k hk
      simp only [List.length_cons]
      refine ⟨by omega, by omega, ?_, ?_⟩
      · rw [show endAt ts k - p = (endAt ts k - (p + 1)) + 1 by omega, List.take_succ_cons, lexP_space p _ hs]; exact h3
      · rw [show endAt ts k - p = (endAt ts k - (p + 1)) + 1 by omega, List.drop_succ_cons]; exact h4)
    (fun p c r kd len n ts e hs hw h ih k hk => by
      have hlen := wordOf_len hw
      have hz : ((c :: r).take len).length = len := by rw [List.length_take]; omega
      have e0 : ∀ m, (c :: r).take len ++ ((c :: r).drop len).take m = (c :: r).take (len + m) := fun m => by
        rw [List.take_add]
      have cut : ∀ m, lexP p ((c :: r).take (len + m)) = pre ⟨kd, (c :: r).take len, n, p⟩ (lexP (p + len) (((c :: r).drop len).take m)) := fun m => by
        have g : Good ⟨kd, (c :: r).take len, n, p⟩ := by
          obtain ⟨m', rfl⟩ : ∃ m', len = m' + 1 := ⟨len - 1, by omega⟩
          exact ⟨c, r.take m', c :: r, rfl, hs, by rw [hz]; exact hw, by rw [hz]⟩
        have hw' := wordOf_again (r' := ((c :: r).drop len).take m) hw (Follows.same _ _ _)
        obtain ⟨m', rfl⟩ : ∃ m', len = m' + 1 := ⟨len - 1, by omega⟩
        rw [← e0]
        rw [List.take_succ_cons, List.cons_append] at hw' ⊢
        rw [lexP_word p _ hs hw']
        have e1 : (c :: (r.take m' ++ ((c :: r).drop (m' + 1)).take m)) = (c :: r).take (m' + 1) ++ ((c :: r).drop (m' + 1)).take m := rfl
        rw [e1, List.take_left' hz, List.drop_left' hz]
        rfl
      cases k with
      | zero =>
        rw [endAt_cons_zero]
        simp only [hz]
        refine ⟨by omega, by omega, ?_, ?_⟩
        · rw [show p + len - p = len + 0 by omega, cut 0, List.take_zero, lexP_nil]; rfl
        · rw [show p + len - p = len by omega]; exact h
      | succ k =>
        rw [endAt_cons_succ]
        obtain ⟨h1, h2, h3, h4⟩ := ih k (by simpa using hk)
        rw [List.length_drop] at h2
        refine ⟨by omega, by omega, ?_, ?_⟩
        · rw [show endAt ts k - p = len + (endAt ts k - (p + len)) by omega, cut, h3]; rfl
        · rw [show endAt ts k - p = len + (endAt ts k - (p + len)) by omega, ← List.drop_drop]; exact h4)
/-- The same text elsewhere. -/
def shiftT (d : Nat) (ts : List Tok) : List Tok := ts.map fun t => ⟨t.kind, t.text, t.n, t.at' - d⟩
theorem lex_shift : ∀ (p : Nat) (l : List UInt8) (ts : List Tok) (e : Nat), lexP p l = (some ts, e) → (∀ t ∈ ts, p ≤ t.at') ∧ ∀ d, d ≤ p → lexP (p - d) l = (some (shiftT d ts), e - d) :=
  lex_ind (fun p => ⟨fun t ht => absurd ht (by simp), fun d _ => rfl⟩)
    (fun p c r ts e hs _ ih => ⟨fun t ht => by have := ih.1 t ht; omega, fun d hd => by
      rw [lexP_space _ _ hs, show p - d + 1 = p + 1 - d by omega]; exact ih.2 d (by omega)⟩)
    (fun p c r k len n ts e hs hw _ ih => ⟨fun t ht => by
        rcases List.mem_cons.1 ht with rfl | ht
        · exact Nat.le_refl _
        · have := ih.1 t ht; omega, fun d hd => by
      rw [lexP_word _ _ hs hw, show p - d + len = p + len - d by omega, ih.2 d (by omega)]; rfl⟩)
end Go.Proofs.YtkfogoglaiibiaaGreatDoor
