/- Words of texts, as plain functions on lists of bytes, and the four equations by which a text is cut into them. No program stands in this text. What follows of the cutting into words: a word stands for itself before space, its end or what followed it; words put with a space between; a text cut at a word's end. No program stands in this text. Digits of numbers, and the words that they are. No program stands in this text. -/
import Derived.Lib.ParseIntBCases
import Derived.Lib.Strings
import Derived.Lib.ItoaNum
namespace Go.Proofs.YtdaklmbifkehpaaGreatDoor
open Go

def isSp (c : UInt8) : Bool := c.toNat == 32 || c.toNat == 9 || c.toNat == 10 || c.toNat == 13
def isLt (c : UInt8) : Bool := (decide (97 ≤ c.toNat) && decide (c.toNat ≤ 122)) || (decide (65 ≤ c.toNat) && decide (c.toNat ≤ 90)) || c.toNat == 95
def isDg (c : UInt8) : Bool := decide (48 ≤ c.toNat) && decide (c.toNat ≤ 57)
def isPt (c : UInt8) : Bool := isLt c || isDg c

def keysL : List (List UInt8) := [[102, 117, 110, 99], [118, 97, 114], [105, 102], [101, 108, 115, 101], [119, 104, 105, 108, 101], [98, 114, 101, 97, 107], [99, 111, 110, 116, 105, 110, 117, 101], [114, 101, 116, 117, 114, 110], [97, 115, 115, 101, 114, 116], [114, 101, 97, 100]]
def isKeyL (l : List UInt8) : Bool := keysL.contains l
def signsL : List (List UInt8) := [[124, 124], [38, 38], [124], [94], [38], [61, 61], [33, 61], [60], [60, 61], [62], [62, 61], [60, 60], [62, 62], [43], [45], [42], [47], [37], [126], [33], [40], [41], [91], [93], [123], [125], [44], [59], [61]]
def longer (l best s : List UInt8) : List UInt8 := if best.length < s.length ∧ Lib.hasPrefix l s = true then s else best
def longest (l : List UInt8) : List UInt8 := signsL.foldl (longer l) []
def numOf (most : Nat) (l : List UInt8) : Option Nat :=
  if 1 < l.length ∧ l.head? = some 48 then none
  else match Lib.parseUintB 64 l with
    | .ok u => if most < u then none else some u
    | _ => none
def wordOf (l : List UInt8) : Option (Nat × Nat × Nat) :=
  match l with
  | [] => none
  | c :: r =>
    if isLt c then
      if isKeyL (l.takeWhile isPt) then some (5, (l.takeWhile isPt).length, 0)
      else if 24 < (l.takeWhile isPt).length then none
      else some (1, (l.takeWhile isPt).length, 0)
    else if isDg c then (numOf 9223372036854775808 (l.takeWhile isDg)).map fun n => (2, (l.takeWhile isDg).length, n)
    else if c.toNat == 64 then (numOf 1000000 (r.takeWhile isDg)).map fun n => (3, 1 + (r.takeWhile isDg).length, n)
    else if longest l = [] then none
    else some (4, (longest l).length, 0)

structure Tok where
  kind : Nat
  text : List UInt8
  n : Nat
  at' : Nat
deriving DecidableEq

def pre (t : Tok) (x : Option (List Tok) × Nat) : Option (List Tok) × Nat := (x.1.map (t :: ·), x.2)
def lexF : Nat → Nat → List UInt8 → Option (List Tok) × Nat
  | 0, p, _ => (none, p)
  | _ + 1, p, [] => (some [], p)
  | f + 1, p, c :: r =>
    if isSp c then lexF f (p + 1) r
    else match wordOf (c :: r) with
      | none => (none, p)
      | some (k, len, n) => pre ⟨k, (c :: r).take len, n, p⟩ (lexF f (p + len) ((c :: r).drop len))
def lexP (p : Nat) (l : List UInt8) : Option (List Tok) × Nat := lexF (l.length + 1) p l

theorem longest_mem_aux (l : List UInt8) : ∀ (ss : List (List UInt8)) (b : List UInt8), (ss.foldl (longer l) b = b ∨ (ss.foldl (longer l) b ∈ ss ∧ Lib.hasPrefix l (ss.foldl (longer l) b) = true)) ∧ b.length ≤ (ss.foldl (longer l) b).length ∧ ∀ s ∈ ss, Lib.hasPrefix l s = true → s.length ≤ (ss.foldl (longer l) b).length := by
  intro ss
  induction ss with
  | nil => intro b; exact ⟨.inl rfl, Nat.le_refl _, fun s h => absurd h (by simp)⟩
  | cons s ss ih =>
    intro b
    rw [List.foldl_cons]
    obtain ⟨h1, h2, h3⟩ := ih (longer l b s)
    by_cases hc : b.length < s.length ∧ Lib.hasPrefix l s = true
    · have e : longer l b s = s := if_pos hc
      rw [e] at h1 h2 h3 ⊢
      refine ⟨?_, by omega, fun u hu hp => ?_⟩
      · rcases h1 with h1 | h1
        · exact .inr ⟨by rw [h1]; exact List.mem_cons_self, by rw [h1]; exact hc.2⟩
        · exact .inr ⟨List.mem_cons_of_mem _ h1.1, h1.2⟩
      · rcases List.mem_cons.1 hu with rfl | hu
        · exact h2
        · exact h3 u hu hp
    · have e : longer l b s = b := if_neg hc
      rw [e] at h1 h2 h3 ⊢
      refine ⟨?_, by omega, fun u hu hp => ?_⟩
      · rcases h1 with h1 | h1
        · exact .inl h1
        · exact .inr ⟨List.mem_cons_of_mem _ h1.1, h1.2⟩
      · rcases List.mem_cons.1 hu with rfl | hu
        · have : ¬ b.length < u.length := fun hlt => hc ⟨hlt, hp⟩
          omega
        · exact h3 u hu hp
theorem prefix_iff (l s : List UInt8) : Lib.hasPrefix l s = true ↔ s <+: l := by
  unfold Lib.hasPrefix; rw [List.isPrefixOf_iff_prefix]
theorem longest_is (l : List UInt8) : (longest l = [] ∨ longest l ∈ signsL) ∧ longest l <+: l := by
  obtain ⟨h, _, _⟩ := longest_mem_aux l signsL []
  rcases h with h | h
  · exact ⟨.inl h, by show signsL.foldl (longer l) [] <+: l; rw [h]; exact List.nil_prefix⟩
  · exact ⟨.inr h.1, (prefix_iff _ _).1 h.2⟩
theorem longest_most (l s : List UInt8) (h : s ∈ signsL) (hp : s <+: l) : s.length ≤ (longest l).length :=
  (longest_mem_aux l signsL []).2.2 s h ((prefix_iff _ _).2 hp)
theorem longest_len (l : List UInt8) : (longest l).length ≤ 2 := by
  have : ∀ s ∈ signsL, s.length ≤ 2 := by decide
  rcases (longest_is l).1 with h | h
  · rw [h]; simp
  · exact this _ h

theorem wordOf_len {l : List UInt8} {k len n : Nat} (h : wordOf l = some (k, len, n)) : 0 < len ∧ len ≤ l.length := by
  unfold wordOf at h
  split at h
  · cases h
  · rename_i c r
    have t1 : ∀ (p : UInt8 → Bool) (l : List UInt8), (l.takeWhile p).length ≤ l.length := fun p l => (List.takeWhile_prefix p).length_le
    have t2 : ∀ (p : UInt8 → Bool), p c = true → 0 < ((c :: r).takeWhile p).length := fun p hp => by rw [List.takeWhile_cons_of_pos hp]; simp
    have ep : isLt c = true → isPt c = true := fun h => by simp [isPt, h]
    split at h
    · rename_i hl
      have a1 := t1 isPt (c :: r)
      have a2 := t2 isPt (ep hl)
      split at h
      · simp only [Option.some.injEq, Prod.mk.injEq] at h; omega
      · split at h
        · cases h
        · simp only [Option.some.injEq, Prod.mk.injEq] at h; omega
    · split at h
      · rename_i hd
        have a1 := t1 isDg (c :: r)
        have a2 := t2 isDg hd
        cases hn : numOf 9223372036854775808 ((c :: r).takeWhile isDg) with
        | none => rw [hn] at h; cases h
        | some m => rw [hn] at h; simp only [Option.map_some, Option.some.injEq, Prod.mk.injEq] at h; omega
      · split at h
        · have a1 := t1 isDg r
          cases hn : numOf 1000000 (r.takeWhile isDg) with
          | none => rw [hn] at h; cases h
          | some m => rw [hn] at h; simp only [Option.map_some, Option.some.injEq, Prod.mk.injEq] at h; simp only [List.length_cons]; omega
        · split at h
          · cases h
          · rename_i hne
            simp only [Option.some.injEq, Prod.mk.injEq] at h
            have a1 := (longest_is (c :: r)).2.length_le
            have a2 : 0 < (longest (c :: r)).length := by
              cases e : longest (c :: r) with
              | nil => exact absurd e hne
              | cons => simp
            omega
theorem lexF_more : ∀ (f : Nat) (p : Nat) (l : List UInt8), l.length < f → lexF f p l = lexP p l := by
  have main : ∀ (n f g p : Nat) (l : List UInt8), l.length < n → l.length < f → l.length < g → lexF f p l = lexF g p l := by
    intro n
    induction n with
    | zero => intro f g p l h; omega
    | succ n ih =>
      intro f g p l hn hf hg
      obtain ⟨f, rfl⟩ : ∃ f', f = f' + 1 := ⟨f - 1, by omega⟩
      obtain ⟨g, rfl⟩ : ∃ g', g = g' + 1 := ⟨g - 1, by omega⟩
      cases l with
      | nil => rfl
      | cons c r =>
        simp only [List.length_cons] at hn hf hg
        unfold lexF
        by_cases hs : isSp c = true
        · rw [if_pos hs, if_pos hs]; exact ih f g _ r (by omega) (by omega) (by omega)
        · rw [if_neg hs, if_neg hs]
          cases hw : wordOf (c :: r) with
          | none => rfl
          | some x =>
            obtain ⟨k, len, m⟩ := x
            have hl := wordOf_len hw
            simp only [List.length_cons] at hl
            show pre _ _ = pre _ _
            rw [ih f g (p + len) ((c :: r).drop len) (by simp; omega) (by simp; omega) (by simp; omega)]
  intro f p l h
  exact main (l.length + 1) f (l.length + 1) p l (by omega) h (by omega)

theorem lexP_nil (p : Nat) : lexP p [] = (some [], p) := rfl
theorem lexP_space {c : UInt8} (p : Nat) (r : List UInt8) (h : isSp c = true) : lexP p (c :: r) = lexP (p + 1) r := by
  show lexF (r.length + 1 + 1) p (c :: r) = _
  rw [lexF, if_pos h]; rfl
theorem lexP_bad {c : UInt8} (p : Nat) (r : List UInt8) (h : isSp c = false) (hw : wordOf (c :: r) = none) : lexP p (c :: r) = (none, p) := by
  show lexF (r.length + 1 + 1) p (c :: r) = _
  rw [lexF, if_neg (by simp [h]), hw]
theorem lexP_word {c : UInt8} (p : Nat) (r : List UInt8) {k len n : Nat} (h : isSp c = false) (hw : wordOf (c :: r) = some (k, len, n)) :
    lexP p (c :: r) = pre ⟨k, (c :: r).take len, n, p⟩ (lexP (p + len) ((c :: r).drop len)) := by
  have hl := wordOf_len hw
  show lexF (r.length + 1 + 1) p (c :: r) = _
  rw [lexF, if_neg (by simp [h]), hw]
  show pre _ _ = pre _ _
  rw [lexF_more _ _ _ (by simp; omega)]
theorem lexP_skip (p : Nat) (l : List UInt8) : lexP p l = lexP (p + (l.takeWhile isSp).length) (l.drop (l.takeWhile isSp).length) := by
  induction l generalizing p with
  | nil => rfl
  | cons c r ih =>
    cases h : isSp c with
    | true => rw [lexP_space p r h, List.takeWhile_cons_of_pos h, ih]; simp [Nat.add_assoc, Nat.add_comm 1]
    | false => rw [List.takeWhile_cons_of_neg (by simp [h])]; rfl
theorem lexP_at : ∀ (n p : Nat) (l : List UInt8), l.length < n → ((lexP p l).1 = none → p ≤ (lexP p l).2 ∧ (lexP p l).2 < p + l.length) ∧ (∀ ts, (lexP p l).1 = some ts → (lexP p l).2 = p + l.length) := by
  intro n
  induction n with
  | zero => intro p l h; omega
  | succ n ih =>
    intro p l hl
    cases l with
    | nil => rw [lexP_nil]; exact ⟨by simp, by simp⟩
    | cons c r =>
      simp only [List.length_cons] at hl
      cases h : isSp c with
      | true =>
        rw [lexP_space p r h]
        have := ih (p + 1) r (by omega)
        refine ⟨fun e => ?_, fun ts e => ?_⟩
        · have := this.1 e; simp only [List.length_cons]; omega
        · have := this.2 ts e; simp only [List.length_cons]; omega
      | false =>
        cases hw : wordOf (c :: r) with
        | none => rw [lexP_bad p r h hw]; exact ⟨fun _ => by simp only [List.length_cons]; omega, by simp⟩
        | some x =>
          obtain ⟨k, len, m⟩ := x
          have hlen := wordOf_len hw
          simp only [List.length_cons] at hlen
          rw [lexP_word p r h hw]
          have := ih (p + len) ((c :: r).drop len) (by simp; omega)
          have hd : ((c :: r).drop len).length = r.length + 1 - len := by simp
          rw [hd] at this
          refine ⟨fun e => ?_, fun ts e => ?_⟩
          · have e' : (lexP (p + len) ((c :: r).drop len)).1 = none := by simpa [pre] using e
            have := this.1 e'; simp only [List.length_cons, pre]; omega
          · obtain ⟨ts', e', _⟩ : ∃ ts', (lexP (p + len) ((c :: r).drop len)).1 = some ts' ∧ True := by
              cases e2 : (lexP (p + len) ((c :: r).drop len)).1 with
              | none => simp [pre, e2] at e
              | some ts' => exact ⟨ts', rfl, trivial⟩
            have := this.2 ts' e'; simp only [List.length_cons, pre]; omega
end Go.Proofs.YtdaklmbifkehpaaGreatDoor

namespace Go.Proofs.YtdaklmbifkehpaaGreatDoor
open Go

theorem tw_again {p : UInt8 → Bool} : ∀ (l r' : List UInt8), (∀ c, r'.head? = some c → p c = false) → (l.takeWhile p ++ r').takeWhile p = l.takeWhile p := by
  intro l
  induction l with
  | nil =>
    intro r' h
    cases r' with
    | nil => rfl
    | cons c r => rw [List.takeWhile_nil, List.nil_append, List.takeWhile_cons_of_neg (by simp [h c rfl])]
  | cons c r ih =>
    intro r' h
    cases hc : p c with
    | true => rw [List.takeWhile_cons_of_pos hc, List.cons_append, List.takeWhile_cons_of_pos hc, ih r' h]
    | false =>
      rw [List.takeWhile_cons_of_neg (by simp [hc]), List.nil_append]
      cases r' with
      | nil => rfl
      | cons c' r'' => rw [List.takeWhile_cons_of_neg (by simp [h c' rfl])]
theorem tw_drop {p : UInt8 → Bool} : ∀ (l : List UInt8) (c : UInt8), (l.drop (l.takeWhile p).length).head? = some c → p c = false := by
  intro l
  induction l with
  | nil => intro c h; simp at h
  | cons a r ih =>
    intro c h
    cases hc : p a with
    | true => rw [List.takeWhile_cons_of_pos hc, List.length_cons, List.drop_succ_cons] at h; exact ih c h
    | false =>
      rw [List.takeWhile_cons_of_neg (by simp [hc])] at h
      simp only [List.length_nil, List.drop_zero, List.head?_cons, Option.some.injEq] at h
      rw [← h]; exact hc
theorem tw_take {p : UInt8 → Bool} (l : List UInt8) : l.take (l.takeWhile p).length = l.takeWhile p :=
  (List.prefix_iff_eq_take.1 (List.takeWhile_prefix p)).symm

theorem sp_not {c : UInt8} (h : isSp c = true) : isLt c = false ∧ isDg c = false ∧ isPt c = false ∧ (c.toNat == 64) = false := by
  have h' : c.toNat = 32 ∨ c.toNat = 9 ∨ c.toNat = 10 ∨ c.toNat = 13 := by simpa [isSp, or_assoc] using h
  have e1 : isLt c = false := by unfold isLt; rcases h' with h' | h' | h' | h' <;> rw [h'] <;> rfl
  have e2 : isDg c = false := by unfold isDg; rcases h' with h' | h' | h' | h' <;> rw [h'] <;> rfl
  exact ⟨e1, e2, by unfold isPt; rw [e1, e2]; rfl, by rcases h' with h' | h' | h' | h' <;> rw [h'] <;> rfl⟩
theorem sp_sign : ∀ s ∈ signsL, ∀ c ∈ s, isSp c = false := by decide

def Follows (l : List UInt8) (len : Nat) (r' : List UInt8) : Prop := ∀ c, r'.head? = some c → isSp c = true ∨ (l.drop len).head? = some c
theorem Follows.nil (l : List UInt8) (len : Nat) : Follows l len [] := fun c h => by simp at h
theorem Follows.same (l : List UInt8) (len m : Nat) : Follows l len ((l.drop len).take m) := fun c h => .inr (by
  cases m with
  | zero => simp at h
  | succ m => simpa [List.head?_take] using h)

theorem longest_again {l r' : List UInt8} (hne : longest l ≠ []) (hf : Follows l (longest l).length r') : longest (longest l ++ r') = longest l := by
  have hin : longest l ∈ signsL := (longest_is l).1.resolve_left hne
  have h1 := longest_most (longest l ++ r') _ hin (List.prefix_append _ _)
  obtain ⟨i2, p2⟩ := longest_is (longest l ++ r')
  have l2 := longest_len (longest l ++ r')
  have h2 : (longest (longest l ++ r')).length ≤ (longest l).length := by
    rcases Nat.lt_or_ge (longest l).length (longest (longest l ++ r')).length with hlt | hge
    · exfalso
      have hz : 0 < (longest l).length := by
        cases e : longest l with
        | nil => exact absurd e hne
        | cons => simp
      have z1 : (longest l).length = 1 := by omega
      have z2 : (longest (longest l ++ r')).length = 2 := by omega
      obtain ⟨a, ea⟩ : ∃ a, longest l = [a] := List.length_eq_one_iff.1 z1
      have i2' : longest (longest l ++ r') ∈ signsL := i2.resolve_left (fun e => by rw [e] at z2; simp at z2)
      cases r' with
      | nil =>
        have := p2.length_le
        rw [List.append_nil] at this z2
        omega
      | cons c r =>
        have e2 : longest (longest l ++ c :: r) = [a, c] := by
          have := List.prefix_iff_eq_take.1 p2
          rw [this, z2, ea]; rfl
        rcases hf c rfl with hs | hs
        · have := sp_sign _ i2' c (by rw [e2]; simp)
          rw [hs] at this; cases this
        · have hp : [a, c] <+: l := by
            have pl := (longest_is l).2
            obtain ⟨t, ht⟩ := pl
            rw [ea] at ht
            rw [ea] at hs
            rw [← ht] at hs ⊢
            cases t with
            | nil => simp at hs
            | cons d t =>
              simp only [List.length_singleton, List.singleton_append, List.drop_succ_cons, List.drop_zero, List.head?_cons, Option.some.injEq] at hs
              rw [hs]
              exact ⟨t, rfl⟩
          have := longest_most l [a, c] (by rw [← e2]; exact i2') hp
          rw [z1] at this
          simp at this
    · exact hge
  have e : longest (longest l ++ r') = (longest l ++ r').take (longest (longest l ++ r')).length := List.prefix_iff_eq_take.1 p2
  have e1 : (longest (longest l ++ r')).length = (longest l).length := by omega
  rw [e, e1, List.take_left']
  rfl

theorem wordOf_again {l r' : List UInt8} {k len n : Nat} (h : wordOf l = some (k, len, n)) (hf : Follows l len r') : wordOf (l.take len ++ r') = some (k, len, n) := by
  cases l with
  | nil => simp [wordOf] at h
  | cons c r =>
    have hlen := wordOf_len h
    obtain ⟨m, rfl⟩ : ∃ m, len = m + 1 := ⟨len - 1, by omega⟩
    have stopP : ∀ (p : UInt8 → Bool) (x : List UInt8), (∀ c, isSp c = true → p c = false) → (x.takeWhile p).length = m + 1 → x = c :: r → ∀ d, r'.head? = some d → p d = false := fun p x hp hx ex d hd => by
      rcases hf d hd with hs | hs
      · exact hp d hs
      · rw [← ex, ← hx] at hs; exact tw_drop x d hs
    unfold wordOf at h
    rw [List.take_succ_cons, List.cons_append]
    unfold wordOf
    simp only at h ⊢
    by_cases hl : isLt c = true
    · rw [if_pos hl] at h ⊢
      have key : ∀ hh : ((c :: r).takeWhile isPt).length = m + 1, ((c :: (r.take m ++ r')).takeWhile isPt) = (c :: r).takeWhile isPt := fun hh => by
        have e : c :: (r.take m ++ r') = (c :: r).takeWhile isPt ++ r' := by
          rw [← tw_take (p := isPt) (c :: r), hh]; rfl
        rw [e, tw_again _ _ (stopP isPt _ (fun c hc => (sp_not hc).2.2.1) hh rfl)]
      by_cases hk : isKeyL ((c :: r).takeWhile isPt) = true
      · rw [if_pos hk] at h
        simp only [Option.some.injEq, Prod.mk.injEq] at h
        rw [key h.2.1, if_pos hk]
        simp only [Option.some.injEq, Prod.mk.injEq]
        exact h
      · rw [if_neg hk] at h
        by_cases hb : 24 < ((c :: r).takeWhile isPt).length
        · rw [if_pos hb] at h; cases h
        · rw [if_neg hb] at h
          simp only [Option.some.injEq, Prod.mk.injEq] at h
          rw [key h.2.1, if_neg hk, if_neg hb]
          simp only [Option.some.injEq, Prod.mk.injEq]
          exact h
    · rw [if_neg hl] at h ⊢
      by_cases hd : isDg c = true
      · rw [if_pos hd] at h ⊢
        have hh : ((c :: r).takeWhile isDg).length = m + 1 := by
          cases hn : numOf 9223372036854775808 ((c :: r).takeWhile isDg) with
          | none => rw [hn] at h; cases h
          | some u => rw [hn] at h; simp only [Option.map_some, Option.some.injEq, Prod.mk.injEq] at h; exact h.2.1
        have e : c :: (r.take m ++ r') = (c :: r).takeWhile isDg ++ r' := by
          rw [← tw_take (p := isDg) (c :: r), hh]; rfl
        rw [e, tw_again _ _ (stopP isDg _ (fun c hc => (sp_not hc).2.1) hh rfl)]
        exact h
      · rw [if_neg hd] at h ⊢
        by_cases h64 : (c.toNat == 64) = true
        · rw [if_pos h64] at h ⊢
          have hh : (r.takeWhile isDg).length = m := by
            cases hn : numOf 1000000 (r.takeWhile isDg) with
            | none => rw [hn] at h; cases h
            | some u => rw [hn] at h; simp only [Option.map_some, Option.some.injEq, Prod.mk.injEq] at h; omega
          have e : r.take m ++ r' = r.takeWhile isDg ++ r' := by
            rw [← tw_take (p := isDg) r, hh]
          rw [e, tw_again _ _ (fun d hd' => by
            rcases hf d hd' with hs | hs
            · exact (sp_not hs).2.1
            · rw [List.drop_succ_cons, ← hh] at hs; exact tw_drop r d hs)]
          exact h
        · rw [if_neg h64] at h ⊢
          by_cases hne : longest (c :: r) = []
          · rw [if_pos hne] at h; cases h
          · rw [if_neg hne] at h
            simp only [Option.some.injEq, Prod.mk.injEq] at h
            have e : c :: (r.take m ++ r') = longest (c :: r) ++ r' := by
              have := List.prefix_iff_eq_take.1 (longest_is (c :: r)).2
              rw [h.2.1] at this
              rw [this]; rfl
            have ea := longest_again hne (r' := r') (by rw [h.2.1]; exact hf)
            rw [e, ea, if_neg hne]
            simp only [Option.some.injEq, Prod.mk.injEq]
            exact h

def Good (t : Tok) : Prop := ∃ c r l, t.text = c :: r ∧ isSp c = false ∧ wordOf l = some (t.kind, t.text.length, t.n) ∧ l.take t.text.length = t.text
theorem Good.pos {t : Tok} (h : Good t) : 0 < t.text.length := by obtain ⟨c, r, l, e, _⟩ := h; rw [e]; simp
theorem Good.cut {t : Tok} (h : Good t) (q : Nat) (r' : List UInt8) (hr : ∀ c, r'.head? = some c → isSp c = true) :
    lexP q (t.text ++ r') = pre ⟨t.kind, t.text, t.n, q⟩ (lexP (q + t.text.length) r') := by
  obtain ⟨c, r, l, e, hs, hw, ht⟩ := h
  have hw' := wordOf_again (r' := r') hw (fun c hc => .inl (hr c hc))
  rw [ht] at hw'
  have e1 : t.text ++ r' = c :: (r ++ r') := by rw [e]; rfl
  rw [e1] at hw'
  rw [e1, lexP_word q _ hs hw', ← e1, List.take_left', List.drop_left'] <;> rfl

end Go.Proofs.YtdaklmbifkehpaaGreatDoor

set_option linter.unusedSimpArgs false
set_option linter.unusedVariables false
namespace Go.Proofs.YtdaklmbifkehpaaGreatDoor
open Go
open Go.Lib (decDigits)

theorem dec_all (u : Nat) : ∀ c ∈ decDigits u, isDg c = true := by
  induction u using Nat.strongRecOn with
  | ind u ih =>
    rw [decDigits]
    split
    · rename_i h
      intro c hc
      rw [List.mem_singleton] at hc
      subst hc
      have e : (UInt8.ofNat (48 + u)).toNat = 48 + u := by simp; omega
      unfold isDg; rw [e]; simp; omega
    · rename_i h
      intro c hc
      rw [List.mem_append] at hc
      rcases hc with hc | hc
      · exact ih _ (by omega) c hc
      · rw [List.mem_singleton] at hc
        subst hc
        have e : (UInt8.ofNat (48 + u % 10)).toNat = 48 + u % 10 := by simp; omega
        unfold isDg; rw [e]; simp; omega
theorem dec_ne (u : Nat) : decDigits u ≠ [] := by rw [decDigits]; split <;> simp
theorem dec_head (u : Nat) (hu : 0 < u) : ∃ c r, decDigits u = c :: r ∧ c ≠ 48 := by
  induction u using Nat.strongRecOn with
  | ind u ih =>
    rw [decDigits]
    split
    · rename_i h
      refine ⟨_, [], rfl, fun e => ?_⟩
      have e1 : (UInt8.ofNat (48 + u)).toNat = 48 + u := by simp; omega
      rw [e] at e1
      have : (48 : UInt8).toNat = 48 := rfl
      omega
    · rename_i h
      obtain ⟨c, r, e, hc⟩ := ih (u / 10) (by omega) (by omega)
      exact ⟨c, r ++ [_], by rw [e]; rfl, hc⟩
theorem dec_one (u : Nat) (h : u < 10) : decDigits u = [UInt8.ofNat (48 + u)] := by rw [decDigits, dif_pos h]
theorem dec_more (u : Nat) (h : ¬ u < 10) : decDigits u = decDigits (u / 10) ++ [UInt8.ofNat (48 + u % 10)] := by rw [decDigits, dif_neg h]
theorem dec_len (u : Nat) (h : u < 18446744073709551616) : (decDigits u).length ≤ 20 := by
  have main : ∀ (k u : Nat), u < 10 ^ (k + 1) → (decDigits u).length ≤ k + 1 := by
    intro k
    induction k with
    | zero => intro u hu; rw [dec_one u (by omega)]; simp
    | succ k ih =>
      intro u hu
      by_cases h10 : u < 10
      · rw [dec_one u h10]; simp
      · rw [dec_more u h10, List.length_append, List.length_singleton]
        have := ih (u / 10) (by have : u < 10 ^ (k + 1) * 10 := by rw [← Nat.pow_succ]; exact hu
                                omega)
        omega
  exact main 19 u (by omega)
theorem parse_append (M : Nat) : ∀ (l r : List UInt8) (acc u : Nat), Lib.parseUintM M acc l = .ok u → Lib.parseUintM M acc (l ++ r) = Lib.parseUintM M u r := by
  intro l
  induction l with
  | nil => intro r acc u h; rw [Lib.parseUintM] at h; injection h with h; rw [h]; rfl
  | cons c l ih =>
    intro r acc u h
    rw [List.cons_append]
    rw [Lib.parseUintM] at h ⊢
    split at h
    · rename_i h1
      rw [if_pos h1]
      split at h
      · cases h
      · rename_i h2
        rw [if_neg h2]
        split at h
        · cases h
        · rename_i h3
          rw [if_neg h3]
          exact ih r _ u h
    · cases h
theorem parse_dec (u : Nat) (h : u < 18446744073709551616) : Lib.parseUintM 18446744073709551615 0 (decDigits u) = .ok u := by
  induction u using Nat.strongRecOn with
  | ind u ih =>
    by_cases h10 : u < 10
    · rw [dec_one u h10]
      have e : (UInt8.ofNat (48 + u)).toNat = 48 + u := by simp; omega
      rw [Lib.parseUintM, e, if_pos (by omega), if_neg (by omega), if_neg (by omega), Lib.parseUintM]
      congr 1; omega
    · rw [dec_more u h10, parse_append _ _ _ _ _ (ih (u / 10) (by omega) (by omega))]
      have e : (UInt8.ofNat (48 + u % 10)).toNat = 48 + u % 10 := by simp; omega
      rw [Lib.parseUintM, e, if_pos (by omega), if_neg (by omega), if_neg (by omega), Lib.parseUintM]
      congr 1; omega
theorem parse_is (u : Nat) (h : u < 18446744073709551616) : Lib.parseUintB 64 (decDigits u) = .ok u := by
  unfold Lib.parseUintB
  rw [if_neg (dec_ne u)]
  exact parse_dec u h
theorem num_dec (most u : Nat) (h : u < 18446744073709551616) : numOf most (decDigits u) = if most < u then none else some u := by
  unfold numOf
  rw [parse_is u h]
  have hc : ¬ (1 < (decDigits u).length ∧ (decDigits u).head? = some 48) := by
    rintro ⟨h1, h2⟩
    rcases Nat.eq_zero_or_pos u with rfl | hp
    · rw [dec_one 0 (by omega)] at h1; simp at h1
    · obtain ⟨c, r, e, hc⟩ := dec_head u hp
      rw [e] at h2
      simp only [List.head?_cons, Option.some.injEq] at h2
      exact hc h2
  rw [if_neg hc]
theorem dg_not {c : UInt8} (h : isDg c = true) : isLt c = false ∧ isSp c = false := by
  unfold isDg at h
  simp only [Bool.and_eq_true, decide_eq_true_eq] at h
  constructor
  · unfold isLt; rw [Bool.eq_false_iff]; simp; omega
  · unfold isSp; rw [Bool.eq_false_iff]; simp; omega
end Go.Proofs.YtdaklmbifkehpaaGreatDoor
