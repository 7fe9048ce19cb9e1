/- Words of texts, as plain functions on lists of bytes, and the four equations by which a text is cut into them. No program stands in this text. -/
import Derived.Lib.ParseIntBCases
import Derived.Lib.Strings
namespace Go.Proofs.YtkfogoglaiibiaaGreatDoor
open Go

def isSp (c : UInt8) : Bool := c.toNat == 32 || c.toNat == 9 || c.toNat == 10 || c.toNat == 13
def isLt (c : UInt8) : Bool := (decide (97 ≤ c.toNat) && decide (c.toNat ≤ 122)) || (decide (65 ≤ c.toNat) && decide (c.toNat ≤ 90)) || c.toNat == 95
def isDg (c : UInt8) : Bool := decide (48 ≤ c.toNat) && decide (c.toNat ≤ 57)
def isPt (c : UInt8) : Bool := isLt c || isDg c

def keysL : List (List UInt8) := [[102, 117, 110, 99], [118, 97, 114], [105, 102], [101, 108, 115, 101], [119, 104, 105, 108, 101], [98, 114, 101, 97, 107], [99, 111, 110, 116, 105, 110, 117, 101], [114, 101, 116, 117, 114, 110], [97, 115, 115, 101, 114, 116], [114, 101, 97, 100]]
def isKeyL (l : List UInt8) : Bool := keysL.contains l
def signsL : List (List UInt8) := [[124, 124], [38, 38], [124], [94], [38], [61, 61], [33, 61], [60], [60, 61], [62], [62, 61], [60, 60], [62, 62], [43], [45], [42], [47], [37], [126], [33], [40], [41], [91], [93], [123], [125], [44], [59], [61]]
/-- The better of two signs: a longer one that l begins with. -/
def longer (l best s : List UInt8) : List UInt8 := if best.length < s.length ∧ Lib.hasPrefix l s = true then s else best
def longest (l : List UInt8) : List UInt8 := signsL.foldl (longer l) []
/-- The number that digits are. -/
def numOf (most : Nat) (l : List UInt8) : Option Nat :=
  if 1 < l.length ∧ l.head? = some 48 then none
  else match Lib.parseUintB 64 l with
    | .ok u => if most < u then none else some u
    | _ => none
/-- The word that a text begins with: its kind, how many bytes it has, its number. -/
def wordOf (l : List UInt8) : Option (Nat × Nat × Nat) :=
  match l with
  | [] => none
  | c :: r =>
    if isLt c then
      if isKeyL (l.takeWhile isPt) then some (5, (l.takeWhile isPt).length, 0)
      else if 24 < (l.takeWhile isPt).length then none
      else some (1, (l.takeWhile isPt).length, 0)
    else if isDg c then (numOf 9223372036854775808 (l.takeWhile isDg)).map fun n => (2, (l.takeWhile isDg).length, n)
    else if c.toNat == 64 then (numOf 1000000 (r.takeWhile isDg)).map fun n => (3, 1 + (r.takeWhile isDg).length, n)
    else if longest l = [] then none
    else some (4, (longest l).length, 0)

structure Tok where
  kind : Nat
  text : List UInt8
  n : Nat
  at' : Nat
deriving DecidableEq

/-- What a text is cut into: the words, or none; and where that ends. -/
def pre (t : Tok) (x : Option (List Tok) × Nat) : Option (List Tok) × Nat := (x.1.map (t :: ·), x.2)
def lexF : Nat → Nat → List UInt8 → Option (List Tok) × Nat
  | 0, p, _ => (none, p)
  | _ + 1, p, [] => (some [], p)
  | f + 1, p, c :: r =>
    if isSp c then lexF f (p + 1) r
    else match wordOf (c :: r) with
      | none => (none, p)
      | some (k, len, n) => pre ⟨k, (c :: r).take len, n, p⟩ (lexF f (p + len) ((c :: r).drop len))
def lexP (p : Nat) (l : List UInt8) : Option (List Tok) × Nat := lexF (l.length + 1) p l

theorem longest_mem_aux (l : List UInt8) : ∀ (ss : List (List UInt8)) (b : List UInt8), (ss.foldl (longer l) b = b ∨ (ss.foldl (longer l) b ∈ ss ∧ Lib.hasPrefix l (ss.foldl (longer l) b) = true)) ∧ b.length ≤ (ss.foldl (longer l) b).length ∧ ∀ s ∈ ss, Lib.hasPrefix l s = true → s.length ≤ (ss.foldl (longer l) b).length := by
  intro ss
  induction ss with
  | nil => intro b; exact ⟨.inl rfl, Nat.le_refl _, fun s h => absurd h (by simp)⟩
  | cons s ss ih =>
    intro b
    rw [List.foldl_cons]
    obtain ⟨h1, h2, h3⟩ := ih (longer l b s)
    by_cases hc : b.length < s.length ∧ Lib.hasPrefix l s = true
    · have e : longer l b s = s := if_pos hc
      rw [e] at h1 h2 h3 ⊢
      refine ⟨?_, by omega, fun u hu hp => ?_⟩
      · rcases h1 with h1 | h1
        · exact .inr ⟨by rw [h1]; exact List.mem_cons_self, by rw [h1]; exact hc.2⟩
        · exact .inr ⟨List.mem_cons_of_mem _ h1.1, h1.2⟩
      · rcases List.mem_cons.1 hu with rfl | hu
        · exact h2
        · exact h3 u hu hp
    · have e : longer l b s = b := if_neg hc
      rw [e] at h1 h2 h3 ⊢
      refine ⟨?_, by omega, fun u hu hp => ?_⟩
      · rcases h1 with h1 | h1
        · exact .inl h1
        · exact .inr ⟨List.mem_cons_of_mem _ h1.1, h1.2⟩
      · rcases List.mem_cons.1 hu with rfl | hu
        · have : ¬ b.length < u.length := fun hlt => hc ⟨hlt, hp⟩
          omega
        · exact h3 u hu hp
theorem prefix_iff (l s : List UInt8) : Lib.hasPrefix l s = true ↔ s <+: l := by
  unfold Lib.hasPrefix; rw [List.isPrefixOf_iff_prefix]
theorem longest_is (l : List UInt8) : (longest l = [] ∨ longest l ∈ signsL) ∧ longest l <+: l := by
  obtain ⟨h, _, _⟩ := longest_mem_aux l signsL []
  rcases h with h | h
  · exact ⟨.inl h, by show signsL.foldl (longer l) [] <+: l; rw [h]; exact List.nil_prefix⟩
  · exact ⟨.inr h.1, (prefix_iff _ _).1 h.2⟩
theorem longest_most (l s : List UInt8) (h : s ∈ signsL) (hp : s <+: l) : s.length ≤ (longest l).length :=
  (longest_mem_aux l signsL []).2.2 s h ((prefix_iff _ _).2 hp)
theorem longest_len (l : List UInt8) : (longest l).length ≤ 2 := by
  have : ∀ s ∈ signsL, s.length ≤ 2 := by decide
  rcases (longest_is l).1 with h | h
  · rw [h]; simp
  · exact this _ h

theorem wordOf_len {l : List UInt8} {k len n : Nat} (h : wordOf l = some (k, len, n)) : 0 < len ∧ len ≤ l.length := by
  unfold wordOf at h
  split at h
  · cases h
  · rename_i c r
    have t1 : ∀ (p : UInt8 → Bool) (l : List UInt8), (l.takeWhile p).length ≤ l.length := fun p l => (List.takeWhile_prefix p).length_le
    have t2 : ∀ (p : UInt8 → Bool), p c = true → 0 < ((c :: r).takeWhile p).length := fun p hp => by rw [List.takeWhile_cons_of_pos hp]; simp
    have ep : isLt c = true → isPt c = true := fun h => by simp [isPt, h]
    split at h
    · rename_i hl
      have a1 := t1 isPt (c :: r)
      have a2 := t2 isPt (ep hl)
      split at h
      · simp only [Option.some.injEq, Prod.mk.injEq] at h; omega
      · split at h
        · cases h
        · simp only [Option.some.injEq, Prod.mk.injEq] at h; omega
    · split at h
      · rename_i hd
        have a1 := t1 isDg (c :: r)
        have a2 := t2 isDg hd
        cases hn : numOf 9223372036854775808 ((c :: r).takeWhile isDg) with
        | none => rw [hn] at h; cases h
        | some m => rw [hn] at h; simp only [Option.map_some, Option.some.injEq, Prod.mk.injEq] at h; omega
      · split at h
        · have a1 := t1 isDg r
          cases hn : numOf 1000000 (r.takeWhile isDg) with
          | none => rw [hn] at h; cases h
          | some m => rw [hn] at h; simp only [Option.map_some, Option.some.injEq, Prod.mk.injEq] at h; simp only [List.length_cons]; omega
        · split at h
          · cases h
          · rename_i hne
            simp only [Option.some.injEq, Prod.mk.injEq] at h
            have a1 := (longest_is (c :: r)).2.length_le
            have a2 : 0 < (longest (c :: r)).length := by
              cases e : longest (c :: r) with
              | nil => exact absurd e hne
              | cons => simp
            omega
theorem lexF_more : ∀ (f : Nat) (p : Nat) (l : List UInt8), l.length < f → lexF f p l = lexP p l := by
  have main : ∀ (n f g p : Nat) (l : List UInt8), l.length < n → l.length < f → l.length < g → lexF f p l = lexF g p l := by
    intro n
    induction n with
    | zero => intro f g p l h; omega
    | succ n ih =>
      intro f g p l hn hf hg
      obtain ⟨f, rfl⟩ : ∃ f', f = f' + 1 := ⟨f - 1, by omega⟩
      obtain ⟨g, rfl⟩ : ∃ g', g = g' + 1 := ⟨g - 1, by omega⟩
      cases l with
      | nil => rfl
      | cons c r =>
        simp only [List.length_cons] at hn hf hg
        unfold lexF
        by_cases hs : isSp c = true
        · rw [if_pos hs, if_pos hs]; exact ih f g _ r (by omega) (by omega) (by omega)
        · rw [if_neg hs, if_neg hs]
          cases hw : wordOf (c :: r) with
          | none => rfl
          | some x =>
            obtain ⟨k, len, m⟩ := x
            have hl := wordOf_len hw
            simp only [List.length_cons] at hl
            show pre _ _ = pre _ _
            rw [ih f g (p + len) ((c :: r).drop len) (by simp; omega) (by simp; omega) (by simp; omega)]
  intro f p l h
  exact main (l.length + 1) f (l.length + 1) p l (by omega) h (by omega)

theorem lexP_nil (p : Nat) : lexP p [] = (some [], p) := rfl
theorem lexP_space {c : UInt8} (p : Nat) (r : List UInt8) (h : isSp c = true) : lexP p (c :: r) = lexP (p + 1) r := by
  show lexF (r.length + 1 + 1) p (c :: r) = _
  rw [lexF, if_pos h]; rfl
theorem lexP_bad {c : UInt8} (p : Nat) (r : List UInt8) (h : isSp c = false) (hw : wordOf (c :: r) = none) : lexP p (c :: r) = (none, p) := by
  show lexF (r.length + 1 + 1) p (c :: r) = _
  rw [lexF, if_neg (by simp [h]), hw]
theorem lexP_word {c : UInt8} (p : Nat) (r : List UInt8) {k len n : Nat} (h : isSp c = false) (hw : wordOf (c :: r) = some (k, len, n)) :
    lexP p (c :: r) = pre ⟨k, (c :: r).take len, n, p⟩ (lexP (p + len) ((c :: r).drop len)) := by
  have hl := wordOf_len hw
  show lexF (r.length + 1 + 1) p (c :: r) = _
  rw [lexF, if_neg (by simp [h]), hw]
  show pre _ _ = pre _ _
  rw [lexF_more _ _ _ (by simp; omega)]
/-- Space ahead is passed by. -/
theorem lexP_skip (p : Nat) (l : List UInt8) : lexP p l = lexP (p + (l.takeWhile isSp).length) (l.drop (l.takeWhile isSp).length) := by
  induction l generalizing p with
  | nil => rfl
  | cons c r ih =>
    cases h : isSp c with
    | true => rw [lexP_space p r h, List.takeWhile_cons_of_pos h, ih]; simp [Nat.add_assoc, Nat.add_comm 1]
    | false => rw [List.takeWhile_cons_of_neg (by simp [h])]; rfl
theorem lexP_sp (p : Nat) (s l : List UInt8) (h : ∀ c ∈ s, isSp c = true) : lexP p (s ++ l) = lexP (p + s.length) l := by
  induction s generalizing p with
  | nil => rfl
  | cons c r ih =>
    rw [List.cons_append, lexP_space p _ (h c List.mem_cons_self), ih _ (fun x hx => h x (List.mem_cons_of_mem _ hx)), List.length_cons]
    congr 1
    omega

/-- Where a text is wrong a word begins there. -/
theorem lexP_at : ∀ (n p : Nat) (l : List UInt8), l.length < n → ((lexP p l).1 = none → p ≤ (lexP p l).2 ∧ (lexP p l).2 < p + l.length) ∧ (∀ ts, (lexP p l).1 = some ts → (lexP p l).2 = p + l.length) := by
  intro n
  induction n with
  | zero => intro p l h; omega
  | succ n ih =>
    intro p l hl
    cases l with
    | nil => rw [lexP_nil]; exact ⟨by simp, by simp⟩
    | cons c r =>
      simp only [List.length_cons] at hl
      cases h : isSp c with
      | true =>
        rw [lexP_space p r h]
        have := ih (p + 1) r (by omega)
        refine ⟨fun e => ?_, fun ts e => ?_⟩
        · have := this.1 e; simp only [List.length_cons]; omega
        · have := this.2 ts e; simp only [List.length_cons]; omega
      | false =>
        cases hw : wordOf (c :: r) with
        | none => rw [lexP_bad p r h hw]; exact ⟨fun _ => by simp only [List.length_cons]; omega, by simp⟩
        | some x =>
          obtain ⟨k, len, m⟩ := x
          have hlen := wordOf_len hw
          simp only [List.length_cons] at hlen
          rw [lexP_word p r h hw]
          have := ih (p + len) ((c :: r).drop len) (by simp; omega)
          have hd : ((c :: r).drop len).length = r.length + 1 - len := by simp
          rw [hd] at this
          refine ⟨fun e => ?_, fun ts e => ?_⟩
          · have e' : (lexP (p + len) ((c :: r).drop len)).1 = none := by simpa [pre] using e
            have := this.1 e'; simp only [List.length_cons, pre]; omega
          · obtain ⟨ts', e', _⟩ : ∃ ts', (lexP (p + len) ((c :: r).drop len)).1 = some ts' ∧ True := by
              cases e2 : (lexP (p + len) ((c :: r).drop len)).1 with
              | none => simp [pre, e2] at e
              | some ts' => exact ⟨ts', rfl, trivial⟩
            have := this.2 ts' e'; simp only [List.length_cons, pre]; omega
end Go.Proofs.YtkfogoglaiibiaaGreatDoor
