/- With three rounds of fuel for each word, and six more, the parser comes to an end. No walk stands in this text. What is put of an expression is parsed as the same: the words of an expression, whatever follows that no expression goes on with, are read as it. No walk stands in this text. What is put of a program is parsed as the same: the words of statements, of functions, of a program are read as they. No walk stands in this text. -/
import Derived.Test.YtplonecdaegfbaaGreatDoorPUps

set_option linter.unusedSimpArgs false
set_option linter.unusedVariables false
namespace Go.Proofs.YtplonecdaegfbaaGreatDoor.Pm
open Go

abbrev wd (t : Tok) : Wd := (t.kind, t.text, t.n)
abbrev wds (l : List Tok) : List Wd := l.map wd
def adv (s : PS) (k n c : Nat) : PS := ⟨s.ws.drop k, s.sts + c, s.op, max s.mo (s.op + n)⟩
def Rds {α : Type} (f : PS → PR α) (l t : List Wd) (n : Nat) (a : α) : Prop := ∀ s, wds s.ws = l ++ t → s.op ≤ s.mo → s.op + n ≤ 40 → f s = .ok a (adv s l.length n 0)
def noIdx (t : List Wd) : Prop := ∀ x, t.head? = some x → x.2.1 ≠ [91]
def Ops (z : Nat) (l : List Wd) (n : Nat) (e : RE) : Prop := ∃ m0, ∀ m, m0 ≤ m → ∀ t, noIdx t → Rds (operand z m) l t n e
end Go.Proofs.YtplonecdaegfbaaGreatDoor.Pm

set_option linter.unusedSimpArgs false
set_option linter.unusedVariables false
namespace Go.Proofs.YtplonecdaegfbaaGreatDoor.Pm
open Go

def Rdc {α : Type} (f : PS → PR α) (l t : List Wd) (n c : Nat) (a : α) : Prop := ∀ s, wds s.ws = l ++ t → s.op ≤ s.mo → s.op + n ≤ 40 → s.sts + c ≤ 400 → f s = .ok a (adv s l.length n c)
section
variable {α β : Type} {f : PS → PR α} {l t : List Wd} {n c : Nat} {a : α}
theorem Rdc.cast (h : Rdc f l t n c a) {l' : List Wd} {n' c' : Nat} (h1 : l' = l) (h2 : n' = n) (h3 : c' = c) : Rdc f l' t n' c' a := by subst h1; subst h2; subst h3; exact h
def Evn (P : Nat → Prop) : Prop := ∃ m0, ∀ m, m0 ≤ m → P m
theorem evn_all {P : Nat → Prop} (h : ∀ m, P m) : Evn P := ⟨0, fun m _ => h m⟩
theorem Evn.and {P Q : Nat → Prop} (h : Evn P) (k : Evn Q) : Evn fun m => P m ∧ Q m := by
  obtain ⟨a, h⟩ := h
  obtain ⟨b, k⟩ := k
  exact ⟨a + b, fun m hm => ⟨h m (by omega), k m (by omega)⟩⟩
theorem Evn.mono {P Q : Nat → Prop} (h : Evn P) (k : ∀ m, P m → Q m) : Evn Q := by
  obtain ⟨a, h⟩ := h
  exact ⟨a, fun m hm => k m (h m hm)⟩
theorem Evn.succ {P Q : Nat → Prop} (h : Evn P) (k : ∀ m, P m → Q (m + 1)) : Evn Q := by
  obtain ⟨a, h⟩ := h
  refine ⟨a + 1, fun m hm => ?_⟩
  obtain ⟨m', rfl⟩ : ∃ m', m = m' + 1 := ⟨m - 1, by omega⟩
  exact k m' (h m' (by omega))
end
def RS.bare (s : RS) : RS := RS.put 0 s
def bodyR (z m : Nat) (s1 : PS) : PR RS :=
  if at' z kIf s1 = true then branch z m s1
  else if at' z kWhile s1 = true then loop z m s1
  else if at' z kBreak s1 = true then breakOff z s1
  else if at' z kContinue s1 = true then goOn z s1
  else if at' z kReturn s1 = true then giveBack z m s1
  else if at' z kAssert s1 = true then assertion z m s1
  else setting z m s1
section
variable {z m : Nat} {l t : List Wd} {n c : Nat} {a : RS} {x : Wd} {r : List Wd}
end
def RF.ok (f : RF) : Prop := f.wf = true ∧ ∀ d ∈ f.vars, d.2 ≤ 1000000
def nP (p : List RF) : Nat := p.foldr (fun f k => nSs f.body + k) 0
end Go.Proofs.YtplonecdaegfbaaGreatDoor.Pm
