/- What Check, Criterion, Find and Size ask, as plain functions of trees: no program stands in this text. -/
import Derived.Test.YtplonecdaegfbaaGreatDoorTLaid
import Derived.Test.YtplonecdaegfbaaGreatDoorKFirst
set_option linter.unusedSimpArgs false
set_option linter.unusedVariables false
namespace Go.Proofs.YtplonecdaegfbaaGreatDoor.Ck
open Go Go.RowKit Go.Proofs.YtplonecdaegfbaaGreatDoor

instance memDec (x : ByteArray) (l : List ByteArray) : Decidable (x ∈ l) := decidable_of_iff (l.any (fun y => decide (y = x)) = true) (by simp)
def sizeV (vs : List (ByteArray × Int)) (nm : ByteArray) : Option Int := match vs with
  | [] => none
  | d :: l => if d.1 = nm then some d.2 else sizeV l nm
def sizeF (F : FT) (nm : ByteArray) : Option Int := if nm ∈ F.params then some 0 else sizeV F.vars nm
def namedF (F : FT) (nm : ByteArray) (arr : Bool) : Nat := match sizeF F nm with
  | none => 6
  | some s => if decide (0 < s) = arr then 0 else 7
theorem kids_sz {T : ET} : szs T.kids < T.sz := by cases T; simp only [ET.kids, ET.sz]; omega
theorem szs_mem {T : ET} {l : List ET} (h : T ∈ l) : T.sz ≤ szs l := by
  induction l with
  | nil => cases h
  | cons U l ih =>
    rw [szs]
    rcases List.mem_cons.1 h with rfl | h
    · omega
    · have := ih h; omega
mutual
def placeE (F : FT) : ET → Nat
  | .mk k _ _ nm _ _ kids => orE (if k = 1 ∨ k = 2 then namedF F nm (decide (k = 2)) else 0) (placeEs F kids)
def placeEs (F : FT) : List ET → Nat
  | [] => 0
  | T :: l => orE (placeE F T) (placeEs F l)
end
def findN (l : List FT) (nm : ByteArray) : Nat := match l with
  | [] => 0
  | F :: l => if F.name = nm then 0 else findN l nm + 1
theorem findN_le (l : List FT) (nm : ByteArray) : findN l nm ≤ l.length := by
  induction l with
  | nil => simp [findN]
  | cons F l ih => unfold findN; split <;> simp <;> omega
def findV (l : List FT) (nm : ByteArray) : Int := if findN l nm < l.length then (findN l nm : Int) else -1
def ST.es : ST → List ET
  | .mk _ _ _ _ _ _ e _ _ _ _ _ _ => e
def calleeF (l : List FT) (S : ST) : Nat :=
  if S.kind ≠ 3 then 0
  else if l.length ≤ findN l S.func then 6
  else if findN l S.func + 1 = l.length ∨ ((l.map fun F => F.params.length).getD (findN l S.func) 0) ≠ S.en then 10 else 0
def tagF (l : List FT) (i : Nat) (S : ST) (seen : List Int) : Nat :=
  if 0 < S.tag then (if i + 1 = l.length ∧ S.tag ∉ seen then 0 else 9) else 0
def seenF (S : ST) (seen : List Int) : List Int := if 0 < S.tag then S.tag :: seen else seen
def jumpF (S : ST) (looped : Bool) : Nat := if (S.kind = 6 ∨ S.kind = 7) ∧ looped = false then 8 else 0
def targetF (F : FT) (S : ST) : Nat := if S.name.data.toList = [] then 0 else namedF F S.name (decide (S.kind = 1))
def askF (l : List FT) (i : Nat) (F : FT) (S : ST) (looped : Bool) (seen : List Int) : Nat :=
  orE (tagF l i S seen) (orE (jumpF S looped) (orE (targetF F S) (orE (calleeF l S) (placeEs F (ST.es S)))))
def within (looped : Bool) (S : ST) : Bool := looped || decide (S.kind = 5)
/-- What comes of a list of questions: the error, and the tags that were seen. -/
def andThen (r : Nat × List Int) (f : List Int → Nat × List Int) : Nat × List Int := if r.1 = 0 then f r.2 else r
mutual
def chkS (l : List FT) (i : Nat) (F : FT) (looped : Bool) : ST → List Int → Nat × List Int
  | .mk k t n f ea ec e ba bc b la lc el, seen =>
    andThen (andThen (askF l i F (.mk k t n f ea ec e ba bc b la lc el) looped seen, seenF (.mk k t n f ea ec e ba bc b la lc el) seen) (chkSs l i F (looped || decide (k = 5)) b)) (chkSs l i F (looped || decide (k = 5)) el)
def chkSs (l : List FT) (i : Nat) (F : FT) (looped : Bool) : List ST → List Int → Nat × List Int
  | [], seen => (0, seen)
  | S :: r, seen => andThen (chkS l i F looped S seen) (chkSs l i F looped r)
end
theorem chkS_eq (l : List FT) (i : Nat) (F : FT) (looped : Bool) (S : ST) (seen : List Int) : chkS l i F looped S seen =
    andThen (andThen (askF l i F S looped seen, seenF S seen) (chkSs l i F (within looped S) S.body)) (chkSs l i F (within looped S) S.els) := by
  cases S; rw [chkS]; rfl
def repB (names : List ByteArray) : Bool := !decide names.Nodup
def declared (F : FT) : List ByteArray := F.params ++ F.vars.map (·.1)
def largeB (F : FT) : Bool := decide (24 < F.params.length + F.vars.length) || F.vars.any fun d => decide (64 < d.2)
def fnF (l : List FT) (i : Nat) (F : FT) (seen : List Int) : Nat × List Int :=
  if largeB F then (5, seen) else if repB (declared F) then (6, seen) else chkSs l i F false F.body seen
def stsV (l : List FT) : Nat := match l with
  | [] => 0
  | F :: l => cnts F.body + stsV l
def mainB (l : List FT) : Bool := match l with
  | [] => false
  | [F] => decide (F.name = { data := #[109, 97, 105, 110] }) && F.params.isEmpty
  | _ :: l => mainB l
def wholeF (l : List FT) : Nat :=
  if l.all FT.rightB = false then 1
  else if l.length = 0 ∨ 16 < l.length ∨ 400 < stsV l then 5
  else if repB (l.map (·.name)) then 6
  else if mainB l then 0 else 10
/-- Func by Func, from the one numbered n on. -/
def fnsF (l : List FT) : Nat → List FT → List Int → (Nat × List Int) × Int
  | _, [], seen => ((0, seen), -1)
  | n, F :: r, seen => if (fnF l n F seen).1 = 0 then fnsF l (n + 1) r (fnF l n F seen).2 else (fnF l n F seen, (n : Int))
def progF (l : List FT) : (Nat × List Int) × Int := if wholeF l = 0 then fnsF l 0 l [] else ((wholeF l, []), -1)
def chkF (l : List FT) : Nat × Int := ((progF l).1.1, (progF l).2)
def varsF (F : FT) (vars : List ByteArray) : Nat := match vars with
  | [] => 0
  | a :: l => orE (namedF F a false) (varsF F l)
end Go.Proofs.YtplonecdaegfbaaGreatDoor.Ck
