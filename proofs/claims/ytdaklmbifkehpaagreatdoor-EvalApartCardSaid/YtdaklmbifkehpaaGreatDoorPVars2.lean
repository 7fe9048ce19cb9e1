/- A row that a loop appends to, of whatever elements: each takes so many cells; what an element's own parts ask lies elsewhere. No walk stands in this text. Names: a row of them, with a comma between; in brackets, or none. (Written by gen5.py.) Variables that are declared: how long, which, a row of them. Variables that are declared: one, a row of them. (Written by gen6.py.) -/
import Derived.Test.YtdaklmbifkehpaaGreatDoorPBackS
import Derived.Test.YtdaklmbifkehpaaGreatDoorPStC
import Derived.Test.YtdaklmbifkehpaaGreatDoorTLaid
set_option linter.unusedSimpArgs false
set_option linter.unusedVariables false
namespace Go.Proofs.YtdaklmbifkehpaaGreatDoor.Pm
open Go Go.RowKit Go.Proofs.YtdaklmbifkehpaaGreatDoor

structure Kd (α : Type) where
  t : TypeId
  z : Nat
  cl : α → List Value
  In : World → Nat → α → Prop
  len : ∀ a, (cl a).length = z
  keep : ∀ {w w' : World} {B : Nat} {a : α}, In w B a → (∀ p v, B ≤ p.block → w.cell? p = some v → w'.cell? p = some v) → In w' B a
  mono : ∀ {w : World} {B B' : Nat} {a : α}, In w B a → B' ≤ B → In w B' a
section
variable {α : Type} {K : Kd α} {B0 A f : Nat} {v v' : Value} {l : List α} {S : α} {w w' : World}
def MadeG (K : Kd α) (B0 : Nat) (v : Value) (l : List α) (w : World) : Prop :=
  w.ownsRow B0 K.t K.z v l.length (l.flatMap K.cl) ∧ ∀ S ∈ l, K.In (hide v.ownBlock w) B0 S
theorem MadeG.grown (h : MadeG K B0 v l w) (hg : w.grownBy w' (some f)) (hf : f < B0) : MadeG K B0 v l w' := by
  have hne : v.ownBlock ≠ some f := fun e => by have := (h.1.lt _ e).1; omega
  refine ⟨h.1.kept hg (Or.inr hne), fun S hS => K.keep (h.2 S hS) fun p u hp hc => ?_⟩
  rw [hide_cell] at hc ⊢
  refine ⟨hc.1, ?_⟩
  rw [World.cell?_of_block (w := w) (hg.block p.block (World.block_lt_of_cell? w p hc.2) (by simp; omega))]
  exact hc.2
theorem MadeG.alloc (h : MadeG K B0 v l w) (o : Obj) : MadeG K B0 v l (w.alloc o) := by
  refine ⟨h.1.alloc o, fun S hS => K.keep (h.2 S hS) fun p u hp hc => ?_⟩
  rw [hide_cell] at hc ⊢
  refine ⟨hc.1, ?_⟩
  rw [World.cell?_alloc_lt _ _ _ (World.block_lt_of_cell? w p hc.2)]
  exact hc.2
theorem flat_atG (K : Kd α) : ∀ (l : List α) (i j : Nat) (hi : i < l.length), j < K.z → (l.flatMap K.cl)[i * K.z + j]? = (K.cl l[i])[j]?
  | S :: l, 0, j, _, hj => by
    rw [List.flatMap_cons, List.getElem?_append_left (by rw [K.len]; omega)]
    simp
  | S :: l, i + 1, j, hi, hj => by
    rw [List.flatMap_cons, List.getElem?_append_right (by rw [K.len, Nat.add_mul]; omega), K.len]
    rw [show (i + 1) * K.z + j - K.z = i * K.z + j by rw [Nat.add_mul]; omega]
    exact flat_atG K l i j (by simpa using hi) hj
def RowsG (K : Kd α) (w : World) (B : Nat) (a : Option Addr) (l : List α) : Prop := ∀ (i : Nat) (hi : i < l.length), RowAt w B a i K.z (K.cl l[i]).toArray ∧ K.In w B l[i]
theorem MadeG.rows (h : MadeG K B0 v l w) : ∃ a c, v = .slice a l.length c ∧ RowsG K w B0 a l := by
  have hin : ∀ S ∈ l, K.In w B0 S := fun S hS => K.keep (h.2 S hS) fun p u hp hc => (hide_cell.1 hc).2
  rcases h.1.2 with ⟨e, hl⟩ | ⟨g, cap, cur, e, hg, hb, hn, hm, hs, ht⟩
  · have : l = [] := List.length_eq_zero_iff.1 hl
    subst this
    exact ⟨none, 0, e, fun i hi => by simp at hi⟩
  · refine ⟨some ⟨g, 0, none⟩, cap, e, fun j hj => ⟨⟨g, 0, rfl, hg, fun k u hk => ?_⟩, hin _ (List.getElem_mem hj)⟩⟩
    have hk5 : k < K.z := by
      have h1 := K.len l[j]
      rcases Nat.lt_or_ge k K.z with h2 | h2
      · exact h2
      · rw [Array.getElem?_eq_none (by simpa using (by rw [← h1] at h2; simpa using h2))] at hk; cases hk
    refine bk_cell hb ?_
    have h1 := flat_atG K l j k hj hk5
    rw [← ht] at h1
    rw [List.getElem?_take_of_lt (by
      have h2 : j * K.z + K.z ≤ l.length * K.z := by
        have := Nat.mul_le_mul_right K.z (show j + 1 ≤ l.length from hj)
        rw [Nat.add_mul] at this
        omega
      omega)] at h1
    rw [show 0 + j * K.z + k = j * K.z + k by omega, ← Array.getElem?_toList, h1]
    simpa using hk
theorem RowsG.keep {B : Nat} {a : Option Addr} (h : RowsG K w B a l) (hk : ∀ p v, B ≤ p.block → w.cell? p = some v → w'.cell? p = some v) : RowsG K w' B a l := fun i hi => ⟨(h i hi).1.keep hk, K.keep (h i hi).2 hk⟩
theorem RowsG.mono {B B' : Nat} {a : Option Addr} (h : RowsG K w B a l) (hB : B' ≤ B) : RowsG K w B' a l := fun i hi => ⟨(h i hi).1.mono hB, K.mono (h i hi).2 hB⟩
theorem RowsG.on {B : Nat} {a : Option Addr} (h : RowsG K w B a l) (hb : Below w.heap.size w w') : RowsG K w' B a l := h.keep (below_keep hb)
end
def CFs : List RF → Value → Nat → World → Prop := fun r v A w => ∃ (a : Option Addr) (c : Nat) (l : List FT), v = .agg #[.slice a l.length c] ∧ l.map FT.rf = r ∧ l.all FT.rightB = true ∧ FsIn w A a l ∧ l.length ≤ 200000
theorem rows_move {α : Type} {K : Kd α} {P : Nat → Prop} {a : Option Addr} {l : List α} {wa wb : World} {A A' : Nat} (hk : KeptP P wa wb) (hP : ∀ b, A ≤ b → ¬ P b) (hA : A' ≤ A) (h : RowsG K wa A a l) : RowsG K wb A' a l := (h.keep fun p v hp hc => hk.cell (hP _ hp) hc).mono hA
end Go.Proofs.YtdaklmbifkehpaaGreatDoor.Pm

set_option linter.unusedSimpArgs false
set_option linter.unusedVariables false
namespace Go.Proofs.YtdaklmbifkehpaaGreatDoor.Pm
open Go Go.RowKit Go.Proofs.YtdaklmbifkehpaaGreatDoor

section
variable {F : PC} {B f : Nat} {s : PS} {w : World}
end
end Go.Proofs.YtdaklmbifkehpaaGreatDoor.Pm

set_option linter.unusedSimpArgs false
set_option linter.unusedVariables false
namespace Go.Proofs.YtdaklmbifkehpaaGreatDoor.Pm
open Go Go.RowKit Go.Proofs.YtdaklmbifkehpaaGreatDoor

section
variable {F : PC} {B f : Nat} {s : PS} {w : World}
end
end Go.Proofs.YtdaklmbifkehpaaGreatDoor.Pm

set_option linter.unusedSimpArgs false
set_option linter.unusedVariables false
namespace Go.Proofs.YtdaklmbifkehpaaGreatDoor.Pm
open Go Go.RowKit Go.Proofs.YtdaklmbifkehpaaGreatDoor

section
variable {F : PC} {B f : Nat} {s : PS} {w : World}
end
end Go.Proofs.YtdaklmbifkehpaaGreatDoor.Pm
