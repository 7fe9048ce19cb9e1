/- Questions that are asked one by one, up to the first error: what firstOf answers, whatever is asked. -/
import Derived.Test.YtplonecdaegfbaaGreatDoorProg
import Derived.WalkKit
import Derived.WalkSpells
import Derived.WalkLawsBesides
import Derived.Laws.EntriesVeiled
import Derived.BigGuardPart
import Derived.Lib.Hide
import Derived.IntWalk
import Derived.Shelf.Abstract
set_option linter.unusedSimpArgs false
set_option linter.unusedVariables false
namespace Go.Proofs.YtplonecdaegfbaaGreatDoor.Ck
open Go Go.RowKit

/-- The first error of two. -/
def orE (a b : Nat) : Nat := if a = 0 then b else a
theorem orE_zero (b : Nat) : orE 0 b = b := rfl
theorem orE_ne {a b : Nat} (h : a ≠ 0) : orE a b = a := by unfold orE; rw [if_neg h]
theorem orE_eq_zero {a b : Nat} : orE a b = 0 ↔ a = 0 ∧ b = 0 := by
  unfold orE; split <;> omega
theorem orE_zero_right (a : Nat) : orE a 0 = a := by unfold orE; split <;> simp_all
theorem orE_assoc (a b c : Nat) : orE (orE a b) c = orE a (orE b c) := by unfold orE; split <;> simp_all
/-- The first error of so many. -/
def firstC (code : Nat → Nat) : Nat → Nat
  | 0 => 0
  | n + 1 => orE (firstC code n) (code n)
theorem firstC_stays {code : Nat → Nat} {k n : Nat} (h : k ≤ n) (hk : firstC code k ≠ 0) : firstC code n = firstC code k := by
  induction n with
  | zero => obtain rfl : k = 0 := by omega
            rfl
  | succ n ih =>
    by_cases e : k = n + 1
    · rw [e]
    · rw [firstC, ih (by omega), orE_ne hk]
/-- A function value of the program: its number, what it has captured. -/
abbrev Fv := Nat × Array Value
abbrev Fv.val (x : Fv) : Value := .func (.func x.1) #[] x.2
def Ent (g : Nat) : Prop := ∀ args w, (callFunc g args).run Tryz.prog w = .ok (.enter g args) w
set_option maxHeartbeats 2000000 in
set_option maxRecDepth 100000 in
theorem firstOf_any (l : List Fv) (code : Nat → Nat) (I : Nat → World → Prop) (b : Nat) (w : World) (hl : l.length ≤ 100)
    (hent : ∀ k (h : k < l.length), Ent l[k].1)
    (hcell : ∀ k (h : k < l.length) W, I k W → W.cell? ⟨b, k, none⟩ = some l[k].val)
    (hstep : ∀ k (h : k < l.length) W, firstC code k = 0 → I k W → Calls Tryz.prog l[k].1 l[k].2 W fun e w' => e = .returned (.int .i64 (code k : Nat)) ∧ I (k + 1) w')
    (h0 : I 0 w) :
    Calls Tryz.prog 35 #[.slice (some ⟨b, 0, none⟩) l.length l.length] w fun e w' => e = .returned (.int .i64 (firstC code l.length : Nat)) ∧ ∃ k, k ≤ l.length ∧ I k w' ∧ (firstC code l.length = 0 → k = l.length) := by
  have HC := Lib.hid hcell
  have HS := Lib.hid hstep
  have HE := Lib.hid hent
  have H0 := Lib.hid h0
  clear hcell hstep hent h0
  go_enter Tryz.func35, Tryz.ntmps35
  go_wp2
  go_loopw [4, 5, 8] (fun _ _ i wr => ∃ k : Nat, k ≤ l.length ∧ i = .int .i64 k ∧ I k wr ∧ firstC code k = 0) (fun _ _ i _ => l.length - (intOf i).toNat)
  case atStart => exact ⟨0, Nat.zero_le _, rfl, H0.out, rfl⟩
  case round =>
    clear H0
    obtain ⟨k, hk, rfl, hi, hz⟩ := hrel
    by_cases hlt : k < l.length
    · have hc : wr.cell? ⟨b, k, none⟩ = some (.func (.func l[k].1) #[] l[k].2) := HC.out k hlt wr hi
      have hs := HS.out k hlt wr hz hi
      have eg : ∀ args w, (callFunc l[k].1 args).run Tryz.prog w = .ok (.enter l[k].1 args) w := HE.out k hlt
      have HF : Hid (firstC code (k + 1) = code k) := Lib.hid (by rw [firstC, hz, orE_zero])
      generalize hg : l[k].1 = g at hc hs eg
      generalize hlb : l[k].2 = lb at hc hs
      clear hi hz hg hlb
      obtain ⟨c, hcc⟩ : ∃ c, code k = c := ⟨_, rfl⟩
      rw [hcc] at hs HF
      have HCC := Lib.hid hcc
      clear hcc
      by_cases h0 : c = 0
      · subst h0
        go_wp2_with (go_at_fn g; refine hs.mono ?_; rintro e w' ⟨rfl, hi'⟩)
        go_round
        case rel => exact ⟨k + 1, by omega, by go_num, hi', HF.out⟩
        case measure => simp [intOf]; omega
      · have e1 : ((c : Int) != 0) = true := by simpa using h0
        go_wp2_with (go_at_fn g; refine hs.mono ?_; rintro e w' ⟨rfl, hi'⟩)
        go_ret
        have hf : firstC code l.length = c := by rw [firstC_stays (k := k + 1) (by omega) (by rw [HF.out]; exact h0), HF.out]
        exact ⟨by rw [hf]; rfl, k + 1, by omega, hi', fun h => absurd (hf.symm.trans h) h0⟩
    · obtain rfl : k = l.length := by omega
      go_wp2
      go_ret
      exact ⟨by rw [hz]; rfl, l.length, Nat.le_refl _, hi, fun _ => rfl⟩
/-- All is as it was, but what is new, and block m. -/
abbrev Gr (m : Nat) (w w' : World) : Prop := w.grownBy w' (some m)
theorem gr_refl (m : Nat) (w : World) : Gr m w w := ⟨rfl, rfl, rfl, Nat.le_refl _, fun _ _ _ => rfl⟩
theorem gr_trans {m : Nat} {w w1 w2 : World} (h : Gr m w w1) (k : Gr m w1 w2) : Gr m w w2 :=
  ⟨k.os.trans h.os, k.tape.trans h.tape, k.output.trans h.output, Nat.le_trans h.size k.size, fun i hi hn => (k.block i (Nat.lt_of_lt_of_le hi h.size) hn).trans (h.block i hi hn)⟩
theorem gr_below {m : Nat} {w w' : World} (h : Below w.heap.size w w') : Gr m w w' := ⟨h.os, h.tape, h.output, h.size, fun k hk _ => h.block k hk⟩
theorem gr_on {m : Nat} {w w1 w2 : World} (h : Gr m w w1) (k : Below w1.heap.size w1 w2) : Gr m w w2 := gr_trans h (gr_below k)
theorem gr_alloc {m : Nat} {w w1 : World} (h : Gr m w w1) (o : Obj) : Gr m w (w1.alloc o) := gr_trans h (World.grownBy_alloc _ o _)
theorem gr_past {m : Nat} {w0 w w' : World} (hp : Below w0.heap.size w0 w) (h : Gr m w w') (hm : w0.heap.size ≤ m) : Below w0.heap.size w0 w' :=
  Below.grown hp h hp.size (fun k e => by cases e; exact hm)
theorem gr_cell {m : Nat} {w w' : World} (h : Gr m w w') {b o : Nat} {v : Value} (hb : b ≠ m) (hc : w.cell? ⟨b, o, none⟩ = some v) : w'.cell? ⟨b, o, none⟩ = some v :=
  h.cell hc (fun e => hb (by injection e))
theorem gr_block {m : Nat} {w w' : World} (h : Gr m w w') {b : Nat} {x : Obj} (hb : b ≠ m) (hc : w.heap[b]? = some x) : w'.heap[b]? = some x := by
  have hlt : b < w.heap.size := by
    rcases Nat.lt_or_ge b w.heap.size with h' | h'
    · exact h'
    · rw [Array.getElem?_eq_none h'] at hc; cases hc
  rw [h.block b hlt (fun e => hb (by injection e))]; exact hc
/-- Questions that may turn block m alone: T tells what is so behind k of them. -/
theorem firstOf_g (m : Nat) (l : List Fv) (code : Nat → Nat) (T : Nat → World → Prop) (b : Nat) (w : World) (hl : l.length ≤ 100) (hbm : b ≠ m)
    (hent : ∀ k (h : k < l.length), Ent l[k].1)
    (hcell : ∀ k (h : k < l.length), w.cell? ⟨b, k, none⟩ = some l[k].val)
    (hstep : ∀ k (h : k < l.length) W, firstC code k = 0 → Gr m w W → T k W → Calls Tryz.prog l[k].1 l[k].2 W fun e w' => e = .returned (.int .i64 (code k : Nat)) ∧ Gr m W w' ∧ T (k + 1) w')
    (h0 : T 0 w) :
    Calls Tryz.prog 35 #[.slice (some ⟨b, 0, none⟩) l.length l.length] w fun e w' => e = .returned (.int .i64 (firstC code l.length : Nat)) ∧ Gr m w w' ∧ ∃ k, k ≤ l.length ∧ T k w' ∧ (firstC code l.length = 0 → k = l.length) := by
  refine (firstOf_any l code (fun k W => Gr m w W ∧ T k W) b w hl hent (fun k h W hW => gr_cell hW.1 hbm (hcell k h)) (fun k h W hz hW => ?_) ⟨gr_refl _ _, h0⟩).mono ?_
  · refine (hstep k h W hz hW.1 hW.2).mono ?_
    rintro e w' ⟨he, h1, h2⟩
    exact ⟨he, gr_trans hW.1 h1, h2⟩
  · rintro e w' ⟨he, k, hk, ⟨h1, h2⟩, h3⟩
    exact ⟨he, h1, k, hk, h2, h3⟩
/-- Questions that turn nothing. -/
theorem firstOf_q (l : List Fv) (code : Nat → Nat) (b : Nat) (w : World) (hl : l.length ≤ 100) (hb : b < w.heap.size)
    (hent : ∀ k (h : k < l.length), Ent l[k].1)
    (hcell : ∀ k (h : k < l.length), w.cell? ⟨b, k, none⟩ = some l[k].val)
    (hstep : ∀ k (h : k < l.length) W, firstC code k = 0 → Below w.heap.size w W → Calls Tryz.prog l[k].1 l[k].2 W fun e w' => e = .returned (.int .i64 (code k : Nat)) ∧ Below W.heap.size W w') :
    Calls Tryz.prog 35 #[.slice (some ⟨b, 0, none⟩) l.length l.length] w fun e w' => e = .returned (.int .i64 (firstC code l.length : Nat)) ∧ Below w.heap.size w w' := by
  refine (firstOf_any l code (fun _ W => Below w.heap.size w W) b w hl hent (fun k h W hW => (hW.cell (p := ⟨b, k, none⟩) hb).trans (hcell k h)) (fun k h W hz hW => ?_) (Below.refl _ _)).mono ?_
  · refine (hstep k h W hz hW).mono ?_
    rintro e w' ⟨he, h1⟩
    exact ⟨he, hW.trans (h1.mono hW.size)⟩
  · rintro e w' ⟨he, k, hk, h1, h3⟩
    exact ⟨he, h1⟩
theorem bal {w w1 : World} (h : Below w.heap.size w w1) (o : Obj) : Below w.heap.size w (w1.alloc o) := h.alloc h.size o
theorem bre (w : World) : Below w.heap.size w w := Below.refl _ _
theorem nb {w : World} {b : Nat} (o : Obj) (h : b = w.heap.size) : (w.alloc o).heap[b]? = some o := by rw [h]; exact heap_alloc_new w o
theorem lt_blk {w : World} {b : Nat} {x : Obj} (hc : w.heap[b]? = some x) : b < w.heap.size := by
  rcases Nat.lt_or_ge b w.heap.size with h' | h'
  · exact h'
  · rw [Array.getElem?_eq_none h'] at hc; cases hc
theorem ob {w : World} {b : Nat} {x : Obj} (o : Obj) (h : w.heap[b]? = some x) : (w.alloc o).heap[b]? = some x := (Below.heap_alloc w o b (lt_blk h)).trans h
theorem bl {w W : World} {b : Nat} {x : Obj} (h : Below w.heap.size w W) (hx : w.heap[b]? = some x) : W.heap[b]? = some x := (h.block b (lt_blk hx)).trans hx
/-- Block b holds one value. -/
abbrev Box (w : World) (b : Nat) (v : Value) (t : TypeId) : Prop := w.heap[b]? = some (.cells #[v] t (0, 0))
theorem Box.c0 {w : World} {b : Nat} {v : Value} {t : TypeId} (h : Box w b v t) : w.cell? ⟨b, 0, none⟩ = some v := by simp [World.cell?, h]
theorem Box.lt {w : World} {b : Nat} {v : Value} {t : TypeId} (h : Box w b v t) : b < w.heap.size := lt_blk h
def cd (l : List Nat) (k : Nat) : Nat := l.getD k 0
set_option maxHeartbeats 1000000 in
theorem when_any (b : Bool) (e : Int) (w : World) :
    Calls Tryz.prog 38 #[.bool b, .int .i64 e] w fun x w' => x = .returned (.int .i64 (if b then e else 0)) ∧ w' = w := by
  cases b
  all_goals
    go_enter Tryz.func38, Tryz.ntmps38
    go_wp2
    go_ret
    exact ⟨rfl, rfl⟩
end Go.Proofs.YtplonecdaegfbaaGreatDoor.Ck
