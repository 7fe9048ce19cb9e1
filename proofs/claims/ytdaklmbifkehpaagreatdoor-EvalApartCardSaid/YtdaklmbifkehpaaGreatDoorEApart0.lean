/- The walk of EvalApart: the cells that it writes to. (Written by genapart.py.) -/
import Derived.Test.YtdaklmbifkehpaaGreatDoorESigns0
set_option linter.unusedSimpArgs false
set_option linter.unusedVariables false
namespace Go.Proofs.YtdaklmbifkehpaaGreatDoor.Ev
open Go Go.RowKit Go.Proofs.YtdaklmbifkehpaaGreatDoor Go.Proofs.YtdaklmbifkehpaaGreatDoor.Pm

structure Two7 (N g c2 g2 c3 g3 : Nat) (W : World) : Prop where
  r2 : W.cell? ⟨g, 8, none⟩ = some (.slice (some ⟨g2, 0, none⟩) 1 c2)
  r3 : W.cell? ⟨g, 11, none⟩ = some (.slice (some ⟨g3, 0, none⟩) 3 c3)
  x2 : ∃ x, W.cell? ⟨g2, 0, none⟩ = some (.int .i64 x)
  x3 : ∀ i, i < 3 → ∃ x, W.cell? ⟨g3, i, none⟩ = some (.int .i64 x)
  f2 : W.frozen? ⟨g2, 0, none⟩ = false
  f3 : ∀ i, W.frozen? ⟨g3, i, none⟩ = false
  l : g < W.heap.size ∧ g2 < W.heap.size ∧ g3 < W.heap.size
  n2 : N ≤ g2
  n3 : N ≤ g3
  d : ¬ g = g2 ∧ ¬ g = g3 ∧ ¬ g2 = g3
theorem own_blk {w : World} {B n sz g cap : Nat} {e : TypeId} {xs : List Value} (h : w.ownsRow B e sz (.slice (some ⟨g, 0, none⟩) n cap) n xs) : ∃ cs, w.heap[g]? = some (.cells cs e (0, 0)) := by
  rcases h.2 with ⟨h0, -⟩ | ⟨g', cap', cur, h1, h2, h3, -⟩
  · cases h0
  · simp only [Value.slice.injEq, Option.some.injEq, Addr.mk.injEq, and_true, true_and] at h1
    obtain ⟨rfl, rfl⟩ := h1
    exact ⟨_, h3⟩
theorem two_of {N : Nat} {blk : Nat → Nat} {L : List PC} {ao : Option Addr} {n cap : Nat} {W : World} (h : Told N blk L L.length (.slice ao n cap) W) {d2 d3 : PC} (h2 : L[2]? = some d2) (h3 : L[3]? = some d3) (l2 : d2.v.length = 1) (l3 : d3.v.length = 3) : ∃ g c2 g2 c3 g3, ao = some ⟨g, 0, none⟩ ∧ Two7 N g c2 g2 c3 g3 W := by
  obtain ⟨vs, r1, rr, -⟩ := h
  have hl2 := (List.getElem?_eq_some_iff.1 h2).1
  have hl3 := (List.getElem?_eq_some_iff.1 h3).1
  obtain ⟨ao', cap', e⟩ := own_form r1
  obtain ⟨rfl, rfl, rfl⟩ : ao = ao' ∧ n = L.length ∧ cap = cap' := by simpa using e
  rcases own_cells r1 with ⟨-, -, e0, -⟩ | ⟨g, rfl, hg, hcl⟩
  · omega
  obtain ⟨o2, q2⟩ := rr 2 d2 h2 hl2
  obtain ⟨o3, q3⟩ := rr 3 d3 h3 hl3
  have t2 := hcl _ _ (toldRow_at vs L 0 2 d2 h2).2.2
  have t3 := hcl _ _ (toldRow_at vs L 0 3 d3 h3).2.2
  have hne := q2 3 d3 h3 hl3 (by decide)
  simp only [Nat.zero_add] at t2 t3
  obtain ⟨a2, c2, e2⟩ := own_form o2
  obtain ⟨a3, c3, e3⟩ := own_form o3
  rw [e2] at o2 t2 hne
  rw [e3] at o3 t3 hne
  rw [l2] at o2 t2 hne
  rw [l3] at o3 t3 hne
  rcases own_cells o2 with ⟨-, -, e0, -⟩ | ⟨g2, rfl, hg2, hc2⟩
  · omega
  rcases own_cells o3 with ⟨-, -, e0, -⟩ | ⟨g3, rfl, hg3, hc3⟩
  · omega
  obtain ⟨b1, hb1⟩ := own_blk r1
  obtain ⟨b2, hb2⟩ := own_blk o2
  obtain ⟨b3, hb3⟩ := own_blk o3
  refine ⟨g, c2, g2, c3, g3, rfl, t2, t3, ?_, fun i hi => ?_, own_free o2 0, own_free o3, ⟨hg, hg2, hg3⟩, (own_lt o2 rfl).1, (own_lt o3 rfl).1, ?_, ?_, ?_⟩
  · have h0 : (d2.v.map (Value.int .i64))[0]? = some (.int .i64 (d2.v[0]'(by omega))) := by simp
    exact ⟨_, hc2 0 _ h0⟩
  · have h0 : (d3.v.map (Value.int .i64))[i]? = some (.int .i64 (d3.v[i]'(by omega))) := by simp [show i < d3.v.length by omega]
    exact ⟨_, hc3 i _ h0⟩
  · rintro rfl
    rw [hb1] at hb2
    simp only [Option.some.injEq, Obj.cells.injEq] at hb2
    exact absurd hb2.2.1 (by decide)
  · rintro rfl
    rw [hb1] at hb3
    simp only [Option.some.injEq, Obj.cells.injEq] at hb3
    exact absurd hb3.2.1 (by decide)
  · rintro rfl
    rcases hne with hne | hne
    · simp [Value.ownBlock] at hne
    · exact hne rfl
theorem wrap_in7 (n : Int) : in64 (IntKind.i64.wrap n) := by
  rw [i64_wrap]
  exact wrap_in6 n
end Go.Proofs.YtdaklmbifkehpaaGreatDoor.Ev
