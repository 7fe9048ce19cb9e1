/- A cell put behind the others: the walk of add. (Written by genadd.py.) An environment is made of a function and its arguments: the walk of New. What Cells tells: a copy of each cell, and of its numbers. (Written by gencells.py.) -/
import Derived.Test.YtdaklmbifkehpaaGreatDoorEPlace
import Derived.Deep.RegionLaw
import Derived.Deep.AppendLies
import Derived.Deep.RegionHeld3
import Derived.Test.YtdaklmbifkehpaaGreatDoorTStW4
import Derived.Laws.MakeOwn
import Derived.Carry
import Derived.Lib.SliceRun
set_option linter.unusedSimpArgs false
set_option linter.unusedVariables false
namespace Go.Proofs.YtdaklmbifkehpaaGreatDoor.Ev
open Go Go.RowKit Go.Proofs.YtdaklmbifkehpaaGreatDoor
open Go.Lib (hid)

theorem cell_info : (Tryz.prog.info? 75).map (fun i => (i.zero, i.size, i.bytes)) = some (some (.agg #[.string { data := #[] }, .bool false, .slice none 0 0]), 3, 48) := by kernel_rfl
def KeptE (E : Nat) (w w' : World) : Prop := ∀ q cs t fr, w.heap[q]? = some (.cells cs t fr) → q ≠ E → t ≠ 75 → w'.heap[q]? = some (.cells cs t fr)
theorem KeptE.refl (E : Nat) (w : World) : KeptE E w w := fun _ _ _ _ h _ _ => h
theorem KeptE.trans {E : Nat} {w w1 w2 : World} (h : KeptE E w w1) (k : KeptE E w1 w2) : KeptE E w w2 := fun q cs t fr hq hE ht => k q cs t fr (h q cs t fr hq hE ht) hE ht
theorem KeptE.below {E : Nat} {w w1 : World} (h : Below w.heap.size w w1) : KeptE E w w1 := fun q cs t fr hq _ _ => (h.block q (lt_of_block hq)).trans hq
theorem KeptE.map {E M : Nat} {L : List PC} {w w1 : World} (h : MapIn M L w) (hg : w.grownBy w1 (some M)) : KeptE E w w1 := fun q cs t fr hq _ _ => (hg.block q (lt_of_block hq) (by have := h.ne hq; simp; exact fun e => this e.symm)).trans hq
theorem KeptE.row {E B n : Nat} {v : Value} {xs : List Value} {w w1 : World} (h : w.ownsRow B 75 3 v n xs) (hg : w.grownBy w1 v.ownBlock) : KeptE E w w1 := fun q cs t fr hq _ ht => (hg.block q (lt_of_block hq) (fun e => own_ne h hq ht e.symm)).trans hq
theorem KeptE.set (E k : Nat) (u : Value) (w : World) : KeptE E w (w.setCell ⟨E, k, none⟩ u) := fun q cs t fr hq hE _ => (Below.heap_setCell _ _ _ _ hE).trans hq
theorem own_neM {w : World} {B n sz M : Nat} {e : TypeId} {v : Value} {xs : List Value} {L : List PC} (h : w.ownsRow B e sz v n xs) (hM : MapIn M L w) : v.ownBlock ≠ some M := by
  rcases h.2 with ⟨rfl, _⟩ | ⟨g, cap, cur, rfl, _, hg, _⟩
  · simp [Value.ownBlock]
  · intro h
    simp only [Value.ownBlock, Option.some.injEq] at h
    exact hM.ne hg h.symm
theorem MapIn.grown {M : Nat} {L : List PC} {w w1 : World} {r : Option Nat} (h : MapIn M L w) (hg : w.grownBy w1 r) (hr : r ≠ some M) : MapIn M L w1 := by
  obtain ⟨D, h1, h2, h3⟩ := h
  exact ⟨D, h1.kept (row := r) hg (fun e => hr e.symm), h2, h3⟩
def blkMore (blk : Nat → Nat) (n b : Nat) : Nat → Nat := fun k => if k = n then b else blk k
theorem add_end {B E M b g kap : Nat} {blk : Nat → Nat} {L : List PC} {c : PC} {W w5 : World} {ao : Option Addr} {cap : Nat} (hM : MapIn M (L ++ [c]) W) (h1 : W.heap[E]? = some (.cells #[.slice ao L.length cap, .map (some M)] 91 (0, 0))) (h0 : B ≤ E ∧ B ≤ M)
    (h2 : W.ownsRow B 75 3 (.slice ao L.length cap) L.length (rowOf blk 0 L)) (h4 : ∀ k c, L[k]? = some c → B ≤ blk k ∧ W.heap[blk k]? = some (.cells (numV c.v) 2 (0, 0)))
    (h5 : ∀ k m, k < L.length → m < L.length → blk k = blk m → k = m) (h6 : Nums L) (hB : B ≤ b) (hb : W.heap[b]? = some (.cells (numV c.v) 2 (0, 0))) (hn : (∀ x ∈ c.v, in64 x) ∧ c.v.length ≤ 64) (hne : ∀ k, k < L.length → blk k ≠ b)
    (hown : w5.ownsRow B 75 3 (.slice (some ⟨g, 0, none⟩) (L.length + 1) kap) (L.length + 1) (rowOf blk 0 L ++ [.string ⟨c.name.toArray⟩, .bool c.arr, .slice (some ⟨b, 0, none⟩) c.v.length c.v.length])) (hg : W.grownBy w5 (Value.slice ao L.length cap).ownBlock) :
    EnvIn B E (blkMore blk L.length b) (L ++ [c]) (w5.setCell ⟨E, 0, none⟩ (.slice (some ⟨g, 0, none⟩) (L.length + 1) kap)) ∧ Below B W (w5.setCell ⟨E, 0, none⟩ (.slice (some ⟨g, 0, none⟩) (L.length + 1) kap)) ∧ KeptE E W (w5.setCell ⟨E, 0, none⟩ (.slice (some ⟨g, 0, none⟩) (L.length + 1) kap)) := by
  have hlen : (L ++ [c]).length = L.length + 1 := by simp
  have k5 : KeptE E W w5 := KeptE.row h2 hg
  have hE5 : w5.heap[E]? = some (.cells #[.slice ao L.length cap, .map (some M)] 91 (0, 0)) := (hg.block E (lt_of_block h1) (fun e => own_ne h2 h1 (by decide) e.symm)).trans h1
  have kF := k5.trans (KeptE.set E 0 (.slice (some ⟨g, 0, none⟩) (L.length + 1) kap) w5)
  have hM5 : MapIn M (L ++ [c]) (w5.setCell ⟨E, 0, none⟩ (.slice (some ⟨g, 0, none⟩) (L.length + 1) kap)) := (hM.grown hg (own_neM h2 hM)).set (hM.ne h1) 0 _
  have hi64 : ∀ q, W.heap[q]? = some (.cells (numV c.v) 2 (0, 0)) → q ≠ E := by
    rintro q hq rfl
    rw [hq] at h1
    simp only [Option.some.injEq, Obj.cells.injEq] at h1
    exact absurd h1.2.1 (by decide)
  refine ⟨⟨⟨_, M, by rw [bk_set _ hE5]; rfl, h0, ?_, hM5⟩, fun k d hd => ?_, fun k m hk hm e => ?_, fun d hd => ?_⟩, ?_, kF⟩
  · rw [hlen, rowOf_snoc, Nat.zero_add]
    have e1 : rowOf (blkMore blk L.length b) 0 L = rowOf blk 0 L := rowOf_blk L 0 (fun m _ hm => by unfold blkMore; rw [if_neg (by omega)])
    rw [e1]
    have e2 : blkMore blk L.length b L.length = b := by unfold blkMore; rw [if_pos rfl]
    rw [e2]
    exact hown.kept (row := some E) ⟨rfl, rfl, rfl, by simp [World.setCell], fun q _ hq => Below.heap_setCell _ _ _ _ (fun e => hq (by simp [e]))⟩ (Or.inr (own_ne hown hE5 (by decide)))
  · unfold blkMore
    by_cases e : k = L.length
    · subst e
      rw [if_pos rfl]
      simp only [List.getElem?_append_right (Nat.le_refl _), Nat.sub_self, List.getElem?_cons_zero, Option.some.injEq] at hd
      subst hd
      exact ⟨hB, kF _ _ _ _ hb (hi64 _ hb) (by decide)⟩
    · rw [if_neg e]
      have hk : k < L.length := by
        have := (List.getElem?_eq_some_iff.1 hd).1
        rw [hlen] at this
        omega
      rw [List.getElem?_append_left hk] at hd
      have h := h4 k d hd
      refine ⟨h.1, kF _ _ _ _ h.2 ?_ (by decide)⟩
      intro e2
      rw [e2, h1] at h
      have h7 := h.2
      simp only [Option.some.injEq, Obj.cells.injEq] at h7
      exact absurd h7.2.1 (by decide)
  · rw [hlen] at hk hm
    unfold blkMore at e
    by_cases e1 : k = L.length
    · by_cases e2 : m = L.length
      · rw [e1, e2]
      · rw [if_pos e1, if_neg e2] at e
        exact absurd e.symm (hne m (by omega))
    · by_cases e2 : m = L.length
      · rw [if_neg e1, if_pos e2] at e
        exact absurd e (hne k (by omega))
      · rw [if_neg e1, if_neg e2] at e
        exact h5 k m (by omega) (by omega) e
  · rcases List.mem_append.1 hd with hd | hd
    · exact h6 d hd
    · simp only [List.mem_singleton] at hd
      subst hd
      exact hn
  · have hgB : ∀ q, q < B → w5.heap[q]? = W.heap[q]? := fun q hq => by
      have hlt := lt_of_block h1
      refine hg.block q (by omega) ?_
      rcases h2.2 with ⟨e, _⟩ | ⟨g', cap', cur, e, hgB, _⟩
      · rw [e]; simp [Value.ownBlock]
      · rw [e]; simp [Value.ownBlock]; omega
    exact (⟨hg.os, hg.tape, hg.output, hg.size, hgB⟩ : Below B W w5).setCell (p := ⟨E, 0, none⟩) h0.1 _
def AddPost (B E : Nat) (blk : Nat → Nat) (L : List PC) (c : PC) (b : Nat) (w : World) (e : Ending) (w' : World) : Prop :=
  e = .returned (.tuple #[]) ∧ EnvIn B E (blkMore blk L.length b) (L ++ [c]) w' ∧ Below B w w' ∧ KeptE E w w' ∧ w.heap.size ≤ w'.heap.size
set_option maxHeartbeats 8000000 in
set_option maxRecDepth 100000 in
theorem add_new {B E : Nat} {blk : Nat → Nat} {L : List PC} {w : World} (h : EnvIn B E blk L w) (hl : L.length ≤ 100000) (s : ByteArray) (hs : s.size ≤ maxLen) (hi : idxOf s.data.toList L = none) (arr : Bool) (b : Nat) (v : List Int) (hB : B ≤ b) (hb : w.heap[b]? = some (.cells (numV v) 2 (0, 0))) (hn : (∀ x ∈ v, in64 x) ∧ v.length ≤ 64) (hne : ∀ k, k < L.length → blk k ≠ b) :
    Calls Tryz.prog 36 #[.pointer (some ⟨E, 0, none⟩), .agg #[.string s, .bool arr, .slice (some ⟨b, 0, none⟩) v.length v.length]] w (AddPost B E blk L ⟨s.data.toList, arr, v⟩ b w) := by
  have hBw : B ≤ w.heap.size := Nat.le_of_lt (Nat.lt_of_le_of_lt hB (lt_of_block hb))
  obtain ⟨⟨u, M, h1, h0, h2, h3⟩, h4, h5, h6⟩ := h
  obtain ⟨ao, cap, rfl⟩ : ∃ ao cap, u = .slice ao L.length cap := by
    rcases h2.2 with ⟨e, h9⟩ | ⟨g, cap, cur, e, _⟩
    · exact ⟨none, 0, by rw [e, h9]⟩
    · exact ⟨_, _, e⟩
  have ba : Below w.heap.size w (w.alloc (.cells #[.string s, .bool arr, .slice (some ⟨b, 0, none⟩) v.length v.length] 75)) := (Below.refl _ _).alloc (Nat.le_refl _) _
  have hXb := bk_new w (.cells #[.string s, .bool arr, .slice (some ⟨b, 0, none⟩) v.length v.length] 75)
  have x0 := bk_cell (k := 0) hXb rfl
  have hb1 := bk_old (.cells #[.string s, .bool arr, .slice (some ⟨b, 0, none⟩) v.length v.length] 75) h1
  have c0 := bk_cell (k := 0) hb1 rfl
  have c1 := bk_cell (k := 1) hb1 rfl
  have hm1 := h3.on ba
  have hk := hm1.look s hs
  have hkd := (hm1.on (Below.refl _ _).drew).look s hs
  rw [hi] at hk hkd
  simp only [numB, Option.isSome_none] at hk hkd
  have h2a := h2.kept (row := none) (World.grownBy_alloc w (.cells #[.string s, .bool arr, .slice (some ⟨b, 0, none⟩) v.length v.length] 75) none) (Classical.em _)
  have hlt := lt_of_block h1
  have hltX := lt_of_block hXb
  have hmd := (hm1.on (Below.refl _ _).drew).on (Below.refl _ _).drew
  obtain ⟨W1, hrun, hM1, hG0⟩ := hmd.add (by omega) (c := ⟨s.data.toList, arr, v⟩) hs rfl hi
  have hG1 : (w.alloc (.cells #[.string s, .bool arr, .slice (some ⟨b, 0, none⟩) v.length v.length] 75)).grownBy W1 (some M) := ⟨hG0.os, hG0.tape, hG0.output, hG0.size, hG0.block⟩
  clear hG0
  have kE : KeptE E (w.alloc (.cells #[.string s, .bool arr, .slice (some ⟨b, 0, none⟩) v.length v.length] 75)) W1 := KeptE.map hm1 hG1
  have g1 : W1.heap[E]? = some (.cells #[.slice ao L.length cap, .map (some M)] 91 (0, 0)) := (hG1.block E (lt_of_block hb1) (by have := h3.ne h1; simp; exact fun e => this e.symm)).trans hb1
  have gX : W1.heap[w.heap.size]? = some (.cells #[.string s, .bool arr, .slice (some ⟨b, 0, none⟩) v.length v.length] 75 (0, 0)) := (hG1.block _ (lt_of_block hXb) (by have := h3.lt; simp; omega)).trans hXb
  have h2b : W1.ownsRow B 75 3 (.slice ao L.length cap) L.length (rowOf blk 0 L) := h2a.kept (row := some M) hG1 (Or.inr (own_neM h2 h3))
  have bl1 : Below B w W1 := ⟨hG1.os, hG1.tape, hG1.output, Nat.le_trans ba.size hG1.size, fun q hq => (hG1.block q (by simp; omega) (by simp; omega)).trans (ba.block q (by omega))⟩
  have kW : KeptE E w W1 := (KeptE.below ba).trans kE
  have hEne : ∀ (q : Nat) (cs : Array Value), w.heap[q]? = some (.cells cs 2 (0, 0)) → q ≠ E := by
    rintro q cs hq rfl
    rw [hq] at h1
    simp only [Option.some.injEq, Obj.cells.injEq] at h1
    exact absurd h1.2.1 (by decide)
  have HE := hid (fun g kap w5 => add_end (g := g) (kap := kap) (w5 := w5) (c := ⟨s.data.toList, arr, v⟩) hM1 g1 h0 h2b (fun k d hd => ⟨(h4 k d hd).1, kW _ _ _ _ (h4 k d hd).2 (hEne _ _ (h4 k d hd).2) (by decide)⟩) h5 h6 hB (kW _ _ _ _ hb (hEne _ _ hb) (by decide)) hn hne)
  have HB1 := hid bl1
  have HKW := hid kW
  have HSZ := hid (Nat.le_trans ba.size hG1.size)
  have HBS := hid (Nat.le_trans hBw HSZ.out)
  have e0 := bk_cell (k := 0) g1 rfl
  have e1 := bk_cell (k := 1) g1 rfl
  have fE := bk_free (k := 0) g1
  have y0 := bk_cell (k := 0) gX rfl
  have y1 := bk_cell (k := 1) gX rfl
  have y2 := bk_cell (k := 2) gX rfl
  have hltE := lt_of_block g1
  have hltY := lt_of_block gX
  obtain ⟨ei, hin, hz0, hz1, hz2⟩ := info_parts cell_info
  have HOW := hid h2b
  have HG := hid g1
  have HL := hid hl
  have hrl : (rowOf blk 0 L).length = L.length * 3 := rowOf_len _ _ _
  have HRL := hid hrl
  generalize v.length = n at *
  clear kE kW bl1 hEne hM1 g1 gX h2b h2a hb1 hXb h3 h2 h1 h0 h4 h5 h6 hb hn hm1 hmd hG1 hB hBw ba hi hne hl hrl
  go_enter Tryz.func36, Tryz.ntmps36
  go_wp2
  go_region_held3 (fun w' => (w'.cell? ⟨E, 0, none⟩ = some (.slice ao L.length cap) ∧ w'.cell? ⟨E, 1, none⟩ = some (.map (some M))) ∧ w'.cell? ⟨w.heap.size, 0, none⟩ = some (.string s) ∧ (Instr.lookup 89 (.map (some M)) (.string s) true).run Tryz.prog w' = .ok (.tuple #[.int .i64 0, .bool false]) w') (go_keep) (fail)
  go_wp2
  go_region
  all_goals go_wp2
  go_region_law (refine step_append_lies _ (by rfl) _ _ _ (by rfl) B 75 ei _ 3 48 Tryz.underlying66 hin hz0 hz1 hz2 rfl (by decide) (.slice ao L.length cap) L.length (rowOf blk 0 L) rfl (HOW.out.drew.alloc _) ⟨W1.drew.heap.size, 0, none⟩ 1 1 [.string s, .bool arr, .slice (some ⟨b, 0, none⟩) n n] rfl rfl (World.news_of_block (bk_new W1.drew (.cells #[.string s, .bool arr, .slice (some ⟨b, 0, none⟩) n n] 75))) (by intro u hu; simp only [List.mem_cons, List.mem_nil_iff, or_false] at hu; rcases hu with rfl | rfl | rfl <;> rfl) (by decide) (by have := HL.out; unfold maxLen; omega) (by have := HL.out; omega) (by have := HBS.out; simp; omega) _ rfl ?_; intro g kap w5 hown hgrow hat hlt5; have HX := hid (And.intro hown hgrow); have z0 := (hgrow.block E (by simp; omega) (fun e => own_ne (HOW.out.drew.alloc (.cells #[.string s, .bool arr, .slice (some ⟨b, 0, none⟩) n n] 75)) (bk_old (.cells #[.string s, .bool arr, .slice (some ⟨b, 0, none⟩) n n] 75) (w := W1.drew) HG.out) (by decide) e.symm)).trans (bk_old _ (w := W1.drew) HG.out); have z1 := bk_cell (k := 0) z0 rfl; have z2 := bk_free (k := 0) z0; have z3 := lt_of_block z0; clear z0 hown hgrow hat)
  all_goals go_wp2
  all_goals
    go_end0
    obtain ⟨hown, hgrow⟩ := HX.out
    have hga := World.grownBy_alloc W1 (.cells #[.string s, .bool arr, .slice (some ⟨b, 0, none⟩) n n] 75) (Value.slice ao L.length cap).ownBlock
    have hgr : W1.grownBy w5 (Value.slice ao L.length cap).ownBlock := ⟨hgrow.os.trans hga.os, hgrow.tape.trans hga.tape, hgrow.output.trans hga.output, Nat.le_trans hga.size hgrow.size, fun q hq hr => (hgrow.block q (Nat.lt_of_lt_of_le hq hga.size) hr).trans (hga.block q hq hr)⟩
    obtain ⟨r1, r2, r3⟩ := HE.out g kap w5 hown hgr
    exact ⟨rfl, r1, HB1.out.trans r2, HKW.out.trans r3, Nat.le_trans HSZ.out (by simpa [World.setCell] using hgr.size)⟩
set_option maxHeartbeats 8000000 in
set_option maxRecDepth 100000 in
theorem add_old {B E : Nat} {blk : Nat → Nat} {L : List PC} {i : Nat} {w : World} (h : EnvIn B E blk L w) (hl : L.length ≤ 100000) (s : ByteArray) (hs : s.size ≤ maxLen) (hi : idxOf s.data.toList L = some i) (arr : Bool) (b : Nat) (v : List Int) (hB : B ≤ b) (hb : w.heap[b]? = some (.cells (numV v) 2 (0, 0))) (hn : (∀ x ∈ v, in64 x) ∧ v.length ≤ 64) (hne : ∀ k, k < L.length → blk k ≠ b) :
    Calls Tryz.prog 36 #[.pointer (some ⟨E, 0, none⟩), .agg #[.string s, .bool arr, .slice (some ⟨b, 0, none⟩) v.length v.length]] w (AddPost B E blk L ⟨s.data.toList, arr, v⟩ b w) := by
  have hBw : B ≤ w.heap.size := Nat.le_of_lt (Nat.lt_of_le_of_lt hB (lt_of_block hb))
  obtain ⟨⟨u, M, h1, h0, h2, h3⟩, h4, h5, h6⟩ := h
  obtain ⟨ao, cap, rfl⟩ : ∃ ao cap, u = .slice ao L.length cap := by
    rcases h2.2 with ⟨e, h9⟩ | ⟨g, cap, cur, e, _⟩
    · exact ⟨none, 0, by rw [e, h9]⟩
    · exact ⟨_, _, e⟩
  have ba : Below w.heap.size w (w.alloc (.cells #[.string s, .bool arr, .slice (some ⟨b, 0, none⟩) v.length v.length] 75)) := (Below.refl _ _).alloc (Nat.le_refl _) _
  have hXb := bk_new w (.cells #[.string s, .bool arr, .slice (some ⟨b, 0, none⟩) v.length v.length] 75)
  have x0 := bk_cell (k := 0) hXb rfl
  have hb1 := bk_old (.cells #[.string s, .bool arr, .slice (some ⟨b, 0, none⟩) v.length v.length] 75) h1
  have c0 := bk_cell (k := 0) hb1 rfl
  have c1 := bk_cell (k := 1) hb1 rfl
  have hm1 := h3.on ba
  have hk := hm1.look s hs
  have hkd := (hm1.on (Below.refl _ _).drew).look s hs
  rw [hi] at hk hkd
  simp only [numB, Option.isSome_some] at hk hkd
  have h2a := h2.kept (row := none) (World.grownBy_alloc w (.cells #[.string s, .bool arr, .slice (some ⟨b, 0, none⟩) v.length v.length] 75) none) (Classical.em _)
  have hlt := lt_of_block h1
  have hltX := lt_of_block hXb
  obtain ⟨W1, hW1⟩ : ∃ W1, (w.alloc (.cells #[.string s, .bool arr, .slice (some ⟨b, 0, none⟩) v.length v.length] 75)).drew = W1 := ⟨_, rfl⟩
  have kE : KeptE E (w.alloc (.cells #[.string s, .bool arr, .slice (some ⟨b, 0, none⟩) v.length v.length] 75)) W1 := by rw [← hW1]; exact KeptE.below (Below.refl _ _).drew
  have g1 : W1.heap[E]? = some (.cells #[.slice ao L.length cap, .map (some M)] 91 (0, 0)) := by rw [← hW1]; exact hb1
  have gX : W1.heap[w.heap.size]? = some (.cells #[.string s, .bool arr, .slice (some ⟨b, 0, none⟩) v.length v.length] 75 (0, 0)) := by rw [← hW1]; exact hXb
  have h2b : W1.ownsRow B 75 3 (.slice ao L.length cap) L.length (rowOf blk 0 L) := by rw [← hW1]; exact h2a.drew
  have bl1 : Below B w W1 := by rw [← hW1]; exact ((Below.refl B w).alloc hBw _).drew
  have hM1 : MapIn M (L ++ [⟨s.data.toList, arr, v⟩]) W1 := by rw [← hW1]; exact (hm1.on (Below.refl _ _).drew).same (by rw [hi]; simp)
  have HW1 := hid hW1
  have hszW : w.heap.size ≤ W1.heap.size := by rw [← hW1]; exact ba.size
  have kW : KeptE E w W1 := (KeptE.below ba).trans kE
  have hEne : ∀ (q : Nat) (cs : Array Value), w.heap[q]? = some (.cells cs 2 (0, 0)) → q ≠ E := by
    rintro q cs hq rfl
    rw [hq] at h1
    simp only [Option.some.injEq, Obj.cells.injEq] at h1
    exact absurd h1.2.1 (by decide)
  have HE := hid (fun g kap w5 => add_end (g := g) (kap := kap) (w5 := w5) (c := ⟨s.data.toList, arr, v⟩) hM1 g1 h0 h2b (fun k d hd => ⟨(h4 k d hd).1, kW _ _ _ _ (h4 k d hd).2 (hEne _ _ (h4 k d hd).2) (by decide)⟩) h5 h6 hB (kW _ _ _ _ hb (hEne _ _ hb) (by decide)) hn hne)
  have HB1 := hid bl1
  have HKW := hid kW
  have HSZ := hid hszW
  have HBS := hid (Nat.le_trans hBw HSZ.out)
  have e0 := bk_cell (k := 0) g1 rfl
  have e1 := bk_cell (k := 1) g1 rfl
  have fE := bk_free (k := 0) g1
  have y0 := bk_cell (k := 0) gX rfl
  have y1 := bk_cell (k := 1) gX rfl
  have y2 := bk_cell (k := 2) gX rfl
  have hltE := lt_of_block g1
  have hltY := lt_of_block gX
  obtain ⟨ei, hin, hz0, hz1, hz2⟩ := info_parts cell_info
  have HOW := hid h2b
  have HG := hid g1
  have HL := hid hl
  have hrl : (rowOf blk 0 L).length = L.length * 3 := rowOf_len _ _ _
  have HRL := hid hrl
  generalize v.length = n at *
  clear kE kW bl1 hEne hM1 g1 gX h2b h2a hb1 hXb h3 h2 h1 h0 h4 h5 h6 hb hn hm1 hW1 hszW hB hBw ba hi hne hl hrl
  go_enter Tryz.func36, Tryz.ntmps36
  go_wp2
  go_region_held3 (fun w' => (w'.cell? ⟨E, 0, none⟩ = some (.slice ao L.length cap) ∧ w'.cell? ⟨E, 1, none⟩ = some (.map (some M))) ∧ w'.cell? ⟨w.heap.size, 0, none⟩ = some (.string s) ∧ (Instr.lookup 89 (.map (some M)) (.string s) true).run Tryz.prog w' = .ok (.tuple #[.int .i64 (i : Nat), .bool true]) w') (go_keep) (fail)
  go_wp2
  rw [HW1.out]
  go_region_law (refine step_append_lies _ (by rfl) _ _ _ (by rfl) B 75 ei _ 3 48 Tryz.underlying66 hin hz0 hz1 hz2 rfl (by decide) (.slice ao L.length cap) L.length (rowOf blk 0 L) rfl (HOW.out.drew.alloc _) ⟨W1.drew.heap.size, 0, none⟩ 1 1 [.string s, .bool arr, .slice (some ⟨b, 0, none⟩) n n] rfl rfl (World.news_of_block (bk_new W1.drew (.cells #[.string s, .bool arr, .slice (some ⟨b, 0, none⟩) n n] 75))) (by intro u hu; simp only [List.mem_cons, List.mem_nil_iff, or_false] at hu; rcases hu with rfl | rfl | rfl <;> rfl) (by decide) (by have := HL.out; unfold maxLen; omega) (by have := HL.out; omega) (by have := HBS.out; simp; omega) _ rfl ?_; intro g kap w5 hown hgrow hat hlt5; have HX := hid (And.intro hown hgrow); have z0 := (hgrow.block E (by simp; omega) (fun e => own_ne (HOW.out.drew.alloc (.cells #[.string s, .bool arr, .slice (some ⟨b, 0, none⟩) n n] 75)) (bk_old (.cells #[.string s, .bool arr, .slice (some ⟨b, 0, none⟩) n n] 75) (w := W1.drew) HG.out) (by decide) e.symm)).trans (bk_old _ (w := W1.drew) HG.out); have z1 := bk_cell (k := 0) z0 rfl; have z2 := bk_free (k := 0) z0; have z3 := lt_of_block z0; clear z0 hown hgrow hat)
  all_goals go_wp2
  all_goals
    go_end0
    obtain ⟨hown, hgrow⟩ := HX.out
    have hga := World.grownBy_alloc W1 (.cells #[.string s, .bool arr, .slice (some ⟨b, 0, none⟩) n n] 75) (Value.slice ao L.length cap).ownBlock
    have hgr : W1.grownBy w5 (Value.slice ao L.length cap).ownBlock := ⟨hgrow.os.trans hga.os, hgrow.tape.trans hga.tape, hgrow.output.trans hga.output, Nat.le_trans hga.size hgrow.size, fun q hq hr => (hgrow.block q (Nat.lt_of_lt_of_le hq hga.size) hr).trans (hga.block q hq hr)⟩
    obtain ⟨r1, r2, r3⟩ := HE.out g kap w5 hown hgr
    exact ⟨rfl, r1, HB1.out.trans r2, HKW.out.trans r3, Nat.le_trans HSZ.out (by simpa [World.setCell] using hgr.size)⟩
theorem add_any {B E : Nat} {blk : Nat → Nat} {L : List PC} {w : World} (h : EnvIn B E blk L w) (hl : L.length ≤ 100000) (s : ByteArray) (hs : s.size ≤ maxLen) (arr : Bool) (b : Nat) (v : List Int) (hB : B ≤ b) (hb : w.heap[b]? = some (.cells (numV v) 2 (0, 0))) (hn : (∀ x ∈ v, in64 x) ∧ v.length ≤ 64) (hne : ∀ k, k < L.length → blk k ≠ b) :
    Calls Tryz.prog 36 #[.pointer (some ⟨E, 0, none⟩), .agg #[.string s, .bool arr, .slice (some ⟨b, 0, none⟩) v.length v.length]] w (AddPost B E blk L ⟨s.data.toList, arr, v⟩ b w) := by
  cases hi : idxOf s.data.toList L with
  | none => exact add_new h hl s hs hi arr b v hB hb hn hne
  | some i => exact add_old h hl s hs hi arr b v hB hb hn hne
end Go.Proofs.YtdaklmbifkehpaaGreatDoor.Ev

set_option linter.unusedSimpArgs false
set_option linter.unusedVariables false
namespace Go.Proofs.YtdaklmbifkehpaaGreatDoor.Ev
open Go Go.RowKit Go.Proofs.YtdaklmbifkehpaaGreatDoor
open Go.Lib (hid)

def roomN (n : Int) : Nat := (min (max n 1) 64).toNat
theorem roomN_le (n : Int) : roomN n ≤ 64 := by unfold roomN; omega
set_option maxHeartbeats 2000000 in
theorem room_any (n : Int) (w : World) : Calls Tryz.prog 37 #[.int .i64 n] w fun e w' => e = .returned (.int .i64 (roomN n : Nat)) ∧ w' = w := by
  have h : ((roomN n : Nat) : Int) = min (max n 1) 64 := by unfold roomN; omega
  rw [h]
  clear h
  go_enter Tryz.func37, Tryz.ntmps37
  go_wp2
  go_ret
  exact ⟨rfl, rfl⟩
def parC (zs : List Int) (i : Nat) (p : ByteArray) : PC := ⟨p.data.toList, false, [zs.getD i 0]⟩
def parsL (zs : List Int) : Nat → List ByteArray → List PC
  | _, [] => []
  | i, p :: l => parC zs i p :: parsL zs (i + 1) l
theorem parsL_len (zs : List Int) : ∀ (l : List ByteArray) (i : Nat), (parsL zs i l).length = l.length
  | [], i => rfl
  | p :: l, i => by rw [parsL, List.length_cons, parsL_len zs l, List.length_cons]
theorem parsL_take (zs : List Int) : ∀ (l : List ByteArray) (i k : Nat) (hk : k < l.length), parsL zs i (l.take (k + 1)) = parsL zs i (l.take k) ++ [parC zs (i + k) l[k]]
  | p :: l, i, 0, hk => by simp [parsL]
  | p :: l, i, k + 1, hk => by
    have := parsL_take zs l (i + 1) k (by simpa using hk)
    rw [List.take_succ_cons, List.take_succ_cons, parsL, parsL, this, show i + 1 + k = i + (k + 1) by omega]
    rfl
def varC (d : ByteArray × Int) : PC := ⟨d.1.data.toList, decide (0 < d.2), List.replicate (roomN d.2) 0⟩
def newL (ps : List ByteArray) (ds : List (ByteArray × Int)) (zs : List Int) : List PC := parsL zs 0 ps ++ ds.map varC
def StrsAt (w : World) (a : Option Addr) (ps : List ByteArray) : Prop := ∀ i s, ps[i]? = some s → ∃ b o, a = some ⟨b, o, none⟩ ∧ w.cell? ⟨b, o + i, none⟩ = some (.string s) ∧ s.size ≤ maxLen
def DeclsAt (w : World) (a : Option Addr) (ds : List (ByteArray × Int)) : Prop := ∀ i d, ds[i]? = some d → ∃ b o, a = some ⟨b, o, none⟩ ∧ w.cell? ⟨b, o + i * 2, none⟩ = some (.string d.1) ∧ w.cell? ⟨b, o + i * 2 + 1, none⟩ = some (.int .i64 d.2) ∧ d.1.size ≤ maxLen
theorem run_mapN {P : Program} (t k e : TypeId) (ht : P.underlying t = some (.map k e)) (n : Int) (w : World) : (Instr.makeMap t (some (.int .i64 n))).run P w = .ok (.map (some w.heap.size)) (w.alloc (.map #[] 0)) := by
  simp [Instr.makeMap, run_underlying ht, Result.andThen, asInt, asIntOf]
theorem hp_drew {w : World} {b : Nat} {x : Option Obj} (h : w.heap[b]? = x) : w.drew.heap[b]? = x := h
theorem map_new' {w : World} {n : Nat} (h : w.heap.size = n) : MapIn n [] (w.alloc (.map #[] 0)) := by subst h; exact map_new w
theorem MapIn.alloc {M : Nat} {L : List PC} {w : World} (h : MapIn M L w) (o : Obj) : MapIn M L (w.alloc o) := h.on ((Below.refl _ _).alloc (Nat.le_refl _) _)
theorem env_new {B E g M cap : Nat} {blk : Nat → Nat} {mc : Array Value} {W : World} (hE : W.heap[E]? = some (.cells #[.slice (some ⟨g, 0, none⟩) 0 cap, .map (some M)] 91 (0, 0))) (hg : W.heap[g]? = some (.cells mc 75 (0, 0))) (hs : mc.size = cap * 3) (hc : cap ≤ maxLen) (hM : MapIn M [] W) (h1 : B ≤ E) (h2 : B ≤ g) (h3 : B ≤ M) : EnvIn B E blk [] W :=
  ⟨⟨_, M, hE, ⟨h1, h3⟩, ⟨rfl, .inr ⟨g, cap, mc, rfl, h2, hg, Nat.zero_le _, hc, hs, by simp [rowOf]⟩⟩, hM⟩, fun k c h => by simp at h, fun k m h => by simp at h, fun c h => by simp at h⟩
theorem stepB {a w w' : World} (h : Below a.heap.size a w) (hb : Below w.heap.size w w') : Below a.heap.size a w' := h.trans (hb.mono h.size)
theorem made_one (W : World) : (Instr.makeSlice 22 (.int .i64 1) (.int .i64 1)).run Tryz.prog W = .ok (.slice (some ⟨W.heap.size, 0, none⟩) 1 1) (W.alloc (.cells #[.int .i64 0] 2)) := by kernel_rfl
theorem cellB {w w' : World} {p : Addr} {v : Value} (hb : Below w.heap.size w w') (hc : w.cell? p = some v) : w'.cell? p = some v := by
  rw [World.cell?_of_block (w := w) (hb.block p.block (World.block_lt_of_cell? w p hc))]
  exact hc
theorem wf_in64 {z : Int} (h : (Lit.int .i64 z).wf = true) : in64 z := by
  simp only [Lit.wf, IntKind.min, IntKind.max, Bool.and_eq_true] at h
  exact ⟨of_decide_eq_true h.1, of_decide_eq_true h.2⟩
theorem one_num {z : Int} (h : in64 z) : (∀ x ∈ [z], in64 x) ∧ [z].length ≤ 64 := ⟨fun x hx => by simp at hx; subst hx; exact h, by simp⟩
structure NInv (w : World) (E : Nat) (L : List PC) (FV : Array Value) (wr : World) : Prop where
  env : ∃ blk, EnvIn w.heap.size E blk L wr
  bel : Below w.heap.size w wr
  ne : E ≠ w.heap.size
  box : wr.heap[w.heap.size]? = some (.cells FV 32 (0, 0))
theorem NInv.on {w wr w' : World} {E : Nat} {L : List PC} {FV : Array Value} (h : NInv w E L FV wr) (hb : Below wr.heap.size wr w') : NInv w E L FV w' := by
  obtain ⟨⟨blk, h1⟩, h2, h3, h4⟩ := h
  exact ⟨⟨blk, h1.on hb⟩, stepB h2 hb, h3, (hb.block _ (lt_of_block h4)).trans h4⟩
theorem NInv.add {w wr wx : World} {E b : Nat} {L : List PC} {FV : Array Value} (h : NInv w E L FV wr) (hb : Below wr.heap.size wr wx) (hl : L.length ≤ 100000) (s : ByteArray) (hs : s.size ≤ maxLen) (arr : Bool) (v : List Int) (hbw : wr.heap.size ≤ b) (hbb : wx.heap[b]? = some (.cells (numV v) 2 (0, 0))) (hn : (∀ x ∈ v, in64 x) ∧ v.length ≤ 64) {n : Nat} (hvn : v.length = n) :
    Calls Tryz.prog 36 #[.pointer (some ⟨E, 0, none⟩), .agg #[.string s, .bool arr, .slice (some ⟨b, 0, none⟩) n n]] wx fun e w' => e = .returned (.tuple #[]) ∧ NInv w E (L ++ [⟨s.data.toList, arr, v⟩]) FV w' ∧ KeptE E wx w' := by
  subst hvn
  obtain ⟨⟨blk, h1⟩, h2, h3, h4⟩ := h
  have h1' := h1.on hb
  refine (add_any h1' hl s hs arr b v (by have := h2.size; omega) hbb hn (fun k hk e => ?_)).mono ?_
  · have h5 := (h1.bl k _ (List.getElem?_eq_getElem hk)).2
    have := lt_of_block h5
    omega
  · rintro e w' ⟨rfl, g1, g2, g3, g4⟩
    refine ⟨rfl, ⟨⟨_, g1⟩, (stepB h2 hb).trans g2, h3, g3 _ _ _ _ ((hb.block _ (lt_of_block h4)).trans h4) (fun e => h3 e.symm) (by decide)⟩, g3⟩
theorem num_info : (Tryz.prog.info? 2).map (fun i => (i.zero, i.size, i.bytes)) = some (some (.int .i64 0), 1, 8) := by kernel_rfl
theorem made_zeros (n : Nat) : madeCells #[.int .i64 0] n = numV (List.replicate n 0) := by
  apply Array.ext
  · simp [madeCells, numV]
  · intro i h1 h2
    simp [madeCells, numV, Nat.mod_one]
theorem made_n (n : Nat) (hn : n ≤ 64) (W : World) : (Instr.makeSlice 22 (.int .i64 (n : Nat)) (.int .i64 (n : Nat))).run Tryz.prog W = .ok (.slice (some ⟨W.heap.size, 0, none⟩) n n) (W.alloc (.cells (numV (List.replicate n 0)) 2)) := by
  obtain ⟨ei, hin, hz0, hz1, hz2⟩ := info_parts num_info
  have h := run_make (P := Tryz.prog) (w := W) 22 2 ei _ Tryz.underlying22 hin hz0 .i64 .i64 (n : Nat) (n : Nat) (by omega) (by omega) (by rw [hz2]; omega) (by omega)
  rw [hz1, Int.toNat_natCast, Nat.mul_one] at h
  rw [← made_zeros]
  exact h
theorem zeros_in (n : Nat) (hn : n ≤ 64) : (∀ x ∈ List.replicate n (0 : Int), in64 x) ∧ (List.replicate n (0 : Int)).length ≤ 64 := ⟨fun x hx => by rw [List.mem_replicate] at hx; rw [hx.2]; decide, by simpa using hn⟩
set_option maxHeartbeats 8000000 in
set_option maxRecDepth 100000 in
theorem new_any (nm : ByteArray) (pa va aa : Option Addr) (pc vc ac an : Nat) (bv : Value) (ps : List ByteArray) (ds : List (ByteArray × Int)) (zs : List Int) (hps : ps.length ≤ 1000) (hds : ds.length ≤ 1000) (w : World) (hp : StrsAt w pa ps) (hd : DeclsAt w va ds) (hz : RowIn .i64 w aa an zs) (hzl : zs.length = an) :
    Calls Tryz.prog 11 #[.agg #[.string nm, .slice pa ps.length pc, .slice va ds.length vc, bv], .slice aa an ac] w fun e w' => (∃ E blk, e = .returned (.pointer (some ⟨E, 0, none⟩)) ∧ EnvIn w.heap.size E blk (newL ps ds zs) w') ∧ Below w.heap.size w w' := by
  have hmp := @run_mapN Tryz.prog 89 _ _ Tryz.underlying89 ((ps.length : Int) + (ds.length : Int))
  have hsum : IntKind.i64.wrap ((ps.length : Int) + (ds.length : Int)) = (ps.length : Int) + (ds.length : Int) := IntWalk.i64_in _ (by omega)
  obtain ⟨ei, hin, hz0, hz1, hz2⟩ := info_parts cell_info
  have hmk : ∀ W : World, (Instr.makeSlice 66 (.int .i64 0) (.int .i64 ((ps.length : Int) + (ds.length : Int)))).run Tryz.prog W = .ok (.slice (some ⟨W.heap.size, 0, none⟩) 0 (ps.length + ds.length)) (W.alloc (.cells (madeCells #[.string { data := #[] }, .bool false, .slice none 0 0] ((ps.length + ds.length) * 3)) 75)) := fun W => by
    have h := run_make (P := Tryz.prog) (w := W) 66 75 ei _ Tryz.underlying66 hin hz0 .i64 .i64 0 ((ps.length : Int) + (ds.length : Int)) (by omega) (by omega) (by rw [hz2]; omega) (by omega)
    rw [hz1, show ((ps.length : Int) + (ds.length : Int)).toNat = ps.length + ds.length by omega] at h
    exact h
  have hms : (madeCells #[.string { data := #[] }, .bool false, .slice none 0 0] ((ps.length + ds.length) * 3)).size = (ps.length + ds.length) * 3 := by simp [madeCells]
  generalize madeCells #[.string { data := #[] }, .bool false, .slice none 0 0] ((ps.length + ds.length) * 3) = mc at hmk hms
  have HMS := hid hms
  clear hms hz0 hz1 hz2 hin
  go_enter Tryz.func11, Tryz.ntmps11
  go_wp2
  go_cut [6] (fun y wx => ∃ E, y = .pointer (some ⟨E, 0, none⟩) ∧ w.heap.size ≤ E ∧ EnvIn w.heap.size E (fun _ => 0) [] wx ∧ Below w.heap.size w wx ∧ E ≠ w.heap.size ∧ wx.heap[w.heap.size]? = some (.cells #[.string nm, .slice pa ps.length pc, .slice va ds.length vc, bv] 32 (0, 0)))
  case first =>
    go_region
    all_goals go_wp2
    · go_meet
      refine ⟨w.heap.size + 1 + 1 + 1, rfl, by omega, env_new (g := w.heap.size + 1) (M := w.heap.size + 1 + 1) (cap := ps.length + ds.length) (mc := mc) ?_ ?_ HMS.out (by unfold maxLen; omega) ?_ (by omega) (by omega) (by omega), ?_, by omega, ?_⟩
      · (repeat' (first | (with_reducible refine bk_new' _ ?_; simp; done) | with_reducible apply bk_old | with_reducible apply hp_drew))
      · (repeat' (first | (with_reducible refine bk_new' _ ?_; simp; done) | with_reducible apply bk_old | with_reducible apply hp_drew))
      · exact (map_new' (by simp)).alloc _
      · repeat' (first | with_reducible exact Below.refl _ _ | with_reducible refine Below.alloc ?_ ?_ _ | with_reducible refine Below.drew ?_ | (simp; done) | (simp; omega))
      · (repeat' (first | (with_reducible refine bk_new' _ ?_; simp; done) | with_reducible apply bk_old | with_reducible apply hp_drew))
    · go_meet
      refine ⟨w.heap.size + 1 + 1 + 1, rfl, by omega, env_new (g := w.heap.size + 1 + 1) (M := w.heap.size + 1) (cap := ps.length + ds.length) (mc := mc) ?_ ?_ HMS.out (by unfold maxLen; omega) ?_ (by omega) (by omega) (by omega), ?_, by omega, ?_⟩
      · (repeat' (first | (with_reducible refine bk_new' _ ?_; simp; done) | with_reducible apply bk_old | with_reducible apply hp_drew))
      · (repeat' (first | (with_reducible refine bk_new' _ ?_; simp; done) | with_reducible apply bk_old | with_reducible apply hp_drew))
      · exact ((map_new' (by simp)).alloc _).alloc _
      · repeat' (first | with_reducible exact Below.refl _ _ | with_reducible refine Below.alloc ?_ ?_ _ | with_reducible refine Below.drew ?_ | (simp; done) | (simp; omega))
      · (repeat' (first | (with_reducible refine bk_new' _ ?_; simp; done) | with_reducible apply bk_old | with_reducible apply hp_drew))
  case rest =>
    obtain ⟨E, rfl, hBE, hE, hb, hne, hF⟩ := hcut
    have hN : NInv w E (parsL zs 0 (ps.take 0)) #[.string nm, .slice pa ps.length pc, .slice va ds.length vc, bv] _ := ⟨⟨_, hE⟩, hb, hne, hF⟩
    have f1 := bk_cell (k := 1) hF rfl
    have HN := hid hN
    clear hN hE hb hF hmk HMS hsum hmp
    go_wp2
    go_loopw [7, 8, 9, 28] (fun _ _ _ i wr => ∃ k : Nat, k ≤ ps.length ∧ i = .int .i64 k ∧ NInv w E (parsL zs 0 (ps.take k)) #[.string nm, .slice pa ps.length pc, .slice va ds.length vc, bv] wr) (fun _ _ _ i _ => ps.length - (intOf i).toNat)
    case atStart => exact ⟨0, Nat.zero_le _, rfl, HN.out⟩
    case round =>
      obtain ⟨k, hk, rfl, hI⟩ := hrel
      by_cases hlt : k < ps.length
      · obtain ⟨pb, po, rfl, hpc, hps⟩ := hp k ps[k] (List.getElem?_eq_getElem hlt)
        have p0 := cellB hI.bel hpc
        have HI := hid hI
        have HS := hid hps
        have hpb := World.block_lt_of_cell? _ _ p0
        simp only at hpb
        have HL : Hid ((parsL zs 0 (ps.take k)).length ≤ 100000) := hid (by rw [parsL_len]; simp; omega)
        have HE : Hid (parsL zs 0 (ps.take (k + 1)) = parsL zs 0 (ps.take k) ++ [⟨ps[k].data.toList, false, [zs.getD k 0]⟩]) := hid (by rw [parsL_take zs ps 0 k hlt, Nat.zero_add]; rfl)
        have hm1 := made_one
        by_cases hka : k < an
        · obtain ⟨ab, ao, rfl, -, hcc⟩ := hz.2 (by omega)
          obtain ⟨hc0, hw0⟩ := hcc k hka
          have a0 := cellB hI.bel hc0
          have HW := hid hw0
          have hab := World.block_lt_of_cell? _ _ a0
          simp only at hab
          generalize zs.getD k 0 = z at a0 HW HE
          generalize ps[k] = s at *
          go_wp2
          go_region
          all_goals go_wp2_with (go_at_call 36; refine (HI.out.add (by repeat' (first | with_reducible exact Below.refl _ _ | with_reducible refine Below.alloc ?_ ?_ _ | with_reducible refine Below.drew ?_ | with_reducible refine Below.setCell ?_ ?_ _ | (simp; done) | (simp; omega))) HL.out s HS.out false [z] (Nat.le_refl _) (hp_drew (bk_old _ (bk_new wr _))) (one_num (wf_in64 HW.out)) rfl).mono ?_; rintro e w2 ⟨rfl, hN, -⟩; have HN2 := hid hN; clear hN)
          all_goals
            go_round
            case rel => exact ⟨k + 1, by omega, by go_num, by rw [HE.out]; exact HN2.out⟩
            case measure => simp [intOf]; omega
        · have hz0 : zs.getD k 0 = 0 := by simp [List.getD, List.getElem?_eq_none (show zs.length ≤ k by omega)]
          rw [hz0] at HE
          clear hz0
          generalize ps[k] = s at *
          go_wp2_with (go_at_call 36; refine (HI.out.add (by repeat' (first | with_reducible exact Below.refl _ _ | with_reducible refine Below.alloc ?_ ?_ _ | with_reducible refine Below.drew ?_ | with_reducible refine Below.setCell ?_ ?_ _ | (simp; done) | (simp; omega))) HL.out s HS.out false [0] (Nat.le_refl _) (bk_old _ (bk_new wr _)) (one_num (by decide)) rfl).mono ?_; rintro e w2 ⟨rfl, hN, -⟩; have HN2 := hid hN; clear hN)
          go_round
          case rel => exact ⟨k + 1, by omega, by go_num, by rw [HE.out]; exact HN2.out⟩
          case measure => simp [intOf]; omega
      · obtain rfl : k = ps.length := by omega
        rw [List.take_length] at hI
        have hF := hI.box
        have f2 := bk_cell (k := 2) hF rfl
        have HI := hid hI
        clear hI hF hz hp hk hlt
        go_wp2
        go_loopw [11, 54] (fun _ i wr => ∃ k : Nat, k ≤ ds.length ∧ i = .int .i64 k ∧ NInv w E (parsL zs 0 ps ++ (ds.take k).map varC) #[.string nm, .slice pa ps.length pc, .slice va ds.length vc, bv] wr) (fun _ i _ => ds.length - (intOf i).toNat)
        case atStart => exact ⟨0, Nat.zero_le _, rfl, by simpa using HI.out⟩
        case round =>
          obtain ⟨k, hk, rfl, hI⟩ := hrel
          by_cases hlt : k < ds.length
          · obtain ⟨db, dof, rfl, hc0, hc1, hss⟩ := hd k ds[k] (List.getElem?_eq_getElem hlt)
            have p0 := cellB hI.bel hc0
            have p1 := cellB hI.bel hc1
            have hdb := World.block_lt_of_cell? _ _ p0
            simp only at hdb
            have HI := hid hI
            have HS := hid hss
            have HL : Hid ((parsL zs 0 ps ++ (ds.take k).map varC).length ≤ 100000) := hid (by rw [List.length_append, parsL_len]; simp; omega)
            have HE : Hid (parsL zs 0 ps ++ (ds.take (k + 1)).map varC = (parsL zs 0 ps ++ (ds.take k).map varC) ++ [varC ds[k]]) := hid (by rw [List.take_succ_eq_append_getElem hlt, List.map_append, List.append_assoc]; rfl)
            generalize ds[k] = d at *
            obtain ⟨s, z⟩ := d
            simp only at p0 p1 HS
            have hrn := roomN_le z
            have HR : Hid (∀ W, Calls Tryz.prog 37 #[.int .i64 z] W fun e w' => e = .returned (.int .i64 (roomN z : Nat)) ∧ w' = W) := hid (room_any z)
            have hmk := made_n (roomN z) hrn
            have HV : Hid (varC (s, z) = ⟨s.data.toList, decide (0 < z), List.replicate (roomN z) 0⟩) := hid rfl
            generalize roomN z = n at *
            have q0 : ((wr.alloc (.cells #[.string s, .int .i64 z] 88)).drew).cell? ⟨wr.heap.size, 0, none⟩ = some (.string s) := bk_cell (hp_drew (bk_new wr _)) rfl
            have q1 : ((wr.alloc (.cells #[.string s, .int .i64 z] 88)).drew).cell? ⟨wr.heap.size, 1, none⟩ = some (.int .i64 z) := bk_cell (hp_drew (bk_new wr _)) rfl
            have hwb : Below wr.heap.size wr (((wr.alloc (.cells #[.string s, .int .i64 z] 88)).drew).alloc (.cells (numV (List.replicate n 0)) 2)) := (((Below.refl _ _).alloc (Nat.le_refl _) _).drew).alloc (by simp) _
            have hnw : (((wr.alloc (.cells #[.string s, .int .i64 z] 88)).drew).alloc (.cells (numV (List.replicate n 0)) 2)).heap[wr.heap.size + 1]? = some (.cells (numV (List.replicate n 0)) 2 (0, 0)) := bk_new' _ (by simp)
            have hbx : (((wr.alloc (.cells #[.string s, .int .i64 z] 88)).drew).alloc (.cells (numV (List.replicate n 0)) 2)).heap[wr.heap.size]? = some (.cells #[.string s, .int .i64 z] 88 (0, 0)) := bk_old _ (hp_drew (bk_new wr _))
            have hen : wr.heap.size ≠ E := by
              obtain ⟨blk, h9⟩ := hI.env
              have := h9.lt
              omega
            have HWB := hid (And.intro hwb hnw)
            have HBX := hid (And.intro hbx hen)
            clear hwb hnw hbx hen
            clear hI hc0 hc1 hss
            go_wp2
            go_region_held3 (fun W => W.cell? ⟨wr.heap.size, 0, none⟩ = some (.string s) ∧ W.cell? ⟨wr.heap.size, 1, none⟩ = some (.int .i64 z)) (go_keep) (first
              | (go_at_call 37; ((with_reducible refine (HR.out _).mono ?_); rintro e w1 ⟨rfl, rfl⟩))
              | (go_at_call 36; refine (HI.out.add HWB.out.1 HL.out s HS.out (decide (0 < z)) (List.replicate n 0) (Nat.le_succ _) HWB.out.2 (zeros_in n hrn) (List.length_replicate)).mono ?_; rintro e w2 ⟨rfl, hN, hkk⟩; have HN2 := hid hN; have hbz := hkk _ _ _ _ HBX.out.1 HBX.out.2 (by decide); have q0 := bk_cell (k := 0) hbz rfl; have q1 := bk_cell (k := 1) hbz rfl; clear hN hkk hbz))
            go_wp2
            go_round
            case rel => exact ⟨k + 1, by omega, by go_num, by rw [HE.out, HV.out]; exact HN2.out⟩
            case measure => simp [intOf]; omega
          · obtain rfl : k = ds.length := by omega
            rw [List.take_length] at hI
            obtain ⟨blk, hE⟩ := hI.env
            have HX := hid (And.intro hE hI.bel)
            clear hE hI
            go_wp2
            go_ret
            exact ⟨⟨E, blk, rfl, HX.out.1⟩, HX.out.2⟩
end Go.Proofs.YtdaklmbifkehpaaGreatDoor.Ev

set_option linter.unusedSimpArgs false
set_option linter.unusedVariables false
namespace Go.Proofs.YtdaklmbifkehpaaGreatDoor.Ev
open Go Go.RowKit Go.Proofs.YtdaklmbifkehpaaGreatDoor
open Go.Lib (hid)

theorem own_cells {w : World} {B n sz : Nat} {e : TypeId} {ao : Option Addr} {cap : Nat} {xs : List Value} (h : w.ownsRow B e sz (.slice ao n cap) n xs) : (ao = none ∧ cap = 0 ∧ n = 0 ∧ xs = []) ∨ ∃ g, ao = some ⟨g, 0, none⟩ ∧ g < w.heap.size ∧ ∀ j u, xs[j]? = some u → w.cell? ⟨g, j, none⟩ = some u := by
  rcases h.2 with ⟨e1, h0⟩ | ⟨g, cap', cur, e1, hg, hb, _⟩
  · left
    simp only [Value.slice.injEq] at e1
    have := h.1
    rw [h0] at this
    exact ⟨e1.1, e1.2.2, h0, List.eq_nil_of_length_eq_zero (by simpa using this)⟩
  · right
    simp only [Value.slice.injEq] at e1
    obtain ⟨rfl, -, rfl⟩ := e1
    refine ⟨g, rfl, lt_of_block hb, fun j u hj => ?_⟩
    have := h.cells (g := g) rfl j u hj
    rwa [add_zero'] at this
set_option maxHeartbeats 4000000 in
set_option maxRecDepth 100000 in
theorem clone_cells {B n : Nat} {ao : Option Addr} {cap : Nat} {xs : List Value} {w : World} (h : w.ownsRow B 75 3 (.slice ao n cap) n xs) (hn : n ≤ 100000) (h1 : ∀ u ∈ xs, u.oneCell' = true) :
    Calls Tryz.prog 46 #[.slice ao n cap] w fun e w' => ∃ v, e = .returned v ∧ w'.ownsRow w.heap.size 75 3 v n xs ∧ Below w.heap.size w w' := by
  rcases own_cells h with ⟨rfl, rfl, rfl, rfl⟩ | ⟨g, rfl, hg, hc⟩
  · clear h
    have hq := fun W : World => Lib.run_eql_slice_nil (P := Tryz.prog) W 66 _ none 0 0 0 0 Tryz.underlying66
    simp only [Option.isNone_none] at hq
    go_enter Tryz.func46, Tryz.ntmps46
    go_wp2
    go_ret
    exact ⟨_, rfl, World.ownsRow_nil _ _ _ _, Below.refl _ _⟩
  · obtain ⟨ei, hin, hz0, hz1, hz2⟩ := info_parts cell_info
    have hc2 : ∀ j u, xs[j]? = some u → (w.alloc (.cells #[] 75)).cell? ((⟨g, 0, none⟩ : Addr).add j) = some u := fun j u hj => by
      rw [add_zero', World.cell?_alloc_lt _ _ _ (by exact hg)]
      exact hc j u hj
    have h0 : (w.alloc (.cells #[] 75)).ownsRow w.heap.size 75 3 (.slice (some ⟨w.heap.size, 0, none⟩) 0 0) 0 [] := ⟨rfl, .inr ⟨w.heap.size, 0, #[], rfl, Nat.le_refl _, bk_new w _, Nat.le_refl _, Nat.zero_le _, rfl, rfl⟩⟩
    have hl := h.1
    have H0 := hid h0
    have HC := hid hc2
    have HL := hid hl
    have HN := hid hn
    have HO := hid h1
    have hq := fun W : World => Lib.run_eql_slice_nil (P := Tryz.prog) W 66 _ (some ⟨g, 0, none⟩) n cap 0 0 Tryz.underlying66
    simp only [Option.isNone_some] at hq
    clear h h0 hc hc2 hl hn h1
    go_enter Tryz.func46, Tryz.ntmps46
    go_wp2_with (at_builtin; refine wpList_append_own _ rfl _ _ 66 rfl w.heap.size 75 ei _ 3 48 Tryz.underlying66 hin hz0 hz1 hz2 rfl (by decide) _ _ _ rfl H0.out ⟨g, 0, none⟩ n cap xs rfl HL.out HC.out HO.out ?c1 ?c2 ?c3 ?_)
    case c1 => have := HN.out; unfold maxLen; omega
    case c2 => have := HN.out; omega
    case c3 => simp
    intro v' w2 hown hgrow _
    have hX := hid (And.intro hown hgrow)
    clear hown hgrow
    go_wp2
    go_ret
    obtain ⟨ho, hgr⟩ := hX.out
    exact ⟨v', rfl, ho, ((Below.refl _ _).alloc (Nat.le_refl _) _).grown hgr (by simp) (fun k hk => by simp [Value.ownBlock] at hk; omega)⟩
set_option maxHeartbeats 4000000 in
set_option maxRecDepth 100000 in
theorem clone_nums {B n : Nat} {ao : Option Addr} {cap : Nat} {xs : List Value} {w : World} (h : w.ownsRow B 2 1 (.slice ao n cap) n xs) (hn : n ≤ 100000) (h1 : ∀ u ∈ xs, u.oneCell' = true) :
    Calls Tryz.prog 47 #[.slice ao n cap] w fun e w' => ∃ v, e = .returned v ∧ w'.ownsRow w.heap.size 2 1 v n xs ∧ Below w.heap.size w w' := by
  rcases own_cells h with ⟨rfl, rfl, rfl, rfl⟩ | ⟨g, rfl, hg, hc⟩
  · clear h
    have hq := fun W : World => Lib.run_eql_slice_nil (P := Tryz.prog) W 22 _ none 0 0 0 0 Tryz.underlying22
    simp only [Option.isNone_none] at hq
    go_enter Tryz.func47, Tryz.ntmps47
    go_wp2
    go_ret
    exact ⟨_, rfl, World.ownsRow_nil _ _ _ _, Below.refl _ _⟩
  · obtain ⟨ei, hin, hz0, hz1, hz2⟩ := info_parts num_info
    have hc2 : ∀ j u, xs[j]? = some u → (w.alloc (.cells #[] 2)).cell? ((⟨g, 0, none⟩ : Addr).add j) = some u := fun j u hj => by
      rw [add_zero', World.cell?_alloc_lt _ _ _ (by exact hg)]
      exact hc j u hj
    have h0 : (w.alloc (.cells #[] 2)).ownsRow w.heap.size 2 1 (.slice (some ⟨w.heap.size, 0, none⟩) 0 0) 0 [] := ⟨rfl, .inr ⟨w.heap.size, 0, #[], rfl, Nat.le_refl _, bk_new w _, Nat.le_refl _, Nat.zero_le _, rfl, rfl⟩⟩
    have hl := h.1
    have H0 := hid h0
    have HC := hid hc2
    have HL := hid hl
    have HN := hid hn
    have HO := hid h1
    have hq := fun W : World => Lib.run_eql_slice_nil (P := Tryz.prog) W 22 _ (some ⟨g, 0, none⟩) n cap 0 0 Tryz.underlying22
    simp only [Option.isNone_some] at hq
    clear h h0 hc hc2 hl hn h1
    go_enter Tryz.func47, Tryz.ntmps47
    go_wp2_with (at_builtin; refine wpList_append_own _ rfl _ _ 22 rfl w.heap.size 2 ei _ 1 8 Tryz.underlying22 hin hz0 hz1 hz2 rfl (by decide) _ _ _ rfl H0.out ⟨g, 0, none⟩ n cap xs rfl HL.out HC.out HO.out ?c1 ?c2 ?c3 ?_)
    case c1 => have := HN.out; unfold maxLen; omega
    case c2 => have := HN.out; omega
    case c3 => simp
    intro v' w2 hown hgrow _
    have hX := hid (And.intro hown hgrow)
    clear hown hgrow
    go_wp2
    go_ret
    obtain ⟨ho, hgr⟩ := hX.out
    exact ⟨v', rfl, ho, ((Below.refl _ _).alloc (Nat.le_refl _) _).grown hgr (by simp) (fun k hk => by simp [Value.ownBlock] at hk; omega)⟩
def toldRow (vs : Nat → Value) : Nat → List PC → List Value
  | _, [] => []
  | k, c :: l => .string ⟨c.name.toArray⟩ :: .bool c.arr :: vs k :: toldRow vs (k + 1) l
theorem toldRow_at (vs : Nat → Value) : ∀ (l : List PC) (k m : Nat) (c : PC), l[m]? = some c → (toldRow vs k l)[m * 3]? = some (.string ⟨c.name.toArray⟩) ∧ (toldRow vs k l)[m * 3 + 1]? = some (.bool c.arr) ∧ (toldRow vs k l)[m * 3 + 2]? = some (vs (k + m))
  | c :: l, k, 0, d, h => by cases h; exact ⟨rfl, rfl, rfl⟩
  | c :: l, k, m + 1, d, h => by
    have := toldRow_at vs l (k + 1) m d h
    rw [show (m + 1) * 3 = m * 3 + 1 + 1 + 1 by omega]
    simp only [toldRow, List.getElem?_cons_succ]
    rw [show k + (m + 1) = k + 1 + m by omega]
    exact this
theorem toldRow_eq {vs vs' : Nat → Value} : ∀ (l : List PC) (k : Nat), (∀ m, k ≤ m → m < k + l.length → vs m = vs' m) → toldRow vs k l = toldRow vs' k l
  | [], k, _ => rfl
  | c :: l, k, h => by
    rw [toldRow, toldRow, h k (Nat.le_refl _) (by simp), toldRow_eq l (k + 1) (fun m h1 h2 => h m (by omega) (by rw [List.length_cons]; omega))]
theorem toldRow_set (vs : Nat → Value) (u : Value) : ∀ (l : List PC) (k m : Nat), m < l.length → (toldRow vs k l).set (m * 3 + 2) u = toldRow (fun j => if j = k + m then u else vs j) k l
  | c :: l, k, 0, _ => by
    rw [toldRow, toldRow]
    simp only [Nat.zero_mul, Nat.zero_add, List.set_cons_succ, List.set_cons_zero, Nat.add_zero, if_pos]
    rw [toldRow_eq l (k + 1) (vs := vs) (vs' := fun j => if j = k then u else vs j) (fun m h1 _ => by rw [if_neg (by omega)])]
  | c :: l, k, m + 1, h => by
    have := toldRow_set vs u l (k + 1) m (by simpa using h)
    rw [show (m + 1) * 3 + 2 = (m * 3 + 2) + 1 + 1 + 1 by omega]
    simp only [toldRow, List.set_cons_succ]
    rw [this, if_neg (by omega)]
    rw [show k + 1 + m = k + (m + 1) by omega]
theorem rowOf_told {blk : Nat → Nat} {vs : Nat → Value} : ∀ (l : List PC) (k : Nat), (∀ m c, l[m]? = some c → vs (k + m) = .slice (some ⟨blk (k + m), 0, none⟩) c.v.length c.v.length) → rowOf blk k l = toldRow vs k l
  | [], k, _ => rfl
  | c :: l, k, h => by
    have h0 := h 0 c rfl
    rw [Nat.add_zero] at h0
    rw [rowOf, toldRow, h0, rowOf_told l (k + 1) (fun m d hd => by have := h (m + 1) d hd; rwa [show k + (m + 1) = k + 1 + m by omega] at this)]
theorem own_base {w : World} {B B' n sz : Nat} {e : TypeId} {v : Value} {xs : List Value} (h : w.ownsRow B e sz v n xs) (hB : B' ≤ B) : w.ownsRow B' e sz v n xs := by
  refine ⟨h.1, ?_⟩
  rcases h.2 with h0 | ⟨g, cap, cur, h1, h2, h3⟩
  · exact .inl h0
  · exact .inr ⟨g, cap, cur, h1, by omega, h3⟩
theorem own_set {w : World} {B n sz g cap j : Nat} {e : TypeId} {xs : List Value} (h : w.ownsRow B e sz (.slice (some ⟨g, 0, none⟩) n cap) n xs) (hj : j < n * sz) (u : Value) : (w.setCell ⟨g, j, none⟩ u).ownsRow B e sz (.slice (some ⟨g, 0, none⟩) n cap) n (xs.set j u) := by
  refine ⟨by rw [List.length_set]; exact h.1, ?_⟩
  rcases h.2 with ⟨h0, -⟩ | ⟨g', cap', cur, h1, h2, h3, h4, h5, h6, h7⟩
  · cases h0
  · simp only [Value.slice.injEq, Option.some.injEq, Addr.mk.injEq, and_true, true_and] at h1
    obtain ⟨rfl, rfl⟩ := h1
    refine .inr ⟨g, cap, cur.setIfInBounds j u, rfl, h2, bk_set _ h3, h4, h5, by simpa using h6, ?_⟩
    rw [Array.toList_setIfInBounds, List.take_set, h7]
theorem own_form {w : World} {B n sz : Nat} {e : TypeId} {v : Value} {xs : List Value} (h : w.ownsRow B e sz v n xs) : ∃ ao cap, v = .slice ao n cap := by
  rcases h.2 with ⟨e, h9⟩ | ⟨g, cap, cur, e, _⟩
  · exact ⟨none, 0, by rw [e, h9]⟩
  · exact ⟨_, _, e⟩
theorem own_free {w : World} {B n sz g cap : Nat} {e : TypeId} {xs : List Value} (h : w.ownsRow B e sz (.slice (some ⟨g, 0, none⟩) n cap) n xs) (j : Nat) : w.frozen? ⟨g, j, none⟩ = false := by
  rcases h.2 with ⟨h0, -⟩ | ⟨g', cap', cur, h1, h2, h3, -⟩
  · cases h0
  · simp only [Value.slice.injEq, Option.some.injEq, Addr.mk.injEq, and_true, true_and] at h1
    obtain ⟨rfl, rfl⟩ := h1
    exact bk_free h3
theorem own_on {w w' : World} {B n sz : Nat} {e : TypeId} {v : Value} {xs : List Value} (h : w.ownsRow B e sz v n xs) (hb : Below w.heap.size w w') : w'.ownsRow B e sz v n xs :=
  h.kept (row := none) ⟨hb.os, hb.tape, hb.output, hb.size, fun k hk _ => hb.block k hk⟩ (Classical.em _)
theorem own_nums {w : World} {b : Nat} {v : List Int} (h : w.heap[b]? = some (.cells (numV v) 2 (0, 0))) (hv : v.length ≤ 64) : w.ownsRow b 2 1 (.slice (some ⟨b, 0, none⟩) v.length v.length) v.length (v.map (Value.int .i64)) :=
  ⟨by simp, .inr ⟨b, v.length, numV v, rfl, Nat.le_refl _, h, Nat.le_refl _, by unfold maxLen; omega, by simp [numV], by simp [numV, List.take_of_length_le]⟩⟩
theorem own_lt {w : World} {B n sz b : Nat} {e : TypeId} {v : Value} {xs : List Value} (h : w.ownsRow B e sz v n xs) (hb : v.ownBlock = some b) : B ≤ b ∧ b < w.heap.size := by
  rcases h.2 with ⟨rfl, -⟩ | ⟨g, cap, cur, rfl, h2, h3, -⟩
  · cases hb
  · simp only [Value.ownBlock, Option.some.injEq] at hb
    subst hb
    exact ⟨h2, lt_of_block h3⟩
theorem own_far {w : World} {B n sz g B' n' sz' cap : Nat} {e e' : TypeId} {v : Value} {xs xs' : List Value} (h : w.ownsRow B e sz v n xs) (hg : w.ownsRow B' e' sz' (.slice (some ⟨g, 0, none⟩) n' cap) n' xs') (he : e' ≠ e) (j : Nat) (u : Value) : (w.setCell ⟨g, j, none⟩ u).ownsRow B e sz v n xs := by
  refine h.kept (row := some g) ⟨rfl, rfl, rfl, by simp [World.setCell], fun q _ hq => Below.heap_setCell _ _ _ _ (fun e => hq (by simp [e]))⟩ (.inr ?_)
  rcases hg.2 with ⟨h0, -⟩ | ⟨g', cap', cur, h1, h2, h3, -⟩
  · cases h0
  · simp only [Value.slice.injEq, Option.some.injEq, Addr.mk.injEq, and_true, true_and] at h1
    obtain ⟨rfl, rfl⟩ := h1
    exact own_ne h h3 he
structure Told (B : Nat) (blk : Nat → Nat) (L : List PC) (k : Nat) (v : Value) (W : World) : Prop where
  row : ∃ vs, W.ownsRow B 75 3 v L.length (toldRow vs 0 L) ∧ (∀ m c, L[m]? = some c → m < k → W.ownsRow B 2 1 (vs m) c.v.length (c.v.map (Value.int .i64)) ∧ (∀ j d, L[j]? = some d → j < k → j ≠ m → (vs j).ownBlock = none ∨ (vs j).ownBlock ≠ (vs m).ownBlock)) ∧ ∀ m c, L[m]? = some c → k ≤ m → vs m = .slice (some ⟨blk m, 0, none⟩) c.v.length c.v.length
theorem row_one {blk : Nat → Nat} : ∀ (L : List PC) (k : Nat), ∀ u ∈ rowOf blk k L, u.oneCell' = true
  | [], k => by simp [rowOf]
  | c :: l, k => by
    intro u hu
    simp only [rowOf, List.mem_cons] at hu
    rcases hu with rfl | rfl | rfl | hu
    · rfl
    · rfl
    · rfl
    · exact row_one l (k + 1) u hu
theorem Told.on {B k : Nat} {blk : Nat → Nat} {L : List PC} {v : Value} {W W' : World} (h : Told B blk L k v W) (hb : Below W.heap.size W W') : Told B blk L k v W' := by
  obtain ⟨vs, h1, h2, h3⟩ := h
  exact ⟨vs, own_on h1 hb, fun m c hm hk => ⟨own_on (h2 m c hm hk).1 hb, (h2 m c hm hk).2⟩, h3⟩
set_option maxHeartbeats 8000000 in
set_option maxRecDepth 100000 in
theorem cells_any {B E : Nat} {blk : Nat → Nat} {L : List PC} {w : World} (h : EnvIn B E blk L w) (hl : L.length ≤ 10000) :
    Calls Tryz.prog 28 #[.pointer (some ⟨E, 0, none⟩)] w fun e w' => ∃ ao cap, e = .returned (.slice ao L.length cap) ∧ Told w.heap.size blk L L.length (.slice ao L.length cap) w' ∧ Below w.heap.size w w' := by
  obtain ⟨u, M, h1, h0, h2, h3⟩ := h.cel
  obtain ⟨uo, uc, rfl⟩ := own_form h2
  have c0 := bk_cell (k := 0) h1 rfl
  have HC := hid (clone_cells h2 (by omega) (row_one L 0))
  have HE := hid h
  have HLn := hid hl
  clear h1 h0 h2 h3 h
  go_enter Tryz.func28, Tryz.ntmps28
  go_wp2_with (go_at_call 46; refine HC.out.mono ?_; rintro e w1 ⟨v, rfl, hv, hb⟩; obtain ⟨ao, cap, rfl⟩ := own_form hv; have HV := hid hv; have HB := hid hb; clear hv hb)
  go_loopw [4, 5, 13] (fun _ _ i wr => ∃ k : Nat, k ≤ L.length ∧ i = .int .i64 k ∧ Told w.heap.size blk L k (.slice ao L.length cap) wr ∧ Below w.heap.size w wr) (fun _ _ i _ => L.length - (intOf i).toNat)
  case atStart =>
    refine ⟨0, Nat.zero_le _, rfl, ⟨fun m => match L[m]? with | some c => .slice (some ⟨blk m, 0, none⟩) c.v.length c.v.length | none => undef, ?_, fun m c _ hk => absurd hk (Nat.not_lt_zero _), fun m c hm _ => by simp only [hm]⟩, HB.out⟩
    rw [← rowOf_told (blk := blk) L 0 (fun m c hm => by simp only [Nat.zero_add, hm])]
    exact HV.out
  case round =>
    obtain ⟨k, hk, rfl, hT, hB⟩ := hrel
    by_cases hlt : k < L.length
    · obtain ⟨c, hc⟩ : ∃ c, L[k]? = some c := ⟨_, List.getElem?_eq_getElem hlt⟩
      obtain ⟨vs, r1, r2, r3⟩ := hT
      rcases own_cells r1 with ⟨-, -, e0, -⟩ | ⟨g, rfl, hg, hcl⟩
      · omega
      obtain ⟨t0, t1, t2⟩ := toldRow_at vs L 0 k c hc
      rw [Nat.zero_add, r3 k c hc (Nat.le_refl _)] at t2
      have d0 := hcl _ _ t0
      have d1 := hcl _ _ t1
      have d2 := hcl _ _ t2
      have hbl := HE.out.bl k c hc
      have hlc := (HE.out.nums.get hc).2
      have hbw : (wr.alloc (.cells #[.string ⟨c.name.toArray⟩, .bool c.arr, .slice (some ⟨blk k, 0, none⟩) c.v.length c.v.length] 75)).heap[blk k]? = some (.cells (numV c.v) 2 (0, 0)) := bk_old _ ((hB.block _ (lt_of_block hbl.2)).trans hbl.2)
      have HN := hid (clone_nums (own_nums hbw hlc) (by omega) (by intro u hu; rw [List.mem_map] at hu; obtain ⟨x, -, rfl⟩ := hu; rfl))
      have HT := hid (show _ ∧ _ ∧ _ from ⟨r1, r2, r3⟩)
      have HBB := hid hB
      have HBA : Hid (Below wr.heap.size wr (wr.alloc (.cells #[.string ⟨c.name.toArray⟩, .bool c.arr, .slice (some ⟨blk k, 0, none⟩) c.v.length c.v.length] 75))) := hid ((Below.refl _ _).alloc (Nat.le_refl _) _)
      have HCC := hid hc
      have HCL := hid (show g < wr.heap.size ∧ _ from ⟨hg, own_free r1 (k * 3 + 2)⟩)
      clear hbl hbw r1 r2 r3 t0 t1 t2 hcl hB hc
      generalize hvn : c.v.length = n at *
      have HVN := hid hvn
      clear hvn
      go_wp2_with (go_at_call 47; refine HN.out.mono ?_; rintro e w2 ⟨v2, rfl, hv2, hb2⟩; obtain ⟨ao2, cap2, rfl⟩ := own_form hv2; have z0 := cellB hb2 (show (wr.alloc (.cells #[.string ⟨c.name.toArray⟩, .bool c.arr, .slice (some ⟨blk k, 0, none⟩) n n] 75)).cell? ⟨g, k * 3 + 2, none⟩ = _ from (World.cell?_alloc_lt _ _ _ HCL.out.1).trans d2); have zl := World.block_lt_of_cell? _ _ z0; have hrow := own_on (own_on HT.out.1 HBA.out) hb2; have zf := own_free hrow (k * 3 + 2); have HRW := hid hrow; clear hrow; have HV2 := hid hv2; have HB2 := hid hb2; clear hv2 hb2)
      go_round
      case rel =>
        refine ⟨k + 1, by omega, by go_num, ?_, ?_⟩
        · obtain ⟨r1, r2, r3⟩ := HT.out
          have hrow := HRW.out
          have hv2 := HV2.out
          have hba := HBA.out
          have hb2 := HB2.out
          have hsz : w.heap.size ≤ wr.heap.size := HBB.out.size
          have hsz2 : wr.heap.size + 1 = (wr.alloc (.cells #[.string ⟨c.name.toArray⟩, .bool c.arr, .slice (some ⟨blk k, 0, none⟩) n n] 75)).heap.size := by simp
          refine ⟨fun j => if j = 0 + k then .slice ao2 n cap2 else vs j, ?_, fun m d hm hk2 => ⟨?_, fun j d2 hj hjk hne => ?_⟩, fun m d hm hk2 => ?_⟩
          · rw [← toldRow_set vs _ L 0 k hlt]
            exact own_set hrow (by omega) _
          · dsimp only
            by_cases e : m = 0 + k
            · rw [if_pos e]
              have e' : m = k := by omega
              subst e'
              rw [HCC.out] at hm
              cases hm
              rw [HVN.out]
              exact own_far (own_base hv2 (by omega)) hrow (by decide) _ _
            · rw [if_neg e]
              exact own_far (own_on (own_on (r2 m d hm (by omega)).1 hba) hb2) hrow (by decide) _ _
          · have key : ∀ (m : Nat) (d : PC), L[m]? = some d → m < k → (vs m).ownBlock ≠ (Value.slice ao2 n cap2).ownBlock ∨ (vs m).ownBlock = none := by
              intro m d hm hk3
              cases hq : (vs m).ownBlock with
              | none => exact .inr rfl
              | some b =>
                left
                intro e
                have a1 := own_lt (r2 m d hm hk3).1 hq
                have a2 := own_lt hv2 e.symm
                omega
            dsimp only
            by_cases e1 : j = 0 + k
            · by_cases e2 : m = 0 + k
              · omega
              · rw [if_pos e1, if_neg e2]
                rcases key m d hm (by omega) with h | h
                · exact .inr (fun e => h e.symm)
                · cases hq : (Value.slice ao2 n cap2).ownBlock with
                  | none => exact .inl rfl
                  | some b => right; rw [h]; simp
            · by_cases e2 : m = 0 + k
              · rw [if_neg e1, if_pos e2]
                rcases key j d2 hj (by omega) with h | h
                · exact .inr h
                · exact .inl h
              · rw [if_neg e1, if_neg e2]
                exact (r2 m d hm (by omega)).2 j d2 hj (by omega) hne
          · dsimp only
            rw [if_neg (by omega)]
            exact r3 m d hm (by omega)
        · have h9 := own_lt HT.out.1 (b := g) rfl
          exact (stepB (stepB HBB.out HBA.out) HB2.out).setCell (p := ⟨g, k * 3 + 2, none⟩) h9.1 _
      case measure => simp [intOf]; omega
    · obtain rfl : k = L.length := by omega
      have HX := hid (And.intro hT hB)
      clear hT hB
      go_wp2
      go_ret
      exact ⟨ao, cap, rfl, HX.out.1, HX.out.2⟩
end Go.Proofs.YtdaklmbifkehpaaGreatDoor.Ev
