/- A program by its parts: one that the feed makes. -/
import Derived.Test.YtppeogcpoplpeaaGreatDoorTFeedP
set_option linter.unusedSimpArgs false
set_option linter.unusedVariables false
namespace Go.Proofs.YtppeogcpoplpeaaGreatDoor
open Go Go.RowKit

theorem RowIn.on {k : IntKind} {w w' : World} {a : Option Addr} {n : Nat} {zs : List Int} (r : RowIn k w a n zs) (h : Below w.heap.size w w') : RowIn k w' a n zs := by
  refine ⟨r.1, fun hp => ?_⟩
  obtain ⟨b, off, e, hb, hc⟩ := r.2 hp
  refine ⟨b, off, e, Nat.lt_of_lt_of_le hb h.size, fun i hi => ⟨?_, (hc i hi).2⟩⟩
  rw [World.cell?_of_block (w := w) (h.block b hb)]
  exact (hc i hi).1
set_option maxHeartbeats 2000000 in
set_option maxRecDepth 100000 in
theorem code_any {pa la ga : Option Addr} {pn pc ln gn lc gc : Nat} {zl zg : List Int} (w : World) (hl : RowIn .u8 w la ln zl) (hg : RowIn .u8 w ga gn zg) (hgc : gn ≤ gc) :
    Calls Tryz.prog 10 #[.agg #[.slice pa pn pc, .bool true, .slice la ln lc, .slice ga gn gc]] w (MadeP w) := by
  have HL := Lib.hid hl
  have HG := Lib.hid hg
  clear hl hg
  go_enter Tryz.func10, Tryz.ntmps10
  go_upto_region 3 with (fail)
  go_wp2_with (go_at_call 37; refine (made_any _ (HL.out.on ?_) (HG.out.on ?_) hgc).mono ?_; (exact ((Below.refl _ _).alloc (Nat.le_refl _) _).alloc (by simp) _); (exact ((Below.refl _ _).alloc (Nat.le_refl _) _).alloc (by simp) _); rintro e w2 ⟨N, qa, va, pb, vb, vc, l1, l2, l3, a1, a2, a3, c1, c2, c3, rfl, hin, g1, g2, g3, hbel⟩; have hr : w2.heap[w.heap.size + 1]? = some (.cells #[.slice none 0 0] 24 (0, 0)) := (hbel.block (w.heap.size + 1) (by simp)).trans (bk_new' _ (by simp)); have x0 := bk_cell (k := 0) hr rfl; have y0 := bk_free (k := 0) hr; have hlt : w.heap.size + 1 < w2.heap.size := lt_of_block hr; have HIN := Lib.hid (And.intro hin (And.intro g1 (And.intro g2 (And.intro g3 hbel)))); clear hin g1 g2 g3 hbel hr)
  refine bodyPost_ret (v := .agg #[.slice (some ⟨N, 0, none⟩) 3 3]) (by simp [results, Tryz.results10, go_sem, *]) rfl ?_
  obtain ⟨hin, g1, g2, g3, hbel⟩ := HIN.out
  have hs := hbel.size
  simp at hs
  refine ⟨N, qa, va, pb, vb, vc, l1, l2, l3, a1, a2, a3, c1, c2, c3, rfl, ?_, g1, g2, g3, ?_⟩
  · refine (hin.keep fun p v hp hc => ?_).mono (by simp; omega)
    rw [World.cell?_of_block (w := w2) (Below.heap_setCell _ _ _ _ (by simp at hp; simp; omega))]
    exact hc
  · exact (step_on (((Below.refl _ _).alloc (Nat.le_refl _) _).alloc (by simp) _) hbel).setCell (by simp) _
end Go.Proofs.YtppeogcpoplpeaaGreatDoor
