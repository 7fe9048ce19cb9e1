/- What Parse answers of a text: a program of so many functions, or where it is wrong. -/
import Derived.Test.YtgkdoealhbhnmaaGreatDoorPLaid
set_option linter.unusedSimpArgs false
set_option linter.unusedVariables false
namespace Go.Proofs.YtgkdoealhbhnmaaGreatDoor.Pm
open Go Go.RowKit Go.Proofs.YtgkdoealhbhnmaaGreatDoor

theorem parse_some {w : World} (H : Wo w) (m : Nat) (sb : ByteArray) {l : List UInt8} {q : List RF} {mo : Nat} (hs : sb.data.toList = l) (hl : l.length ≤ 8192) (ev : parseF m l = .ok q mo) : Calls Tryz.prog 13 #[.string sb] w fun e w' => Below w.heap.size w w' ∧ ∃ a c, e = .returned (.tuple #[.agg #[.slice a q.length c], .int .i64 (l.length : Nat), .int .i64 0]) := by
  subst hs
  refine (pParse_any m sb hl H.er (finA_ok ev)).mono ?_
  intro e w' hq
  have ev' : parseF m sb.data.toList = .ok q mo := ev
  rw [ev'] at hq
  obtain ⟨hb, v, rfl, a, c, l, rfl, h1, -⟩ := hq
  refine ⟨hb, a, c, ?_⟩
  rw [show q.length = l.length by rw [← h1, List.length_map]]
theorem parse_none {w : World} (H : Wo w) (m : Nat) (sb : ByteArray) {l : List UInt8} {p n : Nat} (hs : sb.data.toList = l) (hl : l.length ≤ 8192) (ev : parseF m l = .bad p n) (hn : n ≠ 99) : Calls Tryz.prog 13 #[.string sb] w fun e w' => Below w.heap.size w w' ∧ e = .returned (.tuple #[.agg #[.slice none 0 0], .int .i64 (p : Nat), .int .i64 (n : Nat)]) := by
  subst hs
  refine (pParse_any m sb hl H.er (finA_bad ev hn)).mono ?_
  intro e w' hq
  have ev' : parseF m sb.data.toList = .bad p n := ev
  rw [ev'] at hq
  exact ⟨hq.1, hq.2⟩
end Go.Proofs.YtgkdoealhbhnmaaGreatDoor.Pm
