/- What the writer's small methods write: text, tabs, tag, name. -/
import Derived.Test.YtkfogoglaiibiaaGreatDoorTWrite
import Derived.Test.YtkfogoglaiibiaaGreatDoorTWord
import Derived.Test.YtkfogoglaiibiaaGreatDoorTName
import Derived.IntWalk
set_option linter.unusedSimpArgs false
set_option linter.unusedVariables false
namespace Go.Proofs.YtkfogoglaiibiaaGreatDoor
open Go Go.RowKit

def catB (ps : List ByteArray) : List UInt8 := ps.flatMap fun s => s.data.toList
theorem catB_take (ps : List ByteArray) (k : Nat) (hk : k < ps.length) : catB (ps.take (k + 1)) = catB (ps.take k) ++ ps[k].data.toList := by
  rw [List.take_succ_eq_append_getElem hk, catB, List.flatMap_append, catB]; simp
theorem catB_take_len (ps : List ByteArray) (k : Nat) : (catB (ps.take k)).length ≤ (catB ps).length := by
  rw [show catB ps = catB (ps.take k) ++ catB (ps.drop k) by rw [catB, catB, catB, ← List.flatMap_append, List.take_append_drop], List.length_append]
  omega

set_option maxHeartbeats 1000000 in
set_option maxRecDepth 100000 in
theorem text_any {B b : Nat} {bs : List UInt8} {k : Int} {w : World} (h : Wr B b bs k w) (q cap : Nat) (ps : List ByteArray) (cs : Array Value) (hq : w.heap[q]? = some (.cells cs 9 (0, 0))) (hcs : cs.toList = ps.map Value.string) (hps : ps.length ≤ 1000) (hlen : bs.length + (catB ps).length ≤ 140737488355328) :
    Calls Tryz.prog 81 #[.pointer (some ⟨b, 0, none⟩), .slice (some ⟨q, 0, none⟩) ps.length cap] w fun e w' => e = .returned (.tuple #[]) ∧ Went B b (bs ++ catB ps) k w w' := by
  have hqb : q ≠ b := by
    intro e
    obtain ⟨_, p, v, _, hb, _⟩ := h
    rw [e, hb] at hq
    simp only [Option.some.injEq, Obj.cells.injEq] at hq
    exact absurd hq.2.1 (by decide)
  have hcell : Hid (∀ (wr : World) (bs' : List UInt8), Went B b bs' k w wr → ∀ i s, ps[i]? = some s → wr.cell? ⟨q, i, none⟩ = some (.string s)) := Lib.hid fun wr bs' hw i s hs => by
    have h1 := hw.keeps q _ hqb hq (fun c f e => by simp only [Obj.cells.injEq] at e; exact absurd e.2.1 (by decide))
    refine bk_cell h1 ?_
    rw [← Array.getElem?_toList, hcs, List.getElem?_map, hs]; rfl
  have hL := Lib.hid hlen
  clear hlen hq hcs hqb
  have hB := Lib.hid h.went
  clear h
  go_enter Tryz.func81, Tryz.ntmps81
  go_wp2
  go_loopw [5, 8] (fun _ i wr => ∃ n : Nat, n ≤ ps.length ∧ i = .int .i64 n ∧ Went B b (bs ++ catB (ps.take n)) k w wr) (fun _ i _ => ps.length - (intOf i).toNat)
  case atStart => exact ⟨0, Nat.zero_le _, rfl, by simpa [catB] using hB.out⟩
  case round =>
    obtain ⟨n, hn, rfl, hw⟩ := hrel
    by_cases hlt : n < ps.length
    · have hc := hcell.out _ _ hw n ps[n] (List.getElem?_eq_getElem hlt)
      have e1 := catB_take ps n hlt
      have l1 := catB_take_len ps (n + 1)
      have hL2 : Hid ((bs ++ catB (ps.take n)).length + ps[n].size ≤ 140737488355328) := Lib.hid (by
        have := hL.out
        rw [e1, List.length_append] at l1
        rw [List.length_append]
        have e2 : ps[n].data.toList.length = ps[n].size := Array.length_toList
        omega)
      have hE := Lib.hid e1
      have hW := Lib.hid hw
      clear e1 l1 hw
      generalize hs : ps[n] = s at hc hL2 hE
      clear hs
      go_wp2_with (go_at_call 107; refine (writeString_any hW.out.wr s hL2.out).mono ?_; rintro e w2 ⟨rfl, hw2⟩)
      have hW2 := Lib.hid (hW.out.trans hw2)
      clear hw2
      go_round
      case rel => exact ⟨n + 1, by omega, by go_num, by rw [hE.out, ← List.append_assoc]; exact hW2.out⟩
      case measure => simp [intOf]; omega
    · obtain rfl : n = ps.length := by omega
      have hW := Lib.hid hw
      clear hw
      go_wp2
      go_end0
      exact ⟨rfl, by have := hW.out; rwa [List.take_length] at this⟩
end Go.Proofs.YtkfogoglaiibiaaGreatDoor
