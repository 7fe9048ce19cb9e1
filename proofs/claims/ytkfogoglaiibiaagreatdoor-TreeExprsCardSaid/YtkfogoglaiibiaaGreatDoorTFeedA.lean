/- Any expression of the feed; a feed that has just been made, over bytes that came in. -/
import Derived.Test.YtkfogoglaiibiaaGreatDoorTFeedE2
import Derived.Test.YtkfogoglaiibiaaGreatDoorLRow
set_option linter.unusedSimpArgs false
set_option linter.unusedVariables false
namespace Go.Proofs.YtkfogoglaiibiaaGreatDoor
open Go Go.RowKit

theorem feedE_any {F : FeedC} {B f : Nat} {left tag : Int} : ∀ (d : Nat), d ≤ 9 → ∀ (p : Nat) (w : World), Fd F B f p left tag w → Calls Tryz.prog 33 #[.pointer (some ⟨f, 0, none⟩), .int .i64 d] w (ExprPost F B f d left tag w)
  | 0, _, p, w, h => feedE_zero p w h
  | d + 1, hd, p, w, h => feedE_succ d p (by omega) (fun p w h => feedE_any d (by omega) p w h) w h
theorem names_lit {B f ia : Nat} {ns : List ByteArray} {t : TypeId} {fr : Nat × Nat} {w : World} (h : w.heap[ia]? = some (.cells (ns.map Value.string).toArray t fr)) (h1 : ia < B) (h2 : ia ≠ f) (h3 : 0 < ns.length ∧ ns.length ≤ 10) (h4 : ns.all nmB = true) : NamesIn B f ia ns w :=
  ⟨h1, h2, h3, fun i hi => by
    have e : ns.getD i mE = ns[i] := by rw [List.getD_eq_getElem?_getD, List.getElem?_eq_getElem hi]; rfl
    refine ⟨bk_cell h ?_, ?_⟩
    · rw [List.getElem?_toArray, List.getElem?_map, List.getElem?_eq_getElem hi, e]; rfl
    · rw [e]; exact List.all_eq_true.1 h4 _ (List.getElem_mem hi)⟩
/-- A feed that has been made in new blocks, over bytes that were there at w. -/
theorem mk_feed {w wk : World} {a : Option Addr} {len cap : Nat} {zs : List Int} {ia xa f B : Nat} {ns ms : List ByteArray} {t t' : TypeId} {main : Bool} {left tag : Int} (r : RowIn .u8 w a len zs) (hb : ∀ b, b < w.heap.size → wk.heap[b]? = w.heap[b]?)
    (h1 : wk.heap[ia]? = some (.cells (ns.map Value.string).toArray t (0, 0))) (h2 : wk.heap[xa]? = some (.cells (ms.map Value.string).toArray t' (0, 0)))
    (h3 : wk.heap[f]? = some (.cells #[.slice a len cap, .int .i64 0, .slice (some ⟨ia, 0, none⟩) ns.length ns.length, .slice (some ⟨xa, 0, none⟩) ms.length ms.length, .int .i64 left, .int .i64 tag, .bool main] 74 (0, 0)))
    (l1 : ia < B) (l2 : xa < B) (l3 : f < B) (l4 : B ≤ wk.heap.size) (n1 : ia ≠ f) (n2 : xa ≠ f) (n3 : w.heap.size ≤ f) (n4 : w.heap.size ≤ B)
    (c1 : 0 < ns.length ∧ ns.length ≤ 10) (c2 : 0 < ms.length ∧ ms.length ≤ 10) (c3 : ns.all nmB = true) (c4 : ms.all nmB = true) :
    Fd ⟨a, len, cap, zs, ia, ns, xa, ms, main⟩ B f 0 left tag wk :=
  ⟨l3, l4, h3, Nat.zero_le _, r.1, fun i hi => by
    obtain ⟨b, off, e, hlt, hc⟩ := r.2 (show 0 < len from Nat.lt_of_le_of_lt (Nat.zero_le _) hi)
    obtain ⟨h5, h6⟩ := hc i hi
    refine ⟨b, off, e, by omega, by omega, ?_, ?_⟩
    · rw [World.cell?_of_block (w := w) (hb b hlt)]; exact h5
    · simp only [Lit.wf, IntKind.min, IntKind.max, Bool.and_eq_true] at h6
      exact ⟨of_decide_eq_true h6.1, of_decide_eq_true h6.2⟩, names_lit h1 l1 n1 c1 c3, names_lit h2 l2 n2 c2 c4⟩
end Go.Proofs.YtkfogoglaiibiaaGreatDoor
