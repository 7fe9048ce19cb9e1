/- Any expression of the feed; a feed that has just been made, over bytes that came in. A list of statements that a loop appends to: its row, and its statements' parts, which lie elsewhere. No walk stands in this text. -/
import Derived.Test.YtppeogcpoplpeaaGreatDoorTFeedE2
import Derived.Test.YtppeogcpoplpeaaGreatDoorLRow
import Derived.Maps.AppendAt
set_option linter.unusedSimpArgs false
set_option linter.unusedVariables false
namespace Go.Proofs.YtppeogcpoplpeaaGreatDoor
open Go Go.RowKit

theorem feedE_any {F : FeedC} {B f : Nat} {left tag : Int} : ∀ (d : Nat), d ≤ 9 → ∀ (p : Nat) (w : World), Fd F B f p left tag w → Calls Tryz.prog 33 #[.pointer (some ⟨f, 0, none⟩), .int .i64 d] w (ExprPost F B f d left tag w)
  | 0, _, p, w, h => feedE_zero p w h
  | d + 1, hd, p, w, h => feedE_succ d p (by omega) (fun p w h => feedE_any d (by omega) p w h) w h
theorem names_lit {B f ia : Nat} {ns : List ByteArray} {t : TypeId} {fr : Nat × Nat} {w : World} (h : w.heap[ia]? = some (.cells (ns.map Value.string).toArray t fr)) (h1 : ia < B) (h2 : ia ≠ f) (h3 : 0 < ns.length ∧ ns.length ≤ 10) (h4 : ns.all nmB = true) : NamesIn B f ia ns w :=
  ⟨h1, h2, h3, fun i hi => by
    have e : ns.getD i mE = ns[i] := by rw [List.getD_eq_getElem?_getD, List.getElem?_eq_getElem hi]; rfl
    refine ⟨bk_cell h ?_, ?_⟩
    · rw [List.getElem?_toArray, List.getElem?_map, List.getElem?_eq_getElem hi, e]; rfl
    · rw [e]; exact List.all_eq_true.1 h4 _ (List.getElem_mem hi)⟩
/-- A feed that has been made in new blocks, over bytes that were there at w. -/
theorem mk_feed {w wk : World} {a : Option Addr} {len cap : Nat} {zs : List Int} {ia xa f B : Nat} {ns ms : List ByteArray} {t t' : TypeId} {main : Bool} {left tag : Int} (r : RowIn .u8 w a len zs) (hb : ∀ b, b < w.heap.size → wk.heap[b]? = w.heap[b]?)
    (h1 : wk.heap[ia]? = some (.cells (ns.map Value.string).toArray t (0, 0))) (h2 : wk.heap[xa]? = some (.cells (ms.map Value.string).toArray t' (0, 0)))
    (h3 : wk.heap[f]? = some (.cells #[.slice a len cap, .int .i64 0, .slice (some ⟨ia, 0, none⟩) ns.length ns.length, .slice (some ⟨xa, 0, none⟩) ms.length ms.length, .int .i64 left, .int .i64 tag, .bool main] 74 (0, 0)))
    (l1 : ia < B) (l2 : xa < B) (l3 : f < B) (l4 : B ≤ wk.heap.size) (n1 : ia ≠ f) (n2 : xa ≠ f) (n3 : w.heap.size ≤ f) (n4 : w.heap.size ≤ B)
    (c1 : 0 < ns.length ∧ ns.length ≤ 10) (c2 : 0 < ms.length ∧ ms.length ≤ 10) (c3 : ns.all nmB = true) (c4 : ms.all nmB = true) :
    Fd ⟨a, len, cap, zs, ia, ns, xa, ms, main⟩ B f 0 left tag wk :=
  ⟨l3, l4, h3, Nat.zero_le _, r.1, fun i hi => by
    obtain ⟨b, off, e, hlt, hc⟩ := r.2 (show 0 < len from Nat.lt_of_le_of_lt (Nat.zero_le _) hi)
    obtain ⟨h5, h6⟩ := hc i hi
    refine ⟨b, off, e, by omega, by omega, ?_, ?_⟩
    · rw [World.cell?_of_block (w := w) (hb b hlt)]; exact h5
    · simp only [Lit.wf, IntKind.min, IntKind.max, Bool.and_eq_true] at h6
      exact ⟨of_decide_eq_true h6.1, of_decide_eq_true h6.2⟩, names_lit h1 l1 n1 c1 c3, names_lit h2 l2 n2 c2 c4⟩
end Go.Proofs.YtppeogcpoplpeaaGreatDoor

set_option linter.unusedSimpArgs false
set_option linter.unusedVariables false
namespace Go.Proofs.YtppeogcpoplpeaaGreatDoor
open Go Go.RowKit

/-- The world without what lies in block g. -/
def hide (g : Option Nat) (w : World) : World :=
  match g with
  | none => w
  | some b => { w with heap := w.heap.modify b fun _ => .cells #[] 0 (0, 0) }
theorem hide_cell {g : Option Nat} {w : World} {p : Addr} {v : Value} : (hide g w).cell? p = some v ↔ some p.block ≠ g ∧ w.cell? p = some v := by
  cases g with
  | none => simp [hide]
  | some b =>
    by_cases h : b = p.block
    · subst h
      constructor
      · intro hc
        exfalso
        cases hh : w.heap[p.block]? with
        | none => simp [hide, World.cell?, Array.getElem?_modify, hh] at hc
        | some o => simp [hide, World.cell?, Array.getElem?_modify, hh] at hc
      · intro ⟨hn, _⟩; exact absurd rfl hn
    · have e : (hide (some b) w).heap[p.block]? = w.heap[p.block]? := by simp [hide, Array.getElem?_modify, h]
      rw [World.cell?_of_block e]
      simp; intro _ hb; exact h hb.symm
/-- The statements l, in the row v of the call's own, from block B0 on; their parts lie in other blocks than that row. -/
def MadeL (B0 : Nat) (v : Value) (l : List ST) (w : World) : Prop :=
  w.ownsRow B0 83 7 v l.length (l.flatMap fun S => S.cells.toList) ∧ ∀ S ∈ l, S.In (hide v.ownBlock w) B0
theorem made_nil (B0 : Nat) (w : World) : MadeL B0 (.slice none 0 0) [] w := ⟨World.ownsRow_nil _ _ _ _, fun S hS => by cases hS⟩
theorem MadeL.grown {B0 f : Nat} {v : Value} {l : List ST} {w w' : World} (h : MadeL B0 v l w) (hg : w.grownBy w' (some f)) (hf : f < B0) : MadeL B0 v l w' := by
  have hne : v.ownBlock ≠ some f := fun e => by have := (h.1.lt _ e).1; omega
  refine ⟨h.1.kept hg (Or.inr hne), fun S hS => (h.2 S hS).keep fun p u hp hc => ?_⟩
  rw [hide_cell] at hc ⊢
  refine ⟨hc.1, ?_⟩
  rw [World.cell?_of_block (w := w) (hg.block p.block (World.block_lt_of_cell? w p hc.2) (by simp; omega))]
  exact hc.2
theorem MadeL.alloc {B0 : Nat} {v : Value} {l : List ST} {w : World} (h : MadeL B0 v l w) (o : Obj) : MadeL B0 v l (w.alloc o) := by
  refine ⟨h.1.alloc o, fun S hS => (h.2 S hS).keep fun p u hp hc => ?_⟩
  rw [hide_cell] at hc ⊢
  refine ⟨hc.1, ?_⟩
  rw [World.cell?_alloc_lt _ _ _ (World.block_lt_of_cell? w p hc.2)]
  exact hc.2
/-- One more is appended: what the law of append leaves. -/
theorem MadeL.snoc {B0 A : Nat} {v v' : Value} {l : List ST} {S : ST} {w w' : World} (h : MadeL B0 v l w) (hS : S.In w A) (hA : B0 ≤ A) (hv : ∀ k, v.ownBlock = some k → k < A)
    (hown : w'.ownsRow B0 83 7 v' (l.length + 1) ((l.flatMap fun S => S.cells.toList) ++ S.cells.toList)) (hg : w.grownBy w' v.ownBlock) (hat : v'.ownBlock = v.ownBlock ∨ v'.ownBlock = some w.heap.size) : MadeL B0 v' (l ++ [S]) w' := by
  have key : ∀ {T : ST}, T.In (hide v.ownBlock w) B0 → T.In (hide v'.ownBlock w') B0 := fun hT => hT.keep fun p u hp hc => by
    rw [hide_cell] at hc ⊢
    have hlt := World.block_lt_of_cell? w p hc.2
    refine ⟨?_, ?_⟩
    · rcases hat with e | e
      · rw [e]; exact hc.1
      · rw [e]; simp; omega
    · rw [World.cell?_of_block (w := w) (hg.block p.block hlt hc.1)]
      exact hc.2
  refine ⟨by simpa using hown, fun T hT => ?_⟩
  rcases List.mem_append.1 hT with hT | hT
  · exact key (h.2 T hT)
  · simp only [List.mem_singleton] at hT
    subst hT
    refine key ((hS.keep (w' := hide v.ownBlock w) fun p u hp hc => ?_).mono hA)
    rw [hide_cell]
    refine ⟨fun e => ?_, hc⟩
    have := hv _ e.symm
    omega
theorem cells_seven (S : ST) : S.cells.toList.length = 7 := by cases S; rfl
theorem flat_at : ∀ (l : List ST) (i j : Nat) (hi : i < l.length), j < 7 → (l.flatMap fun S => S.cells.toList)[i * 7 + j]? = l[i].cells.toList[j]?
  | S :: l, 0, j, _, hj => by
    rw [List.flatMap_cons, List.getElem?_append_left (by rw [cells_seven]; omega)]
    simp
  | S :: l, i + 1, j, hi, hj => by
    rw [List.flatMap_cons, List.getElem?_append_right (by rw [cells_seven]; omega), cells_seven]
    rw [show (i + 1) * 7 + j - 7 = i * 7 + j by omega]
    exact flat_at l i j (by simpa using hi) hj
theorem ss_of_rows {w : World} {B : Nat} {a : Option Addr} : ∀ (l : List ST) (i : Nat), (∀ j (hj : j < l.length), RowAt w B a (i + j) 7 l[j].cells ∧ l[j].In w B) → SsIn w B a i l
  | [], i, _ => by rw [SsIn]; trivial
  | S :: l, i, h => by
    rw [SsIn]
    refine ⟨(h 0 (by simp)).1, (h 0 (by simp)).2, ss_of_rows l (i + 1) fun j hj => ?_⟩
    have := h (j + 1) (by simpa using hj)
    rw [show i + (j + 1) = i + 1 + j by omega] at this
    exact this
theorem MadeL.ss {B0 : Nat} {v : Value} {l : List ST} {w : World} (h : MadeL B0 v l w) : ∃ a c, v = .slice a l.length c ∧ SsIn w B0 a 0 l := by
  have hin : ∀ S ∈ l, S.In w B0 := fun S hS => (h.2 S hS).keep fun p u hp hc => (hide_cell.1 hc).2
  rcases h.1.2 with ⟨e, hl⟩ | ⟨g, cap, cur, e, hg, hb, hn, hm, hs, ht⟩
  · have : l = [] := List.length_eq_zero_iff.1 hl
    subst this
    exact ⟨none, 0, e, by rw [SsIn]; trivial⟩
  · refine ⟨some ⟨g, 0, none⟩, cap, e, ss_of_rows l 0 fun j hj => ⟨⟨g, 0, rfl, hg, fun k u hk => ?_⟩, hin _ (List.getElem_mem hj)⟩⟩
    have hk7 : k < 7 := by
      have h1 := cells_seven l[j]
      rcases Nat.lt_or_ge k 7 with h2 | h2
      · exact h2
      · rw [Array.getElem?_eq_none (by simpa using (by rw [← h1] at h2; simpa using h2))] at hk; cases hk
    refine bk_cell hb ?_
    have h1 := flat_at l j k hj hk7
    rw [← ht] at h1
    rw [List.getElem?_take_of_lt (by omega)] at h1
    rw [show 0 + (0 + j) * 7 + k = j * 7 + k by omega, ← Array.getElem?_toList, h1, Array.getElem?_toList]
    exact hk
end Go.Proofs.YtppeogcpoplpeaaGreatDoor
