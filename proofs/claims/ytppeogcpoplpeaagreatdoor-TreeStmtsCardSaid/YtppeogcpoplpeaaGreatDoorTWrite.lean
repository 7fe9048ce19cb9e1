/- The writer of tree: a block that holds a Builder's two fields and how many blocks are open; what the Builder's methods and text do to it. -/
import Derived.Test.YtppeogcpoplpeaaGreatDoorRows
import Derived.Test.YtppeogcpoplpeaaGreatDoorLShelf
import Derived.Test.YtppeogcpoplpeaaGreatDoorTText
import Derived.WalkKit
import Derived.WalkSpells
import Derived.WalkLawsBesides
import Derived.Laws.EntriesVeiled
import Derived.BigGuardPart
import Derived.Lib.Hide
import Derived.Lib.Builder
import Derived.Lib.AppendStr
import Derived.Lib.UnsafeStr
import Derived.Laws.Externs
import Derived.OneCell
import Derived.Laws.OwnMore
set_option linter.unusedSimpArgs false
set_option linter.unusedVariables false
namespace Go.Proofs.YtppeogcpoplpeaaGreatDoor
open Go Go.RowKit

/-- Block b, from B on, is a writer that holds the bytes bs and has k blocks open. -/
def Wr (B b : Nat) (bs : List UInt8) (k : Int) (w : World) : Prop :=
  B ≤ b ∧ ∃ p v, (p = .pointer none ∨ p = .pointer (some ⟨b, 0, none⟩)) ∧ w.heap[b]? = some (.cells #[p, v, .int .i64 k] 130 (0, 0)) ∧ w.ownsRow B 5 1 v bs.length (Lib.byteCells bs) ∧ v.ownBlock ≠ some b
/-- All that is no row of bytes, and not block b, is as it was. -/
def Keeps (b : Nat) (w w' : World) : Prop := ∀ q o, q ≠ b → w.heap[q]? = some o → (∀ c f, o ≠ .cells c 5 f) → w'.heap[q]? = some o
/-- What a piece of writing leaves. -/
structure Went (B b : Nat) (bs : List UInt8) (k : Int) (w w' : World) : Prop where
  wr : Wr B b bs k w'
  below : Below B w w'
  keeps : Keeps b w w'

theorem Keeps.refl (b : Nat) (w : World) : Keeps b w w := fun _ _ _ h _ => h
theorem Keeps.trans {b : Nat} {w w1 w2 : World} (h : Keeps b w w1) (k : Keeps b w1 w2) : Keeps b w w2 := fun q o hq ho hn => k q o hq (h q o hq ho hn) hn
theorem Keeps.alloc {b : Nat} {w w1 : World} (h : Keeps b w w1) (o : Obj) : Keeps b w (w1.alloc o) := fun q x hq hx hn => by
  have h1 := h q x hq hx hn
  exact (Below.heap_alloc w1 o q (lt_of_block h1)).trans h1
theorem Keeps.drew {b : Nat} {w w1 : World} (h : Keeps b w w1) : Keeps b w w1.drew := h
theorem Keeps.set {b : Nat} {w w1 : World} (h : Keeps b w w1) (j : Nat) (u : Value) : Keeps b w (w1.setCell ⟨b, j, none⟩ u) := fun q o hq ho hn =>
  (Below.heap_setCell w1 ⟨b, j, none⟩ u q hq).trans (h q o hq ho hn)
theorem Keeps.grown {b : Nat} {w w1 w2 : World} (h : Keeps b w w1) {v : Value} {B n : Nat} {xs : List Value} (ho : w1.ownsRow B 5 1 v n xs) (hg : w1.grownBy w2 v.ownBlock) : Keeps b w w2 := fun q o hq hb hn => by
  have h1 := h q o hq hb hn
  have hne : some q ≠ v.ownBlock := by
    intro e
    rcases ho.2 with ⟨rfl, _⟩ | ⟨g, cap, cur, rfl, _, hg', _⟩
    · simp [Value.ownBlock] at e
    · simp only [Value.ownBlock, Option.some.injEq] at e
      subst e
      rw [hg'] at h1
      simp only [Option.some.injEq] at h1
      exact hn _ _ h1.symm
  exact (hg.block q (lt_of_block h1) hne).trans h1

theorem Wr.lt {B b : Nat} {bs : List UInt8} {k : Int} {w : World} (h : Wr B b bs k w) : b < w.heap.size := by
  obtain ⟨_, p, v, _, hb, _⟩ := h
  exact lt_of_block hb
theorem Wr.alloc {B b : Nat} {bs : List UInt8} {k : Int} {w : World} (h : Wr B b bs k w) (o : Obj) : Wr B b bs k (w.alloc o) := by
  have hlt := h.lt
  obtain ⟨hB, p, v, hp, hb, ho, hne⟩ := h
  exact ⟨hB, p, v, hp, (Below.heap_alloc w o b hlt).trans hb, ho.alloc _, hne⟩
theorem Wr.drew {B b : Nat} {bs : List UInt8} {k : Int} {w : World} (h : Wr B b bs k w) : Wr B b bs k w.drew := h
theorem Went.trans {B b : Nat} {bs cs : List UInt8} {k m : Int} {w w1 w2 : World} (h : Went B b bs k w w1) (g : Went B b cs m w1 w2) : Went B b cs m w w2 :=
  ⟨g.wr, h.below.trans g.below, h.keeps.trans g.keeps⟩
theorem Went.alloc {B b : Nat} {bs : List UInt8} {k : Int} {w w1 : World} (h : Went B b bs k w w1) (o : Obj) : Went B b bs k w (w1.alloc o) :=
  ⟨h.wr.alloc o, h.below.alloc (by have := h.wr.1; have := h.wr.lt; omega) o, h.keeps.alloc o⟩
theorem Wr.went {B b : Nat} {bs : List UInt8} {k : Int} {w : World} (h : Wr B b bs k w) : Went B b bs k w w := ⟨h, Below.refl _ _, Keeps.refl _ _⟩

set_option maxHeartbeats 1000000 in
set_option maxRecDepth 100000 in
theorem check_used (b : Nat) (w : World) (h0 : w.cell? ⟨b, 0, none⟩ = some (.pointer (some ⟨b, 0, none⟩))) :
    Calls Tryz.prog 122 #[.pointer (some ⟨b, 0, none⟩)] w fun e w' => e = .returned (.tuple #[]) ∧ w' = w := by
  obtain ⟨j, hj, _⟩ := Option.map_eq_some_iff.1 (show (Tryz.prog.info? 128).map (·.size) = some 2 by kernel_rfl)
  go_enter Tryz.func122, Tryz.ntmps122
  go_wp2
  rw [Lib.run_neq_ptr_same w _ Tryz.underlying126 hj]
  go_wp2
  go_end0
  exact ⟨rfl, rfl⟩
set_option maxHeartbeats 1000000 in
set_option maxRecDepth 100000 in
theorem check_fresh (b : Nat) (w : World) (h0 : w.cell? ⟨b, 0, none⟩ = some (.pointer none)) (hsh : w.shape? b = some (130, 3)) (hfz : w.frozen? ⟨b, 0, none⟩ = false) :
    Calls Tryz.prog 122 #[.pointer (some ⟨b, 0, none⟩)] w fun e w' => e = .returned (.tuple #[]) ∧ w' = w.setCell ⟨b, 0, none⟩ (.pointer (some ⟨b, 0, none⟩)) := by
  obtain ⟨j, hj, hjs⟩ := Option.map_eq_some_iff.1 (show (Tryz.prog.info? 128).map (·.size) = some 2 by kernel_rfl)
  have hl : liesAt Tryz.prog Tryz.prog.depth 130 (3 / Tryz.prog.cellsOf 130) 0 128 1 = true := by kernel_rfl
  go_enter Tryz.func122, Tryz.ntmps122
  go_wp2
  rw [Lib.run_to_unsafe w ⟨b, 0, none⟩ Tryz.underlying126 Tryz.underlying181 hj (by rw [hjs]; decide) hsh (Nat.zero_lt_succ 2)]
  simp only [Result.andThen]
  rw [Oper.upon_value]
  go_wp2
  rw [run_callFunc_extern Tryz.func148 (by kernel_rfl) (by kernel_rfl) (by kernel_rfl) (e := Extern.AbiNoEscape.same) (by kernel_rfl)]
  rw [Lib.run_noEscape]
  simp only [Result.andThen]
  rw [Oper.upon_value]
  go_wp2
  rw [Lib.run_from_unsafe w ⟨b, 0, none⟩ Tryz.underlying181 Tryz.underlying126 hj hsh hl]
  simp only [Result.andThen]
  rw [Oper.upon_value]
  go_wp2
  go_end0
  exact ⟨rfl, rfl⟩

theorem wr_shape {b : Nat} {w : World} {p v u : Value} (h : w.heap[b]? = some (.cells #[p, v, u] 130 (0, 0))) : w.shape? b = some (130, 3) := by simp [World.shape?, h]
theorem bk_cell {w : World} {b k : Nat} {cs : Array Value} {t : TypeId} {fr : Nat × Nat} {v : Value} (h : w.heap[b]? = some (.cells cs t fr)) (hk : cs[k]? = some v) : w.cell? ⟨b, k, none⟩ = some v := by simp [World.cell?, h, hk]
theorem bk_free {w : World} {b k : Nat} {cs : Array Value} {t : TypeId} (h : w.heap[b]? = some (.cells cs t (0, 0))) : w.frozen? ⟨b, k, none⟩ = false := by simp [World.frozen?, h]
theorem bk_set {w : World} {b k : Nat} {cs : Array Value} {t : TypeId} {fr : Nat × Nat} (u : Value) (h : w.heap[b]? = some (.cells cs t fr)) : (w.setCell ⟨b, k, none⟩ u).heap[b]? = some (.cells (cs.setIfInBounds k u) t fr) := by
  simp [World.setCell, Array.getElem?_modify, h]
theorem bk_new (w : World) (o : Obj) : (w.alloc o).heap[w.heap.size]? = some o := heap_alloc_new w o
theorem bk_old {w : World} {b : Nat} {x : Obj} (o : Obj) (h : w.heap[b]? = some x) : (w.alloc o).heap[b]? = some x := (Below.heap_alloc w o b (lt_of_block h)).trans h
theorem add_zero' (b j : Nat) : (⟨b, 0, none⟩ : Addr).add j = ⟨b, j, none⟩ := by unfold Addr.add; split <;> simp_all

/-- A new buffer laid into the writer's second field. -/
theorem wr_put {B b : Nat} {bs : List UInt8} {k : Int} {p v v' : Value} {w : World} (hB : B ≤ b) (hp : p = .pointer none ∨ p = .pointer (some ⟨b, 0, none⟩)) (hb : w.heap[b]? = some (.cells #[p, v, .int .i64 k] 130 (0, 0))) (hown : w.ownsRow B 5 1 v' bs.length (Lib.byteCells bs)) : Wr B b bs k (w.setCell ⟨b, 1, none⟩ v') := by
  have hne : v'.ownBlock ≠ some b := Lib.ownBlock_ne hown hb (by decide)
  refine ⟨hB, p, v', hp, by rw [bk_set _ hb]; rfl, ?_, hne⟩
  exact hown.kept (row := some b) ⟨rfl, rfl, rfl, by simp [World.setCell], fun k _ hk => Below.heap_setCell _ _ _ _ (fun e => hk (by simp [e]))⟩ (Or.inr hne)
/-- What copyCheck leaves: the writer marked. -/
theorem check_any {B b : Nat} {bs : List UInt8} {k : Int} {w : World} (h : Wr B b bs k w) :
    Calls Tryz.prog 122 #[.pointer (some ⟨b, 0, none⟩)] w fun e w' => e = .returned (.tuple #[]) ∧ Below B w w' ∧ Keeps b w w' ∧ w'.heap.size = w.heap.size ∧
      ∃ v, w'.heap[b]? = some (.cells #[.pointer (some ⟨b, 0, none⟩), v, .int .i64 k] 130 (0, 0)) ∧ w'.ownsRow B 5 1 v bs.length (Lib.byteCells bs) ∧ v.ownBlock ≠ some b := by
  obtain ⟨hB, p, v, hp, hb, hown, hne⟩ := h
  rcases hp with rfl | rfl
  · refine (check_fresh b w (bk_cell hb rfl) (wr_shape hb) (bk_free hb)).mono ?_
    rintro e w' ⟨rfl, rfl⟩
    refine ⟨rfl, (Below.refl B w).setCell (p := ⟨b, 0, none⟩) hB _, (Keeps.refl b w).set 0 _, by simp [World.setCell], v, by rw [bk_set _ hb]; rfl, ?_, hne⟩
    exact hown.kept (row := some b) ⟨rfl, rfl, rfl, by simp [World.setCell], fun k _ hk => Below.heap_setCell _ _ _ _ (fun e => hk (by simp [e]))⟩ (Or.inr hne)
  · refine (check_used b w (bk_cell hb rfl)).mono ?_
    rintro e w' ⟨rfl, rfl⟩
    exact ⟨rfl, Below.refl B _, Keeps.refl b _, rfl, v, hb, hown, hne⟩

theorem byte_info : (Tryz.prog.info? 5).map (fun i => (i.zero, i.size, i.bytes)) = some (some (.int .u8 0), 1, 1) := by kernel_rfl
set_option maxHeartbeats 2000000 in
set_option maxRecDepth 100000 in
theorem writeString_any {B b : Nat} {bs : List UInt8} {k : Int} {w : World} (h : Wr B b bs k w) (s : ByteArray) (hlen : bs.length + s.size ≤ 140737488355328) :
    Calls Tryz.prog 107 #[.pointer (some ⟨b, 0, none⟩), .string s] w fun e w' => e = .returned (.tuple #[.int .i64 s.size, .nilIface]) ∧ Went B b (bs ++ s.data.toList) k w w' := by
  obtain ⟨i0, hi, hz0, hz1, hz2⟩ := info_parts byte_info
  have hlt := h.lt
  have hBb := h.1
  go_enter Tryz.func107, Tryz.ntmps107
  go_wp2_with (go_at_call 122; refine (check_any h).mono ?_)
  rintro e w1 ⟨rfl, hb1, hk1, hsz, v, hbk, hown, hne⟩
  have c0 : w1.cell? ⟨b, 0, none⟩ = some (.pointer (some ⟨b, 0, none⟩)) := bk_cell hbk rfl
  have c1 : w1.cell? ⟨b, 1, none⟩ = some v := bk_cell hbk rfl
  go_wp2_with (at_builtin; refine Lib.wpList_append_own_string _ rfl _ _ 25 9 rfl B 5 i0 Tryz.underlying25 Tryz.underlying9 hi hz0 hz1 hz2 _ _ _ rfl hown s rfl ?c3 ?c4 ?c5 ?_)
  case c3 => unfold maxLen; omega
  case c4 => omega
  case c5 => omega
  intro v' w2 hown' hgrow _
  have hk2 : Keeps b w w2 := hk1.grown hown hgrow
  have hb2' : Below B w w2 := hb1.grown hgrow (by omega) (fun k hk => (hown.lt k hk).1)
  have hlt1 : b < w1.heap.size := by omega
  have hb2 : w2.heap[b]? = some (.cells #[.pointer (some ⟨b, 0, none⟩), v, .int .i64 k] 130 (0, 0)) := by
    rw [hgrow.block b hlt1 (fun e => hne e.symm)]
    exact hbk
  have d0 : w2.cell? ⟨b, 0, none⟩ = some (.pointer (some ⟨b, 0, none⟩)) := bk_cell hb2 rfl
  have d1 : w2.cell? ⟨b, 1, none⟩ = some v := bk_cell hb2 rfl
  have f1 : w2.frozen? ⟨b, 1, none⟩ = false := bk_free hb2
  obtain ⟨ao, n', cap, rfl⟩ : ∃ ao n' cap, v' = .slice ao n' cap := by
    rcases hown'.2 with ⟨hv, _⟩ | ⟨g, cap, cur, hv, _⟩
    · exact ⟨_, _, _, hv⟩
    · exact ⟨_, _, _, hv⟩
  have hfin : Went B b (bs ++ s.data.toList) k w (w2.setCell ⟨b, 1, none⟩ (.slice ao n' cap)) := by
    refine ⟨wr_put hBb (.inr rfl) hb2 ?_, hb2'.setCell (p := ⟨b, 1, none⟩) hBb _, hk2.set 1 _⟩
    rw [Lib.byteCells_append, List.length_append]
    have e : s.data.toList.length = s.size := Array.length_toList
    rw [e]
    exact hown'
  go_wp2
  go_ret2
  exact ⟨rfl, hfin⟩

set_option maxHeartbeats 2000000 in
set_option maxRecDepth 100000 in
theorem writeByte_any {B b : Nat} {bs : List UInt8} {k : Int} {w : World} (h : Wr B b bs k w) (c : UInt8) (hlen : bs.length + 1 ≤ 140737488355328) :
    Calls Tryz.prog 114 #[.pointer (some ⟨b, 0, none⟩), .int .u8 c.toNat] w fun e w' => e = .returned .nilIface ∧ Went B b (bs ++ [c]) k w w' := by
  obtain ⟨i0, hi, hz0, hz1, hz2⟩ := info_parts byte_info
  have hlt := h.lt
  have hBb := h.1
  generalize hc : (c.toNat : Int) = x
  go_enter Tryz.func114, Tryz.ntmps114
  go_wp2_with (go_at_call 122; refine (check_any h).mono ?_)
  rintro e w1 ⟨rfl, hb1, hk1, hsz', v, hbk, hown, hne⟩
  have hsz := Lib.hid hsz'
  clear hsz'
  have c0 : w1.cell? ⟨b, 0, none⟩ = some (.pointer (some ⟨b, 0, none⟩)) := bk_cell hbk rfl
  have c1 : w1.cell? ⟨b, 1, none⟩ = some v := bk_cell hbk rfl
  go_wp2_with (at_builtin; refine wpList_append_own _ rfl _ _ 25 rfl B 5 i0 (.int .u8 0) 1 1 Tryz.underlying25 hi hz0 hz1 hz2 rfl (by decide) _ _ _ rfl (hown.alloc _) ⟨w1.heap.size, 0, none⟩ 1 1 [.int .u8 x] rfl rfl ?c1 ?c2 ?c3 ?c4 ?c5 ?_)
  case c1 =>
    intro j u hj
    match j, hj with
    | 0, hj => simp at hj; subst hj; simp [Addr.add]
  case c2 => intro u hu; simp at hu; subst hu; rfl
  case c3 => unfold maxLen; omega
  case c4 => omega
  case c5 => have := hsz.out; simp; omega
  intro v' w2 hown' hgrow _
  have hk2 : Keeps b w w2 := (hk1.alloc _).grown (hown.alloc _) hgrow
  have hb2' : Below B w w2 := (hb1.alloc (by have := hsz.out; omega) _).grown hgrow (by have := hsz.out; simp; omega) (fun k hk => (hown.lt k hk).1)
  have hlt1 : b < w1.heap.size := by have := hsz.out; omega
  have hb2 : w2.heap[b]? = some (.cells #[.pointer (some ⟨b, 0, none⟩), v, .int .i64 k] 130 (0, 0)) := by
    rw [hgrow.block b (by simp; omega) (fun e => hne e.symm)]
    exact bk_old _ hbk
  have d0 : w2.cell? ⟨b, 0, none⟩ = some (.pointer (some ⟨b, 0, none⟩)) := bk_cell hb2 rfl
  have d1 : w2.cell? ⟨b, 1, none⟩ = some v := bk_cell hb2 rfl
  have f1 : w2.frozen? ⟨b, 1, none⟩ = false := bk_free hb2
  obtain ⟨ao, n', cap, rfl⟩ : ∃ ao n' cap, v' = .slice ao n' cap := by
    rcases hown'.2 with ⟨hv, _⟩ | ⟨g, cap, cur, hv, _⟩
    · exact ⟨_, _, _, hv⟩
    · exact ⟨_, _, _, hv⟩
  have hfin : Went B b (bs ++ [c]) k w (w2.setCell ⟨b, 1, none⟩ (.slice ao n' cap)) := by
    refine ⟨wr_put hBb (.inr rfl) hb2 ?_, hb2'.setCell (p := ⟨b, 1, none⟩) hBb _, hk2.set 1 _⟩
    rw [Lib.byteCells_append, List.length_append]
    have e : Lib.byteCells [c] = [.int .u8 x] := by rw [← hc]; rfl
    rw [e]
    exact hown'
  go_wp2
  go_ret
  exact ⟨rfl, hfin⟩

set_option maxHeartbeats 1000000 in
set_option maxRecDepth 100000 in
theorem string_any {B b : Nat} {bs : List UInt8} {k : Int} {w : World} (h : Wr B b bs k w) :
    Calls Tryz.prog 76 #[.pointer (some ⟨b, 0, none⟩)] w fun e w' => e = .returned (.string ⟨bs.toArray⟩) ∧ Below B w w' := by
  have hlt := h.lt
  obtain ⟨hB, p, v, -, hb, hown, hne⟩ := h
  have hUS : ∀ (W : World) (q : Option Addr), (Builtin.unsafeString_ #[150, 3] 9 #[.pointer q, .int .i64 0]).run Tryz.prog W = .ok (.string .empty) W := fun W q => Lib.run_unsafeString_none W _ _ _ q
  rcases hown.2 with ⟨rfl, h0⟩ | ⟨g, cap, cur, rfl, hbg, hg, hnc, hcm, hcs, htake⟩
  · obtain rfl : bs = [] := List.length_eq_zero_iff.1 h0
    have c1 : w.drew.cell? ⟨b, 1, none⟩ = some (.slice none 0 0) := bk_cell (w := w.drew) hb rfl
    have hSD : (Builtin.unsafeSliceData_ #[25] 150 #[.slice none 0 0]).run Tryz.prog w.drew = .ok (.pointer none) w.drew := rfl
    clear h0
    go_enter Tryz.func76, Tryz.ntmps76
    go_wp2
    go_region
    all_goals (go_wp2; go_ret; exact ⟨rfl, Below.drew (Below.refl B w)⟩)
  · by_cases hbs : bs = []
    · subst hbs
      by_cases hc0 : cap = 0
      · subst hc0
        have c1 : w.drew.cell? ⟨b, 1, none⟩ = some (.slice (some ⟨g, 0, none⟩) 0 0) := bk_cell (w := w.drew) hb rfl
        have hSD : (Builtin.unsafeSliceData_ #[25] 150 #[.slice (some ⟨g, 0, none⟩) 0 0]).run Tryz.prog w.drew = .ok (.pointer (some ⟨w.drew.heap.size, 0, none⟩)) (w.drew.alloc (.view ⟨g, 0, none⟩ 5)) :=
          Lib.run_unsafeSliceData_zero w.drew _ _ 5 Tryz.underlying150 ⟨g, 0, none⟩ 0 (5, cur.size) (by have hg' : w.drew.heap[g]? = some (.cells cur 5 (0, 0)) := hg; simp [World.shape?, hg'])
        have c2 : (w.drew.alloc (.view ⟨g, 0, none⟩ 5)).cell? ⟨b, 1, none⟩ = some (.slice (some ⟨g, 0, none⟩) 0 0) := bk_cell (bk_old _ (w := w.drew) hb) rfl
        have c3 : (w.alloc (.view ⟨g, 0, none⟩ 5)).drew.cell? ⟨b, 1, none⟩ = some (.slice (some ⟨g, 0, none⟩) 0 0) := c2
        have c0 : w.cell? ⟨b, 1, none⟩ = some (.slice (some ⟨g, 0, none⟩) 0 0) := c1
        have hH := Lib.hid hlt
        have hHB := Lib.hid hB
        clear htake hcs hcm hnc hown hne hlt hB
        go_enter Tryz.func76, Tryz.ntmps76
        go_wp2
        go_region
        all_goals (go_wp2; go_ret; exact ⟨rfl, (Below.drew (Below.refl B w)).alloc (by have := hH.out; have := hHB.out; show B ≤ w.heap.size; omega) _⟩)
      · have c1 : w.drew.cell? ⟨b, 1, none⟩ = some (.slice (some ⟨g, 0, none⟩) 0 cap) := bk_cell (w := w.drew) hb rfl
        have hSD : (Builtin.unsafeSliceData_ #[25] 150 #[.slice (some ⟨g, 0, none⟩) 0 cap]).run Tryz.prog w.drew = .ok (.pointer (some ⟨g, 0, none⟩)) w.drew :=
          Lib.run_unsafeSliceData_row _ _ _ _ _ _ hc0
        clear hc0 htake hcs hcm hnc hown hne
        go_enter Tryz.func76, Tryz.ntmps76
        go_wp2
        go_region
        all_goals (go_wp2; go_ret; exact ⟨rfl, Below.drew (Below.refl B w)⟩)
    · have hl0 : bs.length ≠ 0 := by simpa using hbs
      have c1 : w.drew.cell? ⟨b, 1, none⟩ = some (.slice (some ⟨g, 0, none⟩) bs.length cap) := bk_cell (w := w.drew) hb rfl
      have hSD : (Builtin.unsafeSliceData_ #[25] 150 #[.slice (some ⟨g, 0, none⟩) bs.length cap]).run Tryz.prog w.drew = .ok (.pointer (some ⟨g, 0, none⟩)) w.drew :=
        Lib.run_unsafeSliceData_row _ _ _ _ _ _ (by omega)
      have hUS2 : (Builtin.unsafeString_ #[150, 3] 9 #[.pointer (some ⟨g, 0, none⟩), .int .i64 bs.length]).run Tryz.prog w.drew = .ok (.string ⟨bs.toArray⟩) (w.drew.freeze ⟨g, 0, none⟩ bs.length) := by
        refine Lib.run_unsafeString_row w.drew 150 3 9 5 Tryz.underlying150 (by kernel_rfl) g cur.size (by have hg' : w.drew.heap[g]? = some (.cells cur 5 (0, 0)) := hg; simp [World.shape?, hg']) bs hbs (by omega) (by unfold maxLen at hcm; omega) ?_
        intro j x hx
        exact hown.cells (g := g) rfl j (.int .u8 x.toNat) (by simp [Lib.byteCells, hx])
      clear hUS htake hcs hcm hnc hown hne hl0
      go_enter Tryz.func76, Tryz.ntmps76
      go_wp2
      go_region
      all_goals (go_wp2; go_ret; exact ⟨rfl, Lib.below_freeze (Below.drew (Below.refl B w)) (p := ⟨g, 0, none⟩) hbg _⟩)
end Go.Proofs.YtppeogcpoplpeaaGreatDoor
