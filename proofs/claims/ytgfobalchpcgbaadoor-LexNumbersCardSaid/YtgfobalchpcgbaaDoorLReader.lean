/- The reader of lex in memory: what newReader makes, and what its small methods answer and turn. -/
import Derived.Test.YtgfobalchpcgbaaDoorLExtent
import Derived.Test.YtgfobalchpcgbaaDoorLShelf
import Derived.OneCell
import Derived.Laws.OwnMore
import Derived.Laws.Rows
import Derived.Deep.QuietTactic
import Derived.BigQuiet
import Derived.Deep.RegionWith
import Derived.BigRegion
import Derived.Lib.IndexBytes
import Derived.IntWalk
namespace Go.Proofs.YtgfobalchpcgbaaDoor
open Go Go.RowKit

/-- Since w0 nothing that was there has turned. -/
def Past (w0 w : World) : Prop := Below w0.heap.size w0 w
theorem Past.refl (w : World) : Past w w := Below.refl _ _
theorem Past.on {w0 w w' : World} (h : Past w0 w) (hb : Below w.heap.size w w') : Past w0 w' := Below.trans h (hb.mono h.size)
theorem Past.alloc {w0 w : World} (h : Past w0 w) (o : Obj) : Past w0 (w.alloc o) := Below.alloc h h.size o
theorem Past.drew {w0 w : World} (h : Past w0 w) : Past w0 w.drew := Below.drew h

theorem bk_cell {w : World} {b k : Nat} {cs : Array Value} {t : TypeId} {fr : Nat × Nat} {v : Value} (h : w.heap[b]? = some (.cells cs t fr)) (hk : cs[k]? = some v) : w.cell? ⟨b, k, none⟩ = some v := by simp [World.cell?, h, hk]
theorem bk_free {w : World} {b k : Nat} {cs : Array Value} {t : TypeId} (h : w.heap[b]? = some (.cells cs t (0, 0))) : w.frozen? ⟨b, k, none⟩ = false := by simp [World.frozen?, h]
theorem bk_set {w : World} {b k : Nat} {cs : Array Value} {t : TypeId} {fr : Nat × Nat} (u : Value) (h : w.heap[b]? = some (.cells cs t fr)) : (w.setCell ⟨b, k, none⟩ u).heap[b]? = some (.cells (cs.setIfInBounds k u) t fr) := by
  simp [World.setCell, Array.getElem?_modify, h]
theorem bk_new (w : World) (o : Obj) : (w.alloc o).heap[w.heap.size]? = some o := heap_alloc_new w o
theorem bk_new' {w : World} {n : Nat} (o : Obj) (h : w.heap.size = n) : (w.alloc o).heap[n]? = some o := by subst h; exact bk_new w o
theorem add_zero' (b j : Nat) : (⟨b, 0, none⟩ : Addr).add j = ⟨b, j, none⟩ := by unfold Addr.add; split <;> simp_all
theorem bk_old {w : World} {b : Nat} {x : Obj} (o : Obj) (h : w.heap[b]? = some x) : (w.alloc o).heap[b]? = some x := (Below.heap_alloc w o b (lt_of_block h)).trans h

def sgAt (k : Nat) : ByteArray := ⟨(signsL.getD k []).toArray⟩
def opsV : List Value := (signsL.take 18).map fun l => .string ⟨l.toArray⟩
def signV : List Value := signsL.map fun l => .string ⟨l.toArray⟩
theorem tInfoS : (Tryd.prog.info? 9).map (fun i => (i.zero, i.size, i.bytes)) = some (some (.string ⟨#[]⟩), 1, 16) := by kernel_rfl

theorem ops_row (base : Nat) (w : World) (hb : base ≤ w.heap.size) :
    Calls Tryd.prog 34 #[] w fun e w' => e = .returned (.slice (some ⟨w.heap.size, 0, none⟩) 18 18) ∧ w'.ownsRow base 9 1 (.slice (some ⟨w.heap.size, 0, none⟩) 18 18) 18 opsV ∧ Below w.heap.size w w' ∧ base < w'.heap.size := by
  have ho := World.ownsRow_lit (base := base) (e := 9) (size := 1) w opsV.toArray 18 hb (by decide) rfl
  go_enter Tryd.func34, Tryd.ntmps34
  go_wp2
  go_ret
  exact ⟨rfl, ho, (Below.refl _ _).alloc (Nat.le_refl _) _, by simp; omega⟩

def SignsAt (w : World) (e : Ending) (w' : World) : Prop :=
  ∃ g cap, e = .returned (.slice (some ⟨g, 0, none⟩) 29 cap) ∧ w.heap.size ≤ g ∧ g < w'.heap.size ∧ (∀ k, k < 29 → w'.cell? ⟨g, k, none⟩ = some (.string (sgAt k))) ∧ Below w.heap.size w w'
theorem signs_of_row {w w' : World} {v : Value} (h : w'.ownsRow w.heap.size 9 1 v 29 signV) (hb : Below w.heap.size w w') : SignsAt w (.returned v) w' := by
  rcases h.2 with ⟨_, h0⟩ | ⟨g, cap, cur, rfl, hg, hh, hn, hm, hsz, ht⟩
  · cases h0
  · refine ⟨g, cap, rfl, hg, lt_of_block hh, fun k hk => bk_cell hh ?_, hb⟩
    have : cur.toList[k]? = some (.string (sgAt k)) := by
      have h1 : (cur.toList.take 29)[k]? = some (.string (sgAt k)) := by
        rw [ht]
        have : ∀ k : Fin 29, signV[k.val]? = some (.string (sgAt k.val)) := fun k => by
          simp only [signV, List.getElem?_map, sgAt, List.getD_eq_getElem?_getD]
          have hl : k.val < signsL.length := k.2
          rw [List.getElem?_eq_getElem hl]
          rfl
        exact this ⟨k, hk⟩
      rwa [List.getElem?_take_of_lt hk] at h1
    simpa using this
set_option maxHeartbeats 1000000 in
theorem signs_any (w : World) : Calls Tryd.prog 22 #[] w (SignsAt w) := by
  obtain ⟨i0, hi, hz0, hz1, hz2⟩ := info_parts tInfoS
  go_enter Tryd.func22, Tryd.ntmps22
  go_wp2_with (first
    | (go_at_call 34; refine (ops_row w.heap.size w (Nat.le_refl _)).mono ?_; rintro e w1 ⟨rfl, hown, hb, hlt⟩)
    | (at_builtin; refine wpList_append_own _ rfl _ _ 36 rfl w.heap.size 9 i0 (.string ⟨#[]⟩) 1 16 Tryd.underlying36 hi hz0 hz1 hz2 rfl (by decide) _ _ _ rfl (hown.alloc _) ⟨w1.heap.size, 0, none⟩ 11 11 ((signsL.drop 18).map fun l => .string ⟨l.toArray⟩) rfl rfl ?c1 ?c2 ?c3 ?c4 ?c5 ?_))
  case c1 =>
    intro j u hu
    rw [add_zero']
    exact bk_cell (bk_new _ _) (by rw [← Array.getElem?_toList]; exact hu)
  case c2 => decide
  case c3 => decide
  case c4 => decide
  case c5 => simp; omega
  intro v' w2 hown2 hg _
  clear hown
  have hb2 : Below w.heap.size w w2 := by
    refine ((hb.alloc hb.size _).grown hg (by simp; omega) (fun k hk => ?_))
    simp only [Value.ownBlock, Option.some.injEq] at hk
    omega
  have H := Lib.hid (signs_of_row hown2 hb2)
  clear hown2 hb2 hg
  go_wp2
  go_ret
  exact H.out

def me (R : Nat) : Value := .pointer (some ⟨R, 0, none⟩)
abbrev mv (f R : Nat) : Value := .func (.func f) #[me R] #[]
abbrev rdCells (s : ByteArray) (p : Int) (SH SG cap : Nat) : Array Value := #[.string s, .int .i64 p, .slice (some ⟨SH, 0, none⟩) 4 4, .slice (some ⟨SG, 0, none⟩) 29 cap]
abbrev shCells (R : Nat) : Array Value := #[mv 23 R, mv 24 R, mv 25 R, mv 26 R, mv 27 R, mv 28 R, mv 29 R, mv 30 R]
/-- A reader of the text s, at the byte p, in block R. -/
structure Reader (w : World) (R : Nat) (s : ByteArray) (p : Int) (SH SG cap : Nat) : Prop where
  blk : w.heap[R]? = some (.cells (rdCells s p SH SG cap) 46 (0, 0))
  shp : w.heap[SH]? = some (.cells (shCells R) 52 (0, 0))
  sgn : ∀ k, k < 29 → w.cell? ⟨SG, k, none⟩ = some (.string (sgAt k))
  ne1 : SH ≠ R
  ne2 : SG ≠ R
  lt : SG < w.heap.size
section
variable {w w' : World} {R : Nat} {s : ByteArray} {p : Int} {SH SG cap : Nat}
theorem Reader.on (h : Reader w R s p SH SG cap) (hb : Below w.heap.size w w') : Reader w' R s p SH SG cap :=
  ⟨(hb.block _ (lt_of_block h.blk)).trans h.blk, (hb.block _ (lt_of_block h.shp)).trans h.shp, fun k hk => (hb.cell (p := ⟨SG, k, none⟩) h.lt).trans (h.sgn k hk), h.ne1, h.ne2, Nat.lt_of_lt_of_le h.lt hb.size⟩
theorem Reader.set (h : Reader w R s p SH SG cap) (q : Int) : Reader (w.setCell ⟨R, 1, none⟩ (.int .i64 q)) R s q SH SG cap :=
  ⟨bk_set _ h.blk, (Below.heap_setCell _ _ _ _ h.ne1).trans h.shp, fun k hk => by
    rw [World.cell?_of_block (w := w) (Below.heap_setCell _ _ _ _ h.ne2)]
    exact h.sgn k hk, h.ne1, h.ne2, by simpa [World.setCell] using h.lt⟩
theorem Reader.drew (h : Reader w R s p SH SG cap) : Reader w.drew R s p SH SG cap := h.on ((Below.refl _ _).drew)
theorem Reader.drewN (h : Reader w R s p SH SG cap) (n : Nat) : Reader (w.drewN n) R s p SH SG cap := ⟨h.blk, h.shp, h.sgn, h.ne1, h.ne2, h.lt⟩
theorem Reader.c0 (h : Reader w R s p SH SG cap) : w.cell? ⟨R, 0, none⟩ = some (.string s) := bk_cell h.blk rfl
theorem Reader.c1 (h : Reader w R s p SH SG cap) : w.cell? ⟨R, 1, none⟩ = some (.int .i64 p) := bk_cell h.blk rfl
theorem Reader.c2 (h : Reader w R s p SH SG cap) : w.cell? ⟨R, 2, none⟩ = some (.slice (some ⟨SH, 0, none⟩) 4 4) := bk_cell h.blk rfl
theorem Reader.c3 (h : Reader w R s p SH SG cap) : w.cell? ⟨R, 3, none⟩ = some (.slice (some ⟨SG, 0, none⟩) 29 cap) := bk_cell h.blk rfl
theorem Reader.f1 (h : Reader w R s p SH SG cap) : w.frozen? ⟨R, 1, none⟩ = false := bk_free h.blk
end
def MadeReader (s : ByteArray) (w : World) (e : Ending) (w' : World) : Prop :=
  ∃ R SH SG cap, e = .returned (me R) ∧ w.heap.size ≤ R ∧ Reader w' R s 0 SH SG cap ∧ Below w.heap.size w w'
set_option maxHeartbeats 1000000 in
theorem newReader_any (s : ByteArray) (w : World) : Calls Tryd.prog 14 #[.string s] w (MadeReader s w) := by
  go_enter Tryd.func14, Tryd.ntmps14
  go_wp2_with (go_at_call 22; refine (signs_any _).mono ?_; rintro e w1 ⟨g, cap, rfl, hg, hlt, hcells, hb⟩)
  go_ret
  refine ⟨w1.heap.size, w1.heap.size + 1, g, cap, rfl, hb.size, ⟨bk_old _ (bk_new _ _), bk_new' _ (by simp), fun k hk => ?_, by omega, by omega, by simp; omega⟩, (hb.alloc hb.size _).alloc (by have := hb.size; simp; omega) _⟩
  rw [World.cell?_of_block (Below.heap_alloc _ _ _ (by simp; omega)), World.cell?_of_block (Below.heap_alloc _ _ _ (by omega))]
  exact hcells k hk

/-- What is left of a text from the byte k on. -/
def rest (s : ByteArray) (k : Nat) : ByteArray := ⟨(s.data.toList.drop k).toArray⟩
theorem ba_ext {a b : ByteArray} (h : a.data.toList = b.data.toList) : a = b := by
  cases a; cases b; congr 1; exact Array.toList_inj.1 h
theorem rest_is (s : ByteArray) (k : Nat) : s.extract k s.size = rest s k := by
  apply ba_ext
  rw [Lib.extract_to_end]
  rfl
theorem rest_size (s : ByteArray) (k : Nat) : (rest s k).size = s.size - k := by
  show (s.data.toList.drop k).toArray.size = _
  simp
section
variable {w0 w : World} {R : Nat} {s : ByteArray} {k : Nat} {SH SG cap : Nat}
set_option maxHeartbeats 400000 in
theorem rest_any (hr : Reader w R s k SH SG cap) (hk : k ≤ s.size) :
    Calls Tryd.prog 31 #[me R] w fun e w' => e = .returned (.string (rest s k)) ∧ ∃ n, w' = w.drewN n := by
  have c0 := hr.c0
  have c1 := hr.c1
  have hx := rest_is s k
  unfold me
  go_enter Tryd.func31, Tryd.ntmps31
  go_wp2
  go_quiet (fail)
  go_wp2
  go_ret
  exact ⟨rfl, _, rfl⟩
theorem ended_any (hr : Reader w R s k SH SG cap) :
    Calls Tryd.prog 16 #[me R] w fun e w' => e = .returned (.bool ((k : Int) == s.size)) ∧ ∃ n, w' = w.drewN n := by
  have c0 := hr.c0
  have c1 := hr.c1
  unfold me
  go_enter Tryd.func16, Tryd.ntmps16
  go_wp2
  go_quiet (fail)
  go_wp2
  go_ret
  exact ⟨rfl, _, rfl⟩
set_option maxHeartbeats 400000 in
theorem passSpace_any (hr : Reader w R s k SH SG cap) (hk : k ≤ s.size) (hs : s.size ≤ 9223372036854775807) :
    Calls Tryd.prog 15 #[me R] w fun e w' => e = .returned (.tuple #[]) ∧ ∃ n, w' = (w.setCell ⟨R, 1, none⟩ (.int .i64 ((k : Int) + twI isSp (rest s k)))).drewN n := by
  have c0 := hr.c0
  have c1 := hr.c1
  have f1 := hr.f1
  have hb := twI_bd isSp (rest s k)
  have hz := rest_size s k
  have b0 : 0 ≤ twI isSp (rest s k) := hb.1
  have b1 : (k : Int) + twI isSp (rest s k) ≤ 9223372036854775807 := by omega
  have HR := Lib.hid hr
  have HK := Lib.hid hk
  have HS := Lib.hid hs
  have HZ := Lib.hid hz
  have HW : Hid (IntKind.i64.wrap ((k : Int) + twI isSp (rest s k)) = (k : Int) + twI isSp (rest s k)) := Lib.hid (IntWalk.i64_in _ (by omega))
  clear hr hk hs hz hb
  unfold me
  go_enter Tryd.func15, Tryd.ntmps15
  go_wp2
  go_region_with (first
    | (go_at_call 31; refine (rest_any (by first | exact HR.out | exact HR.out.drew | exact HR.out.drew.drew) HK.out).mono ?_; rintro e w' ⟨rfl, n, rfl⟩)
    | (go_at_call 20; refine (extent_sp _ (by have := HZ.out; have := HS.out; omega) _).mono ?_; rintro e w' ⟨rfl, rfl⟩))
  all_goals
    go_end0
    refine ⟨rfl, 1 + n, ?_⟩
    rw [HW.out]
    rfl
set_option maxHeartbeats 400000 in
theorem pass_any (kd : Int) (t : ByteArray) (n at' : Int) (hr : Reader w R s k SH SG cap) (hk : k + t.size ≤ 9223372036854775807) :
    Calls Tryd.prog 18 #[me R, .agg #[.int .i64 kd, .string t, .int .u64 n, .int .i64 at']] w fun e w' => e = .returned (.tuple #[]) ∧ ∃ o n, w' = ((w.setCell ⟨R, 1, none⟩ (.int .i64 ((k : Int) + t.size))).alloc o).drewN n := by
  have hlt := lt_of_block hr.blk
  have c1 := (hr.on ((Below.refl _ _).alloc (Nat.le_refl _) (.cells #[.int .i64 kd, .string t, .int .u64 n, .int .i64 at'] 31))).c1
  have f1 := (hr.on ((Below.refl _ _).alloc (Nat.le_refl _) (.cells #[.int .i64 kd, .string t, .int .u64 n, .int .i64 at'] 31))).f1
  clear hr
  unfold me
  go_enter Tryd.func18, Tryd.ntmps18
  go_wp2
  go_region
  all_goals
    go_end0
    exact ⟨rfl, _, 1, rfl⟩
end
end Go.Proofs.YtgfobalchpcgbaaDoor
