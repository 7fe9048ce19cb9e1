/- What read defers: the error that was panicked with is told, with the place. (Written by genread.py.) read, whole: the words, what the rule makes of them, what is told where it panics. (Written by genread2.py.) -/
import Derived.Test.YtdaklmbifkehpaaGreatDoorPText
import Derived.Test.YtdaklmbifkehpaaGreatDoorPVars2
import Derived.Defers
import Derived.Recover
set_option linter.unusedSimpArgs false
set_option linter.unusedVariables false
namespace Go.Proofs.YtdaklmbifkehpaaGreatDoor.Pm
open Go Go.RowKit Go.Proofs.YtdaklmbifkehpaaGreatDoor
open Go.Lib (hid)

section
variable {F : PC} {B f : Nat} {s : PS} {w : World}
def Told (w : World) (ba be p n : Nat) (w' : World) : Prop := ∃ w1, Below w.heap.size w w1 ∧ w' = (w1.setCell ⟨ba, 0, none⟩ (.int .i64 (p : Nat))).setCell ⟨be, 0, none⟩ (.int .i64 (n : Nat))
set_option maxHeartbeats 2000000 in
set_option maxRecDepth 100000 in
theorem catchE_bad (h : Pa F B f s w) {bp ba be : Nat} {x y : Int} {n : Nat} (hp : w.heap[bp]? = some (.cells #[ptrP f] 111 (0, 0))) (ha : w.heap[ba]? = some (.cells #[.int .i64 x] 3 (0, 0))) (he : w.heap[be]? = some (.cells #[.int .i64 y] 77 (0, 0))) (hne : ba ≠ be) (older : List PanicEntry) :
    CallsD Tryz.prog 68 #[.pointer (some ⟨bp, 0, none⟩), .pointer (some ⟨ba, 0, none⟩), .pointer (some ⟨be, 0, none⟩)] (.panicking ({ v := errV n, recovered := false } :: older)) w fun e u' w' =>
      e = .returned (.tuple #[]) ∧ u' = .panicking ({ v := errV n, recovered := true } :: older) ∧ Told w ba be (place F.z s) n w' := by
  have hta : ∀ w : World, (Instr.typeAssert (errV n) 20 77 true).run Tryz.prog w = .ok (.tuple #[.int .i64 (n : Nat), .bool true]) w := fun w => by kernel_rfl
  refine callsD_of_wpS Tryz.func68 rfl fun c₀ cs hu => ?_
  apply wpS_seq
  apply wpS_region
  simp [wpOpsS, go_sem, recoverD, hu, hta, Tryz.ntmps68, Exit.thenS]
  apply wpS_seq
  apply wpS_region
  simp [wpOpsS, go_sem, Exit.thenS]
  refine wpS_cond (t := true) (by simp [Act.eval]) ?_
  simp only [if_true]
  refine wpS_of_wp ?_
  have HP := hid h
  have HX := hid hp
  have HA := hid ha
  have HE := hid he
  have cp := bk_cell (k := 0) hp rfl
  clear h hp ha he
  go_wp2_with (go_at_call 69; refine (place_any HP.out).mono ?_; rintro e w1 ⟨rfl, hb⟩; have HB := hid hb; have hra := (hb.block ba (lt_of_block HA.out)).trans HA.out; have hre := (hb.block be (lt_of_block HE.out)).trans HE.out; have fa := fun k => bk_free (k := k) hra; have fe := fun k => bk_free (k := k) hre; have ca := bk_cell (k := 0) hra rfl; have ce := bk_cell (k := 0) hre rfl; have la := lt_of_block hra; have le := lt_of_block hre; clear hb hra hre)
  simp [bodyPostS, results, Tryz.results68]
  exact ⟨w1, HB.out, rfl⟩
set_option maxRecDepth 100000 in
theorem catchE_idle (bp ba be : Nat) (w : World) : CallsD Tryz.prog 68 #[.pointer (some ⟨bp, 0, none⟩), .pointer (some ⟨ba, 0, none⟩), .pointer (some ⟨be, 0, none⟩)] .returning w fun e u' w' => e = .returned (.tuple #[]) ∧ u' = .returning ∧ w' = w := by
  have hta : ∀ w : World, (Instr.typeAssert .nilIface 20 77 true).run Tryz.prog w = .ok (.tuple #[.int .i64 0, .bool false]) w := fun w => by kernel_rfl
  refine callsD_of_wpS Tryz.func68 rfl fun c₀ cs hu => ?_
  apply wpS_seq
  apply wpS_region
  simp [wpOpsS, go_sem, recoverD, hu, hta, Tryz.ntmps68, Exit.thenS]
  apply wpS_seq
  apply wpS_region
  simp [wpOpsS, go_sem, Exit.thenS]
  refine wpS_cond (t := false) (by simp [Act.eval]) ?_
  simp only [Bool.false_eq_true, if_false]
  refine wpS_of_wp (wp_skip ?_)
  cases c₀
  simp_all [bodyPostS, results, Tryz.results68]
end
end Go.Proofs.YtdaklmbifkehpaaGreatDoor.Pm

set_option linter.unusedSimpArgs false
set_option linter.unusedVariables false
namespace Go.Proofs.YtdaklmbifkehpaaGreatDoor.Pm
open Go Go.RowKit Go.Proofs.YtdaklmbifkehpaaGreatDoor
open Go.Lib (hid)

def ReadPost {α : Type} (C : α → Value → Nat → World → Prop) (zero : Value) (l : List UInt8) (r : Ans α) (w : World) (e : Ending) (w' : World) : Prop := Below w.heap.size w w' ∧ match r with
  | .ok a mo => ∃ v, e = .returned (.tuple #[v, .int .i64 (mo : Nat), .int .i64 (l.length : Nat), .int .i64 0]) ∧ C a v w.heap.size w'
  | .bad p n => e = .returned (.tuple #[zero, .int .i64 0, .int .i64 (p : Nat), .int .i64 (n : Nat)])
def KT : Kd Tok := ⟨165, 4, Lx.tokCells, fun _ _ _ => True, fun _ => rfl, fun _ _ => trivial, fun _ _ => trivial⟩
theorem tok_rows {w : World} {base : Nat} {v : Value} {ts : List Tok} (h : w.ownsRow base 165 4 v ts.length (Lx.toksV ts)) : ∃ a c, v = .slice a ts.length c ∧ RowsG KT w base a ts :=
  MadeG.rows (K := KT) ⟨h, fun _ _ => trivial⟩
theorem pa_new {w2 : World} {wa : Option Addr} {cap : Nat} {ts : List Tok} {z : Nat} {B0 : Nat} (hz : z ≤ 100000) (hm : ts.length ≤ 100000) (hg : ∀ t ∈ ts, Good t) (hr : RowsG KT w2 B0 wa ts) :
    Pa ⟨wa, cap, ts, z⟩ ((w2.alloc (.cells #[.slice wa ts.length cap, .int .i64 0, .int .i64 (z : Nat), .int .i64 0, .int .i64 0, .int .i64 0] 145)).alloc (.cells #[.pointer (some ⟨w2.heap.size, 0, none⟩)] 111)).heap.size w2.heap.size ⟨ts, 0, 0, 0⟩ ((w2.alloc (.cells #[.slice wa ts.length cap, .int .i64 0, .int .i64 (z : Nat), .int .i64 0, .int .i64 0, .int .i64 0] 145)).alloc (.cells #[.pointer (some ⟨w2.heap.size, 0, none⟩)] 111)) := by
  have hp : posOf ⟨wa, cap, ts, z⟩ ⟨ts, 0, 0, 0⟩ = 0 := by simp [posOf]
  refine ⟨by simp <;> omega, Nat.le_refl _, by rw [hp]; rfl, Nat.le_refl _, hm, hz, hg, Nat.zero_le _, Nat.zero_le _, Nat.zero_le _, ?_, fun i hi => ?_⟩
  · rw [show paV ⟨wa, cap, ts, z⟩ ⟨ts, 0, 0, 0⟩ = #[.slice wa ts.length cap, .int .i64 0, .int .i64 (z : Nat), .int .i64 0, .int .i64 0, .int .i64 0] by simp [hp]]
    exact bk_old _ (bk_new w2 _)
  · obtain ⟨⟨b, o, e, -, hc⟩, -⟩ := hr i hi
    have h0 := hc 0 (.int .i64 ts[i].kind) rfl
    have hlt := World.block_lt_of_cell? w2 _ h0
    refine ⟨b, o, e, by simp at hlt ⊢; omega, by simp at hlt; omega, fun j v hv => ?_⟩
    rw [World.cell?_alloc_lt _ _ _ (by simp at hlt ⊢; omega), World.cell?_alloc_lt _ _ _ (by simpa using hlt)]
    exact hc j v hv
theorem below_grow {f : Nat} {w v v' : World} (h : Below w.heap.size w v) (hg : v.grownBy v' (some f)) (hf : w.heap.size ≤ f) : Below w.heap.size w v' :=
  ⟨hg.os.trans h.os, hg.tape.trans h.tape, hg.output.trans h.output, Nat.le_trans h.size hg.size, fun b hb => (hg.block b (Nat.lt_of_lt_of_le hb h.size) (by simp; omega)).trans (h.block b hb)⟩
theorem answer_bad {α : Type} {m n z : Nat} {rule : Nat → Nat → PS → PR α} {l : List UInt8} {ws : List Tok} {q : Nat} {s : PS} (e : lexP 0 l = (some ws, q)) (hz : z = l.length) (h : rule z m ⟨ws, 0, 0, 0⟩ = .bad n s) : answerF m rule l = .bad (place z s) n := by
  subst hz
  unfold answerF whole
  rw [e]
  simp only
  rw [h]
  rfl
theorem answer_end {α : Type} {m n z : Nat} {rule : Nat → Nat → PS → PR α} {l : List UInt8} {ws : List Tok} {q : Nat} {a : α} {s s9 : PS} (e : lexP 0 l = (some ws, q)) (hz : z = l.length) (h : rule z m ⟨ws, 0, 0, 0⟩ = .ok a s) (hm : must s.ws.isEmpty s = .bad n s9) : answerF m rule l = .bad (place z s9) n := by
  subst hz
  unfold must at hm
  split at hm
  · cases hm
  · rename_i hne
    cases hm
    unfold answerF whole
    rw [e]
    simp only
    rw [h]
    show (match (if s.ws.isEmpty = true then PR.ok a s else .bad 3 s) with | .ok a s => Ans.ok a s.mo | .bad n s => .bad (place l.length s) n) = _
    rw [if_neg hne]
theorem answer_fine {α : Type} {m z : Nat} {rule : Nat → Nat → PS → PR α} {l : List UInt8} {ws : List Tok} {q : Nat} {a : α} {s s5 : PS} {u : Unit} (e : lexP 0 l = (some ws, q)) (hz : z = l.length) (h : rule z m ⟨ws, 0, 0, 0⟩ = .ok a s) (hm : must s.ws.isEmpty s = .ok u s5) : answerF m rule l = .ok a s5.mo := by
  subst hz
  unfold must at hm
  split at hm
  · rename_i hne
    cases hm
    unfold answerF whole
    rw [e]
    simp only
    rw [h]
    show (match (if s.ws.isEmpty = true then PR.ok a s else .bad 3 s) with | .ok a s => Ans.ok a s.mo | .bad n s => .bad (place l.length s) n) = _
    rw [if_pos hne]
  · cases hm
abbrev zE : Value := .agg #[.int .i64 0, .string ⟨#[]⟩, .int .i64 0, .string ⟨#[]⟩, .slice none 0 0]
abbrev oE : Obj := .cells #[.int .i64 0, .string ⟨#[]⟩, .int .i64 0, .string ⟨#[]⟩, .slice none 0 0] 26
section
variable {F : PC} {B f : Nat} {s : PS} {w W : World} {tmps : Array Value} {R ba be bp : Nat}
theorem outE {u0 u1 u2 u3 u4 : Value} {k p n : Int} (h4 : tmps[4]? = some (.pointer (some ⟨R, 0, none⟩))) (h5 : tmps[5]? = some (.int .i64 k)) (h6 : tmps[6]? = some (.pointer (some ⟨ba, 0, none⟩))) (h7 : tmps[7]? = some (.pointer (some ⟨be, 0, none⟩)))
    (q0 : W.heap[R]? = some (.cells #[u0, u1, u2, u3, u4] 26 (0, 0))) (q1 : W.heap[ba]? = some (.cells #[.int .i64 p] 3 (0, 0))) (q2 : W.heap[be]? = some (.cells #[.int .i64 n] 77 (0, 0))) :
    (results Tryz.f51 tmps).run Tryz.prog W = .ok (.tuple #[.agg #[u0, u1, u2, u3, u4], .int .i64 k, .int .i64 p, .int .i64 n]) W := by
  have c0 := bk_cell (k := 0) q0 rfl; have c1 := bk_cell (k := 1) q0 rfl; have c2 := bk_cell (k := 2) q0 rfl; have c3 := bk_cell (k := 3) q0 rfl; have c4 := bk_cell (k := 4) q0 rfl
  have ca := bk_cell (k := 0) q1 rfl
  have cb := bk_cell (k := 0) q2 rfl
  simp [results, Tryz.results51, go_sem, *]
theorem doorE_bad (h4 : tmps[4]? = some (.pointer (some ⟨R, 0, none⟩))) (h5 : tmps[5]? = some (.int .i64 0)) (h6 : tmps[6]? = some (.pointer (some ⟨ba, 0, none⟩))) (h7 : tmps[7]? = some (.pointer (some ⟨be, 0, none⟩)))
    (h : Pa F B f s W) {x y : Int} {n : Nat} (q0 : W.heap[R]? = some (.cells #[.int .i64 0, .string ⟨#[]⟩, .int .i64 0, .string ⟨#[]⟩, .slice none 0 0] 26 (0, 0))) (q1 : W.heap[ba]? = some (.cells #[.int .i64 x] 3 (0, 0))) (q2 : W.heap[be]? = some (.cells #[.int .i64 y] 77 (0, 0))) (q3 : W.heap[bp]? = some (.cells #[ptrP f] 111 (0, 0)))
    (n1 : R ≠ ba) (n2 : R ≠ be) (n3 : ba ≠ be) (b1 : w.heap.size ≤ ba) (b2 : w.heap.size ≤ be) (hb : Below w.heap.size w W) {l : List UInt8} {r : Ans RE} (hr : r = .bad (place F.z s) n) :
    Leaves Tryz.prog Tryz.f51 tmps (ReadPost CE zE l r w) [{ target := .fn (.func 68) #[.pointer (some ⟨bp, 0, none⟩), .pointer (some ⟨ba, 0, none⟩), .pointer (some ⟨be, 0, none⟩)], args := #[] }] (.panicking [{ v := errV n, recovered := false }]) W := by
  refine leaves_cons (f := 68) (args := #[.pointer (some ⟨bp, 0, none⟩), .pointer (some ⟨ba, 0, none⟩), .pointer (some ⟨be, 0, none⟩)]) (by simp) (by simp [go_sem]) ?_
  refine (catchE_bad h q3 q1 q2 n3 []).mono ?_
  rintro e u' w'' ⟨rfl, rfl, w1, hb1, rfl⟩
  have e0 := (hb1.block R (lt_of_block q0)).trans q0
  have e1 := (hb1.block ba (lt_of_block q1)).trans q1
  have e2 := (hb1.block be (lt_of_block q2)).trans q2
  refine ⟨_, outE h4 h5 h6 h7 ((Below.heap_setCell _ _ _ _ n2).trans ((Below.heap_setCell _ _ _ _ n1).trans e0)) ((Below.heap_setCell _ _ _ _ n3).trans (bk_set _ e1)) (bk_set _ ((Below.heap_setCell _ _ _ _ n3.symm).trans e2)), ?_⟩
  subst hr
  exact ⟨((hb.trans (hb1.mono hb.size)).setCell b1 _).setCell b2 _, rfl⟩
theorem doorE_ok {u0 u1 u2 u3 u4 : Value} (h4 : tmps[4]? = some (.pointer (some ⟨R, 0, none⟩))) {k p : Nat} (h5 : tmps[5]? = some (.int .i64 k)) (h6 : tmps[6]? = some (.pointer (some ⟨ba, 0, none⟩))) (h7 : tmps[7]? = some (.pointer (some ⟨be, 0, none⟩)))
    (q0 : W.heap[R]? = some (.cells #[u0, u1, u2, u3, u4] 26 (0, 0))) (q1 : W.heap[ba]? = some (.cells #[.int .i64 p] 3 (0, 0))) (q2 : W.heap[be]? = some (.cells #[.int .i64 0] 77 (0, 0)))
    (hb : Below w.heap.size w W) {l : List UInt8} {a : RE} {r : Ans RE} (hl : l.length = p) (hr : r = .ok a k) (hC : CE a (.agg #[u0, u1, u2, u3, u4]) w.heap.size W) :
    Leaves Tryz.prog Tryz.f51 tmps (ReadPost CE zE l r w) [{ target := .fn (.func 68) #[.pointer (some ⟨bp, 0, none⟩), .pointer (some ⟨ba, 0, none⟩), .pointer (some ⟨be, 0, none⟩)], args := #[] }] .returning W := by
  refine leaves_cons (f := 68) (args := #[.pointer (some ⟨bp, 0, none⟩), .pointer (some ⟨ba, 0, none⟩), .pointer (some ⟨be, 0, none⟩)]) (by simp) (by simp [go_sem]) ?_
  refine (catchE_idle bp ba be _).mono ?_
  rintro e u' w'' ⟨rfl, rfl, rfl⟩
  refine ⟨_, outE h4 h5 h6 h7 q0 q1 q2, ?_⟩
  subst hr
  subst hl
  exact ⟨hb, _, rfl, hC⟩
theorem doorE_lex (h4 : tmps[4]? = some (.pointer (some ⟨R, 0, none⟩))) {p n : Nat} (h5 : tmps[5]? = some (.int .i64 0)) (h6 : tmps[6]? = some (.pointer (some ⟨ba, 0, none⟩))) (h7 : tmps[7]? = some (.pointer (some ⟨be, 0, none⟩)))
    (q0 : W.heap[R]? = some (.cells #[.int .i64 0, .string ⟨#[]⟩, .int .i64 0, .string ⟨#[]⟩, .slice none 0 0] 26 (0, 0))) (q1 : W.heap[ba]? = some (.cells #[.int .i64 p] 3 (0, 0))) (q2 : W.heap[be]? = some (.cells #[.int .i64 n] 77 (0, 0)))
    (hb : Below w.heap.size w W) {l : List UInt8} {r : Ans RE} (hr : r = .bad p n) :
    Leaves Tryz.prog Tryz.f51 tmps (ReadPost CE zE l r w) [] .returning W := by
  refine ⟨_, outE h4 h5 h6 h7 q0 q1 q2, ?_⟩
  subst hr
  exact ⟨hb, rfl⟩
end
section
variable {w : World}
set_option maxHeartbeats 4000000 in
set_option maxRecDepth 100000 in
theorem readE_lex (m : Nat) (sb : ByteArray) (hs : sb.size ≤ 8192) (H : Lx.Errs w) {p : Nat} (hx : lexP 0 sb.data.toList = (none, p)) :
    Calls Tryz.prog 51 #[.string sb, .func (.func 52) #[] #[]] w (ReadPost CE zE sb.data.toList (exprF m sb.data.toList) w) := by
  have hmf : ∀ (fn : Fn) (first cap : Array Value) (w : World), (Instr.makeFunc fn first cap).run Tryz.prog w = .ok (.func fn first cap) w := fun _ _ _ _ => rfl
  have HN : Hid (exprF m sb.data.toList = .bad p 2) := hid (by show answerF m expr _ = _; unfold answerF; rw [hx])
  have HX := hid hx
  have HE := hid (H.on (show Lx.Past w (((w.alloc oE).alloc (.cells #[.int .i64 0] 3)).alloc (.cells #[.int .i64 0] 77)) from ((((Below.refl _ _).alloc (Nat.le_refl _) _).alloc (by simp <;> omega) _).alloc (by simp <;> omega) _)))
  have HS := hid hs
  clear H hx hs
  go_enter_defers Tryz.func51, Tryz.ntmps51
  go_upto_region 3 with (go_at_call 67; refine (Lx.all_any sb HS.out _ HE.out).mono ?_; intro e w1 hq; unfold Lx.AllPost at hq; rw [HX.out] at hq; obtain ⟨hb, rfl⟩ := hq; have HB := hid hb; have h1 := (hb.block (w.heap.size + 1) (by simp <;> omega)).trans (bk_old _ (bk_new' _ (by simp))); have h2 := (hb.block (w.heap.size + 1 + 1) (by simp <;> omega)).trans (bk_new' _ (by simp)); have y1 := fun k => bk_free (k := k) h1; have y2 := fun k => bk_free (k := k) h2; have xa := bk_cell (k := 0) h1 rfl; have xb := bk_cell (k := 0) h2 rfl; have l2 := lt_of_block h2; clear hb h1 h2)
  have hb := HB.out
  have g0 := (hb.block w.heap.size (by simp <;> omega)).trans (bk_old _ (bk_old _ (bk_new w oE)))
  have g1 := (hb.block (w.heap.size + 1) (by simp <;> omega)).trans (bk_old _ (bk_new' (.cells #[.int .i64 0] 3) (by simp)))
  have g2 := (hb.block (w.heap.size + 1 + 1) (by simp <;> omega)).trans (bk_new' (.cells #[.int .i64 0] 77) (by simp))
  have hw : Below w.heap.size w w1 := (((((Below.refl _ _).alloc (Nat.le_refl _) _).alloc (by simp <;> omega) _).alloc (by simp <;> omega) _)).trans (hb.mono (by simp <;> omega))
  have hw2 := (hw.setCell (p := ⟨w.heap.size + 1, 0, none⟩) (Nat.le_succ _) (.int .i64 (p : Nat))).setCell (p := ⟨w.heap.size + 1 + 1, 0, none⟩) (by show w.heap.size ≤ w.heap.size + 1 + 1; omega) (.int .i64 2)
  have n1 : w.heap.size ≠ w.heap.size + 1 := by omega
  have n2 : w.heap.size ≠ w.heap.size + 1 + 1 := by omega
  have n3 : w.heap.size + 1 ≠ w.heap.size + 1 + 1 := by omega
  have e0 := (Below.heap_setCell (w1.setCell ⟨w.heap.size + 1, 0, none⟩ (.int .i64 (p : Nat))) ⟨w.heap.size + 1 + 1, 0, none⟩ (.int .i64 2) w.heap.size n2).trans ((Below.heap_setCell w1 ⟨w.heap.size + 1, 0, none⟩ (.int .i64 (p : Nat)) w.heap.size n1).trans g0)
  have e1 := (Below.heap_setCell (w1.setCell ⟨w.heap.size + 1, 0, none⟩ (.int .i64 (p : Nat))) ⟨w.heap.size + 1 + 1, 0, none⟩ (.int .i64 2) (w.heap.size + 1) n3).trans (bk_set (k := 0) (.int .i64 (p : Nat)) g1)
  have e2 := bk_set (k := 0) (.int .i64 2) ((Below.heap_setCell w1 ⟨w.heap.size + 1, 0, none⟩ (.int .i64 (p : Nat)) (w.heap.size + 1 + 1) n3.symm).trans g2)
  clear y1 y2 xa xb l2 hb g0 g1 g2 hw HB HE
  generalize (w1.setCell ⟨w.heap.size + 1, 0, none⟩ (.int .i64 (p : Nat))).setCell ⟨w.heap.size + 1 + 1, 0, none⟩ (.int .i64 2) = w2 at hw2 e0 e1 e2 ⊢
  have E0 : Hid (w2.heap[w.heap.size]? = some (.cells #[.int .i64 0, .string ⟨#[]⟩, .int .i64 0, .string ⟨#[]⟩, .slice none 0 0] 26 (0, 0))) := hid e0
  have E1 : Hid (w2.heap[w.heap.size + 1]? = some (.cells #[.int .i64 (p : Nat)] 3 (0, 0))) := hid e1
  have E2 : Hid (w2.heap[w.heap.size + 1 + 1]? = some (.cells #[.int .i64 2] 77 (0, 0))) := hid e2
  have HW := hid hw2
  have y0 := fun k => bk_free (k := k) E0.out
  have y1 := fun k => bk_free (k := k) E1.out
  have y2 := fun k => bk_free (k := k) E2.out
  have x0 := bk_cell (k := 0) E0.out rfl
  have x1 := bk_cell (k := 1) E0.out rfl
  have x2 := bk_cell (k := 2) E0.out rfl
  have x3 := bk_cell (k := 3) E0.out rfl
  have x4 := bk_cell (k := 4) E0.out rfl
  have xa := bk_cell (k := 0) E1.out rfl
  have xb := bk_cell (k := 0) E2.out rfl
  clear e0 e1 e2 hw2 n1 n2 n3
  go_region
  go_wp2
  clear y0 y1 y2 xa xb x0 x1 x2 x3 x4
  have a0 : (w2.setCell ⟨w.heap.size, 0, none⟩ (.int .i64 0)).heap[w.heap.size]? = some (.cells #[.int .i64 0, .string ⟨#[]⟩, .int .i64 0, .string ⟨#[]⟩, .slice none 0 0] 26 (0, 0)) := bk_set (k := 0) (.int .i64 0) E0.out
  have a1 : ((w2.setCell ⟨w.heap.size, 0, none⟩ (.int .i64 0)).setCell ⟨w.heap.size, 1, none⟩ (.string ⟨#[]⟩)).heap[w.heap.size]? = some (.cells #[.int .i64 0, .string ⟨#[]⟩, .int .i64 0, .string ⟨#[]⟩, .slice none 0 0] 26 (0, 0)) := bk_set (k := 1) (.string ⟨#[]⟩) a0
  have a2 : (((w2.setCell ⟨w.heap.size, 0, none⟩ (.int .i64 0)).setCell ⟨w.heap.size, 1, none⟩ (.string ⟨#[]⟩)).setCell ⟨w.heap.size, 2, none⟩ (.int .i64 0)).heap[w.heap.size]? = some (.cells #[.int .i64 0, .string ⟨#[]⟩, .int .i64 0, .string ⟨#[]⟩, .slice none 0 0] 26 (0, 0)) := bk_set (k := 2) (.int .i64 0) a1
  have a3 : ((((w2.setCell ⟨w.heap.size, 0, none⟩ (.int .i64 0)).setCell ⟨w.heap.size, 1, none⟩ (.string ⟨#[]⟩)).setCell ⟨w.heap.size, 2, none⟩ (.int .i64 0)).setCell ⟨w.heap.size, 3, none⟩ (.string ⟨#[]⟩)).heap[w.heap.size]? = some (.cells #[.int .i64 0, .string ⟨#[]⟩, .int .i64 0, .string ⟨#[]⟩, .slice none 0 0] 26 (0, 0)) := bk_set (k := 3) (.string ⟨#[]⟩) a2
  have a4 : (((((w2.setCell ⟨w.heap.size, 0, none⟩ (.int .i64 0)).setCell ⟨w.heap.size, 1, none⟩ (.string ⟨#[]⟩)).setCell ⟨w.heap.size, 2, none⟩ (.int .i64 0)).setCell ⟨w.heap.size, 3, none⟩ (.string ⟨#[]⟩)).setCell ⟨w.heap.size, 4, none⟩ (.slice none 0 0)).heap[w.heap.size]? = some (.cells #[.int .i64 0, .string ⟨#[]⟩, .int .i64 0, .string ⟨#[]⟩, .slice none 0 0] 26 (0, 0)) := bk_set (k := 4) (.slice none 0 0) a3
  have n1 : w.heap.size ≠ w.heap.size + 1 := by omega
  have n2 : w.heap.size ≠ w.heap.size + 1 + 1 := by omega
  have n3 : w.heap.size + 1 ≠ w.heap.size + 1 + 1 := by omega
  have p0 := (Below.heap_setCell w2 ⟨w.heap.size, 0, none⟩ (.int .i64 0) _ n1.symm).trans E1.out
  have p1 := (Below.heap_setCell (w2.setCell ⟨w.heap.size, 0, none⟩ (.int .i64 0)) ⟨w.heap.size, 1, none⟩ (.string ⟨#[]⟩) _ n1.symm).trans p0
  have p2 := (Below.heap_setCell ((w2.setCell ⟨w.heap.size, 0, none⟩ (.int .i64 0)).setCell ⟨w.heap.size, 1, none⟩ (.string ⟨#[]⟩)) ⟨w.heap.size, 2, none⟩ (.int .i64 0) _ n1.symm).trans p1
  have p3 := (Below.heap_setCell (((w2.setCell ⟨w.heap.size, 0, none⟩ (.int .i64 0)).setCell ⟨w.heap.size, 1, none⟩ (.string ⟨#[]⟩)).setCell ⟨w.heap.size, 2, none⟩ (.int .i64 0)) ⟨w.heap.size, 3, none⟩ (.string ⟨#[]⟩) _ n1.symm).trans p2
  have p4 := (Below.heap_setCell ((((w2.setCell ⟨w.heap.size, 0, none⟩ (.int .i64 0)).setCell ⟨w.heap.size, 1, none⟩ (.string ⟨#[]⟩)).setCell ⟨w.heap.size, 2, none⟩ (.int .i64 0)).setCell ⟨w.heap.size, 3, none⟩ (.string ⟨#[]⟩)) ⟨w.heap.size, 4, none⟩ (.slice none 0 0) _ n1.symm).trans p3
  have q0 := (Below.heap_setCell w2 ⟨w.heap.size, 0, none⟩ (.int .i64 0) _ n2.symm).trans E2.out
  have q1 := (Below.heap_setCell (w2.setCell ⟨w.heap.size, 0, none⟩ (.int .i64 0)) ⟨w.heap.size, 1, none⟩ (.string ⟨#[]⟩) _ n2.symm).trans q0
  have q2 := (Below.heap_setCell ((w2.setCell ⟨w.heap.size, 0, none⟩ (.int .i64 0)).setCell ⟨w.heap.size, 1, none⟩ (.string ⟨#[]⟩)) ⟨w.heap.size, 2, none⟩ (.int .i64 0) _ n2.symm).trans q1
  have q3 := (Below.heap_setCell (((w2.setCell ⟨w.heap.size, 0, none⟩ (.int .i64 0)).setCell ⟨w.heap.size, 1, none⟩ (.string ⟨#[]⟩)).setCell ⟨w.heap.size, 2, none⟩ (.int .i64 0)) ⟨w.heap.size, 3, none⟩ (.string ⟨#[]⟩) _ n2.symm).trans q2
  have q4 := (Below.heap_setCell ((((w2.setCell ⟨w.heap.size, 0, none⟩ (.int .i64 0)).setCell ⟨w.heap.size, 1, none⟩ (.string ⟨#[]⟩)).setCell ⟨w.heap.size, 2, none⟩ (.int .i64 0)).setCell ⟨w.heap.size, 3, none⟩ (.string ⟨#[]⟩)) ⟨w.heap.size, 4, none⟩ (.slice none 0 0) _ n2.symm).trans q3
  have z0 : (((((((w2.setCell ⟨w.heap.size, 0, none⟩ (.int .i64 0)).setCell ⟨w.heap.size, 1, none⟩ (.string ⟨#[]⟩)).setCell ⟨w.heap.size, 2, none⟩ (.int .i64 0)).setCell ⟨w.heap.size, 3, none⟩ (.string ⟨#[]⟩)).setCell ⟨w.heap.size, 4, none⟩ (.slice none 0 0)).setCell ⟨w.heap.size + 1, 0, none⟩ (.int .i64 (p : Nat))).setCell ⟨w.heap.size + 1 + 1, 0, none⟩ (.int .i64 2)).heap[w.heap.size]? = some (.cells #[.int .i64 0, .string ⟨#[]⟩, .int .i64 0, .string ⟨#[]⟩, .slice none 0 0] 26 (0, 0)) := (Below.heap_setCell ((((((w2.setCell ⟨w.heap.size, 0, none⟩ (.int .i64 0)).setCell ⟨w.heap.size, 1, none⟩ (.string ⟨#[]⟩)).setCell ⟨w.heap.size, 2, none⟩ (.int .i64 0)).setCell ⟨w.heap.size, 3, none⟩ (.string ⟨#[]⟩)).setCell ⟨w.heap.size, 4, none⟩ (.slice none 0 0)).setCell ⟨w.heap.size + 1, 0, none⟩ (.int .i64 (p : Nat))) ⟨w.heap.size + 1 + 1, 0, none⟩ (.int .i64 2) w.heap.size n2).trans ((Below.heap_setCell (((((w2.setCell ⟨w.heap.size, 0, none⟩ (.int .i64 0)).setCell ⟨w.heap.size, 1, none⟩ (.string ⟨#[]⟩)).setCell ⟨w.heap.size, 2, none⟩ (.int .i64 0)).setCell ⟨w.heap.size, 3, none⟩ (.string ⟨#[]⟩)).setCell ⟨w.heap.size, 4, none⟩ (.slice none 0 0)) ⟨w.heap.size + 1, 0, none⟩ (.int .i64 (p : Nat)) w.heap.size n1).trans a4)
  have z1 : (((((((w2.setCell ⟨w.heap.size, 0, none⟩ (.int .i64 0)).setCell ⟨w.heap.size, 1, none⟩ (.string ⟨#[]⟩)).setCell ⟨w.heap.size, 2, none⟩ (.int .i64 0)).setCell ⟨w.heap.size, 3, none⟩ (.string ⟨#[]⟩)).setCell ⟨w.heap.size, 4, none⟩ (.slice none 0 0)).setCell ⟨w.heap.size + 1, 0, none⟩ (.int .i64 (p : Nat))).setCell ⟨w.heap.size + 1 + 1, 0, none⟩ (.int .i64 2)).heap[w.heap.size + 1]? = some (.cells #[.int .i64 (p : Nat)] 3 (0, 0)) := (Below.heap_setCell ((((((w2.setCell ⟨w.heap.size, 0, none⟩ (.int .i64 0)).setCell ⟨w.heap.size, 1, none⟩ (.string ⟨#[]⟩)).setCell ⟨w.heap.size, 2, none⟩ (.int .i64 0)).setCell ⟨w.heap.size, 3, none⟩ (.string ⟨#[]⟩)).setCell ⟨w.heap.size, 4, none⟩ (.slice none 0 0)).setCell ⟨w.heap.size + 1, 0, none⟩ (.int .i64 (p : Nat))) ⟨w.heap.size + 1 + 1, 0, none⟩ (.int .i64 2) (w.heap.size + 1) n3).trans (bk_set (k := 0) (.int .i64 (p : Nat)) p4)
  have z2 : (((((((w2.setCell ⟨w.heap.size, 0, none⟩ (.int .i64 0)).setCell ⟨w.heap.size, 1, none⟩ (.string ⟨#[]⟩)).setCell ⟨w.heap.size, 2, none⟩ (.int .i64 0)).setCell ⟨w.heap.size, 3, none⟩ (.string ⟨#[]⟩)).setCell ⟨w.heap.size, 4, none⟩ (.slice none 0 0)).setCell ⟨w.heap.size + 1, 0, none⟩ (.int .i64 (p : Nat))).setCell ⟨w.heap.size + 1 + 1, 0, none⟩ (.int .i64 2)).heap[w.heap.size + 1 + 1]? = some (.cells #[.int .i64 2] 77 (0, 0)) := bk_set (k := 0) (.int .i64 2) ((Below.heap_setCell (((((w2.setCell ⟨w.heap.size, 0, none⟩ (.int .i64 0)).setCell ⟨w.heap.size, 1, none⟩ (.string ⟨#[]⟩)).setCell ⟨w.heap.size, 2, none⟩ (.int .i64 0)).setCell ⟨w.heap.size, 3, none⟩ (.string ⟨#[]⟩)).setCell ⟨w.heap.size, 4, none⟩ (.slice none 0 0)) ⟨w.heap.size + 1, 0, none⟩ (.int .i64 (p : Nat)) (w.heap.size + 1 + 1) n3.symm).trans q4)
  have zb := (((((((HW.out.setCell (p := ⟨w.heap.size, 0, none⟩) (Nat.le_refl _) (.int .i64 0)).setCell (p := ⟨w.heap.size, 1, none⟩) (Nat.le_refl _) (.string ⟨#[]⟩)).setCell (p := ⟨w.heap.size, 2, none⟩) (Nat.le_refl _) (.int .i64 0)).setCell (p := ⟨w.heap.size, 3, none⟩) (Nat.le_refl _) (.string ⟨#[]⟩)).setCell (p := ⟨w.heap.size, 4, none⟩) (Nat.le_refl _) (.slice none 0 0)).setCell (p := ⟨w.heap.size + 1, 0, none⟩) (Nat.le_succ _) (.int .i64 (p : Nat))).setCell (p := ⟨w.heap.size + 1 + 1, 0, none⟩) (by show w.heap.size ≤ w.heap.size + 1 + 1; omega) (.int .i64 2)).drew
  exact doorE_lex (W := (((((((w2.setCell ⟨w.heap.size, 0, none⟩ (.int .i64 0)).setCell ⟨w.heap.size, 1, none⟩ (.string ⟨#[]⟩)).setCell ⟨w.heap.size, 2, none⟩ (.int .i64 0)).setCell ⟨w.heap.size, 3, none⟩ (.string ⟨#[]⟩)).setCell ⟨w.heap.size, 4, none⟩ (.slice none 0 0)).setCell ⟨w.heap.size + 1, 0, none⟩ (.int .i64 (p : Nat))).setCell ⟨w.heap.size + 1 + 1, 0, none⟩ (.int .i64 2)).drew) (n := 2) rfl rfl rfl rfl (bkD z0) (bkD z1) (bkD z2) zb HN.out
end
section
variable {w : World}
set_option maxHeartbeats 8000000 in
set_option maxRecDepth 100000 in
theorem readE_words (m : Nat) (sb : ByteArray) (hs : sb.size ≤ 8192) (H : Lx.Errs w) {ts : List Tok} {qq : Nat} (hx : lexP 0 sb.data.toList = (some ts, qq)) (hfin : FinA m expr sb.data.toList) :
    Calls Tryz.prog 51 #[.string sb, .func (.func 52) #[] #[]] w (ReadPost CE zE sb.data.toList (exprF m sb.data.toList) w) := by
  have hmf : ∀ (fn : Fn) (first cap : Array Value) (w : World), (Instr.makeFunc fn first cap).run Tryz.prog w = .ok (.func fn first cap) w := fun _ _ _ _ => rfl
  have HX := hid hx
  have HE := hid (H.on (show Lx.Past w (((w.alloc oE).alloc (.cells #[.int .i64 0] 3)).alloc (.cells #[.int .i64 0] 77)) from ((((Below.refl _ _).alloc (Nat.le_refl _) _).alloc (by simp <;> omega) _).alloc (by simp <;> omega) _)))
  have HS := hid hs
  have hlm := lex_many (l := sb.data.toList) (by show sb.size ≤ 100000; omega) hx
  have HGD := hid hlm.1
  have HTM : Hid (ts.length ≤ 100000) := hid (by have h1 := hlm.2.1; have h2 : sb.data.toList.length = sb.size := rfl; omega)
  have HFI0 : Hid (Fin (expr sb.size m ⟨ts, 0, 0, 0⟩)) := hid ((hfin ts qq hx).fst)
  have HEQ : Hid (exprF m sb.data.toList = answerF m expr sb.data.toList) := hid rfl
  clear H hx hs hlm hfin
  go_enter_defers Tryz.func51, Tryz.ntmps51
  go_upto_region 4 with (go_at_call 67; refine (Lx.all_any sb HS.out _ HE.out).mono ?_; intro e w1 hq; unfold Lx.AllPost at hq; rw [HX.out] at hq; obtain ⟨hb, v, rfl, ho⟩ := hq; obtain ⟨wa, cap, hv, hrow⟩ := tok_rows ho; subst hv; have HROW := hid hrow; have HB := hid hb; have h1 := (hb.block (w.heap.size + 1) (by simp <;> omega)).trans (bk_old _ (bk_new' _ (by simp))); have h2 := (hb.block (w.heap.size + 1 + 1) (by simp <;> omega)).trans (bk_new' _ (by simp)); have y1 := fun k => bk_free (k := k) h1; have y2 := fun k => bk_free (k := k) h2; have xa := bk_cell (k := 0) h1 rfl; have xb := bk_cell (k := 0) h2 rfl; have l2 := lt_of_block h2; clear hb h1 h2 ho hrow)
  have hb := HB.out
  have hz1 := hb.size
  have n1 : w.heap.size ≠ w.heap.size + 1 := by omega
  have n2 : w.heap.size ≠ w.heap.size + 1 + 1 := by omega
  have n3 : w.heap.size + 1 ≠ w.heap.size + 1 + 1 := by omega
  have g0 := (hb.block (w.heap.size) (by simp <;> omega)).trans (bk_old _ (bk_old _ (bk_new w oE)))
  have g1 := (hb.block (w.heap.size + 1) (by simp <;> omega)).trans (bk_old _ (bk_new' (.cells #[.int .i64 0] 3) (by simp)))
  have g2 := (hb.block (w.heap.size + 1 + 1) (by simp <;> omega)).trans (bk_new' (.cells #[.int .i64 0] 77) (by simp))
  have hw : Below w.heap.size w w1 := (((((Below.refl _ _).alloc (Nat.le_refl _) _).alloc (by simp <;> omega) _).alloc (by simp <;> omega) _)).trans (hb.mono (by simp <;> omega))
  have hw2 := (hw.setCell (p := ⟨w.heap.size + 1, 0, none⟩) (Nat.le_succ _) (.int .i64 (sb.size : Nat))).setCell (p := ⟨w.heap.size + 1 + 1, 0, none⟩) (by show w.heap.size ≤ w.heap.size + 1 + 1; omega) (.int .i64 0)
  have e0 := (Below.heap_setCell (w1.setCell ⟨w.heap.size + 1, 0, none⟩ (.int .i64 (sb.size : Nat))) ⟨w.heap.size + 1 + 1, 0, none⟩ (.int .i64 0) (w.heap.size) n2).trans ((Below.heap_setCell w1 ⟨w.heap.size + 1, 0, none⟩ (.int .i64 (sb.size : Nat)) (w.heap.size) n1).trans g0)
  have e1 := (Below.heap_setCell (w1.setCell ⟨w.heap.size + 1, 0, none⟩ (.int .i64 (sb.size : Nat))) ⟨w.heap.size + 1 + 1, 0, none⟩ (.int .i64 0) (w.heap.size + 1) n3).trans (bk_set (k := 0) (.int .i64 (sb.size : Nat)) g1)
  have e2 := bk_set (k := 0) (.int .i64 0) ((Below.heap_setCell w1 ⟨w.heap.size + 1, 0, none⟩ (.int .i64 (sb.size : Nat)) (w.heap.size + 1 + 1) n3.symm).trans g2)
  have kw := (((KeptP.refl (fun b => b = w.heap.size + 1 ∨ b = w.heap.size + 1 + 1) w1).set (b := w.heap.size + 1) (Or.inl rfl) 0 (.int .i64 (sb.size : Nat))).set (b := w.heap.size + 1 + 1) (Or.inr rfl) 0 (.int .i64 0))
  have hro := rows_move kw (A := w.heap.size + 1 + 1 + 1) (fun b hb e => by omega) (Nat.zero_le _) (by have := HROW.out; simpa using this)
  have hsz : w.heap.size + 1 + 1 + 1 ≤ ((w1.setCell ⟨w.heap.size + 1, 0, none⟩ (.int .i64 (sb.size : Nat))).setCell ⟨w.heap.size + 1 + 1, 0, none⟩ (.int .i64 0)).heap.size := by simp at hz1 ⊢; omega
  clear y1 y2 xa xb l2 hb g0 g1 g2 hw HB HE HROW kw hz1
  generalize (w1.setCell ⟨w.heap.size + 1, 0, none⟩ (.int .i64 (sb.size : Nat))).setCell ⟨w.heap.size + 1 + 1, 0, none⟩ (.int .i64 0) = w2 at hw2 e0 e1 e2 hro hsz ⊢
  have E0 : Hid (w2.heap[w.heap.size]? = some (.cells #[.int .i64 0, .string ⟨#[]⟩, .int .i64 0, .string ⟨#[]⟩, .slice none 0 0] 26 (0, 0))) := hid e0
  have E1 : Hid (w2.heap[w.heap.size + 1]? = some (.cells #[.int .i64 (sb.size : Nat)] 3 (0, 0))) := hid e1
  have E2 : Hid (w2.heap[w.heap.size + 1 + 1]? = some (.cells #[.int .i64 0] 77 (0, 0))) := hid e2
  have HSZ := hid hsz
  have E0' := hid (bk_old (.cells #[.pointer (some ⟨w2.heap.size, 0, none⟩)] 111) (bk_old (.cells #[.slice wa ts.length cap, .int .i64 0, .int .i64 (sb.size : Nat), .int .i64 0, .int .i64 0, .int .i64 0] 145) E0.out))
  have E1' := hid (bk_old (.cells #[.pointer (some ⟨w2.heap.size, 0, none⟩)] 111) (bk_old (.cells #[.slice wa ts.length cap, .int .i64 0, .int .i64 (sb.size : Nat), .int .i64 0, .int .i64 0, .int .i64 0] 145) E1.out))
  have E2' := hid (bk_old (.cells #[.pointer (some ⟨w2.heap.size, 0, none⟩)] 111) (bk_old (.cells #[.slice wa ts.length cap, .int .i64 0, .int .i64 (sb.size : Nat), .int .i64 0, .int .i64 0, .int .i64 0] 145) E2.out))
  have E3' : Hid (((w2.alloc (.cells #[.slice wa ts.length cap, .int .i64 0, .int .i64 (sb.size : Nat), .int .i64 0, .int .i64 0, .int .i64 0] 145)).alloc (.cells #[.pointer (some ⟨w2.heap.size, 0, none⟩)] 111)).heap[w2.heap.size + 1]? = some (.cells #[.pointer (some ⟨w2.heap.size, 0, none⟩)] 111 (0, 0))) := hid (bk_new' (.cells #[.pointer (some ⟨w2.heap.size, 0, none⟩)] 111) (by simp))
  have HW4 : Hid (Below w.heap.size w ((w2.alloc (.cells #[.slice wa ts.length cap, .int .i64 0, .int .i64 (sb.size : Nat), .int .i64 0, .int .i64 0, .int .i64 0] 145)).alloc (.cells #[.pointer (some ⟨w2.heap.size, 0, none⟩)] 111))) := hid ((hw2.alloc hw2.size _).alloc (by have := hw2.size; simp; omega) _)
  have HN1 := hid n1
  have HN2 := hid n2
  have HN3 := hid n3
  have HLE2 : Hid (w.heap.size ≤ w.heap.size + 1 + 1) := hid (by omega)
  have HF2 : Hid (w.heap.size ≤ w2.heap.size) := hid hw2.size
  have HL0 : Hid (w.heap.size < ((w2.alloc (.cells #[.slice wa ts.length cap, .int .i64 0, .int .i64 (sb.size : Nat), .int .i64 0, .int .i64 0, .int .i64 0] 145)).alloc (.cells #[.pointer (some ⟨w2.heap.size, 0, none⟩)] 111)).heap.size) := hid (by simp; omega)
  have HL1 : Hid (w.heap.size + 1 < ((w2.alloc (.cells #[.slice wa ts.length cap, .int .i64 0, .int .i64 (sb.size : Nat), .int .i64 0, .int .i64 0, .int .i64 0] 145)).alloc (.cells #[.pointer (some ⟨w2.heap.size, 0, none⟩)] 111)).heap.size) := hid (by simp; omega)
  have HL2 : Hid (w.heap.size + 1 + 1 < ((w2.alloc (.cells #[.slice wa ts.length cap, .int .i64 0, .int .i64 (sb.size : Nat), .int .i64 0, .int .i64 0, .int .i64 0] 145)).alloc (.cells #[.pointer (some ⟨w2.heap.size, 0, none⟩)] 111)).heap.size) := hid (by simp; omega)
  have HL3 : Hid (w2.heap.size + 1 < ((w2.alloc (.cells #[.slice wa ts.length cap, .int .i64 0, .int .i64 (sb.size : Nat), .int .i64 0, .int .i64 0, .int .i64 0] 145)).alloc (.cells #[.pointer (some ⟨w2.heap.size, 0, none⟩)] 111)).heap.size) := hid (by simp)
  have HM0 : Hid ((some (w.heap.size) : Option Nat) ≠ some w2.heap.size) := hid (by simp; omega)
  have HM1 : Hid ((some (w.heap.size + 1) : Option Nat) ≠ some w2.heap.size) := hid (by simp; omega)
  have HM2 : Hid ((some (w.heap.size + 1 + 1) : Option Nat) ≠ some w2.heap.size) := hid (by simp; omega)
  have HM3 : Hid ((some (w2.heap.size + 1) : Option Nat) ≠ some w2.heap.size) := hid (by simp)
  have HF3 : Hid (w2.heap.size < ((w2.alloc (.cells #[.slice wa ts.length cap, .int .i64 0, .int .i64 (sb.size : Nat), .int .i64 0, .int .i64 0, .int .i64 0] 145)).alloc (.cells #[.pointer (some ⟨w2.heap.size, 0, none⟩)] 111)).heap.size) := hid (by simp <;> omega)
  obtain ⟨F, hF⟩ : ∃ F : PC, F = ⟨wa, cap, ts, sb.size⟩ := ⟨_, rfl⟩
  have HP : Hid (Pa F ((w2.alloc (.cells #[.slice wa ts.length cap, .int .i64 0, .int .i64 (sb.size : Nat), .int .i64 0, .int .i64 0, .int .i64 0] 145)).alloc (.cells #[.pointer (some ⟨w2.heap.size, 0, none⟩)] 111)).heap.size w2.heap.size ⟨ts, 0, 0, 0⟩ ((w2.alloc (.cells #[.slice wa ts.length cap, .int .i64 0, .int .i64 (sb.size : Nat), .int .i64 0, .int .i64 0, .int .i64 0] 145)).alloc (.cells #[.pointer (some ⟨w2.heap.size, 0, none⟩)] 111))) := hid (by rw [hF]; exact pa_new (by have := HS.out; omega) HTM.out HGD.out hro)
  have HZ : Hid (F.z = sb.size) := hid (by rw [hF])
  have HFI : Hid (Fin (expr F.z m ⟨ts, 0, 0, 0⟩)) := hid (by rw [HZ.out]; exact HFI0.out)
  clear hF e0 e1 e2 hw2 n1 n2 n3 hro hsz HGD HTM HFI0
  go_upto_region 8 with (first
    | (go_at_call 70; refine (end_any HP3.out).mono ?_; intro e w5 hq; rcases hq.split with ⟨u5, s5, v5, hr, rfl, hC, hp, hg⟩ | ⟨n, s9, hr, rfl, hp, hg⟩; rotate_left; (exact doorE_bad (R := w.heap.size) (ba := w.heap.size + 1) (be := w.heap.size + 1 + 1) (bp := w2.heap.size + 1) rfl rfl rfl rfl hp ((hg.block (w.heap.size) (lt_of_block (bk_old (.cells #[.int .i64 T.kind, .string T.op, .int .i64 T.n, .string T.name, .slice T.kaddr T.kids.length T.kcap] 26) H30.out)) HM0.out).trans (bk_old (.cells #[.int .i64 T.kind, .string T.op, .int .i64 T.n, .string T.name, .slice T.kaddr T.kids.length T.kcap] 26) H30.out)) ((hg.block (w.heap.size + 1) (lt_of_block (bk_old (.cells #[.int .i64 T.kind, .string T.op, .int .i64 T.n, .string T.name, .slice T.kaddr T.kids.length T.kcap] 26) H31.out)) HM1.out).trans (bk_old (.cells #[.int .i64 T.kind, .string T.op, .int .i64 T.n, .string T.name, .slice T.kaddr T.kids.length T.kcap] 26) H31.out)) ((hg.block (w.heap.size + 1 + 1) (lt_of_block (bk_old (.cells #[.int .i64 T.kind, .string T.op, .int .i64 T.n, .string T.name, .slice T.kaddr T.kids.length T.kcap] 26) H32.out)) HM2.out).trans (bk_old (.cells #[.int .i64 T.kind, .string T.op, .int .i64 T.n, .string T.name, .slice T.kaddr T.kids.length T.kcap] 26) H32.out)) ((hg.block (w2.heap.size + 1) (lt_of_block (bk_old (.cells #[.int .i64 T.kind, .string T.op, .int .i64 T.n, .string T.name, .slice T.kaddr T.kids.length T.kcap] 26) H33.out)) HM3.out).trans (bk_old (.cells #[.int .i64 T.kind, .string T.op, .int .i64 T.n, .string T.name, .slice T.kaddr T.kids.length T.kcap] 26) H33.out)) HN1.out HN2.out HN3.out (Nat.le_succ _) HLE2.out (below_grow (HW5.out.alloc HS30.out (.cells #[.int .i64 T.kind, .string T.op, .int .i64 T.n, .string T.name, .slice T.kaddr T.kids.length T.kcap] 26)) hg HF2.out) (by rw [HEQ.out]; exact answer_end HX.out HZ.out HE3.out hr)); obtain rfl : v5 = .tuple #[] := hC; have HE5 := hid hr; have HP5 := hid hp; have H50 := hid ((hg.block (w.heap.size) (lt_of_block (bk_old (.cells #[.int .i64 T.kind, .string T.op, .int .i64 T.n, .string T.name, .slice T.kaddr T.kids.length T.kcap] 26) H30.out)) HM0.out).trans (bk_old (.cells #[.int .i64 T.kind, .string T.op, .int .i64 T.n, .string T.name, .slice T.kaddr T.kids.length T.kcap] 26) H30.out)); have H51 := hid ((hg.block (w.heap.size + 1) (lt_of_block (bk_old (.cells #[.int .i64 T.kind, .string T.op, .int .i64 T.n, .string T.name, .slice T.kaddr T.kids.length T.kcap] 26) H31.out)) HM1.out).trans (bk_old (.cells #[.int .i64 T.kind, .string T.op, .int .i64 T.n, .string T.name, .slice T.kaddr T.kids.length T.kcap] 26) H31.out)); have H52 := hid ((hg.block (w.heap.size + 1 + 1) (lt_of_block (bk_old (.cells #[.int .i64 T.kind, .string T.op, .int .i64 T.n, .string T.name, .slice T.kaddr T.kids.length T.kcap] 26) H32.out)) HM2.out).trans (bk_old (.cells #[.int .i64 T.kind, .string T.op, .int .i64 T.n, .string T.name, .slice T.kaddr T.kids.length T.kcap] 26) H32.out)); have H53 := hid ((hg.block (w2.heap.size + 1) (lt_of_block (bk_old (.cells #[.int .i64 T.kind, .string T.op, .int .i64 T.n, .string T.name, .slice T.kaddr T.kids.length T.kcap] 26) H33.out)) HM3.out).trans (bk_old (.cells #[.int .i64 T.kind, .string T.op, .int .i64 T.n, .string T.name, .slice T.kaddr T.kids.length T.kcap] 26) H33.out)); have H54 : Hid (w5.heap[w3.heap.size]? = some (.cells #[.int .i64 T.kind, .string T.op, .int .i64 T.n, .string T.name, .slice T.kaddr T.kids.length T.kcap] 26 (0, 0))) := hid ((hg.block w3.heap.size (by simp) HM4.out).trans (bk_new w3 (.cells #[.int .i64 T.kind, .string T.op, .int .i64 T.n, .string T.name, .slice T.kaddr T.kids.length T.kcap] 26))); have HW6 := hid (below_grow (HW5.out.alloc HS30.out (.cells #[.int .i64 T.kind, .string T.op, .int .i64 T.n, .string T.name, .slice T.kaddr T.kids.length T.kcap] 26)) hg HF2.out); have HK5 := hid (((KeptP.refl (fun b => b < ((w2.alloc (.cells #[.slice wa ts.length cap, .int .i64 0, .int .i64 (sb.size : Nat), .int .i64 0, .int .i64 0, .int .i64 0] 145)).alloc (.cells #[.pointer (some ⟨w2.heap.size, 0, none⟩)] 111)).heap.size) w3).alloc (.cells #[.int .i64 T.kind, .string T.op, .int .i64 T.n, .string T.name, .slice T.kaddr T.kids.length T.kcap] 26)).grown HF3.out hg); clear c3 c3l hr hp hg hq)
    | (go_at_call 52; refine (expr_any m _ _ HP.out HFI.out).mono ?_; intro e w3 hq; rcases hq.split with ⟨a, s3, v3, hr, rfl, hC, hp, hg⟩ | ⟨n, s9, hr, rfl, hp, hg⟩; rotate_left; (exact doorE_bad (R := w.heap.size) (ba := w.heap.size + 1) (be := w.heap.size + 1 + 1) (bp := w2.heap.size + 1) rfl rfl rfl rfl hp ((hg.block (w.heap.size) HL0.out HM0.out).trans E0'.out) ((hg.block (w.heap.size + 1) HL1.out HM1.out).trans E1'.out) ((hg.block (w.heap.size + 1 + 1) HL2.out HM2.out).trans E2'.out) ((hg.block (w2.heap.size + 1) HL3.out HM3.out).trans E3'.out) HN1.out HN2.out HN3.out (Nat.le_succ _) HLE2.out (below_grow HW4.out hg HF2.out) (by rw [HEQ.out]; exact answer_bad HX.out HZ.out hr)); obtain ⟨T, hv, hT⟩ := hC; rw [ET.val_is] at hv; subst hv; have HT := hid hT; have HE3 := hid hr; have HP3 := hid (hp.alloc (.cells #[.int .i64 T.kind, .string T.op, .int .i64 T.n, .string T.name, .slice T.kaddr T.kids.length T.kcap] 26)); have HS3 := hid hg.size; have HS30 : Hid (w.heap.size ≤ w3.heap.size) := hid (Nat.le_trans HW4.out.size hg.size); have HM4 : Hid ((some w3.heap.size : Option Nat) ≠ some w2.heap.size) := hid (by have h1 := hg.size; simp at h1 ⊢; omega); have H30 := hid ((hg.block (w.heap.size) HL0.out HM0.out).trans E0'.out); have H31 := hid ((hg.block (w.heap.size + 1) HL1.out HM1.out).trans E1'.out); have H32 := hid ((hg.block (w.heap.size + 1 + 1) HL2.out HM2.out).trans E2'.out); have H33 := hid ((hg.block (w2.heap.size + 1) HL3.out HM3.out).trans E3'.out); have HW5 := hid (below_grow HW4.out hg HF2.out); have c3 := bk_cell (k := 0) H33.out rfl; have c3l := lt_of_block H33.out; clear hr hp hg hq hT))
  have y0 := fun k => bk_free (k := k) H50.out
  have y1 := fun k => bk_free (k := k) H51.out
  have y2 := fun k => bk_free (k := k) H52.out
  have x0 := bk_cell (k := 0) H50.out rfl
  have x1 := bk_cell (k := 1) H50.out rfl
  have x2 := bk_cell (k := 2) H50.out rfl
  have x3 := bk_cell (k := 3) H50.out rfl
  have x4 := bk_cell (k := 4) H50.out rfl
  have xa := bk_cell (k := 0) H51.out rfl
  have xb := bk_cell (k := 0) H52.out rfl
  have t0 := bk_cell (k := 0) H54.out rfl
  have t1 := bk_cell (k := 1) H54.out rfl
  have t2 := bk_cell (k := 2) H54.out rfl
  have t3 := bk_cell (k := 3) H54.out rfl
  have t4 := bk_cell (k := 4) H54.out rfl
  have c3 := bk_cell (k := 0) H53.out rfl
  have m5 := HP5.out.c5
  have f5 := HP5.out.flt
  have l0 := lt_of_block H50.out
  have l1 := lt_of_block H51.out
  have l2 := lt_of_block H52.out
  have l3 := lt_of_block H53.out
  have l4 := lt_of_block H54.out
  have o1 := HSZ.out
  have o2 : w2.heap.size + 1 < w3.heap.size := by have := HS3.out; simp at this; omega
  go_region
  go_wp2
  clear y0 y1 y2 xa xb c3 m5 f5 l0 l1 l2 l3 l4 x0 t0 x1 t1 x2 t2 x3 t3 x4 t4
  have n1 := HN1.out
  have n2 := HN2.out
  have n3 := HN3.out
  have a0 : (w5.setCell ⟨w.heap.size, 0, none⟩ (.int .i64 T.kind)).heap[w.heap.size]? = some (.cells #[.int .i64 T.kind, .string ⟨#[]⟩, .int .i64 0, .string ⟨#[]⟩, .slice none 0 0] 26 (0, 0)) := bk_set (k := 0) (.int .i64 T.kind) H50.out
  have a1 : ((w5.setCell ⟨w.heap.size, 0, none⟩ (.int .i64 T.kind)).setCell ⟨w.heap.size, 1, none⟩ (.string T.op)).heap[w.heap.size]? = some (.cells #[.int .i64 T.kind, .string T.op, .int .i64 0, .string ⟨#[]⟩, .slice none 0 0] 26 (0, 0)) := bk_set (k := 1) (.string T.op) a0
  have a2 : (((w5.setCell ⟨w.heap.size, 0, none⟩ (.int .i64 T.kind)).setCell ⟨w.heap.size, 1, none⟩ (.string T.op)).setCell ⟨w.heap.size, 2, none⟩ (.int .i64 T.n)).heap[w.heap.size]? = some (.cells #[.int .i64 T.kind, .string T.op, .int .i64 T.n, .string ⟨#[]⟩, .slice none 0 0] 26 (0, 0)) := bk_set (k := 2) (.int .i64 T.n) a1
  have a3 : ((((w5.setCell ⟨w.heap.size, 0, none⟩ (.int .i64 T.kind)).setCell ⟨w.heap.size, 1, none⟩ (.string T.op)).setCell ⟨w.heap.size, 2, none⟩ (.int .i64 T.n)).setCell ⟨w.heap.size, 3, none⟩ (.string T.name)).heap[w.heap.size]? = some (.cells #[.int .i64 T.kind, .string T.op, .int .i64 T.n, .string T.name, .slice none 0 0] 26 (0, 0)) := bk_set (k := 3) (.string T.name) a2
  have a4 : (((((w5.setCell ⟨w.heap.size, 0, none⟩ (.int .i64 T.kind)).setCell ⟨w.heap.size, 1, none⟩ (.string T.op)).setCell ⟨w.heap.size, 2, none⟩ (.int .i64 T.n)).setCell ⟨w.heap.size, 3, none⟩ (.string T.name)).setCell ⟨w.heap.size, 4, none⟩ (.slice T.kaddr T.kids.length T.kcap)).heap[w.heap.size]? = some (.cells #[.int .i64 T.kind, .string T.op, .int .i64 T.n, .string T.name, .slice T.kaddr T.kids.length T.kcap] 26 (0, 0)) := bk_set (k := 4) (.slice T.kaddr T.kids.length T.kcap) a3
  have p0 := (Below.heap_setCell w5 ⟨w.heap.size, 0, none⟩ (.int .i64 T.kind) _ n1.symm).trans H51.out
  have p1 := (Below.heap_setCell (w5.setCell ⟨w.heap.size, 0, none⟩ (.int .i64 T.kind)) ⟨w.heap.size, 1, none⟩ (.string T.op) _ n1.symm).trans p0
  have p2 := (Below.heap_setCell ((w5.setCell ⟨w.heap.size, 0, none⟩ (.int .i64 T.kind)).setCell ⟨w.heap.size, 1, none⟩ (.string T.op)) ⟨w.heap.size, 2, none⟩ (.int .i64 T.n) _ n1.symm).trans p1
  have p3 := (Below.heap_setCell (((w5.setCell ⟨w.heap.size, 0, none⟩ (.int .i64 T.kind)).setCell ⟨w.heap.size, 1, none⟩ (.string T.op)).setCell ⟨w.heap.size, 2, none⟩ (.int .i64 T.n)) ⟨w.heap.size, 3, none⟩ (.string T.name) _ n1.symm).trans p2
  have p4 := (Below.heap_setCell ((((w5.setCell ⟨w.heap.size, 0, none⟩ (.int .i64 T.kind)).setCell ⟨w.heap.size, 1, none⟩ (.string T.op)).setCell ⟨w.heap.size, 2, none⟩ (.int .i64 T.n)).setCell ⟨w.heap.size, 3, none⟩ (.string T.name)) ⟨w.heap.size, 4, none⟩ (.slice T.kaddr T.kids.length T.kcap) _ n1.symm).trans p3
  have q0 := (Below.heap_setCell w5 ⟨w.heap.size, 0, none⟩ (.int .i64 T.kind) _ n2.symm).trans H52.out
  have q1 := (Below.heap_setCell (w5.setCell ⟨w.heap.size, 0, none⟩ (.int .i64 T.kind)) ⟨w.heap.size, 1, none⟩ (.string T.op) _ n2.symm).trans q0
  have q2 := (Below.heap_setCell ((w5.setCell ⟨w.heap.size, 0, none⟩ (.int .i64 T.kind)).setCell ⟨w.heap.size, 1, none⟩ (.string T.op)) ⟨w.heap.size, 2, none⟩ (.int .i64 T.n) _ n2.symm).trans q1
  have q3 := (Below.heap_setCell (((w5.setCell ⟨w.heap.size, 0, none⟩ (.int .i64 T.kind)).setCell ⟨w.heap.size, 1, none⟩ (.string T.op)).setCell ⟨w.heap.size, 2, none⟩ (.int .i64 T.n)) ⟨w.heap.size, 3, none⟩ (.string T.name) _ n2.symm).trans q2
  have q4 := (Below.heap_setCell ((((w5.setCell ⟨w.heap.size, 0, none⟩ (.int .i64 T.kind)).setCell ⟨w.heap.size, 1, none⟩ (.string T.op)).setCell ⟨w.heap.size, 2, none⟩ (.int .i64 T.n)).setCell ⟨w.heap.size, 3, none⟩ (.string T.name)) ⟨w.heap.size, 4, none⟩ (.slice T.kaddr T.kids.length T.kcap) _ n2.symm).trans q3
  have z0 : (((((((w5.setCell ⟨w.heap.size, 0, none⟩ (.int .i64 T.kind)).setCell ⟨w.heap.size, 1, none⟩ (.string T.op)).setCell ⟨w.heap.size, 2, none⟩ (.int .i64 T.n)).setCell ⟨w.heap.size, 3, none⟩ (.string T.name)).setCell ⟨w.heap.size, 4, none⟩ (.slice T.kaddr T.kids.length T.kcap)).setCell ⟨w.heap.size + 1, 0, none⟩ (.int .i64 (sb.size : Nat))).setCell ⟨w.heap.size + 1 + 1, 0, none⟩ (.int .i64 0)).heap[w.heap.size]? = some (.cells #[.int .i64 T.kind, .string T.op, .int .i64 T.n, .string T.name, .slice T.kaddr T.kids.length T.kcap] 26 (0, 0)) := (Below.heap_setCell ((((((w5.setCell ⟨w.heap.size, 0, none⟩ (.int .i64 T.kind)).setCell ⟨w.heap.size, 1, none⟩ (.string T.op)).setCell ⟨w.heap.size, 2, none⟩ (.int .i64 T.n)).setCell ⟨w.heap.size, 3, none⟩ (.string T.name)).setCell ⟨w.heap.size, 4, none⟩ (.slice T.kaddr T.kids.length T.kcap)).setCell ⟨w.heap.size + 1, 0, none⟩ (.int .i64 (sb.size : Nat))) ⟨w.heap.size + 1 + 1, 0, none⟩ (.int .i64 0) (w.heap.size) n2).trans ((Below.heap_setCell (((((w5.setCell ⟨w.heap.size, 0, none⟩ (.int .i64 T.kind)).setCell ⟨w.heap.size, 1, none⟩ (.string T.op)).setCell ⟨w.heap.size, 2, none⟩ (.int .i64 T.n)).setCell ⟨w.heap.size, 3, none⟩ (.string T.name)).setCell ⟨w.heap.size, 4, none⟩ (.slice T.kaddr T.kids.length T.kcap)) ⟨w.heap.size + 1, 0, none⟩ (.int .i64 (sb.size : Nat)) (w.heap.size) n1).trans a4)
  have z1 : (((((((w5.setCell ⟨w.heap.size, 0, none⟩ (.int .i64 T.kind)).setCell ⟨w.heap.size, 1, none⟩ (.string T.op)).setCell ⟨w.heap.size, 2, none⟩ (.int .i64 T.n)).setCell ⟨w.heap.size, 3, none⟩ (.string T.name)).setCell ⟨w.heap.size, 4, none⟩ (.slice T.kaddr T.kids.length T.kcap)).setCell ⟨w.heap.size + 1, 0, none⟩ (.int .i64 (sb.size : Nat))).setCell ⟨w.heap.size + 1 + 1, 0, none⟩ (.int .i64 0)).heap[w.heap.size + 1]? = some (.cells #[.int .i64 (sb.size : Nat)] 3 (0, 0)) := (Below.heap_setCell ((((((w5.setCell ⟨w.heap.size, 0, none⟩ (.int .i64 T.kind)).setCell ⟨w.heap.size, 1, none⟩ (.string T.op)).setCell ⟨w.heap.size, 2, none⟩ (.int .i64 T.n)).setCell ⟨w.heap.size, 3, none⟩ (.string T.name)).setCell ⟨w.heap.size, 4, none⟩ (.slice T.kaddr T.kids.length T.kcap)).setCell ⟨w.heap.size + 1, 0, none⟩ (.int .i64 (sb.size : Nat))) ⟨w.heap.size + 1 + 1, 0, none⟩ (.int .i64 0) (w.heap.size + 1) n3).trans (bk_set (k := 0) (.int .i64 (sb.size : Nat)) p4)
  have z2 : (((((((w5.setCell ⟨w.heap.size, 0, none⟩ (.int .i64 T.kind)).setCell ⟨w.heap.size, 1, none⟩ (.string T.op)).setCell ⟨w.heap.size, 2, none⟩ (.int .i64 T.n)).setCell ⟨w.heap.size, 3, none⟩ (.string T.name)).setCell ⟨w.heap.size, 4, none⟩ (.slice T.kaddr T.kids.length T.kcap)).setCell ⟨w.heap.size + 1, 0, none⟩ (.int .i64 (sb.size : Nat))).setCell ⟨w.heap.size + 1 + 1, 0, none⟩ (.int .i64 0)).heap[w.heap.size + 1 + 1]? = some (.cells #[.int .i64 0] 77 (0, 0)) := bk_set (k := 0) (.int .i64 0) ((Below.heap_setCell (((((w5.setCell ⟨w.heap.size, 0, none⟩ (.int .i64 T.kind)).setCell ⟨w.heap.size, 1, none⟩ (.string T.op)).setCell ⟨w.heap.size, 2, none⟩ (.int .i64 T.n)).setCell ⟨w.heap.size, 3, none⟩ (.string T.name)).setCell ⟨w.heap.size, 4, none⟩ (.slice T.kaddr T.kids.length T.kcap)) ⟨w.heap.size + 1, 0, none⟩ (.int .i64 (sb.size : Nat)) (w.heap.size + 1 + 1) n3.symm).trans q4)
  have zb := (((((((HW6.out.setCell (p := ⟨w.heap.size, 0, none⟩) (Nat.le_refl _) (.int .i64 T.kind)).setCell (p := ⟨w.heap.size, 1, none⟩) (Nat.le_refl _) (.string T.op)).setCell (p := ⟨w.heap.size, 2, none⟩) (Nat.le_refl _) (.int .i64 T.n)).setCell (p := ⟨w.heap.size, 3, none⟩) (Nat.le_refl _) (.string T.name)).setCell (p := ⟨w.heap.size, 4, none⟩) (Nat.le_refl _) (.slice T.kaddr T.kids.length T.kcap)).setCell (p := ⟨w.heap.size + 1, 0, none⟩) (Nat.le_succ _) (.int .i64 (sb.size : Nat))).setCell (p := ⟨w.heap.size + 1 + 1, 0, none⟩) (by show w.heap.size ≤ w.heap.size + 1 + 1; omega) (.int .i64 0)).drew
  have zk := (((((((HK5.out.set (b := w.heap.size) HL0.out 0 (.int .i64 T.kind)).set (b := w.heap.size) HL0.out 1 (.string T.op)).set (b := w.heap.size) HL0.out 2 (.int .i64 T.n)).set (b := w.heap.size) HL0.out 3 (.string T.name)).set (b := w.heap.size) HL0.out 4 (.slice T.kaddr T.kids.length T.kcap)).set (b := w.heap.size + 1) HL1.out 0 (.int .i64 (sb.size : Nat))).set (b := w.heap.size + 1 + 1) HL2.out 0 (.int .i64 0)).drew
  exact doorE_ok (W := (((((((w5.setCell ⟨w.heap.size, 0, none⟩ (.int .i64 T.kind)).setCell ⟨w.heap.size, 1, none⟩ (.string T.op)).setCell ⟨w.heap.size, 2, none⟩ (.int .i64 T.n)).setCell ⟨w.heap.size, 3, none⟩ (.string T.name)).setCell ⟨w.heap.size, 4, none⟩ (.slice T.kaddr T.kids.length T.kcap)).setCell ⟨w.heap.size + 1, 0, none⟩ (.int .i64 (sb.size : Nat))).setCell ⟨w.heap.size + 1 + 1, 0, none⟩ (.int .i64 0)).drew) (bp := w2.heap.size + 1) (k := s5.mo) (p := sb.size) rfl rfl rfl rfl (bkD z0) (bkD z1) (bkD z2) zb rfl (by rw [HEQ.out]; exact answer_fine HX.out HZ.out HE3.out HE5.out) (CE.on (A := ((w2.alloc (.cells #[.slice wa ts.length cap, .int .i64 0, .int .i64 (sb.size : Nat), .int .i64 0, .int .i64 0, .int .i64 0] 145)).alloc (.cells #[.pointer (some ⟨w2.heap.size, 0, none⟩)] 111)).heap.size) ⟨T, (ET.val_is T).symm, HT.out⟩ zk (fun b hb e => Nat.lt_irrefl _ (Nat.lt_of_lt_of_le e hb)) (Nat.le_of_lt HL0.out))
end
theorem readE_any {w : World} (m : Nat) (sb : ByteArray) (hs : sb.size ≤ 8192) (H : Lx.Errs w) (hfin : FinA m expr sb.data.toList) :
    Calls Tryz.prog 51 #[.string sb, .func (.func 52) #[] #[]] w (ReadPost CE zE sb.data.toList (exprF m sb.data.toList) w) := by
  rcases hx : lexP 0 sb.data.toList with ⟨_ | ts, q⟩
  · exact readE_lex m sb hs H hx
  · exact readE_words m sb hs H hx hfin
end Go.Proofs.YtdaklmbifkehpaaGreatDoor.Pm
