/- A program by its parts: what comes in of one, and what code answers of one that the feed makes, told shortly. -/
import Derived.Test.YtppeogcpoplpeaaGreatDoorTFeedQ
import Derived.Test.YtppeogcpoplpeaaGreatDoorTSameM
import Derived.Lib.SmallJoins
set_option linter.unusedSimpArgs false
set_option linter.unusedVariables false
namespace Go.Proofs.YtppeogcpoplpeaaGreatDoor
open Go Go.RowKit
open Go.Lib (decDigits itoa)

/-- What comes in of a program by its parts: two slices of bytes, one of which is cut. -/
def CodeIn (w : World) (v : Value) : Prop := ∃ (pa : Option Addr) (pn pc : Nat) (own : Bool) (la : Option Addr) (ln lc : Nat) (zl : List Int) (ga : Option Addr) (gn gc : Nat) (zg : List Int),
  v = .agg #[.slice pa pn pc, .bool own, .slice la ln lc, .slice ga gn gc] ∧ RowIn .u8 w la ln zl ∧ RowIn .u8 w ga gn zg ∧ gn ≤ gc
theorem row_open {H : Type} {enc : TypeId × Value → H} {P : Program} {W : World} {t e : TypeId} {n : Nat} {c : Value} {y : DataW H × List MemPlace} (ht : P.underlying t = some (.slice e)) (he : P.underlying e = some (.int .u8)) (h1 : P.cellsOf e = 1)
    (h : DataW.trod enc P W 0 (fun _ => true) true n t [c] = some y) : ∃ a len cap zs, c = .slice a len cap ∧ RowIn .u8 W a len zs ∧ len ≤ cap := by
  rcases Go.ChangeShapes.open_ints ht he h1 h with ⟨hcs, _⟩ | ⟨x, l, c', zs, hcs, _, hl, hm, hz, _, hcell, hwz⟩
  · obtain rfl := List.cons.inj hcs |>.1
    exact ⟨none, 0, 0, [], rfl, rowIn_none, Nat.le_refl _⟩
  · obtain rfl := List.cons.inj hcs |>.1
    exact ⟨some x, l, c', zs, rfl, rowIn_some hl hm (by simpa using hz) hcell hwz, hl⟩
set_option maxRecDepth 100000 in
theorem code_open {H : Type} {enc : TypeId × Value → H} {W : World} {v : Value} {d : DataW H} {p : List MemPlace} {b0 : Nat} (hv : Value.okWide Tryz.prog W .any b0 27 v)
    (h : DataW.Trod enc Tryz.prog W 0 (fun _ => true) true 27 v d p) : CodeIn W v := by
  obtain ⟨c0, c1, c2, c3, y0, y1, y2, y3, n, rfl, -, -, t0, t1, t2, t3⟩ := Go.Joins.open_agg4 Tryz.underlying27 (by kernel_rfl) (by kernel_rfl) hv h
  obtain ⟨y, m, -, -, t00⟩ := Go.ChangeShapes.trod_struct1 Tryz.underlying24 t0
  obtain ⟨pa, pn, pc, hp⟩ := Go.Joins.slice_form Tryz.underlying22 t00
  obtain ⟨own, ho, -⟩ := DataW.trod_bool Tryz.underlying4 t1
  obtain ⟨la, ln, lc, zl, rfl, rl, -⟩ := row_open Tryz.underlying25 Tryz.underlying5 (by kernel_rfl) t2
  obtain ⟨ga, gn, gc, zg, rfl, rg, hg⟩ := row_open Tryz.underlying25 Tryz.underlying5 (by kernel_rfl) t3
  obtain rfl := List.cons.inj ho |>.1
  obtain rfl : c0 = .slice pa pn pc := by
    have : [c0] = [.slice pa pn pc] := hp
    exact (List.cons.inj this).1
  exact ⟨pa, pn, pc, own, la, ln, lc, zl, ga, gn, gc, zg, rfl, rl, rg, hg⟩
/-- What code answers: three functions, that may be, of no great text. -/
def CodeP (w : World) (e : Ending) (w' : World) : Prop := ∃ (N : Nat) (F G M : FT), e = .returned (.agg #[.slice (some ⟨N, 0, none⟩) 3 3]) ∧ FsIn w' w.heap.size (some ⟨N, 0, none⟩) [F, G, M] ∧
  [F, G, M].all FT.rightB = true ∧ (progT [F, G, M]).length ≤ 1000000 ∧ (∀ K ∈ [F, G, M], K.vars ≠ [] ∧ K.body.length ≤ 14) ∧ (putL levL 0 (rss M.body)).length ≤ 900000 ∧ Below w.heap.size w w'
theorem codeP_of {w w' : World} {e : Ending} (h : MadeP w e w') : CodeP w e w' := by
  obtain ⟨N, pa, va, pb, vb, vc, l1, l2, l3, a1, a2, a3, c1, c2, c3, rfl, hin, ⟨g1, m1⟩, ⟨g2, m2⟩, ⟨g3, m3⟩, hb⟩ := h
  refine ⟨N, _, _, _, rfl, hin, ?_, ?_, ?_, ?_, hb⟩
  · simp only [List.all_cons, List.all_nil, Bool.and_true, FT.rightB, g1.right, g2.right, g3.right]
    decide
  · have t1 := g1.len 1 (by omega)
    have t2 := g2.len 1 (by omega)
    have t3 := g3.len 1 (by omega)
    have b1 : l1.length * LS 1 ≤ 4 * LS 1 := Nat.mul_le_mul_right _ m1
    have b2 : l2.length * LS 1 ≤ 3 * LS 1 := Nat.mul_le_mul_right _ m2
    have b3 : l3.length * LS 2 ≤ 14 * LS 2 := Nat.mul_le_mul_right _ m3
    have k1 : LS 1 = 12000 := rfl
    have k2 : LS 2 = 62000 := rfl
    simp only [progT, List.flatMap_cons, List.flatMap_nil, FT.text, putF, FT.rf, putV, putD, commas, List.map_cons, List.map_nil, List.isEmpty_cons, List.length_append, List.length_cons, List.length_nil]
    simp [dec_one 1 (by decide), dec_one 2 (by decide), dec_one 3 (by decide), dec_one 5 (by decide)]
    omega
  · intro K hK
    simp only [List.mem_cons, List.not_mem_nil, or_false] at hK
    rcases hK with rfl | rfl | rfl
    · exact ⟨by simp, by show l1.length ≤ _; omega⟩
    · exact ⟨by simp, by show l2.length ≤ _; omega⟩
    · exact ⟨by simp, by show l3.length ≤ _; omega⟩
  · have t3 := g3.len 0 (by omega)
    have b3 : l3.length * LS 2 ≤ 14 * LS 2 := Nat.mul_le_mul_right _ m3
    have k2 : LS 2 = 62000 := rfl
    show (putL levL 0 (rss l3)).length ≤ _
    omega
theorem code_call {pa la ga : Option Addr} {pn pc ln lc gn gc : Nat} {zl zg : List Int} (w : World) (hl : RowIn .u8 w la ln zl) (hg : RowIn .u8 w ga gn zg) (hgc : gn ≤ gc) :
    Calls Tryz.prog 10 #[.agg #[.slice pa pn pc, .bool true, .slice la ln lc, .slice ga gn gc]] w (CodeP w) := (code_any w hl hg hgc).mono fun _ _ h => codeP_of h
/-- Two programs' texts are the same just if they are. -/
theorem txtP_same {w : World} {B : Nat} {a a' : Option Addr} {l m : List FT} (hl : FsIn w B a l) (hm : FsIn w B a' m) (h : l.all FT.rightB = true) (h' : m.all FT.rightB = true) :
    ((⟨(progT l).toArray⟩ : ByteArray).toList == (⟨(progT m).toArray⟩ : ByteArray).toList) = sameFs l m := by
  have e := put_same hl hm h h'
  rw [Bool.eq_iff_iff, beq_txt, ← e]
end Go.Proofs.YtppeogcpoplpeaaGreatDoor
