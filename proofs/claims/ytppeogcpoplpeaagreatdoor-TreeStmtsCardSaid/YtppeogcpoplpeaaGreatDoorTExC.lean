/- The chapter's examples hold. What the plain functions tell of the chapter's examples. -/
import Derived.Test.YtppeogcpoplpeaaGreatDoorTSame4
import Derived.Test.YtppeogcpoplpeaaGreatDoorTPutP2
import Derived.Test.YtppeogcpoplpeaaGreatDoorTCount
import Derived.Deep.DeepCutAuto
set_option linter.unusedSimpArgs false
set_option linter.unusedVariables false
namespace Go.Proofs.YtppeogcpoplpeaaGreatDoor
open Go Go.RowKit

theorem bk_drew {w : World} {b : Nat} {x : Obj} (h : w.heap[b]? = some x) : w.drew.heap[b]? = some x := h
theorem row_block {w : World} {B b i size : Nat} {t : TypeId} {fr : Nat × Nat} {cs row : Array Value} (h : w.heap[b]? = some (.cells cs t fr)) (hB : B ≤ b) (hc : cs.extract (i * size) (i * size + row.size) = row) : RowAt w B (some ⟨b, 0, none⟩) i size row := by
  refine ⟨b, 0, rfl, hB, fun j v hj => bk_cell h ?_⟩
  rw [Nat.zero_add]
  rw [← hc, Array.getElem?_extract] at hj
  split at hj
  · exact hj
  · cases hj
/-- A name's expression. -/
abbrev vrT (s : ByteArray) : ET := .mk 1 { data := #[] } 0 s none 0 []
theorem ex1_any (s : ByteArray) (w : World) :
    Calls Tryz.prog 36 #[.string s] w fun e w' => e = .returned (.agg #[.int .i64 1, .string { data := #[] }, .int .i64 0, .string s, .slice none 0 0]) ∧ w' = w.alloc (.cells #[.int .i64 1, .string { data := #[] }, .int .i64 0, .string s, .slice none 0 0] 30) := by
  go_enter Tryz.func36, Tryz.ntmps36
  go_wp2
  exact bodyPost_ret (v := .agg #[.int .i64 1, .string { data := #[] }, .int .i64 0, .string s, .slice none 0 0]) (by simp [results, Tryz.results36, go_sem]) rfl ⟨rfl, rfl⟩
abbrev nE : ByteArray := { data := #[] }
/-- The chapter's expression, statement and program, with the blocks that they lie in. -/
abbrev exI (a : Nat) : ET := .mk 4 { data := #[45] } 0 nE (some ⟨a, 0, none⟩) 2 [vrT { data := #[98] }, .mk 0 nE (-2) nE none 0 []]
abbrev exE (a b : Nat) : ET := .mk 4 { data := #[45] } 0 nE (some ⟨b, 0, none⟩) 2 [vrT { data := #[97] }, exI a]
abbrev exB (a b b3 : Nat) : List ST := [.mk 1 0 { data := #[120] } nE (some ⟨b3, 0, none⟩) 2 [vrT { data := #[97] }, exE a b] none 0 [] none 0 [], .mk 6 0 nE nE none 0 [] none 0 [] none 0 []]
abbrev exS (a b b1 b2 b3 : Nat) : ST := .mk 5 3 nE nE (some ⟨b1, 0, none⟩) 1 [vrT { data := #[97] }] (some ⟨b2, 0, none⟩) 2 (exB a b b3) none 0 []
abbrev exF (a b b1 b2 b3 g gd : Nat) : FT := { name := { data := #[109, 97, 105, 110] }, pa := none, pc := 0, params := [], va := some ⟨gd, 0, none⟩, vc := 2, vars := [({ data := #[97] }, 0), ({ data := #[120] }, 4)], ba := some ⟨g, 0, none⟩, bc := 1, body := [exS a b b1 b2 b3] }
theorem vr_in (s : ByteArray) (w : World) : (vrT s).In w 0 := by
  simp only [ET.In, EsIn]
  decide
theorem two_in (w : World) : (ET.mk 0 nE (-2) nE none 0 []).In w 0 := by
  simp only [ET.In, EsIn]
  decide
theorem exE_in {w : World} {a b : Nat} (ha : w.heap[a]? = some (.cells #[.int .i64 1, .string nE, .int .i64 0, .string { data := #[98] }, .slice none 0 0, .int .i64 0, .string nE, .int .i64 (-2), .string nE, .slice none 0 0] 30 (0, 0)))
    (hb : w.heap[b]? = some (.cells #[.int .i64 1, .string nE, .int .i64 0, .string { data := #[97] }, .slice none 0 0, .int .i64 4, .string { data := #[45] }, .int .i64 0, .string nE, .slice (some ⟨a, 0, none⟩) 2 2] 30 (0, 0))) : (exE a b).In w 0 := by
  have hi : (exI a).In w 0 := by
    rw [ET.In, EsIn, EsIn, EsIn]
    exact ⟨by decide, by simp, row_block ha (Nat.zero_le _) rfl, vr_in _ _, row_block ha (Nat.zero_le _) rfl, two_in _, trivial⟩
  rw [ET.In, EsIn, EsIn, EsIn]
  exact ⟨by decide, by simp, row_block hb (Nat.zero_le _) rfl, vr_in _ _, row_block hb (Nat.zero_le _) rfl, hi, trivial⟩
theorem exS_in {w : World} {a b b1 b2 b3 g : Nat} (hE : (exE a b).In w 0)
    (h1 : w.heap[b1]? = some (.cells #[.int .i64 1, .string nE, .int .i64 0, .string { data := #[97] }, .slice none 0 0] 30 (0, 0)))
    (h3 : w.heap[b3]? = some (.cells #[.int .i64 1, .string nE, .int .i64 0, .string { data := #[97] }, .slice none 0 0, .int .i64 4, .string { data := #[45] }, .int .i64 0, .string nE, .slice (some ⟨b, 0, none⟩) 2 2] 30 (0, 0)))
    (h2 : w.heap[b2]? = some (.cells #[.int .i64 1, .int .i64 0, .string { data := #[120] }, .string nE, .slice (some ⟨b3, 0, none⟩) 2 2, .slice none 0 0, .slice none 0 0, .int .i64 6, .int .i64 0, .string nE, .string nE, .slice none 0 0, .slice none 0 0, .slice none 0 0] 83 (0, 0)))
    (hg : w.heap[g]? = some (.cells #[.int .i64 5, .int .i64 3, .string nE, .string nE, .slice (some ⟨b1, 0, none⟩) 1 1, .slice (some ⟨b2, 0, none⟩) 2 2, .slice none 0 0] 83 (0, 0))) : SsIn w 0 (some ⟨g, 0, none⟩) 0 [exS a b b1 b2 b3] := by
  have e2 : EsIn w 0 (some ⟨b3, 0, none⟩) 0 [vrT { data := #[97] }, exE a b] := by
    rw [EsIn, EsIn, EsIn]
    exact ⟨row_block h3 (Nat.zero_le _) rfl, vr_in _ _, row_block h3 (Nat.zero_le _) rfl, hE, trivial⟩
  have e1 : EsIn w 0 (some ⟨b1, 0, none⟩) 0 [vrT { data := #[97] }] := by
    rw [EsIn, EsIn]
    exact ⟨row_block h1 (Nat.zero_le _) rfl, vr_in _ _, trivial⟩
  have n1 : SsIn w 0 none 0 [] := by rw [SsIn]; trivial
  have n2 : EsIn w 0 none 0 [] := by rw [EsIn]; trivial
  have s1 : (ST.mk 1 0 { data := #[120] } nE (some ⟨b3, 0, none⟩) 2 [vrT { data := #[97] }, exE a b] none 0 [] none 0 []).In w 0 := by
    rw [ST.In]
    exact ⟨by decide, ⟨by simp, by simp, by simp⟩, e2, n1, n1⟩
  have s2 : (ST.mk 6 0 nE nE none 0 [] none 0 [] none 0 []).In w 0 := by
    rw [ST.In]
    exact ⟨by decide, ⟨by simp, by simp, by simp⟩, n2, n1, n1⟩
  have hb : SsIn w 0 (some ⟨b2, 0, none⟩) 0 (exB a b b3) := by
    rw [SsIn, SsIn, SsIn]
    exact ⟨row_block h2 (Nat.zero_le _) rfl, s1, row_block h2 (Nat.zero_le _) rfl, s2, trivial⟩
  have hS : (exS a b b1 b2 b3).In w 0 := by
    rw [ST.In]
    exact ⟨by decide, ⟨by simp, by simp, by simp⟩, e1, hb, n1⟩
  rw [SsIn, SsIn]
  exact ⟨row_block hg (Nat.zero_le _) rfl, hS, trivial⟩
theorem exF_in {w : World} {a b b1 b2 b3 g gd gf : Nat} (hS : SsIn w 0 (some ⟨g, 0, none⟩) 0 [exS a b b1 b2 b3])
    (hd : w.heap[gd]? = some (.cells #[.string { data := #[97] }, .int .i64 0, .string { data := #[120] }, .int .i64 4] 85 (0, 0)))
    (hf : w.heap[gf]? = some (.cells #[.string { data := #[109, 97, 105, 110] }, .slice none 0 0, .slice (some ⟨gd, 0, none⟩) 2 2, .slice (some ⟨g, 0, none⟩) 1 1] 55 (0, 0))) : FsIn w 0 (some ⟨gf, 0, none⟩) [exF a b b1 b2 b3 g gd] := by
  have hF : (exF a b b1 b2 b3 g gd).In w 0 := by
    refine ⟨by simp, by simp, by simp, fun i hi => absurd hi (by simp), fun i hi => ?_, fun i hi => ?_, hS⟩
    · match i, hi with
      | 0, _ => exact row_block hd (Nat.zero_le _) rfl
      | 1, _ => exact row_block hd (Nat.zero_le _) rfl
    · match i, hi with
      | 0, _ => exact ⟨by show (-9223372036854775808 : Int) ≤ 0; decide, by show (0 : Int) ≤ 9223372036854775807; decide⟩
      | 1, _ => exact ⟨by show (-9223372036854775808 : Int) ≤ 4; decide, by show (4 : Int) ≤ 9223372036854775807; decide⟩
  refine ⟨by simp, fun i hi => ?_, fun i hi => ?_⟩
  · obtain rfl : i = 0 := by simpa using hi
    exact row_block hf (Nat.zero_le _) rfl
  · obtain rfl : i = 0 := by simpa using hi
    exact hF
theorem Pow.on {w0 w : World} (H : Pow w0) (h : Past w0 w) : Pow w := fun w' h' => H w' (h.on h')
end Go.Proofs.YtppeogcpoplpeaaGreatDoor

set_option linter.unusedSimpArgs false
set_option linter.unusedVariables false
namespace Go.Proofs.YtppeogcpoplpeaaGreatDoor
open Go Go.RowKit

theorem exc1 (a b : Nat) : putR levL (exE a b).re = [97, 32, 45, 32, 40, 98, 32, 45, 32, 45, 50, 41] := by kernel_rfl
theorem exc3 (a b : Nat) : (exE a b).rightB = true := by kernel_rfl
theorem exc4 (a b b1 b2 b3 g gd : Nat) : [exF a b b1 b2 b3 g gd].all FT.rightB = true := by kernel_rfl
theorem exc6 (a b b1 b2 b3 : Nat) : wrap64 (cnts [exS a b b1 b2 b3] : Nat) = 3 := by
  have e : cnts [exS a b b1 b2 b3] = 3 := by kernel_rfl
  rw [e]; exact wrap_small 3 (by omega)
theorem exc7 : (vrT { data := #[105, 102] }).rightB = false := by kernel_rfl
theorem exc5 (a b b1 b2 b3 g gd : Nat) : sameFs [exF a b b1 b2 b3 g gd] [exF a b b1 b2 b3 g gd] = true := by kernel_rfl
theorem exc2 (a b b1 b2 b3 g gd : Nat) : progT [exF a b b1 b2 b3 g gd] = [102, 117, 110, 99, 32, 109, 97, 105, 110, 40, 41, 32, 123, 10, 9, 118, 97, 114, 32, 97, 44, 32, 120, 91, 52, 93, 59, 10, 9, 64, 51, 32, 119, 104, 105, 108, 101, 32, 40, 97, 41, 32, 123, 10, 9, 9, 120, 91, 97, 93, 32, 61, 32, 97, 32, 45, 32, 40, 98, 32, 45, 32, 45, 50, 41, 59, 10, 9, 9, 98, 114, 101, 97, 107, 59, 10, 9, 125, 10, 125, 10] := by kernel_rfl
abbrev exU (q : Nat) : ET := .mk 3 { data := #[45] } 0 nE (some ⟨q, 0, none⟩) 1 [.mk 0 nE 5 nE none 0 []]
theorem exc8 (q : Nat) : putR levL (exU q).re = [45, 40, 53, 41] := by kernel_rfl
theorem exc9 (q : Nat) : (exU q).rightB = true := by kernel_rfl
theorem five_in (w : World) : (ET.mk 0 nE 5 nE none 0 []).In w 0 := by
  simp only [ET.In, EsIn]
  decide
theorem exU_in {w : World} {q : Nat} (h : w.heap[q]? = some (.cells #[.int .i64 0, .string nE, .int .i64 5, .string nE, .slice none 0 0] 30 (0, 0))) : (exU q).In w 0 := by
  rw [ET.In, EsIn, EsIn]
  exact ⟨by decide, by simp, row_block h (Nat.zero_le _) rfl, five_in _, trivial⟩
theorem putU_any {w1 : World} (H : Pow w1) :
    Calls Tryz.prog 21 #[.agg #[.int .i64 3, .string { data := #[45] }, .int .i64 0, .string { data := #[] }, .slice (some ⟨w1.heap.size, 0, none⟩) 1 1]] (w1.alloc (.cells #[.int .i64 0, .string { data := #[] }, .int .i64 5, .string { data := #[] }, .slice none 0 0] 30)) fun e w' => e = .returned (.string { data := #[45, 40, 53, 41] }) ∧ Below w1.heap.size w1 w' := by
  have h := putExpr_any (w0 := w1.alloc (.cells #[.int .i64 0, .string { data := #[] }, .int .i64 5, .string { data := #[] }, .slice none 0 0] 30)) (H.on ((Past.refl _).alloc _)) (exU_in (bk_new w1 _)) (exc9 _) (by rw [exc8]; decide) _ (Past.refl _)
  rw [exc8] at h
  refine h.mono ?_
  rintro e w' ⟨rfl, hb⟩
  exact ⟨rfl, step_on ((Below.refl _ _).alloc (Nat.le_refl _) _) hb⟩
end Go.Proofs.YtppeogcpoplpeaaGreatDoor
