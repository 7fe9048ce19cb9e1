/- Functions and programs as they lie in memory; what right asks of them. What right asks of a function, and of a program. What the writer writes of names, of declarations, of a function's variables. What the writer writes of lists of names and of declarations. (Written by genl.py.) What Put answers of a right program. What Put and PutStmts answer of what is right. What same asks of lists of expressions and of statements: are all fields the same, wherever they lie? (Written by gens.py.) What same asks of two expressions, and of two statements, with all below. (Written by gens2.py.) Two declarations compared by the language. What same asks of declarations, of functions and of programs. What same asks of functions and of programs. (Written by gens4.py.) What Count answers of statements that lie in memory. The chapter's examples hold. What the plain functions tell of the chapter's examples. The chapter's examples hold, whatever the memory, as long as strconv's table of powers is as its text lays it. From the row's condition on the listed variables: strconv's table of powers is as its text lays it. -/
import Derived.Test.YtdaklmbifkehpaaGreatDoorTMade
import Derived.Lib.LaidU8
import Derived.ProofKit
set_option linter.unusedSimpArgs false
set_option linter.unusedVariables false
namespace Go.Proofs.YtdaklmbifkehpaaGreatDoor
open Go Go.RowKit

structure FT where
  name : ByteArray
  pa : Option Addr
  pc : Nat
  params : List ByteArray
  va : Option Addr
  vc : Nat
  vars : List (ByteArray × Int)
  ba : Option Addr
  bc : Nat
  body : List ST
def FT.cells (F : FT) : Array Value := #[.string F.name, .slice F.pa F.params.length F.pc, .slice F.va F.vars.length F.vc, .slice F.ba F.body.length F.bc]
abbrev FT.val (F : FT) : Value := .agg F.cells
def StrAt (w : World) (B : Nat) (a : Option Addr) (i : Nat) (s : ByteArray) : Prop := ∃ b o, a = some ⟨b, o, none⟩ ∧ B ≤ b ∧ w.cell? ⟨b, o + i, none⟩ = some (.string s)
structure FT.In (w : World) (B : Nat) (F : FT) : Prop where
  pl : F.params.length ≤ 9223372036854775807
  vl : F.vars.length ≤ 9223372036854775807
  bl : F.body.length ≤ 9223372036854775807
  ps : ∀ (i : Nat) (h : i < F.params.length), StrAt w B F.pa i F.params[i]
  vs : ∀ (i : Nat) (h : i < F.vars.length), RowAt w B F.va i 2 #[.string F.vars[i].1, .int .i64 F.vars[i].2]
  vr : ∀ (i : Nat) (h : i < F.vars.length), -9223372036854775808 ≤ F.vars[i].2 ∧ F.vars[i].2 ≤ 9223372036854775807
  ss : SsIn w B F.ba 0 F.body
structure FsIn (w : World) (B : Nat) (a : Option Addr) (l : List FT) : Prop where
  len : l.length ≤ 9223372036854775807
  row : ∀ (i : Nat) (h : i < l.length), RowAt w B a i 4 l[i].cells
  fs : ∀ (i : Nat) (h : i < l.length), l[i].In w B
theorem StrAt.keep {w w' : World} {B : Nat} {a : Option Addr} {i : Nat} {s : ByteArray} (h : StrAt w B a i s) (hk : ∀ p v, B ≤ p.block → w.cell? p = some v → w'.cell? p = some v) : StrAt w' B a i s := by
  obtain ⟨b, o, e, hB, hc⟩ := h
  exact ⟨b, o, e, hB, hk _ _ hB hc⟩
theorem StrAt.mono {w : World} {B B' : Nat} {a : Option Addr} {i : Nat} {s : ByteArray} (h : StrAt w B a i s) (hB : B' ≤ B) : StrAt w B' a i s := by
  obtain ⟨b, o, e, h1, hc⟩ := h
  exact ⟨b, o, e, Nat.le_trans hB h1, hc⟩
theorem FT.In.keep {w w' : World} {B : Nat} {F : FT} (h : F.In w B) (hk : ∀ p v, B ≤ p.block → w.cell? p = some v → w'.cell? p = some v) : F.In w' B :=
  ⟨h.pl, h.vl, h.bl, fun i hi => (h.ps i hi).keep hk, fun i hi => (h.vs i hi).keep hk, h.vr, h.ss.keep hk⟩
theorem FT.In.mono {w : World} {B B' : Nat} {F : FT} (h : F.In w B) (hB : B' ≤ B) : F.In w B' :=
  ⟨h.pl, h.vl, h.bl, fun i hi => (h.ps i hi).mono hB, fun i hi => (h.vs i hi).mono hB, h.vr, h.ss.mono hB⟩
theorem FsIn.keep {w w' : World} {B : Nat} {a : Option Addr} {l : List FT} (h : FsIn w B a l) (hk : ∀ p v, B ≤ p.block → w.cell? p = some v → w'.cell? p = some v) : FsIn w' B a l :=
  ⟨h.len, fun i hi => (h.row i hi).keep hk, fun i hi => (h.fs i hi).keep hk⟩
theorem FsIn.mono {w : World} {B B' : Nat} {a : Option Addr} {l : List FT} (h : FsIn w B a l) (hB : B' ≤ B) : FsIn w B' a l :=
  ⟨h.len, fun i hi => (h.row i hi).mono hB, fun i hi => (h.fs i hi).mono hB⟩
theorem FsIn.on {w w' : World} {B : Nat} {a : Option Addr} {l : List FT} (h : FsIn w B a l) (hb : Below w.heap.size w w') : FsIn w' B a l := h.keep (below_keep hb)

def declB (d : ByteArray × Int) : Bool := nmB d.1 && decide (0 ≤ d.2)
def FT.rightB (F : FT) : Bool := nmB F.name && (F.params.all nmB && (F.vars.all declB && rightSs F.body))
def FT.rf (F : FT) : RF := { name := F.name.data.toList, params := F.params.map fun s => s.data.toList, vars := F.vars.map fun d => (d.1.data.toList, d.2.toNat), body := rss F.body }
end Go.Proofs.YtdaklmbifkehpaaGreatDoor

set_option linter.unusedSimpArgs false
set_option linter.unusedVariables false
namespace Go.Proofs.YtdaklmbifkehpaaGreatDoor
open Go Go.RowKit

end Go.Proofs.YtdaklmbifkehpaaGreatDoor

set_option linter.unusedSimpArgs false
set_option linter.unusedVariables false
namespace Go.Proofs.YtdaklmbifkehpaaGreatDoor
open Go Go.RowKit

end Go.Proofs.YtdaklmbifkehpaaGreatDoor

set_option linter.unusedSimpArgs false
set_option linter.unusedVariables false
namespace Go.Proofs.YtdaklmbifkehpaaGreatDoor
open Go Go.RowKit

end Go.Proofs.YtdaklmbifkehpaaGreatDoor

set_option linter.unusedSimpArgs false
set_option linter.unusedVariables false
namespace Go.Proofs.YtdaklmbifkehpaaGreatDoor
open Go Go.RowKit

def FT.text (F : FT) : List UInt8 := putF levL F.rf
end Go.Proofs.YtdaklmbifkehpaaGreatDoor

set_option linter.unusedSimpArgs false
set_option linter.unusedVariables false
namespace Go.Proofs.YtdaklmbifkehpaaGreatDoor
open Go Go.RowKit

end Go.Proofs.YtdaklmbifkehpaaGreatDoor

set_option linter.unusedSimpArgs false
set_option linter.unusedVariables false
namespace Go.Proofs.YtdaklmbifkehpaaGreatDoor
open Go Go.RowKit

end Go.Proofs.YtdaklmbifkehpaaGreatDoor

set_option linter.unusedSimpArgs false
set_option linter.unusedVariables false
namespace Go.Proofs.YtdaklmbifkehpaaGreatDoor
open Go Go.RowKit

end Go.Proofs.YtdaklmbifkehpaaGreatDoor

set_option linter.unusedSimpArgs false
set_option linter.unusedVariables false
namespace Go.Proofs.YtdaklmbifkehpaaGreatDoor
open Go Go.RowKit
end Go.Proofs.YtdaklmbifkehpaaGreatDoor

set_option linter.unusedSimpArgs false
set_option linter.unusedVariables false
namespace Go.Proofs.YtdaklmbifkehpaaGreatDoor
open Go Go.RowKit

end Go.Proofs.YtdaklmbifkehpaaGreatDoor

set_option linter.unusedSimpArgs false
set_option linter.unusedVariables false
namespace Go.Proofs.YtdaklmbifkehpaaGreatDoor
open Go Go.RowKit

structure FsAt (w : World) (B : Nat) (a : Option Addr) (z : Nat) (l : List FT) : Prop where
  it : FsIn w B a l
theorem FsAt.nth {w : World} {B : Nat} {a : Option Addr} {l : List FT} (h : FsAt w B a 0 l) (j : Nat) (hj : j < l.length) : RowAt w B a (0 + j) 4 l[j].cells ∧ l[j].In w B := by
  rw [Nat.zero_add]; exact ⟨h.it.row j hj, h.it.fs j hj⟩
end Go.Proofs.YtdaklmbifkehpaaGreatDoor

set_option linter.unusedSimpArgs false
set_option linter.unusedVariables false
namespace Go.Proofs.YtdaklmbifkehpaaGreatDoor
open Go Go.RowKit

mutual
def ST.cnt : ST → Nat
  | .mk _ _ _ _ _ _ _ _ _ b _ _ l => 1 + (cnts b + cnts l)
def cnts : List ST → Nat
  | [] => 0
  | S :: l => S.cnt + cnts l
end
def ST.body : ST → List ST
  | .mk _ _ _ _ _ _ _ _ _ b _ _ _ => b
def ST.els : ST → List ST
  | .mk _ _ _ _ _ _ _ _ _ _ _ _ l => l
end Go.Proofs.YtdaklmbifkehpaaGreatDoor

set_option linter.unusedSimpArgs false
set_option linter.unusedVariables false
namespace Go.Proofs.YtdaklmbifkehpaaGreatDoor
open Go Go.RowKit

theorem Pow.on {w0 w : World} (H : Pow w0) (h : Past w0 w) : Pow w := fun w' h' => H w' (h.on h')
end Go.Proofs.YtdaklmbifkehpaaGreatDoor

set_option linter.unusedSimpArgs false
set_option linter.unusedVariables false
namespace Go.Proofs.YtdaklmbifkehpaaGreatDoor
open Go Go.RowKit

end Go.Proofs.YtdaklmbifkehpaaGreatDoor

set_option linter.unusedSimpArgs false
set_option linter.unusedVariables false
namespace Go.Proofs.YtdaklmbifkehpaaGreatDoor
open Go Go.RowKit

end Go.Proofs.YtdaklmbifkehpaaGreatDoor

namespace Go.Proofs.YtdaklmbifkehpaaGreatDoor
open Go Go.RowKit
theorem gPow : Tryz.prog.globalNamed "internal/strconv.uint64pow10" = some 0 := by kernel_rfl
theorem laid_facts {l : List (String × DataW Unit)} {W : World} (h : laidMet Tryz.prog l W) (hm : ("internal/strconv.uint64pow10", (Lib.tabData .u64 Lib.pow10Tab : DataW Unit)) ∈ l := by first | exact .head _ | exact .tail _ (.head _) | exact .tail _ (.tail _ (.head _))) : Pow W := by
  obtain ⟨g, ty, cs, fuel, q, hg, hty, hv, hd⟩ := Lib.laidMet.reads h hm
  obtain rfl := Option.some.inj (gPow.symm.trans hg)
  obtain rfl : 204 = ty := Option.some.inj ((show (Tryz.prog.globals[0]?).map (·.type) = some 204 by kernel_rfl).symm.trans hty)
  refine Lib.tabBelow_of_tabIs ?_
  unfold Lib.TabIs
  rw [hv, ← Lib.cells_of_tab Tryz.underlying204 Tryz.underlying161 (by kernel_rfl) (by kernel_rfl) hd]
end Go.Proofs.YtdaklmbifkehpaaGreatDoor
