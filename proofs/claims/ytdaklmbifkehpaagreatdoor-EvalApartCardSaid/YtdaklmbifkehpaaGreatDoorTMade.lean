/- What PutExpr answers of a right expression. Statements, functions and programs as they lie in memory; what right, same and Count ask of them, as plain functions. What right asks of one statement. (Written by genr.py.) What right asks of lists of statements, and of a statement with all below it. Worlds between which little has turned: what they keep of expressions and statements; rows of one expression, of two. No walk stands in this text. A row that a loop appends to: of statements, of expressions; its parts lie elsewhere. No walk stands in this text. -/
import Derived.Test.YtdaklmbifkehpaaGreatDoorTRight2
import Derived.Maps.AppendAt
set_option linter.unusedSimpArgs false
set_option linter.unusedVariables false
namespace Go.Proofs.YtdaklmbifkehpaaGreatDoor
open Go Go.RowKit
open Go.Lib (hid)

theorem wr_new (w : World) : Wr w.heap.size w.heap.size [] 0 (w.alloc (.cells #[.pointer none, .slice none 0 0, .int .i64 0] 151)) :=
  ⟨Nat.le_refl _, .pointer none, .slice none 0 0, .inl rfl, bk_new _ _, World.ownsRow_nil _ _ _ _, by simp [Value.ownBlock]⟩
set_option maxHeartbeats 2000000 in
set_option maxRecDepth 100000 in
theorem putE_any {w0 : World} (H : Pow w0) {T : ET} (hin : T.In w0 0) (hr : T.rightB = true) (hlen : (putR levL T.re).length ≤ 140737488355328) (w : World) (hp : Past w0 w) :
    Calls Tryz.prog 53 #[T.val, .func (.func 30) #[] #[], .func (.func 54) #[] #[]] w fun e w' => e = .returned (.string ⟨(putR levL T.re).toArray⟩) ∧ Below w.heap.size w w' := by
  have HX := hid (expr_any H T.sz T (Nat.le_refl _) hr hin)
  have HR : Hid (∀ W, Past w0 W → Calls Tryz.prog 30 #[T.val] W fun e w' => e = .returned (.bool true) ∧ Below W.heap.size W w') := hid fun W hW => by have := rightExpr_any hin W hW; rwa [hr] at this
  have HP := hid hp
  have HL : Hid (([] : List UInt8).length + (putR levL T.re).length ≤ 140737488355328) := hid (by simpa using hlen)
  clear hp hlen hin hr H
  unfold ExprDoes at HX
  rw [ET.val_is] at HX HR ⊢
  generalize putR levL T.re = tx at HX HL ⊢
  go_enter Tryz.func53, Tryz.ntmps53
  go_wp2_with (first
    | (go_at_call 72; refine (string_any G2.out.wr).mono ?_; rintro e w3 ⟨rfl, hb3⟩; have HB3 := hid hb3; clear hb3)
    | (go_at_call 54; have hx := HX.out w1.heap.size w1.heap.size [] 0 _ HP1.out.size (wr_new w1) (HP1.out.alloc _) HL.out; refine hx.mono ?_; clear hx; rintro e w2 ⟨rfl, g2⟩; have G2 := hid g2; clear g2)
    | (go_at_call 30; have hx := HR.out _ (HP.out.alloc (.cells #[.int .i64 T.kind, .string T.op, .int .i64 T.n, .string T.name, .slice T.kaddr T.kids.length T.kcap] 26)); refine hx.mono ?_; clear hx; rintro e w1 ⟨rfl, hb⟩; obtain ⟨c0, c1, c2, c3, c4⟩ := cells5 ((hb.block w.heap.size (by simp)).trans (bk_new _ _)); have hlt : w.heap.size < w1.heap.size := (by have := hb.size; simp at this; omega); have HP1 := hid ((HP.out.alloc _).on hb); have HB1 := hid (step_on ((Below.refl _ _).alloc (Nat.le_refl _) _) hb); clear hb))
  go_ret
  refine ⟨rfl, ?_⟩
  have h2 : Below w1.heap.size w1 w3 := (((Below.refl w1.heap.size w1).alloc (Nat.le_refl _) _).trans G2.out.below).trans HB3.out
  exact step_on HB1.out h2
set_option maxHeartbeats 1000000 in
theorem putExpr_any {w0 : World} (H : Pow w0) {T : ET} (hin : T.In w0 0) (hr : T.rightB = true) (hlen : (putR levL T.re).length ≤ 140737488355328) (w : World) (hp : Past w0 w) :
    Calls Tryz.prog 32 #[T.val] w fun e w' => e = .returned (.string ⟨(putR levL T.re).toArray⟩) ∧ Below w.heap.size w w' := by
  have HX := hid (putE_any H hin hr hlen)
  have HP := hid hp
  clear hp hlen hin hr H
  rw [ET.val_is] at HX ⊢
  generalize putR levL T.re = tx at HX ⊢
  go_enter Tryz.func32, Tryz.ntmps32
  go_wp2_with (go_at_call 53; have hx := HX.out _ (HP.out.alloc (.cells #[.int .i64 T.kind, .string T.op, .int .i64 T.n, .string T.name, .slice T.kaddr T.kids.length T.kcap] 26)); refine hx.mono ?_; clear hx; rintro e w1 ⟨rfl, hb⟩)
  go_ret
  exact ⟨rfl, step_on ((Below.refl _ _).alloc (Nat.le_refl _) _) hb⟩
end Go.Proofs.YtdaklmbifkehpaaGreatDoor

set_option linter.unusedSimpArgs false
set_option linter.unusedVariables false
namespace Go.Proofs.YtdaklmbifkehpaaGreatDoor
open Go Go.RowKit
open Go.Lib (hid)

inductive ST where
  | mk (kind tag : Int) (name func : ByteArray) (ea : Option Addr) (ec : Nat) (e : List ET) (ba : Option Addr) (bc : Nat) (body : List ST) (la : Option Addr) (lc : Nat) (els : List ST)
def ST.cells : ST → Array Value
  | .mk k t n f ea ec e ba bc b la lc l => #[.int .i64 k, .int .i64 t, .string n, .string f, .slice ea e.length ec, .slice ba b.length bc, .slice la l.length lc]
abbrev ST.val (S : ST) : Value := .agg S.cells
mutual
def ST.In (w : World) (B : Nat) : ST → Prop
  | .mk _ t _ _ ea _ e ba _ b la _ l => (-9223372036854775808 ≤ t ∧ t ≤ 9223372036854775807) ∧ (e.length ≤ 9223372036854775807 ∧ b.length ≤ 9223372036854775807 ∧ l.length ≤ 9223372036854775807) ∧ EsIn w B ea 0 e ∧ SsIn w B ba 0 b ∧ SsIn w B la 0 l
def SsIn (w : World) (B : Nat) (a : Option Addr) : Nat → List ST → Prop
  | _, [] => True
  | i, S :: l => RowAt w B a i 7 S.cells ∧ S.In w B ∧ SsIn w B a (i + 1) l
end
mutual
theorem ST.In.keep {w w' : World} {B : Nat} (hk : ∀ p v, B ≤ p.block → w.cell? p = some v → w'.cell? p = some v) : ∀ {S : ST}, S.In w B → S.In w' B
  | .mk k t n f ea ec e ba bc b la lc l, h => by
    rw [ST.In] at h ⊢
    exact ⟨h.1, h.2.1, h.2.2.1.keep hk, SsIn.keep hk h.2.2.2.1, SsIn.keep hk h.2.2.2.2⟩
theorem SsIn.keep {w w' : World} {B : Nat} {a : Option Addr} (hk : ∀ p v, B ≤ p.block → w.cell? p = some v → w'.cell? p = some v) : ∀ {i : Nat} {l : List ST}, SsIn w B a i l → SsIn w' B a i l
  | _, [], _ => by rw [SsIn]; trivial
  | i, S :: l, h => by
    rw [SsIn] at h ⊢
    exact ⟨h.1.keep hk, h.2.1.keep hk, SsIn.keep hk h.2.2⟩
end
mutual
theorem ST.In.mono {w : World} {B B' : Nat} (hB : B' ≤ B) : ∀ {S : ST}, S.In w B → S.In w B'
  | .mk k t n f ea ec e ba bc b la lc l, h => by
    rw [ST.In] at h ⊢
    exact ⟨h.1, h.2.1, h.2.2.1.mono hB, SsIn.mono hB h.2.2.2.1, SsIn.mono hB h.2.2.2.2⟩
theorem SsIn.mono {w : World} {B B' : Nat} {a : Option Addr} (hB : B' ≤ B) : ∀ {i : Nat} {l : List ST}, SsIn w B a i l → SsIn w B' a i l
  | _, [], _ => by rw [SsIn]; trivial
  | i, S :: l, h => by
    rw [SsIn] at h ⊢
    exact ⟨h.1.mono hB, h.2.1.mono hB, SsIn.mono hB h.2.2⟩
end
theorem ST.In.on {w w' : World} {B : Nat} {S : ST} (h : S.In w B) (hb : Below w.heap.size w w') : S.In w' B := h.keep (below_keep hb)
theorem SsIn.on {w w' : World} {B : Nat} {a : Option Addr} {i : Nat} {l : List ST} (h : SsIn w B a i l) (hb : Below w.heap.size w w') : SsIn w' B a i l := h.keep (below_keep hb)
theorem SsIn.nth {w : World} {B : Nat} {a : Option Addr} : ∀ {l : List ST} {i : Nat}, SsIn w B a i l → ∀ (j : Nat) (hj : j < l.length), RowAt w B a (i + j) 7 l[j].cells ∧ l[j].In w B
  | [], _, _, j, hj => by simp at hj
  | S :: l, i, h, j, hj => by
    rw [SsIn] at h
    cases j with
    | zero => exact ⟨h.1, h.2.1⟩
    | succ j =>
      have := SsIn.nth h.2.2 j (by simpa using hj)
      rw [show i + 1 + j = i + (j + 1) by omega] at this
      exact this

mutual
def ST.sz : ST → Nat
  | .mk _ _ _ _ _ _ e _ _ b _ _ l => 1 + szs e + Szs b + Szs l
def Szs : List ST → Nat
  | [] => 0
  | S :: l => S.sz + Szs l
end
def setsC (n f : ByteArray) : Bool := nmB n && f.toList.isEmpty
def noneC (n f : ByteArray) : Bool := n.toList.isEmpty && f.toList.isEmpty
def flatC (b l : Nat) : Bool := b == 0 && l == 0
def formedS (k t : Int) (n f : ByteArray) (e b l : Nat) : Bool :=
  if t < 0 ∨ 1000000 < t then false
  else if k = 0 then setsC n f && flatC b l && e == 1
  else if k = 1 then setsC n f && flatC b l && e == 2
  else if k = 2 then setsC n f && flatC b l && e == 0
  else if k = 3 then nmB n && nmB f && flatC b l
  else if k = 4 then noneC n f && e == 1
  else if k = 5 then noneC n f && l == 0 && e == 1
  else if k = 6 then noneC n f && flatC b l && e == 0
  else if k = 7 then noneC n f && flatC b l && e == 0
  else if k = 8 then noneC n f && flatC b l && e == 1
  else if k = 9 then noneC n f && flatC b l && e == 1
  else false
mutual
def ST.rightB : ST → Bool
  | .mk k t n f _ _ e _ _ b _ _ l => formedS k t n f e.length b.length l.length && rightEs e && rightSs b && rightSs l
def rightSs : List ST → Bool
  | [] => true
  | S :: l => S.rightB && rightSs l
end
def nthR : List ET → Nat → RE
  | [], _ => .num 0
  | T :: _, 0 => T.re
  | _ :: l, i + 1 => nthR l i
def res (l : List ET) : List RE := l.map ET.re
mutual
def ST.rs : ST → RS
  | .mk k t n f _ _ e _ _ b _ _ l =>
    if k = 0 then .asg t.toNat n.data.toList (nthR e 0)
    else if k = 1 then .sto t.toNat n.data.toList (nthR e 0) (nthR e 1)
    else if k = 2 then .rd t.toNat n.data.toList
    else if k = 3 then .call t.toNat n.data.toList f.data.toList (res e)
    else if k = 4 then .ife t.toNat (nthR e 0) (rss b) (rss l)
    else if k = 5 then .whl t.toNat (nthR e 0) (rss b)
    else if k = 6 then .brk t.toNat
    else if k = 7 then .cnt t.toNat
    else if k = 8 then .ret t.toNat (nthR e 0)
    else .ass t.toNat (nthR e 0)
def rss : List ST → List RS
  | [] => []
  | S :: l => S.rs :: rss l
end
end Go.Proofs.YtdaklmbifkehpaaGreatDoor

set_option linter.unusedSimpArgs false
set_option linter.unusedVariables false
namespace Go.Proofs.YtdaklmbifkehpaaGreatDoor
open Go Go.RowKit

theorem ST.cells_is (k t : Int) (n f : ByteArray) (ea : Option Addr) (ec : Nat) (e : List ET) (ba : Option Addr) (bc : Nat) (b : List ST) (la : Option Addr) (lc : Nat) (l : List ST) : (ST.mk k t n f ea ec e ba bc b la lc l).cells = #[.int .i64 k, .int .i64 t, .string n, .string f, .slice ea e.length ec, .slice ba b.length bc, .slice la l.length lc] := rfl
end Go.Proofs.YtdaklmbifkehpaaGreatDoor

set_option linter.unusedSimpArgs false
set_option linter.unusedVariables false
namespace Go.Proofs.YtdaklmbifkehpaaGreatDoor
open Go Go.RowKit

def ST.kind : ST → Int
  | .mk k _ _ _ _ _ _ _ _ _ _ _ _ => k
def ST.tag : ST → Int
  | .mk _ t _ _ _ _ _ _ _ _ _ _ _ => t
def ST.name : ST → ByteArray
  | .mk _ _ n _ _ _ _ _ _ _ _ _ _ => n
def ST.func : ST → ByteArray
  | .mk _ _ _ f _ _ _ _ _ _ _ _ _ => f
def ST.ea : ST → Option Addr
  | .mk _ _ _ _ ea ec e ba bc b la lc l => ea
def ST.ec : ST → Nat
  | .mk _ _ _ _ ea ec e ba bc b la lc l => ec
def ST.ba : ST → Option Addr
  | .mk _ _ _ _ ea ec e ba bc b la lc l => ba
def ST.bc : ST → Nat
  | .mk _ _ _ _ ea ec e ba bc b la lc l => bc
def ST.la : ST → Option Addr
  | .mk _ _ _ _ ea ec e ba bc b la lc l => la
def ST.lc : ST → Nat
  | .mk _ _ _ _ ea ec e ba bc b la lc l => lc
end Go.Proofs.YtdaklmbifkehpaaGreatDoor

set_option linter.unusedSimpArgs false
set_option linter.unusedVariables false
namespace Go.Proofs.YtdaklmbifkehpaaGreatDoor
open Go Go.RowKit

abbrev mE : ByteArray := { data := #[] }
theorem setCell_grown (w : World) (f k : Nat) (u : Value) : w.grownBy (w.setCell ⟨f, k, none⟩ u) (some f) :=
  ⟨rfl, rfl, rfl, by simp [World.setCell], fun k _ hk => Below.heap_setCell _ _ _ _ (fun e => hk (by simp [e]))⟩
theorem grown_refl (w : World) (r : Option Nat) : w.grownBy w r := ⟨rfl, rfl, rfl, Nat.le_refl _, fun _ _ _ => rfl⟩
theorem grown_trans {w w1 w2 : World} {r : Option Nat} (h : w.grownBy w1 r) (k : w1.grownBy w2 r) : w.grownBy w2 r :=
  ⟨k.os.trans h.os, k.tape.trans h.tape, k.output.trans h.output, Nat.le_trans h.size k.size, fun i hi hr => (k.block i (Nat.lt_of_lt_of_le hi h.size) hr).trans (h.block i hi hr)⟩
theorem grown_alloc {w w1 : World} {r : Option Nat} (h : w.grownBy w1 r) (o : Obj) : w.grownBy (w1.alloc o) r := grown_trans h (World.grownBy_alloc _ o r)
theorem grown_drew {w w1 : World} {r : Option Nat} (h : w.grownBy w1 r) : w.grownBy w1.drew r := grown_trans h ⟨rfl, rfl, rfl, Nat.le_refl _, fun _ _ _ => rfl⟩
theorem grown_drewN {w w1 : World} {r : Option Nat} (h : w.grownBy w1 r) (n : Nat) : w.grownBy (w1.drewN n) r := grown_trans h ⟨rfl, rfl, rfl, Nat.le_refl _, fun _ _ _ => rfl⟩
theorem grown_set {w w1 : World} {f : Nat} (h : w.grownBy w1 (some f)) (k : Nat) (u : Value) : w.grownBy (w1.setCell ⟨f, k, none⟩ u) (some f) := grown_trans h (setCell_grown _ _ _ _)

theorem grown_new {w w1 : World} {r : Option Nat} (h : w.grownBy w1 r) {R : Nat} (hR : w.heap.size ≤ R) (k : Nat) (u : Value) : w.grownBy (w1.setCell ⟨R, k, none⟩ u) r :=
  ⟨h.os, h.tape, h.output, by simpa [World.setCell] using h.size, fun i hi hr => (Below.heap_setCell _ _ _ _ (by simp; omega)).trans (h.block i hi hr)⟩
theorem num_in {n : Int} (h : -9223372036854775808 ≤ n ∧ n ≤ 9223372036854775807) (w : World) (B : Nat) : (ET.mk 0 mE n mE none 0 []).In w B := by
  rw [ET.In, EsIn]
  exact ⟨h, by simp, trivial⟩
theorem var_in (s : ByteArray) (w : World) (B : Nat) : (ET.mk 1 mE 0 s none 0 []).In w B := by
  rw [ET.In, EsIn]
  exact ⟨by decide, by simp, trivial⟩
theorem keep_of_grown {w w' : World} {R A : Nat} (hg : w.grownBy w' (some R)) (hR : R < A) : ∀ p v, A ≤ p.block → w.cell? p = some v → w'.cell? p = some v := fun p v hp hc => by
  rw [World.cell?_of_block (w := w) (hg.block p.block (World.block_lt_of_cell? w p hc) (by simp; omega))]
  exact hc
abbrev five (T : ET) : Array Value := #[.int .i64 T.kind, .string T.op, .int .i64 T.n, .string T.name, .slice T.kaddr T.kids.length T.kcap]
theorem kid_in {wx w' : World} {A R : Nat} {T : ET} (h : T.In wx A) (hx : A ≤ wx.heap.size) (hR : R < A) (hA : (wx.alloc (.cells (five T) 26)).grownBy w' (some R)) (k : Int) (o s : ByteArray) : (ET.mk k o 0 s (some ⟨wx.heap.size, 0, none⟩) 1 [T]).In w' R := by
  have h1 : T.In w' R := ((h.on ((Below.refl _ _).alloc (Nat.le_refl _) _)).keep (keep_of_grown hA hR)).mono (Nat.le_of_lt hR)
  have h2 : w'.heap[wx.heap.size]? = some (.cells (five T) 26 (0, 0)) := (hA.block _ (by simp) (by simp; omega)).trans (bk_new _ _)
  rw [ET.In, EsIn, EsIn]
  refine ⟨by decide, by simp, ⟨wx.heap.size, 0, rfl, by omega, fun j v hj => bk_cell h2 ?_⟩, h1, trivial⟩
  rw [ET.cells_is] at hj
  rw [show 0 + 0 * 5 + j = j by omega]
  exact hj
structure KeptP (P : Nat → Prop) (w w' : World) : Prop where
  os : w'.os = w.os
  tape : w'.tape = w.tape
  output : w'.output = w.output
  size : w.heap.size ≤ w'.heap.size
  block : ∀ k, k < w.heap.size → ¬ P k → w'.heap[k]? = w.heap[k]?
section
variable {P : Nat → Prop} {a w w' : World}
theorem KeptP.refl (P : Nat → Prop) (w : World) : KeptP P w w := ⟨rfl, rfl, rfl, Nat.le_refl _, fun _ _ _ => rfl⟩
theorem KeptP.trans (h : KeptP P a w) (k : KeptP P w w') : KeptP P a w' :=
  ⟨k.os.trans h.os, k.tape.trans h.tape, k.output.trans h.output, Nat.le_trans h.size k.size, fun i hi hp => (k.block i (Nat.lt_of_lt_of_le hi h.size) hp).trans (h.block i hi hp)⟩
theorem KeptP.alloc (h : KeptP P a w) (o : Obj) : KeptP P a (w.alloc o) := h.trans ⟨rfl, rfl, rfl, (World.grownBy_alloc w o none).size, fun k hk _ => Below.heap_alloc w o k hk⟩
theorem KeptP.drew (h : KeptP P a w) : KeptP P a w.drew := h.trans ⟨rfl, rfl, rfl, Nat.le_refl _, fun _ _ _ => rfl⟩
theorem KeptP.drewN (h : KeptP P a w) (n : Nat) : KeptP P a (w.drewN n) := h.trans ⟨rfl, rfl, rfl, Nat.le_refl _, fun _ _ _ => rfl⟩
theorem KeptP.set (h : KeptP P a w) {b : Nat} (hb : P b) (k : Nat) (u : Value) : KeptP P a (w.setCell ⟨b, k, none⟩ u) := h.trans ⟨rfl, rfl, rfl, by simp [World.setCell], fun i _ hp => Below.heap_setCell _ _ _ _ (by rintro rfl; exact hp hb)⟩
theorem KeptP.grown (h : KeptP P a w) {b : Nat} (hb : P b) (hg : w.grownBy w' (some b)) : KeptP P a w' := h.trans ⟨hg.os, hg.tape, hg.output, hg.size, fun i hi hp => hg.block i hi (by simp; rintro rfl; exact hp hb)⟩
theorem KeptP.cell (h : KeptP P w w') {p : Addr} {v : Value} (hp : ¬ P p.block) (hc : w.cell? p = some v) : w'.cell? p = some v := by
  rw [World.cell?_of_block (w := w) (h.block p.block (World.block_lt_of_cell? w p hc) hp)]
  exact hc
theorem KeptP.et (h : KeptP P w w') {A : Nat} (hP : ∀ b, A ≤ b → ¬ P b) {T : ET} (hT : T.In w A) : T.In w' A := hT.keep fun p v hp hc => h.cell (hP _ hp) hc
theorem KeptP.ss (h : KeptP P w w') {A i : Nat} {q : Option Addr} {l : List ST} (hP : ∀ b, A ≤ b → ¬ P b) (hT : SsIn w A q i l) : SsIn w' A q i l := hT.keep fun p v hp hc => h.cell (hP _ hp) hc
end
theorem es_one_at {w' : World} {N B' : Nat} {T : ET} (h2 : w'.heap[N]? = some (.cells (five T) 26 (0, 0))) (hT : T.In w' B') (hN : B' ≤ N) : EsIn w' B' (some ⟨N, 0, none⟩) 0 [T] := by
  rw [EsIn, EsIn]
  refine ⟨⟨N, 0, rfl, hN, fun j u hj => bk_cell h2 ?_⟩, hT, trivial⟩
  rw [ET.cells_is] at hj
  rw [show 0 + 0 * 5 + j = j by omega]
  exact hj
abbrev ten (T U : ET) : Array Value := #[.int .i64 T.kind, .string T.op, .int .i64 T.n, .string T.name, .slice T.kaddr T.kids.length T.kcap, .int .i64 U.kind, .string U.op, .int .i64 U.n, .string U.name, .slice U.kaddr U.kids.length U.kcap]
theorem five_lt {T : ET} {j : Nat} {u : Value} (h : (five T)[j]? = some u) : j < 5 := by
  rcases Nat.lt_or_ge j 5 with h2 | h2
  · exact h2
  · rw [Array.getElem?_eq_none (by simpa using h2)] at h; cases h
theorem ten_fst {T U : ET} {j : Nat} {u : Value} (h : (five T)[j]? = some u) : (ten T U)[j]? = some u := by
  match j, five_lt h with
  | 0, _ => exact h
  | 1, _ => exact h
  | 2, _ => exact h
  | 3, _ => exact h
  | 4, _ => exact h
theorem ten_snd {T U : ET} {j : Nat} {u : Value} (h : (five U)[j]? = some u) : (ten T U)[5 + j]? = some u := by
  match j, five_lt h with
  | 0, _ => exact h
  | 1, _ => exact h
  | 2, _ => exact h
  | 3, _ => exact h
  | 4, _ => exact h
theorem es_two_of {w' : World} {N B' : Nat} {T U : ET} {cs : Array Value} {t : TypeId} {fr : Nat × Nat} (h2 : w'.heap[N]? = some (.cells cs t fr)) (hc : ∀ (j : Nat) (u : Value), (ten T U)[j]? = some u → cs[j]? = some u) (hT : T.In w' B') (hU : U.In w' B') (hN : B' ≤ N) : EsIn w' B' (some ⟨N, 0, none⟩) 0 [T, U] := by
  rw [EsIn, EsIn, EsIn]
  refine ⟨⟨N, 0, rfl, hN, fun j u hj => bk_cell h2 ?_⟩, hT, ⟨N, 0, rfl, hN, fun j u hj => bk_cell h2 ?_⟩, hU, trivial⟩
  · rw [ET.cells_is] at hj
    rw [show 0 + 0 * 5 + j = j by omega]
    exact hc _ _ (ten_fst hj)
  · rw [ET.cells_is] at hj
    rw [show 0 + (0 + 1) * 5 + j = 5 + j by omega]
    exact hc _ _ (ten_snd hj)
def hide (g : Option Nat) (w : World) : World :=
  match g with
  | none => w
  | some b => { w with heap := w.heap.modify b fun _ => .cells #[] 0 (0, 0) }
theorem hide_cell {g : Option Nat} {w : World} {p : Addr} {v : Value} : (hide g w).cell? p = some v ↔ some p.block ≠ g ∧ w.cell? p = some v := by
  cases g with
  | none => simp [hide]
  | some b =>
    by_cases h : b = p.block
    · subst h
      constructor
      · intro hc
        exfalso
        cases hh : w.heap[p.block]? with
        | none => simp [hide, World.cell?, Array.getElem?_modify, hh] at hc
        | some o => simp [hide, World.cell?, Array.getElem?_modify, hh] at hc
      · intro ⟨hn, _⟩; exact absurd rfl hn
    · have e : (hide (some b) w).heap[p.block]? = w.heap[p.block]? := by simp [hide, Array.getElem?_modify, h]
      rw [World.cell?_of_block e]
      simp; intro _ hb; exact h hb.symm
theorem allc4 {w : World} {b : Nat} {v0 v1 v2 v3 : Value} {t : TypeId} (h : w.heap[b]? = some (.cells #[v0, v1, v2, v3] t (0, 0))) : (∀ k, w.frozen? ⟨b, k, none⟩ = false) ∧ w.cell? ⟨b, 0, none⟩ = some v0 ∧ w.cell? ⟨b, 1, none⟩ = some v1 ∧ w.cell? ⟨b, 2, none⟩ = some v2 ∧ w.cell? ⟨b, 3, none⟩ = some v3 ∧ b < w.heap.size :=
  ⟨fun k => bk_free h, bk_cell h rfl, bk_cell h rfl, bk_cell h rfl, bk_cell h rfl, lt_of_block h⟩
theorem allc5 {w : World} {b : Nat} {v0 v1 v2 v3 v4 : Value} {t : TypeId} (h : w.heap[b]? = some (.cells #[v0, v1, v2, v3, v4] t (0, 0))) : (∀ k, w.frozen? ⟨b, k, none⟩ = false) ∧ w.cell? ⟨b, 0, none⟩ = some v0 ∧ w.cell? ⟨b, 1, none⟩ = some v1 ∧ w.cell? ⟨b, 2, none⟩ = some v2 ∧ w.cell? ⟨b, 3, none⟩ = some v3 ∧ w.cell? ⟨b, 4, none⟩ = some v4 ∧ b < w.heap.size :=
  ⟨fun k => bk_free h, bk_cell h rfl, bk_cell h rfl, bk_cell h rfl, bk_cell h rfl, bk_cell h rfl, lt_of_block h⟩
end Go.Proofs.YtdaklmbifkehpaaGreatDoor

set_option linter.unusedSimpArgs false
set_option linter.unusedVariables false
namespace Go.Proofs.YtdaklmbifkehpaaGreatDoor
open Go Go.RowKit

def MadeL (B0 : Nat) (v : Value) (l : List ST) (w : World) : Prop :=
  w.ownsRow B0 130 7 v l.length (l.flatMap fun S => S.cells.toList) ∧ ∀ S ∈ l, S.In (hide v.ownBlock w) B0
theorem MadeL.grown {B0 f : Nat} {v : Value} {l : List ST} {w w' : World} (h : MadeL B0 v l w) (hg : w.grownBy w' (some f)) (hf : f < B0) : MadeL B0 v l w' := by
  have hne : v.ownBlock ≠ some f := fun e => by have := (h.1.lt _ e).1; omega
  refine ⟨h.1.kept hg (Or.inr hne), fun S hS => (h.2 S hS).keep fun p u hp hc => ?_⟩
  rw [hide_cell] at hc ⊢
  refine ⟨hc.1, ?_⟩
  rw [World.cell?_of_block (w := w) (hg.block p.block (World.block_lt_of_cell? w p hc.2) (by simp; omega))]
  exact hc.2
theorem MadeL.alloc {B0 : Nat} {v : Value} {l : List ST} {w : World} (h : MadeL B0 v l w) (o : Obj) : MadeL B0 v l (w.alloc o) := by
  refine ⟨h.1.alloc o, fun S hS => (h.2 S hS).keep fun p u hp hc => ?_⟩
  rw [hide_cell] at hc ⊢
  refine ⟨hc.1, ?_⟩
  rw [World.cell?_alloc_lt _ _ _ (World.block_lt_of_cell? w p hc.2)]
  exact hc.2
theorem cells_seven (S : ST) : S.cells.toList.length = 7 := by cases S; rfl
theorem flat_at : ∀ (l : List ST) (i j : Nat) (hi : i < l.length), j < 7 → (l.flatMap fun S => S.cells.toList)[i * 7 + j]? = l[i].cells.toList[j]?
  | S :: l, 0, j, _, hj => by
    rw [List.flatMap_cons, List.getElem?_append_left (by rw [cells_seven]; omega)]
    simp
  | S :: l, i + 1, j, hi, hj => by
    rw [List.flatMap_cons, List.getElem?_append_right (by rw [cells_seven]; omega), cells_seven]
    rw [show (i + 1) * 7 + j - 7 = i * 7 + j by omega]
    exact flat_at l i j (by simpa using hi) hj
theorem ss_of_rows {w : World} {B : Nat} {a : Option Addr} : ∀ (l : List ST) (i : Nat), (∀ j (hj : j < l.length), RowAt w B a (i + j) 7 l[j].cells ∧ l[j].In w B) → SsIn w B a i l
  | [], i, _ => by rw [SsIn]; trivial
  | S :: l, i, h => by
    rw [SsIn]
    refine ⟨(h 0 (by simp)).1, (h 0 (by simp)).2, ss_of_rows l (i + 1) fun j hj => ?_⟩
    have := h (j + 1) (by simpa using hj)
    rw [show i + (j + 1) = i + 1 + j by omega] at this
    exact this
theorem MadeL.ss {B0 : Nat} {v : Value} {l : List ST} {w : World} (h : MadeL B0 v l w) : ∃ a c, v = .slice a l.length c ∧ SsIn w B0 a 0 l := by
  have hin : ∀ S ∈ l, S.In w B0 := fun S hS => (h.2 S hS).keep fun p u hp hc => (hide_cell.1 hc).2
  rcases h.1.2 with ⟨e, hl⟩ | ⟨g, cap, cur, e, hg, hb, hn, hm, hs, ht⟩
  · have : l = [] := List.length_eq_zero_iff.1 hl
    subst this
    exact ⟨none, 0, e, by rw [SsIn]; trivial⟩
  · refine ⟨some ⟨g, 0, none⟩, cap, e, ss_of_rows l 0 fun j hj => ⟨⟨g, 0, rfl, hg, fun k u hk => ?_⟩, hin _ (List.getElem_mem hj)⟩⟩
    have hk7 : k < 7 := by
      have h1 := cells_seven l[j]
      rcases Nat.lt_or_ge k 7 with h2 | h2
      · exact h2
      · rw [Array.getElem?_eq_none (by simpa using (by rw [← h1] at h2; simpa using h2))] at hk; cases hk
    refine bk_cell hb ?_
    have h1 := flat_at l j k hj hk7
    rw [← ht] at h1
    rw [List.getElem?_take_of_lt (by omega)] at h1
    rw [show 0 + (0 + j) * 7 + k = j * 7 + k by omega, ← Array.getElem?_toList, h1, Array.getElem?_toList]
    exact hk
def MadeE (B0 : Nat) (v : Value) (l : List ET) (w : World) : Prop :=
  w.ownsRow B0 26 5 v l.length (l.flatMap fun S => S.cells.toList) ∧ ∀ S ∈ l, S.In (hide v.ownBlock w) B0
theorem MadeE.grown {B0 f : Nat} {v : Value} {l : List ET} {w w' : World} (h : MadeE B0 v l w) (hg : w.grownBy w' (some f)) (hf : f < B0) : MadeE B0 v l w' := by
  have hne : v.ownBlock ≠ some f := fun e => by have := (h.1.lt _ e).1; omega
  refine ⟨h.1.kept hg (Or.inr hne), fun S hS => (h.2 S hS).keep fun p u hp hc => ?_⟩
  rw [hide_cell] at hc ⊢
  refine ⟨hc.1, ?_⟩
  rw [World.cell?_of_block (w := w) (hg.block p.block (World.block_lt_of_cell? w p hc.2) (by simp; omega))]
  exact hc.2
theorem MadeE.alloc {B0 : Nat} {v : Value} {l : List ET} {w : World} (h : MadeE B0 v l w) (o : Obj) : MadeE B0 v l (w.alloc o) := by
  refine ⟨h.1.alloc o, fun S hS => (h.2 S hS).keep fun p u hp hc => ?_⟩
  rw [hide_cell] at hc ⊢
  refine ⟨hc.1, ?_⟩
  rw [World.cell?_alloc_lt _ _ _ (World.block_lt_of_cell? w p hc.2)]
  exact hc.2
theorem cells_five (S : ET) : S.cells.toList.length = 5 := by cases S; rfl
theorem flat_atE : ∀ (l : List ET) (i j : Nat) (hi : i < l.length), j < 5 → (l.flatMap fun S => S.cells.toList)[i * 5 + j]? = l[i].cells.toList[j]?
  | S :: l, 0, j, _, hj => by
    rw [List.flatMap_cons, List.getElem?_append_left (by rw [cells_five]; omega)]
    simp
  | S :: l, i + 1, j, hi, hj => by
    rw [List.flatMap_cons, List.getElem?_append_right (by rw [cells_five]; omega), cells_five]
    rw [show (i + 1) * 5 + j - 5 = i * 5 + j by omega]
    exact flat_atE l i j (by simpa using hi) hj
theorem es_of_rows {w : World} {B : Nat} {a : Option Addr} : ∀ (l : List ET) (i : Nat), (∀ j (hj : j < l.length), RowAt w B a (i + j) 5 l[j].cells ∧ l[j].In w B) → EsIn w B a i l
  | [], i, _ => by rw [EsIn]; trivial
  | S :: l, i, h => by
    rw [EsIn]
    refine ⟨(h 0 (by simp)).1, (h 0 (by simp)).2, es_of_rows l (i + 1) fun j hj => ?_⟩
    have := h (j + 1) (by simpa using hj)
    rw [show i + (j + 1) = i + 1 + j by omega] at this
    exact this
theorem MadeE.es {B0 : Nat} {v : Value} {l : List ET} {w : World} (h : MadeE B0 v l w) : ∃ a c, v = .slice a l.length c ∧ EsIn w B0 a 0 l := by
  have hin : ∀ S ∈ l, S.In w B0 := fun S hS => (h.2 S hS).keep fun p u hp hc => (hide_cell.1 hc).2
  rcases h.1.2 with ⟨e, hl⟩ | ⟨g, cap, cur, e, hg, hb, hn, hm, hs, ht⟩
  · have : l = [] := List.length_eq_zero_iff.1 hl
    subst this
    exact ⟨none, 0, e, by rw [EsIn]; trivial⟩
  · refine ⟨some ⟨g, 0, none⟩, cap, e, es_of_rows l 0 fun j hj => ⟨⟨g, 0, rfl, hg, fun k u hk => ?_⟩, hin _ (List.getElem_mem hj)⟩⟩
    have hk5 : k < 5 := by
      have h1 := cells_five l[j]
      rcases Nat.lt_or_ge k 5 with h2 | h2
      · exact h2
      · rw [Array.getElem?_eq_none (by simpa using (by rw [← h1] at h2; simpa using h2))] at hk; cases hk
    refine bk_cell hb ?_
    have h1 := flat_atE l j k hj hk5
    rw [← ht] at h1
    rw [List.getElem?_take_of_lt (by omega)] at h1
    rw [show 0 + (0 + j) * 5 + k = j * 5 + k by omega, ← Array.getElem?_toList, h1, Array.getElem?_toList]
    exact hk
end Go.Proofs.YtdaklmbifkehpaaGreatDoor
