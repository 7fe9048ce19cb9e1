/- A statement of the feed: what its walk keeps, from call to call; the next byte, told. -/
import Derived.Test.YtppeogcpoplpeaaGreatDoorTFeedL
import Derived.Deep.DeepCutAuto
set_option linter.unusedSimpArgs false
set_option linter.unusedVariables false
namespace Go.Proofs.YtppeogcpoplpeaaGreatDoor
open Go Go.RowKit

abbrev zS : Array Value := #[.int .i64 0, .int .i64 0, .string { data := #[] }, .string { data := #[] }, .slice none 0 0, .slice none 0 0, .slice none 0 0]
abbrev tS (t : Int) : Array Value := #[.int .i64 0, .int .i64 t, .string { data := #[] }, .string { data := #[] }, .slice none 0 0, .slice none 0 0, .slice none 0 0]
theorem sevenC {w : World} {b : Nat} {v0 v1 v2 v3 v4 v5 v6 : Value} {t : TypeId} {fr : Nat × Nat} (h : w.heap[b]? = some (.cells #[v0, v1, v2, v3, v4, v5, v6] t fr)) : w.cell? ⟨b, 0, none⟩ = some v0 ∧ w.cell? ⟨b, 1, none⟩ = some v1 ∧ w.cell? ⟨b, 2, none⟩ = some v2 ∧ w.cell? ⟨b, 3, none⟩ = some v3 ∧ w.cell? ⟨b, 4, none⟩ = some v4 ∧ w.cell? ⟨b, 5, none⟩ = some v5 ∧ w.cell? ⟨b, 6, none⟩ = some v6 :=
  ⟨bk_cell h rfl, bk_cell h rfl, bk_cell h rfl, bk_cell h rfl, bk_cell h rfl, bk_cell h rfl, bk_cell h rfl⟩
/-- Between two worlds nothing old has turned but what lies in blocks of which P holds. -/
structure KeptP (P : Nat → Prop) (w w' : World) : Prop where
  os : w'.os = w.os
  tape : w'.tape = w.tape
  output : w'.output = w.output
  size : w.heap.size ≤ w'.heap.size
  block : ∀ k, k < w.heap.size → ¬ P k → w'.heap[k]? = w.heap[k]?
section
variable {P : Nat → Prop} {a w w' : World}
theorem KeptP.refl (P : Nat → Prop) (w : World) : KeptP P w w := ⟨rfl, rfl, rfl, Nat.le_refl _, fun _ _ _ => rfl⟩
theorem KeptP.trans (h : KeptP P a w) (k : KeptP P w w') : KeptP P a w' :=
  ⟨k.os.trans h.os, k.tape.trans h.tape, k.output.trans h.output, Nat.le_trans h.size k.size, fun i hi hp => (k.block i (Nat.lt_of_lt_of_le hi h.size) hp).trans (h.block i hi hp)⟩
theorem KeptP.alloc (h : KeptP P a w) (o : Obj) : KeptP P a (w.alloc o) := h.trans ⟨rfl, rfl, rfl, (World.grownBy_alloc w o none).size, fun k hk _ => Below.heap_alloc w o k hk⟩
theorem KeptP.drew (h : KeptP P a w) : KeptP P a w.drew := h.trans ⟨rfl, rfl, rfl, Nat.le_refl _, fun _ _ _ => rfl⟩
theorem KeptP.drewN (h : KeptP P a w) (n : Nat) : KeptP P a (w.drewN n) := h.trans ⟨rfl, rfl, rfl, Nat.le_refl _, fun _ _ _ => rfl⟩
theorem KeptP.set (h : KeptP P a w) {b : Nat} (hb : P b) (k : Nat) (u : Value) : KeptP P a (w.setCell ⟨b, k, none⟩ u) := h.trans ⟨rfl, rfl, rfl, by simp [World.setCell], fun i _ hp => Below.heap_setCell _ _ _ _ (by rintro rfl; exact hp hb)⟩
theorem KeptP.grown (h : KeptP P a w) {b : Nat} (hb : P b) (hg : w.grownBy w' (some b)) : KeptP P a w' := h.trans ⟨hg.os, hg.tape, hg.output, hg.size, fun i hi hp => hg.block i hi (by simp; rintro rfl; exact hp hb)⟩
theorem KeptP.cell (h : KeptP P w w') {p : Addr} {v : Value} (hp : ¬ P p.block) (hc : w.cell? p = some v) : w'.cell? p = some v := by
  rw [World.cell?_of_block (w := w) (h.block p.block (World.block_lt_of_cell? w p hc) hp)]
  exact hc
theorem KeptP.et (h : KeptP P w w') {A : Nat} (hP : ∀ b, A ≤ b → ¬ P b) {T : ET} (hT : T.In w A) : T.In w' A := hT.keep fun p v hp hc => h.cell (hP _ hp) hc
theorem KeptP.ss (h : KeptP P w w') {A i : Nat} {q : Option Addr} {l : List ST} (hP : ∀ b, A ≤ b → ¬ P b) (hT : SsIn w A q i l) : SsIn w' A q i l := hT.keep fun p v hp hc => h.cell (hP _ hp) hc
end
/-- A row of one expression, of two, that was made behind block A. -/
theorem es_one {P : Nat → Prop} {v w' : World} {A B' : Nat} {T : ET} (hT : T.In v A) (hA : A ≤ v.heap.size) (hk : KeptP P (v.alloc (.cells (five T) 30)) w') (hP : ∀ b, A ≤ b → ¬ P b) (hB : B' ≤ A) : EsIn w' B' (some ⟨v.heap.size, 0, none⟩) 0 [T] := by
  have h1 : T.In w' B' := (hk.et hP (hT.on ((Below.refl _ _).alloc (Nat.le_refl _) _))).mono hB
  have h2 : w'.heap[v.heap.size]? = some (.cells (five T) 30 (0, 0)) := (hk.block _ (by simp) (hP _ hA)).trans (bk_new _ _)
  rw [EsIn, EsIn]
  refine ⟨⟨v.heap.size, 0, rfl, by omega, fun j u hj => bk_cell h2 ?_⟩, h1, trivial⟩
  rw [ET.cells_is] at hj
  rw [show 0 + 0 * 5 + j = j by omega]
  exact hj
theorem es_one_at {w' : World} {N B' : Nat} {T : ET} (h2 : w'.heap[N]? = some (.cells (five T) 30 (0, 0))) (hT : T.In w' B') (hN : B' ≤ N) : EsIn w' B' (some ⟨N, 0, none⟩) 0 [T] := by
  rw [EsIn, EsIn]
  refine ⟨⟨N, 0, rfl, hN, fun j u hj => bk_cell h2 ?_⟩, hT, trivial⟩
  rw [ET.cells_is] at hj
  rw [show 0 + 0 * 5 + j = j by omega]
  exact hj
abbrev ten (T U : ET) : Array Value := #[.int .i64 T.kind, .string T.op, .int .i64 T.n, .string T.name, .slice T.kaddr T.kids.length T.kcap, .int .i64 U.kind, .string U.op, .int .i64 U.n, .string U.name, .slice U.kaddr U.kids.length U.kcap]
theorem five_lt {T : ET} {j : Nat} {u : Value} (h : (five T)[j]? = some u) : j < 5 := by
  rcases Nat.lt_or_ge j 5 with h2 | h2
  · exact h2
  · rw [Array.getElem?_eq_none (by simpa using h2)] at h; cases h
theorem ten_fst {T U : ET} {j : Nat} {u : Value} (h : (five T)[j]? = some u) : (ten T U)[j]? = some u := by
  match j, five_lt h with
  | 0, _ => exact h
  | 1, _ => exact h
  | 2, _ => exact h
  | 3, _ => exact h
  | 4, _ => exact h
theorem ten_snd {T U : ET} {j : Nat} {u : Value} (h : (five U)[j]? = some u) : (ten T U)[5 + j]? = some u := by
  match j, five_lt h with
  | 0, _ => exact h
  | 1, _ => exact h
  | 2, _ => exact h
  | 3, _ => exact h
  | 4, _ => exact h
/-- Two expressions that lie in one row, wherever that has room. -/
theorem es_two_of {w' : World} {N B' : Nat} {T U : ET} {cs : Array Value} {t : TypeId} {fr : Nat × Nat} (h2 : w'.heap[N]? = some (.cells cs t fr)) (hc : ∀ (j : Nat) (u : Value), (ten T U)[j]? = some u → cs[j]? = some u) (hT : T.In w' B') (hU : U.In w' B') (hN : B' ≤ N) : EsIn w' B' (some ⟨N, 0, none⟩) 0 [T, U] := by
  rw [EsIn, EsIn, EsIn]
  refine ⟨⟨N, 0, rfl, hN, fun j u hj => bk_cell h2 ?_⟩, hT, ⟨N, 0, rfl, hN, fun j u hj => bk_cell h2 ?_⟩, hU, trivial⟩
  · rw [ET.cells_is] at hj
    rw [show 0 + 0 * 5 + j = j by omega]
    exact hc _ _ (ten_fst hj)
  · rw [ET.cells_is] at hj
    rw [show 0 + (0 + 1) * 5 + j = 5 + j by omega]
    exact hc _ _ (ten_snd hj)
theorem es_two {P : Nat → Prop} {v w' : World} {A B' : Nat} {T U : ET} (hT : T.In v A) (hU : U.In v A) (hA : A ≤ v.heap.size) (hk : KeptP P (v.alloc (.cells (ten T U) 30)) w') (hP : ∀ b, A ≤ b → ¬ P b) (hB : B' ≤ A) : EsIn w' B' (some ⟨v.heap.size, 0, none⟩) 0 [T, U] :=
  es_two_of ((hk.block _ (by simp) (hP _ hA)).trans (bk_new _ _)) (fun _ _ h => h) ((hk.et hP (hT.on ((Below.refl _ _).alloc (Nat.le_refl _) _))).mono hB) ((hk.et hP (hU.on ((Below.refl _ _).alloc (Nat.le_refl _) _))).mono hB) (Nat.le_trans hB hA)
/-- The next byte of the feed, and where it stands then. -/
def FeedC.nv (F : FeedC) (p : Nat) : Int := if p < F.len then F.zs.getD p 0 else 0
def FeedC.nq (F : FeedC) (p : Nat) : Nat := if p < F.len then p + 1 else p
section
variable {F : FeedC} {B f : Nat} {p : Nat} {left tag : Int} {w : World}
theorem Fd.nvb (h : Fd F B f p left tag w) : 0 ≤ F.nv p ∧ F.nv p ≤ 255 := by
  unfold FeedC.nv
  split
  next hlt => obtain ⟨b, off, -, -, -, -, h0, h1⟩ := h.bytes p hlt; exact ⟨h0, h1⟩
  next => omega
def NextV (F : FeedC) (B f : Nat) (left tag : Int) (w : World) (v : Int) (q : Nat) (e : Ending) (w' : World) : Prop := e = .returned (.int .i64 v) ∧ Fd F B f q left tag w' ∧ w.grownBy w' (some f)
set_option maxHeartbeats 1000000 in
theorem next_val (h : Fd F B f p left tag w) : Calls Tryz.prog 61 #[.pointer (some ⟨f, 0, none⟩)] w (NextV F B f left tag w (F.nv p) (F.nq p)) := by
  have c0 := h.c0
  have c1 := h.c1
  have f1 := h.f1 1
  have hl := h.lep
  have hm := h.lel
  by_cases hlt : p < F.len
  · obtain ⟨b, off, hla, -, hne, hc, hv0, hv1⟩ := h.bytes p hlt
    have e1 : F.nv p = F.zs.getD p 0 := by simp [FeedC.nv, hlt]
    have e2 : F.nq p = p + 1 := by simp [FeedC.nq, hlt]
    rw [e1, e2]
    clear e1 e2
    generalize hzv : F.zs.getD p 0 = v at hc hv0 hv1 ⊢
    have HZ := Lib.hid hzv
    clear hzv
    have hne' : (b == f) = false := by simpa using hne
    have n1 : decide (F.len ≤ p) = false := by simp; omega
    have b1 : p < F.len := hlt
    have H := Lib.hid h
    have HL := Lib.hid hla
    have HC := Lib.hid hc
    clear h hl hc hlt
    rw [hla] at c0
    clear hla
    go_enter Tryz.func61, Tryz.ntmps61
    go_wp2
    go_quiet (fail)
    go_wp2
    have hg := grown_set (f := f) (grown_drewN (grown_refl w (some f)) nq) 1 (.int .i64 (((p + 1 : Nat)) : Int))
    have H2 := (H.out.drewN nq).setp (q := p + 1) (by omega)
    have e1 : ((p + 1 : Nat) : Int) = (p : Int) + 1 := rfl
    rw [e1] at hg
    have H3 : Hid (Fd F B f (p + 1) left tag ((w.drewN nq).setCell ⟨f, 1, none⟩ (.int .i64 ((p : Int) + 1)))) := Lib.hid H2
    clear H2
    generalize (w.drewN nq).setCell ⟨f, 1, none⟩ (.int .i64 ((p : Int) + 1)) = w2 at hg H3 ⊢
    have HG := Lib.hid hg
    have d0 := H3.out.c0
    have d1 : w2.cell? ⟨f, 1, none⟩ = some (.int .i64 ((p : Int) + 1)) := H3.out.c1
    obtain ⟨b', off', hla', -, -, d2, -⟩ := H3.out.bytes p b1
    rw [HL.out] at hla'
    simp only [Option.some.injEq, Addr.mk.injEq, and_true] at hla'
    obtain ⟨rfl, rfl⟩ := hla'
    rw [HL.out] at d0
    rw [HZ.out] at d2
    have k0 : (0 : Int) ≤ p := by omega
    have k1 : (p : Int) < F.len := by omega
    have k2 : IntKind.i64.wrap ((p : Int) + 1 - 1) = p := by rw [Int.add_sub_cancel]; exact IntWalk.i64_in _ (by omega)
    clear c0 c1 f1 hg hne e1
    go_quiet (fail)
    go_wp2
    go_ret
    exact ⟨rfl, H3.out.drewN _, grown_drewN HG.out _⟩
  · have n1 : decide (F.len ≤ p) = true := by simp; omega
    have e1 : F.nv p = 0 := by simp [FeedC.nv, hlt]
    have e2 : F.nq p = p := by simp [FeedC.nq, hlt]
    rw [e1, e2]
    clear e1 e2
    have H := Lib.hid h
    clear h hl
    go_enter Tryz.func61, Tryz.ntmps61
    go_wp2
    go_quiet (fail)
    go_wp2
    go_ret
    exact ⟨rfl, H.out.drewN _, grown_drewN (grown_refl _ _) _⟩
end
/-- The statement under way: its cells are c, in block X; its result's block is the first that was made; the feed stands at q. -/
structure MidS (F : FeedC) (B f : Nat) (w : World) (X : Nat) (c : Nat → Value) (q : Nat) (left tag : Int) (v : World) : Prop where
  lt : w.heap.size < X
  hB : B ≤ w.heap.size
  hf : f < B
  hX : v.heap[X]? = some (.cells #[c 0, c 1, c 2, c 3, c 4, c 5, c 6] 83 (0, 0))
  hR : v.heap[w.heap.size]? = some (.cells zS 83 (0, 0))
  fd : Fd F B f q left tag v
  gr : w.grownBy v (some f)
def upd (c : Nat → Value) (k : Nat) (u : Value) : Nat → Value := fun i => if i = k then u else c i
/-- The feed's block, the result's, the statement's. -/
def Three (f R X : Nat) (b : Nat) : Prop := b = f ∨ b = R ∨ b = X
section
variable {F : FeedC} {B f X : Nat} {c : Nat → Value} {q : Nat} {left tag : Int} {w v : World}
theorem MidS.xlt (h : MidS F B f w X c q left tag v) : X < v.heap.size := lt_of_block h.hX
theorem MidS.alloc (h : MidS F B f w X c q left tag v) (o : Obj) : MidS F B f w X c q left tag (v.alloc o) := ⟨h.lt, h.hB, h.hf, bk_old _ h.hX, bk_old _ h.hR, h.fd.alloc _, grown_alloc h.gr _⟩
theorem MidS.drew (h : MidS F B f w X c q left tag v) : MidS F B f w X c q left tag v.drew := ⟨h.lt, h.hB, h.hf, h.hX, h.hR, h.fd.drew, grown_drew h.gr⟩
theorem MidS.drewN (h : MidS F B f w X c q left tag v) (n : Nat) : MidS F B f w X c q left tag (v.drewN n) := ⟨h.lt, h.hB, h.hf, h.hX, h.hR, h.fd.drewN _, grown_drewN h.gr _⟩
theorem MidS.set (h : MidS F B f w X c q left tag v) {k : Nat} (hk : k < 7) (u : Value) : MidS F B f w X (upd c k u) q left tag (v.setCell ⟨X, k, none⟩ u) := by
  have hne : w.heap.size ≠ X := by have := h.lt; omega
  refine ⟨h.lt, h.hB, h.hf, ?_, (Below.heap_setCell _ _ _ _ hne).trans h.hR, h.fd.far (by have := h.hB; have := h.lt; omega) _ _, grown_new h.gr (Nat.le_of_lt h.lt) _ _⟩
  rw [bk_set u h.hX]
  match k, hk with
  | 0, _ => rfl
  | 1, _ => rfl
  | 2, _ => rfl
  | 3, _ => rfl
  | 4, _ => rfl
  | 5, _ => rfl
  | 6, _ => rfl
theorem MidS.call (h : MidS F B f w X c q left tag v) {v' : World} {q' : Nat} {l' t' : Int} (hd : Fd F B f q' l' t' v') (hg : v.grownBy v' (some f)) : MidS F B f w X c q' l' t' v' :=
  ⟨h.lt, h.hB, h.hf, (hg.block X h.xlt (by have := h.lt; have := h.hB; have := h.hf; simp; omega)).trans h.hX, (hg.block _ (lt_of_block h.hR) (by have := h.hB; have := h.hf; simp; omega)).trans h.hR, hd, grown_trans h.gr hg⟩
theorem MidS.three (h : MidS F B f w X c q left tag v) {A : Nat} (hA : X < A) : ∀ b, A ≤ b → ¬ Three f w.heap.size X b := fun b hb h1 => by
  have := h.lt; have := h.hB; have := h.hf; unfold Three at h1; omega
/-- An expression is called for. -/
theorem MidS.expr (h : MidS F B f w X c q left tag v) (d : Nat) (hd : d ≤ 9) : Calls Tryz.prog 33 #[.pointer (some ⟨f, 0, none⟩), .int .i64 d] v (fun e v' => ∃ (T : ET) (q' : Nat), e = .returned (.agg #[.int .i64 T.kind, .string T.op, .int .i64 T.n, .string T.name, .slice T.kaddr T.kids.length T.kcap]) ∧ GE d T ∧ T.In v' v.heap.size ∧ X < v.heap.size ∧ MidS F B f w X c q' left tag v' ∧ KeptP (Three f w.heap.size X) v v') := by
  refine (feedE_any d hd q v h.fd).mono ?_
  rintro e v' ⟨T, q', he, hT, hin, h2, hg⟩
  rw [ET.val_is] at he
  exact ⟨T, q', he, hT, hin, h.xlt, h.call h2 hg, (KeptP.refl _ _).grown (Or.inl rfl) hg⟩
end
/-- What a statement of the feed leaves. -/
def StPost (F : FeedC) (B f D : Nat) (w : World) (e : Ending) (w' : World) : Prop := ∃ (S : ST) (q : Nat) (left tag : Int), e = .returned S.val ∧ GS D S ∧ S.In w' w.heap.size ∧ Fd F B f q left tag w' ∧ w.grownBy w' (some f) ∧ 0 ≤ left ∧ 0 ≤ tag ∧ tag + left ≤ 24
/-- What statements of the feed leave. -/
def SsPost (F : FeedC) (B f D m : Nat) (w : World) (e : Ending) (w' : World) : Prop := ∃ (l : List ST) (a : Option Addr) (c q : Nat) (left tag : Int), e = .returned (.slice a l.length c) ∧ GL D l ∧ l.length ≤ m ∧ SsIn w' w.heap.size a 0 l ∧ Fd F B f q left tag w' ∧ w.grownBy w' (some f) ∧ 0 ≤ left ∧ 0 ≤ tag ∧ tag + left ≤ 24
/-- Statements that may be called for, one level deeper. -/
def Deeper (F : FeedC) (B f D : Nat) : Prop := ∀ (m : Nat), m ≤ 14 → ∀ (loop : Bool) (q : Nat) (left tag : Int), 0 ≤ left → 0 ≤ tag → tag + left ≤ 24 → ∀ v : World, Fd F B f q left tag v → Calls Tryz.prog 62 #[.pointer (some ⟨f, 0, none⟩), .int .i64 D, .int .i64 m, .bool loop] v (SsPost F B f D m v)
theorem MidS.stmts {F : FeedC} {B f X : Nat} {c : Nat → Value} {q D : Nat} {left tag : Int} {w v : World} (h : MidS F B f w X c q left tag v) (H : Deeper F B f D) (h0 : 0 ≤ left) (h1 : 0 ≤ tag) (h2 : tag + left ≤ 24) (m : Nat) (hm : m ≤ 14) (loop : Bool) : Calls Tryz.prog 62 #[.pointer (some ⟨f, 0, none⟩), .int .i64 D, .int .i64 m, .bool loop] v (fun e v' => ∃ (l : List ST) (a : Option Addr) (k q' : Nat) (left' tag' : Int), e = .returned (.slice a l.length k) ∧ (GL D l ∧ l.length ≤ m) ∧ SsIn v' v.heap.size a 0 l ∧ X < v.heap.size ∧ (0 ≤ left' ∧ 0 ≤ tag' ∧ tag' + left' ≤ 24) ∧ MidS F B f w X c q' left' tag' v' ∧ KeptP (Three f w.heap.size X) v v') := by
  refine (H m hm loop q left tag h0 h1 h2 v h.fd).mono ?_
  rintro e v' ⟨l, a, k, q', left', tag', he, hG, hm', hin, hfd, hg, b0, b1, b2⟩
  exact ⟨l, a, k, q', left', tag', he, ⟨hG, hm'⟩, hin, h.xlt, ⟨b0, b1, b2⟩, h.call hfd hg, (KeptP.refl _ _).grown (Or.inl rfl) hg⟩
theorem MidS.call_expr {F : FeedC} {B f X : Nat} {c : Nat → Value} {q : Nat} {left tag : Int} {w v : World} {Q : Ending → World → Prop} {e : Int} (d : Nat) (he : e = (d : Int)) (hd : d ≤ 9) (h : MidS F B f w X c q left tag v)
    (k : ∀ (T : ET) (q' : Nat) (v' : World), GE d T → T.In v' v.heap.size → X < v.heap.size → MidS F B f w X c q' left tag v' → KeptP (Three f w.heap.size X) v v' → Q (.returned (.agg #[.int .i64 T.kind, .string T.op, .int .i64 T.n, .string T.name, .slice T.kaddr T.kids.length T.kcap])) v') : Calls Tryz.prog 33 #[.pointer (some ⟨f, 0, none⟩), .int .i64 e] v Q := by
  subst he
  refine (h.expr d hd).mono ?_
  rintro e v' ⟨T, q', rfl, h1, h2, h3, h4, h5⟩
  exact k T q' v' h1 h2 h3 h4 h5
theorem MidS.call_stmts {F : FeedC} {B f X : Nat} {c : Nat → Value} {q D : Nat} {left tag : Int} {w v : World} {Q : Ending → World → Prop} {e m' : Int} (H : Deeper F B f D) (m : Nat) (he : e = (D : Int)) (hm' : m' = (m : Int)) (hm : m ≤ 14) (b : 0 ≤ left ∧ 0 ≤ tag ∧ tag + left ≤ 24) (loop : Bool) (h : MidS F B f w X c q left tag v)
    (k : ∀ (l : List ST) (a : Option Addr) (k q' : Nat) (left' tag' : Int) (v' : World), (GL D l ∧ l.length ≤ m) → SsIn v' v.heap.size a 0 l → X < v.heap.size → (0 ≤ left' ∧ 0 ≤ tag' ∧ tag' + left' ≤ 24) → MidS F B f w X c q' left' tag' v' → KeptP (Three f w.heap.size X) v v' → Q (.returned (.slice a l.length k)) v') : Calls Tryz.prog 62 #[.pointer (some ⟨f, 0, none⟩), .int .i64 e, .int .i64 m', .bool loop] v Q := by
  subst he
  subst hm'
  refine (h.stmts H b.1 b.2.1 b.2.2 m hm loop).mono ?_
  rintro e v' ⟨l, a, k', q', left', tag', rfl, h1, h2, h3, h4, h5, h6⟩
  exact k l a k' q' left' tag' v' h1 h2 h3 h4 h5 h6
def st0 (t : Int) : Nat → Value
  | 0 => .int .i64 0
  | 1 => .int .i64 t
  | 2 => .string { data := #[] }
  | 3 => .string { data := #[] }
  | _ => .slice none 0 0
/-- A code's part that begins with region n, with what stands behind that. -/
def seqAt (n : Nat) : Code → Option (Code × Code)
  | .seq (.region m o d) r => if m = n then some (.region m o d, r) else seqAt n r
  | .seq a b => match seqAt n a with
    | some c => some c
    | none => seqAt n b
  | .block _ c => seqAt n c
  | .loop c => seqAt n c
  | .scope c => seqAt n c
  | .cond _ a b => match seqAt n a with
    | some c => some c
    | none => seqAt n b
  | _ => none
noncomputable def stHead : Code := (((Tryz.f93.body.bind (seqAt 11)).getD (.skip, .skip)).1)
noncomputable def stRest : Code := (((Tryz.f93.body.bind (seqAt 11)).getD (.skip, .skip)).2)
def codeAt (n : Nat) : Code → Option Code
  | .seq (.region m o d) r => if m = n then some (.seq (.region m o d) r) else codeAt n r
  | .seq a b => match codeAt n a with
    | some c => some c
    | none => codeAt n b
  | .block _ c => codeAt n c
  | .loop c => codeAt n c
  | .scope c => codeAt n c
  | .cond _ a b => match codeAt n a with
    | some c => some c
    | none => codeAt n b
  | _ => none
noncomputable def stEnd : Code := ((Tryz.f93.body.bind (codeAt 53)).getD .skip)
end Go.Proofs.YtppeogcpoplpeaaGreatDoor
