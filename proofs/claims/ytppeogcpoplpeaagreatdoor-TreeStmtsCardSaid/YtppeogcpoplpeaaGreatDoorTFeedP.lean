/- A program of the feed: three functions, of statements of the feed. -/
import Derived.Test.YtppeogcpoplpeaaGreatDoorTFeedT
import Derived.Test.YtppeogcpoplpeaaGreatDoorTPutP2
set_option linter.unusedSimpArgs false
set_option linter.unusedVariables false
namespace Go.Proofs.YtppeogcpoplpeaaGreatDoor
open Go Go.RowKit

theorem rowIn_drop {w : World} {a : Option Addr} {n c h : Nat} {zs : List Int} (r : RowIn .u8 w a n zs) (hc : n ≤ c) (hh : h ≤ n) : RowIn .u8 w (if c = h then a else a.map fun x => x.add h) (n - h) (zs.drop h) := by
  refine ⟨by have := r.1; omega, fun hp => ?_⟩
  obtain ⟨b, off, rfl, hb, hc'⟩ := r.2 (by omega)
  rw [if_neg (by omega)]
  have e : ∀ k, (⟨b, off, none⟩ : Addr).add k = ⟨b, off + k, none⟩ := fun k => by
    unfold Addr.add
    split
    · rename_i h; subst h; rfl
    · rfl
  refine ⟨b, off + h, by simp [e], hb, fun i hi => ?_⟩
  have := hc' (h + i) (by omega)
  rw [show off + h + i = off + (h + i) by omega, List.getD_eq_getElem?_getD, List.getElem?_drop, ← List.getD_eq_getElem?_getD]
  exact this
abbrev fdV (la : Option Addr) (ln lc ia : Nat) (ns : List ByteArray) (xa : Nat) (ms : List ByteArray) (left : Int) (main : Bool) : Array Value :=
  #[.slice la ln lc, .int .i64 0, .slice (some ⟨ia, 0, none⟩) ns.length ns.length, .slice (some ⟨xa, 0, none⟩) ms.length ms.length, .int .i64 left, .int .i64 0, .bool main]
abbrev nP : ByteArray := { data := #[112] }
abbrev nQ : ByteArray := { data := #[113] }
abbrev nR : ByteArray := { data := #[114] }
abbrev nZs : ByteArray := { data := #[122, 115] }
abbrev nA : ByteArray := { data := #[97] }
abbrev nB : ByteArray := { data := #[98] }
abbrev nC : ByteArray := { data := #[99] }
abbrev nD : ByteArray := { data := #[100] }
abbrev nXs : ByteArray := { data := #[120, 115] }
abbrev nYs : ByteArray := { data := #[121, 115] }
abbrev nG : ByteArray := { data := #[103] }
abbrev nH : ByteArray := { data := #[104] }
abbrev nMain : ByteArray := { data := #[109, 97, 105, 110] }
/-- What stands in memory of a feed that has just been made: three blocks. -/
structure Laid (w v : World) (ia xa f : Nat) (la : Option Addr) (ln lc : Nat) (ns ms : List ByteArray) (left : Int) (main : Bool) : Prop where
  b1 : v.heap[ia]? = some (.cells (ns.map Value.string).toArray 9 (0, 0))
  b2 : v.heap[xa]? = some (.cells (ms.map Value.string).toArray 9 (0, 0))
  b3 : v.heap[f]? = some (.cells (fdV la ln lc ia ns xa ms left main) 74 (0, 0))
  n1 : ia ≠ f
  n2 : xa ≠ f
  n3 : w.heap.size ≤ f
theorem Laid.on {w v v' : World} {ia xa f B : Nat} {la : Option Addr} {ln lc : Nat} {ns ms : List ByteArray} {left : Int} {main : Bool} (h : Laid w v ia xa f la ln lc ns ms left main) (hb : ∀ b, b < v.heap.size → b ≠ B → v'.heap[b]? = v.heap[b]?) (h1 : ia ≠ B) (h2 : xa ≠ B) (h3 : f ≠ B) : Laid w v' ia xa f la ln lc ns ms left main :=
  ⟨(hb _ (lt_of_block h.b1) h1).trans h.b1, (hb _ (lt_of_block h.b2) h2).trans h.b2, (hb _ (lt_of_block h.b3) h3).trans h.b3, h.n1, h.n2, h.n3⟩
theorem Laid.feed {w v : World} {ia xa f : Nat} {la : Option Addr} {ln lc : Nat} {ns ms : List ByteArray} {left : Int} {main : Bool} {zs : List Int} (h : Laid w v ia xa f la ln lc ns ms left main) (r : RowIn .u8 w la ln zs) (hb : Below w.heap.size w v) (c1 : 0 < ns.length ∧ ns.length ≤ 10) (c2 : 0 < ms.length ∧ ms.length ≤ 10) (c3 : ns.all nmB = true) (c4 : ms.all nmB = true) : Fd ⟨la, ln, lc, zs, ia, ns, xa, ms, main⟩ v.heap.size f 0 left 0 v :=
  mk_feed r (fun b hb' => hb.block b hb') h.b1 h.b2 h.b3 (lt_of_block h.b1) (lt_of_block h.b2) (lt_of_block h.b3) (Nat.le_refl _) h.n1 h.n2 h.n3 hb.size c1 c2 c3 c4
/-- Statements are called for, of a feed that has just been made. -/
theorem Laid.call {w v : World} {ia xa f : Nat} {la : Option Addr} {ln lc : Nat} {ns ms : List ByteArray} {left : Int} {main : Bool} {zs : List Int} {Q : Ending → World → Prop} {e m' : Int} (D m : Nat) (he : e = (D : Int)) (hm' : m' = (m : Int)) (hD : D ≤ 9) (hm : m ≤ 14) (hl : 0 ≤ left ∧ left ≤ 24)
    (c1 : 0 < ns.length ∧ ns.length ≤ 10) (c2 : 0 < ms.length ∧ ms.length ≤ 10) (c3 : ns.all nmB = true) (c4 : ms.all nmB = true) (r : RowIn .u8 w la ln zs) (h : Laid w v ia xa f la ln lc ns ms left main) (hb : Below w.heap.size w v) (loop : Bool)
    (k : ∀ (l : List ST) (a : Option Addr) (c : Nat) (v' : World), (GL D l ∧ l.length ≤ m) → SsIn v' v.heap.size a 0 l → v.grownBy v' (some f) → Below w.heap.size w v' → (∀ b, b < v.heap.size → b ≠ f → v'.heap[b]? = v.heap[b]?) → Q (.returned (.slice a l.length c)) v') :
    Calls Tryz.prog 62 #[.pointer (some ⟨f, 0, none⟩), .int .i64 e, .int .i64 m', .bool loop] v Q := by
  subst he
  subst hm'
  refine (feedSs_any D hD m hm loop 0 left 0 hl.1 (Int.le_refl _) (by omega) v (h.feed r hb c1 c2 c3 c4)).mono ?_
  rintro e v' ⟨l, a, c, q', left', tag', rfl, h1, h2, h3, -, hg, -⟩
  refine k l a c v' ⟨h1, h2⟩ h3 hg ?_ fun b hb1 hb2 => hg.block b hb1 (by simp; exact hb2)
  exact ⟨hg.os.trans hb.os, hg.tape.trans hb.tape, hg.output.trans hb.output, Nat.le_trans hb.size hg.size, fun i hi => (hg.block i (by have := hb.size; omega) (by have := h.n3; simp; omega)).trans (hb.block i hi)⟩
theorem Laid.alloc {w v : World} {ia xa f : Nat} {la : Option Addr} {ln lc : Nat} {ns ms : List ByteArray} {left : Int} {main : Bool} (h : Laid w v ia xa f la ln lc ns ms left main) (o : Obj) : Laid w (v.alloc o) ia xa f la ln lc ns ms left main :=
  ⟨bk_old _ h.b1, bk_old _ h.b2, bk_old _ h.b3, h.n1, h.n2, h.n3⟩
theorem Laid.c1 {w v : World} {la : Option Addr} {ln lc : Nat} {zs : List Int} {Q : Ending → World → Prop} (r : RowIn .u8 w la ln zs) (h : Laid w v (w.heap.size + 1) (w.heap.size + 2) (w.heap.size + 3) la ln lc [nP, nR] [nZs] 4 false) (hb : Below w.heap.size w v)
    (k : ∀ (l : List ST) (a : Option Addr) (c : Nat) (v' : World), (GL 1 l ∧ l.length ≤ 4) → SsIn v' v.heap.size a 0 l → v.grownBy v' (some (w.heap.size + 3)) → Below w.heap.size w v' → (∀ b, b < v.heap.size → b ≠ w.heap.size + 3 → v'.heap[b]? = v.heap[b]?) → Q (.returned (.slice a l.length c)) v') :
    Calls Tryz.prog 62 #[.pointer (some ⟨w.heap.size + 1 + 1 + 1, 0, none⟩), .int .i64 1, .int .i64 4, .bool false] v Q :=
  Laid.call (w := w) (f := w.heap.size + 3) (ns := [nP, nR]) (ms := [nZs]) (left := 4) (main := false) 1 4 rfl rfl (by decide) (by decide) (by decide) (by decide) (by decide) rfl rfl r h hb false k
theorem Laid.c2 {w v : World} {la : Option Addr} {ln lc : Nat} {zs : List Int} {Q : Ending → World → Prop} (r : RowIn .u8 w la ln zs) (h : Laid w v (w.heap.size + 4) (w.heap.size + 5) (w.heap.size + 6) la ln lc [nP, nQ] [nZs] 3 false) (hb : Below w.heap.size w v)
    (k : ∀ (l : List ST) (a : Option Addr) (c : Nat) (v' : World), (GL 1 l ∧ l.length ≤ 3) → SsIn v' v.heap.size a 0 l → v.grownBy v' (some (w.heap.size + 6)) → Below w.heap.size w v' → (∀ b, b < v.heap.size → b ≠ w.heap.size + 6 → v'.heap[b]? = v.heap[b]?) → Q (.returned (.slice a l.length c)) v') :
    Calls Tryz.prog 62 #[.pointer (some ⟨w.heap.size + 6, 0, none⟩), .int .i64 1, .int .i64 3, .bool false] v Q :=
  Laid.call (w := w) (f := w.heap.size + 6) (ns := [nP, nQ]) (ms := [nZs]) (left := 3) (main := false) 1 3 rfl rfl (by decide) (by decide) (by decide) (by decide) (by decide) rfl rfl r h hb false k
theorem Laid.c3 {w v : World} {la : Option Addr} {ln lc : Nat} {zs : List Int} {Q : Ending → World → Prop} (r : RowIn .u8 w la ln zs) (h : Laid w v (w.heap.size + 7) (w.heap.size + 8) (w.heap.size + 9) la ln lc [nA, nB, nC, nD] [nXs, nYs] 24 true) (hb : Below w.heap.size w v)
    (k : ∀ (l : List ST) (a : Option Addr) (c : Nat) (v' : World), (GL 2 l ∧ l.length ≤ 14) → SsIn v' v.heap.size a 0 l → v.grownBy v' (some (w.heap.size + 9)) → Below w.heap.size w v' → (∀ b, b < v.heap.size → b ≠ w.heap.size + 9 → v'.heap[b]? = v.heap[b]?) → Q (.returned (.slice a l.length c)) v') :
    Calls Tryz.prog 62 #[.pointer (some ⟨w.heap.size + 9, 0, none⟩), .int .i64 2, .int .i64 14, .bool false] v Q :=
  Laid.call (w := w) (f := w.heap.size + 9) (ns := [nA, nB, nC, nD]) (ms := [nXs, nYs]) (left := 24) (main := true) 2 14 rfl rfl (by decide) (by decide) (by decide) (by decide) (by decide) rfl rfl r h hb false k
/-- The blocks that turn while a program is made: three feeds, and the result. -/
def FourM (w : World) (b : Nat) : Prop := b = w.heap.size + 3 ∨ b = w.heap.size + 6 ∨ b = w.heap.size + 9 ∨ b = w.heap.size
theorem ps_of {W : World} {B P : Nat} {ns : List ByteArray} {t : TypeId} {fr : Nat × Nat} (h : W.heap[P]? = some (.cells (ns.map Value.string).toArray t fr)) (hB : B ≤ P) : ∀ (i : Nat) (hi : i < ns.length), StrAt W B (some ⟨P, 0, none⟩) i ns[i] := fun i hi => by
  refine ⟨P, 0, rfl, hB, bk_cell h ?_⟩
  rw [Nat.zero_add, List.getElem?_toArray, List.getElem?_map, List.getElem?_eq_getElem hi]
  rfl
theorem flat2 : ∀ (l : List (ByteArray × Int)) (i j : Nat) (hi : i < l.length), j < 2 → (l.flatMap fun d => [Value.string d.1, .int .i64 d.2])[i * 2 + j]? = [Value.string l[i].1, .int .i64 l[i].2][j]?
  | d :: l, 0, j, _, hj => by
    rw [List.flatMap_cons, List.getElem?_append_left (by simp; omega)]
    simp
  | d :: l, i + 1, j, hi, hj => by
    rw [List.flatMap_cons, List.getElem?_append_right (by simp; omega)]
    rw [show (i + 1) * 2 + j - [Value.string d.1, Value.int .i64 d.2].length = i * 2 + j by simp; omega]
    exact flat2 l i j (by simpa using hi) hj
theorem vs_of {W : World} {B V : Nat} {vs : List (ByteArray × Int)} {cs : Array Value} {t : TypeId} {fr : Nat × Nat} (h : W.heap[V]? = some (.cells cs t fr)) (hc : (vs.flatMap fun d => [Value.string d.1, .int .i64 d.2]) = cs.toList) (hB : B ≤ V) : ∀ (i : Nat) (hi : i < vs.length), RowAt W B (some ⟨V, 0, none⟩) i 2 #[.string vs[i].1, .int .i64 vs[i].2] := fun i hi => by
  refine ⟨V, 0, rfl, hB, fun j v hj => bk_cell h ?_⟩
  have hj2 : j < 2 := by
    rcases Nat.lt_or_ge j 2 with h2 | h2
    · exact h2
    · rw [Array.getElem?_eq_none (by simpa using h2)] at hj; cases hj
  rw [show 0 + i * 2 + j = i * 2 + j by omega, ← Array.getElem?_toList, ← hc, flat2 vs i j hi hj2]
  simpa using hj
theorem row_of {W : World} {B N i size : Nat} {cs al : Array Value} {t : TypeId} {fr : Nat × Nat} (h : W.heap[N]? = some (.cells al t fr)) (hB : B ≤ N) (hsub : ∀ (j : Nat) (v : Value), cs[j]? = some v → al[i * size + j]? = some v) : RowAt W B (some ⟨N, 0, none⟩) i size cs :=
  ⟨N, 0, rfl, hB, fun j v hj => bk_cell h (by rw [show 0 + i * size + j = i * size + j by omega]; exact hsub j v hj)⟩
/-- What a program of the feed is. -/
def MadeP (w : World) (e : Ending) (w' : World) : Prop := ∃ (N pa va pb vb vc : Nat) (l1 l2 l3 : List ST) (a1 a2 a3 : Option Addr) (c1 c2 c3 : Nat), e = .returned (.agg #[.slice (some ⟨N, 0, none⟩) 3 3]) ∧
  FsIn w' w.heap.size (some ⟨N, 0, none⟩) [⟨nG, some ⟨pa, 0, none⟩, 1, [nP], some ⟨va, 0, none⟩, 2, [(nR, 0), (nZs, 2)], a1, c1, l1⟩, ⟨nH, some ⟨pb, 0, none⟩, 2, [nP, nQ], some ⟨vb, 0, none⟩, 1, [(nZs, 1)], a2, c2, l2⟩, ⟨nMain, none, 0, [], some ⟨vc, 0, none⟩, 6, [(nA, 0), (nB, 0), (nC, 0), (nD, 0), (nXs, 3), (nYs, 5)], a3, c3, l3⟩] ∧
  (GL 1 l1 ∧ l1.length ≤ 4) ∧ (GL 1 l2 ∧ l2.length ≤ 3) ∧ (GL 2 l3 ∧ l3.length ≤ 14) ∧ Below w.heap.size w w'
theorem sub4 {a b c d : Value} {al : Array Value} {o : Nat} (h0 : al[o]? = some a) (h1 : al[o + 1]? = some b) (h2 : al[o + 2]? = some c) (h3 : al[o + 3]? = some d) (j : Nat) (v : Value) (hj : (#[a, b, c, d] : Array Value)[j]? = some v) : al[o + j]? = some v := by
  match j, hj with
  | 0, hj => simp at hj; subst hj; exact h0
  | 1, hj => simp at hj; subst hj; exact h1
  | 2, hj => simp at hj; subst hj; exact h2
  | 3, hj => simp at hj; subst hj; exact h3
  | j + 4, hj => simp at hj
theorem small_of {vs : List (ByteArray × Int)} (h : vs.all (fun d => decide (-9223372036854775808 ≤ d.2 ∧ d.2 ≤ 9223372036854775807)) = true) (i : Nat) (hi : i < vs.length) : -9223372036854775808 ≤ vs[i].2 ∧ vs[i].2 ≤ 9223372036854775807 := of_decide_eq_true (List.all_eq_true.1 h _ (List.getElem_mem hi))
/-- The three functions lie where the result says. -/
theorem made_in {w W : World} {N pa va pb vb vc : Nat} {l1 l2 l3 : List ST} {a1 a2 a3 : Option Addr} {c1 c2 c3 : Nat} {t1 t2 t3 : TypeId} {f1 f2 f3 f4 f5 f6 : Nat × Nat}
    (hN : W.heap[N]? = some (.cells #[.string nG, .slice (some ⟨pa, 0, none⟩) 1 1, .slice (some ⟨va, 0, none⟩) 2 2, .slice a1 l1.length c1, .string nH, .slice (some ⟨pb, 0, none⟩) 2 2, .slice (some ⟨vb, 0, none⟩) 1 1, .slice a2 l2.length c2, .string nMain, .slice none 0 0, .slice (some ⟨vc, 0, none⟩) 6 6, .slice a3 l3.length c3] t1 f1))
    (h1 : W.heap[pa]? = some (.cells ([nP].map Value.string).toArray t2 f2)) (h2 : W.heap[va]? = some (.cells #[.string nR, .int .i64 0, .string nZs, .int .i64 2] t3 f3)) (h3 : W.heap[pb]? = some (.cells ([nP, nQ].map Value.string).toArray t2 f4)) (h4 : W.heap[vb]? = some (.cells #[.string nZs, .int .i64 1] t3 f5))
    (h5 : W.heap[vc]? = some (.cells #[.string nA, .int .i64 0, .string nB, .int .i64 0, .string nC, .int .i64 0, .string nD, .int .i64 0, .string nXs, .int .i64 3, .string nYs, .int .i64 5] t3 f6))
    (s1 : SsIn W w.heap.size a1 0 l1) (s2 : SsIn W w.heap.size a2 0 l2) (s3 : SsIn W w.heap.size a3 0 l3) (m1 : l1.length ≤ 14) (m2 : l2.length ≤ 14) (m3 : l3.length ≤ 14) (b0 : w.heap.size ≤ N) (b1 : w.heap.size ≤ pa) (b2 : w.heap.size ≤ va) (b3 : w.heap.size ≤ pb) (b4 : w.heap.size ≤ vb) (b5 : w.heap.size ≤ vc) :
    FsIn W w.heap.size (some ⟨N, 0, none⟩) [⟨nG, some ⟨pa, 0, none⟩, 1, [nP], some ⟨va, 0, none⟩, 2, [(nR, 0), (nZs, 2)], a1, c1, l1⟩, ⟨nH, some ⟨pb, 0, none⟩, 2, [nP, nQ], some ⟨vb, 0, none⟩, 1, [(nZs, 1)], a2, c2, l2⟩, ⟨nMain, none, 0, [], some ⟨vc, 0, none⟩, 6, [(nA, 0), (nB, 0), (nC, 0), (nD, 0), (nXs, 3), (nYs, 5)], a3, c3, l3⟩] := by
  refine ⟨by simp, fun i hi => ?_, fun i hi => ?_⟩
  · match i, hi with
    | 0, _ => exact row_of hN b0 (sub4 rfl rfl rfl rfl)
    | 1, _ => exact row_of hN b0 (sub4 rfl rfl rfl rfl)
    | 2, _ => exact row_of hN b0 (sub4 rfl rfl rfl rfl)
    | i + 3, hi => exact absurd hi (by show ¬ (i + 3 < 3); omega)
  · match i, hi with
    | 0, _ => exact ⟨by simp, by simp, by show l1.length ≤ _; omega, ps_of h1 b1, vs_of h2 rfl b2, small_of (vs := [(nR, 0), (nZs, 2)]) (by decide), s1⟩
    | 1, _ => exact ⟨by simp, by simp, by show l2.length ≤ _; omega, ps_of h3 b3, vs_of h4 rfl b4, small_of (vs := [(nZs, 1)]) (by decide), s2⟩
    | 2, _ => exact ⟨by simp, by simp, by show l3.length ≤ _; omega, fun i hi => by simp at hi, vs_of h5 rfl b5, small_of (vs := [(nA, 0), (nB, 0), (nC, 0), (nD, 0), (nXs, 3), (nYs, 5)]) (by decide), s3⟩
    | i + 3, hi => exact absurd hi (by show ¬ (i + 3 < 3); omega)
set_option maxHeartbeats 4000000 in
set_option maxRecDepth 100000 in
theorem made_any {la ga : Option Addr} {ln gn lc gc : Nat} {zl zg : List Int} (w : World) (hl : RowIn .u8 w la ln zl) (hg : RowIn .u8 w ga gn zg) (hgc : gn ≤ gc) :
    Calls Tryz.prog 37 #[.slice la ln lc, .slice ga gn gc] w (MadeP w) := by
  have HL := Lib.hid hl
  have HG := Lib.hid hg
  have hgm := hg.1
  have h1' : gn / 2 ≤ gn := by omega
  clear hl hg
  go_enter Tryz.func37, Tryz.ntmps37
  go_upto_region 2 with (fail)
  go_cut [6] (fun y wx => y = .pointer (some ⟨w.heap.size + 6, 0, none⟩) ∧ wx.heap.size = w.heap.size + 7 ∧ Below w.heap.size w wx ∧ wx.heap[w.heap.size]? = some (.cells #[.slice none 0 0] 24 (0, 0)) ∧
    Laid w wx (w.heap.size + 1) (w.heap.size + 2) (w.heap.size + 3) ga gn gc [nP, nR] [nZs] 4 false ∧ ∃ a2 c2, RowIn .u8 w a2 (gn - gn / 2) (zg.drop (gn / 2)) ∧ Laid w wx (w.heap.size + 4) (w.heap.size + 5) (w.heap.size + 6) a2 (gn - gn / 2) c2 [nP, nQ] [nZs] 3 false)
  case first =>
    have hr := rowIn_drop HG.out hgc h1'
    rcases Decidable.em (gc = gn / 2) with he | he
    · rw [if_pos he] at hr
      obtain rfl : gn = 0 := by omega
      obtain rfl : gc = 0 := by omega
      have HR := Lib.hid hr
      clear hr he
      go_wp2
      go_meet
      refine ⟨rfl, by simp, ?_, (by repeat (first | (refine bk_new' _ ?_; simp; done) | refine bk_old _ ?_)), ⟨(by repeat (first | (refine bk_new' _ ?_; simp; done) | refine bk_old _ ?_)), (by repeat (first | (refine bk_new' _ ?_; simp; done) | refine bk_old _ ?_)), (by repeat (first | (refine bk_new' _ ?_; simp; done) | refine bk_old _ ?_)), by omega, by omega, by omega⟩, _, _, HR.out, ⟨(by repeat (first | (refine bk_new' _ ?_; simp; done) | refine bk_old _ ?_)), (by repeat (first | (refine bk_new' _ ?_; simp; done) | refine bk_old _ ?_)), (by repeat (first | (refine bk_new' _ ?_; simp; done) | refine bk_old _ ?_)), by omega, by omega, by omega⟩⟩
      repeat (first | exact Below.refl _ _ | refine Below.alloc ?_ (by simp <;> omega) _)
    · rw [if_neg he] at hr
      have HR := Lib.hid hr
      clear hr
      go_wp2
      go_meet
      refine ⟨rfl, by simp, ?_, (by repeat (first | (refine bk_new' _ ?_; simp; done) | refine bk_old _ ?_)), ⟨(by repeat (first | (refine bk_new' _ ?_; simp; done) | refine bk_old _ ?_)), (by repeat (first | (refine bk_new' _ ?_; simp; done) | refine bk_old _ ?_)), (by repeat (first | (refine bk_new' _ ?_; simp; done) | refine bk_old _ ?_)), by omega, by omega, by omega⟩, _, _, HR.out, ⟨(by repeat (first | (refine bk_new' _ ?_; simp; done) | refine bk_old _ ?_)), (by repeat (first | (refine bk_new' _ ?_; simp; done) | refine bk_old _ ?_)), (by repeat (first | (refine bk_new' _ ?_; simp; done) | refine bk_old _ ?_)), by omega, by omega, by omega⟩⟩
      repeat (first | exact Below.refl _ _ | refine Below.alloc ?_ (by simp <;> omega) _)
  case rest =>
    obtain ⟨rfl, hsz, hbel, hr0, hL1, a2, c2, hR2, hL2⟩ := hcut
    have HQ := Lib.hid (And.intro hsz (And.intro hbel (And.intro hr0 (And.intro hL1 (And.intro hL2 hR2)))))
    clear hsz hbel hr0 hL1 hL2 hR2
    go_upto_region 3 with (fail)
    go_cut [7] (fun z wx => z = .pointer (some ⟨w.heap.size + 9, 0, none⟩) ∧ wx.heap.size = w.heap.size + 10 ∧ Below w.heap.size w wx ∧ wx.heap[w.heap.size]? = some (.cells #[.slice none 0 0] 24 (0, 0)) ∧
      Laid w wx (w.heap.size + 1) (w.heap.size + 2) (w.heap.size + 3) ga gn gc [nP, nR] [nZs] 4 false ∧ Laid w wx (w.heap.size + 4) (w.heap.size + 5) (w.heap.size + 6) a2 (gn - gn / 2) c2 [nP, nQ] [nZs] 3 false ∧ Laid w wx (w.heap.size + 7) (w.heap.size + 8) (w.heap.size + 9) la ln lc [nA, nB, nC, nD] [nXs, nYs] 24 true)
    case first =>
      go_wp2
      go_meet
      obtain ⟨hsz, hbel, hr0, hL1, hL2, -⟩ := HQ.out
      refine ⟨by simp [hsz], by simp [hsz], ?_, bk_old _ (bk_old _ (bk_old _ hr0)), ((hL1.alloc _).alloc _).alloc _, ((hL2.alloc _).alloc _).alloc _, ⟨?_, ?_, ?_, by omega, by omega, by omega⟩⟩
      · exact ((hbel.alloc hbel.size _).alloc (by simp; have := hbel.size; omega) _).alloc (by simp; have := hbel.size; omega) _
      · exact bk_old _ (bk_old _ (bk_new' _ (by simp [hsz])))
      · exact bk_old _ (bk_new' _ (by simp [hsz]))
      · simp only [hsz]
        exact bk_new' _ (by simp [hsz])
    case rest =>
      obtain ⟨rfl, hsz, hbel, hr0, hL1, hL2, hL3⟩ := hcut
      have HRR : Hid (RowIn .u8 w a2 (gn - gn / 2) (zg.drop (gn / 2))) := Lib.hid HQ.out.2.2.2.2.2
      have HZ0 : Hid (w.heap.size + 10 ≤ wc.heap.size) := Lib.hid (by omega)
      have HBL0 := Lib.hid hbel
      have HR0 := Lib.hid hr0
      have HL10 := Lib.hid hL1
      have HL20 := Lib.hid hL2
      have HL30 := Lib.hid hL3
      clear hsz hbel hr0 hL1 hL2 hL3 HQ
      go_wp2_with
        (first
          | (go_at_call 62; (with_reducible refine Laid.c3 (lc := lc) HL.out ?_ ?_ ?_); (repeat (first | exact HL32.out | refine Laid.alloc ?_ _)); (have hb0 := HBL2.out; (repeat (first | exact hb0 | refine Below.alloc ?_ (by have := hb0.size; simp <;> omega) _))); intro l3 e3 f3 w4 hG3 hS3 hg3 hb3 hk3; have hK3 : KeptP (FourM w) w3 w4 := KeptP.grown (by repeat (first | with_reducible exact KeptP.refl _ _ | with_reducible refine KeptP.alloc ?_ _)) (Or.inr (Or.inr (Or.inl rfl))) hg3; have hz3 : w3.heap.size + 1 ≤ w4.heap.size := (by have := hg3.size; simpa using this); have hzz : w.heap.size + 10 ≤ w3.heap.size := HZ2.out; have hr3 := (hk3 w.heap.size (by simp <;> omega) (by omega)).trans (show _ = some (.cells #[.slice none 0 0] 24 (0, 0)) from by repeat (first | exact HR2.out | refine bk_old _ ?_)); have HV3 := Lib.hid ((hk3 w3.heap.size (by simp <;> omega) (by omega)).trans (show _ = some (.cells #[.string nA, .int .i64 0, .string nB, .int .i64 0, .string nC, .int .i64 0, .string nD, .int .i64 0, .string nXs, .int .i64 3, .string nYs, .int .i64 5] 85 (0, 0)) from (by repeat (first | (refine bk_new' _ ?_; simp; done) | refine bk_old _ ?_)))); have HK3 := Lib.hid hK3; have HZ3 : Hid (w.heap.size + 10 ≤ w4.heap.size) := Lib.hid (by omega); have HR3 := Lib.hid hr3; have HBL3 := Lib.hid hb3; have HG3 := Lib.hid (And.intro hG3 hS3); have x0 := bk_cell (k := 0) hr3 rfl; have y0 := bk_free (k := 0) hr3; have hlt4 : w.heap.size < w4.heap.size := lt_of_block hr3; clear hK3 hz3 hzz hr3 hb3 hG3 hS3 hg3 hk3)
          | (go_at_call 62; (with_reducible refine Laid.c2 (lc := c2) HRR.out ?_ ?_ ?_); (repeat (first | exact HL21.out | refine Laid.alloc ?_ _)); (have hb0 := HBL1.out; (repeat (first | exact hb0 | refine Below.alloc ?_ (by have := hb0.size; simp <;> omega) _))); intro l2 e2 f2 w3 hG2 hS2 hg2 hb2 hk2; have hK2 : KeptP (FourM w) w2 w3 := KeptP.grown (by repeat (first | with_reducible exact KeptP.refl _ _ | with_reducible refine KeptP.alloc ?_ _)) (Or.inr (Or.inl rfl)) hg2; have hz2 : w2.heap.size + 2 ≤ w3.heap.size := (by have := hg2.size; simpa using this); have hzz : w.heap.size + 10 ≤ w2.heap.size := HZ1.out; have hr2 := (hk2 w.heap.size (by simp <;> omega) (by omega)).trans (show _ = some (.cells #[.slice none 0 0] 24 (0, 0)) from by repeat (first | exact HR1.out | refine bk_old _ ?_)); have HP2 := Lib.hid ((hk2 w2.heap.size (by simp <;> omega) (by omega)).trans (show _ = some (.cells ([nP, nQ].map Value.string).toArray 9 (0, 0)) from (by repeat (first | (refine bk_new' _ ?_; simp; done) | refine bk_old _ ?_)))); have HV2 := Lib.hid ((hk2 (w2.heap.size + 1) (by simp <;> omega) (by omega)).trans (show _ = some (.cells #[.string nZs, .int .i64 1] 85 (0, 0)) from (by repeat (first | (refine bk_new' _ ?_; simp; done) | refine bk_old _ ?_)))); have HL32 := Lib.hid (Laid.on ((HL31.out.alloc _).alloc _) hk2 (by omega) (by omega) (by omega)); have HK2 := Lib.hid hK2; have HZ2 : Hid (w.heap.size + 10 ≤ w3.heap.size) := Lib.hid (by omega); have HR2 := Lib.hid hr2; have HBL2 := Lib.hid hb2; have HG2 := Lib.hid (And.intro hG2 hS2); clear hK2 hz2 hzz hr2 hb2 hG2 hS2 hg2 hk2)
          | (go_at_call 62; (with_reducible refine Laid.c1 (lc := gc) HG.out ?_ ?_ ?_); (repeat (first | exact HL10.out | refine Laid.alloc ?_ _)); (have hb0 := HBL0.out; (repeat (first | exact hb0 | refine Below.alloc ?_ (by have := hb0.size; simp <;> omega) _))); intro l1 e1 f1 w2 hG1 hS1 hg1 hb1 hk1; have hK1 : KeptP (FourM w) wc w2 := KeptP.grown (by repeat (first | with_reducible exact KeptP.refl _ _ | with_reducible refine KeptP.alloc ?_ _)) (Or.inl rfl) hg1; have hz1 : wc.heap.size + 2 ≤ w2.heap.size := (by have := hg1.size; simpa using this); have hzz : w.heap.size + 10 ≤ wc.heap.size := HZ0.out; have hr1 := (hk1 w.heap.size (by simp <;> omega) (by omega)).trans (show _ = some (.cells #[.slice none 0 0] 24 (0, 0)) from by repeat (first | exact HR0.out | refine bk_old _ ?_)); have HP1 := Lib.hid ((hk1 wc.heap.size (by simp <;> omega) (by omega)).trans (show _ = some (.cells ([nP].map Value.string).toArray 9 (0, 0)) from (by repeat (first | (refine bk_new' _ ?_; simp; done) | refine bk_old _ ?_)))); have HV1 := Lib.hid ((hk1 (wc.heap.size + 1) (by simp <;> omega) (by omega)).trans (show _ = some (.cells #[.string nR, .int .i64 0, .string nZs, .int .i64 2] 85 (0, 0)) from (by repeat (first | (refine bk_new' _ ?_; simp; done) | refine bk_old _ ?_)))); have HL21 := Lib.hid (Laid.on ((HL20.out.alloc _).alloc _) hk1 (by omega) (by omega) (by omega)); have HL31 := Lib.hid (Laid.on ((HL30.out.alloc _).alloc _) hk1 (by omega) (by omega) (by omega)); have HK1 := Lib.hid hK1; have HZ1 : Hid (w.heap.size + 10 ≤ w2.heap.size) := Lib.hid (by omega); have HR1 := Lib.hid hr1; have HBL1 := Lib.hid hb1; have HG1 := Lib.hid (And.intro hG1 hS1); clear hK1 hz1 hzz hr1 hb1 hG1 hS1 hg1 hk1))
      refine bodyPost_ret (v := .agg #[.slice (some ⟨w4.heap.size, 0, none⟩) 3 3]) (by simp [results, Tryz.results37, go_sem, *]) rfl ?_
      have n10 : ∀ b, w.heap.size + 10 ≤ b → ¬ FourM w b := fun b hb h => by unfold FourM at h; omega
      have z0 := HZ0.out
      have z1 := HZ1.out
      have z2 := HZ2.out
      have z3 := HZ3.out
      have b3 := HBL3.out
      have key : ∀ W : World, KeptP (FourM w) w4 W → W.heap[w4.heap.size]? = some (.cells #[.string nG, .slice (some ⟨wc.heap.size, 0, none⟩) 1 1, .slice (some ⟨wc.heap.size + 1, 0, none⟩) 2 2, .slice e1 l1.length f1, .string nH, .slice (some ⟨w2.heap.size, 0, none⟩) 2 2, .slice (some ⟨w2.heap.size + 1, 0, none⟩) 1 1, .slice e2 l2.length f2, .string nMain, .slice none 0 0, .slice (some ⟨w3.heap.size, 0, none⟩) 6 6, .slice e3 l3.length f3] 55 (0, 0)) → MadeP w (.returned (.agg #[.slice (some ⟨w4.heap.size, 0, none⟩) 3 3])) W := by
        intro W hW hN
        have k2 := HK3.out.trans hW
        have k1 := HK2.out.trans k2
        have s1 := (k1.ss (fun b hb => n10 b (by simp at hb; omega)) HG1.out.2).mono (B' := w.heap.size) (by simp; omega)
        have s2 := (k2.ss (fun b hb => n10 b (by simp at hb; omega)) HG2.out.2).mono (B' := w.heap.size) (by simp; omega)
        have s3 := (hW.ss (fun b hb => n10 b (by simp at hb; omega)) HG3.out.2).mono (B' := w.heap.size) (by simp; omega)
        have m1 := HG1.out.1.2
        have m2 := HG2.out.1.2
        have m3 := HG3.out.1.2
        refine ⟨w4.heap.size, wc.heap.size, wc.heap.size + 1, w2.heap.size, w2.heap.size + 1, w3.heap.size, l1, l2, l3, e1, e2, e3, f1, f2, f3, rfl, ?_, HG1.out.1, HG2.out.1, HG3.out.1, ?_⟩
        · exact made_in hN ((k1.block _ (lt_of_block HP1.out) (n10 _ (by omega))).trans HP1.out) ((k1.block _ (lt_of_block HV1.out) (n10 _ (by omega))).trans HV1.out) ((k2.block _ (lt_of_block HP2.out) (n10 _ (by omega))).trans HP2.out) ((k2.block _ (lt_of_block HV2.out) (n10 _ (by omega))).trans HV2.out) ((hW.block _ (lt_of_block HV3.out) (n10 _ (by omega))).trans HV3.out) s1 s2 s3 (by omega) (by omega) (by omega) (by omega) (by omega) (by omega) (by omega) (by omega) (by omega)
        · exact ⟨hW.os.trans b3.os, hW.tape.trans b3.tape, hW.output.trans b3.output, Nat.le_trans b3.size hW.size, fun k hk => (hW.block k (by omega) (fun h => by unfold FourM at h; omega)).trans (b3.block k hk)⟩
      exact key _ (((KeptP.refl _ _).set (Or.inr (Or.inr (Or.inr rfl))) _ _).alloc _) (bk_new' _ (by simp))
end Go.Proofs.YtppeogcpoplpeaaGreatDoor
