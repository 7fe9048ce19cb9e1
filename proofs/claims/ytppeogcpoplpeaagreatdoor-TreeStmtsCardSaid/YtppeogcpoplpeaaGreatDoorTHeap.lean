/- What the writer's small methods write: text, tabs, tag, name. Trees as they lie in memory: where each list of parts lies is told beside what it holds. What right, same and Count ask of them, as plain functions. -/
import Derived.Test.YtppeogcpoplpeaaGreatDoorTWrite
import Derived.Test.YtppeogcpoplpeaaGreatDoorTWord
import Derived.Test.YtppeogcpoplpeaaGreatDoorTName
import Derived.IntWalk
set_option linter.unusedSimpArgs false
set_option linter.unusedVariables false
namespace Go.Proofs.YtppeogcpoplpeaaGreatDoor
open Go Go.RowKit

def catB (ps : List ByteArray) : List UInt8 := ps.flatMap fun s => s.data.toList
theorem catB_take (ps : List ByteArray) (k : Nat) (hk : k < ps.length) : catB (ps.take (k + 1)) = catB (ps.take k) ++ ps[k].data.toList := by
  rw [List.take_succ_eq_append_getElem hk, catB, List.flatMap_append, catB]; simp
theorem catB_take_len (ps : List ByteArray) (k : Nat) : (catB (ps.take k)).length ≤ (catB ps).length := by
  rw [show catB ps = catB (ps.take k) ++ catB (ps.drop k) by rw [catB, catB, catB, ← List.flatMap_append, List.take_append_drop], List.length_append]
  omega

set_option maxHeartbeats 1000000 in
set_option maxRecDepth 100000 in
theorem text_any {B b : Nat} {bs : List UInt8} {k : Int} {w : World} (h : Wr B b bs k w) (q cap : Nat) (ps : List ByteArray) (cs : Array Value) (hq : w.heap[q]? = some (.cells cs 9 (0, 0))) (hcs : cs.toList = ps.map Value.string) (hps : ps.length ≤ 1000) (hlen : bs.length + (catB ps).length ≤ 140737488355328) :
    Calls Tryz.prog 81 #[.pointer (some ⟨b, 0, none⟩), .slice (some ⟨q, 0, none⟩) ps.length cap] w fun e w' => e = .returned (.tuple #[]) ∧ Went B b (bs ++ catB ps) k w w' := by
  have hqb : q ≠ b := by
    intro e
    obtain ⟨_, p, v, _, hb, _⟩ := h
    rw [e, hb] at hq
    simp only [Option.some.injEq, Obj.cells.injEq] at hq
    exact absurd hq.2.1 (by decide)
  have hcell : Hid (∀ (wr : World) (bs' : List UInt8), Went B b bs' k w wr → ∀ i s, ps[i]? = some s → wr.cell? ⟨q, i, none⟩ = some (.string s)) := Lib.hid fun wr bs' hw i s hs => by
    have h1 := hw.keeps q _ hqb hq (fun c f e => by simp only [Obj.cells.injEq] at e; exact absurd e.2.1 (by decide))
    refine bk_cell h1 ?_
    rw [← Array.getElem?_toList, hcs, List.getElem?_map, hs]; rfl
  have hL := Lib.hid hlen
  clear hlen hq hcs hqb
  have hB := Lib.hid h.went
  clear h
  go_enter Tryz.func81, Tryz.ntmps81
  go_wp2
  go_loopw [5, 8] (fun _ i wr => ∃ n : Nat, n ≤ ps.length ∧ i = .int .i64 n ∧ Went B b (bs ++ catB (ps.take n)) k w wr) (fun _ i _ => ps.length - (intOf i).toNat)
  case atStart => exact ⟨0, Nat.zero_le _, rfl, by simpa [catB] using hB.out⟩
  case round =>
    obtain ⟨n, hn, rfl, hw⟩ := hrel
    by_cases hlt : n < ps.length
    · have hc := hcell.out _ _ hw n ps[n] (List.getElem?_eq_getElem hlt)
      have e1 := catB_take ps n hlt
      have l1 := catB_take_len ps (n + 1)
      have hL2 : Hid ((bs ++ catB (ps.take n)).length + ps[n].size ≤ 140737488355328) := Lib.hid (by
        have := hL.out
        rw [e1, List.length_append] at l1
        rw [List.length_append]
        have e2 : ps[n].data.toList.length = ps[n].size := Array.length_toList
        omega)
      have hE := Lib.hid e1
      have hW := Lib.hid hw
      clear e1 l1 hw
      generalize hs : ps[n] = s at hc hL2 hE
      clear hs
      go_wp2_with (go_at_call 107; refine (writeString_any hW.out.wr s hL2.out).mono ?_; rintro e w2 ⟨rfl, hw2⟩)
      have hW2 := Lib.hid (hW.out.trans hw2)
      clear hw2
      go_round
      case rel => exact ⟨n + 1, by omega, by go_num, by rw [hE.out, ← List.append_assoc]; exact hW2.out⟩
      case measure => simp [intOf]; omega
    · obtain rfl : n = ps.length := by omega
      have hW := Lib.hid hw
      clear hw
      go_wp2
      go_end0
      exact ⟨rfl, by have := hW.out; rwa [List.take_length] at this⟩
end Go.Proofs.YtppeogcpoplpeaaGreatDoor

set_option linter.unusedSimpArgs false
set_option linter.unusedVariables false
namespace Go.Proofs.YtppeogcpoplpeaaGreatDoor
open Go Go.RowKit

/-- An expression, with the address of its kids. -/
inductive ET where
  | mk (kind : Int) (op : ByteArray) (n : Int) (name : ByteArray) (a : Option Addr) (cap : Nat) (kids : List ET)
def ET.kind : ET → Int
  | .mk k _ _ _ _ _ _ => k
def ET.op : ET → ByteArray
  | .mk _ o _ _ _ _ _ => o
def ET.n : ET → Int
  | .mk _ _ n _ _ _ _ => n
def ET.name : ET → ByteArray
  | .mk _ _ _ m _ _ _ => m
def ET.kids : ET → List ET
  | .mk _ _ _ _ _ _ l => l
def ET.kaddr : ET → Option Addr
  | .mk _ _ _ _ a _ _ => a
def ET.kcap : ET → Nat
  | .mk _ _ _ _ _ c _ => c
/-- Its five cells. -/
def ET.cells : ET → Array Value
  | .mk k o n m a c l => #[.int .i64 k, .string o, .int .i64 n, .string m, .slice a l.length c]
abbrev ET.val (T : ET) : Value := .agg T.cells

/-- At address a, place i on, lie rows of so many cells. -/
def RowAt (w : World) (B : Nat) (a : Option Addr) (i : Nat) (size : Nat) (cs : Array Value) : Prop :=
  ∃ b o, a = some ⟨b, o, none⟩ ∧ B ≤ b ∧ ∀ j v, cs[j]? = some v → w.cell? ⟨b, o + i * size + j, none⟩ = some v
theorem RowAt.keep {w w' : World} {B : Nat} {a : Option Addr} {i size : Nat} {cs : Array Value} (h : RowAt w B a i size cs) (hk : ∀ p v, B ≤ p.block → w.cell? p = some v → w'.cell? p = some v) : RowAt w' B a i size cs := by
  obtain ⟨b, o, e, hB, hc⟩ := h
  exact ⟨b, o, e, hB, fun j v hj => hk _ v hB (hc j v hj)⟩
theorem RowAt.mono {w : World} {B B' : Nat} {a : Option Addr} {i size : Nat} {cs : Array Value} (h : RowAt w B a i size cs) (hB : B' ≤ B) : RowAt w B' a i size cs := by
  obtain ⟨b, o, e, h1, hc⟩ := h
  exact ⟨b, o, e, Nat.le_trans hB h1, hc⟩

mutual
/-- The expression lies in memory, its kids in blocks from B on. -/
def ET.In (w : World) (B : Nat) : ET → Prop
  | .mk _ _ n _ a _ l => (-9223372036854775808 ≤ n ∧ n ≤ 9223372036854775807) ∧ l.length ≤ 9223372036854775807 ∧ EsIn w B a 0 l
def EsIn (w : World) (B : Nat) (a : Option Addr) : Nat → List ET → Prop
  | _, [] => True
  | i, T :: l => RowAt w B a i 5 T.cells ∧ T.In w B ∧ EsIn w B a (i + 1) l
end
mutual
theorem ET.In.keep {w w' : World} {B : Nat} (hk : ∀ p v, B ≤ p.block → w.cell? p = some v → w'.cell? p = some v) : ∀ {T : ET}, T.In w B → T.In w' B
  | .mk k o n m a c l, h => by
    rw [ET.In] at h ⊢
    exact ⟨h.1, h.2.1, EsIn.keep hk h.2.2⟩
theorem EsIn.keep {w w' : World} {B : Nat} {a : Option Addr} (hk : ∀ p v, B ≤ p.block → w.cell? p = some v → w'.cell? p = some v) : ∀ {i : Nat} {l : List ET}, EsIn w B a i l → EsIn w' B a i l
  | _, [], _ => by rw [EsIn]; trivial
  | i, T :: l, h => by
    rw [EsIn] at h ⊢
    exact ⟨h.1.keep hk, h.2.1.keep hk, EsIn.keep hk h.2.2⟩
end
mutual
theorem ET.In.mono {w : World} {B B' : Nat} (hB : B' ≤ B) : ∀ {T : ET}, T.In w B → T.In w B'
  | .mk k o n m a c l, h => by
    rw [ET.In] at h ⊢
    exact ⟨h.1, h.2.1, EsIn.mono hB h.2.2⟩
theorem EsIn.mono {w : World} {B B' : Nat} {a : Option Addr} (hB : B' ≤ B) : ∀ {i : Nat} {l : List ET}, EsIn w B a i l → EsIn w B' a i l
  | _, [], _ => by rw [EsIn]; trivial
  | i, T :: l, h => by
    rw [EsIn] at h ⊢
    exact ⟨h.1.mono hB, h.2.1.mono hB, EsIn.mono hB h.2.2⟩
end
theorem below_keep {w w' : World} (h : Below w.heap.size w w') {B : Nat} : ∀ p v, B ≤ p.block → w.cell? p = some v → w'.cell? p = some v := fun p v _ hc => by
  have hlt : p.block < w.heap.size := by
    rcases Nat.lt_or_ge p.block w.heap.size with h' | h'
    · exact h'
    · exfalso
      obtain ⟨b, o, q⟩ := p
      simp only at h'
      simp [World.cell?, Array.getElem?_eq_none h'] at hc
  rw [h.cell hlt]; exact hc
theorem ET.In.on {w w' : World} {B : Nat} {T : ET} (h : T.In w B) (hb : Below w.heap.size w w') : T.In w' B := h.keep (below_keep hb)
theorem EsIn.on {w w' : World} {B : Nat} {a : Option Addr} {i : Nat} {l : List ET} (h : EsIn w B a i l) (hb : Below w.heap.size w w') : EsIn w' B a i l := h.keep (below_keep hb)
theorem EsIn.nth {w : World} {B : Nat} {a : Option Addr} : ∀ {l : List ET} {i : Nat}, EsIn w B a i l → ∀ (j : Nat) (hj : j < l.length), RowAt w B a (i + j) 5 l[j].cells ∧ l[j].In w B
  | [], _, _, j, hj => by simp at hj
  | T :: l, i, h, j, hj => by
    rw [EsIn] at h
    cases j with
    | zero => exact ⟨h.1, h.2.1⟩
    | succ j =>
      have := EsIn.nth h.2.2 j (by simpa using hj)
      rw [show i + 1 + j = i + (j + 1) by omega] at this
      exact this

def levL (l : List UInt8) : Int := levelV ⟨l.toArray⟩
theorem levL_is (s : ByteArray) : levL s.data.toList = levelV s := by unfold levL; rw [Array.toArray_toList]
def namesC (o : ByteArray) (n : Int) (m : ByteArray) : Bool := nmB m && o.toList.isEmpty && n == 0
def reckC (n : Int) (m : ByteArray) : Bool := m.toList.isEmpty && n == 0
/-- Has the expression what its kind asks for? -/
def formedC (k : Int) (o : ByteArray) (n : Int) (m : ByteArray) (len : Nat) : Bool :=
  if k = 0 then o.toList.isEmpty && m.toList.isEmpty && len == 0
  else if k = 1 then namesC o n m && len == 0
  else if k = 2 then namesC o n m && len == 1
  else if k = 3 then unB o && reckC n m && len == 1
  else if k = 4 then decide (0 < levelV o) && reckC n m && len == 2
  else false
mutual
def ET.sz : ET → Nat
  | .mk _ _ _ _ _ _ l => 1 + szs l
def szs : List ET → Nat
  | [] => 0
  | T :: l => T.sz + szs l
end
mutual
def ET.rightB : ET → Bool
  | .mk k o n m a c l => formedC k o n m l.length && rightEs l
def rightEs : List ET → Bool
  | [] => true
  | T :: l => T.rightB && rightEs l
end
/-- A right expression as plain data. -/
def ET.re : ET → RE
  | .mk k o n m _ _ [] => if k = 0 then .num n else .var m.data.toList
  | .mk k o n m _ _ [T] => if k = 2 then .idx m.data.toList T.re else .un (o.data.toList.headD 0) T.re
  | .mk k o n m _ _ (T :: U :: _) => .bin o.data.toList T.re U.re

theorem isE {s : ByteArray} (h : s.toList.isEmpty = true) : s = { data := #[] } := by
  obtain ⟨⟨l⟩⟩ := s
  rw [ByteArray.toList_eq] at h
  cases l with
  | nil => rfl
  | cons => simp at h
theorem right_cases {T : ET} (h : T.rightB = true) :
    (∃ n a c, T = .mk 0 { data := #[] } n { data := #[] } a c []) ∨
    (∃ m a c, nmB m = true ∧ T = .mk 1 { data := #[] } 0 m a c []) ∨
    (∃ m a c e, nmB m = true ∧ e.rightB = true ∧ T = .mk 2 { data := #[] } 0 m a c [e]) ∨
    (∃ o a c e, unB o = true ∧ e.rightB = true ∧ T = .mk 3 o 0 { data := #[] } a c [e]) ∨
    (∃ o a c e f, 0 < levelV o ∧ e.rightB = true ∧ f.rightB = true ∧ T = .mk 4 o 0 { data := #[] } a c [e, f]) := by
  obtain ⟨k, o, n, m, a, c, l⟩ := T
  rw [ET.rightB, Bool.and_eq_true] at h
  obtain ⟨h1, h2⟩ := h
  unfold formedC namesC reckC at h1
  by_cases hk0 : k = 0
  · rw [if_pos hk0] at h1; subst hk0
    simp only [Bool.and_eq_true, beq_iff_eq, List.length_eq_zero_iff] at h1
    exact .inl ⟨n, a, c, by rw [isE h1.1.1, isE h1.1.2, h1.2]⟩
  rw [if_neg hk0] at h1
  by_cases hk1 : k = 1
  · rw [if_pos hk1] at h1; subst hk1
    simp only [Bool.and_eq_true, beq_iff_eq, List.length_eq_zero_iff] at h1
    exact .inr (.inl ⟨m, a, c, h1.1.1.1, by rw [isE h1.1.1.2, h1.1.2, h1.2]⟩)
  rw [if_neg hk1] at h1
  by_cases hk2 : k = 2
  · rw [if_pos hk2] at h1; subst hk2
    simp only [Bool.and_eq_true, beq_iff_eq, List.length_eq_one_iff] at h1
    obtain ⟨e, rfl⟩ := h1.2
    simp only [rightEs, Bool.and_true] at h2
    exact .inr (.inr (.inl ⟨m, a, c, e, h1.1.1.1, h2, by rw [isE h1.1.1.2, h1.1.2]⟩))
  rw [if_neg hk2] at h1
  by_cases hk3 : k = 3
  · rw [if_pos hk3] at h1; subst hk3
    simp only [Bool.and_eq_true, beq_iff_eq, List.length_eq_one_iff] at h1
    obtain ⟨e, rfl⟩ := h1.2
    simp only [rightEs, Bool.and_true] at h2
    exact .inr (.inr (.inr (.inl ⟨o, a, c, e, h1.1.1, h2, by rw [isE h1.1.2.1, h1.1.2.2]⟩)))
  rw [if_neg hk3] at h1
  by_cases hk4 : k = 4
  · rw [if_pos hk4] at h1; subst hk4
    simp only [Bool.and_eq_true, beq_iff_eq, decide_eq_true_eq] at h1
    match l, h1.2, h2 with
    | [e, f], _, h2 =>
      simp only [rightEs, Bool.and_true, Bool.and_eq_true] at h2
      exact .inr (.inr (.inr (.inr ⟨o, a, c, e, f, h1.1.1, h2.1, h2.2, by rw [isE h1.1.2.1, h1.1.2.2]⟩)))
  · rw [if_neg hk4] at h1; cases h1
theorem unB_is {o : ByteArray} (h : unB o = true) : ∃ c : UInt8, (c = 45 ∨ c = 126 ∨ c = 33) ∧ o = { data := #[c] } := by
  unfold unB at h
  by_cases h0 : o.data.toList = [45]
  · exact ⟨45, .inl rfl, of_list h0⟩
  by_cases h1 : o.data.toList = [126]
  · exact ⟨126, .inr (.inl rfl), of_list h1⟩
  by_cases h2 : o.data.toList = [33]
  · exact ⟨33, .inr (.inr rfl), of_list h2⟩
  simp_all
theorem level_op {o : ByteArray} (h : 0 < levelV o) : ops18.contains o.data.toList = true := by
  rw [List.contains_iff_mem]
  by_cases h0 : o.data.toList = [124, 124]
  · rw [h0]; decide
  by_cases h1 : o.data.toList = [38, 38]
  · rw [h1]; decide
  by_cases h2 : o.data.toList = [124]
  · rw [h2]; decide
  by_cases h3 : o.data.toList = [94]
  · rw [h3]; decide
  by_cases h4 : o.data.toList = [38]
  · rw [h4]; decide
  by_cases h5 : o.data.toList = [61, 61]
  · rw [h5]; decide
  by_cases h6 : o.data.toList = [33, 61]
  · rw [h6]; decide
  by_cases h7 : o.data.toList = [60]
  · rw [h7]; decide
  by_cases h8 : o.data.toList = [60, 61]
  · rw [h8]; decide
  by_cases h9 : o.data.toList = [62]
  · rw [h9]; decide
  by_cases h10 : o.data.toList = [62, 61]
  · rw [h10]; decide
  by_cases h11 : o.data.toList = [60, 60]
  · rw [h11]; decide
  by_cases h12 : o.data.toList = [62, 62]
  · rw [h12]; decide
  by_cases h13 : o.data.toList = [43]
  · rw [h13]; decide
  by_cases h14 : o.data.toList = [45]
  · rw [h14]; decide
  by_cases h15 : o.data.toList = [42]
  · rw [h15]; decide
  by_cases h16 : o.data.toList = [47]
  · rw [h16]; decide
  by_cases h17 : o.data.toList = [37]
  · rw [h17]; decide
  exfalso
  unfold levelV at h
  rw [if_neg h0, if_neg h1, if_neg h2, if_neg h3, if_neg h4, if_neg h5, if_neg h6, if_neg h7, if_neg h8, if_neg h9, if_neg h10, if_neg h11, if_neg h12, if_neg h13, if_neg h14, if_neg h15, if_neg h16, if_neg h17] at h
  exact absurd h (by decide)
theorem right_wf {w : World} {B : Nat} : ∀ (m : Nat) {T : ET}, T.sz ≤ m → T.rightB = true → T.In w B → T.re.wf = true := by
  intro m
  induction m with
  | zero => intro T hm; obtain ⟨k, o, n, m, a, c, l⟩ := T; simp [ET.sz] at hm
  | succ m ih =>
    intro T hm h hin
    rcases right_cases h with ⟨n, a, c, rfl⟩ | ⟨s, a, c, hs, rfl⟩ | ⟨s, a, c, e, hs, he, rfl⟩ | ⟨o, a, c, e, ho, he, rfl⟩ | ⟨o, a, c, e, f, ho, he, hf, rfl⟩
    · rw [ET.In] at hin
      simp only [ET.re, if_true, RE.wf, Bool.and_eq_true, decide_eq_true_eq]
      exact hin.1
    · exact hs
    · simp only [ET.In, EsIn] at hin
      simp only [ET.re, if_true, RE.wf, Bool.and_eq_true]
      simp [ET.sz, szs] at hm
      exact ⟨hs, ih (by omega) he hin.2.2.2.1⟩
    · simp only [ET.In, EsIn] at hin
      obtain ⟨c', hc, rfl⟩ := unB_is ho
      simp [ET.sz, szs] at hm
      have := ih (by omega) he hin.2.2.2.1
      simp only [ET.re, RE.wf, Bool.and_eq_true]
      rw [if_neg (by decide)]
      simp only [RE.wf, Bool.and_eq_true]
      exact ⟨by rcases hc with rfl | rfl | rfl <;> rfl, this⟩
    · simp only [ET.In, EsIn] at hin
      simp [ET.sz, szs] at hm
      simp only [ET.re, RE.wf, Bool.and_eq_true]
      exact ⟨⟨level_op ho, ih (by omega) he hin.2.2.2.1⟩, ih (by omega) hf hin.2.2.2.2.2.1⟩
end Go.Proofs.YtppeogcpoplpeaaGreatDoor
