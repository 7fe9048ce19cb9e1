/- How long what the feed makes is put: right expressions and statements, and bounds of their texts. No walk stands in this text. -/
import Derived.Test.YtkfogoglaiibiaaGreatDoorTStHeap
set_option linter.unusedSimpArgs false
set_option linter.unusedVariables false
namespace Go.Proofs.YtkfogoglaiibiaaGreatDoor
open Go Go.RowKit
open Go.Lib (decDigits itoa)

abbrev mE : ByteArray := { data := #[] }
def LE : Nat → Nat
  | 0 => 24
  | d + 1 => 2 * LE d + 12
theorem LE_ge : ∀ d, 24 ≤ LE d
  | 0 => Nat.le_refl _
  | d + 1 => by have := LE_ge d; rw [LE]; omega
theorem itoa_len (n : Int) (h : -9223372036854775808 ≤ n ∧ n ≤ 9223372036854775807) : (itoa n).length ≤ 24 := by
  unfold itoa
  split
  · have := dec_len n.natAbs (by omega)
    simp only [List.length_cons]; omega
  · have := dec_len n.toNat (by omega)
    omega
theorem inBr_len (b : Bool) (l : List UInt8) : (inBr b l).length ≤ l.length + 2 := by
  cases b <;> simp [inBr]
theorem nmB_len {m : ByteArray} (h : nmB m = true) : m.data.toList.length ≤ 24 := by
  simp only [nmB, nameOk, Bool.and_eq_true, decide_eq_true_eq] at h
  exact h.1.1.1.2
theorem op_len {o : ByteArray} (h : 0 < levelV o) : o.data.toList.length ≤ 2 := by
  have h1 := level_op h
  have h2 : ops18.all (fun l => decide (l.length ≤ 2)) = true := by decide
  rw [List.contains_iff_mem] at h1
  have := List.all_eq_true.1 h2 _ h1
  simpa using this

/-- A right expression of a text of at most LE d bytes. -/
structure GE (d : Nat) (T : ET) : Prop where
  right : T.rightB = true
  len : (putR levL T.re).length ≤ LE d
theorem GE.up {d : Nat} {T : ET} (h : GE d T) : GE (d + 1) T := ⟨h.right, by have := h.len; rw [LE]; omega⟩
theorem ge_num (d : Nat) (n : Int) (h : -9223372036854775808 ≤ n ∧ n ≤ 9223372036854775807) (a : Option Addr) (c : Nat) : GE d (.mk 0 mE n mE a c []) :=
  ⟨by simp [ET.rightB, rightEs, formedC], by show (itoa n).length ≤ _; have := itoa_len n h; have := LE_ge d; omega⟩
theorem ge_var (d : Nat) {m : ByteArray} (h : nmB m = true) (a : Option Addr) (c : Nat) : GE d (.mk 1 mE 0 m a c []) :=
  ⟨by simp [ET.rightB, rightEs, formedC, namesC, h], by show (m.data.toList).length ≤ _; have := nmB_len h; have := LE_ge d; omega⟩
theorem ge_idx {d : Nat} {m : ByteArray} (h : nmB m = true) {T : ET} (hT : GE d T) (a : Option Addr) (c : Nat) : GE (d + 1) (.mk 2 mE 0 m a c [T]) :=
  ⟨by simp [ET.rightB, rightEs, formedC, namesC, h, hT.right], by
    show (m.data.toList ++ 91 :: (putR levL T.re ++ [93])).length ≤ _
    have := nmB_len h
    have := hT.len
    have := LE_ge d
    simp only [List.length_append, List.length_cons, List.length_nil, LE]; omega⟩
theorem ge_un {d : Nat} {o : ByteArray} (h : unB o = true) {T : ET} (hT : GE d T) (a : Option Addr) (c : Nat) : GE (d + 1) (.mk 3 o 0 mE a c [T]) :=
  ⟨by simp [ET.rightB, rightEs, formedC, reckC, h, hT.right], by
    show ((o.data.toList.headD 0) :: inBr (unBr (o.data.toList.headD 0) T.re) (putR levL T.re)).length ≤ _
    have := inBr_len (unBr (o.data.toList.headD 0) T.re) (putR levL T.re)
    have := hT.len
    simp only [List.length_cons, LE]; omega⟩
theorem ge_bin {d : Nat} {o : ByteArray} (h : 0 < levelV o) {T U : ET} (hT : GE d T) (hU : GE d U) (a : Option Addr) (c : Nat) : GE (d + 1) (.mk 4 o 0 mE a c [T, U]) :=
  ⟨by simp [ET.rightB, rightEs, formedC, reckC, h, hT.right, hU.right], by
    show (inBr (T.re.lower levL (levL o.data.toList)) (putR levL T.re) ++ 32 :: (o.data.toList ++ 32 :: inBr (U.re.lower levL (levL o.data.toList + 1)) (putR levL U.re))).length ≤ _
    have := inBr_len (T.re.lower levL (levL o.data.toList)) (putR levL T.re)
    have := inBr_len (U.re.lower levL (levL o.data.toList + 1)) (putR levL U.re)
    have := hT.len
    have := hU.len
    have := op_len h
    simp only [List.length_append, List.length_cons, LE]; omega⟩
theorem ge_big {T : ET} {d : Nat} (h : GE d T) (hd : d ≤ 4) : (putR levL T.re).length ≤ 140737488355328 := by
  have := h.len
  have : LE d ≤ LE 4 := by
    match d, hd with
    | 0, _ => decide
    | 1, _ => decide
    | 2, _ => decide
    | 3, _ => decide
    | 4, _ => decide
  have : LE 4 = 564 := rfl
  omega

/-- How many bytes a statement of the feed may take, with all that stands in it, as deep as D. -/
def LS : Nat → Nat
  | 0 => 2000
  | D + 1 => 2000 + 5 * LS D
theorem LS_ge : ∀ D, 2000 ≤ LS D
  | 0 => Nat.le_refl _
  | D + 1 => by rw [LS]; omega
theorem tabs_len (d : Nat) : (tabsT d).length = d := by simp [tabsT]
theorem tag_len (t : Nat) (h : t ≤ 1000000) : (tagT t).length ≤ 22 := by
  unfold tagT
  split
  · simp
  · have := dec_len t (by omega)
    simp only [List.length_append, List.length_cons, List.length_nil]; omega
/-- Right statements, each of a text of at most LS D bytes, wherever they stand in at most 10 blocks. -/
structure GS (D : Nat) (S : ST) : Prop where
  right : S.rightB = true
  len : ∀ d, d + D ≤ 10 → (tabsT d ++ (tagT S.rs.tag ++ (putB levL d S.rs ++ [10]))).length ≤ LS D
structure GL (D : Nat) (l : List ST) : Prop where
  right : rightSs l = true
  len : ∀ d, d + D ≤ 10 → (putL levL d (rss l)).length ≤ l.length * LS D
theorem gl_nil (D : Nat) : GL D [] := ⟨by rw [rightSs], fun d _ => by rw [rss, putL]; simp⟩
theorem rightSs_snoc (l : List ST) (S : ST) : rightSs (l ++ [S]) = (rightSs l && S.rightB) := by
  rw [rightSs_append, rightSs, rightSs, Bool.and_true]
theorem rss_snoc (l : List ST) (S : ST) : rss (l ++ [S]) = rss l ++ [S.rs] := by
  rw [rss_map, rss_map, List.map_append]; rfl
theorem gl_snoc {D : Nat} {l : List ST} {S : ST} (h : GL D l) (hS : GS D S) : GL D (l ++ [S]) :=
  ⟨by rw [rightSs_snoc, h.right, hS.right]; rfl, fun d hd => by
    have h1 := h.len d hd
    have h2 := hS.len d hd
    rw [rss_snoc, putL_append, putL_cons, putL]
    simp only [List.length_append, List.length_cons, List.length_nil] at h2 ⊢
    rw [Nat.add_mul]
    omega⟩
theorem gs_len {S : ST} {D d t n : Nat} (ht : S.rs.tag ≤ 1000000) (hd : d + D ≤ 10) (hb : (putB levL d S.rs).length ≤ n) (hn : n + 40 ≤ LS D) : (tabsT d ++ (tagT S.rs.tag ++ (putB levL d S.rs ++ [10]))).length ≤ LS D := by
  have := tag_len _ ht
  have := tabs_len d
  simp only [List.length_append, List.length_cons, List.length_nil]
  omega
theorem ge2 {T : ET} {d : Nat} (h : GE d T) (hd : d ≤ 2) : (putR levL T.re).length ≤ 132 := by
  have h' := h.len
  match d, hd with
  | 0, _ => rw [show LE 0 = 24 from rfl] at h'; omega
  | 1, _ => rw [show LE 1 = 60 from rfl] at h'; omega
  | 2, _ => rw [show LE 2 = 132 from rfl] at h'; omega
section
variable {t : Int} (h0 : 0 ≤ t) (h1 : t ≤ 1000000)
include h0 h1
theorem formed_t : (t < 0 ∨ 1000000 < t) = False := by simp; omega
theorem gs_asg (D : Nat) {n : ByteArray} (hn : nmB n = true) {d : Nat} {T : ET} (hT : GE d T) (hd : d ≤ 2) (ea : Option Addr) (ec : Nat) (ba : Option Addr) (bc : Nat) (la : Option Addr) (lc : Nat) : GS D (.mk 0 t n mE ea ec [T] ba bc [] la lc []) :=
  ⟨by simp [ST.rightB, rightEs, rightSs, formedS, setsC, flatC, hn, hT.right, formed_t h0 h1], fun k hk => by
    refine gs_len (t := t.toNat) (n := 200) (by show t.toNat ≤ _; omega) hk ?_ (by have := LS_ge D; omega)
    show (n.data.toList ++ 32 :: 61 :: 32 :: (putR levL T.re ++ [59])).length ≤ _
    have := nmB_len hn
    have := ge2 hT hd
    simp only [List.length_append, List.length_cons, List.length_nil]; omega⟩
theorem gs_sto (D : Nat) {n : ByteArray} (hn : nmB n = true) {d d' : Nat} {T U : ET} (hT : GE d T) (hd : d ≤ 2) (hU : GE d' U) (hd' : d' ≤ 2) (ea : Option Addr) (ec : Nat) (ba : Option Addr) (bc : Nat) (la : Option Addr) (lc : Nat) : GS D (.mk 1 t n mE ea ec [T, U] ba bc [] la lc []) :=
  ⟨by simp [ST.rightB, rightEs, rightSs, formedS, setsC, flatC, hn, hT.right, hU.right, formed_t h0 h1], fun k hk => by
    refine gs_len (t := t.toNat) (n := 400) (by show t.toNat ≤ _; omega) hk ?_ (by have := LS_ge D; omega)
    show (n.data.toList ++ 91 :: (putR levL T.re ++ 93 :: 32 :: 61 :: 32 :: (putR levL U.re ++ [59]))).length ≤ _
    have := nmB_len hn
    have := ge2 hT hd
    have := ge2 hU hd'
    simp only [List.length_append, List.length_cons, List.length_nil]; omega⟩
theorem gs_rd (D : Nat) {n : ByteArray} (hn : nmB n = true) (ea : Option Addr) (ec : Nat) (ba : Option Addr) (bc : Nat) (la : Option Addr) (lc : Nat) : GS D (.mk 2 t n mE ea ec [] ba bc [] la lc []) :=
  ⟨by simp [ST.rightB, rightEs, rightSs, formedS, setsC, flatC, hn, formed_t h0 h1], fun k hk => by
    refine gs_len (t := t.toNat) (n := 200) (by show t.toNat ≤ _; omega) hk ?_ (by have := LS_ge D; omega)
    show (n.data.toList ++ [32, 61, 32, 114, 101, 97, 100, 40, 41, 59]).length ≤ _
    have := nmB_len hn
    simp only [List.length_append, List.length_cons, List.length_nil]; omega⟩
theorem gs_call1 (D : Nat) {n f : ByteArray} (hn : nmB n = true) (hf : nmB f = true) {d : Nat} {T : ET} (hT : GE d T) (hd : d ≤ 2) (ea : Option Addr) (ec : Nat) (ba : Option Addr) (bc : Nat) (la : Option Addr) (lc : Nat) : GS D (.mk 3 t n f ea ec [T] ba bc [] la lc []) :=
  ⟨by simp [ST.rightB, rightEs, rightSs, formedS, setsC, flatC, hn, hf, hT.right, formed_t h0 h1], fun k hk => by
    refine gs_len (t := t.toNat) (n := 400) (by show t.toNat ≤ _; omega) hk ?_ (by have := LS_ge D; omega)
    show (n.data.toList ++ 32 :: 61 :: 32 :: (f.data.toList ++ 40 :: (commas [44, 32] (putR levL) [T.re] ++ [41, 59]))).length ≤ _
    have := nmB_len hn
    have := nmB_len hf
    have := ge2 hT hd
    simp only [commas, List.length_append, List.length_cons, List.length_nil]; omega⟩
theorem gs_call2 (D : Nat) {n f : ByteArray} (hn : nmB n = true) (hf : nmB f = true) {d d' : Nat} {T U : ET} (hT : GE d T) (hd : d ≤ 2) (hU : GE d' U) (hd' : d' ≤ 2) (ea : Option Addr) (ec : Nat) (ba : Option Addr) (bc : Nat) (la : Option Addr) (lc : Nat) : GS D (.mk 3 t n f ea ec [T, U] ba bc [] la lc []) :=
  ⟨by simp [ST.rightB, rightEs, rightSs, formedS, setsC, flatC, hn, hf, hT.right, hU.right, formed_t h0 h1], fun k hk => by
    refine gs_len (t := t.toNat) (n := 500) (by show t.toNat ≤ _; omega) hk ?_ (by have := LS_ge D; omega)
    show (n.data.toList ++ 32 :: 61 :: 32 :: (f.data.toList ++ 40 :: (commas [44, 32] (putR levL) [T.re, U.re] ++ [41, 59]))).length ≤ _
    have := nmB_len hn
    have := nmB_len hf
    have := ge2 hT hd
    have := ge2 hU hd'
    simp only [commas, List.length_append, List.length_cons, List.length_nil]; omega⟩
theorem gs_brk (D : Nat) (ea : Option Addr) (ec : Nat) (ba : Option Addr) (bc : Nat) (la : Option Addr) (lc : Nat) : GS D (.mk 6 t mE mE ea ec [] ba bc [] la lc []) :=
  ⟨by simp [ST.rightB, rightEs, rightSs, formedS, noneC, flatC, formed_t h0 h1], fun k hk => by
    refine gs_len (t := t.toNat) (n := 200) (by show t.toNat ≤ _; omega) hk ?_ (by have := LS_ge D; omega)
    show ([98, 114, 101, 97, 107] ++ [59] : List UInt8).length ≤ _
    decide⟩
theorem gs_cnt (D : Nat) (ea : Option Addr) (ec : Nat) (ba : Option Addr) (bc : Nat) (la : Option Addr) (lc : Nat) : GS D (.mk 7 t mE mE ea ec [] ba bc [] la lc []) :=
  ⟨by simp [ST.rightB, rightEs, rightSs, formedS, noneC, flatC, formed_t h0 h1], fun k hk => by
    refine gs_len (t := t.toNat) (n := 200) (by show t.toNat ≤ _; omega) hk ?_ (by have := LS_ge D; omega)
    show ([99, 111, 110, 116, 105, 110, 117, 101] ++ [59] : List UInt8).length ≤ _
    decide⟩
theorem gs_ret (D : Nat) {d : Nat} {T : ET} (hT : GE d T) (hd : d ≤ 2) (ea : Option Addr) (ec : Nat) (ba : Option Addr) (bc : Nat) (la : Option Addr) (lc : Nat) : GS D (.mk 8 t mE mE ea ec [T] ba bc [] la lc []) :=
  ⟨by simp [ST.rightB, rightEs, rightSs, formedS, noneC, flatC, hT.right, formed_t h0 h1], fun k hk => by
    refine gs_len (t := t.toNat) (n := 200) (by show t.toNat ≤ _; omega) hk ?_ (by have := LS_ge D; omega)
    show ([114, 101, 116, 117, 114, 110] ++ 32 :: (putR levL T.re ++ [59])).length ≤ _
    have := ge2 hT hd
    simp only [List.length_append, List.length_cons, List.length_nil]; omega⟩
theorem gs_ass (D : Nat) {d : Nat} {T : ET} (hT : GE d T) (hd : d ≤ 2) (ea : Option Addr) (ec : Nat) (ba : Option Addr) (bc : Nat) (la : Option Addr) (lc : Nat) : GS D (.mk 9 t mE mE ea ec [T] ba bc [] la lc []) :=
  ⟨by simp [ST.rightB, rightEs, rightSs, formedS, noneC, flatC, hT.right, formed_t h0 h1], fun k hk => by
    refine gs_len (t := t.toNat) (n := 200) (by show t.toNat ≤ _; omega) hk ?_ (by have := LS_ge D; omega)
    show ([97, 115, 115, 101, 114, 116] ++ 40 :: (putR levL T.re ++ [41, 59])).length ≤ _
    have := ge2 hT hd
    simp only [List.length_append, List.length_cons, List.length_nil]; omega⟩
theorem gs_whl {D : Nat} {d : Nat} {T : ET} (hT : GE d T) (hd : d ≤ 2) {b : List ST} (hb : GL D b) (hl : b.length ≤ 3) (ea : Option Addr) (ec : Nat) (ba : Option Addr) (bc : Nat) (la : Option Addr) (lc : Nat) : GS (D + 1) (.mk 5 t mE mE ea ec [T] ba bc b la lc []) :=
  ⟨by simp [ST.rightB, rightEs, rightSs, formedS, noneC, flatC, hT.right, hb.right, formed_t h0 h1], fun k hk => by
    have hB := hb.len (k + 1) (by omega)
    have h3 : b.length * LS D ≤ 3 * LS D := Nat.mul_le_mul_right _ hl
    refine gs_len (t := t.toNat) (n := 400 + 3 * LS D) (by show t.toNat ≤ _; omega) hk ?_ (by rw [LS]; omega)
    show ([119, 104, 105, 108, 101] ++ 32 :: 40 :: (putR levL T.re ++ 41 :: 32 :: 123 :: 10 :: (putL levL (k + 1) (rss b) ++ (tabsT k ++ [125])))).length ≤ _
    have := ge2 hT hd
    have := tabs_len k
    simp only [List.length_append, List.length_cons, List.length_nil]; omega⟩
theorem gs_ife {D : Nat} {d : Nat} {T : ET} (hT : GE d T) (hd : d ≤ 2) {b l : List ST} (hb : GL D b) (hl : b.length ≤ 3) (hl' : GL D l) (hll : l.length ≤ 2) (ea : Option Addr) (ec : Nat) (ba : Option Addr) (bc : Nat) (la : Option Addr) (lc : Nat) : GS (D + 1) (.mk 4 t mE mE ea ec [T] ba bc b la lc l) :=
  ⟨by simp [ST.rightB, rightEs, rightSs, formedS, noneC, flatC, hT.right, hb.right, hl'.right, formed_t h0 h1], fun k hk => by
    have hB := hb.len (k + 1) (by omega)
    have hL := hl'.len (k + 1) (by omega)
    have h3 : b.length * LS D ≤ 3 * LS D := Nat.mul_le_mul_right _ hl
    have h2 : l.length * LS D ≤ 2 * LS D := Nat.mul_le_mul_right _ hll
    refine gs_len (t := t.toNat) (n := 600 + 5 * LS D) (by show t.toNat ≤ _; omega) hk ?_ (by rw [LS]; omega)
    show ([105, 102] ++ 32 :: 40 :: (putR levL T.re ++ 41 :: 32 :: 123 :: 10 :: (putL levL (k + 1) (rss b) ++ (tabsT k ++ 125 :: (if (rss l).isEmpty then [] else 32 :: ([101, 108, 115, 101] ++ 32 :: 123 :: 10 :: (putL levL (k + 1) (rss l) ++ (tabsT k ++ [125])))))))).length ≤ _
    have := ge2 hT hd
    have := tabs_len k
    split
    · simp only [List.length_append, List.length_cons, List.length_nil]; omega
    · simp only [List.length_append, List.length_cons, List.length_nil]; omega⟩
end
theorem gs_up {D : Nat} {S : ST} (h : GS D S) : GS (D + 1) S := ⟨h.right, fun d hd => by have := h.len d (by omega); rw [LS]; omega⟩
end Go.Proofs.YtkfogoglaiibiaaGreatDoor
