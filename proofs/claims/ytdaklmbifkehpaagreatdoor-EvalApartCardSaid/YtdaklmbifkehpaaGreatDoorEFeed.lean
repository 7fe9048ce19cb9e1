/- What the environment of EvalNames tells; expressions of a name, of an element. (Written by gennames.py.) The statements' expressions: a feed of the names a, b, p, xs, ys, what it makes; an expression of one kid, of two. -/
import Derived.Test.YtdaklmbifkehpaaGreatDoorEEx
import Derived.Test.YtdaklmbifkehpaaGreatDoorTFeedS
set_option linter.unusedSimpArgs false
set_option linter.unusedVariables false
namespace Go.Proofs.YtdaklmbifkehpaaGreatDoor.Ev
open Go Go.RowKit Go.Proofs.YtdaklmbifkehpaaGreatDoor Go.Proofs.YtdaklmbifkehpaaGreatDoor.Pm

def cutR (n : Nat) (zs : List Int) : List Int := (List.range n).map fun i => zs.getD i 0
theorem cutR_len (n : Nat) (zs : List Int) : (cutR n zs).length = n := by simp [cutR]
theorem cutR_at {n i : Nat} (zs : List Int) (h : i < n) : (cutR n zs).getD i 0 = zs.getD i 0 := by simp [cutR, h]
theorem rowIn_cut {k : IntKind} {w : World} {a : Option Addr} {len n : Nat} {zs : List Int} (h : RowIn k w a len zs) (hn : n ≤ len) : RowIn k w a n (cutR n zs) := by
  refine ⟨by have := h.1; omega, fun h0 => ?_⟩
  obtain ⟨b, o, e, hb, hc⟩ := h.2 (by omega)
  exact ⟨b, o, e, hb, fun i hi => by rw [cutR_at zs hi]; exact hc i (by omega)⟩
theorem rowIn_on {k : IntKind} {w w' : World} {a : Option Addr} {len : Nat} {zs : List Int} (h : RowIn k w a len zs) (hb : Below w.heap.size w w') : RowIn k w' a len zs := by
  refine ⟨h.1, fun h0 => ?_⟩
  obtain ⟨b, o, e, hlt, hc⟩ := h.2 h0
  exact ⟨b, o, e, Nat.lt_of_lt_of_le hlt hb.size, fun i hi => ⟨cellB hb (hc i hi).1, (hc i hi).2⟩⟩
theorem slot_kind {L : List PC} {s : List UInt8} {arr : Bool} {k : Nat} {c : PC} (hi : idxOf s L = some k) (hc : L[k]? = some c) (ha : c.arr ≠ arr) (i : Int) : slot L s arr i = none := by
  unfold slot; rw [hi]; simp only [hc]; rw [if_neg (fun h => ha h.1)]
theorem slot_out {L : List PC} {s : List UInt8} {arr : Bool} {k : Nat} {c : PC} (hi : idxOf s L = some k) (hc : L[k]? = some c) {i : Int} (h : i < 0 ∨ (c.v.length : Nat) ≤ i) : slot L s arr i = none := by
  unfold slot; rw [hi]; simp only [hc]; rw [if_neg (fun h => by omega)]
theorem slot_hit {L : List PC} {s : List UInt8} {arr : Bool} {k : Nat} {c : PC} (hi : idxOf s L = some k) (hc : L[k]? = some c) (ha : c.arr = arr) {i : Int} (h0 : 0 ≤ i) (h1 : i < (c.v.length : Nat)) : slot L s arr i = some (k, i.toNat) := by
  unfold slot; rw [hi]; simp only [hc]; rw [if_pos ⟨ha, h0, h1⟩]
theorem get_hit {L : List PC} {s : List UInt8} {arr : Bool} {k : Nat} {c : PC} (hi : idxOf s L = some k) (hc : L[k]? = some c) (ha : c.arr = arr) {i : Int} (h0 : 0 ≤ i) (h1 : i < (c.v.length : Nat)) : getV L s arr i = c.v[i.toNat]? := by
  unfold getV; rw [slot_hit hi hc ha h0 h1]; simp only [hc]
theorem fr_p (zs : List Int) : getV (frL zs) [112] false 0 = some (zs.getD 0 0) := rfl
theorem fr_a (zs : List Int) : getV (frL zs) [97] false 0 = some (zs.getD 1 0) := rfl
theorem fr_b (zs : List Int) : getV (frL zs) [98] false 0 = some 0 := rfl
theorem fr_q (zs : List Int) : getV (frL zs) [113] false 0 = none := rfl
theorem fr_xs (zs : List Int) : getV (frL zs) [120, 115] false 0 = none := rfl
theorem fr_pi (zs : List Int) (i : Int) : getV (frL zs) [112] true i = none := getV_none (slot_kind (k := 0) (c := parC zs 0 sP) rfl rfl (fun h => by cases h) i)
theorem fr_xi (zs : List Int) {i : Int} (h0 : 0 ≤ i) (h1 : i < 3) : getV (frL zs) [120, 115] true i = some 0 := by
  rw [get_hit (k := 3) (c := ⟨[120, 115], true, [0, 0, 0]⟩) rfl rfl rfl h0 h1]
  obtain rfl | rfl | rfl : i = 0 ∨ i = 1 ∨ i = 2 := by omega
  all_goals rfl
theorem fr_xo (zs : List Int) {i : Int} (h : i < 0 ∨ 3 ≤ i) : getV (frL zs) [120, 115] true i = none := getV_none (slot_out (k := 3) (c := ⟨[120, 115], true, [0, 0, 0]⟩) rfl rfl h)
theorem fr_sq (zs : List Int) : (slot (frL zs) [113] false 0).isSome = false := rfl
abbrev idxT (s : ByteArray) (N : Nat) (i : Int) : ET := .mk 2 mE 0 s (some ⟨N, 0, none⟩) 1 [.mk 0 mE i mE none 0 []]
abbrev numO (i : Int) : Obj := .cells #[.int .i64 0, .string mE, .int .i64 i, .string mE, .slice none 0 0] 26
theorem idxT_in (s : ByteArray) {i : Int} (h : in64 i) (W : World) : (idxT s W.heap.size i).In (W.alloc (numO i)) 0 := by
  rw [ET.In]
  exact ⟨by decide, by simp, es_one_at (T := .mk 0 mE i mE none 0 []) (bk_new W (numO i)) (num_in h _ _) (Nat.zero_le _)⟩
theorem idxT_right (s : ByteArray) (hs : nmB s = true) (N : Nat) (i : Int) : (idxT s N i).rightB = true := by
  have h1 : (ET.mk 0 mE i mE none 0 []).rightB = true := by
    rw [ET.rightB, rightEs]
    have : formedC 0 mE i mE ([] : List ET).length = true := by unfold formedC; kernel_rfl
    rw [this]; rfl
  rw [ET.rightB, rightEs, rightEs, h1]
  have : formedC 2 mE 0 s [ET.mk 0 mE i mE none 0 []].length = true := by unfold formedC namesC; rw [hs]; kernel_rfl
  rw [this]; rfl
theorem idxT_ev (L : List PC) (s : ByteArray) (hs : nmB s = true) (N : Nat) (i : Int) : evT L (idxT s N i) = valR (getV L s.data.toList true i) := by
  unfold evT
  rw [if_pos (idxT_right s hs N i)]
  show idxR L s.data.toList (i, 0) = _
  unfold idxR
  rw [if_pos rfl]
theorem varT_ev (L : List PC) (s : ByteArray) (hs : nmB s = true) : evT L (.mk 1 mE 0 s none 0 []) = (oneV (getV L s.data.toList false 0), 0) := by
  unfold evT
  have : (ET.mk 1 mE 0 s none 0 []).rightB = true := by
    rw [ET.rightB, rightEs]
    have : formedC 1 mE 0 s ([] : List ET).length = true := by unfold formedC namesC; rw [hs]; kernel_rfl
    rw [this]; rfl
  rw [if_pos this]
  rfl
end Go.Proofs.YtdaklmbifkehpaaGreatDoor.Ev

set_option linter.unusedSimpArgs false
set_option linter.unusedVariables false
namespace Go.Proofs.YtdaklmbifkehpaaGreatDoor.Ev
open Go Go.RowKit Go.Proofs.YtdaklmbifkehpaaGreatDoor Go.Proofs.YtdaklmbifkehpaaGreatDoor.Pm

abbrev ints7 : List ByteArray := [{ data := #[97] }, { data := #[98] }, { data := #[112] }]
abbrev arrs7 : List ByteArray := [{ data := #[120, 115] }, { data := #[121, 115] }]
theorem ints7_ok : ints7.all nmB = true := by kernel_rfl
theorem arrs7_ok : arrs7.all nmB = true := by kernel_rfl
abbrev intsO : Obj := .cells #[.string { data := #[97] }, .string { data := #[98] }, .string { data := #[112] }] 9
abbrev arrsO : Obj := .cells #[.string { data := #[120, 115] }, .string { data := #[121, 115] }] 9
abbrev feedO (a : Option Addr) (len cap : Nat) (ia xa : Nat) : Obj := .cells #[.slice a len cap, .int .i64 0, .slice (some ⟨ia, 0, none⟩) 3 3, .slice (some ⟨xa, 0, none⟩) 2 2, .int .i64 0, .int .i64 0, .bool false] 54
abbrev fiveV (T : ET) : Value := .agg #[.int .i64 T.kind, .string T.op, .int .i64 T.n, .string T.name, .slice T.kaddr T.kids.length T.kcap]
abbrev fiveO (T : ET) : Obj := .cells #[.int .i64 T.kind, .string T.op, .int .i64 T.n, .string T.name, .slice T.kaddr T.kids.length T.kcap] 26
theorem feed_run {w wk : World} {a : Option Addr} {len cap : Nat} {zs : List Int} {ia xa f : Nat} (r : RowIn .u8 w a len zs) (hb : Below w.heap.size w wk)
    (h1 : wk.heap[ia]? = some (.cells #[.string { data := #[97] }, .string { data := #[98] }, .string { data := #[112] }] 9 (0, 0))) (h2 : wk.heap[xa]? = some (.cells #[.string { data := #[120, 115] }, .string { data := #[121, 115] }] 9 (0, 0)))
    (h3 : wk.heap[f]? = some (.cells #[.slice a len cap, .int .i64 0, .slice (some ⟨ia, 0, none⟩) 3 3, .slice (some ⟨xa, 0, none⟩) 2 2, .int .i64 0, .int .i64 0, .bool false] 54 (0, 0)))
    (hf : w.heap.size ≤ f) (n1 : ia ≠ f) (n2 : xa ≠ f) (d : Nat) (hd : d ≤ 9) :
    Calls Tryz.prog 23 #[.pointer (some ⟨f, 0, none⟩), .int .i64 (d : Nat)] wk fun e w' => ∃ T : ET, e = .returned (fiveV T) ∧ GE d T ∧ T.In w' wk.heap.size ∧ Below w.heap.size w w' ∧ wk.grownBy w' (some f) := by
  have hF : Fd ⟨a, len, cap, zs, ia, ints7, xa, arrs7, false⟩ wk.heap.size f 0 0 0 wk := mk_feed r hb.block h1 h2 h3 (lt_of_block h1) (lt_of_block h2) (lt_of_block h3) (Nat.le_refl _) n1 n2 hf hb.size (by decide) (by decide) ints7_ok arrs7_ok
  refine (feedE_any d hd 0 wk hF).mono ?_
  rintro e w' ⟨T, q, rfl, hT, hin, -, hg⟩
  refine ⟨T, by rw [ET.val_is], hT, hin, ?_, hg⟩
  exact ⟨hg.os.trans hb.os, hg.tape.trans hb.tape, hg.output.trans hb.output, Nat.le_trans hb.size hg.size, fun k hk => (hg.block k (Nat.lt_of_lt_of_le hk hb.size) (by simp; omega)).trans (hb.block k hk)⟩
theorem feed_new {w : World} {a : Option Addr} {len cap : Nat} {zs : List Int} (r : RowIn .u8 w a len zs) (d : Nat) (hd : d ≤ 9) :
    Calls Tryz.prog 23 #[.pointer (some ⟨w.heap.size + 1 + 1, 0, none⟩), .int .i64 (d : Nat)] (((w.alloc intsO).alloc arrsO).alloc (feedO a len cap w.heap.size (w.heap.size + 1))) fun e w' => ∃ T : ET, e = .returned (fiveV T) ∧ GE d T ∧ T.In w' 0 ∧ Below w.heap.size w w' := by
  refine (feed_run (ia := w.heap.size) (xa := w.heap.size + 1) (f := w.heap.size + 1 + 1) (cap := cap) r ?_ ?_ ?_ ?_ (by omega) (by omega) (by omega) d hd).mono ?_
  · repeat' (first | with_reducible exact Below.refl _ _ | with_reducible refine Below.alloc ?_ ?_ _ | (simp; done) | (simp; omega))
  · repeat' (first | (with_reducible refine bk_new' _ ?_; simp; done) | with_reducible apply bk_old)
  · repeat' (first | (with_reducible refine bk_new' _ ?_; simp; done) | with_reducible apply bk_old)
  · repeat' (first | (with_reducible refine bk_new' _ ?_; simp; done) | with_reducible apply bk_old)
  · rintro e w' ⟨T, rfl, hT, hin, hb, -⟩
    exact ⟨T, rfl, hT, hin.mono (Nat.zero_le _), hb⟩
abbrev oneT (k : Int) (o s : ByteArray) (N : Nat) (T : ET) : ET := .mk k o 0 s (some ⟨N, 0, none⟩) 1 [T]
theorem oneT_in (k : Int) (o s : ByteArray) {T : ET} {W : World} (h : T.In W 0) : (oneT k o s W.heap.size T).In (W.alloc (fiveO T)) 0 := by
  rw [ET.In]
  exact ⟨by decide, by simp, es_one_at (bk_new W (fiveO T)) (h.on ((Below.refl _ _).alloc (Nat.le_refl _) _)) (Nat.zero_le _)⟩
theorem unT_ev (L : List PC) {o : ByteArray} (ho : unB o = true) (N : Nat) {T : ET} (h : T.rightB = true) : evT L (oneT 3 o mE N T) = unR o (evE L T.re) := by
  unfold evT
  have hr : (oneT 3 o mE N T).rightB = true := by
    rw [ET.rightB, rightEs, rightEs, h]
    have : formedC 3 o 0 mE [T].length = true := by unfold formedC; rw [if_neg (by decide), if_neg (by decide), if_neg (by decide), if_pos rfl, ho]; kernel_rfl
    rw [this]; rfl
  rw [if_pos hr]
  obtain ⟨c, hc, rfl⟩ := unB_is ho
  rfl
theorem idT_ev (L : List PC) {s : ByteArray} (hs : nmB s = true) (N : Nat) {T : ET} (h : T.rightB = true) : evT L (oneT 2 mE s N T) = idxR L s.data.toList (evE L T.re) := by
  unfold evT
  have hr : (oneT 2 mE s N T).rightB = true := by
    rw [ET.rightB, rightEs, rightEs, h]
    have : formedC 2 mE 0 s [T].length = true := by unfold formedC namesC; rw [hs]; kernel_rfl
    rw [this]; rfl
  rw [if_pos hr]
  rfl
theorem ev_right (L : List PC) {T : ET} (h : T.rightB = true) : evT L T = evE L T.re := by
  unfold evT; rw [if_pos h]
theorem row2_in {W : World} {b : Nat} {y z : Int} (h : W.heap[b]? = some (.cells #[.int .i64 y, .int .i64 z] 2 (0, 0))) (hy : in64 y) (hz : in64 z) : RowIn .i64 W (some ⟨b, 0, none⟩) 2 [y, z] :=
  ⟨by decide, fun _ => ⟨b, 0, rfl, lt_of_block h, fun i hi => by
    obtain rfl | rfl : i = 0 ∨ i = 1 := by omega
    · exact ⟨bk_cell h rfl, WalkArith.wf_i64 hy⟩
    · exact ⟨bk_cell h rfl, WalkArith.wf_i64 hz⟩⟩⟩
end Go.Proofs.YtdaklmbifkehpaaGreatDoor.Ev
