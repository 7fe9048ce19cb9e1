/- An expression with brackets more: what the parser answers. No walk stands in this text. What is put of a right expression is parsed as the same, however it is bracketed more: the walk of ParseExprBack. (Written by genexb.py.) -/
import Derived.Test.YtgkdoealhbhnmaaGreatDoorPLaid
import Derived.Test.YtgkdoealhbhnmaaGreatDoorPNumM
import Derived.Test.YtgkdoealhbhnmaaGreatDoorTFeedS
import Derived.Test.YtgkdoealhbhnmaaGreatDoorTSameM
set_option linter.unusedSimpArgs false
set_option linter.unusedVariables false
namespace Go.Proofs.YtgkdoealhbhnmaaGreatDoor.Pm
open Go Go.RowKit Go.Proofs.YtgkdoealhbhnmaaGreatDoor
open Go.Lib (hid)
open Go.Lib (decDigits)
open Go.Lib (hid)

def brT : Nat → List UInt8 → List UInt8
  | 0, l => l
  | n + 1, l => 40 :: 32 :: (brT n l ++ [41])
def brW : Nat → List Wd → List Wd
  | 0, W => W
  | n + 1, W => sgW [40] :: (brW n W ++ [sgW [41]])
theorem brT_len (n : Nat) (l : List UInt8) : (brT n l).length = l.length + 3 * n := by
  induction n with
  | zero => rfl
  | succ n ih => simp [brT, ih]; omega
theorem br_bds {z : Nat} {W : List Wd} {k : Nat} {r : RE} (h : Bds z 1 W k r) : ∀ n, Bds z 1 (brW n W) (n + k) r
  | 0 => by rw [Nat.zero_add]; exact h
  | n + 1 => by
    have := bds_br (br_bds h n)
    rw [show n + 1 + k = 1 + (n + k) by omega]
    exact this
theorem br_lx {r : RE} (h : r.wf = true) : ∀ (n : Nat) (t : List UInt8) (ws : List Wd), NP t → Lx t ws → Lx (brT n (putR lev r) ++ t) (brW n (tkE lev r) ++ ws)
  | 0, t, ws, ht, hx => put_lx lev r h t ws ht hx
  | n + 1, t, ws, ht, hx => by
    have := br_lx h n (41 :: t) (sgW [41] :: ws) (NP.cons (by decide) _) (Lx.lone (by decide) hx)
    rw [brT, brW]
    simp only [List.cons_append, List.append_assoc, List.nil_append]
    exact Lx.lone (by decide) (Lx.sp (by decide) this)
theorem nm_func {s : List UInt8} (h : nameOk s = true) : s ≠ kFunc := fun e => by
  rw [e] at h
  revert h
  decide
theorem dec_func (u : Nat) : decDigits u ≠ kFunc := fun e => by
  have := dec_all u 102 (by rw [e]; decide)
  revert this
  decide
theorem e_head (r : RE) (h : r.wf = true) : ∃ x l, tkE lev r = x :: l ∧ x.2.1 ≠ kFunc := by
  induction r with
  | num n =>
    rw [tkE]
    unfold numW
    split
    · exact ⟨_, _, rfl, by decide⟩
    · exact ⟨_, _, rfl, dec_func _⟩
  | var s => exact ⟨_, _, rfl, nm_func h⟩
  | idx s e ih =>
    rw [RE.wf, Bool.and_eq_true] at h
    exact ⟨_, _, rfl, nm_func h.1⟩
  | un c e ih =>
    refine ⟨_, _, rfl, fun e => ?_⟩
    have h2 : (1 : Nat) = 4 := congrArg List.length e
    omega
  | bin o a b iha ihb =>
    rw [RE.wf, Bool.and_eq_true, Bool.and_eq_true] at h
    rw [tkE]
    unfold utk
    split
    · exact ⟨_, _, rfl, by decide⟩
    · obtain ⟨x, l, e, hx⟩ := iha h.1.2
      rw [e]
      exact ⟨x, _, rfl, hx⟩
theorem br_head (r : RE) (h : r.wf = true) (n : Nat) : ∀ x, (brW n (tkE lev r)).head? = some x → x.2.1 ≠ kFunc := by
  cases n with
  | zero =>
    obtain ⟨y, l, e, hy⟩ := e_head r h
    intro x hx
    rw [brW, e] at hx
    simp only [List.head?_cons, Option.some.injEq] at hx
    rw [← hx]
    exact hy
  | succ n =>
    intro x hx
    rw [brW] at hx
    simp only [List.head?_cons, Option.some.injEq] at hx
    rw [← hx]
    decide
theorem br_all {r : RE} (h : r.wf = true) (n : Nat) (hn : n + dE r ≤ 40) : Evn fun m => exprF m (brT n (putR lev r)) = .ok r (n + dE r) ∧ ∃ p, parseF m (brT n (putR lev r)) = .bad p 3 := by
  have hx : Lx (brT n (putR lev r)) (brW n (tkE lev r)) := by
    have := br_lx h n [] [] NP.nil Lx.nil
    simpa using this
  refine Evn.and (expr_words (br_bds (bds_of _ h) n) hn hx) ?_
  exact evn_all fun m => no_prog hx (br_head r h n) m
end Go.Proofs.YtgkdoealhbhnmaaGreatDoor.Pm

set_option linter.unusedSimpArgs false
set_option linter.unusedVariables false
namespace Go.Proofs.YtgkdoealhbhnmaaGreatDoor.Pm
open Go Go.RowKit Go.Proofs.YtgkdoealhbhnmaaGreatDoor
open Go.Lib (hid)

abbrev eab : List ByteArray := [{ data := #[97] }, { data := #[98] }]
abbrev exs : List ByteArray := [{ data := #[120, 115] }]
theorem eab_ok : eab.all nmB = true := by kernel_rfl
theorem exs_ok : exs.all nmB = true := by kernel_rfl
theorem br_cat (n : Nat) (l : List UInt8) : ({ data := #[40, 32] } : ByteArray) ++ bs (brT n l) ++ { data := #[41] } = bs (brT (n + 1) l) := by
  apply Lx.ba_ext
  simp [bs, brT]
theorem le5 {T : ET} (h : GE 5 T) : (putR levL T.re).length ≤ 1140 := h.len
theorem same_of {w0 : World} {T U : ET} (hT : T.In w0 0) (hU : U.In w0 0) (h : T.rightB = true) (h' : U.rightB = true) (e : T.re = U.re) : ∀ W, Past w0 W → Calls Tryz.prog 19 #[.agg #[.int .i64 T.kind, .string T.op, .int .i64 T.n, .string T.name, .slice T.kaddr T.kids.length T.kcap], .agg #[.int .i64 U.kind, .string U.op, .int .i64 U.n, .string U.name, .slice U.kaddr U.kids.length U.kcap]] W fun e w' => e = .returned (.bool true) ∧ Below W.heap.size W w' := fun W hW => by
  have h1 := sameExpr_any hT hU W hW
  rw [(sameE_iff _ T U (Nat.le_refl _) h h').2 e, ET.val_is, ET.val_is] at h1
  exact h1
structure ExF (w : World) (T : ET) (n : Nat) (m : Nat) (d : Nat) : Prop where
  e0 : exprF m (putR levL T.re) = .ok T.re (0 + d)
  e1 : exprF m (brT n (putR levL T.re)) = .ok T.re (n + d)
  p0 : ∃ p, parseF m (putR levL T.re) = .bad p 3
  p1 : ∃ p, parseF m (brT n (putR levL T.re)) = .bad p 3
  len : (putR levL T.re).length ≤ 1140 ∧ (brT n (putR levL T.re)).length ≤ 1200
theorem exf_of {w : World} {T : ET} {n A : Nat} (hg : GE 5 T) (hin : T.In w A) (hn : n < 20) : ∃ m, ExF w T n m (dE T.re) := by
  have hw := right_wf _ (Nat.le_refl _) hg.right hin
  have hd := dE_le T.re
  have hd2 := hg.dep
  obtain ⟨m, hm⟩ := (br_all hw 0 (by omega)).and (br_all hw n (by omega))
  obtain ⟨⟨a, b⟩, c, d⟩ := hm m (Nat.le_refl _)
  have hl := le5 hg
  refine ⟨m, a, c, b, d, hl, ?_⟩
  rw [brT_len]; omega
set_option maxHeartbeats 20000000 in
set_option maxRecDepth 100000 in
theorem exb_go (a0 : Option Addr) (len0 cap0 : Nat) (z0 : List Int) (a1 : Int) (h1 : 0 ≤ a1 ∧ a1 ≤ 255) (w : World) (H : Wo w) (r0 : RowIn .u8 w a0 len0 z0) :
    Calls Tryz.prog 4 #[.slice a0 len0 cap0, .int .u8 a1] w fun e w' => e = .returned (.bool true) ∧ Below w.heap.size w w' := by
  obtain ⟨n, hn, en⟩ : ∃ n : Nat, n < 20 ∧ a1 % 20 = n := ⟨(a1 % 20).toNat, by omega, by omega⟩
  have HN := hid hn
  have n0 : (0 : Int) ≤ n := by omega
  have n1 : (n : Int) < 20 := by omega
  have HO := hid H
  have R0 := hid r0
  clear H r0 hn
  go_enter Tryz.func4, Tryz.ntmps4
  go_upto_region 5 with (go_at_call 10; refine (ex_any HO.out).mono ?_; rintro e w1 ⟨rfl, hp⟩; have HP1 := hid hp; clear hp)
  have hl : Past w (((w1.alloc (.cells #[.string { data := #[97] }, .string { data := #[98] }] 9)).alloc (.cells #[.string { data := #[120, 115] }] 9)).alloc (.cells #[.slice a0 len0 cap0, .int .i64 0, .slice (some ⟨w1.heap.size, 0, none⟩) 2 2, .slice (some ⟨w1.heap.size + 1, 0, none⟩) 1 1, .int .i64 0, .int .i64 0, .bool false] 40)) := ((HP1.out.alloc _).alloc _).alloc _
  have k0 : (((w1.alloc (.cells #[.string { data := #[97] }, .string { data := #[98] }] 9)).alloc (.cells #[.string { data := #[120, 115] }] 9)).alloc (.cells #[.slice a0 len0 cap0, .int .i64 0, .slice (some ⟨w1.heap.size, 0, none⟩) 2 2, .slice (some ⟨w1.heap.size + 1, 0, none⟩) 1 1, .int .i64 0, .int .i64 0, .bool false] 40)).heap[w1.heap.size]? = some (.cells #[.string { data := #[97] }, .string { data := #[98] }] 9 (0, 0)) := by
    repeat' (first | (with_reducible refine bk_new' _ ?_; simp; done) | with_reducible apply bk_old)
  have k1 : (((w1.alloc (.cells #[.string { data := #[97] }, .string { data := #[98] }] 9)).alloc (.cells #[.string { data := #[120, 115] }] 9)).alloc (.cells #[.slice a0 len0 cap0, .int .i64 0, .slice (some ⟨w1.heap.size, 0, none⟩) 2 2, .slice (some ⟨w1.heap.size + 1, 0, none⟩) 1 1, .int .i64 0, .int .i64 0, .bool false] 40)).heap[w1.heap.size + 1]? = some (.cells #[.string { data := #[120, 115] }] 9 (0, 0)) := by
    repeat' (first | (with_reducible refine bk_new' _ ?_; simp; done) | with_reducible apply bk_old)
  have k2 : (((w1.alloc (.cells #[.string { data := #[97] }, .string { data := #[98] }] 9)).alloc (.cells #[.string { data := #[120, 115] }] 9)).alloc (.cells #[.slice a0 len0 cap0, .int .i64 0, .slice (some ⟨w1.heap.size, 0, none⟩) 2 2, .slice (some ⟨w1.heap.size + 1, 0, none⟩) 1 1, .int .i64 0, .int .i64 0, .bool false] 40)).heap[w1.heap.size + 2]? = some (.cells #[.slice a0 len0 cap0, .int .i64 0, .slice (some ⟨w1.heap.size, 0, none⟩) 2 2, .slice (some ⟨w1.heap.size + 1, 0, none⟩) 1 1, .int .i64 0, .int .i64 0, .bool false] 40 (0, 0)) := by
    repeat' (first | (with_reducible refine bk_new' _ ?_; simp; done) | with_reducible apply bk_old)
  have hz : (((w1.alloc (.cells #[.string { data := #[97] }, .string { data := #[98] }] 9)).alloc (.cells #[.string { data := #[120, 115] }] 9)).alloc (.cells #[.slice a0 len0 cap0, .int .i64 0, .slice (some ⟨w1.heap.size, 0, none⟩) 2 2, .slice (some ⟨w1.heap.size + 1, 0, none⟩) 1 1, .int .i64 0, .int .i64 0, .bool false] 40)).heap.size = w1.heap.size + 3 := by simp
  have hsz : w.heap.size ≤ w1.heap.size := HP1.out.size
  clear HP1
  generalize (((w1.alloc (.cells #[.string { data := #[97] }, .string { data := #[98] }] 9)).alloc (.cells #[.string { data := #[120, 115] }] 9)).alloc (.cells #[.slice a0 len0 cap0, .int .i64 0, .slice (some ⟨w1.heap.size, 0, none⟩) 2 2, .slice (some ⟨w1.heap.size + 1, 0, none⟩) 1 1, .int .i64 0, .int .i64 0, .bool false] 40)) = w3 at hl k0 k1 k2 hz ⊢
  have hFx : Fd ⟨a0, len0, cap0, z0, w1.heap.size, eab, w1.heap.size + 1, exs, false⟩ (w1.heap.size + 3) (w1.heap.size + 2) 0 0 0 w3 :=
    mk_feed R0.out hl.block k0 k1 k2 (by omega) (by omega) (by omega) (by omega) (by omega) (by omega) (by omega) (by omega) (by decide) (by decide) eab_ok exs_ok
  have HX := hid (feedE_any 5 (by omega) 0 w3 hFx)
  have HL3 := hid hl
  have HZ := hid (And.intro hz hsz)
  clear hz hFx hl hsz k0 k1 k2
  go_upto_region 9 with (first
    | (go_at_call 17; refine (put_five (HO.out.on HP4.out) HI4.out HT.out.right rfl rfl (by have := le5 HT.out; omega)).mono ?_; rintro e w5 ⟨rfl, hb⟩; have HP5 : Hid (Past w w5) := hid (HP4.out.on hb); have HQ5 := hid ((hb.block w4.heap.size (by simp)).trans (bk_new w4 (.cells #[.int .i64 T.kind, .string T.op, .int .i64 T.n, .string T.name, .slice T.kaddr T.kids.length T.kcap] 43))); have HI5 := hid (HI4.out.on hb); clear hb x0 x1 x2 x3 x4 xl)
    | (go_at_call 16; refine HX.out.mono ?_; rintro e w4 ⟨T, q, he, hT, hin, -, hg⟩; rw [ET.val_is] at he; subst he; have HT := hid hT; have b4 : Past w w4 := (by have z := HZ.out; have l3 := HL3.out; exact ⟨hg.os.trans l3.os, hg.tape.trans l3.tape, hg.output.trans l3.output, Nat.le_trans l3.size hg.size, fun i hi => (hg.block i (by have := l3.size; omega) (by simp; omega)).trans (l3.block i hi)⟩); have HP4 : Hid (Past w (w4.alloc (.cells #[.int .i64 T.kind, .string T.op, .int .i64 T.n, .string T.name, .slice T.kaddr T.kids.length T.kcap] 43))) := hid (b4.alloc _); have HI4 : Hid (T.In (w4.alloc (.cells #[.int .i64 T.kind, .string T.op, .int .i64 T.n, .string T.name, .slice T.kaddr T.kids.length T.kcap] 43)) 0) := hid ((inB hin).mono (Nat.zero_le _)); have hq := bk_new w4 (.cells #[.int .i64 T.kind, .string T.op, .int .i64 T.n, .string T.name, .slice T.kaddr T.kids.length T.kcap] 43); obtain ⟨x0, x1, x2, x3, x4⟩ := cells5 hq; have xl := lt_of_block hq; clear hT hin hg b4 hq))
  obtain ⟨m, hf⟩ := exf_of HT.out HI5.out HN.out
  have HF := hid hf
  clear hf
  obtain ⟨L, hL⟩ : ∃ L, L = putR levL T.re := ⟨_, rfl⟩
  have HLd := hid hL
  rw [← hL]
  have hl0 : L.length ≤ 1140 := by rw [hL]; exact HF.out.len.1
  clear hL
  go_wp2
  go_loop [10, 11] (fun t i => ∃ j : Nat, j ≤ n ∧ t = .string (bs (brT j L)) ∧ i = .int .i64 j) (fun _ i => n - (intOf i).toNat)
  case atStart => exact ⟨0, Nat.zero_le _, rfl, rfl⟩
  case round =>
    obtain ⟨j, hj, rfl, rfl⟩ := hrel
    have hjn := HN.out
    have z1 : (bs (brT j L)).size ≤ 1300 := by
      show (brT j L).toArray.size ≤ _
      rw [List.size_toArray, brT_len]; omega
    by_cases hlt : j < n
    · go_wp2
      go_round
      case rel => exact ⟨j + 1, by omega, by rw [← br_cat], by go_num⟩
      case measure => simp [intOf]; omega
    · obtain rfl : j = n := by omega
      obtain ⟨U, hU⟩ : ∃ U, U = bs (brT j L) := ⟨_, rfl⟩
      obtain ⟨S, hS⟩ : ∃ S : ByteArray, S = ⟨L.toArray⟩ := ⟨_, rfl⟩
      rw [← hU] at z1 ⊢
      rw [← hS]
      have HU : Hid (U.data.toList = brT j (putR levL T.re)) := hid (by rw [hU, HLd.out]; rfl)
      have HS : Hid (S.data.toList = putR levL T.re) := hid (by rw [hS, HLd.out])
      clear hU hS HLd
      go_upto_region 15 with (first
        | (go_at_call 18; refine (expr_fine (HO.out.on (HP6.out.alloc (.cells #[.int .i64 TA.kind, .string TA.op, .int .i64 TA.n, .string TA.name, .slice TA.kaddr TA.kids.length TA.kcap] 43))) m _ HU.out (by have := HF.out.len.2; omega) HF.out.e1).mono ?_; rintro e w7 ⟨hb, TB, rfl, hT⟩; have HTB := hid hT; have HP7 : Hid (Past w w7) := hid (past_alloc HP6.out hb); have HB7 := hid hb; clear hb hT)
        | (go_at_call 18; refine (expr_fine (HO.out.on HP5.out) m _ HS.out (by have := HF.out.len.1; omega) HF.out.e0).mono ?_; rintro e w6 ⟨hb, TA, rfl, hT⟩; have HTA := hid hT; have HP6 : Hid (Past w w6) := hid (HP5.out.on hb); have HB6 := hid hb; clear hb hT))
      have b6 := HB6.out
      have b7 := HB7.out
      have s6 := b6.size
      have s7 := b7.size
      have s5 := lt_of_block HQ5.out
      simp at s7
      have b8 : Below w7.heap.size w7 (w7.alloc (.cells #[.int .i64 TB.kind, .string TB.op, .int .i64 TB.n, .string TB.name, .slice TB.kaddr TB.kids.length TB.kcap] 43)) := (Below.refl _ _).alloc (Nat.le_refl _) _
      have qE : (w7.alloc (.cells #[.int .i64 TB.kind, .string TB.op, .int .i64 TB.n, .string TB.name, .slice TB.kaddr TB.kids.length TB.kcap] 43)).heap[w4.heap.size]? = some (.cells #[.int .i64 T.kind, .string T.op, .int .i64 T.n, .string T.name, .slice T.kaddr T.kids.length T.kcap] 43 (0, 0)) := bk_old _ ((b7.block _ (by simp; omega)).trans (bk_old _ ((b6.block _ s5).trans HQ5.out)))
      have qA : (w7.alloc (.cells #[.int .i64 TB.kind, .string TB.op, .int .i64 TB.n, .string TB.name, .slice TB.kaddr TB.kids.length TB.kcap] 43)).heap[w6.heap.size]? = some (.cells #[.int .i64 TA.kind, .string TA.op, .int .i64 TA.n, .string TA.name, .slice TA.kaddr TA.kids.length TA.kcap] 43 (0, 0)) := bk_old _ ((b7.block _ (by simp)).trans (bk_new w6 _))
      have qB : (w7.alloc (.cells #[.int .i64 TB.kind, .string TB.op, .int .i64 TB.n, .string TB.name, .slice TB.kaddr TB.kids.length TB.kcap] 43)).heap[w7.heap.size]? = some (.cells #[.int .i64 TB.kind, .string TB.op, .int .i64 TB.n, .string TB.name, .slice TB.kaddr TB.kids.length TB.kcap] 43 (0, 0)) := bk_new w7 _
      have iE : T.In (w7.alloc (.cells #[.int .i64 TB.kind, .string TB.op, .int .i64 TB.n, .string TB.name, .slice TB.kaddr TB.kids.length TB.kcap] 43)) 0 := inB (inA b7 (HI5.out.on b6))
      have iA : TA.In (w7.alloc (.cells #[.int .i64 TB.kind, .string TB.op, .int .i64 TB.n, .string TB.name, .slice TB.kaddr TB.kids.length TB.kcap] 43)) 0 := (inB (inA b7 HTA.out.2.2)).mono (Nat.zero_le _)
      have iB : TB.In (w7.alloc (.cells #[.int .i64 TB.kind, .string TB.op, .int .i64 TB.n, .string TB.name, .slice TB.kaddr TB.kids.length TB.kcap] 43)) 0 := (inB HTB.out.2.2).mono (Nat.zero_le _)
      have HP8 : Hid (Past w (w7.alloc (.cells #[.int .i64 TB.kind, .string TB.op, .int .i64 TB.n, .string TB.name, .slice TB.kaddr TB.kids.length TB.kcap] 43))) := hid (HP7.out.alloc _)
      clear b6 b7 s6 s7 s5 b8 HB6 HB7 HP5 HP6 HP7 HQ5 HI4 HP4
      generalize w7.alloc (.cells #[.int .i64 TB.kind, .string TB.op, .int .i64 TB.n, .string TB.name, .slice TB.kaddr TB.kids.length TB.kcap] 43) = w8 at qE qA qB iE iA iB HP8 ⊢
      generalize w4.heap.size = XE at qE ⊢
      generalize w6.heap.size = XA at qA ⊢
      generalize w7.heap.size = XB at qB ⊢
      have HS1 := hid (same_of iA iE HTA.out.2.1 HT.out.right HTA.out.1)
      have HS2 := hid (same_of iB iE HTB.out.2.1 HT.out.right HTB.out.1)
      obtain ⟨d, hd⟩ : ∃ d, dE T.re = d := ⟨_, rfl⟩
      have hd10 : d ≤ 10 := by have h1 := dE_le T.re; have h2 := HT.out.dep; omega
      obtain ⟨N1, hN1⟩ : ∃ N1 : Int, N1 = ((j + d : Nat) : Int) := ⟨_, rfl⟩
      obtain ⟨N0, hN0⟩ : ∃ N0 : Int, N0 = ((0 + d : Nat) : Int) := ⟨_, rfl⟩
      have HF2 := HF.out
      rw [hd] at HF2
      have HN1 : Hid (∀ W, Past w8 W → Calls Tryz.prog 15 #[.string U] W fun e w' => e = .returned (.int .i64 N1) ∧ Below W.heap.size W w') := hid fun W hW => by
        obtain ⟨p, ep⟩ := HF2.p1
        rw [hN1]
        exact nest_fine ((HO.out.on HP8.out).on hW) m U HU.out (by have := HF2.len.2; omega) HF2.e1 ep
      have HN0 : Hid (∀ W, Past w8 W → Calls Tryz.prog 15 #[.string S] W fun e w' => e = .returned (.int .i64 N0) ∧ Below W.heap.size W w') := hid fun W hW => by
        obtain ⟨p, ep⟩ := HF2.p0
        rw [hN0]
        exact nest_fine ((HO.out.on HP8.out).on hW) m S HS.out (by have := HF2.len.1; omega) HF2.e0 ep
      have eW : IntKind.i64.wrap (N0 + (j : Int)) = N1 := by rw [hN0, hN1]; exact (IntWalk.i64_in _ (by omega)).trans (by omega)
      have r1 : N0 + (j : Int) = N1 := by rw [hN0, hN1]; omega
      have eW1 : IntKind.i64.wrap N1 = N1 := by rw [hN1]; exact IntWalk.i64_in _ (by omega)
      have eQ : (N1 == N1) = true := by simp
      clear hN1 hN0 hd hd10 HF2
      obtain ⟨x0, x1, x2, x3, x4⟩ := cells5 qE
      obtain ⟨y0, y1, y2, y3, y4⟩ := cells5 qA
      obtain ⟨z0, z1', z2, z3, z4⟩ := cells5 qB
      have lE := lt_of_block qE
      have lA := lt_of_block qA
      have lB := lt_of_block qB
      have QE := hid qE
      have QB := hid qB
      clear qE qA qB iE iA iB HTA HTB
      go_wp2_with (first
        | (go_at_call 15; refine (HN0.out _ HPc.out).mono ?_; rintro e wd ⟨rfl, hb⟩; have HPd : Hid (Past w8 wd) := hid (HPc.out.on hb); clear hb)
        | (go_at_call 15; refine (HN1.out _ HPb.out).mono ?_; rintro e wc ⟨rfl, hb⟩; have HPc : Hid (Past w8 wc) := hid (HPb.out.on hb); clear hb)
        | (go_at_call 19; refine (HS2.out _ HPa.out).mono ?_; rintro e wb ⟨rfl, hb⟩; have HPb : Hid (Past w8 wb) := hid (HPa.out.on hb); clear hb)
        | (go_at_call 19; refine (HS1.out _ (Past.refl _)).mono ?_; rintro e wa ⟨rfl, hb⟩; have HPa : Hid (Past w8 wa) := hid hb; obtain ⟨x0, x1, x2, x3, x4⟩ := cells5 ((hb.block XE (lt_of_block QE.out)).trans QE.out); obtain ⟨z0, z1', z2, z3, z4⟩ := cells5 ((hb.block XB (lt_of_block QB.out)).trans QB.out); have lE := lt_of_block ((hb.block XE (lt_of_block QE.out)).trans QE.out); have lB := lt_of_block ((hb.block XB (lt_of_block QB.out)).trans QB.out); clear hb))
      go_ret
      exact ⟨rfl, step_on HP8.out HPd.out⟩
end Go.Proofs.YtgkdoealhbhnmaaGreatDoor.Pm
namespace Go.Proofs.YtgkdoealhbhnmaaGreatDoor
open Go Go.RowKit Go.Proofs.YtgkdoealhbhnmaaGreatDoor.Pm
open Go.Lib (hid)
theorem parseExprBack_walk (a0 : Option Addr) (len0 cap0 : Nat) (z0 : List Int) (a1 : Int) (w1 : (Lit.int .u8 a1).wf = true) (w : World) (H : Wo w) (r0 : RowIn .u8 w a0 len0 z0) :
    Calls Tryz.prog 4 #[.slice a0 len0 cap0, .int .u8 a1] w fun e w' => e = .returned (.bool true) ∧ Below w.heap.size w w' := by
  have h1 : 0 ≤ a1 ∧ a1 ≤ 255 := by
    simp only [Lit.wf, IntKind.min, IntKind.max, Bool.and_eq_true] at w1
    exact ⟨of_decide_eq_true w1.1, of_decide_eq_true w1.2⟩
  exact exb_go a0 len0 cap0 z0 a1 h1 w H r0
end Go.Proofs.YtgkdoealhbhnmaaGreatDoor
