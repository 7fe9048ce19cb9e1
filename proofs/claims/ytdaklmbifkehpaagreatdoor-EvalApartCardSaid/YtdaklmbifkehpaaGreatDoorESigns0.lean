/- The walk of EvalSigns: what it stands on; the sign -. (Written by gensigns.py.) -/
import Derived.Test.YtdaklmbifkehpaaGreatDoorEFeed
set_option linter.unusedSimpArgs false
set_option linter.unusedVariables false
namespace Go.Proofs.YtdaklmbifkehpaaGreatDoor.Ev
open Go Go.RowKit Go.Proofs.YtdaklmbifkehpaaGreatDoor Go.Proofs.YtdaklmbifkehpaaGreatDoor.Pm
open Go.Lib (hid)

def sgL (a b : Int) : List PC := setV (frL [a, b]) [120, 115] true 1 b
theorem sg_put (a b : Int) : (slot (frL [a, b]) [120, 115] true 1).isSome = true := rfl
structure Sg (w : World) (B E q : Nat) (blk : Nat → Nat) (L : List PC) (T : ET) (wb : World) : Prop where
  env : EnvIn B E blk L wb
  tin : T.In wb 0
  right : T.rightB = true
  box : wb.heap[q]? = some (.cells #[.int .i64 T.kind, .string T.op, .int .i64 T.n, .string T.name, .slice T.kaddr T.kids.length T.kcap] 26 (0, 0))
  past : Past w wb
theorem Sg.cells {w wb W : World} {B E q : Nat} {blk : Nat → Nat} {L : List PC} {T : ET} (h : Sg w B E q blk L T wb) (hp : Past wb W) : W.cell? ⟨q, 0, none⟩ = some (.int .i64 T.kind) ∧ W.cell? ⟨q, 1, none⟩ = some (.string T.op) ∧ W.cell? ⟨q, 2, none⟩ = some (.int .i64 T.n) ∧ W.cell? ⟨q, 3, none⟩ = some (.string T.name) ∧ W.cell? ⟨q, 4, none⟩ = some (.slice T.kaddr T.kids.length T.kcap) :=
  box5 h.box (hp.mono (Nat.le_of_lt (Nat.lt_of_lt_of_le (lt_of_block h.box) (Nat.le_refl _))) |> fun x => ⟨x.os, x.tape, x.output, x.size, fun k hk => hp.block k hk⟩)
set_option maxHeartbeats 16000000 in
set_option maxRecDepth 100000 in
theorem signs_0 (a0 : Option Addr) (len0 cap0 : Nat) (z0 : List Int) (a1 a2 a3 : Int) (h1 : 0 ≤ a1 ∧ a1 ≤ 255) (hj : a1 % 3 = 0) (h2 : in64 a2) (h3 : in64 a3) (w : World) (H : Wo w) (r0 : RowIn .u8 w a0 len0 z0) :
    Calls Tryz.prog 8 #[.slice a0 len0 cap0, .int .u8 a1, .int .i64 a2, .int .i64 a3] w fun e w' => e = .returned (.bool true) ∧ Below w.heap.size w w' := by
  have HO := hid H
  have R0 := hid r0
  have H2 := hid h2
  have H3 := hid h3
  obtain ⟨m0, m1⟩ := h1
  have em : a1.tmod 3 = 0 := by rw [Int.tmod_eq_emod_of_nonneg m0]; exact hj
  have HJ := hid hj
  clear H r0 h2 h3 hj
  go_enter Tryz.func8, Tryz.ntmps8
  go_upto_region 9 with (first
    | (go_at_call 23; refine (feed_new (rowIn_on R0.out HP4.out) 3 (by decide)).mono ?_; rintro e w5 ⟨T, rfl, hT, hin, hb⟩; have HT := hid (And.intro hT hin); have HP5 := hid hb; clear hT hin hb)
    | (go_at_call 21; refine (put_is HE3.out { data := #[120, 115] } (by decide) H3.out (sg_put a2 a3) (L' := sgL a2 a3) rfl).mono ?_; rintro e w4 ⟨rfl, hE, hb, -⟩; have HE4 := hid hE; have HP4 : Hid (Past w w4) := hid (HB3.out.1.trans (hb.mono HB3.out.2)); clear hE hb)
    | (go_at_call 11; refine (newF (HS2.out.1.on ((Below.refl w2.heap.size w2).alloc (Nat.le_refl _) (.cells #[.int .i64 a2, .int .i64 a3] 2))) (HS2.out.2.on ((Below.refl w2.heap.size w2).alloc (Nat.le_refl _) (.cells #[.int .i64 a2, .int .i64 a3] 2))) (row2_in (bk_new w2 (.cells #[.int .i64 a2, .int .i64 a3] 2)) H2.out H3.out) rfl).mono ?_; rintro e w3 ⟨⟨E, blk, rfl, hE⟩, hb⟩; have HE3 := hid hE; have HB3 : Hid (Past w w3 ∧ w.heap.size ≤ (w2.alloc (.cells #[.int .i64 a2, .int .i64 a3] 2)).heap.size) := hid ⟨(HP2.out.alloc (.cells #[.int .i64 a2, .int .i64 a3] 2)).on hb, Nat.le_trans HP2.out.size (World.grownBy_alloc w2 (.cells #[.int .i64 a2, .int .i64 a3] 2) none).size⟩; clear hE hb)
    | (go_at_call 10; refine (frame_any w1).mono ?_; rintro e w2 ⟨⟨x, y, nm, rfl, hs, hd⟩, hb⟩; have HS2 := hid (And.intro hs hd); have HP2 : Hid (Past w w2) := hid (HP1.out.on hb); clear hs hd hb)
    | (go_at_call 9; refine (ex_any HO.out).mono ?_; rintro e w1 ⟨rfl, hp⟩; have HP1 := hid hp; clear hp))
  have hsg : Sg w _ E w5.heap.size blk (sgL a2 a3) T (w5.alloc (fiveO T)) := ⟨(HE4.out.on HP5.out).alloc (fiveO T), HT.out.2.on ((Below.refl w5.heap.size w5).alloc (Nat.le_refl _) (fiveO T)), HT.out.1.right, bk_new w5 (fiveO T), (HP4.out.on HP5.out).alloc (fiveO T)⟩
  have HSG := hid hsg
  clear hsg HE4 HP5 HT HP4 HE3 HB3 HS2 HP2 HP1 R0 HO H2 H3
  generalize w5.alloc (fiveO T) = wb at *
  generalize w5.heap.size = q at *
  obtain ⟨b0, b1, b2, b3, b4⟩ := HSG.out.cells (Past.refl wb)
  have hkb := lt_of_block HSG.out.box
  have HR : Hid (evT (sgL a2 a3) T = evE (sgL a2 a3) T.re) := hid (ev_right _ HSG.out.right)
  obtain ⟨n, t, hnt⟩ : ∃ n t, evE (sgL a2 a3) T.re = (n, t) := ⟨_, _, rfl⟩
  have hni : in64 n := by
    have := ev_in HSG.out.env.nums T.sz T (Nat.le_refl _) HSG.out.right HSG.out.tin
    rw [hnt] at this; exact this
  have V1 := hid (eval_is HSG.out.env HSG.out.tin (HR.out.trans hnt))
  have HNT := hid hnt
  have HNI := hid hni
  clear hnt hni HR
  by_cases ht : t = 0
  · subst ht
    have e0 : ((0 : Int) != 0) = false := rfl
    obtain ⟨g, hg⟩ : ∃ g, getV (sgL a2 a3) [120, 115] true n = g := ⟨_, rfl⟩
    have HGG := hid hg
    clear hg
    have HU : Hid (∀ W, Calls Tryz.prog 35 #[.string { data := #[45] }, .int .i64 n] W fun e w' => e = .returned (.tuple #[.int .i64 (unV { data := #[45] } n), .bool true]) ∧ Below W.heap.size W w') := hid fun W => un_any { data := #[45] } n HNI.out W
    have HUR : Hid (unR { data := #[45] } (n, 0) = (unV { data := #[45] } n, 0)) := hid (by unfold unR; rw [if_pos rfl])
    generalize unV { data := #[45] } n = un at HU HUR
    cases g with
    | some y =>
      have HIR : Hid (idxR (sgL a2 a3) [120, 115] (n, 0) = (y, 0)) := hid (by unfold idxR; rw [if_pos rfl, HGG.out]; rfl)
      go_wp2_with (first
        | (go_at_call 19; refine (at_some (HSG.out.env.past HP9.out) { data := #[120, 115] } (by decide) HGG.out).mono ?_; rintro e wk ⟨rfl, rfl⟩)
        | (go_at_call 35; refine (HU.out _).mono ?_; rintro e w9 ⟨rfl, hb⟩; have HP9 := hid (HP8.out.on hb); clear hb)
        | (go_at_call 24; refine (eval_is ((HSG.out.env.past HP7.out).alloc (.cells #[.int .i64 T.kind, .string T.op, .int .i64 T.n, .string T.name, .slice T.kaddr T.kids.length T.kcap] 26)) (oneT_in 2 mE { data := #[120, 115] } (HSG.out.tin.on HP7.out)) (x := y) (t := 0) ((idT_ev (sgL a2 a3) (by decide) _ HSG.out.right).trans (by rw [HNT.out]; exact HIR.out)) _ (Past.refl _)).mono ?_; rintro e w8 ⟨rfl, hb⟩; have HP8 := hid ((HP7.out.alloc (.cells #[.int .i64 T.kind, .string T.op, .int .i64 T.n, .string T.name, .slice T.kaddr T.kids.length T.kcap] 26)).on hb); clear hb)
        | (go_at_call 24; refine (eval_is ((HSG.out.env.past HP6.out).alloc (.cells #[.int .i64 T.kind, .string T.op, .int .i64 T.n, .string T.name, .slice T.kaddr T.kids.length T.kcap] 26)) (oneT_in 3 { data := #[45] } mE (HSG.out.tin.on HP6.out)) (x := un) (t := 0) ((unT_ev (sgL a2 a3) (by decide) _ HSG.out.right).trans (by rw [HNT.out]; exact HUR.out)) _ (Past.refl _)).mono ?_; rintro e w7 ⟨rfl, hb⟩; have HP7 := hid ((HP6.out.alloc (.cells #[.int .i64 T.kind, .string T.op, .int .i64 T.n, .string T.name, .slice T.kaddr T.kids.length T.kcap] 26)).on hb); clear hb; obtain ⟨b0, b1, b2, b3, b4⟩ := HSG.out.cells HP7.out)
        | (go_at_call 24; refine (V1.out _ ((Past.refl wb).alloc (.cells #[.string { data := #[45] }, .string { data := #[126] }, .string { data := #[33] }] 9))).mono ?_; rintro e w6 ⟨rfl, hb⟩; have HP6 : Hid (Past wb w6) := hid (((Past.refl wb).alloc (.cells #[.string { data := #[45] }, .string { data := #[126] }, .string { data := #[33] }] 9)).on hb); clear hb; obtain ⟨b0, b1, b2, b3, b4⟩ := HSG.out.cells HP6.out))
      go_ret
      exact ⟨rfl, stepB HSG.out.past HP9.out⟩
    | none =>
      have HIR : Hid (idxR (sgL a2 a3) [120, 115] (n, 0) = (0, 3)) := hid (by unfold idxR; rw [if_pos rfl, HGG.out]; rfl)
      go_wp2_with (first
        | (go_at_call 19; refine (at_none (HSG.out.env.past HP9.out) { data := #[120, 115] } (by decide) HGG.out).mono ?_; rintro e wk ⟨rfl, rfl⟩)
        | (go_at_call 35; refine (HU.out _).mono ?_; rintro e w9 ⟨rfl, hb⟩; have HP9 := hid (HP8.out.on hb); clear hb)
        | (go_at_call 24; refine (eval_is ((HSG.out.env.past HP7.out).alloc (.cells #[.int .i64 T.kind, .string T.op, .int .i64 T.n, .string T.name, .slice T.kaddr T.kids.length T.kcap] 26)) (oneT_in 2 mE { data := #[120, 115] } (HSG.out.tin.on HP7.out)) (x := 0) (t := 3) ((idT_ev (sgL a2 a3) (by decide) _ HSG.out.right).trans (by rw [HNT.out]; exact HIR.out)) _ (Past.refl _)).mono ?_; rintro e w8 ⟨rfl, hb⟩; have HP8 := hid ((HP7.out.alloc (.cells #[.int .i64 T.kind, .string T.op, .int .i64 T.n, .string T.name, .slice T.kaddr T.kids.length T.kcap] 26)).on hb); clear hb)
        | (go_at_call 24; refine (eval_is ((HSG.out.env.past HP6.out).alloc (.cells #[.int .i64 T.kind, .string T.op, .int .i64 T.n, .string T.name, .slice T.kaddr T.kids.length T.kcap] 26)) (oneT_in 3 { data := #[45] } mE (HSG.out.tin.on HP6.out)) (x := un) (t := 0) ((unT_ev (sgL a2 a3) (by decide) _ HSG.out.right).trans (by rw [HNT.out]; exact HUR.out)) _ (Past.refl _)).mono ?_; rintro e w7 ⟨rfl, hb⟩; have HP7 := hid ((HP6.out.alloc (.cells #[.int .i64 T.kind, .string T.op, .int .i64 T.n, .string T.name, .slice T.kaddr T.kids.length T.kcap] 26)).on hb); clear hb; obtain ⟨b0, b1, b2, b3, b4⟩ := HSG.out.cells HP7.out)
        | (go_at_call 24; refine (V1.out _ ((Past.refl wb).alloc (.cells #[.string { data := #[45] }, .string { data := #[126] }, .string { data := #[33] }] 9))).mono ?_; rintro e w6 ⟨rfl, hb⟩; have HP6 : Hid (Past wb w6) := hid (((Past.refl wb).alloc (.cells #[.string { data := #[45] }, .string { data := #[126] }, .string { data := #[33] }] 9)).on hb); clear hb; obtain ⟨b0, b1, b2, b3, b4⟩ := HSG.out.cells HP6.out))
      go_ret
      exact ⟨rfl, stepB HSG.out.past HP9.out⟩
  · have e0 : (t != 0) = true := by simpa using ht
    have HUR : Hid (unR { data := #[45] } (n, t) = (0, t)) := hid (by unfold unR; rw [if_neg ht])
    have HIR : Hid (idxR (sgL a2 a3) [120, 115] (n, t) = (0, t)) := hid (by unfold idxR; rw [if_neg ht])
    clear ht
    go_wp2_with (first
      | (go_at_call 24; refine (eval_is ((HSG.out.env.past HP7.out).alloc (.cells #[.int .i64 T.kind, .string T.op, .int .i64 T.n, .string T.name, .slice T.kaddr T.kids.length T.kcap] 26)) (oneT_in 2 mE { data := #[120, 115] } (HSG.out.tin.on HP7.out)) (x := 0) (t := t) ((idT_ev (sgL a2 a3) (by decide) _ HSG.out.right).trans (by rw [HNT.out]; exact HIR.out)) _ (Past.refl _)).mono ?_; rintro e w8 ⟨rfl, hb⟩; have HP8 := hid ((HP7.out.alloc (.cells #[.int .i64 T.kind, .string T.op, .int .i64 T.n, .string T.name, .slice T.kaddr T.kids.length T.kcap] 26)).on hb); clear hb)
      | (go_at_call 24; refine (eval_is ((HSG.out.env.past HP6.out).alloc (.cells #[.int .i64 T.kind, .string T.op, .int .i64 T.n, .string T.name, .slice T.kaddr T.kids.length T.kcap] 26)) (oneT_in 3 { data := #[45] } mE (HSG.out.tin.on HP6.out)) (x := 0) (t := t) ((unT_ev (sgL a2 a3) (by decide) _ HSG.out.right).trans (by rw [HNT.out]; exact HUR.out)) _ (Past.refl _)).mono ?_; rintro e w7 ⟨rfl, hb⟩; have HP7 := hid ((HP6.out.alloc (.cells #[.int .i64 T.kind, .string T.op, .int .i64 T.n, .string T.name, .slice T.kaddr T.kids.length T.kcap] 26)).on hb); clear hb; obtain ⟨b0, b1, b2, b3, b4⟩ := HSG.out.cells HP7.out)
      | (go_at_call 24; refine (V1.out _ ((Past.refl wb).alloc (.cells #[.string { data := #[45] }, .string { data := #[126] }, .string { data := #[33] }] 9))).mono ?_; rintro e w6 ⟨rfl, hb⟩; have HP6 : Hid (Past wb w6) := hid (((Past.refl wb).alloc (.cells #[.string { data := #[45] }, .string { data := #[126] }, .string { data := #[33] }] 9)).on hb); clear hb; obtain ⟨b0, b1, b2, b3, b4⟩ := HSG.out.cells HP6.out))
    go_ret
    exact ⟨rfl, stepB HSG.out.past HP8.out⟩
end Go.Proofs.YtdaklmbifkehpaaGreatDoor.Ev
