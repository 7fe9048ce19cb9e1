/- The walk of EvalPuts: what is put of an expression is reckoned as it is. -/
import Derived.Test.YtdaklmbifkehpaaGreatDoorESigns0
import Derived.Test.YtdaklmbifkehpaaGreatDoorPExB
set_option linter.unusedSimpArgs false
set_option linter.unusedVariables false
namespace Go.Proofs.YtdaklmbifkehpaaGreatDoor.Ev
open Go Go.RowKit Go.Proofs.YtdaklmbifkehpaaGreatDoor Go.Proofs.YtdaklmbifkehpaaGreatDoor.Pm
open Go.Lib (hid)

set_option maxHeartbeats 16000000 in
set_option maxRecDepth 100000 in
theorem evalPuts_walk (a0 : Option Addr) (len0 cap0 : Nat) (z0 : List Int) (a1 a2 : Int) (w1 : (Lit.int .i64 a1).wf = true) (w2 : (Lit.int .i64 a2).wf = true) (w : World) (H : Wo w) (r0 : RowIn .u8 w a0 len0 z0) :
    Calls Tryz.prog 5 #[.slice a0 len0 cap0, .int .i64 a1, .int .i64 a2] w fun e w' => e = .returned (.bool true) ∧ Below w.heap.size w w' := by
  have HO := hid H
  have R0 := hid r0
  have H2 := hid (wf_in64 w1)
  have H3 := hid (wf_in64 w2)
  clear H r0 w1 w2
  go_enter Tryz.func5, Tryz.ntmps5
  go_upto_region 7 with (first
    | (go_at_call 23; refine (feed_new (rowIn_on R0.out HB3.out.1) 4 (by decide)).mono ?_; rintro e w5 ⟨T, rfl, hT, hin, hb⟩; have HT := hid (And.intro hT hin); have HP5 := hid hb; clear hT hin hb)
    | (go_at_call 11; refine (newF (HS2.out.1.on ((Below.refl w2.heap.size w2).alloc (Nat.le_refl _) (.cells #[.int .i64 a1, .int .i64 a2] 2))) (HS2.out.2.on ((Below.refl w2.heap.size w2).alloc (Nat.le_refl _) (.cells #[.int .i64 a1, .int .i64 a2] 2))) (row2_in (bk_new w2 (.cells #[.int .i64 a1, .int .i64 a2] 2)) H2.out H3.out) rfl).mono ?_; rintro e w3 ⟨⟨E, blk, rfl, hE⟩, hb⟩; have HE3 := hid hE; have HB3 : Hid (Past w w3 ∧ True) := hid ⟨(HP2.out.alloc (.cells #[.int .i64 a1, .int .i64 a2] 2)).on hb, trivial⟩; clear hE hb)
    | (go_at_call 10; refine (frame_any w1).mono ?_; rintro e w2 ⟨⟨x, y, nm, rfl, hs, hd⟩, hb⟩; have HS2 := hid (And.intro hs hd); have HP2 : Hid (Past w w2) := hid (HP1.out.on hb); clear hs hd hb)
    | (go_at_call 9; refine (ex_any HO.out).mono ?_; rintro e w1 ⟨rfl, hp⟩; have HP1 := hid hp; clear hp))
  have hsg : Sg w _ E w5.heap.size blk (frL [a1, a2]) T (w5.alloc (fiveO T)) := ⟨(HE3.out.on HP5.out).alloc (fiveO T), HT.out.2.on ((Below.refl w5.heap.size w5).alloc (Nat.le_refl _) (fiveO T)), HT.out.1.right, bk_new w5 (fiveO T), (HB3.out.1.on HP5.out).alloc (fiveO T)⟩
  obtain ⟨m, hex⟩ := exf_of (n := 0) (w := w5) HT.out.1.up HT.out.2 (by decide)
  have HEX := hid (show exprF m (putR levL T.re) = .ok T.re (0 + dE T.re) ∧ (putR levL T.re).length ≤ 8192 from ⟨hex.e0, by have := hex.len; omega⟩)
  have HSG := hid hsg
  clear hsg hex HE3 HP5 HT HB3 HS2 HP2 HP1 R0 H2 H3
  generalize w5.alloc (fiveO T) = wb at *
  generalize w5.heap.size = q at *
  obtain ⟨b0, b1, b2, b3, b4⟩ := HSG.out.cells (Past.refl wb)
  have hkb := lt_of_block HSG.out.box
  have HR : Hid (evT (frL [a1, a2]) T = evE (frL [a1, a2]) T.re) := hid (ev_right _ HSG.out.right)
  obtain ⟨n, t, hnt⟩ : ∃ n t, evE (frL [a1, a2]) T.re = (n, t) := ⟨_, _, rfl⟩
  have V1 := hid (eval_is HSG.out.env HSG.out.tin (HR.out.trans hnt))
  have HNT := hid hnt
  have HPT : Hid (∀ W, Past wb W → Calls Tryz.prog 32 #[.agg #[.int .i64 T.kind, .string T.op, .int .i64 T.n, .string T.name, .slice T.kaddr T.kids.length T.kcap]] W fun e w' => e = .returned (.string ⟨(putR levL T.re).toArray⟩) ∧ Below W.heap.size W w') := hid fun W hW => by
    have := putExpr_any (HO.out.on HSG.out.past).pw HSG.out.tin HSG.out.right (Nat.le_trans HEX.out.2 (by decide)) W hW
    rw [ET.val_is] at this; exact this
  clear hnt HR
  go_wp2_with (first
    | (go_at_call 24; ((with_reducible refine (V2.out _ HP8.out).mono ?_); rintro e w9 ⟨rfl, hb⟩); have HP9 := hid hb; clear hb)
    | (go_at_call 24; ((with_reducible refine (V1.out _ HP7.out.1).mono ?_); rintro e w8 ⟨rfl, hb⟩); obtain ⟨y0, y1, y2, y3, y4⟩ := box5 (bk_new w7 (fiveO Y)) hb; have HP8 : Hid (Past (w7.alloc (fiveO Y)) w8) := hid hb; clear hb)
    | (go_at_call 31; refine (expr_fine (HO.out.on (HSG.out.past.on HP6.out)) m _ (l := putR levL T.re) rfl HEX.out.2 HEX.out.1).mono ?_; rintro e w7 ⟨hb, Y, rfl, hY⟩; have HP7 : Hid (Past wb (w7.alloc (fiveO Y)) ∧ True) := hid ⟨(HP6.out.on hb).alloc (fiveO Y), trivial⟩; have V2 := hid (eval_is (HSG.out.env.past HP7.out.1) (hY.2.2.on ((Below.refl w7.heap.size w7).alloc (Nat.le_refl _) (fiveO Y))) (x := n) (t := t) ((ev_right _ hY.2.1).trans (by rw [hY.1]; exact HNT.out))); obtain ⟨b0, b1, b2, b3, b4⟩ := HSG.out.cells HP7.out.1; have hkb2 := World.block_lt_of_cell? _ _ b0; clear hb hY)
    | (go_at_call 32; refine (HPT.out _ (Past.refl wb)).mono ?_; rintro e w6 ⟨rfl, hb⟩; have HP6 : Hid (Past wb w6) := hid hb; clear hb))
  go_ret
  exact ⟨rfl, stepB (stepB (stepB HSG.out.past HP7.out.1) HP8.out) HP9.out⟩
end Go.Proofs.YtdaklmbifkehpaaGreatDoor.Ev
