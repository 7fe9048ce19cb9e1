/- The chapter's examples hold, whatever the memory, as long as strconv's table of powers is as its text lays it. From the row's condition on the listed variables: strconv's table of powers is as its text lays it. -/
import Derived.Test.YtppeogcpoplpeaaGreatDoorTExC
import Derived.Lib.LaidU8
import Derived.ProofKit
set_option linter.unusedSimpArgs false
set_option linter.unusedVariables false
namespace Go.Proofs.YtppeogcpoplpeaaGreatDoor
open Go Go.RowKit

set_option maxHeartbeats 8000000 in
set_option maxRecDepth 100000 in
theorem ex_any {w0 : World} (H : Pow w0) (w : World) (hp : Past w0 w) :
    Calls Tryz.prog 9 #[] w fun e w' => e = .returned (.bool true) ∧ Below w.heap.size w w' := by
  have HP := Lib.hid hp
  have HPw := Lib.hid H
  clear hp H
  go_enter Tryz.func9, Tryz.ntmps9
  go_upto_region 3 with (go_at_call 36; refine (ex1_any _ _).mono ?_; rintro e w1 ⟨rfl, rfl⟩)
  go_cut [3] (fun v wx => ∃ b1 b2 b3 g : Nat, v = .slice (some ⟨g, 0, none⟩) 1 1 ∧ Below w.heap.size w wx ∧ wx.heap[w.heap.size + 1 + 1 + 1 + 1]? = some (.cells #[.int .i64 4, .string { data := #[45] }, .int .i64 0, .string nE, .slice (some ⟨w.heap.size + 1 + 1 + 1, 0, none⟩) 2 2] 30 (0, 0)) ∧ (exE (w.heap.size + 1 + 1) (w.heap.size + 1 + 1 + 1)).In wx 0 ∧ SsIn wx 0 (some ⟨g, 0, none⟩) 0 [exS (w.heap.size + 1 + 1) (w.heap.size + 1 + 1 + 1) b1 b2 b3])
  case first =>
    go_region_with (go_at_call 36; refine (ex1_any _ _).mono ?_; rintro e w1 ⟨rfl, rfl⟩)
    all_goals
      go_wp2_with fail
      go_meet
      (repeat apply Exists.intro)
      refine ⟨rfl, ?cutB, ?cutX, ?cutE, ?cutS⟩
      case cutS =>
        apply exS_in
        case hg => repeat' (first | (refine bk_new' _ ?_; simp; done) | apply bk_old | apply bk_drew)
        case h2 => repeat' (first | (refine bk_new' _ ?_; simp; done) | apply bk_old | apply bk_drew)
        case h1 => repeat' (first | (refine bk_new' _ ?_; simp; done) | apply bk_old | apply bk_drew)
        case h3 => repeat' (first | (refine bk_new' _ ?_; simp; done) | apply bk_old | apply bk_drew)
        case hE =>
          refine exE_in ?_ ?_
          all_goals repeat' (first | (refine bk_new' _ ?_; simp; done) | apply bk_old | apply bk_drew)
      case cutB => repeat' (first | exact Below.refl _ _ | apply Below.drew | refine Below.alloc ?_ ?_ _ | (simp; done) | (simp; omega))
      case cutX => repeat' (first | (refine bk_new' _ ?_; simp; done) | apply bk_old | apply bk_drew)
      case cutE =>
        refine exE_in ?_ ?_
        all_goals repeat' (first | (refine bk_new' _ ?_; simp; done) | apply bk_old | apply bk_drew)
  case rest =>
    obtain ⟨b1, b2, b3, g, rfl, hb, hx, hE, hS⟩ := hcut
    generalize w.heap.size + 1 + 1 + 1 + 1 = q at hx ⊢
    generalize w.heap.size + 1 + 1 + 1 = b at hx hE hS ⊢
    generalize w.heap.size + 1 + 1 = a at hx hE hS ⊢
    have HB := Lib.hid hb
    have HX := Lib.hid hx
    have HE := Lib.hid hE
    have HS := Lib.hid hS
    clear hb hx hE hS
    go_upto_region 4 with fail
    go_cut [4] (fun v wx => ∃ gd gf qp : Nat, v = .pointer (some ⟨qp, 0, none⟩) ∧ Below w.heap.size w wx ∧ wx.heap[q]? = some (.cells #[.int .i64 4, .string { data := #[45] }, .int .i64 0, .string nE, .slice (some ⟨b, 0, none⟩) 2 2] 30 (0, 0)) ∧ (exE a b).In wx 0 ∧ SsIn wx 0 (some ⟨g, 0, none⟩) 0 [exS a b b1 b2 b3] ∧ FsIn wx 0 (some ⟨gf, 0, none⟩) [exF a b b1 b2 b3 g gd] ∧ wx.heap[qp]? = some (.cells #[.slice (some ⟨gf, 0, none⟩) 1 1] 24 (0, 0)))
    case first =>
      go_wp2_with fail
      go_meet
      have hst : Below wc.heap.size wc (((wc.alloc (.cells #[.string { data := #[97] }, .int .i64 0, .string { data := #[120] }, .int .i64 4] 85)).alloc (.cells #[.string { data := #[109, 97, 105, 110] }, .slice none 0 0, .slice (some ⟨wc.heap.size, 0, none⟩) 2 2, .slice (some ⟨g, 0, none⟩) 1 1] 55)).alloc (.cells #[.slice (some ⟨wc.heap.size + 1, 0, none⟩) 1 1] 24)) := (((Below.refl _ _).alloc (Nat.le_refl _) _).alloc (by simp) _).alloc (by simp; omega) _
      refine ⟨wc.heap.size, wc.heap.size + 1, wc.heap.size + 1 + 1, rfl, step_on HB.out hst, (hst.block _ (lt_of_block HX.out)).trans HX.out, HE.out.on hst, HS.out.on hst, exF_in (HS.out.on hst) (bk_old _ (bk_old _ (bk_new _ _))) (bk_old _ (bk_new' _ (by simp))), bk_new' _ (by simp)⟩
    case rest =>
      clear HB HX HE HS
      obtain ⟨gd, gf, qp, rfl, hb, hx, hE, hS, hF, hq⟩ := hcut
      have HB := Lib.hid hb
      have HX := Lib.hid hx
      have HQ := Lib.hid hq
      have PW := Lib.hid (HPw.out.on (HP.out.on hb))
      obtain ⟨c0, c1, c2, c3, c4⟩ := cells5 hx
      have d0 := bk_cell (k := 0) (v := .slice (some ⟨gf, 0, none⟩) 1 1) hq rfl
      have r1 := exc3 a b
      have r2 := exc4 a b b1 b2 b3 g gd
      have HPE : Hid (∀ W, Past wc W → Calls Tryz.prog 21 #[.agg #[.int .i64 4, .string { data := #[45] }, .int .i64 0, .string nE, .slice (some ⟨b, 0, none⟩) 2 2]] W fun e w' => e = .returned (.string { data := #[97, 32, 45, 32, 40, 98, 32, 45, 32, 45, 50, 41] }) ∧ Below W.heap.size W w') := Lib.hid fun W hW => by
        have := putExpr_any PW.out hE r1 (by rw [exc1]; decide) W hW
        rw [exc1] at this
        exact this
      have HPU : Hid (∀ W, Past wc W → Calls Tryz.prog 19 #[.agg #[.slice (some ⟨gf, 0, none⟩) 1 1]] W fun e w' => e = .returned (.string { data := (progT [exF a b b1 b2 b3 g gd]).toArray }) ∧ Below W.heap.size W w') := Lib.hid fun W hW => put_any PW.out (some ⟨gf, 0, none⟩) 1 _ hF r2 (by rw [exc2]; decide) W hW
      have HRI : Hid (∀ W, Past wc W → Calls Tryz.prog 12 #[.agg #[.slice (some ⟨gf, 0, none⟩) 1 1]] W fun e w' => e = .returned (.bool true) ∧ Below W.heap.size W w') := Lib.hid fun W hW => by
        have := rightP_any (some ⟨gf, 0, none⟩) 1 _ hF W hW
        rw [r2] at this
        exact this
      have HSA : Hid (∀ W, Past wc W → Calls Tryz.prog 14 #[.agg #[.slice (some ⟨gf, 0, none⟩) 1 1], .agg #[.slice (some ⟨gf, 0, none⟩) 1 1]] W fun e w' => e = .returned (.bool true) ∧ Below W.heap.size W w') := Lib.hid fun W hW => by
        have := sameP_any (some ⟨gf, 0, none⟩) (some ⟨gf, 0, none⟩) 1 1 _ _ hF hF W hW
        rw [exc5] at this
        exact this
      have HCO : Hid (∀ W, Past wc W → Calls Tryz.prog 23 #[.slice (some ⟨g, 0, none⟩) 1 1] W fun e w' => e = .returned (.int .i64 3) ∧ Below W.heap.size W w') := Lib.hid fun W hW => by
        have := count_any _ (some ⟨g, 0, none⟩) 1 _ (Nat.lt_succ_self _) (by simp) hS W hW
        rw [exc6] at this
        exact this
      have HRE : Hid (∀ W, Past wc W → Calls Tryz.prog 16 #[.agg #[.int .i64 1, .string nE, .int .i64 0, .string { data := #[105, 102] }, .slice none 0 0]] W fun e w' => e = .returned (.bool false) ∧ Below W.heap.size W w') := Lib.hid fun W hW => by
        have := rightExpr_any (vr_in { data := #[105, 102] } wc) W hW
        rw [exc7] at this
        exact this
      clear hb hx hq hE hS hF r1 r2
      go_wp2_with (first
        | (go_at_call 21; have hx := putU_any (PW.out.on P6.out); refine hx.mono ?_; clear hx; rintro e w12 ⟨rfl, hb7⟩; have P7 := Lib.hid (step_on (step_on HB.out P6.out) hb7); clear hb7)
        | (go_at_call 16; refine (HRE.out _ P5.out).mono ?_; rintro e w11 ⟨rfl, hb6⟩; have P6 := Lib.hid (P5.out.on hb6); clear hb6)
        | (go_at_call 23; refine (HCO.out _ P4.out).mono ?_; rintro e w10 ⟨rfl, hb5⟩; have P5 := Lib.hid (P4.out.on hb5); clear hb5)
        | (go_at_call 14; refine (HSA.out _ P3.out).mono ?_; rintro e w9 ⟨rfl, hb4⟩; have P4 := Lib.hid (P3.out.on hb4); clear hb4)
        | (go_at_call 12; refine (HRI.out _ P2.out).mono ?_; rintro e w8 ⟨rfl, hb3⟩; have P3 := Lib.hid (P2.out.on hb3); have q3 := bk_cell (k := 0) (v := .slice (some ⟨gf, 0, none⟩) 1 1) ((P3.out.block qp (lt_of_block HQ.out)).trans HQ.out) rfl; clear hb3)
        | (go_at_call 19; refine (HPU.out _ P1.out).mono ?_; rintro e w7 ⟨rfl, hb2⟩; rw [exc2]; have P2 := Lib.hid (P1.out.on hb2); have q2 := bk_cell (k := 0) (v := .slice (some ⟨gf, 0, none⟩) 1 1) ((P2.out.block qp (lt_of_block HQ.out)).trans HQ.out) rfl; clear hb2)
        | (go_at_call 21; refine (HPE.out _ (Past.refl _)).mono ?_; rintro e w6 ⟨rfl, hb1⟩; have P1 := Lib.hid (show Past wc w6 from hb1); have q1 := bk_cell (k := 0) (v := .slice (some ⟨gf, 0, none⟩) 1 1) ((P1.out.block qp (lt_of_block HQ.out)).trans HQ.out) rfl; clear hb1))
      go_ret
      exact ⟨by simp, P7.out⟩
end Go.Proofs.YtppeogcpoplpeaaGreatDoor

namespace Go.Proofs.YtppeogcpoplpeaaGreatDoor
open Go Go.RowKit
theorem gPow : Tryz.prog.globalNamed "internal/strconv.uint64pow10" = some 0 := by kernel_rfl
theorem laid_facts {l : List (String × DataW Unit)} {W : World} (h : laidMet Tryz.prog l W) (hm : ("internal/strconv.uint64pow10", (Lib.tabData .u64 Lib.pow10Tab : DataW Unit)) ∈ l := by first | exact .head _ | exact .tail _ (.head _) | exact .tail _ (.tail _ (.head _))) : Pow W := by
  obtain ⟨g, ty, cs, fuel, q, hg, hty, hv, hd⟩ := Lib.laidMet.reads h hm
  obtain rfl := Option.some.inj (gPow.symm.trans hg)
  obtain rfl : 192 = ty := Option.some.inj ((show (Tryz.prog.globals[0]?).map (·.type) = some 192 by kernel_rfl).symm.trans hty)
  refine Lib.tabBelow_of_tabIs ?_
  unfold Lib.TabIs
  rw [hv, ← Lib.cells_of_tab Tryz.underlying192 Tryz.underlying133 (by kernel_rfl) (by kernel_rfl) hd]
end Go.Proofs.YtppeogcpoplpeaaGreatDoor
