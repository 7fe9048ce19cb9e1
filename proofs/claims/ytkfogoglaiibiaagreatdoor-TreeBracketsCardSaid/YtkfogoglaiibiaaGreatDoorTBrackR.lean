/- The walk of TreeBrackets, where it stands right: the expression is put with brackets just where it would be another one without. -/
import Derived.Test.YtkfogoglaiibiaaGreatDoorTBrack
set_option linter.unusedSimpArgs false
set_option linter.unusedVariables false
namespace Go.Proofs.YtkfogoglaiibiaaGreatDoor
open Go Go.RowKit

set_option maxHeartbeats 8000000 in
set_option maxRecDepth 100000 in
theorem brackets_right (a0 a1 : Int) (h0 : 0 ≤ a0 ∧ a0 ≤ 255) (h1 : 0 ≤ a1 ∧ a1 ≤ 255) (w : World) (H : Pow w) :
    Calls Tryz.prog 8 #[.int .u8 a0, .int .u8 a1, .bool false] w fun e w' => e = .returned (.bool true) ∧ Below w.heap.size w w' := by
  obtain ⟨h00, h01⟩ := h0
  obtain ⟨h10, h11⟩ := h1
  obtain ⟨a, ha, ea⟩ : ∃ a : Nat, a < 18 ∧ a0 % 18 = a := ⟨(a0 % 18).toNat, by omega, by omega⟩
  obtain ⟨b, hb, eb⟩ : ∃ b : Nat, b < 18 ∧ a1 % 18 = b := ⟨(a1 % 18).toNat, by omega, by omega⟩
  have HP := Lib.hid H
  clear H
  go_enter Tryz.func8, Tryz.ntmps8
  go_wp2_with (go_at_call 9; have hx := ex_any HP.out w (Past.refl _); refine hx.mono ?_; clear hx; rintro e w1 ⟨rfl, hb1⟩; have HB1 := Lib.hid hb1; clear hb1)
  have hO := bk_old (.cells lvC 3) (bk_new w1 (.cells obC 9))
  have hL : ((w1.alloc (.cells obC 9)).alloc (.cells lvC 3)).heap[w1.heap.size + 1]? = some (.cells lvC 3 (0, 0)) := bk_new' _ (by simp)
  have HB2 : Hid (Below w.heap.size w ((w1.alloc (.cells obC 9)).alloc (.cells lvC 3))) := Lib.hid (step_on HB1.out (((Below.refl w1.heap.size w1).alloc (Nat.le_refl _) _).alloc (by simp) _))
  clear HB1
  generalize (w1.alloc (.cells obC 9)).alloc (.cells lvC 3) = w3 at hO hL HB2 ⊢
  generalize w1.heap.size + 1 = L at hL ⊢
  generalize w1.heap.size = O at hO ⊢
  have HO := Lib.hid hO
  have HL := Lib.hid hL
  have oa : w3.cell? ⟨O, a, none⟩ = some (.string (ob a)) := bk_cell hO (obC_at a ha)
  have ob' : w3.cell? ⟨O, b, none⟩ = some (.string (ob b)) := bk_cell hO (obC_at b hb)
  have HA := Lib.hid ha
  have HBb := Lib.hid hb
  have a0' : (0 : Int) ≤ a := by omega
  have a1' : (a : Int) < 18 := by omega
  have b0' : (0 : Int) ≤ b := by omega
  have b1' : (b : Int) < 18 := by omega
  clear hO hL ha hb ea eb h00 h01 h10 h11
  have HPA : Hid (∀ (b1 b2 : Nat) (wc : World), Below w3.heap.size w3 wc → (brR (ob a) (ob b) b1 b2).In wc 0 → ∀ W, Past wc W → Calls Tryz.prog 21 #[.agg #[.int .i64 4, .string (ob a), .int .i64 0, .string nE, .slice (some ⟨b2, 0, none⟩) 2 2]] W fun e w' => e = .returned (.string (if lv b ≤ lv a then { data := #[120, 32] } ++ ob a ++ { data := #[32, 40, 121, 32] } ++ ob b ++ { data := #[32, 122, 41] } else { data := #[120, 32] } ++ ob a ++ { data := #[32, 121, 32] } ++ ob b ++ { data := #[32, 122] })) ∧ Below W.heap.size W w') := Lib.hid fun b1 b2 wc hb hE W hW => by
    have := putExpr_any ((HP.out.on (show Past w w3 from HB2.out)).on (show Past w3 wc from hb)) hE (brR_right HA.out HBb.out) (by rw [show (brR (ob a) (ob b) b1 b2).re = .bin (ol a) vx (.bin (ol b) vy vz) from rfl, putR_is a b HA.out HBb.out]; have := (want_len a b HA.out HBb.out).2; omega) W hW
    rw [show (brR (ob a) (ob b) b1 b2).re = .bin (ol a) vx (.bin (ol b) vy vz) from rfl, putR_is a b HA.out HBb.out] at this
    by_cases hlv : lv b ≤ lv a
    · rw [if_pos hlv]; rw [wantR_yes hlv] at this; exact this
    · rw [if_neg hlv]; rw [wantR_no hlv] at this; exact this
  have za := ob_size a HA.out
  have zb := ob_size b HBb.out
  generalize ob a = oA at oa HPA za ⊢
  generalize ob b = oB at ob' HPA zb ⊢
  go_cut [15] (fun v wx => ∃ b1 b2 q : Nat, v = .pointer (some ⟨q, 0, none⟩) ∧ Below w3.heap.size w3 wx ∧ wx.heap[q]? = some (.cells #[.int .i64 4, .string oA, .int .i64 0, .string nE, .slice (some ⟨b2, 0, none⟩) 2 2] 30 (0, 0)) ∧ (brR oA oB b1 b2).In wx 0)
  case first =>
    clear HO HL HA HBb HB2 HP HPA za zb
    go_region_held3 (fun w' => w'.cell? ⟨O, a, none⟩ = some (.string oA) ∧ w'.cell? ⟨O, b, none⟩ = some (.string oB)) ((refine ⟨?_, ?_⟩ <;> (repeat (first | with_reducible assumption | with_reducible refine kD ?_ | with_reducible refine kA ?_ _)))) ((go_at_call 35; refine (br1_any _ _).mono ?_; rintro e w1 ⟨rfl, rfl⟩))
    all_goals
      go_wp2_with fail
      go_meet
      (repeat apply Exists.intro)
      refine ⟨rfl, ?cutB, ?cutX, ?cutE⟩
      case cutX => repeat' (first | ((with_reducible refine bk_new' _ ?_); simp; done) | (with_reducible apply bk_old) | (with_reducible apply bk_drew))
      case cutE =>
        apply brR_in
        case h2 => repeat' (first | ((with_reducible refine bk_new' _ ?_); simp; done) | (with_reducible apply bk_old) | (with_reducible apply bk_drew))
        case h1 => repeat' (first | ((with_reducible refine bk_new' _ ?_); simp; done) | (with_reducible apply bk_old) | (with_reducible apply bk_drew))
      case cutB => repeat' (first | (with_reducible exact Below.refl _ _) | (with_reducible apply Below.drew) | (with_reducible refine Below.alloc ?_ ?_ _) | (simp; done) | (simp; omega))
  case rest =>
    obtain ⟨b1, b2, q, rfl, hb, hx, hE⟩ := hcut
    have oa2 : wc.cell? ⟨O, a, none⟩ = some (.string oA) := (hb.cell (p := ⟨O, a, none⟩) (lt_of_block HO.out)).trans oa
    have ob2 : wc.cell? ⟨O, b, none⟩ = some (.string oB) := (hb.cell (p := ⟨O, b, none⟩) (lt_of_block HO.out)).trans ob'
    have la2 : wc.cell? ⟨L, a, none⟩ = some (.int .i64 (lv a)) := (hb.cell (p := ⟨L, a, none⟩) (lt_of_block HL.out)).trans (bk_cell HL.out (lvC_at a HA.out))
    have lb2 : wc.cell? ⟨L, b, none⟩ = some (.int .i64 (lv b)) := (hb.cell (p := ⟨L, b, none⟩) (lt_of_block HL.out)).trans (bk_cell HL.out (lvC_at b HBb.out))
    obtain ⟨c0, c1, c2, c3, c4⟩ := cells5 hx
    have HW := Lib.hid (step_on HB2.out hb)
    have HPE := Lib.hid (HPA.out b1 b2 wc hb hE)
    clear hb hx hE oa ob'
    have z1 : ({ data := #[120, 32] } : ByteArray).size ≤ 2 := Nat.le_refl _
    have z2 : ({ data := #[32, 121, 32] } : ByteArray).size ≤ 3 := Nat.le_refl _
    have z3 : ({ data := #[32, 122] } : ByteArray).size ≤ 2 := Nat.le_refl _
    have z4 : ({ data := #[32, 40, 121, 32] } : ByteArray).size ≤ 4 := Nat.le_refl _
    have z5 : ({ data := #[32, 122, 41] } : ByteArray).size ≤ 3 := Nat.le_refl _
    by_cases hlv : lv b ≤ lv a
    · have HQ : Hid (∀ W, Past wc W → Calls Tryz.prog 21 #[.agg #[.int .i64 4, .string oA, .int .i64 0, .string nE, .slice (some ⟨b2, 0, none⟩) 2 2]] W fun e w' => e = .returned (.string ({ data := #[120, 32] } ++ oA ++ { data := #[32, 40, 121, 32] } ++ oB ++ { data := #[32, 122, 41] })) ∧ Below W.heap.size W w') := Lib.hid (by have h := HPE.out; rw [if_pos hlv] at h; exact h)
      clear HPE
      go_wp2
      go_quiet (fail)
      go_wp2
      go_quiet (fail)
      go_wp2
      go_quiet (fail)
      go_wp2_with (go_at_call 21; refine Calls.mono (HQ.out _ (below_drewN _ _)) (fun e w6 hE => ?_); obtain ⟨rfl, hb6⟩ := hE)
      go_ret
      exact ⟨by simp, step_on HW.out (step_on (below_drewN _ _) hb6)⟩
    · have HQ : Hid (∀ W, Past wc W → Calls Tryz.prog 21 #[.agg #[.int .i64 4, .string oA, .int .i64 0, .string nE, .slice (some ⟨b2, 0, none⟩) 2 2]] W fun e w' => e = .returned (.string ({ data := #[120, 32] } ++ oA ++ { data := #[32, 121, 32] } ++ oB ++ { data := #[32, 122] })) ∧ Below W.heap.size W w') := Lib.hid (by have h := HPE.out; rw [if_neg hlv] at h; exact h)
      clear HPE
      go_wp2
      go_quiet (fail)
      go_wp2
      go_quiet (fail)
      go_wp2_with (go_at_call 21; refine Calls.mono (HQ.out _ (below_drewN _ _)) (fun e w6 hE => ?_); obtain ⟨rfl, hb6⟩ := hE)
      go_ret
      exact ⟨by simp, step_on HW.out (step_on (below_drewN _ _) hb6)⟩
end Go.Proofs.YtkfogoglaiibiaaGreatDoor
