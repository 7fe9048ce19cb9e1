/- The walk of WordTells: any operation of any two numbers, and of one, tells what the document's own answer tells; so do levels and texts. -/
import Derived.Test.YtbphpbkkafgihaaDoorWRef
import Derived.Test.YtbphpbkkafgihaaDoorWRef3
import Derived.BigQuiet
import Derived.WalkSmall
import Derived.Deep.QuietTactic
namespace Go.Proofs.YtbphpbkkafgihaaDoor
open Go.RowKit

theorem rtext_on {w0 : World} (n : Int) (hr : -9223372036854775808 ≤ n ∧ n ≤ 9223372036854775807) (w : World) (h : Past w0 w) :
    Calls Tryd.prog 23 #[.int .i64 n] w fun e w' => e = .returned (.string (txt n)) ∧ Past w0 w' := by
  by_cases h0 : n < 0
  · have e : txt n = ⟨(45 :: Lib.decDigits n.natAbs).toArray⟩ := by unfold txt Lib.itoa; rw [if_pos h0]
    rw [e]
    exact (rtext_neg n.natAbs (by omega) (by omega) n (by omega) w).mono fun _ _ ⟨he, hb⟩ => ⟨he, h.on hb⟩
  · have e : txt n = ⟨(Lib.decDigits n.toNat).toArray⟩ := by unfold txt Lib.itoa; rw [if_neg h0]
    rw [e]
    have hn : n = ((n.toNat : Nat) : Int) := by omega
    have := rtext_pos n.toNat (by omega) w
    rw [← hn] at this
    exact this.mono fun _ _ ⟨he, hb⟩ => ⟨he, h.on hb⟩
theorem OpsIn.drew {b : Nat} {w : World} (h : OpsIn b w) : OpsIn b w.drew := h.on (Below.refl _ _).drew

set_option maxRecDepth 100000 in
set_option maxHeartbeats 2000000 in
theorem tells_core (s : ByteArray) (k : Nat) (a b x y A B : Int) (O : ByteArray) (hO : opV s k = O) (hk : k ≤ 255) (hA : nearV a x = A) (hB : nearV b y = B) (hx : 0 ≤ x ∧ x ≤ 255) (hy : 0 ≤ y ∧ y ≤ 255)
    (rA : -9223372036854775808 ≤ A ∧ A ≤ 9223372036854775807) (w0 : World) (H0 : Pow w0) :
    Calls Tryd.prog 3 #[.string s, .int .u8 (k : Int), .int .i64 a, .int .i64 b, .int .u8 x, .int .u8 y] w0 fun e w' => e = .returned (.bool true) ∧ Past w0 w' := by
  have H : Hid (Pow w0) := Lib.hid H0
  clear H0
  have h : Past w0 w0 := Past.refl _
  have HX : Hid (0 ≤ x ∧ x ≤ 255) := Lib.hid hx
  have HY : Hid (0 ≤ y ∧ y ≤ 255) := Lib.hid hy
  have HK : Hid (k ≤ 255) := Lib.hid hk
  have HA : Hid (-9223372036854775808 ≤ A ∧ A ≤ 9223372036854775807) := Lib.hid rA
  clear hx hy hk rA
  go_enter Tryd.func3, Tryd.ntmps3
  go_wp2_with (first
    | (go_at_call 11; refine (ex_any w0 H.out _ h).mono ?_; clear h; rintro e w ⟨rfl, h⟩)
    | (go_at_call 12; refine (op_any _ _ HK.out _ h).mono ?_; clear h; rintro e w ⟨rfl, h⟩)
    | (go_at_call 13; refine (near_on _ _ (by first | exact HX.out | exact HY.out) _ h).mono ?_; clear h; rintro e w ⟨rfl, h⟩)
    | (go_at_call 14; refine (bin_on _ _ _ _ h).mono ?_; clear h; rintro e w ⟨rfl, h⟩)
    | (go_at_call 15; refine (rbin_any _ _ _ _).mono ?_; rintro e w' ⟨rfl, rfl⟩)
    | (go_at_call 16; refine (un_on _ _ HA.out _ h).mono ?_; clear h; rintro e w ⟨rfl, h⟩)
    | (go_at_call 17; refine (run_any _ _ HA.out _).mono ?_; rintro e w' ⟨rfl, rfl⟩)
    | (go_at_call 18; refine (ops_own _ h).mono ?_; clear h; rintro e w1 ⟨rfl, hops1, hb1, h⟩; clear hb1)
    | (go_at_call 19; refine (ops_ref _ h).mono ?_; clear h; rintro e w2 ⟨rfl, hops2, hb2, h⟩))
  have hops3 := hops1.on hb2
  clear hops1 hb2
  obtain ⟨b1, hb1⟩ : ∃ b1, b1 = w'.heap.size := ⟨_, rfl⟩
  rw [← hb1] at hops3
  simp only [← hb1]
  clear hb1
  obtain ⟨b2, hb2⟩ : ∃ b2, b2 = w1.heap.size := ⟨_, rfl⟩
  rw [← hb2] at hops2
  simp only [← hb2]
  clear hb2
  go_loopw [25] (fun i wr => ∃ j : Nat, j ≤ 18 ∧ i = .int .i64 j ∧ Past w0 wr ∧ OpsIn b1 wr ∧ OpsIn b2 wr) (fun i _ => 18 - (intOf i).toNat)
  case atStart => exact ⟨0, by omega, rfl, h, hops3, hops2⟩
  case round =>
    clear h hops3 hops2
    obtain ⟨j, hj, rfl, h, ho1, ho2⟩ := hrel
    by_cases hlt : j < 18
    · have c1 := ho1.cell j hlt
      have c2 := ho2.cell j hlt
      go_wp2
      go_quiet (fail)
      go_wp2
      go_roundw
      case rel => exact ⟨j + 1, by omega, by go_num, h.on (Go.below_drewN (Below.refl _ _) _), ho1.on (Go.below_drewN (Below.refl _ _) _), ho2.on (Go.below_drewN (Below.refl _ _) _)⟩
      case measure => simp [intOf]; omega
    · obtain rfl : j = 18 := by omega
      go_wp2_with (first
        | (go_at_call 20; refine (level_on _ _ h).mono ?_; clear h; rintro e w ⟨rfl, h⟩)
        | (go_at_call 21; refine (rlevel_any _ _ h).mono ?_; clear h; rintro e w ⟨rfl, h⟩)
        | (go_at_call 22; refine (text_on _ HA.out.1 HA.out.2 _ h H.out).mono ?_; clear h; rintro e w ⟨rfl, h⟩)
        | (go_at_call 23; refine (rtext_on _ HA.out _ h).mono ?_; clear h; rintro e w ⟨rfl, h⟩))
      go_ret
      exact ⟨rfl, h⟩
theorem wordTells_walk (a0 : ByteArray) (a1 a2 a3 a4 a5 : Int) (_ : a0.size ≤ maxLen) (w1 : (Lit.int .u8 a1).wf = true) (w2 : (Lit.int .i64 a2).wf = true) (_ : (Lit.int .i64 a3).wf = true) (w4 : (Lit.int .u8 a4).wf = true) (w5 : (Lit.int .u8 a5).wf = true) (w : World) (H : Pow w) :
    Calls Tryd.prog 3 #[.string a0, .int .u8 a1, .int .i64 a2, .int .i64 a3, .int .u8 a4, .int .u8 a5] w fun e w' => e = .returned (.bool true) ∧ Below w.heap.size w w' := by
  have h1 := bounds_u8 w1
  obtain ⟨k, rfl⟩ := Int.eq_ofNat_of_zero_le h1.1
  exact tells_core a0 k a2 a3 a4 a5 _ _ _ rfl (by omega) rfl rfl (bounds_u8 w4) (bounds_u8 w5) (nearV_range _ _ (bounds_i64 w2)) w H
end Go.Proofs.YtbphpbkkafgihaaDoor
