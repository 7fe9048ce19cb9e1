/- The walk of WordBits: bits turned twice; both, one or the other; a shift to the left is a product. -/
import Derived.Test.YtbphpbkkafgihaaDoorWLaid
import Derived.OpenShut
namespace Go.Proofs.YtbphpbkkafgihaaDoor
open Go.RowKit

theorem mul_low (a : Int) (n : Nat) (ha : -9223372036854775808 ≤ a ∧ a ≤ 9223372036854775807) : wrap64 (wrap64 (a / 2 ^ n * 2 ^ n) + a % 2 ^ n) = a := by
  have hp : (0 : Int) < 2 ^ n := Int.pow_pos (by decide)
  have e := Int.mul_ediv_add_emod a (2 ^ n)
  rw [Int.mul_comm] at e
  generalize a / 2 ^ n * 2 ^ n = y at e ⊢
  generalize a % 2 ^ n = z at e ⊢
  unfold wrap64
  omega

set_option maxRecDepth 100000 in
set_option maxHeartbeats 2000000 in
theorem bits_core (a b k n : Int) (hn : k.tmod 63 = n) (h0 : 0 ≤ n) (h1 : n ≤ 62) (ha : -9223372036854775808 ≤ a ∧ a ≤ 9223372036854775807) (w0 : World) (H0 : Pow w0) :
    Calls Tryd.prog 6 #[.int .i64 a, .int .i64 b, .int .u8 k] w0 fun e w' => e = .returned (.bool true) ∧ Past w0 w' := by
  have H : Hid (Pow w0) := Lib.hid H0
  clear H0
  have h : Past w0 w0 := Past.refl _
  have HA : Hid (-9223372036854775808 ≤ a ∧ a ≤ 9223372036854775807) := Lib.hid ha
  obtain ⟨N, hN⟩ : ∃ N, N = -a - 1 := ⟨_, rfl⟩
  have HN : Hid (-9223372036854775808 ≤ N ∧ N ≤ 9223372036854775807) := Lib.hid (by omega)
  have hr : 0 ≤ n ∧ n ≤ 63 := ⟨h0, by omega⟩
  have hj : n.toNat ≤ 62 := by omega
  have hp1 : (2 : Int) ^ n.toNat ≤ 2 ^ 62 := by
    have : (2 : Nat) ^ n.toNat ≤ 2 ^ 62 := Nat.pow_le_pow_right (by decide) hj
    exact_mod_cast this
  have hp0 : 0 < (2 : Int) ^ n.toNat := Int.pow_pos (by decide)
  obtain ⟨M, e3⟩ : ∃ M, unV { data := #[45] } a = M := ⟨_, rfl⟩
  obtain ⟨I, e4⟩ : ∃ I, unV { data := #[33] } a = I := ⟨_, rfl⟩
  obtain ⟨P, e7⟩ : ∃ P, binV { data := #[38] } a b = P := ⟨_, rfl⟩
  obtain ⟨Q, e8⟩ : ∃ Q, binV { data := #[124] } a b = Q := ⟨_, rfl⟩
  obtain ⟨S, e10⟩ : ∃ S, binV { data := #[43] } a b = S := ⟨_, rfl⟩
  obtain ⟨X, e11⟩ : ∃ X, binV { data := #[94] } a b = X := ⟨_, rfl⟩
  obtain ⟨W, hW⟩ : ∃ W, W = (2 : Int) ^ n.toNat := ⟨_, rfl⟩
  obtain ⟨Z, e14⟩ : ∃ Z, binV { data := #[60, 60] } a n = Z := ⟨_, rfl⟩
  obtain ⟨D, e16⟩ : ∃ D, binV { data := #[62, 62] } a n = D := ⟨_, rfl⟩
  obtain ⟨Y, e17⟩ : ∃ Y, binV { data := #[42] } D W = Y := ⟨_, rfl⟩
  obtain ⟨L, e18⟩ : ∃ L, binV { data := #[38] } a (W - 1) = L := ⟨_, rfl⟩
  have e1 : unV { data := #[126] } a = N := by rw [hN]; rfl
  have e2 : unV { data := #[126] } N = a := by show -N - 1 = a; omega
  have e5 : binV { data := #[43] } a N = -1 := by rw [binV_plus]; unfold wrap64; omega
  have e6 : binV { data := #[43] } M a = 0 := by
    rw [binV_plus, ← e3]
    show wrap64 (wrap64 (-a) + a) = 0
    unfold wrap64; omega
  have e9 : binV { data := #[43] } P Q = S := by
    rw [← e7, ← e8, ← e10, binV_plus, binV_plus, binV_bitAnd, binV_bitOr]
    exact bits_and_or a b
  have e12 : binV { data := #[94] } X b = a := by
    rw [← e11, binV_bitXor, binV_bitXor]
    exact bits_xor_xor a b ha
  have e13 : binV { data := #[60, 60] } 1 n = W := by
    rw [binV_left, if_pos hr, hW, Int.one_mul]
    unfold wrap64; omega
  have e15 : binV { data := #[42] } a W = Z := by rw [binV_times, ← e14, binV_left, if_pos hr, hW]
  have e19 : binV { data := #[43] } Y L = a := by
    rw [binV_plus, ← e17, ← e18, ← e16, hW, binV_times, binV_right, if_pos hr, binV_bitAnd, bits_low a n.toNat hj]
    exact mul_low a n.toNat ha
  have e20 : binV { data := #[61, 61] } a 0 = I := by rw [← e4]; rfl
  have e21 : binT { data := #[62, 62] } n = 0 := by rw [binT_right, if_pos hr]
  have w1 : 1 ≤ W := by omega
  have w2 : W ≤ 4611686018427387904 := by have : (2 : Int) ^ 62 = 4611686018427387904 := rfl; omega
  clear ha hr hj hp1 hp0 hN hW
  go_enter Tryd.func6, Tryd.ntmps6
  go_wp2_with (first
    | (go_at_call 11; refine (ex_any w0 H.out _ h).mono ?_; clear h; rintro e w ⟨rfl, h⟩)
    | (go_at_call 24; refine (do_on _ _ _ _ (by first | exact h | exact h.alloc _)).mono ?_; clear h; rintro e w ⟨rfl, h⟩)
    | (go_at_call 14; refine (bin_on _ _ _ _ (by first | exact h | exact h.alloc _)).mono ?_; clear h; rintro e w ⟨rfl, h⟩)
    | (go_at_call 16; refine (un_on _ _ (by first | exact HA.out | exact HN.out) _ (by first | exact h | exact h.alloc _)).mono ?_; clear h; rintro e w ⟨rfl, h⟩))
  go_ret
  exact ⟨rfl, h⟩

theorem wordBits_walk (a0 a1 a2 : Int) (w0 : (Lit.int .i64 a0).wf = true) (_ : (Lit.int .i64 a1).wf = true) (w2 : (Lit.int .u8 a2).wf = true) (w : World) (H : Pow w) :
    Calls Tryd.prog 6 #[.int .i64 a0, .int .i64 a1, .int .u8 a2] w fun e w' => e = .returned (.bool true) ∧ Below w.heap.size w w' := by
  have h := bounds_u8 w2
  have e : a2.tmod 63 = a2 % 63 := Int.tmod_eq_emod_of_nonneg h.1
  exact bits_core a0 a1 a2 _ rfl (by omega) (by omega) (bounds_i64 w0) w H
end Go.Proofs.YtbphpbkkafgihaaDoor
