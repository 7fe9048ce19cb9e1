/- The walk of LexNumbers, one of its cases. -/
import Derived.Test.YtgfobalchpcgbaaDoorLNum0
set_option linter.unusedSimpArgs false
set_option linter.unusedVariables false
namespace Go.Proofs.YtgfobalchpcgbaaDoor
open Go Go.RowKit
open Go.Lib (decDigits)
set_option maxRecDepth 100000 in
set_option maxHeartbeats 4000000 in
theorem numbers_A_true (n : Int) (h0 : 0 ≤ n) (N : Nat) (hN : n % 1000 = (N : Int)) (h64 : N < 18446744073709551616) (hA : N ≤ 9223372036854775808) (hB : N ≤ 1000000) (w0 : World) (H0 : Errs w0) :
    Calls Tryd.prog 5 #[.int .u64 n, .bool true] w0 fun e w' => e = .returned (.bool true) ∧ Past w0 w' := by
  have H := Lib.hid H0
  have H64 := Lib.hid h64
  have HA := Lib.hid hA
  have HB := Lib.hid hB
  clear H0 hA hB
  go_enter Tryd.func5, Tryd.ntmps5
  go_wp2_with (go_at_call 8; refine (ex_any H.out _ (Past.refl w0)).mono ?_; rintro e w1 ⟨rfl, h1⟩; have H1 := Lib.hid h1; clear h1)
  go_loopw [6, 7] (fun s k wr => ∃ (j : Nat) (D : List UInt8), k = .int .u64 j ∧ s = .string (bsOf D) ∧ DigSt N j D ∧ j ≤ N ∧ Past w0 wr) (fun s k _ => (intOf k).toNat + noneYet s)
  case atStart => exact ⟨N, [], by first | rfl | rw [hN], rfl, dig_start N, Nat.le_refl _, H1.out⟩
  case round =>
    clear H1
    obtain ⟨j, D, rfl, rfl, hdig, hjN, h1⟩ := hrel
    have hj64 : j < 18446744073709551616 := by have := H64.out; omega
    have HD := Lib.hid hdig
    have H1 := Lib.hid h1
    clear hdig h1
    by_cases hlive : 0 < j ∨ D = []
    · have kc := conv_digit j
      have hd1 : (dgS j).size ≤ 1 := Nat.le_refl 1
      have b1 : 0 ≤ (j : Int) % 10 := by omega
      have b2 : (j : Int) % 10 ≤ 9 := by omega
      have HL := Lib.hid hlive
      have hM := noneYet_bs D
      have HM := Lib.hid hM
      clear hM
      obtain ⟨S, hS⟩ : ∃ S, S = bsOf D := ⟨_, rfl⟩
      have hb : S.toList.isEmpty = D.isEmpty := by rw [hS]; exact bs_empty D
      have hz : S.size ≤ 20 := by rw [hS, bs_size]; exact dig_len HD.out H64.out
      have HS := Lib.hid hS
      rw [← hS]
      clear hS
      have hcase : (D = [] ∧ S.toList.isEmpty = true ∧ (S.toList = [] ↔ True)) ∨ (D ≠ [] ∧ S.toList.isEmpty = false ∧ (S.toList = [] ↔ False) ∧ 0 < j) := by
        cases D with
        | nil => exact .inl ⟨rfl, hb, by rw [HS.out, bs_nil]; simp⟩
        | cons a r => exact .inr ⟨by simp, hb, by rw [HS.out, bs_nil]; simp, by rcases hlive with h | h <;> simp_all⟩
      clear hb hlive
      rcases hcase with ⟨hd, f1, f2⟩ | ⟨hd, f1, f2, hj⟩
      all_goals
        have HDD := Lib.hid hd
        clear hd
        go_wp2
        go_roundw
        case rel => exact ⟨j / 10, _, by go_num, by rw [HS.out, bs_cons], dig_step (dig_live HD.out HL.out), by omega, H1.out.alloc _⟩
        case measure =>
          rw [HS.out, bs_cons, noneYet_bs, noneYet_bs]
          have := HDD.out
          simp only [intOf, List.length_cons, List.length_eq_zero_iff]
          first
            | (rw [if_pos this]; simp; omega)
            | (rw [if_neg this]; simp; omega)
    · obtain rfl : j = 0 := by omega
      have hne : D ≠ [] := fun e => hlive (.inr e)
      obtain rfl := dig_end HD.out hne
      have f1 : (bsOf (decDigits N)).toList.isEmpty = false := by
        rw [bs_empty]
        cases e : decDigits N with
        | nil => exact absurd e hne
        | cons => rfl
      have f2 : (bsOf (decDigits N)).toList = [] ↔ False := by rw [bs_nil]; simp [hne]
      clear HD hlive hne
      have hz : (bsOf (decDigits N)).size ≤ 20 := by rw [bs_size]; exact dec_len N H64.out
      obtain ⟨S, hS⟩ : ∃ S, S = bsOf (decDigits N) := ⟨_, rfl⟩
      rw [← hS] at f1 f2 hz
      have HS := Lib.hid hS
      rw [← hS]
      clear hS hjN hj64
      have hz0 : ({ data := #[48] } : ByteArray).size ≤ 1 := Nat.le_refl 1
      have hz1 : ({ data := #[64] } : ByteArray).size ≤ 1 := Nat.le_refl 1
      obtain ⟨Z0, hZ0⟩ : ∃ Z0, { data := #[48] } ++ S = Z0 := ⟨_, rfl⟩
      obtain ⟨Z1, hZ1⟩ : ∃ Z1, { data := #[64] } ++ S = Z1 := ⟨_, rfl⟩
      have HZ0 : Hid (Z0.data.toList = 48 :: decDigits N) := Lib.hid (by rw [← hZ0, HS.out]; simp [bsOf])
      have HZ1 : Hid (Z1.data.toList = 64 :: decDigits N) := Lib.hid (by rw [← hZ1, HS.out]; simp [bsOf])
      have dA : decide ((N : Int) ≤ 9223372036854775808) = true := by have := HA.out; simp; omega
      have dB : decide ((N : Int) ≤ 1000000) = true := by have := HB.out; simp; omega
      go_wp2_with (first
        | (go_at_call 10; ((with_reducible refine (num_all1 N S HS.out HA.out H.out H1.out).mono ?_); rintro e w2 ⟨g, cap, rfl, ht, h2⟩; have HT := Lib.hid ht; have H2 := Lib.hid h2; clear ht h2))
        | (go_at_call 10; ((with_reducible refine (zero_no N H64.out Z0 HZ0.out H.out H2.out).mono ?_); rintro e w3 ⟨rfl, hb, h3⟩; have HT3 := Lib.hid (HT.out.on hb); have H3 := Lib.hid h3; clear hb h3))
        | (go_at_call 10; ((with_reducible refine (tag_ok N HB.out Z1 HZ1.out H.out H3.out).mono ?_); rintro e w4 ⟨g2, cap2, n2, rfl, ht, hb, h4⟩; have q0 := ht.2 0 _ rfl; have q2 := ht.2 2 _ rfl; have t4 := HT3.out.on hb; have p0 := t4.2 0 _ rfl; have p2 := t4.2 2 _ rfl; have H4 := Lib.hid h4; clear ht hb h4 t4)))
      go_ret
      exact ⟨rfl, H4.out⟩
end Go.Proofs.YtgfobalchpcgbaaDoor
