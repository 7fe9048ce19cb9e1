/- The walk of WordDivides: the quotient, and what is left. -/
import Derived.Test.YtbphpbkkafgihaaDoorWLaid
import Derived.OpenShut
namespace Go.Proofs.YtbphpbkkafgihaaDoor
open Go.RowKit

theorem wrap_mul (x y : Int) : wrap64 (wrap64 x * y) = wrap64 (x * y) := by
  obtain ⟨k, hk⟩ : ∃ k, wrap64 x = x - k * 18446744073709551616 := ⟨(x + 9223372036854775808) / 18446744073709551616, by unfold wrap64; omega⟩
  rw [hk, Int.sub_mul, Int.mul_assoc, Int.mul_comm 18446744073709551616 y, ← Int.mul_assoc]
  generalize k * y = q
  generalize x * y = p
  unfold wrap64
  omega
theorem tmod_sign (A B : Int) (hB : B ≠ 0) : (0 ≤ A → 0 ≤ A.tmod B) ∧ (A ≤ 0 → A.tmod B ≤ 0) ∧ A.tmod B < B.natAbs ∧ -(B.natAbs : Int) < A.tmod B := by
  rcases Int.le_total 0 A with h | h
  · rw [Int.tmod_eq_emod_of_nonneg h]
    have h1 := Int.emod_nonneg A hB
    have h2 := Int.emod_lt A hB
    refine ⟨fun _ => h1, fun h' => ?_, h2, by omega⟩
    have : A = 0 := by omega
    subst this
    simp
  · have e : A.tmod B = -((-A) % B) := by
      have : A = -(-A) := by omega
      rw [this, Int.neg_tmod, Int.tmod_eq_emod_of_nonneg (by omega)]
      simp
    rw [e]
    have h1 := Int.emod_nonneg (-A) hB
    have h2 := Int.emod_lt (-A) hB
    refine ⟨fun h' => ?_, fun _ => by omega, by omega, by omega⟩
    have : A = 0 := by omega
    subst this
    simp
theorem div_back (A B : Int) (hA : -9223372036854775808 ≤ A ∧ A ≤ 9223372036854775807) : wrap64 (wrap64 (wrap64 (A.tdiv B) * B) + A.tmod B) = A := by
  have e := Int.mul_tdiv_add_tmod A B
  rw [wrap_mul]
  rw [Int.mul_comm] at e
  generalize A.tdiv B * B = p at e ⊢
  generalize A.tmod B = r at e ⊢
  unfold wrap64
  omega

set_option maxRecDepth 100000 in
set_option maxHeartbeats 2000000 in
theorem divides_core (a b x y A B : Int) (hA : nearV a x = A) (hB : nearV b y = B) (hx : 0 ≤ x ∧ x ≤ 255) (hy : 0 ≤ y ∧ y ≤ 255)
    (rA : -9223372036854775808 ≤ A ∧ A ≤ 9223372036854775807) (rB : -9223372036854775808 ≤ B ∧ B ≤ 9223372036854775807) (w0 : World) (H0 : Pow w0) :
    Calls Tryd.prog 4 #[.int .i64 a, .int .i64 b, .int .u8 x, .int .u8 y] w0 fun e w' => e = .returned (.bool true) ∧ Past w0 w' := by
  have H : Hid (Pow w0) := Lib.hid H0
  clear H0
  have h : Past w0 w0 := Past.refl _
  have HX : Hid (0 ≤ x ∧ x ≤ 255) := Lib.hid hx
  have HY : Hid (0 ≤ y ∧ y ≤ 255) := Lib.hid hy
  clear hx hy
  obtain ⟨Q, e1⟩ : ∃ Q, binV { data := #[47] } A B = Q := ⟨_, rfl⟩
  obtain ⟨R, e2⟩ : ∃ R, binV { data := #[37] } A B = R := ⟨_, rfl⟩
  by_cases hz : B = 0
  · subst hz
    have q1 : binV { data := #[47] } A 0 = 0 := by rw [binV_quotient, if_pos rfl]
    have q2 : binV { data := #[37] } A 0 = 0 := by rw [binV_rest, if_pos rfl]
    have t1 : binT { data := #[47] } 0 = 1 := rfl
    have t2 : binT { data := #[37] } 0 = 1 := rfl
    clear e1 e2 rA rB
    go_enter Tryd.func4, Tryd.ntmps4
    go_wp2_with (first
      | (go_at_call 11; refine (ex_any w0 H.out _ h).mono ?_; clear h; rintro e w ⟨rfl, h⟩)
      | (go_at_call 24; refine (do_on _ _ _ _ (by first | exact h | exact h.alloc _)).mono ?_; clear h; rintro e w ⟨rfl, h⟩)
      | (go_at_call 14; refine (bin_on _ _ _ _ (by first | exact h | exact h.alloc _)).mono ?_; clear h; rintro e w ⟨rfl, h⟩)
      | (go_at_call 13; refine (near_on _ _ (by first | exact HX.out | exact HY.out) _ (by first | exact h | exact h.alloc _)).mono ?_; clear h; rintro e w ⟨rfl, h⟩))
    go_ret
    exact ⟨rfl, h⟩
  · have t1 : binT { data := #[47] } B = 0 := by rw [binT_quotient, if_neg hz]
    have t2 : binT { data := #[37] } B = 0 := by rw [binT_rest, if_neg hz]
    have z1 : (B == 0) = false := by simpa using hz
    have eR : A.tmod B = R := by rw [← e2, binV_rest, if_neg hz]
    obtain ⟨P, e3⟩ : ∃ P, binV { data := #[42] } Q B = P := ⟨_, rfl⟩
    have e4 : binV { data := #[43] } P R = A := by
      rw [← e3, ← e1, ← eR, binV_plus, binV_times, binV_quotient, if_neg hz]
      exact div_back A B rA
    obtain ⟨g1, g2, g3, g4⟩ := tmod_sign A B hz
    have g5 : A = 0 → R = 0 := by intro h; subst h; rw [← eR]; simp
    rw [eR] at g1 g2 g3 g4
    have rR : -9223372036854775808 < R ∧ R ≤ 9223372036854775807 := by omega
    have hl : B = -9223372036854775808 ∨ ((B == -9223372036854775808) = false ∧ binV { data := #[60] } (max R (-R)) (max B (wrap64 (-B))) = 1) := by
      by_cases e : B = -9223372036854775808
      · exact .inl e
      · refine .inr ⟨by simpa using e, ?_⟩
        have : wrap64 (-B) = -B := by unfold wrap64; omega
        rw [this, binV_less]
        have : max R (-R) < max B (-B) := by omega
        simp [this, bit]
    have hs : R = 0 ∨ ((R == 0) = false ∧ ((0 < R ∧ 0 < A) ∨ (R < 0 ∧ A < 0))) := by
      by_cases e : R = 0
      · exact .inl e
      · exact .inr ⟨by simpa using e, by omega⟩
    clear hz eR g1 g2 g3 g4 g5 rA rB
    rcases hs with rfl | ⟨z2, ⟨s1, s2⟩ | ⟨s1, s2⟩⟩
    · clear hl rR
      go_enter Tryd.func4, Tryd.ntmps4
      go_wp2_with (first
        | (go_at_call 11; refine (ex_any w0 H.out _ h).mono ?_; clear h; rintro e w ⟨rfl, h⟩)
        | (go_at_call 24; refine (do_on _ _ _ _ (by first | exact h | exact h.alloc _)).mono ?_; clear h; rintro e w ⟨rfl, h⟩)
        | (go_at_call 14; refine (bin_on _ _ _ _ (by first | exact h | exact h.alloc _)).mono ?_; clear h; rintro e w ⟨rfl, h⟩)
        | (go_at_call 13; refine (near_on _ _ (by first | exact HX.out | exact HY.out) _ (by first | exact h | exact h.alloc _)).mono ?_; clear h; rintro e w ⟨rfl, h⟩))
      go_ret
      exact ⟨rfl, h⟩
    · rcases hl with rfl | ⟨l1, l2⟩
      all_goals
        go_enter Tryd.func4, Tryd.ntmps4
        go_wp2_with (first
          | (go_at_call 11; refine (ex_any w0 H.out _ h).mono ?_; clear h; rintro e w ⟨rfl, h⟩)
          | (go_at_call 24; refine (do_on _ _ _ _ (by first | exact h | exact h.alloc _)).mono ?_; clear h; rintro e w ⟨rfl, h⟩)
          | (go_at_call 14; refine (bin_on _ _ _ _ (by first | exact h | exact h.alloc _)).mono ?_; clear h; rintro e w ⟨rfl, h⟩)
          | (go_at_call 13; refine (near_on _ _ (by first | exact HX.out | exact HY.out) _ (by first | exact h | exact h.alloc _)).mono ?_; clear h; rintro e w ⟨rfl, h⟩))
        go_ret
        exact ⟨rfl, h⟩
    · rcases hl with rfl | ⟨l1, l2⟩
      all_goals
        go_enter Tryd.func4, Tryd.ntmps4
        go_wp2_with (first
          | (go_at_call 11; refine (ex_any w0 H.out _ h).mono ?_; clear h; rintro e w ⟨rfl, h⟩)
          | (go_at_call 24; refine (do_on _ _ _ _ (by first | exact h | exact h.alloc _)).mono ?_; clear h; rintro e w ⟨rfl, h⟩)
          | (go_at_call 14; refine (bin_on _ _ _ _ (by first | exact h | exact h.alloc _)).mono ?_; clear h; rintro e w ⟨rfl, h⟩)
          | (go_at_call 13; refine (near_on _ _ (by first | exact HX.out | exact HY.out) _ (by first | exact h | exact h.alloc _)).mono ?_; clear h; rintro e w ⟨rfl, h⟩))
        go_ret
        exact ⟨rfl, h⟩

theorem wordDivides_walk (a0 a1 a2 a3 : Int) (w0 : (Lit.int .i64 a0).wf = true) (w1 : (Lit.int .i64 a1).wf = true) (w2 : (Lit.int .u8 a2).wf = true) (w3 : (Lit.int .u8 a3).wf = true) (w : World) (H : Pow w) :
    Calls Tryd.prog 4 #[.int .i64 a0, .int .i64 a1, .int .u8 a2, .int .u8 a3] w fun e w' => e = .returned (.bool true) ∧ Below w.heap.size w w' :=
  divides_core a0 a1 a2 a3 _ _ rfl rfl (bounds_u8 w2) (bounds_u8 w3) (nearV_range _ _ (bounds_i64 w0)) (nearV_range _ _ (bounds_i64 w1)) w H
end Go.Proofs.YtbphpbkkafgihaaDoor
