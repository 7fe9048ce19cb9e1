/- The walk of WordTexts: a number is told in digits that come to it again, with no 0 ahead. -/
import Derived.Test.YtbphpbkkafgihaaDoorWLaid
import Derived.Test.YtbphpbkkafgihaaDoorWTxt
import Derived.OpenShut
import Derived.Deep.RegionWith
import Derived.PlainAid
import Derived.Lib.Strings
import Derived.Lib.Split
namespace Go.Proofs.YtbphpbkkafgihaaDoor
open Go.RowKit Go.PlainAid

theorem Past.drew {w0 w : World} (h : Past w0 w) : Past w0 w.drew := Below.drew h
/-- What m is at byte k. -/
def valV (d : ByteArray) (k : Nat) : Int := valL (d.data.toList.take k)
theorem valV_zero (d : ByteArray) : valV d 0 = 0 := rfl
/-- What the walk is told of the digits d of the number v. -/
structure Digits (d : ByteArray) (v : Int) : Prop where
  pos : 0 < d.size
  lo : ∀ k, k < d.size → 48 ≤ bt d k
  hi : ∀ k, k < d.size → bt d k ≤ 57
  head : 1 < d.size → bt d 0 ≠ 48
  val : valV d d.size = v
  step : ∀ k, k < d.size → valV d (k + 1) = wrap64 (wrap64 (valV d k * 10) + (bt d k - 48))
theorem Digits.text {d : ByteArray} {v : Int} (h : Digits d v) : (d.toList = [] ↔ False) ∧ d.toList.isEmpty = false := by
  have s1 : d.toList = [] ↔ False := by
    have := h.pos
    rw [ByteArray.toList_eq]
    constructor
    · intro e
      have e2 : d.data.toList.length = 0 := by rw [e]; rfl
      have e3 : d.data.toList.length = d.size := by simp
      omega
    · exact False.elim
  refine ⟨s1, ?_⟩
  cases e : d.toList with
  | nil => exact absurd (s1.1 e) (by simp)
  | cons => rfl

set_option maxRecDepth 100000 in
set_option maxHeartbeats 2000000 in
theorem texts_nonneg (n x N : Int) (hN : nearV n x = N) (hx : 0 ≤ x ∧ x ≤ 255) (hr : -9223372036854775808 ≤ N ∧ N ≤ 9223372036854775807)
    (s : ByteArray) (es : txt N = s) (hd : Digits s N) (h0 : ¬ N < 0) (hsz : s.size ≤ 9223372036854775807) (w0 : World) (H0 : Pow w0) :
    Calls Tryd.prog 8 #[.int .i64 n, .int .u8 x] w0 fun e w' => e = .returned (.bool true) ∧ Past w0 w' := by
  have H : Hid (Pow w0) := Lib.hid H0
  clear H0
  have h : Past w0 w0 := Past.refl _
  have HX : Hid (0 ≤ x ∧ x ≤ 255) := Lib.hid hx
  have HR : Hid (-9223372036854775808 ≤ N ∧ N ≤ 9223372036854775807) := Lib.hid hr
  have HD : Hid (Digits s N) := Lib.hid hd
  obtain ⟨s1, s2⟩ := hd.text
  have p0 := hd.pos
  have hb := get_bt s
  have b0 : (bt s 0 == 45) = false := by have := hd.lo 0 hd.pos; simp; omega
  have hc : ¬ 1 < s.size ∨ (1 < s.size ∧ (bt s 0 == 48) = false) := by
    by_cases e : 1 < s.size
    · exact .inr ⟨e, by simpa using hd.head e⟩
    · exact .inl e
  clear hd hx hr
  rcases hc with hc | ⟨hc, c0⟩
  all_goals
    go_enter Tryd.func8, Tryd.ntmps8
    go_wp2_with (first
      | (go_at_call 11; refine (ex_any w0 H.out _ h).mono ?_; clear h; rintro e w ⟨rfl, h⟩)
      | (go_at_call 13; refine (near_on _ _ HX.out _ h).mono ?_; clear h; rintro e w ⟨rfl, h⟩)
      | (go_at_call 22; refine (text_on _ HR.out.1 HR.out.2 _ h H.out).mono ?_; clear h; rintro e w ⟨rfl, h⟩))
    go_loopw [8, 9] (fun m i wr => ∃ k : Nat, k ≤ s.size ∧ i = .int .i64 k ∧ m = .int .i64 (valV s k) ∧ Past w0 wr) (fun _ i _ => s.size - (intOf i).toNat)
    case atStart => exact ⟨0, Nat.zero_le _, rfl, by rw [valV_zero]; try rfl, h⟩
    case round =>
      clear h
      obtain ⟨k, hk, rfl, rfl, h⟩ := hrel
      by_cases hlt : k < s.size
      · have c1 := HD.out.lo k hlt
        have c2 := HD.out.hi k hlt
        have HS : Hid (binV { data := #[43] } (binV { data := #[42] } (valV s k) 10) (bt s k - 48) = valV s (k + 1)) := Lib.hid (by rw [HD.out.step k hlt]; rfl)
        go_wp2
        go_region_with (go_at_call 24; refine (do_on (w0 := w0) _ _ _ _ (by first | exact h | exact h.drew | exact h.drew.drew | assumption | exact Past.drew (by assumption))).mono ?_; rintro e w1 ⟨rfl, h1⟩)
        all_goals
          go_wp2
          go_roundw
          case rel => exact ⟨k + 1, by omega, by go_num, by rw [← HS.out], by first | assumption | exact Past.drew (by assumption)⟩
          case measure => simp [intOf]; omega
      · obtain rfl : k = s.size := by omega
        have ev := HD.out.val
        have dn : decide (N < 0) = false := by simpa using h0
        go_wp2
        go_ret
        exact ⟨rfl, h⟩


set_option maxRecDepth 100000 in
set_option maxHeartbeats 2000000 in
theorem texts_neg (n x N M : Int) (hN : nearV n x = N) (hx : 0 ≤ x ∧ x ≤ 255) (hr : -9223372036854775808 ≤ N ∧ N ≤ 9223372036854775807)
    (s d : ByteArray) (es : txt N = s) (b0 : (bt s 0 == 45) = true) (q1 : 1 < s.size) (ed : s.extract 1 s.size = d) (hd : Digits d M) (hm : binV { data := #[45] } 0 M = N) (h0 : N < 0) (hsz : s.size ≤ 9223372036854775807) (hdz : d.size ≤ 9223372036854775807) (w0 : World) (H0 : Pow w0) :
    Calls Tryd.prog 8 #[.int .i64 n, .int .u8 x] w0 fun e w' => e = .returned (.bool true) ∧ Past w0 w' := by
  have H : Hid (Pow w0) := Lib.hid H0
  clear H0
  have h : Past w0 w0 := Past.refl _
  have HX : Hid (0 ≤ x ∧ x ≤ 255) := Lib.hid hx
  have HR : Hid (-9223372036854775808 ≤ N ∧ N ≤ 9223372036854775807) := Lib.hid hr
  have HD : Hid (Digits d M) := Lib.hid hd
  obtain ⟨s1, s2⟩ : (s.toList = [] ↔ False) ∧ s.toList.isEmpty = false := by
    have e3 : s.toList.length = s.size := by rw [ByteArray.toList_eq]; simp
    cases e : s.toList with
    | nil => rw [e] at e3; simp at e3; omega
    | cons => exact ⟨by simp, rfl⟩
  obtain ⟨d1, d2⟩ := hd.text
  have p0 := hd.pos
  have hb := get_bt s
  have hbd := get_bt d
  have hc : ¬ 1 < d.size ∨ (1 < d.size ∧ (bt d 0 == 48) = false) := by
    by_cases e : 1 < d.size
    · exact .inr ⟨e, by simpa using hd.head e⟩
    · exact .inl e
  clear hd hx hr
  rcases hc with hc | ⟨hc, c0⟩
  all_goals
    go_enter Tryd.func8, Tryd.ntmps8
    go_wp2_with (first
      | (go_at_call 11; refine (ex_any w0 H.out _ h).mono ?_; clear h; rintro e w ⟨rfl, h⟩)
      | (go_at_call 13; refine (near_on _ _ HX.out _ h).mono ?_; clear h; rintro e w ⟨rfl, h⟩)
      | (go_at_call 22; refine (text_on _ HR.out.1 HR.out.2 _ h H.out).mono ?_; clear h; rintro e w ⟨rfl, h⟩))
    go_loopw [8, 9] (fun m i wr => ∃ k : Nat, k ≤ d.size ∧ i = .int .i64 k ∧ m = .int .i64 (valV d k) ∧ Past w0 wr) (fun _ i _ => d.size - (intOf i).toNat)
    case atStart => exact ⟨0, Nat.zero_le _, rfl, by rw [valV_zero]; try rfl, h⟩
    case round =>
      clear h
      obtain ⟨k, hk, rfl, rfl, h⟩ := hrel
      by_cases hlt : k < d.size
      · have c1 := HD.out.lo k hlt
        have c2 := HD.out.hi k hlt
        have HS : Hid (binV { data := #[43] } (binV { data := #[42] } (valV d k) 10) (bt d k - 48) = valV d (k + 1)) := Lib.hid (by rw [HD.out.step k hlt]; rfl)
        go_wp2
        go_region_with (go_at_call 24; refine (do_on (w0 := w0) _ _ _ _ (by first | exact h | exact h.drew | exact h.drew.drew | assumption | exact Past.drew (by assumption))).mono ?_; rintro e w1 ⟨rfl, h1⟩)
        all_goals
          go_wp2
          go_roundw
          case rel => exact ⟨k + 1, by omega, by go_num, by rw [← HS.out], by first | assumption | exact Past.drew (by assumption)⟩
          case measure => simp [intOf]; omega
      · obtain rfl : k = d.size := by omega
        have ev := HD.out.val
        have dn : decide (N < 0) = true := by simpa using h0
        go_wp2_with (go_at_call 24; refine (do_on (w0 := w0) _ _ _ _ h).mono ?_; clear h; rintro e w1 ⟨rfl, h⟩)
        go_ret
        exact ⟨rfl, h⟩


theorem digits_len (u : Nat) : (Lib.decDigits u).length ≤ u / 10 + 1 := by
  induction u using Nat.strongRecOn with
  | ind u ih =>
    rw [Lib.decDigits]
    split
    · simp
    · rename_i h
      have := ih (u / 10) (by omega)
      simp
      omega
theorem size_mk (l : List UInt8) : (ByteArray.mk l.toArray).size = l.length := by
  show l.toArray.size = l.length
  simp
theorem bt_mk (l : List UInt8) (k : Nat) (hk : k < l.length) : bt ⟨l.toArray⟩ k = (l[k].toNat : Int) := by
  have hk' : k < (ByteArray.mk l.toArray).size := by rw [size_mk]; exact hk
  rw [← get_bt _ k hk']
  rfl
theorem digits_of (u : Nat) : Digits ⟨(Lib.decDigits u).toArray⟩ (wrap64 (u : Int)) := by
  have hl := size_mk (Lib.decDigits u)
  have hne := digits_ne u
  have hp : 0 < (Lib.decDigits u).length := by
    cases e : Lib.decDigits u with
    | nil => exact absurd e hne
    | cons => simp
  refine ⟨by omega, fun k hk => ?_, fun k hk => ?_, fun h1 => ?_, ?_, fun k hk => ?_⟩
  · rw [bt_mk _ k (by omega)]
    have := digits_all u _ (List.getElem_mem (show k < (Lib.decDigits u).length by omega))
    omega
  · rw [bt_mk _ k (by omega)]
    have := digits_all u _ (List.getElem_mem (show k < (Lib.decDigits u).length by omega))
    omega
  · have h10 : ¬ u < 10 := fun e => by have := digits_one u e; omega
    obtain ⟨c, r, e, hc⟩ := digits_head u (by omega)
    rw [bt_mk _ 0 hp]
    have : (Lib.decDigits u)[0] = c := by simp [e]
    rw [this]
    omega
  · unfold valV
    rw [hl]
    have : (ByteArray.mk (Lib.decDigits u).toArray).data.toList = Lib.decDigits u := rfl
    rw [this, List.take_length, digits_val]
  · unfold valV
    have e : (ByteArray.mk (Lib.decDigits u).toArray).data.toList = Lib.decDigits u := rfl
    rw [e, List.take_succ_eq_append_getElem (by omega), valL_snoc, bt_mk _ k (by omega)]
    rfl
theorem wordTexts_walk (a0 a1 : Int) (w0 : (Lit.int .i64 a0).wf = true) (w1 : (Lit.int .u8 a1).wf = true) (w : World) (H : Pow w) :
    Calls Tryd.prog 8 #[.int .i64 a0, .int .u8 a1] w fun e w' => e = .returned (.bool true) ∧ Below w.heap.size w w' := by
  have hr := nearV_range a0 a1 (bounds_i64 w0)
  obtain ⟨N, hN⟩ : ∃ N, nearV a0 a1 = N := ⟨_, rfl⟩
  rw [hN] at hr
  by_cases h0 : N < 0
  · have es : txt N = ⟨(45 :: Lib.decDigits N.natAbs).toArray⟩ := by unfold txt Lib.itoa; rw [if_pos h0]
    have hl := digits_len N.natAbs
    have hp := (digits_of N.natAbs).pos
    have hz := size_mk (45 :: Lib.decDigits N.natAbs)
    rw [List.length_cons] at hz
    have hz2 := size_mk (Lib.decDigits N.natAbs)
    refine texts_neg a0 a1 N _ hN (bounds_u8 w1) hr _ ⟨(Lib.decDigits N.natAbs).toArray⟩ es ?_ (by omega) ?_ (digits_of N.natAbs) ?_ h0 (by omega) (by omega) w H
    · rw [bt_mk _ 0 (by simp)]; rfl
    · apply of_list
      rw [Lib.extract_to_end]
      rfl
    · rw [binV_minus]
      unfold wrap64
      omega
  · have es : txt N = ⟨(Lib.decDigits N.toNat).toArray⟩ := by unfold txt Lib.itoa; rw [if_neg h0]
    have hl := digits_len N.toNat
    have hz2 := size_mk (Lib.decDigits N.toNat)
    have hd := digits_of N.toNat
    rw [show wrap64 (N.toNat : Int) = N by unfold wrap64; omega] at hd
    exact texts_nonneg a0 a1 N hN (bounds_u8 w1) hr _ es hd h0 (by omega) w H
end Go.Proofs.YtbphpbkkafgihaaDoor
