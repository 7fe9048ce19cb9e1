/- lex.value: the number that digits are. -/
import Derived.Test.YtgfobalchpcgbaaDoorLTake
namespace Go.Proofs.YtgfobalchpcgbaaDoor
open Go Go.RowKit

def valN (most : Nat) (l : List UInt8) : Int := ((numOf most l).getD 0 : Nat)
def valB (most : Nat) (l : List UInt8) : Bool := (numOf most l).isSome
def Parsed (u : Int) (w : World) (e : Ending) (w' : World) : Prop := e = .returned (.tuple #[.int .u64 u, .nilIface]) ∧ Below w.heap.size w w'
def Unparsed (w : World) (e : Ending) (w' : World) : Prop := ∃ (v : Int) (a : Value), e = .returned (.tuple #[.int .u64 v, .iface 65 a]) ∧ Below w.heap.size w w'
theorem ba_len (s : ByteArray) : s.data.toList.length = s.size := by simp
section
variable {w : World}
theorem parse_ok (s : ByteArray) (hz : s.size ≤ 281474976710656) (u : Nat) (h : Lib.parseUintB 64 s.data.toList = .ok u) :
    Calls Tryd.prog 37 #[.string s, .int .i64 10, .int .i64 64] w (Parsed u w) :=
  (Tryd.strconv_ParseUint_10_at64_ok s (by omega) u h w).mono fun e w' ⟨he, hw⟩ => ⟨he, by
    rcases hw with rfl | rfl
    · exact Below.refl _ _
    · exact Lib.bytesWorld_below _ _ _⟩
theorem parse_no (s : ByteArray) (hz : s.size ≤ 281474976710656) (h : ∀ u, Lib.parseUintB 64 s.data.toList ≠ .ok u) (H : Errs w) :
    Calls Tryd.prog 37 #[.string s, .int .i64 10, .int .i64 64] w (Unparsed w) := by
  obtain ⟨⟨t1, p1, h1⟩, ⟨t2, p2, h2⟩⟩ := H
  rcases e : Lib.parseUintB 64 s.data.toList with u | _ | _
  · exact absurd e (h u)
  · exact (Any.strconv_ParseUint_10_at64_syntax_var Tryd.laysPu14 s hz e t1 p1 w h1).mono fun e w' ⟨N, he, _, _, hb⟩ => ⟨_, _, he, hb⟩
  · exact (Any.strconv_ParseUint_10_at64_range_var Tryd.laysPu14 s hz e t2 p2 w h2).mono fun e w' ⟨N, he, _, _, hb⟩ => ⟨_, _, he, hb⟩

def Valued (most : Nat) (l : List UInt8) (w : World) (e : Ending) (w' : World) : Prop := e = .returned (.tuple #[.int .u64 (valN most l), .bool (valB most l)]) ∧ Below w.heap.size w w'
theorem valued_none {most : Nat} {l : List UInt8} {w' : World} (h : numOf most l = none) (hb : Below w.heap.size w w') : Valued most l w (.returned (.tuple #[.int .u64 0, .bool false])) w' := by
  unfold Valued valN valB; rw [h]; exact ⟨rfl, hb⟩
theorem valued_some {most u : Nat} {l : List UInt8} {w' : World} (h : numOf most l = some u) (hb : Below w.heap.size w w') : Valued most l w (.returned (.tuple #[.int .u64 u, .bool true])) w' := by
  unfold Valued valN valB; rw [h]; exact ⟨rfl, hb⟩
theorem head_byte (s : ByteArray) (h : 1 < s.size) : s.data.toList.head? = some (s[0]'(by omega)) := by
  have : 0 < s.data.toList.length := by simp; omega
  rw [List.head?_eq_getElem?, List.getElem?_eq_getElem this]
  rfl
set_option maxRecDepth 100000 in
set_option maxHeartbeats 1000000 in
theorem value_any (s : ByteArray) (M : Int) (most : Nat) (hM : M = (most : Int)) (hz : s.size ≤ 281474976710656) (H : Errs w) :
    Calls Tryd.prog 35 #[.string s, .int .u64 M] w (Valued most s.data.toList w) := by
  have HH := Lib.hid H
  have HZ := Lib.hid hz
  by_cases h0 : 1 < s.size ∧ s.data.toList.head? = some 48
  · have HN : Hid (numOf most s.data.toList = none) := Lib.hid (by unfold numOf; rw [if_pos (by rw [ba_len]; exact h0)])
    obtain ⟨h1, h2⟩ := h0
    have h3 : ((s[0]'(by omega)).toNat : Int) = 48 := by
      rw [head_byte s h1, Option.some.injEq] at h2
      rw [h2]; rfl
    have h4 : (((s[0]'(by omega)).toNat : Int) == 48) = true := by rw [h3]; rfl
    clear h2 h3
    go_enter Tryd.func35, Tryd.ntmps35
    go_wp2
    all_goals first | (exfalso; omega) | (go_ret2; exact valued_none HN.out (Below.refl _ _))
  · have hc : ¬ 1 < s.size ∨ (1 < s.size ∧ ∀ h : 1 < s.size, (((s[0]'(by omega)).toNat : Int) == 48) = false) := by
      by_cases h1 : 1 < s.size
      · refine .inr ⟨h1, fun h => ?_⟩
        have h2 : ¬ s.data.toList.head? = some 48 := fun e => h0 ⟨h1, e⟩
        rw [head_byte s h1, Option.some.injEq] at h2
        simp only [beq_eq_false_iff_ne, ne_eq]
        intro e
        exact h2 (UInt8.toNat_inj.1 (by have : (48 : UInt8).toNat = 48 := rfl; omega))
      · exact .inl h1
    have e0 : numOf most s.data.toList = match Lib.parseUintB 64 s.data.toList with | .ok u => if most < u then none else some u | _ => none := by
      unfold numOf; rw [if_neg (by rw [ba_len]; exact h0)]; cases Lib.parseUintB 64 s.data.toList <;> rfl
    clear h0
    by_cases hp : ∃ u, Lib.parseUintB 64 s.data.toList = .ok u
    · obtain ⟨u, hp⟩ := hp
      rw [hp] at e0
      simp only at e0
      have HP := Lib.hid hp
      clear hp
      by_cases hm : M < (u : Int)
      · have HN : Hid (numOf most s.data.toList = none) := Lib.hid (by rw [e0, if_pos (by omega)])
        clear e0 hM
        rcases hc with hc | ⟨hc, hd⟩
        · go_enter Tryd.func35, Tryd.ntmps35
          go_wp2_with (go_at_call 37; refine (parse_ok s HZ.out u HP.out).mono ?_; rintro e w' ⟨rfl, hb⟩)
          all_goals first | (exfalso; omega) | (go_ret2; exact valued_none HN.out hb)
        · have hd' := hd hc
          clear hd
          go_enter Tryd.func35, Tryd.ntmps35
          go_wp2_with (go_at_call 37; refine (parse_ok s HZ.out u HP.out).mono ?_; rintro e w' ⟨rfl, hb⟩)
          all_goals first | (exfalso; omega) | (go_ret2; exact valued_none HN.out hb)
      · have HN : Hid (numOf most s.data.toList = some u) := Lib.hid (by rw [e0, if_neg (by omega)])
        clear e0 hM
        rcases hc with hc | ⟨hc, hd⟩
        · go_enter Tryd.func35, Tryd.ntmps35
          go_wp2_with (go_at_call 37; refine (parse_ok s HZ.out u HP.out).mono ?_; rintro e w' ⟨rfl, hb⟩)
          all_goals first | (exfalso; omega) | (go_ret2; exact valued_some HN.out hb)
        · have hd' := hd hc
          clear hd
          go_enter Tryd.func35, Tryd.ntmps35
          go_wp2_with (go_at_call 37; refine (parse_ok s HZ.out u HP.out).mono ?_; rintro e w' ⟨rfl, hb⟩)
          all_goals first | (exfalso; omega) | (go_ret2; exact valued_some HN.out hb)
    · have hp' : ∀ u, Lib.parseUintB 64 s.data.toList ≠ .ok u := fun u e => hp ⟨u, e⟩
      have HP := Lib.hid hp'
      have HN : Hid (numOf most s.data.toList = none) := Lib.hid (by
        rw [e0]
        rcases e : Lib.parseUintB 64 s.data.toList with u | _ | _
        · exact absurd e (hp' u)
        · rfl
        · rfl)
      clear hp hp' e0 hM
      rcases hc with hc | ⟨hc, hd⟩
      · go_enter Tryd.func35, Tryd.ntmps35
        go_wp2_with (go_at_call 37; refine (parse_no s HZ.out HP.out HH.out).mono ?_; rintro e w' ⟨v, a, rfl, hb⟩)
        all_goals first | (exfalso; omega) | (go_ret2; exact valued_none HN.out hb)
      · have hd' := hd hc
        clear hd
        go_enter Tryd.func35, Tryd.ntmps35
        go_wp2_with (go_at_call 37; refine (parse_no s HZ.out HP.out HH.out).mono ?_; rintro e w' ⟨v, a, rfl, hb⟩)
        all_goals first | (exfalso; omega) | (go_ret2; exact valued_none HN.out hb)
end
end Go.Proofs.YtgfobalchpcgbaaDoor
