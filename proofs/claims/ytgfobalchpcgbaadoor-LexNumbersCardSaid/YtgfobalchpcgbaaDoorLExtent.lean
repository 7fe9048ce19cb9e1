/- lex.extent: how many bytes such stand at the beginning of a text. -/
import Derived.Test.YtgfobalchpcgbaaDoorLBytes
namespace Go.Proofs.YtgfobalchpcgbaaDoor
open Go Go.RowKit

def twI (p : UInt8 → Bool) (s : ByteArray) : Int := ((s.data.toList.takeWhile p).length : Nat)
theorem twI_bd (p : UInt8 → Bool) (s : ByteArray) : 0 ≤ twI p s ∧ twI p s ≤ s.size := by
  have h := (List.takeWhile_prefix p (l := s.data.toList)).length_le
  have e : s.data.toList.length = s.size := by simp
  unfold twI; omega
/-- The first k bytes are such. -/
def SoFar (p : UInt8 → Bool) (s : ByteArray) (k : Nat) : Prop := (s.data.toList.takeWhile p).length = k + ((s.data.toList.drop k).takeWhile p).length
theorem soFar_zero (p : UInt8 → Bool) (s : ByteArray) : SoFar p s 0 := by unfold SoFar; simp
theorem soFar_succ {p : UInt8 → Bool} {s : ByteArray} {k : Nat} (h : SoFar p s k) (hk : k < s.size) (hp : p s[k] = true) : SoFar p s (k + 1) := by
  have hk' : k < s.data.toList.length := by simpa using hk
  unfold SoFar at h ⊢
  rw [List.drop_eq_getElem_cons hk', List.takeWhile_cons_of_pos (by exact hp)] at h
  rw [h, List.length_cons]; omega
theorem soFar_stop {p : UInt8 → Bool} {s : ByteArray} {k : Nat} (h : SoFar p s k) (hk : k < s.size) (hp : p s[k] = false) : twI p s = (k : Int) := by
  have hk' : k < s.data.toList.length := by simpa using hk
  have hp' : p (s.data.toList[k]) = false := hp
  unfold SoFar at h
  rw [List.drop_eq_getElem_cons hk', List.takeWhile_cons_of_neg (by rw [hp']; simp)] at h
  unfold twI; rw [h]; simp
theorem soFar_end {p : UInt8 → Bool} {s : ByteArray} (h : SoFar p s s.size) : twI p s = (s.size : Int) := by
  unfold SoFar at h
  rw [List.drop_of_length_le (by simp)] at h
  unfold twI; rw [h]; simp

set_option maxHeartbeats 400000 in
theorem extent_sp (s : ByteArray) (hs : s.size ≤ 9223372036854775807) (w : World) :
    Calls Tryd.prog 20 #[.string s, .func (.func 32) #[] #[]] w fun e w' => e = .returned (.int .i64 (twI isSp s)) ∧ w = w' := by
  go_enter Tryd.func20, Tryd.ntmps20
  go_wp2
  go_loop [8] (fun i => ∃ k : Nat, k ≤ s.size ∧ i = .int .i64 k ∧ SoFar isSp s k) (fun i => s.size - (intOf i).toNat)
  case atStart => exact ⟨0, Nat.zero_le _, rfl, soFar_zero _ _⟩
  case round =>
    obtain ⟨k, hk, rfl, hso⟩ := hrel
    by_cases hlt : k < s.size
    · cases hp : isSp s[k]
      · have hq : spI (s[k].toNat : Int) = false := by rw [spI_nat]; exact hp
        have hz := Lib.hid (soFar_stop hso hlt hp)
        clear hp hso
        go_wp2_with (go_at_call 32; refine (isSpace_any _ _).mono ?_; rintro e w' ⟨rfl, rfl⟩)
        go_ret
        exact ⟨by rw [hz.out]; rfl, rfl⟩
      · have hq : spI (s[k].toNat : Int) = true := by rw [spI_nat]; exact hp
        have hz := Lib.hid (soFar_succ hso hlt hp)
        clear hp hso
        go_wp2_with (go_at_call 32; refine (isSpace_any _ _).mono ?_; rintro e w' ⟨rfl, rfl⟩)
        go_round
        case rel => exact ⟨k + 1, by omega, by go_num, hz.out⟩
        case measure => simp [intOf]; omega
    · obtain rfl : k = s.size := by omega
      have hz := Lib.hid (soFar_end hso)
      clear hso
      go_wp2
      go_ret
      exact ⟨by rw [hz.out]; rfl, rfl⟩
set_option maxHeartbeats 400000 in
theorem extent_dg (s : ByteArray) (hs : s.size ≤ 9223372036854775807) (w : World) :
    Calls Tryd.prog 20 #[.string s, .func (.func 33) #[] #[]] w fun e w' => e = .returned (.int .i64 (twI isDg s)) ∧ w = w' := by
  go_enter Tryd.func20, Tryd.ntmps20
  go_wp2
  go_loop [8] (fun i => ∃ k : Nat, k ≤ s.size ∧ i = .int .i64 k ∧ SoFar isDg s k) (fun i => s.size - (intOf i).toNat)
  case atStart => exact ⟨0, Nat.zero_le _, rfl, soFar_zero _ _⟩
  case round =>
    obtain ⟨k, hk, rfl, hso⟩ := hrel
    by_cases hlt : k < s.size
    · cases hp : isDg s[k]
      · have hq : dgI (s[k].toNat : Int) = false := by rw [dgI_nat]; exact hp
        have hz := Lib.hid (soFar_stop hso hlt hp)
        clear hp hso
        go_wp2_with (go_at_call 33; refine (isDigit_any _ _).mono ?_; rintro e w' ⟨rfl, rfl⟩)
        go_ret
        exact ⟨by rw [hz.out]; rfl, rfl⟩
      · have hq : dgI (s[k].toNat : Int) = true := by rw [dgI_nat]; exact hp
        have hz := Lib.hid (soFar_succ hso hlt hp)
        clear hp hso
        go_wp2_with (go_at_call 33; refine (isDigit_any _ _).mono ?_; rintro e w' ⟨rfl, rfl⟩)
        go_round
        case rel => exact ⟨k + 1, by omega, by go_num, hz.out⟩
        case measure => simp [intOf]; omega
    · obtain rfl : k = s.size := by omega
      have hz := Lib.hid (soFar_end hso)
      clear hso
      go_wp2
      go_ret
      exact ⟨by rw [hz.out]; rfl, rfl⟩
set_option maxHeartbeats 400000 in
theorem extent_pt (s : ByteArray) (hs : s.size ≤ 9223372036854775807) (w : World) :
    Calls Tryd.prog 20 #[.string s, .func (.func 21) #[] #[]] w fun e w' => e = .returned (.int .i64 (twI isPt s)) ∧ w = w' := by
  go_enter Tryd.func20, Tryd.ntmps20
  go_wp2
  go_loop [8] (fun i => ∃ k : Nat, k ≤ s.size ∧ i = .int .i64 k ∧ SoFar isPt s k) (fun i => s.size - (intOf i).toNat)
  case atStart => exact ⟨0, Nat.zero_le _, rfl, soFar_zero _ _⟩
  case round =>
    obtain ⟨k, hk, rfl, hso⟩ := hrel
    by_cases hlt : k < s.size
    · cases hp : isPt s[k]
      · have hq : ptI (s[k].toNat : Int) = false := by rw [ptI_nat]; exact hp
        have hz := Lib.hid (soFar_stop hso hlt hp)
        clear hp hso
        go_wp2_with (go_at_call 21; refine (isPart_any _ _).mono ?_; rintro e w' ⟨rfl, rfl⟩)
        go_ret
        exact ⟨by rw [hz.out]; rfl, rfl⟩
      · have hq : ptI (s[k].toNat : Int) = true := by rw [ptI_nat]; exact hp
        have hz := Lib.hid (soFar_succ hso hlt hp)
        clear hp hso
        go_wp2_with (go_at_call 21; refine (isPart_any _ _).mono ?_; rintro e w' ⟨rfl, rfl⟩)
        go_round
        case rel => exact ⟨k + 1, by omega, by go_num, hz.out⟩
        case measure => simp [intOf]; omega
    · obtain rfl : k = s.size := by omega
      have hz := Lib.hid (soFar_end hso)
      clear hso
      go_wp2
      go_ret
      exact ⟨by rw [hz.out]; rfl, rfl⟩
end Go.Proofs.YtgfobalchpcgbaaDoor
