/- The walk of LexSpace: space between two words is passed by, however much. -/
import Derived.Test.YtgfobalchpcgbaaDoorLNames
set_option linter.unusedSimpArgs false
set_option linter.unusedVariables false
namespace Go.Proofs.YtgfobalchpcgbaaDoor
open Go Go.RowKit

/-- Space, at most n bytes. -/
structure Spc (S : ByteArray) (n : Nat) : Prop where
  size : S.size ≤ n
  all : ∀ c ∈ S.data.toList, isSp c = true
theorem spc_start : Spc { data := #[] } 0 := ⟨Nat.le_refl 0, by decide⟩
theorem spc_more {S : ByteArray} {n : Nat} (h : Spc S n) (c : UInt8) (hc : isSp c = true) : Spc (S ++ ⟨#[c]⟩) (n + 1) := by
  have e : (S ++ ⟨#[c]⟩).data.toList = S.data.toList ++ [c] := by simp
  refine ⟨by rw [ByteArray.size_append]; have := h.size; show S.size + 1 ≤ _; omega, fun d hd => ?_⟩
  rw [e, List.mem_append, List.mem_singleton] at hd
  rcases hd with hd | rfl
  · exact h.all d hd
  · exact hc
def SpacePost (w0 : World) (w : World) (e : Ending) (w' : World) : Prop := ∃ S, e = .returned (.string S) ∧ Spc S 10 ∧ Below w.heap.size w w' ∧ Past w0 w'
set_option maxRecDepth 100000 in
set_option maxHeartbeats 4000000 in
theorem space_some (b off len cap : Nat) (z : List Int) {w0 w : World} (hlen : len ≤ 9223372036854775807) (hb : b < w0.heap.size)
    (hc : ∀ i, i < len → w0.cell? ⟨b, off + i, none⟩ = some (.int .u8 (z.getD i 0)) ∧ 0 ≤ z.getD i 0 ∧ z.getD i 0 ≤ 255) (h : Past w0 w) :
    Calls Tryd.prog 13 #[.slice (some ⟨b, off, none⟩) len cap] w (SpacePost w0 w) := by
  have HC := Lib.hid hc
  have HB := Lib.hid hb
  have HP := Lib.hid h
  clear hc hb h
  go_enter Tryd.func13, Tryd.ntmps13
  go_wp2
  go_loopw [3, 4] (fun s i wr => ∃ (k : Nat) (S : ByteArray), k ≤ 10 ∧ k ≤ len ∧ i = .int .i64 k ∧ s = .string S ∧ Spc S k ∧ Below w.heap.size w wr) (fun _ i _ => 11 - (intOf i).toNat)
  case atStart => exact ⟨0, _, by omega, by omega, rfl, rfl, spc_start, Below.refl _ _⟩
  case round =>
    obtain ⟨k, S, hk, hkl, rfl, rfl, hS, h1⟩ := hrel
    have HS := Lib.hid hS
    have H1 := Lib.hid h1
    clear hS h1
    by_cases hlt : k < 10 ∧ k < len
    · obtain ⟨l1, l2⟩ := hlt
      obtain ⟨c1, c2, c3⟩ := HC.out k l2
      have c1' := ((HP.out.on H1.out).cell (p := ⟨b, off + k, none⟩) HB.out).trans c1
      have hbw : b < wr.heap.size := Nat.lt_of_lt_of_le (Nat.lt_of_lt_of_le HB.out HP.out.size) H1.out.size
      have hz := HS.out.size
      have hm : z.getD k 0 % 4 = 0 ∨ z.getD k 0 % 4 = 1 ∨ z.getD k 0 % 4 = 2 ∨ z.getD k 0 % 4 = 3 := by omega
      obtain ⟨x, hx⟩ : ∃ x : Int, x = z.getD k 0 := ⟨_, rfl⟩
      rw [← hx] at c1' c2 c3 hm
      clear c1 hx
      rcases hm with hm | hm | hm | hm
      all_goals
        go_wp2
        go_roundw
        case rel => exact ⟨k + 1, _, by omega, by omega, by go_num, rfl, spc_more HS.out _ (by decide), H1.out.alloc H1.out.size _⟩
        case measure => simp [intOf]; omega
    · have hc : (k < len ∧ ¬ k < 10) ∨ ¬ k < len := by omega
      clear hlt
      rcases hc with ⟨l1, l2⟩ | l1
      all_goals
        go_wp2
        go_ret
        exact ⟨S, rfl, ⟨Nat.le_trans HS.out.size hk, HS.out.all⟩, H1.out, HP.out.on H1.out⟩
theorem space_none (A : Option Addr) (cap : Nat) {w0 w : World} (h : Past w0 w) :
    Calls Tryd.prog 13 #[.slice A 0 cap] w (SpacePost w0 w) := by
  have HP := Lib.hid h
  clear h
  go_enter Tryd.func13, Tryd.ntmps13
  go_wp2
  go_loopw [3, 4] (fun s i wr => i = .int .i64 (0 : Nat) ∧ s = .string { data := #[] } ∧ w = wr) (fun _ i _ => 11 - (intOf i).toNat)
  case atStart => exact ⟨rfl, rfl, rfl⟩
  case round =>
    obtain ⟨rfl, rfl, rfl⟩ := hrel
    go_wp2
    go_ret
    exact ⟨_, rfl, ⟨Nat.zero_le _, spc_start.all⟩, Below.refl _ _, HP.out⟩
theorem space_any (A : Option Addr) (len cap : Nat) (z : List Int) {w0 w : World} (hr : BytesIn w0 A len z) (h : Past w0 w) :
    Calls Tryd.prog 13 #[.slice A len cap] w (SpacePost w0 w) := by
  by_cases hp : 0 < len
  · obtain ⟨b, off, rfl, hb, hc⟩ := hr.2 hp
    exact space_some b off len cap z hr.1 hb hc h
  · obtain rfl : len = 0 := by omega
    exact space_none A cap h
end Go.Proofs.YtgfobalchpcgbaaDoor
