/- The walk of WordLevels: each operation has a level from 1 to 10, no less than one ahead of it; no other text has one. -/
import Derived.Test.YtbphpbkkafgihaaDoorWOps
namespace Go.Proofs.YtbphpbkkafgihaaDoor
open Go.RowKit

def lastV : Nat → Int
  | 0 => 1
  | k + 1 => levelV (opAt k)
def thereV (s : ByteArray) : Nat → Bool
  | 0 => false
  | k + 1 => thereV s k || ((opAt k).toList == s.toList)
theorem last_facts : ∀ k, k < 18 → lastV k ≤ levelV (opAt k) ∧ levelV (opAt k) ≤ 10 := by
  have : ∀ k : Fin 18, decide (lastV k.val ≤ levelV (opAt k.val)) = true ∧ decide (levelV (opAt k.val) ≤ 10) = true := by decide +kernel
  intro k hk
  have := this ⟨k, hk⟩
  simpa using this
theorem not_list' {s : ByteArray} {l : List UInt8} (h : ¬ s.data.toList = l) : ((ByteArray.mk l.toArray).toList == s.toList) = false := by
  rw [ByteArray.toList_eq s, ByteArray.toList_mk]; simpa using fun e : l = _ => h e.symm
theorem there_any (s : ByteArray) : thereV s 18 = decide (0 < levelV s) := by
  by_cases h0 : s.data.toList = [124, 124]
  · obtain rfl := of_list h0
    decide +kernel
  by_cases h1 : s.data.toList = [38, 38]
  · obtain rfl := of_list h1
    decide +kernel
  by_cases h2 : s.data.toList = [124]
  · obtain rfl := of_list h2
    decide +kernel
  by_cases h3 : s.data.toList = [94]
  · obtain rfl := of_list h3
    decide +kernel
  by_cases h4 : s.data.toList = [38]
  · obtain rfl := of_list h4
    decide +kernel
  by_cases h5 : s.data.toList = [61, 61]
  · obtain rfl := of_list h5
    decide +kernel
  by_cases h6 : s.data.toList = [33, 61]
  · obtain rfl := of_list h6
    decide +kernel
  by_cases h7 : s.data.toList = [60]
  · obtain rfl := of_list h7
    decide +kernel
  by_cases h8 : s.data.toList = [60, 61]
  · obtain rfl := of_list h8
    decide +kernel
  by_cases h9 : s.data.toList = [62]
  · obtain rfl := of_list h9
    decide +kernel
  by_cases h10 : s.data.toList = [62, 61]
  · obtain rfl := of_list h10
    decide +kernel
  by_cases h11 : s.data.toList = [60, 60]
  · obtain rfl := of_list h11
    decide +kernel
  by_cases h12 : s.data.toList = [62, 62]
  · obtain rfl := of_list h12
    decide +kernel
  by_cases h13 : s.data.toList = [43]
  · obtain rfl := of_list h13
    decide +kernel
  by_cases h14 : s.data.toList = [45]
  · obtain rfl := of_list h14
    decide +kernel
  by_cases h15 : s.data.toList = [42]
  · obtain rfl := of_list h15
    decide +kernel
  by_cases h16 : s.data.toList = [47]
  · obtain rfl := of_list h16
    decide +kernel
  by_cases h17 : s.data.toList = [37]
  · obtain rfl := of_list h17
    decide +kernel
  have hv : levelV s = 0 := by unfold levelV; simp only [if_neg h0, if_neg h1, if_neg h2, if_neg h3, if_neg h4, if_neg h5, if_neg h6, if_neg h7, if_neg h8, if_neg h9, if_neg h10, if_neg h11, if_neg h12, if_neg h13, if_neg h14, if_neg h15, if_neg h16, if_neg h17]
  rw [hv]
  have ht : thereV s 18 = (false || ((ByteArray.mk [124, 124].toArray).toList == s.toList) || ((ByteArray.mk [38, 38].toArray).toList == s.toList) || ((ByteArray.mk [124].toArray).toList == s.toList) || ((ByteArray.mk [94].toArray).toList == s.toList) || ((ByteArray.mk [38].toArray).toList == s.toList) || ((ByteArray.mk [61, 61].toArray).toList == s.toList) || ((ByteArray.mk [33, 61].toArray).toList == s.toList) || ((ByteArray.mk [60].toArray).toList == s.toList) || ((ByteArray.mk [60, 61].toArray).toList == s.toList) || ((ByteArray.mk [62].toArray).toList == s.toList) || ((ByteArray.mk [62, 61].toArray).toList == s.toList) || ((ByteArray.mk [60, 60].toArray).toList == s.toList) || ((ByteArray.mk [62, 62].toArray).toList == s.toList) || ((ByteArray.mk [43].toArray).toList == s.toList) || ((ByteArray.mk [45].toArray).toList == s.toList) || ((ByteArray.mk [42].toArray).toList == s.toList) || ((ByteArray.mk [47].toArray).toList == s.toList) || ((ByteArray.mk [37].toArray).toList == s.toList)) := rfl
  rw [ht, not_list' h0, not_list' h1, not_list' h2, not_list' h3, not_list' h4, not_list' h5, not_list' h6, not_list' h7, not_list' h8, not_list' h9, not_list' h10, not_list' h11, not_list' h12, not_list' h13, not_list' h14, not_list' h15, not_list' h16, not_list' h17]
  rfl

set_option maxRecDepth 100000 in
set_option maxHeartbeats 2000000 in
theorem levels_core (s : ByteArray) (w0 : World) (H0 : Pow w0) :
    Calls Tryd.prog 10 #[.string s] w0 fun e w' => e = .returned (.bool true) ∧ Past w0 w' := by
  have H : Hid (Pow w0) := Lib.hid H0
  clear H0
  have h : Past w0 w0 := Past.refl _
  go_enter Tryd.func10, Tryd.ntmps10
  go_wp2_with (first
    | (go_at_call 11; refine (ex_any w0 H.out _ h).mono ?_; clear h; rintro e w ⟨rfl, h⟩)
    | (go_at_call 18; refine (ops_own _ h).mono ?_; clear h; rintro e w' ⟨rfl, hops, hb, h⟩; clear hb))
  obtain ⟨b, hb⟩ : ∃ b, b = w.heap.size := ⟨_, rfl⟩
  rw [← hb] at hops
  simp only [← hb]
  clear hb
  go_loopw [5, 6, 7] (fun last there i wr => ∃ k : Nat, k ≤ 18 ∧ i = .int .i64 k ∧ last = .int .i64 (lastV k) ∧ there = .bool (thereV s k) ∧ Past w0 wr ∧ OpsIn b wr) (fun _ _ i _ => 18 - (intOf i).toNat)
  case atStart => exact ⟨0, by omega, rfl, rfl, rfl, h, hops⟩
  case round =>
    clear h hops
    obtain ⟨k, hk, rfl, rfl, rfl, h, hops⟩ := hrel
    by_cases hlt : k < 18
    · have hc := hops.cell k hlt
      obtain ⟨hl1, hl2⟩ := last_facts k hlt
      have HL : Hid (lastV (k + 1) = levelV (opAt k)) := Lib.hid rfl
      have HT : Hid (thereV s (k + 1) = (thereV s k || ((opAt k).toList == s.toList))) := Lib.hid rfl
      have n1 : ¬ levelV (opAt k) < lastV k := by omega
      have n2 : ¬ 10 < levelV (opAt k) := by omega
      clear hl1 hl2
      cases ht : thereV s k
      all_goals
        rw [ht] at HT
        go_wp2_with (go_at_call 20; refine (level_any _ _).mono ?_; rintro e w2 ⟨rfl, hb2⟩; have hc2 := (hops.on hb2).cell k hlt)
        go_roundw
        case rel => exact ⟨k + 1, by omega, by go_num, by rw [HL.out], by rw [HT.out]; rfl, h.on hb2, hops.on hb2⟩
        case measure => simp [intOf]; omega
    · obtain rfl : k = 18 := by omega
      have l1 : lastV 18 = 10 := by kernel_rfl
      have l2 := there_any s
      go_wp2_with (go_at_call 20; refine (level_any _ _).mono ?_; rintro e w2 ⟨rfl, hb2⟩)
      go_ret
      exact ⟨rfl, h.on hb2⟩
theorem wordLevels_walk (a0 : ByteArray) (_ : a0.size ≤ maxLen) (w : World) (H : Pow w) :
    Calls Tryd.prog 10 #[.string a0] w fun e w' => e = .returned (.bool true) ∧ Below w.heap.size w w' :=
  levels_core a0 w H
end Go.Proofs.YtbphpbkkafgihaaDoor
