/- What a word begins with, and what lies in it: the reader's questions and its takers. -/
import Derived.Test.YtgfobalchpcgbaaDoorLReader
import Derived.Test.YtgfobalchpcgbaaDoorLWords
import Derived.LaidLaws
namespace Go.Proofs.YtgfobalchpcgbaaDoor
open Go Go.RowKit

/-- The two errors of strconv are errors, at w0. -/
structure Errs (w0 : World) : Prop where
  syn : ∃ tp p, w0.var? Tryd.prog "strconv.ErrSyntax" = some #[.iface tp p]
  rng : ∃ tp p, w0.var? Tryd.prog "strconv.ErrRange" = some #[.iface tp p]
theorem var_on {w0 w : World} {n : String} {cs : Array Value} (h : w0.var? Tryd.prog n = some cs) (hp : Past w0 w) : w.var? Tryd.prog n = some cs := by
  unfold World.var? at h ⊢
  cases hg : Tryd.prog.globalNamed n with
  | none => simp [hg] at h
  | some g =>
    simp only [hg, Option.bind_some] at h ⊢
    have hlt : g < w0.heap.size := by
      rcases Nat.lt_or_ge g w0.heap.size with h' | h'
      · exact h'
      · simp [Array.getElem?_eq_none h'] at h
    rw [hp.block g hlt]
    exact h
theorem Errs.on {w0 w : World} (h : Errs w0) (hp : Past w0 w) : Errs w :=
  ⟨h.syn.imp fun _ x => x.imp fun _ y => var_on y hp, h.rng.imp fun _ x => x.imp fun _ y => var_on y hp⟩

section
variable {w : World} {R : Nat} {s : ByteArray} {k : Nat} {SH SG cap : Nat}
theorem atLetter_any (hr : Reader w R s k SH SG cap) (hk : k < s.size) :
    Calls Tryd.prog 23 #[me R] w fun e w' => e = .returned (.bool (ltI (s[k].toNat : Int))) ∧ ∃ n, w' = w.drewN n := by
  have c0 := hr.c0
  have c1 := hr.c1
  clear hr
  unfold me
  go_enter Tryd.func23, Tryd.ntmps23
  go_wp2
  go_quiet ((go_at_call 19; exact Calls.quiet_of_same ((isLetter_any _ _).mono fun _ _ ⟨a, b⟩ => ⟨a, b.symm⟩)))
  go_wp2
  go_ret
  exact ⟨rfl, _, rfl⟩
theorem atDigit_any (hr : Reader w R s k SH SG cap) (hk : k < s.size) :
    Calls Tryd.prog 25 #[me R] w fun e w' => e = .returned (.bool (dgI (s[k].toNat : Int))) ∧ ∃ n, w' = w.drewN n := by
  have c0 := hr.c0
  have c1 := hr.c1
  clear hr
  unfold me
  go_enter Tryd.func25, Tryd.ntmps25
  go_wp2
  go_quiet ((go_at_call 33; exact Calls.quiet_of_same ((isDigit_any _ _).mono fun _ _ ⟨a, b⟩ => ⟨a, b.symm⟩)))
  go_wp2
  go_ret
  exact ⟨rfl, _, rfl⟩
theorem atTag_any (hr : Reader w R s k SH SG cap) (hk : k < s.size) :
    Calls Tryd.prog 27 #[me R] w fun e w' => e = .returned (.bool ((s[k].toNat : Int) == 64)) ∧ ∃ n, w' = w.drewN n := by
  have c0 := hr.c0
  have c1 := hr.c1
  clear hr
  unfold me
  go_enter Tryd.func27, Tryd.ntmps27
  go_wp2
  go_quiet (fail)
  go_wp2
  go_ret
  exact ⟨rfl, _, rfl⟩

/-- The best of the first i signs. -/
def bestAt (l : List UInt8) (i : Nat) : ByteArray := ⟨((signsL.take i).foldl (longer l) []).toArray⟩
theorem best_succ (l : List UInt8) (i : Nat) (h : i < 29) : (bestAt l (i + 1)) = if ((bestAt l i).size < (sgAt i).size ∧ Lib.hasPrefix l (sgAt i).data.toList = true) then sgAt i else bestAt l i := by
  have hl : i < signsL.length := h
  have e : signsL.take (i + 1) = signsL.take i ++ [signsL.getD i []] := by
    rw [List.take_succ_eq_append_getElem hl, List.getD_eq_getElem?_getD, List.getElem?_eq_getElem hl]; rfl
  have hz : ∀ l : List UInt8, (ByteArray.mk l.toArray).size = l.length := fun l => by show l.toArray.size = _; simp
  unfold bestAt
  rw [e, List.foldl_append]
  show ByteArray.mk (List.toArray (longer l _ (signsL.getD i []))) = _
  unfold longer sgAt
  rw [hz, hz]
  split
  · rfl
  · rfl
theorem best_end (l : List UInt8) : (bestAt l 29).data.toList = longest l := by
  unfold bestAt longest
  rw [List.take_of_length_le (by decide)]
theorem best_size (l : List UInt8) (i : Nat) : (bestAt l i).size ≤ 2 := by
  induction i with
  | zero => show (0 : Nat) ≤ 2; omega
  | succ i ih =>
    by_cases h : i < 29
    · rw [best_succ l i h]
      split
      · have : ∀ i : Fin 29, (sgAt i.val).size ≤ 2 := by decide +kernel
        exact this ⟨i, h⟩
      · exact ih
    · have e : bestAt l (i + 1) = bestAt l i := by
        unfold bestAt
        rw [List.take_of_length_le (show signsL.length ≤ i + 1 from by show 29 ≤ i + 1; omega), List.take_of_length_le (show signsL.length ≤ i from by show 29 ≤ i; omega)]
      rw [e]; exact ih
theorem sg_size (i : Nat) (h : i < 29) : (sgAt i).size ≤ 2 := by
  have : ∀ i : Fin 29, (sgAt i.val).size ≤ 2 := by decide +kernel
  exact this ⟨i, h⟩
set_option maxHeartbeats 1000000 in
theorem longest_any (hr : Reader w R s k SH SG cap) (hk : k ≤ s.size) :
    Calls Tryd.prog 36 #[me R] w fun e w' => e = .returned (.string (bestAt (rest s k).data.toList 29)) ∧ ∃ n, w' = w.drewN n := by
  have HR := Lib.hid hr
  have HK := Lib.hid hk
  have c3 := hr.c3
  clear hr hk
  unfold me
  go_enter Tryd.func36, Tryd.ntmps36
  go_wp2
  go_loopw [3, 11] (fun b i wr => ∃ j : Nat, j ≤ 29 ∧ i = .int .i64 j ∧ b = .string (bestAt (rest s k).data.toList j) ∧ ∃ n, wr = w.drewN n) (fun _ i _ => 29 - (intOf i).toNat)
  case atStart => exact ⟨0, by omega, rfl, rfl, 0, rfl⟩
  case round =>
    obtain ⟨j, hj, rfl, rfl, m, rfl⟩ := hrel
    by_cases hlt : j < 29
    · have hc := (HR.out.drewN m).sgn j hlt
      have HB := Lib.hid (best_succ (rest s k).data.toList j hlt)
      have z1 := best_size (rest s k).data.toList j
      have z2 := sg_size j hlt
      by_cases hs : (bestAt (rest s k).data.toList j).size < (sgAt j).size
      · cases hp : Lib.hasPrefix (rest s k).data.toList (sgAt j).data.toList
        all_goals
          go_wp2_with (first
            | (go_at_call 31; refine (rest_any (HR.out.drewN m) HK.out).mono ?_; rintro e w' ⟨rfl, n, rfl⟩)
            | (go_at_call 38; refine (Tryd.strings_HasPrefix _ _ _).mono ?_; rintro e w' ⟨rfl, rfl⟩))
          go_roundw
          case rel => exact ⟨j + 1, by omega, by go_num, by rw [HB.out]; simp [hs, hp], _, rfl⟩
          case measure => simp [intOf]; omega
      · go_wp2
        go_roundw
        case rel => exact ⟨j + 1, by omega, by go_num, by rw [HB.out]; simp [hs], _, rfl⟩
        case measure => simp [intOf]; omega
    · obtain rfl : j = 29 := by omega
      go_wp2
      go_ret
      exact ⟨rfl, _, rfl⟩
end
end Go.Proofs.YtgfobalchpcgbaaDoor
