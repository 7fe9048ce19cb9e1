/- The walk of EvalNames, its cases together. (Written by gennames.py.) -/
import Derived.Test.YtdaklmbifkehpaaGreatDoorENamesO
import Derived.Test.YtdaklmbifkehpaaGreatDoorENamesT
import Derived.Test.YtdaklmbifkehpaaGreatDoorENamesZ
set_option linter.unusedSimpArgs false
set_option linter.unusedVariables false
namespace Go.Proofs.YtdaklmbifkehpaaGreatDoor.Ev
open Go Go.RowKit Go.Proofs.YtdaklmbifkehpaaGreatDoor Go.Proofs.YtdaklmbifkehpaaGreatDoor.Pm

theorem evalNames_walk (a0 : Option Addr) (len0 cap0 : Nat) (z0 : List Int) (a1 : Int) (w1 : (Lit.int .i64 a1).wf = true) (w : World) (H : Wo w) (r0 : RowIn .i64 w a0 len0 z0) (hcap : len0 ≤ cap0 ∧ cap0 ≤ maxLen ∧ (a0 = none → cap0 = 0)) :
    Calls Tryz.prog 7 #[.slice a0 len0 cap0, .int .i64 a1] w fun e w' => e = .returned (.bool true) ∧ Below w.heap.size w w' := by
  have h1 := wf_in64 w1
  obtain ⟨hc1, hc2, hc3⟩ := hcap
  have hc2' : cap0 ≤ 9223372036854775807 := by unfold maxLen at hc2; omega
  have hi : (0 ≤ a1 ∧ a1 < 3) ∨ a1 < 0 ∨ 3 ≤ a1 := by omega
  cases a0 with
  | none =>
    obtain rfl := hc3 rfl
    obtain rfl : len0 = 0 := by omega
    rcases hi with hi | hi | hi
    · exact names_ei z0 a1 h1 w H r0 hi
    · exact names_en z0 a1 h1 w H r0 hi
    · exact names_eb z0 a1 h1 w H r0 hi
  | some x =>
    obtain ⟨n, hn, hn1, hn2⟩ : ∃ n : Nat, min (len0 : Int) 5 = n ∧ n ≤ len0 ∧ n ≤ 5 := ⟨min len0 5, by omega, by omega, by omega⟩
    have hnn : n = 0 ∨ n = 1 ∨ 2 ≤ n := by omega
    rcases hnn with hnn | hnn | hnn
    · rcases hi with hi | hi | hi
      · exact names_zi x len0 cap0 n z0 a1 h1 w H r0 hc1 hc2' hn hn1 hn2 hnn hi
      · exact names_zn x len0 cap0 n z0 a1 h1 w H r0 hc1 hc2' hn hn1 hn2 hnn hi
      · exact names_zb x len0 cap0 n z0 a1 h1 w H r0 hc1 hc2' hn hn1 hn2 hnn hi
    · rcases hi with hi | hi | hi
      · exact names_oi x len0 cap0 n z0 a1 h1 w H r0 hc1 hc2' hn hn1 hn2 hnn hi
      · exact names_on x len0 cap0 n z0 a1 h1 w H r0 hc1 hc2' hn hn1 hn2 hnn hi
      · exact names_ob x len0 cap0 n z0 a1 h1 w H r0 hc1 hc2' hn hn1 hn2 hnn hi
    · rcases hi with hi | hi | hi
      · exact names_ti x len0 cap0 n z0 a1 h1 w H r0 hc1 hc2' hn hn1 hn2 hnn hi
      · exact names_tn x len0 cap0 n z0 a1 h1 w H r0 hc1 hc2' hn hn1 hn2 hnn hi
      · exact names_tb x len0 cap0 n z0 a1 h1 w H r0 hc1 hc2' hn hn1 hn2 hnn hi
end Go.Proofs.YtdaklmbifkehpaaGreatDoor.Ev
