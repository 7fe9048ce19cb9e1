/- How an expression is reckoned: the table of ways, each kind's way, the whole by induction on the size; Eval. (Written by genreck.py.) An expression that lies in memory is reckoned, whole: by induction on its size; Eval. -/
import Derived.Test.YtdaklmbifkehpaaGreatDoorEPlace
import Derived.Test.YtdaklmbifkehpaaGreatDoorTRight2
import Derived.Test.YtdaklmbifkehpaaGreatDoorWBinAny
import Derived.Test.YtdaklmbifkehpaaGreatDoorWUn
import Derived.Deep.RegionHeld3
import Derived.Test.YtdaklmbifkehpaaGreatDoorTFeedS
set_option linter.unusedSimpArgs false
set_option linter.unusedVariables false
namespace Go.Proofs.YtdaklmbifkehpaaGreatDoor.Ev
open Go Go.RowKit Go.Proofs.YtdaklmbifkehpaaGreatDoor
open Go.Lib (hid)

def waysV : Value := .agg #[.func (.func 102) #[] #[], .func (.func 103) #[] #[], .func (.func 104) #[] #[], .func (.func 105) #[] #[], .func (.func 106) #[] #[]]
set_option maxHeartbeats 2000000 in
set_option maxRecDepth 100000 in
theorem ways_any (w : World) : Calls Tryz.prog 57 #[] w fun e w' => e = .returned waysV ∧ Below w.heap.size w w' := by
  go_enter Tryz.func57, Tryz.ntmps57
  go_wp2
  refine bodyPost_ret (v := waysV) (by simp [results, Tryz.results57, waysV, go_sem]) rfl ⟨rfl, ?_⟩
  repeat' (first | with_reducible exact Below.refl _ _ | with_reducible refine Below.alloc ?_ ?_ _ | with_reducible refine Below.setCell ?_ ?_ _ | (simp; done) | (simp; omega))
def Rk (w0 : World) (E : Nat) (f : FuncId) (X : Value) (r : Int × Int) : Prop :=
  ∀ w, Past w0 w → Calls Tryz.prog f #[.pointer (some ⟨E, 0, none⟩), X] w fun e w' => e = .returned (.tuple #[.int .i64 r.1, .int .i64 r.2]) ∧ Below w.heap.size w w'
set_option maxHeartbeats 2000000 in
set_option maxRecDepth 100000 in
theorem number_is {w0 : World} {E : Nat} (k n : Int) (o s : ByteArray) (v : Value) : Rk w0 E 102 (.agg #[.int .i64 k, .string o, .int .i64 n, .string s, v]) (n, 0) := by
  intro w hp
  go_enter Tryz.func102, Tryz.ntmps102
  go_wp2
  go_ret2
  exact ⟨rfl, (Below.refl _ _).alloc (Nat.le_refl _) _⟩
set_option maxHeartbeats 2000000 in
set_option maxRecDepth 100000 in
theorem variable_is {w0 : World} {B E : Nat} {blk : Nat → Nat} {L : List PC} (hE : EnvIn B E blk L w0) (k n : Int) (o s : ByteArray) (hs : s.size ≤ maxLen) (v : Value) : Rk w0 E 103 (.agg #[.int .i64 k, .string o, .int .i64 n, .string s, v]) (oneV (getV L s.data.toList false 0), 0) := by
  intro w hp
  have HG : Hid (∀ W, Past w0 W → Calls Tryz.prog 15 #[.pointer (some ⟨E, 0, none⟩), .string s] W fun e w' => e = .returned (tellV (getV L s.data.toList false 0)) ∧ w' = W) := hid fun W hW => get_any (hE.past hW) s hs
  have HP := hid hp
  clear hE hp hs
  generalize getV L s.data.toList false 0 = g at HG ⊢
  cases g
  all_goals
    unfold tellV at HG
    go_enter Tryz.func103, Tryz.ntmps103
    go_wp2_with (go_at_call 15; refine (HG.out _ (HP.out.alloc _)).mono ?_; rintro e w1 ⟨rfl, rfl⟩)
    go_ret2
    exact ⟨rfl, (Below.refl _ _).alloc (Nat.le_refl _) _⟩
set_option maxHeartbeats 4000000 in
set_option maxRecDepth 100000 in
theorem index_is {w0 : World} {B E : Nat} {blk : Nat → Nat} {L : List PC} (hE : EnvIn B E blk L w0) {k1 : Int} {o1 : ByteArray} {n1 : Int} {m1 : ByteArray} {v1 : Value} {r : Int × Int} (H1 : Rk w0 E 44 (.agg #[.int .i64 k1, .string o1, .int .i64 n1, .string m1, v1]) r)
    (kb ko cap : Nat) (hr : RowAt w0 0 (some ⟨kb, ko, none⟩) 0 5 #[.int .i64 k1, .string o1, .int .i64 n1, .string m1, v1]) (n : Int) (o s : ByteArray) (hs : s.size ≤ maxLen) :
    Rk w0 E 104 (.agg #[.int .i64 2, .string o, .int .i64 n, .string s, .slice (some ⟨kb, ko, none⟩) 1 cap]) (idxR L s.data.toList r) := by
  intro w hp
  obtain ⟨r0, r1, r2, r3, r4, hkb⟩ := row_cells hr (hp.alloc (.cells #[.int .i64 2, .string o, .int .i64 n, .string s, .slice (some ⟨kb, ko, none⟩) 1 cap] 26))
  simp only [Nat.zero_mul, Nat.add_zero] at r0 r1 r2 r3 r4
  obtain ⟨a, t⟩ := r
  have HG : Hid (∀ W, Past w0 W → Calls Tryz.prog 19 #[.pointer (some ⟨E, 0, none⟩), .string s, .int .i64 a] W fun e w' => e = .returned (tellV (getV L s.data.toList true a)) ∧ w' = W) := hid fun W hW => at_any (hE.past hW) s hs a
  have HP := hid hp
  have H1 := hid H1
  clear hE hp hs hr
  by_cases ht : t = 0
  · subst ht
    have e0 : ((0 : Int) != 0) = false := rfl
    have HR : Hid (idxR L s.data.toList (a, 0) = valR (getV L s.data.toList true a)) := hid (by unfold idxR; simp only [if_pos])
    generalize getV L s.data.toList true a = g at HG HR
    cases g
    all_goals
      unfold tellV at HG
      go_enter Tryz.func104, Tryz.ntmps104
      go_wp2_with (first
        | (go_at_call 19; refine (HG.out _ ((HP.out.alloc _).on HB1.out)).mono ?_; rintro e w2 ⟨rfl, rfl⟩)
        | (go_at_call 44; refine (H1.out _ (HP.out.alloc _)).mono ?_; rintro e w1 ⟨rfl, hb⟩; obtain ⟨b0, b1, b2, b3, b4⟩ := box5 (bk_new w _) hb; have HB1 := hid hb; clear hb))
      go_ret2
      exact ⟨by rw [HR.out]; rfl, step_on ((Below.refl _ _).alloc (Nat.le_refl _) _) HB1.out⟩
  · have e0 : (t != 0) = true := by simpa using ht
    have HT : Hid (idxR L s.data.toList (a, t) = ((0 : Int), t)) := hid (by unfold idxR; simp only [if_neg ht])
    clear ht HG
    go_enter Tryz.func104, Tryz.ntmps104
    go_wp2_with (go_at_call 44; refine (H1.out _ (HP.out.alloc _)).mono ?_; rintro e w1 ⟨rfl, hb⟩; obtain ⟨b0, b1, b2, b3, b4⟩ := box5 (bk_new w _) hb; have HB1 := hid hb; clear hb)
    go_ret2
    exact ⟨by rw [HT.out]; rfl, step_on ((Below.refl _ _).alloc (Nat.le_refl _) _) HB1.out⟩
set_option maxHeartbeats 4000000 in
set_option maxRecDepth 100000 in
theorem unary_is {w0 : World} {E : Nat} {k1 : Int} {o1 : ByteArray} {n1 : Int} {m1 : ByteArray} {v1 : Value} {r : Int × Int} (H1 : Rk w0 E 44 (.agg #[.int .i64 k1, .string o1, .int .i64 n1, .string m1, v1]) r)
    (kb ko cap : Nat) (hr : RowAt w0 0 (some ⟨kb, ko, none⟩) 0 5 #[.int .i64 k1, .string o1, .int .i64 n1, .string m1, v1]) (hin : in64 r.1) (n : Int) (o s : ByteArray) :
    Rk w0 E 105 (.agg #[.int .i64 3, .string o, .int .i64 n, .string s, .slice (some ⟨kb, ko, none⟩) 1 cap]) (unR o r) := by
  intro w hp
  obtain ⟨r0, r1, r2, r3, r4, hkb⟩ := row_cells hr (hp.alloc (.cells #[.int .i64 3, .string o, .int .i64 n, .string s, .slice (some ⟨kb, ko, none⟩) 1 cap] 26))
  simp only [Nat.zero_mul, Nat.add_zero] at r0 r1 r2 r3 r4
  obtain ⟨a, t⟩ := r
  have HG : Hid (∀ W, Calls Tryz.prog 35 #[.string o, .int .i64 a] W fun e w' => e = .returned (.tuple #[.int .i64 (unV o a), .bool (unB o)]) ∧ Below W.heap.size W w') := hid fun W => un_any o a hin W
  have HP := hid hp
  have H1 := hid H1
  clear hp hr hin
  by_cases ht : t = 0
  · subst ht
    have e0 : ((0 : Int) != 0) = false := rfl
    have HR : Hid (unR o (a, 0) = (unV o a, 0)) := hid (by unfold unR; simp only [if_pos])
    generalize unV o a = g at HG HR
    go_enter Tryz.func105, Tryz.ntmps105
    go_wp2_with (first
      | (go_at_call 35; refine (HG.out _).mono ?_; rintro e w2 ⟨rfl, hb⟩; have HB2 := hid hb; clear hb)
      | (go_at_call 44; refine (H1.out _ (HP.out.alloc _)).mono ?_; rintro e w1 ⟨rfl, hb⟩; obtain ⟨b0, b1, b2, b3, b4⟩ := box5 (bk_new w _) hb; have HB1 := hid hb; clear hb))
    go_ret2
    exact ⟨by rw [HR.out]; rfl, step_on (step_on ((Below.refl _ _).alloc (Nat.le_refl _) _) HB1.out) HB2.out⟩
  · have e0 : (t != 0) = true := by simpa using ht
    have HT : Hid (unR o (a, t) = ((0 : Int), t)) := hid (by unfold unR; simp only [if_neg ht])
    clear ht HG
    go_enter Tryz.func105, Tryz.ntmps105
    go_wp2_with (go_at_call 44; refine (H1.out _ (HP.out.alloc _)).mono ?_; rintro e w1 ⟨rfl, hb⟩; obtain ⟨b0, b1, b2, b3, b4⟩ := box5 (bk_new w _) hb; have HB1 := hid hb; clear hb)
    go_ret2
    exact ⟨by rw [HT.out]; rfl, step_on ((Below.refl _ _).alloc (Nat.le_refl _) _) HB1.out⟩
theorem beq_dec (l m : List UInt8) : (l == m) = decide (l = m) := by by_cases h : l = m <;> simp [h]
set_option maxHeartbeats 4000000 in
set_option maxRecDepth 100000 in
theorem alone_any (o : ByteArray) (a : Int) (w : World) : Calls Tryz.prog 129 #[.string o, .int .i64 a] w fun e w' => e = .returned (tellV (aloneV o a)) ∧ w' = w := by
  have q1 : (o.toList == [38, 38]) = decide (o.data.toList = [38, 38]) := by rw [ByteArray.toList_eq]; exact beq_dec _ _
  have q2 : (o.toList == [124, 124]) = decide (o.data.toList = [124, 124]) := by rw [ByteArray.toList_eq]; exact beq_dec _ _
  by_cases h1 : o.data.toList = [38, 38]
  · have n2 : ¬ o.data.toList = [124, 124] := by rw [h1]; decide
    rw [decide_eq_true h1] at q1
    rw [decide_eq_false n2] at q2
    by_cases ha : a = 0
    · have HR : Hid (aloneV o a = some 0) := hid (by unfold aloneV; rw [if_pos ⟨h1, ha⟩])
      have e0 : (a == 0) = true := by simpa using ha
      have e1 : (a != 0) = false := by simpa using ha
      clear h1 n2 ha
      go_enter Tryz.func129, Tryz.ntmps129
      go_wp2
      go_ret2
      exact ⟨by rw [HR.out]; rfl, rfl⟩
    · have HR : Hid (aloneV o a = none) := hid (by unfold aloneV; rw [if_neg (fun h => ha h.2), if_neg (fun h => n2 h.1)])
      have e0 : (a == 0) = false := by simpa using ha
      have e1 : (a != 0) = true := by simpa using ha
      clear h1 n2 ha
      go_enter Tryz.func129, Tryz.ntmps129
      go_wp2
      go_ret2
      exact ⟨by rw [HR.out]; rfl, rfl⟩
  · rw [decide_eq_false h1] at q1
    by_cases h2 : o.data.toList = [124, 124]
    · rw [decide_eq_true h2] at q2
      by_cases ha : a = 0
      · have HR : Hid (aloneV o a = none) := hid (by unfold aloneV; rw [if_neg (fun h => h1 h.1), if_neg (fun h => h.2 ha)])
        have e0 : (a == 0) = true := by simpa using ha
        have e1 : (a != 0) = false := by simpa using ha
        clear h1 h2 ha
        go_enter Tryz.func129, Tryz.ntmps129
        go_wp2
        go_ret2
        exact ⟨by rw [HR.out]; rfl, rfl⟩
      · have HR : Hid (aloneV o a = some 1) := hid (by unfold aloneV; rw [if_neg (fun h => h1 h.1), if_pos ⟨h2, ha⟩])
        have e0 : (a == 0) = false := by simpa using ha
        have e1 : (a != 0) = true := by simpa using ha
        clear h1 h2 ha
        go_enter Tryz.func129, Tryz.ntmps129
        go_wp2
        go_ret2
        exact ⟨by rw [HR.out]; rfl, rfl⟩
    · rw [decide_eq_false h2] at q2
      have HR : Hid (aloneV o a = none) := hid (by unfold aloneV; rw [if_neg (fun h => h1 h.1), if_neg (fun h => h2 h.1)])
      clear h1 h2
      go_enter Tryz.func129, Tryz.ntmps129
      go_wp2
      go_ret2
      exact ⟨by rw [HR.out]; rfl, rfl⟩
set_option maxHeartbeats 8000000 in
set_option maxRecDepth 100000 in
theorem binary_is {w0 : World} {E : Nat} {k1 : Int} {o1 : ByteArray} {n1 : Int} {m1 : ByteArray} {v1 : Value} {r : Int × Int} (H1 : Rk w0 E 44 (.agg #[.int .i64 k1, .string o1, .int .i64 n1, .string m1, v1]) r)
    (kb ko cap : Nat) (hr : RowAt w0 0 (some ⟨kb, ko, none⟩) 0 5 #[.int .i64 k1, .string o1, .int .i64 n1, .string m1, v1]) {k2 : Int} {o2 : ByteArray} {n2 : Int} {m2 : ByteArray} {v2 : Value} {q : Int × Int} (H2 : Rk w0 E 44 (.agg #[.int .i64 k2, .string o2, .int .i64 n2, .string m2, v2]) q)
    (hr2 : RowAt w0 0 (some ⟨kb, ko, none⟩) 1 5 #[.int .i64 k2, .string o2, .int .i64 n2, .string m2, v2]) (n : Int) (o s : ByteArray) :
    Rk w0 E 106 (.agg #[.int .i64 4, .string o, .int .i64 n, .string s, .slice (some ⟨kb, ko, none⟩) 2 cap]) (binR o r q) := by
  intro w hp
  obtain ⟨r0, r1, r2, r3, r4, hkb⟩ := row_cells hr (hp.alloc (.cells #[.int .i64 4, .string o, .int .i64 n, .string s, .slice (some ⟨kb, ko, none⟩) 2 cap] 26))
  simp only [Nat.zero_mul, Nat.add_zero] at r0 r1 r2 r3 r4
  obtain ⟨a, t⟩ := r
  obtain ⟨b, u⟩ := q
  have HA : Hid (∀ W, Calls Tryz.prog 129 #[.string o, .int .i64 a] W fun e w' => e = .returned (tellV (aloneV o a)) ∧ w' = W) := hid fun W => alone_any o a W
  have HBN : Hid (∀ W, Calls Tryz.prog 34 #[.string o, .int .i64 a, .int .i64 b] W fun e w' => e = .returned (.tuple #[.int .i64 (binV o a b), .int .i64 (binT o b)]) ∧ Below W.heap.size W w') := hid fun W => bin_any o a b W
  have HP := hid hp
  have H1 := hid H1
  have H2 := hid H2
  have HR2 := hid hr2
  clear hp hr hr2
  by_cases ht : t = 0
  · subst ht
    have e0 : ((0 : Int) != 0) = false := rfl
    obtain ⟨g, hg⟩ : ∃ g, aloneV o a = g := ⟨_, rfl⟩
    rw [hg] at HA
    cases g with
    | some x =>
      have HR : Hid (binR o (a, 0) (b, u) = (x, 0)) := hid (by unfold binR; simp only [if_pos]; rw [hg])
      unfold tellV at HA
      clear hg HBN H2
      go_enter Tryz.func106, Tryz.ntmps106
      go_wp2_with (first
        | (go_at_call 129; refine (HA.out _).mono ?_; rintro e w2 ⟨rfl, rfl⟩)
        | (go_at_call 44; refine (H1.out _ (HP.out.alloc _)).mono ?_; rintro e w1 ⟨rfl, hb⟩; obtain ⟨b0, b1, b2, b3, b4⟩ := box5 (bk_new w _) hb; obtain ⟨s0, s1, s2, s3, s4, -⟩ := row_cells HR2.out ((HP.out.alloc _).on hb); have HB1 := hid hb; clear hb))
      go_ret2
      exact ⟨by rw [HR.out]; rfl, step_on ((Below.refl _ _).alloc (Nat.le_refl _) _) HB1.out⟩
    | none =>
      unfold tellV at HA
      by_cases hu : u = 0
      · subst hu
        have HR : Hid (binR o (a, 0) (b, 0) = (binV o a b, binT o b)) := hid (by unfold binR; simp only [if_pos]; rw [hg])
        generalize binV o a b = bv at HBN HR
        generalize binT o b = bt at HBN HR
        clear hg
        go_enter Tryz.func106, Tryz.ntmps106
        go_wp2_with (first
          | (go_at_call 34; refine (HBN.out _).mono ?_; rintro e w4 ⟨rfl, hb⟩; have HB4 := hid hb; clear hb)
          | (go_at_call 129; refine (HA.out _).mono ?_; rintro e w2 ⟨rfl, rfl⟩)
          | (go_at_call 44; refine (H2.out _ ((HP.out.alloc _).on HB1.out)).mono ?_; rintro e w3 ⟨rfl, hb⟩; obtain ⟨b0, b1, b2, b3, b4⟩ := box5 (bk_new w _) (step_on HB1.out hb); have HB3 := hid hb; clear hb)
          | (go_at_call 44; refine (H1.out _ (HP.out.alloc _)).mono ?_; rintro e w1 ⟨rfl, hb⟩; obtain ⟨b0, b1, b2, b3, b4⟩ := box5 (bk_new w _) hb; obtain ⟨s0, s1, s2, s3, s4, -⟩ := row_cells HR2.out ((HP.out.alloc _).on hb); have HB1 := hid hb; clear hb))
        go_ret2
        exact ⟨by rw [HR.out]; rfl, step_on (step_on (step_on ((Below.refl _ _).alloc (Nat.le_refl _) _) HB1.out) HB3.out) HB4.out⟩
      · have e1 : (u != 0) = true := by simpa using hu
        have HR : Hid (binR o (a, 0) (b, u) = (0, u)) := hid (by unfold binR; simp only [if_pos]; rw [hg]; simp only [if_neg hu])
        clear hg hu HBN
        go_enter Tryz.func106, Tryz.ntmps106
        go_wp2_with (first
          | (go_at_call 129; refine (HA.out _).mono ?_; rintro e w2 ⟨rfl, rfl⟩)
          | (go_at_call 44; refine (H2.out _ ((HP.out.alloc _).on HB1.out)).mono ?_; rintro e w3 ⟨rfl, hb⟩; obtain ⟨b0, b1, b2, b3, b4⟩ := box5 (bk_new w _) (step_on HB1.out hb); have HB3 := hid hb; clear hb)
          | (go_at_call 44; refine (H1.out _ (HP.out.alloc _)).mono ?_; rintro e w1 ⟨rfl, hb⟩; obtain ⟨b0, b1, b2, b3, b4⟩ := box5 (bk_new w _) hb; obtain ⟨s0, s1, s2, s3, s4, -⟩ := row_cells HR2.out ((HP.out.alloc _).on hb); have HB1 := hid hb; clear hb))
        go_ret2
        exact ⟨by rw [HR.out]; rfl, step_on (step_on ((Below.refl _ _).alloc (Nat.le_refl _) _) HB1.out) HB3.out⟩
  · have e0 : (t != 0) = true := by simpa using ht
    have HR : Hid (binR o (a, t) (b, u) = (0, t)) := hid (by unfold binR; simp only [if_neg ht])
    clear ht HA HBN H2
    go_enter Tryz.func106, Tryz.ntmps106
    go_wp2_with (go_at_call 44; refine (H1.out _ (HP.out.alloc _)).mono ?_; rintro e w1 ⟨rfl, hb⟩; obtain ⟨b0, b1, b2, b3, b4⟩ := box5 (bk_new w _) hb; obtain ⟨s0, s1, s2, s3, s4, -⟩ := row_cells HR2.out ((HP.out.alloc _).on hb); have HB1 := hid hb; clear hb)
    go_ret2
    exact ⟨by rw [HR.out]; rfl, step_on ((Below.refl _ _).alloc (Nat.le_refl _) _) HB1.out⟩
theorem ways_at0 (w : World) : (Instr.index 135 waysV (.int .i64 0)).run Tryz.prog w = .ok (.func (.func 102) #[] #[]) w := by kernel_rfl
theorem ways_at1 (w : World) : (Instr.index 135 waysV (.int .i64 1)).run Tryz.prog w = .ok (.func (.func 103) #[] #[]) w := by kernel_rfl
theorem ways_at2 (w : World) : (Instr.index 135 waysV (.int .i64 2)).run Tryz.prog w = .ok (.func (.func 104) #[] #[]) w := by kernel_rfl
theorem ways_at3 (w : World) : (Instr.index 135 waysV (.int .i64 3)).run Tryz.prog w = .ok (.func (.func 105) #[] #[]) w := by kernel_rfl
theorem ways_at4 (w : World) : (Instr.index 135 waysV (.int .i64 4)).run Tryz.prog w = .ok (.func (.func 106) #[] #[]) w := by kernel_rfl
set_option maxHeartbeats 4000000 in
set_option maxRecDepth 100000 in
theorem reckon_number {w0 : World} {E : Nat} {o : ByteArray} {n : Int} {s : ByteArray} {v : Value} {r : Int × Int} (H : Rk w0 E 102 (.agg #[.int .i64 0, .string o, .int .i64 n, .string s, v]) r) :
    Rk w0 E 44 (.agg #[.int .i64 0, .string o, .int .i64 n, .string s, v]) r := by
  intro w hp
  have HW : Hid (∀ W, Calls Tryz.prog 57 #[] W fun e w' => e = .returned waysV ∧ Below W.heap.size W w') := hid ways_any
  have HX : Hid (∀ W, Past (w.alloc (.cells #[.int .i64 0, .string o, .int .i64 n, .string s, v] 26)) W → Calls Tryz.prog 102 #[.pointer (some ⟨E, 0, none⟩), .agg #[.int .i64 0, .string o, .int .i64 n, .string s, v]] W fun e w' => e = .returned (.tuple #[.int .i64 r.1, .int .i64 r.2]) ∧ Below W.heap.size W w') := hid fun W hW => H W ((hp.alloc _).on hW)
  have hi := ways_at0
  have HC : Hid (∀ W, Past (w.alloc (.cells #[.int .i64 0, .string o, .int .i64 n, .string s, v] 26)) W → W.cell? ⟨w.heap.size, 0, none⟩ = some (.int .i64 0) ∧ W.cell? ⟨w.heap.size, 1, none⟩ = some (.string o) ∧ W.cell? ⟨w.heap.size, 2, none⟩ = some (.int .i64 n) ∧ W.cell? ⟨w.heap.size, 3, none⟩ = some (.string s) ∧ W.cell? ⟨w.heap.size, 4, none⟩ = some v) := hid fun W hW => box5 (bk_new w _) hW
  have hq : Hid (Past (w.alloc (.cells #[.int .i64 0, .string o, .int .i64 n, .string s, v] 26)) (w.alloc (.cells #[.int .i64 0, .string o, .int .i64 n, .string s, v] 26)).drew) := hid (Below.refl _ _).drew
  clear hp H
  unfold waysV at hi HW
  go_enter Tryz.func44, Tryz.ntmps44
  go_wp2
  go_region_held3 (fun W => W.cell? ⟨w.heap.size, 0, none⟩ = some (.int .i64 0) ∧ W.cell? ⟨w.heap.size, 1, none⟩ = some (.string o) ∧ W.cell? ⟨w.heap.size, 2, none⟩ = some (.int .i64 n) ∧ W.cell? ⟨w.heap.size, 3, none⟩ = some (.string s) ∧ W.cell? ⟨w.heap.size, 4, none⟩ = some v) (with_reducible exact HC.out _ hq.out)
    (first
    | (go_at_call 102; ((with_reducible refine (HX.out _ hq.out).mono ?_); rintro e w2 ⟨rfl, hb⟩); have hz := hid (hq.out.on hb); clear hq hb; have hq := hz; clear hz)
    | (go_at_call 57; ((with_reducible refine (HW.out _).mono ?_); rintro e w1 ⟨rfl, hb⟩); have hz := hid (hq.out.on hb); clear hq hb; have hq := hz; clear hz))
  go_wp2
  go_ret2
  exact ⟨rfl, step_on ((Below.refl _ _).alloc (Nat.le_refl _) _) hq.out⟩
set_option maxHeartbeats 4000000 in
set_option maxRecDepth 100000 in
theorem reckon_variable {w0 : World} {E : Nat} {o : ByteArray} {n : Int} {s : ByteArray} {v : Value} {r : Int × Int} (H : Rk w0 E 103 (.agg #[.int .i64 1, .string o, .int .i64 n, .string s, v]) r) :
    Rk w0 E 44 (.agg #[.int .i64 1, .string o, .int .i64 n, .string s, v]) r := by
  intro w hp
  have HW : Hid (∀ W, Calls Tryz.prog 57 #[] W fun e w' => e = .returned waysV ∧ Below W.heap.size W w') := hid ways_any
  have HX : Hid (∀ W, Past (w.alloc (.cells #[.int .i64 1, .string o, .int .i64 n, .string s, v] 26)) W → Calls Tryz.prog 103 #[.pointer (some ⟨E, 0, none⟩), .agg #[.int .i64 1, .string o, .int .i64 n, .string s, v]] W fun e w' => e = .returned (.tuple #[.int .i64 r.1, .int .i64 r.2]) ∧ Below W.heap.size W w') := hid fun W hW => H W ((hp.alloc _).on hW)
  have hi := ways_at1
  have HC : Hid (∀ W, Past (w.alloc (.cells #[.int .i64 1, .string o, .int .i64 n, .string s, v] 26)) W → W.cell? ⟨w.heap.size, 0, none⟩ = some (.int .i64 1) ∧ W.cell? ⟨w.heap.size, 1, none⟩ = some (.string o) ∧ W.cell? ⟨w.heap.size, 2, none⟩ = some (.int .i64 n) ∧ W.cell? ⟨w.heap.size, 3, none⟩ = some (.string s) ∧ W.cell? ⟨w.heap.size, 4, none⟩ = some v) := hid fun W hW => box5 (bk_new w _) hW
  have hq : Hid (Past (w.alloc (.cells #[.int .i64 1, .string o, .int .i64 n, .string s, v] 26)) (w.alloc (.cells #[.int .i64 1, .string o, .int .i64 n, .string s, v] 26)).drew) := hid (Below.refl _ _).drew
  clear hp H
  unfold waysV at hi HW
  go_enter Tryz.func44, Tryz.ntmps44
  go_wp2
  go_region_held3 (fun W => W.cell? ⟨w.heap.size, 0, none⟩ = some (.int .i64 1) ∧ W.cell? ⟨w.heap.size, 1, none⟩ = some (.string o) ∧ W.cell? ⟨w.heap.size, 2, none⟩ = some (.int .i64 n) ∧ W.cell? ⟨w.heap.size, 3, none⟩ = some (.string s) ∧ W.cell? ⟨w.heap.size, 4, none⟩ = some v) (with_reducible exact HC.out _ hq.out)
    (first
    | (go_at_call 103; ((with_reducible refine (HX.out _ hq.out).mono ?_); rintro e w2 ⟨rfl, hb⟩); have hz := hid (hq.out.on hb); clear hq hb; have hq := hz; clear hz)
    | (go_at_call 57; ((with_reducible refine (HW.out _).mono ?_); rintro e w1 ⟨rfl, hb⟩); have hz := hid (hq.out.on hb); clear hq hb; have hq := hz; clear hz))
  go_wp2
  go_ret2
  exact ⟨rfl, step_on ((Below.refl _ _).alloc (Nat.le_refl _) _) hq.out⟩
set_option maxHeartbeats 4000000 in
set_option maxRecDepth 100000 in
theorem reckon_index {w0 : World} {E : Nat} {o : ByteArray} {n : Int} {s : ByteArray} {v : Value} {r : Int × Int} (H : Rk w0 E 104 (.agg #[.int .i64 2, .string o, .int .i64 n, .string s, v]) r) :
    Rk w0 E 44 (.agg #[.int .i64 2, .string o, .int .i64 n, .string s, v]) r := by
  intro w hp
  have HW : Hid (∀ W, Calls Tryz.prog 57 #[] W fun e w' => e = .returned waysV ∧ Below W.heap.size W w') := hid ways_any
  have HX : Hid (∀ W, Past (w.alloc (.cells #[.int .i64 2, .string o, .int .i64 n, .string s, v] 26)) W → Calls Tryz.prog 104 #[.pointer (some ⟨E, 0, none⟩), .agg #[.int .i64 2, .string o, .int .i64 n, .string s, v]] W fun e w' => e = .returned (.tuple #[.int .i64 r.1, .int .i64 r.2]) ∧ Below W.heap.size W w') := hid fun W hW => H W ((hp.alloc _).on hW)
  have hi := ways_at2
  have HC : Hid (∀ W, Past (w.alloc (.cells #[.int .i64 2, .string o, .int .i64 n, .string s, v] 26)) W → W.cell? ⟨w.heap.size, 0, none⟩ = some (.int .i64 2) ∧ W.cell? ⟨w.heap.size, 1, none⟩ = some (.string o) ∧ W.cell? ⟨w.heap.size, 2, none⟩ = some (.int .i64 n) ∧ W.cell? ⟨w.heap.size, 3, none⟩ = some (.string s) ∧ W.cell? ⟨w.heap.size, 4, none⟩ = some v) := hid fun W hW => box5 (bk_new w _) hW
  have hq : Hid (Past (w.alloc (.cells #[.int .i64 2, .string o, .int .i64 n, .string s, v] 26)) (w.alloc (.cells #[.int .i64 2, .string o, .int .i64 n, .string s, v] 26)).drew) := hid (Below.refl _ _).drew
  clear hp H
  unfold waysV at hi HW
  go_enter Tryz.func44, Tryz.ntmps44
  go_wp2
  go_region_held3 (fun W => W.cell? ⟨w.heap.size, 0, none⟩ = some (.int .i64 2) ∧ W.cell? ⟨w.heap.size, 1, none⟩ = some (.string o) ∧ W.cell? ⟨w.heap.size, 2, none⟩ = some (.int .i64 n) ∧ W.cell? ⟨w.heap.size, 3, none⟩ = some (.string s) ∧ W.cell? ⟨w.heap.size, 4, none⟩ = some v) (with_reducible exact HC.out _ hq.out)
    (first
    | (go_at_call 104; ((with_reducible refine (HX.out _ hq.out).mono ?_); rintro e w2 ⟨rfl, hb⟩); have hz := hid (hq.out.on hb); clear hq hb; have hq := hz; clear hz)
    | (go_at_call 57; ((with_reducible refine (HW.out _).mono ?_); rintro e w1 ⟨rfl, hb⟩); have hz := hid (hq.out.on hb); clear hq hb; have hq := hz; clear hz))
  go_wp2
  go_ret2
  exact ⟨rfl, step_on ((Below.refl _ _).alloc (Nat.le_refl _) _) hq.out⟩
set_option maxHeartbeats 4000000 in
set_option maxRecDepth 100000 in
theorem reckon_unary {w0 : World} {E : Nat} {o : ByteArray} {n : Int} {s : ByteArray} {v : Value} {r : Int × Int} (H : Rk w0 E 105 (.agg #[.int .i64 3, .string o, .int .i64 n, .string s, v]) r) :
    Rk w0 E 44 (.agg #[.int .i64 3, .string o, .int .i64 n, .string s, v]) r := by
  intro w hp
  have HW : Hid (∀ W, Calls Tryz.prog 57 #[] W fun e w' => e = .returned waysV ∧ Below W.heap.size W w') := hid ways_any
  have HX : Hid (∀ W, Past (w.alloc (.cells #[.int .i64 3, .string o, .int .i64 n, .string s, v] 26)) W → Calls Tryz.prog 105 #[.pointer (some ⟨E, 0, none⟩), .agg #[.int .i64 3, .string o, .int .i64 n, .string s, v]] W fun e w' => e = .returned (.tuple #[.int .i64 r.1, .int .i64 r.2]) ∧ Below W.heap.size W w') := hid fun W hW => H W ((hp.alloc _).on hW)
  have hi := ways_at3
  have HC : Hid (∀ W, Past (w.alloc (.cells #[.int .i64 3, .string o, .int .i64 n, .string s, v] 26)) W → W.cell? ⟨w.heap.size, 0, none⟩ = some (.int .i64 3) ∧ W.cell? ⟨w.heap.size, 1, none⟩ = some (.string o) ∧ W.cell? ⟨w.heap.size, 2, none⟩ = some (.int .i64 n) ∧ W.cell? ⟨w.heap.size, 3, none⟩ = some (.string s) ∧ W.cell? ⟨w.heap.size, 4, none⟩ = some v) := hid fun W hW => box5 (bk_new w _) hW
  have hq : Hid (Past (w.alloc (.cells #[.int .i64 3, .string o, .int .i64 n, .string s, v] 26)) (w.alloc (.cells #[.int .i64 3, .string o, .int .i64 n, .string s, v] 26)).drew) := hid (Below.refl _ _).drew
  clear hp H
  unfold waysV at hi HW
  go_enter Tryz.func44, Tryz.ntmps44
  go_wp2
  go_region_held3 (fun W => W.cell? ⟨w.heap.size, 0, none⟩ = some (.int .i64 3) ∧ W.cell? ⟨w.heap.size, 1, none⟩ = some (.string o) ∧ W.cell? ⟨w.heap.size, 2, none⟩ = some (.int .i64 n) ∧ W.cell? ⟨w.heap.size, 3, none⟩ = some (.string s) ∧ W.cell? ⟨w.heap.size, 4, none⟩ = some v) (with_reducible exact HC.out _ hq.out)
    (first
    | (go_at_call 105; ((with_reducible refine (HX.out _ hq.out).mono ?_); rintro e w2 ⟨rfl, hb⟩); have hz := hid (hq.out.on hb); clear hq hb; have hq := hz; clear hz)
    | (go_at_call 57; ((with_reducible refine (HW.out _).mono ?_); rintro e w1 ⟨rfl, hb⟩); have hz := hid (hq.out.on hb); clear hq hb; have hq := hz; clear hz))
  go_wp2
  go_ret2
  exact ⟨rfl, step_on ((Below.refl _ _).alloc (Nat.le_refl _) _) hq.out⟩
set_option maxHeartbeats 4000000 in
set_option maxRecDepth 100000 in
theorem reckon_binary {w0 : World} {E : Nat} {o : ByteArray} {n : Int} {s : ByteArray} {v : Value} {r : Int × Int} (H : Rk w0 E 106 (.agg #[.int .i64 4, .string o, .int .i64 n, .string s, v]) r) :
    Rk w0 E 44 (.agg #[.int .i64 4, .string o, .int .i64 n, .string s, v]) r := by
  intro w hp
  have HW : Hid (∀ W, Calls Tryz.prog 57 #[] W fun e w' => e = .returned waysV ∧ Below W.heap.size W w') := hid ways_any
  have HX : Hid (∀ W, Past (w.alloc (.cells #[.int .i64 4, .string o, .int .i64 n, .string s, v] 26)) W → Calls Tryz.prog 106 #[.pointer (some ⟨E, 0, none⟩), .agg #[.int .i64 4, .string o, .int .i64 n, .string s, v]] W fun e w' => e = .returned (.tuple #[.int .i64 r.1, .int .i64 r.2]) ∧ Below W.heap.size W w') := hid fun W hW => H W ((hp.alloc _).on hW)
  have hi := ways_at4
  have HC : Hid (∀ W, Past (w.alloc (.cells #[.int .i64 4, .string o, .int .i64 n, .string s, v] 26)) W → W.cell? ⟨w.heap.size, 0, none⟩ = some (.int .i64 4) ∧ W.cell? ⟨w.heap.size, 1, none⟩ = some (.string o) ∧ W.cell? ⟨w.heap.size, 2, none⟩ = some (.int .i64 n) ∧ W.cell? ⟨w.heap.size, 3, none⟩ = some (.string s) ∧ W.cell? ⟨w.heap.size, 4, none⟩ = some v) := hid fun W hW => box5 (bk_new w _) hW
  have hq : Hid (Past (w.alloc (.cells #[.int .i64 4, .string o, .int .i64 n, .string s, v] 26)) (w.alloc (.cells #[.int .i64 4, .string o, .int .i64 n, .string s, v] 26)).drew) := hid (Below.refl _ _).drew
  clear hp H
  unfold waysV at hi HW
  go_enter Tryz.func44, Tryz.ntmps44
  go_wp2
  go_region_held3 (fun W => W.cell? ⟨w.heap.size, 0, none⟩ = some (.int .i64 4) ∧ W.cell? ⟨w.heap.size, 1, none⟩ = some (.string o) ∧ W.cell? ⟨w.heap.size, 2, none⟩ = some (.int .i64 n) ∧ W.cell? ⟨w.heap.size, 3, none⟩ = some (.string s) ∧ W.cell? ⟨w.heap.size, 4, none⟩ = some v) (with_reducible exact HC.out _ hq.out)
    (first
    | (go_at_call 106; ((with_reducible refine (HX.out _ hq.out).mono ?_); rintro e w2 ⟨rfl, hb⟩); have hz := hid (hq.out.on hb); clear hq hb; have hq := hz; clear hz)
    | (go_at_call 57; ((with_reducible refine (HW.out _).mono ?_); rintro e w1 ⟨rfl, hb⟩); have hz := hid (hq.out.on hb); clear hq hb; have hq := hz; clear hz))
  go_wp2
  go_ret2
  exact ⟨rfl, step_on ((Below.refl _ _).alloc (Nat.le_refl _) _) hq.out⟩
end Go.Proofs.YtdaklmbifkehpaaGreatDoor.Ev

set_option linter.unusedSimpArgs false
set_option linter.unusedVariables false
namespace Go.Proofs.YtdaklmbifkehpaaGreatDoor.Ev
open Go Go.RowKit Go.Proofs.YtdaklmbifkehpaaGreatDoor
open Go.Lib (hid)

theorem bits_in (op : BinOp) (a b : Int) : -9223372036854775808 ≤ bits op .i64 a b ∧ bits op .i64 a b ≤ 9223372036854775807 := by
  unfold bits
  simp only [i64_wrap]
  unfold wrap64
  omega
theorem wrap_in6 (n : Int) : in64 (wrap64 n) := by unfold wrap64 in64; omega
theorem in_ite {c : Prop} [Decidable c] {x y : Int} (h1 : in64 x) (h2 : in64 y) : in64 (if c then x else y) := by split <;> assumption
theorem bit_in (b : Bool) : in64 (bit b) := by unfold bit in64; cases b <;> decide
theorem zero_in : in64 0 := by decide
theorem tmod_in {a b : Int} (h : in64 a) : in64 (a.tmod b) := by
  have h1 := Int.natAbs_tmod a b
  have h2 : a.natAbs % b.natAbs ≤ a.natAbs := Nat.mod_le _ _
  have h3 : 0 ≤ a → 0 ≤ a.tmod b := fun h => Int.tmod_nonneg b h
  by_cases h4 : 0 ≤ a
  · have := h3 h4
    unfold in64 at *
    omega
  · have h5 : a.tmod b ≤ 0 := by
      have := Int.tmod_nonneg b (a := -a) (by omega)
      rw [Int.neg_tmod] at this
      omega
    unfold in64 at *
    omega
theorem shr_in {a : Int} (h : in64 a) (n : Nat) : in64 (a / 2 ^ n) := by
  have hp : (0 : Int) < 2 ^ n := Int.pow_pos (by decide)
  have h1 : (1 : Int) ≤ 2 ^ n := by omega
  generalize (2 : Int) ^ n = p at hp h1
  obtain ⟨h2, h3⟩ := h
  by_cases ha : 0 ≤ a
  · have h4 := Int.ediv_nonneg ha (Int.le_of_lt hp)
    have h5 := Int.ediv_le_self p ha
    exact ⟨by omega, by omega⟩
  · have h4 : a ≤ a / p := by
      rw [Int.le_ediv_iff_mul_le hp]
      have := Int.mul_le_mul_of_nonpos_right h1 (show a ≤ 0 by omega)
      rw [Int.one_mul, Int.mul_comm] at this
      exact this
    have h5 := Int.ediv_neg_of_neg_of_pos (show a < 0 by omega) hp
    exact ⟨by omega, by omega⟩
theorem binV_in (o : ByteArray) {a b : Int} (ha : in64 a) : in64 (binV o a b) := by
  unfold binV
  repeat' (first | exact bit_in _ | exact bits_in _ _ _ | exact wrap_in6 _ | exact zero_in | exact tmod_in ha | exact shr_in ha _ | with_reducible refine in_ite ?_ ?_)
theorem unV_in (o : ByteArray) {a : Int} (ha : in64 a) : in64 (unV o a) := by
  unfold unV
  repeat' (first | exact bit_in _ | exact wrap_in6 _ | exact zero_in | with_reducible refine in_ite ?_ ?_)
  unfold in64 at *; omega
theorem oneV_in {L : List PC} (h : Nums L) (s : List UInt8) (arr : Bool) (i : Int) : in64 (oneV (getV L s arr i)) := by
  cases hg : getV L s arr i with
  | none => exact zero_in
  | some x => exact h.getV hg
theorem idxR_in {L : List PC} (h : Nums L) (s : List UInt8) (r : Int × Int) : in64 (idxR L s r).1 := by
  unfold idxR
  split
  · cases hx : getV L s true r.1 with
    | some x => exact h.getV hx
    | none => exact zero_in
  · exact zero_in
theorem unR_in (o : ByteArray) {r : Int × Int} (h : in64 r.1) : in64 (unR o r).1 := by
  unfold unR
  split
  · exact unV_in o h
  · exact zero_in
theorem binR_in (o : ByteArray) {r q : Int × Int} (h : in64 r.1) : in64 (binR o r q).1 := by
  unfold binR
  split
  · split
    · rename_i x hx
      unfold aloneV at hx
      split at hx
      · cases hx; exact zero_in
      · split at hx
        · cases hx; decide
        · cases hx
    · split
      · exact binV_in o h
      · exact zero_in
  · exact zero_in
theorem ev_in {L : List PC} (hL : Nums L) {w : World} {B : Nat} : ∀ (m : Nat) (T : ET), T.sz ≤ m → T.rightB = true → T.In w B → in64 (evE L T.re).1 := by
  intro m
  induction m with
  | zero => intro T hm; obtain ⟨k, o, n, m, a, c, l⟩ := T; simp [ET.sz] at hm
  | succ m ih =>
    intro T hm h hin
    rcases right_cases h with ⟨n, a, c, rfl⟩ | ⟨s, a, c, hs, rfl⟩ | ⟨s, a, c, e, hs, he, rfl⟩ | ⟨o, a, c, e, ho, he, rfl⟩ | ⟨o, a, c, e, f, ho, he, hf, rfl⟩
    · rw [ET.In] at hin
      exact hin.1
    · exact oneV_in hL _ _ _
    · exact idxR_in hL _ _
    · simp only [ET.In, EsIn] at hin
      simp [ET.sz, szs] at hm
      exact unR_in _ (ih e (by omega) he hin.2.2.2.1)
    · simp only [ET.In, EsIn] at hin
      simp [ET.sz, szs] at hm
      exact binR_in _ (ih e (by omega) he hin.2.2.2.1)
theorem name_max {s : ByteArray} (h : nmB s = true) : s.size ≤ maxLen := by
  have h1 := nmB_len h
  have h2 : s.data.toList.length = s.size := Array.length_toList
  unfold maxLen
  omega
theorem bs_of_list (o : ByteArray) : (⟨o.data.toList.toArray⟩ : ByteArray) = o := by
  obtain ⟨⟨l⟩⟩ := o; rfl
theorem reckon_any {w0 : World} {B E : Nat} {blk : Nat → Nat} {L : List PC} (hE : EnvIn B E blk L w0) : ∀ (m : Nat) (T : ET), T.sz ≤ m → T.rightB = true → T.In w0 0 → Rk w0 E 44 T.val (evE L T.re) := by
  intro m
  induction m with
  | zero => intro T hm; obtain ⟨k, o, n, m, a, c, l⟩ := T; simp [ET.sz] at hm
  | succ m ih =>
    intro T hm h hin
    rcases right_cases h with ⟨n, a, c, rfl⟩ | ⟨s, a, c, hs, rfl⟩ | ⟨s, a, c, e, hs, he, rfl⟩ | ⟨o, a, c, e, ho, he, rfl⟩ | ⟨o, a, c, e, f, ho, he, hf, rfl⟩
    · exact reckon_number (number_is 0 n _ _ _)
    · exact reckon_variable (variable_is hE 1 0 _ s (name_max hs) _)
    · simp only [ET.In, EsIn] at hin
      simp [ET.sz, szs] at hm
      obtain ⟨kb, ko, rfl, -⟩ := hin.2.2.1
      have H1 := ih e (by omega) he hin.2.2.2.1
      rw [ET.val_is] at H1
      have hr := hin.2.2.1
      rw [ET.cells_is] at hr
      exact reckon_index (index_is hE H1 kb ko c hr 0 _ s (name_max hs))
    · simp only [ET.In, EsIn] at hin
      simp [ET.sz, szs] at hm
      obtain ⟨kb, ko, rfl, -⟩ := hin.2.2.1
      have H1 := ih e (by omega) he hin.2.2.2.1
      have hi := ev_in hE.nums _ e (Nat.le_refl _) he hin.2.2.2.1
      rw [ET.val_is] at H1
      have hr := hin.2.2.1
      rw [ET.cells_is] at hr
      obtain ⟨c', hc, rfl⟩ := unB_is ho
      exact reckon_unary (unary_is H1 kb ko c hr hi 0 _ _)
    · simp only [ET.In, EsIn] at hin
      simp [ET.sz, szs] at hm
      obtain ⟨kb, ko, rfl, -⟩ := hin.2.2.1
      have H1 := ih e (by omega) he hin.2.2.2.1
      have H2 := ih f (by omega) hf hin.2.2.2.2.2.1
      rw [ET.val_is] at H1 H2
      have hr := hin.2.2.1
      have hr2 := hin.2.2.2.2.1
      rw [ET.cells_is] at hr hr2
      have := reckon_binary (binary_is H1 kb ko c hr H2 hr2 0 o { data := #[] })
      rw [show evE L (ET.mk 4 o 0 { data := #[] } (some ⟨kb, ko, none⟩) c [e, f]).re = binR o (evE L e.re) (evE L f.re) by rw [ET.re, evE, bs_of_list]]
      exact this
def evT (L : List PC) (T : ET) : Int × Int := if T.rightB = true then evE L T.re else (0, 0)
set_option maxHeartbeats 4000000 in
set_option maxRecDepth 100000 in
theorem eval_any {w0 : World} {B E : Nat} {blk : Nat → Nat} {L : List PC} (hE : EnvIn B E blk L w0) (T : ET) (hin : T.In w0 0) :
    Rk w0 E 24 T.val (evT L T) := by
  intro w hp
  have HR : Hid (∀ W, Past w0 W → Calls Tryz.prog 30 #[T.val] W fun e w' => e = .returned (.bool T.rightB) ∧ Below W.heap.size W w') := hid fun W hW => rightExpr_any hin W hW
  have HP := hid hp
  have HV : Hid (evT L T = if T.rightB = true then evE L T.re else (0, 0)) := hid rfl
  have HK : Hid (T.rightB = true → Rk w0 E 44 T.val (evE L T.re)) := hid fun h => reckon_any hE _ T (Nat.le_refl _) h hin
  rw [ET.val_is] at HR HK ⊢
  generalize evT L T = r at HV ⊢
  generalize evE L T.re = r2 at HV HK
  obtain ⟨rb, hrb⟩ : ∃ rb, T.rightB = rb := ⟨_, rfl⟩
  rw [hrb] at HR HV HK
  clear hrb hin hE hp
  generalize T.kind = k at *
  generalize T.op = o at *
  generalize T.n = n at *
  generalize T.name = s at *
  generalize Value.slice T.kaddr T.kids.length T.kcap = v at *
  cases rb with
  | true =>
    have HX := hid (HK.out rfl)
    have HV2 : Hid (r = r2) := hid HV.out
    clear HV HK
    go_enter Tryz.func24, Tryz.ntmps24
    go_wp2_with (first
      | (go_at_call 44; refine (HX.out _ ((HP.out.alloc _).on HB1.out)).mono ?_; rintro e w2 ⟨rfl, hb⟩; have HB2 := hid hb; clear hb)
      | (go_at_call 30; refine (HR.out _ (HP.out.alloc _)).mono ?_; rintro e w1 ⟨rfl, hb⟩; obtain ⟨b0, b1, b2, b3, b4⟩ := box5 (bk_new w _) hb; have HB1 := hid hb; clear hb))
    go_ret2
    exact ⟨by rw [HV2.out]; rfl, step_on (step_on ((Below.refl _ _).alloc (Nat.le_refl _) _) HB1.out) HB2.out⟩
  | false =>
    have HV2 : Hid (r = (0, 0)) := hid HV.out
    clear HV HK
    go_enter Tryz.func24, Tryz.ntmps24
    go_wp2_with (go_at_call 30; refine (HR.out _ (HP.out.alloc _)).mono ?_; rintro e w1 ⟨rfl, hb⟩; have HB1 := hid hb; clear hb)
    go_ret2
    exact ⟨by rw [HV2.out]; rfl, step_on ((Below.refl _ _).alloc (Nat.le_refl _) _) HB1.out⟩
end Go.Proofs.YtdaklmbifkehpaaGreatDoor.Ev
