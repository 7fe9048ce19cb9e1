/- A program is put in a line for each statement, one more for each brace that ends one, and for each function, its variables and its end: the walk of TreeCounts. -/
import Derived.Test.YtppeogcpoplpeaaGreatDoorTCodeP
import Derived.Test.YtppeogcpoplpeaaGreatDoorTLaid
import Derived.Test.YtppeogcpoplpeaaGreatDoorTEnds
set_option linter.unusedSimpArgs false
set_option linter.unusedVariables false
namespace Go.Proofs.YtppeogcpoplpeaaGreatDoor
open Go Go.RowKit

/-- What is wanted of the first so many functions. -/
def wantN (l : List FT) (n : Nat) : Nat := ((l.take n).map fun F => 3 + (cnts F.body + endsS F.body)).sum
theorem wantN_succ {l : List FT} {n : Nat} (hn : n < l.length) : wantN l (n + 1) = wantN l n + 3 + cnts l[n].body + endsS l[n].body := by
  unfold wantN
  rw [List.take_succ_eq_append_getElem hn, List.map_append, List.sum_append]
  simp
  omega
theorem wantN_le (l : List FT) (n : Nat) : wantN l n ≤ wantN l l.length := by
  unfold wantN
  have h : ((l.take l.length).map fun F => 3 + (cnts F.body + endsS F.body)).sum = ((l.take n).map fun F => 3 + (cnts F.body + endsS F.body)).sum + ((l.drop n).map fun F => 3 + (cnts F.body + endsS F.body)).sum := by
    rw [← List.sum_append, ← List.map_append, List.take_append_drop, List.take_length]
  omega
theorem nl_le (l : List UInt8) : nl l ≤ l.length := List.count_le_length
theorem nl_take {s : ByteArray} {n : Nat} (h : n < s.size) : nl (s.data.toList.take (n + 1)) = nl (s.data.toList.take n) + if (s[n].toNat : Int) = 10 then 1 else 0 := by
  rw [List.take_succ_eq_append_getElem (by simpa using h), nl_app]
  have e : s.data.toList[n]'(by simpa using h) = s[n] := rfl
  rw [e]
  by_cases hc : s[n] = 10
  · rw [hc]; rfl
  · rw [nl_cons hc, if_neg]
    · rfl
    · intro h'
      apply hc
      have : s[n].toNat = 10 := by omega
      exact UInt8.toNat_inj.1 this
/-- What Count and ends answer of a program's functions, and where these lie. -/
structure CntF (w9 : World) (N : Nat) (l : List FT) : Prop where
  cnt : ∀ (n : Nat) (hn : n < l.length) (W : World), Past w9 W → Calls Tryz.prog 23 #[.slice l[n].ba l[n].body.length l[n].bc] W fun e w' => e = .returned (.int .i64 (cnts l[n].body : Nat)) ∧ Below W.heap.size W w'
  ends : ∀ (n : Nat) (hn : n < l.length) (W : World), Past w9 W → Calls Tryz.prog 34 #[.slice l[n].ba l[n].body.length l[n].bc] W fun e w' => e = .returned (.int .i64 (endsS l[n].body : Nat)) ∧ Below W.heap.size W w'
  row : ∀ (n : Nat) (hn : n < l.length) (W : World), Past w9 W → W.cell? ⟨N, n * 4 + 3, none⟩ = some (.slice l[n].ba l[n].body.length l[n].bc) ∧ N < W.heap.size
theorem cnt_facts {w9 : World} {N : Nat} {l : List FT} (h1 : FsIn w9 0 (some ⟨N, 0, none⟩) l) (hw : wantN l l.length ≤ 1000000) : CntF w9 N l := by
  have small : ∀ (n : Nat) (hn : n < l.length), cnts l[n].body + endsS l[n].body ≤ 1000000 := fun n hn => by
    have e := wantN_succ hn
    have := wantN_le l (n + 1)
    omega
  refine ⟨fun n hn W hW => ?_, fun n hn W hW => ?_, fun n hn W hW => ?_⟩
  · have := small n hn
    have hc := count_any (w0 := w9) (Szs l[n].body + 1) l[n].ba l[n].bc l[n].body (by omega) (h1.fs n hn).bl (h1.fs n hn).ss W hW
    rw [wrap_small _ (by omega)] at hc
    exact hc
  · have := small n hn
    exact ends_any (w0 := w9) (Szs l[n].body + 1) l[n].ba l[n].bc l[n].body (by omega) (h1.fs n hn).bl (by omega) (h1.fs n hn).ss W hW
  · have := row_cells4 (h1.row n hn) hW
    rw [Nat.zero_add] at this
    obtain ⟨_, _, _, c3, hb⟩ := this
    exact ⟨c3, hb⟩
set_option maxHeartbeats 20000000 in
set_option maxRecDepth 100000 in
theorem treeCounts_walk (v0 : Value) (w : World) (H : Pow w) (c0 : CodeIn w v0) :
    Calls Tryz.prog 6 #[v0] w fun e w' => e = .returned (.bool true) ∧ Below w.heap.size w w' := by
  obtain ⟨pa, pn, pc, own, la, ln, lc, zl, ga, gn, gc, zg, rfl, r0, r1, hg⟩ := c0
  have HP := Lib.hid H
  have R0 := Lib.hid r0
  have R1 := Lib.hid r1
  have GC := Lib.hid hg
  clear H r0 r1 hg
  go_enter Tryz.func6, Tryz.ntmps6
  go_wp2_with (first
    | (go_at_call 19; refine (put_any HPW.out _ 3 _ HIN3.out HG3.out.1 (by have := HG3.out.2; omega) _ ((Past.refl w3).alloc _)).mono ?_; rintro e w4 ⟨rfl, hb4⟩; have HB4 := Lib.hid hb4; clear hb4)
    | (go_at_call 10; refine (code_call _ (R0.out.on ?_) (R1.out.on ?_) GC.out).mono ?_; (repeat (first | with_reducible exact HB1.out | (with_reducible refine Below.setCell ?_ ?_ _) | simp)); rintro e w3 ⟨N, F, G, K, rfl, hin3, g3, t3, v3, -, hb3⟩; clear x0 x1 x2 x3 fx; have HB3 : Hid (Below w.heap.size w w3) := Lib.hid (Below.trans (show Below w.heap.size w _ from by (repeat (first | with_reducible exact HB1.out | (with_reducible refine Below.setCell ?_ ?_ _) | simp))) (hb3.mono (by simp [World.setCell]; have := HB1.out.size; omega))); have HIN3 := Lib.hid (hin3.mono (Nat.zero_le _)); have HG3 := Lib.hid (And.intro g3 t3); have HV3 := Lib.hid v3; have HPW : Hid (Pow w3) := Lib.hid (HP.out.on (show Past w w3 from HB3.out)); clear hb3 hin3 g3 t3 v3)
    | (go_at_call 9; refine (ex_any HP.out _ ((Past.refl w).alloc _)).mono ?_; rintro e w1 ⟨rfl, hb1⟩; have hX := (hb1.block w.heap.size (by simp)).trans (bk_new w _); have x0 := bk_cell (k := 0) hX rfl; have x1 := bk_cell (k := 1) hX rfl; have x2 := bk_cell (k := 2) hX rfl; have x3 := bk_cell (k := 3) hX rfl; have fx := fun k => bk_free (k := k) hX; have lx := lt_of_block hX; have HX := Lib.hid hX; have HB1 : Hid (Below w.heap.size w w1) := Lib.hid (step_on ((Below.refl _ _).alloc (Nat.le_refl _) _) hb1); clear hX hb1))
  have hP : w4.heap[w3.heap.size]? = some (.cells #[.slice (some ⟨N, 0, none⟩) 3 3] 24 (0, 0)) := (HB4.out.block _ (by simp)).trans (bk_new _ _)
  have b4 : Below w3.heap.size w3 w4 := step_on ((Below.refl _ _).alloc (Nat.le_refl _) _) HB4.out
  have B9 : Below w.heap.size w w4 := step_on HB3.out b4
  have hnl := nl_prog (w := w3) (B := 0) [F, G, K] HG3.out.1 (fun X hX => ⟨by obtain ⟨i, hi, rfl⟩ := List.mem_iff_getElem.1 hX; exact HIN3.out.fs i hi, (HV3.out X hX).1⟩)
  have hwn : wantN [F, G, K] 3 = nl (progT [F, G, K]) := hnl.symm
  have hsm : wantN [F, G, K] 3 ≤ 1000000 := by rw [hwn]; exact Nat.le_trans (nl_le _) HG3.out.2
  have CF := Lib.hid (cnt_facts (HIN3.out.on b4) hsm)
  have WN := Lib.hid hwn
  have HSM := Lib.hid hsm
  have HPP := Lib.hid hP
  have HB9 := Lib.hid B9
  obtain ⟨tx, htx⟩ : ∃ tx : ByteArray, (⟨(progT [F, G, K]).toArray⟩ : ByteArray) = tx := ⟨_, rfl⟩
  have TX : Hid (nl tx.data.toList = wantN [F, G, K] 3) := Lib.hid (by rw [← htx, hwn])
  have hts : tx.size ≤ 1000000 := by rw [← htx]; show (progT [F, G, K]).toArray.size ≤ _; have := HG3.out.2; simpa using this
  rw [htx]
  clear hP b4 B9 hnl hwn hsm htx HIN3 HG3 HV3 HB4 HB3 HB1 HX lx HPW WN R0 R1 GC
  obtain ⟨l, hl⟩ : ∃ l : List FT, [F, G, K] = l := ⟨_, rfl⟩
  have LL : Hid (l.length = 3) := Lib.hid (by rw [← hl]; rfl)
  rw [hl] at TX CF HSM
  clear hl
  go_loop [6, 7] (fun v i => ∃ n : Nat, n ≤ tx.size ∧ i = .int .i64 n ∧ v = .int .i64 ((nl (tx.data.toList.take n) : Nat) : Int)) (fun _ i => tx.size - (intOf i).toNat)
  case atStart => exact ⟨0, Nat.zero_le _, rfl, rfl⟩
  case round =>
    obtain ⟨n, hn, rfl, rfl⟩ := hrel
    have hm := nl_le (tx.data.toList.take n)
    have hm2 : (tx.data.toList.take n).length ≤ n := List.length_take_le _ _
    by_cases hlt : n < tx.size
    · have HS := Lib.hid (nl_take hlt)
      by_cases hc : (tx[n].toNat : Int) = 10
      · have hcb : ((tx[n].toNat : Int) == 10) = true := by simp [hc]
        have HC := Lib.hid hc
        clear hc
        go_wp2
        go_round
        case rel => exact ⟨n + 1, by omega, by go_num, by rw [HS.out, if_pos HC.out]; go_num⟩
        case measure => simp [intOf]; omega
      · have hcb : ((tx[n].toNat : Int) == 10) = false := by simpa using hc
        have HC := Lib.hid hc
        clear hc
        go_wp2
        go_round
        case rel => exact ⟨n + 1, by omega, by go_num, by rw [HS.out, if_neg HC.out]; rfl⟩
        case measure => simp [intOf]; omega
    · obtain rfl : n = tx.size := by omega
      have he : nl (tx.data.toList.take tx.size) = wantN l 3 := by rw [← TX.out, List.take_of_length_le (by simp)]
      obtain ⟨z, hz⟩ : ∃ z : Nat, wantN l 3 = z := ⟨_, rfl⟩
      rw [he, hz]
      have HZ := Lib.hid hz
      clear he hz hm hm2 TX hn hlt
      go_wp2
      go_loopw [8, 9] (fun v i wr => ∃ n : Nat, n ≤ 3 ∧ i = .int .i64 n ∧ v = .int .i64 ((wantN l n : Nat) : Int) ∧ Past w4 wr) (fun _ i _ => 3 - (intOf i).toNat)
      case atStart => exact ⟨0, by omega, rfl, rfl, Past.refl _⟩
      case round =>
        obtain ⟨n, hn, rfl, rfl, hp0⟩ := hrel
        have x0 : wr.cell? ⟨w3.heap.size, 0, none⟩ = some (.slice (some ⟨N, 0, none⟩) 3 3) := bk_cell (k := 0) ((hp0.block _ (lt_of_block HPP.out)).trans HPP.out) rfl
        have HP0 := Lib.hid hp0
        clear hp0
        by_cases hlt : n < 3
        · have hn' : n < l.length := by rw [LL.out]; exact hlt
          have hu := wantN_succ hn'
          have hle := wantN_le l (n + 1)
          have hsm := HSM.out
          rw [LL.out] at hle
          have hr := CF.out.row n hn'
          have hc1 := CF.out.cnt n hn'
          have hc2 := CF.out.ends n hn'
          obtain ⟨x, hx⟩ : ∃ x : Int, ((wantN l n : Nat) : Int) = x := ⟨_, rfl⟩
          obtain ⟨v1, hv1⟩ : ∃ v1 : Int, ((cnts l[n].body : Nat) : Int) = v1 := ⟨_, rfl⟩
          obtain ⟨v2, hv2⟩ : ∃ v2 : Int, ((endsS l[n].body : Nat) : Int) = v2 := ⟨_, rfl⟩
          have b0 : 0 ≤ x := by omega
          have b1 : 0 ≤ v1 := by omega
          have b2 : 0 ≤ v2 := by omega
          have b3 : x + 3 + v1 + v2 ≤ 1000000 := by omega
          have HU : Hid (((wantN l (n + 1) : Nat) : Int) = x + 3 + v1 + v2) := Lib.hid (by rw [hu, ← hx, ← hv1, ← hv2]; simp)
          rw [hv1] at hc1
          rw [hv2] at hc2
          rw [hx]
          obtain ⟨aa, haa⟩ : ∃ aa, l[n].ba = aa := ⟨_, rfl⟩
          obtain ⟨an, han⟩ : ∃ an, l[n].body.length = an := ⟨_, rfl⟩
          obtain ⟨ac, hac⟩ : ∃ ac, l[n].bc = ac := ⟨_, rfl⟩
          rw [haa, han, hac] at hc1 hc2 hr
          have HR := Lib.hid hr
          have HC1 := Lib.hid hc1
          have HC2 := Lib.hid hc2
          clear hu hle hsm hr hc1 hc2 hx hv1 hv2 haa han hac
          have e0 : IntKind.i64.wrap (x + 3) = x + 3 := IntWalk.i64_in _ (by omega)
          have e1 : IntKind.i64.wrap (x + 3 + v1) = x + 3 + v1 := IntWalk.i64_in _ (by omega)
          have e2 : IntKind.i64.wrap (x + 3 + v1 + v2) = x + 3 + v1 + v2 := IntWalk.i64_in _ (by omega)
          have hp : Hid (Past w4 wr.drew) := Lib.hid (HP0.out.drew)
          obtain ⟨y0, hy⟩ := HR.out _ HP0.out
          go_wp2
          go_region_held3 (fun w' => w'.cell? ⟨w3.heap.size, 0, none⟩ = some (.slice (some ⟨N, 0, none⟩) 3 3) ∧ w'.cell? ⟨N, n * 4 + 3, none⟩ = some (.slice aa an ac)) ((refine ⟨?_, ?_⟩ <;> (first | with_reducible assumption | (with_reducible refine cellD ?_; with_reducible assumption))))
            (first
              | (go_at_call 23; ((with_reducible refine (HC1.out _ hp.out).mono ?_); rintro e wk ⟨rfl, hb⟩); have hq := Lib.hid (hp.out.on hb); clear hp hb; have hp := hq; clear hq; have x0 : wk.cell? ⟨w3.heap.size, 0, none⟩ = some (.slice (some ⟨N, 0, none⟩) 3 3) := bk_cell (k := 0) ((hp.out.block _ (lt_of_block HPP.out)).trans HPP.out) rfl; obtain ⟨y0, hy⟩ := HR.out _ hp.out)
              | (go_at_call 34; ((with_reducible refine (HC2.out _ hp.out).mono ?_); rintro e wk ⟨rfl, hb⟩); have hq := Lib.hid (hp.out.on hb); clear hp hb; have hp := hq; clear hq; have x0 : wk.cell? ⟨w3.heap.size, 0, none⟩ = some (.slice (some ⟨N, 0, none⟩) 3 3) := bk_cell (k := 0) ((hp.out.block _ (lt_of_block HPP.out)).trans HPP.out) rfl; obtain ⟨y0, hy⟩ := HR.out _ hp.out))
          go_wp2
          go_roundw
          case rel => exact ⟨n + 1, by omega, by go_num, by rw [HU.out], hp.out⟩
          case measure => simp [intOf]; omega
        · obtain rfl : n = 3 := by omega
          rw [HZ.out]
          go_wp2
          go_ret
          exact ⟨by simp, step_on HB9.out HP0.out⟩
end Go.Proofs.YtppeogcpoplpeaaGreatDoor
