/- What ends answers of statements: how many braces end what stands there. -/
import Derived.Test.YtppeogcpoplpeaaGreatDoorTLines
import Derived.Test.YtppeogcpoplpeaaGreatDoorTFeedE2
import Derived.Deep.RegionHeld3
set_option linter.unusedSimpArgs false
set_option linter.unusedVariables false
namespace Go.Proofs.YtppeogcpoplpeaaGreatDoor
open Go Go.RowKit

theorem endsS_take {l : List ST} {n : Nat} (hn : n < l.length) : endsS (l.take (n + 1)) = endsS (l.take n) + l[n].ends := by
  induction l generalizing n with
  | nil => simp at hn
  | cons S l ih =>
    cases n with
    | zero => simp [endsS]
    | succ n =>
      have := ih (n := n) (by simpa using hn)
      simp only [List.take_succ_cons, endsS, List.getElem_cons_succ] at this ⊢
      omega
theorem endsS_take_le (l : List ST) : ∀ n, endsS (l.take n) ≤ endsS l := by
  induction l with
  | nil => intro n; simp [endsS]
  | cons S l ih =>
    intro n
    cases n with
    | zero => simp [endsS]
    | succ n => have := ih n; simp only [List.take_succ_cons, endsS]; omega
theorem ends_parts (S : ST) : S.ends = (if S.kind = 4 ∨ S.kind = 5 then 1 else 0) + ((if S.kind = 4 ∧ 0 < S.ln then 1 else 0) + (endsS S.body + endsS S.els)) := by
  obtain ⟨k, t, n, f, ea, ec, e, ba, bc, b, la, lc, l⟩ := S
  rw [ln_is]
  rfl
set_option maxHeartbeats 8000000 in
set_option maxRecDepth 100000 in
theorem ends_any {w0 : World} : ∀ (m : Nat) (a : Option Addr) (c : Nat) (l : List ST), Szs l < m → l.length ≤ 9223372036854775807 → endsS l ≤ 1000000 → SsIn w0 0 a 0 l → ∀ w, Past w0 w →
    Calls Tryz.prog 34 #[.slice a l.length c] w fun e w' => e = .returned (.int .i64 (endsS l : Nat)) ∧ Below w.heap.size w w' := by
  intro m
  induction m with
  | zero => intro a c l hm; omega
  | succ m ih =>
    intro a c l hm hl hE hin w hp
    have hle : ∀ (n : Nat) (hn : n < l.length), endsS l[n].body + endsS l[n].els ≤ 1000000 ∧ endsS (l.take n) + l[n].ends ≤ 1000000 := fun n hn => by
      have h1 := endsS_take hn
      have h2 := endsS_take_le l (n + 1)
      have h3 := ends_parts l[n]
      omega
    have HC : Hid (∀ (n : Nat) (hn : n < l.length) (W : World), Past w0 W → Calls Tryz.prog 34 #[.slice l[n].ba l[n].bn l[n].bc] W fun e w' => e = .returned (.int .i64 (endsS l[n].body : Nat)) ∧ Below W.heap.size W w') := Lib.hid fun n hn W hW => by
      have h1 := in_body (hin.nth n hn).2
      rw [bn_is]
      exact ih l[n].ba l[n].bc l[n].body (by have := body_sz l[n]; have := Szs_nth hn; omega) h1.2 (by have := hle n hn; omega) h1.1 W hW
    have HD : Hid (∀ (n : Nat) (hn : n < l.length) (W : World), Past w0 W → Calls Tryz.prog 34 #[.slice l[n].la l[n].ln l[n].lc] W fun e w' => e = .returned (.int .i64 (endsS l[n].els : Nat)) ∧ Below W.heap.size W w') := Lib.hid fun n hn W hW => by
      have h1 := in_els (hin.nth n hn).2
      rw [ln_is]
      exact ih l[n].la l[n].lc l[n].els (by have := body_sz l[n]; have := Szs_nth hn; omega) h1.2 (by have := hle n hn; omega) h1.1 W hW
    have HI := Lib.hid hin
    have HP := Lib.hid hp
    have HLE := Lib.hid hle
    clear hin hp ih hm hle hE
    go_enter Tryz.func34, Tryz.ntmps34
    go_wp2
    go_loopw [3, 4] (fun v i wr => ∃ n : Nat, n ≤ l.length ∧ i = .int .i64 n ∧ v = .int .i64 ((endsS (l.take n) : Nat) : Int) ∧ Below w.heap.size w wr) (fun _ i _ => l.length - (intOf i).toNat)
    case atStart => exact ⟨0, Nat.zero_le _, rfl, rfl, Below.refl _ _⟩
    case round =>
      obtain ⟨n, hn, rfl, rfl, hb⟩ := hrel
      have HB := Lib.hid hb
      clear hb
      by_cases hlt : n < l.length
      · obtain ⟨hrow, -⟩ := HI.out.nth n hlt
        have hrow' := hrow
        obtain ⟨kb, ko, rfl, -⟩ := hrow'
        rw [ST.cells_eq, Nat.zero_add] at hrow
        have HROW := Lib.hid hrow
        obtain ⟨r0, r1, r2, r3, r4, r5, r6, hkb⟩ := row_cells7 hrow (HP.out.on HB.out)
        have hc1 := HC.out n hlt
        have hc2 := HD.out n hlt
        have hu := endsS_take hlt
        rw [ends_parts] at hu
        have hle := (HLE.out n hlt).2
        rw [ends_parts] at hle
        obtain ⟨x, hx⟩ : ∃ x : Int, ((endsS (l.take n) : Nat) : Int) = x := ⟨_, rfl⟩
        obtain ⟨v1, hv1⟩ : ∃ v1 : Int, ((endsS l[n].body : Nat) : Int) = v1 := ⟨_, rfl⟩
        obtain ⟨v2, hv2⟩ : ∃ v2 : Int, ((endsS l[n].els : Nat) : Int) = v2 := ⟨_, rfl⟩
        have b0 : 0 ≤ x := by omega
        have b1 : 0 ≤ v1 := by omega
        have b2 : 0 ≤ v2 := by omega
        have b3 : x + v1 + v2 ≤ 1000000 := by omega
        have HU : Hid (((endsS (l.take (n + 1)) : Nat) : Int) = (if l[n].kind = 4 ∨ l[n].kind = 5 then 1 else 0) + ((if l[n].kind = 4 ∧ 0 < l[n].ln then 1 else 0) + (x + (v1 + v2)))) := Lib.hid (by
          rw [hu, ← hx, ← hv1, ← hv2]
          split <;> split <;> simp <;> omega)
        rw [hv1] at hc1
        rw [hv2] at hc2
        rw [hx]
        have HC1 := Lib.hid hc1
        have HC2 := Lib.hid hc2
        have HKB := Lib.hid hkb
        clear hc1 hc2 hrow hu hx hv1 hv2 HC HD hle
        have key : ∀ (y : Int), 0 ≤ y → y ≤ x + 2 → IntKind.i64.wrap (y + v1) = y + v1 ∧ IntKind.i64.wrap (y + v1 + v2) = y + v1 + v2 := fun y h1 h2 => ⟨IntWalk.i64_in _ (by omega), IntWalk.i64_in _ (by omega)⟩
        have KEY := Lib.hid key
        clear key
        obtain ⟨kd, hkd⟩ : ∃ kd, l[n].kind = kd := ⟨_, rfl⟩
        obtain ⟨ln, hln⟩ : ∃ ln, l[n].ln = ln := ⟨_, rfl⟩
        rw [hkd] at HU HROW r0
        rw [hln] at HU HROW r6 HC2
        clear hkd hln
        rcases Decidable.em (kd = 4) with rfl | h4
        · rcases Decidable.em (ln = 0) with rfl | h0
          · skip
            obtain ⟨e1, e2⟩ := KEY.out (x + 1) (by omega) (by omega)
            have HU' : Hid (((endsS (l.take (n + 1)) : Nat) : Int) = x + 1 + v1 + v2) := Lib.hid (by rw [HU.out]; simp; omega)
            go_wp2
            have hp : Hid (Past w0 wr.drew) := Lib.hid ((HP.out.on HB.out).drew)
            have hbel : Hid (Below w.heap.size w wr.drew) := Lib.hid (Below.drew HB.out)
            go_region_held3 (fun w' => w'.cell? ⟨kb, ko + n * 7 + 5, none⟩ = some (.slice l[n].ba l[n].bn l[n].bc) ∧ w'.cell? ⟨kb, ko + n * 7 + 6, none⟩ = some (.slice l[n].la 0 l[n].lc)) ((refine ⟨?_, ?_⟩ <;> (first | with_reducible assumption | (with_reducible refine cellD ?_; with_reducible assumption))))
              (first
                | (go_at_call 34; ((with_reducible refine (HC1.out _ hp.out).mono ?_); rintro e wk ⟨rfl, hb⟩); have hq := Lib.hid (hp.out.on hb); have hq2 := Lib.hid (step_on hbel.out hb); clear hp hb hbel; have hp := hq; have hbel := hq2; clear hq hq2; obtain ⟨r0, r1, r2, r3, r4, r5, r6, hkb⟩ := row_cells7 HROW.out hp.out)
                | (go_at_call 34; ((with_reducible refine (HC2.out _ hp.out).mono ?_); rintro e wk ⟨rfl, hb⟩); have hq := Lib.hid (hp.out.on hb); have hq2 := Lib.hid (step_on hbel.out hb); clear hp hb hbel; have hp := hq; have hbel := hq2; clear hq hq2; obtain ⟨r0, r1, r2, r3, r4, r5, r6, hkb⟩ := row_cells7 HROW.out hp.out))
            go_wp2
            go_roundw
            case rel => exact ⟨n + 1, by omega, by go_num, by rw [HU'.out], hbel.out⟩
            case measure => simp [intOf]; omega
          · have hl0 : 0 < ln := by omega
            obtain ⟨e1, e2⟩ := KEY.out (x + 1 + 1) (by omega) (by omega)
            have HU' : Hid (((endsS (l.take (n + 1)) : Nat) : Int) = x + 1 + 1 + v1 + v2) := Lib.hid (by rw [HU.out]; rw [if_pos (by simp), if_pos ⟨rfl, by omega⟩]; omega)
            go_wp2
            have hp : Hid (Past w0 wr.drew) := Lib.hid ((HP.out.on HB.out).drew)
            have hbel : Hid (Below w.heap.size w wr.drew) := Lib.hid (Below.drew HB.out)
            go_region_held3 (fun w' => w'.cell? ⟨kb, ko + n * 7 + 5, none⟩ = some (.slice l[n].ba l[n].bn l[n].bc) ∧ w'.cell? ⟨kb, ko + n * 7 + 6, none⟩ = some (.slice l[n].la ln l[n].lc)) ((refine ⟨?_, ?_⟩ <;> (first | with_reducible assumption | (with_reducible refine cellD ?_; with_reducible assumption))))
              (first
                | (go_at_call 34; ((with_reducible refine (HC1.out _ hp.out).mono ?_); rintro e wk ⟨rfl, hb⟩); have hq := Lib.hid (hp.out.on hb); have hq2 := Lib.hid (step_on hbel.out hb); clear hp hb hbel; have hp := hq; have hbel := hq2; clear hq hq2; obtain ⟨r0, r1, r2, r3, r4, r5, r6, hkb⟩ := row_cells7 HROW.out hp.out)
                | (go_at_call 34; ((with_reducible refine (HC2.out _ hp.out).mono ?_); rintro e wk ⟨rfl, hb⟩); have hq := Lib.hid (hp.out.on hb); have hq2 := Lib.hid (step_on hbel.out hb); clear hp hb hbel; have hp := hq; have hbel := hq2; clear hq hq2; obtain ⟨r0, r1, r2, r3, r4, r5, r6, hkb⟩ := row_cells7 HROW.out hp.out))
            go_wp2
            go_roundw
            case rel => exact ⟨n + 1, by omega, by go_num, by rw [HU'.out], hbel.out⟩
            case measure => simp [intOf]; omega
        · rcases Decidable.em (kd = 5) with rfl | h5
          · skip
            obtain ⟨e1, e2⟩ := KEY.out (x + 1) (by omega) (by omega)
            have HU' : Hid (((endsS (l.take (n + 1)) : Nat) : Int) = x + 1 + v1 + v2) := Lib.hid (by rw [HU.out]; rw [if_pos (by simp), if_neg (by omega)]; omega)
            go_wp2
            have hp : Hid (Past w0 wr.drew) := Lib.hid ((HP.out.on HB.out).drew)
            have hbel : Hid (Below w.heap.size w wr.drew) := Lib.hid (Below.drew HB.out)
            go_region_held3 (fun w' => w'.cell? ⟨kb, ko + n * 7 + 5, none⟩ = some (.slice l[n].ba l[n].bn l[n].bc) ∧ w'.cell? ⟨kb, ko + n * 7 + 6, none⟩ = some (.slice l[n].la ln l[n].lc)) ((refine ⟨?_, ?_⟩ <;> (first | with_reducible assumption | (with_reducible refine cellD ?_; with_reducible assumption))))
              (first
                | (go_at_call 34; ((with_reducible refine (HC1.out _ hp.out).mono ?_); rintro e wk ⟨rfl, hb⟩); have hq := Lib.hid (hp.out.on hb); have hq2 := Lib.hid (step_on hbel.out hb); clear hp hb hbel; have hp := hq; have hbel := hq2; clear hq hq2; obtain ⟨r0, r1, r2, r3, r4, r5, r6, hkb⟩ := row_cells7 HROW.out hp.out)
                | (go_at_call 34; ((with_reducible refine (HC2.out _ hp.out).mono ?_); rintro e wk ⟨rfl, hb⟩); have hq := Lib.hid (hp.out.on hb); have hq2 := Lib.hid (step_on hbel.out hb); clear hp hb hbel; have hp := hq; have hbel := hq2; clear hq hq2; obtain ⟨r0, r1, r2, r3, r4, r5, r6, hkb⟩ := row_cells7 HROW.out hp.out))
            go_wp2
            go_roundw
            case rel => exact ⟨n + 1, by omega, by go_num, by rw [HU'.out], hbel.out⟩
            case measure => simp [intOf]; omega
          · have h4b : (kd == 4) = false := by simpa using h4
            have h5b : (kd == 5) = false := by simpa using h5
            obtain ⟨e1, e2⟩ := KEY.out (x) (by omega) (by omega)
            have HU' : Hid (((endsS (l.take (n + 1)) : Nat) : Int) = x + v1 + v2) := Lib.hid (by rw [HU.out]; rw [if_neg (by omega), if_neg (by omega)]; omega)
            go_wp2
            have hp : Hid (Past w0 wr.drew) := Lib.hid ((HP.out.on HB.out).drew)
            have hbel : Hid (Below w.heap.size w wr.drew) := Lib.hid (Below.drew HB.out)
            go_region_held3 (fun w' => w'.cell? ⟨kb, ko + n * 7 + 5, none⟩ = some (.slice l[n].ba l[n].bn l[n].bc) ∧ w'.cell? ⟨kb, ko + n * 7 + 6, none⟩ = some (.slice l[n].la ln l[n].lc)) ((refine ⟨?_, ?_⟩ <;> (first | with_reducible assumption | (with_reducible refine cellD ?_; with_reducible assumption))))
              (first
                | (go_at_call 34; ((with_reducible refine (HC1.out _ hp.out).mono ?_); rintro e wk ⟨rfl, hb⟩); have hq := Lib.hid (hp.out.on hb); have hq2 := Lib.hid (step_on hbel.out hb); clear hp hb hbel; have hp := hq; have hbel := hq2; clear hq hq2; obtain ⟨r0, r1, r2, r3, r4, r5, r6, hkb⟩ := row_cells7 HROW.out hp.out)
                | (go_at_call 34; ((with_reducible refine (HC2.out _ hp.out).mono ?_); rintro e wk ⟨rfl, hb⟩); have hq := Lib.hid (hp.out.on hb); have hq2 := Lib.hid (step_on hbel.out hb); clear hp hb hbel; have hp := hq; have hbel := hq2; clear hq hq2; obtain ⟨r0, r1, r2, r3, r4, r5, r6, hkb⟩ := row_cells7 HROW.out hp.out))
            go_wp2
            go_roundw
            case rel => exact ⟨n + 1, by omega, by go_num, by rw [HU'.out], hbel.out⟩
            case measure => simp [intOf]; omega
      · obtain rfl : n = l.length := by omega
        have HE : Hid (((endsS (l.take l.length) : Nat) : Int) = ((endsS l : Nat) : Int)) := Lib.hid (by rw [List.take_length])
        go_wp2
        go_ret
        exact ⟨by rw [← HE.out]; rfl, HB.out⟩
end Go.Proofs.YtppeogcpoplpeaaGreatDoor
