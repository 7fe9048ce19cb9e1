/- The same that is asked of each of a list, up to the first error: what ofEach answers of statements, of expressions, of texts. (Written by gench.py.) -/
import Derived.Test.YtplonecdaegfbaaGreatDoorTLaid
import Derived.Test.YtplonecdaegfbaaGreatDoorKFirst
set_option linter.unusedSimpArgs false
set_option linter.unusedVariables false
namespace Go.Proofs.YtplonecdaegfbaaGreatDoor.Ck
open Go Go.RowKit Go.Proofs.YtplonecdaegfbaaGreatDoor

theorem ET.cells_is (T : ET) : T.cells = #[.int .i64 T.kind, .string T.op, .int .i64 T.n, .string T.name, .slice T.kaddr T.kids.length T.kcap] := by cases T; rfl
set_option maxHeartbeats 2000000 in
set_option maxRecDepth 100000 in
theorem eachS_any {w0 : World} (a : Option Addr) (c : Nat) (L : List ST) (hl : L.length ≤ 9223372036854775807) (hin : SsIn w0 0 a 0 L) (g : Nat) (lb : Array Value) (eg0 : Ent g) (code : Nat → Nat) (I : Nat → World → Prop)
    (hpast : ∀ k W, I k W → Past w0 W)
    (halloc : ∀ k W o, I k W → I k (W.alloc o))
    (hstep : ∀ k (h : k < L.length) W, firstC code k = 0 → I k W → Calls Tryz.prog g (#[L[k].val] ++ lb) W fun e w' => e = .returned (.int .i64 (code k : Nat)) ∧ I (k + 1) w')
    (w : World) (h0 : I 0 w) :
    Calls Tryz.prog 139 #[.slice a L.length c, .func (.func g) #[] lb] w fun e w' => e = .returned (.int .i64 (firstC code L.length : Nat)) ∧ ∃ k, k ≤ L.length ∧ I k w' ∧ (firstC code L.length = 0 → k = L.length) := by
  have HS := Lib.hid hstep
  have HP := Lib.hid hpast
  have HI := Lib.hid hin
  have H0 := Lib.hid h0
  have HA := Lib.hid halloc
  have eg : ∀ args w, (callFunc g args).run Tryz.prog w = .ok (.enter g args) w := eg0
  clear hstep hpast hin h0 halloc eg0
  go_enter Tryz.func139, Tryz.ntmps139
  go_wp2
  go_loopw [6, 7, 10] (fun _ _ i wr => ∃ k : Nat, k ≤ L.length ∧ i = .int .i64 k ∧ I k wr ∧ firstC code k = 0) (fun _ _ i _ => L.length - (intOf i).toNat)
  case atStart => exact ⟨0, Nat.zero_le _, rfl, H0.out, rfl⟩
  case round =>
    clear H0
    obtain ⟨k, hk, rfl, hi, hz⟩ := hrel
    by_cases hlt : k < L.length
    · have hs := HS.out k hlt (wr.alloc (.cells #[.int .i64 L[k].kind, .int .i64 L[k].tag, .string L[k].name, .string L[k].func, .slice L[k].ea L[k].en L[k].ec, .slice L[k].ba L[k].bn L[k].bc, .slice L[k].la L[k].ln L[k].lc] 66)) hz (HA.out k _ _ hi)
      obtain ⟨hrow, -⟩ := HI.out.nth k hlt
      have hrow' := hrow
      obtain ⟨kb, ko, rfl, -⟩ := hrow'
      rw [ST.cells_eq, Nat.zero_add] at hrow
      obtain ⟨r0, r1, r2, r3, r4, r5, r6, hkb⟩ := row_cells7 hrow (HP.out k wr hi)
      rw [ST.val_eq] at hs
      clear hrow
      have HF : Hid (firstC code (k + 1) = code k) := Lib.hid (by rw [firstC, hz, orE_zero])
      have HT := Lib.hid hs
      clear hi hz hs
      obtain ⟨cc, hcc⟩ : ∃ cc, code k = cc := ⟨_, rfl⟩
      rw [hcc] at HT HF
      clear hcc
      by_cases h0 : cc = 0
      · subst h0
        go_wp2_with (go_at_fn g; have hx := HT.out; refine hx.mono ?_; clear hx; rintro e w' ⟨rfl, hi'⟩)
        go_round
        case rel => exact ⟨k + 1, by omega, by go_num, hi', HF.out⟩
        case measure => simp [intOf]; omega
      · have e1 : ((cc : Int) != 0) = true := by simpa using h0
        go_wp2_with (go_at_fn g; have hx := HT.out; refine hx.mono ?_; clear hx; rintro e w' ⟨rfl, hi'⟩)
        go_ret
        have hf : firstC code L.length = cc := by rw [firstC_stays (k := k + 1) (by omega) (by rw [HF.out]; exact h0), HF.out]
        exact ⟨by rw [hf]; rfl, k + 1, by omega, hi', fun h => absurd (hf.symm.trans h) h0⟩
    · obtain rfl : k = L.length := by omega
      go_wp2
      go_ret
      exact ⟨by rw [hz]; rfl, L.length, Nat.le_refl _, hi, fun _ => rfl⟩
set_option maxHeartbeats 2000000 in
set_option maxRecDepth 100000 in
theorem eachE_any {w0 : World} (a : Option Addr) (c : Nat) (L : List ET) (hl : L.length ≤ 9223372036854775807) (hin : EsIn w0 0 a 0 L) (g : Nat) (lb : Array Value) (eg0 : Ent g) (code : Nat → Nat) (I : Nat → World → Prop)
    (hpast : ∀ k W, I k W → Past w0 W)
    (halloc : ∀ k W o, I k W → I k (W.alloc o))
    (hstep : ∀ k (h : k < L.length) W, firstC code k = 0 → I k W → Calls Tryz.prog g (#[L[k].val] ++ lb) W fun e w' => e = .returned (.int .i64 (code k : Nat)) ∧ I (k + 1) w')
    (w : World) (h0 : I 0 w) :
    Calls Tryz.prog 194 #[.slice a L.length c, .func (.func g) #[] lb] w fun e w' => e = .returned (.int .i64 (firstC code L.length : Nat)) ∧ ∃ k, k ≤ L.length ∧ I k w' ∧ (firstC code L.length = 0 → k = L.length) := by
  have HS := Lib.hid hstep
  have HP := Lib.hid hpast
  have HI := Lib.hid hin
  have H0 := Lib.hid h0
  have HA := Lib.hid halloc
  have eg : ∀ args w, (callFunc g args).run Tryz.prog w = .ok (.enter g args) w := eg0
  clear hstep hpast hin h0 halloc eg0
  go_enter Tryz.func194, Tryz.ntmps194
  go_wp2
  go_loopw [6, 7, 10] (fun _ _ i wr => ∃ k : Nat, k ≤ L.length ∧ i = .int .i64 k ∧ I k wr ∧ firstC code k = 0) (fun _ _ i _ => L.length - (intOf i).toNat)
  case atStart => exact ⟨0, Nat.zero_le _, rfl, H0.out, rfl⟩
  case round =>
    clear H0
    obtain ⟨k, hk, rfl, hi, hz⟩ := hrel
    by_cases hlt : k < L.length
    · have hs := HS.out k hlt (wr.alloc (.cells #[.int .i64 L[k].kind, .string L[k].op, .int .i64 L[k].n, .string L[k].name, .slice L[k].kaddr L[k].kids.length L[k].kcap] 68)) hz (HA.out k _ _ hi)
      obtain ⟨hrow, -⟩ := HI.out.nth k hlt
      have hrow' := hrow
      obtain ⟨kb, ko, rfl, -⟩ := hrow'
      rw [ET.cells_is, Nat.zero_add] at hrow
      obtain ⟨r0, r1, r2, r3, r4, hkb⟩ := row_cells hrow (HP.out k wr hi)
      rw [ET.val_is] at hs
      clear hrow
      have HF : Hid (firstC code (k + 1) = code k) := Lib.hid (by rw [firstC, hz, orE_zero])
      have HT := Lib.hid hs
      clear hi hz hs
      obtain ⟨cc, hcc⟩ : ∃ cc, code k = cc := ⟨_, rfl⟩
      rw [hcc] at HT HF
      clear hcc
      by_cases h0 : cc = 0
      · subst h0
        go_wp2_with (go_at_fn g; have hx := HT.out; refine hx.mono ?_; clear hx; rintro e w' ⟨rfl, hi'⟩)
        go_round
        case rel => exact ⟨k + 1, by omega, by go_num, hi', HF.out⟩
        case measure => simp [intOf]; omega
      · have e1 : ((cc : Int) != 0) = true := by simpa using h0
        go_wp2_with (go_at_fn g; have hx := HT.out; refine hx.mono ?_; clear hx; rintro e w' ⟨rfl, hi'⟩)
        go_ret
        have hf : firstC code L.length = cc := by rw [firstC_stays (k := k + 1) (by omega) (by rw [HF.out]; exact h0), HF.out]
        exact ⟨by rw [hf]; rfl, k + 1, by omega, hi', fun h => absurd (hf.symm.trans h) h0⟩
    · obtain rfl : k = L.length := by omega
      go_wp2
      go_ret
      exact ⟨by rw [hz]; rfl, L.length, Nat.le_refl _, hi, fun _ => rfl⟩
set_option maxHeartbeats 2000000 in
set_option maxRecDepth 100000 in
theorem eachT_any {w0 : World} (a : Option Addr) (c : Nat) (L : List ByteArray) (hl : L.length ≤ 9223372036854775807) (hin : ∀ (i : Nat) (h : i < L.length), StrAt w0 0 a i L[i]) (g : Nat) (lb : Array Value) (eg0 : Ent g) (code : Nat → Nat) (I : Nat → World → Prop)
    (hpast : ∀ k W, I k W → Past w0 W)
    (hstep : ∀ k (h : k < L.length) W, firstC code k = 0 → I k W → Calls Tryz.prog g (#[.string L[k]] ++ lb) W fun e w' => e = .returned (.int .i64 (code k : Nat)) ∧ I (k + 1) w')
    (w : World) (h0 : I 0 w) :
    Calls Tryz.prog 40 #[.slice a L.length c, .func (.func g) #[] lb] w fun e w' => e = .returned (.int .i64 (firstC code L.length : Nat)) ∧ ∃ k, k ≤ L.length ∧ I k w' ∧ (firstC code L.length = 0 → k = L.length) := by
  have HS := Lib.hid hstep
  have HP := Lib.hid hpast
  have HI := Lib.hid hin
  have H0 := Lib.hid h0
  have eg : ∀ args w, (callFunc g args).run Tryz.prog w = .ok (.enter g args) w := eg0
  clear hstep hpast hin h0 eg0
  go_enter Tryz.func40, Tryz.ntmps40
  go_wp2
  go_loopw [6, 7, 10] (fun _ _ i wr => ∃ k : Nat, k ≤ L.length ∧ i = .int .i64 k ∧ I k wr ∧ firstC code k = 0) (fun _ _ i _ => L.length - (intOf i).toNat)
  case atStart => exact ⟨0, Nat.zero_le _, rfl, H0.out, rfl⟩
  case round =>
    clear H0
    obtain ⟨k, hk, rfl, hi, hz⟩ := hrel
    by_cases hlt : k < L.length
    · have hs := HS.out k hlt wr hz hi
      obtain ⟨kb, ko, rfl, -, hc0⟩ := HI.out k hlt
      have hc := below_keep (HP.out k wr hi) (B := 0) _ _ (Nat.zero_le _) hc0
      have hkb := cell_lt hc
      clear hc0
      have HF : Hid (firstC code (k + 1) = code k) := Lib.hid (by rw [firstC, hz, orE_zero])
      have HT := Lib.hid hs
      clear hi hz hs
      obtain ⟨cc, hcc⟩ : ∃ cc, code k = cc := ⟨_, rfl⟩
      rw [hcc] at HT HF
      clear hcc
      by_cases h0 : cc = 0
      · subst h0
        go_wp2_with (go_at_fn g; have hx := HT.out; refine hx.mono ?_; clear hx; rintro e w' ⟨rfl, hi'⟩)
        go_round
        case rel => exact ⟨k + 1, by omega, by go_num, hi', HF.out⟩
        case measure => simp [intOf]; omega
      · have e1 : ((cc : Int) != 0) = true := by simpa using h0
        go_wp2_with (go_at_fn g; have hx := HT.out; refine hx.mono ?_; clear hx; rintro e w' ⟨rfl, hi'⟩)
        go_ret
        have hf : firstC code L.length = cc := by rw [firstC_stays (k := k + 1) (by omega) (by rw [HF.out]; exact h0), HF.out]
        exact ⟨by rw [hf]; rfl, k + 1, by omega, hi', fun h => absurd (hf.symm.trans h) h0⟩
    · obtain rfl : k = L.length := by omega
      go_wp2
      go_ret
      exact ⟨by rw [hz]; rfl, L.length, Nat.le_refl _, hi, fun _ => rfl⟩
end Go.Proofs.YtplonecdaegfbaaGreatDoor.Ck
