/- How many statements a program has; which names there are, and whether one is twice; what is too large. (Written by genwhole.py.) What is wrong with one function. (Written by genfunc.py.) -/
import Derived.Test.YtplonecdaegfbaaGreatDoorKStmt3
import Derived.Maps.AppendAt
set_option linter.unusedSimpArgs false
set_option linter.unusedVariables false
namespace Go.Proofs.YtplonecdaegfbaaGreatDoor.Ck
open Go Go.RowKit Go.Proofs.YtplonecdaegfbaaGreatDoor

theorem stsV_take (l : List FT) (n : Nat) (h : n < l.length) : stsV (l.take (n + 1)) = stsV (l.take n) + cnts l[n].body := by
  induction l generalizing n with
  | nil => simp at h
  | cons F l ih =>
    cases n with
    | zero => rw [List.take_succ_cons, List.take_zero, List.take_zero, stsV, stsV]; simp [stsV]
    | succ n =>
      rw [List.take_succ_cons, List.take_succ_cons, stsV, stsV, ih n (by simpa using h), List.getElem_cons_succ]; omega
theorem stsV_le (l : List FT) (n : Nat) : stsV (l.take n) ≤ stsV l := by
  induction l generalizing n with
  | nil => simp [stsV]
  | cons F l ih =>
    cases n with
    | zero => rw [List.take_zero, stsV]; omega
    | succ n => rw [List.take_succ_cons, stsV, stsV]; have := ih n; omega
set_option maxHeartbeats 4000000 in
set_option maxRecDepth 100000 in
theorem statements_any {w0 : World} {a : Option Addr} {l : List FT} (hin : FsIn w0 0 a l) (hs : stsV l ≤ 4611686018427387904) (c : Nat) (w : World) (hp : Past w0 w) :
    Calls Tryz.prog 90 #[.slice a l.length c] w fun e w' => e = .returned (.int .i64 (stsV l : Nat)) ∧ Below w.heap.size w w' := by
  have HP := Lib.hid hp
  have HI := Lib.hid hin
  have HS := Lib.hid hs
  have hll := hin.len
  clear hp hin hs
  go_enter Tryz.func90, Tryz.ntmps90
  go_wp2
  go_loopw [2, 4, 7] (fun v _ i wr => ∃ n : Nat, n ≤ l.length ∧ i = .int .i64 n ∧ v = .int .i64 (stsV (l.take n) : Nat) ∧ Below w.heap.size w wr) (fun _ _ i _ => l.length - (intOf i).toNat)
  case atStart => exact ⟨0, Nat.zero_le _, rfl, by rw [List.take_zero]; rfl, Below.refl _ _⟩
  case round =>
    obtain ⟨n, hn, rfl, rfl, hb⟩ := hrel
    have HB := Lib.hid hb
    clear hb
    by_cases hlt : n < l.length
    · have hrow := HI.out.row n hlt
      have hrow' := hrow
      obtain ⟨kb, ko, rfl, -⟩ := hrow'
      rw [F.cells_is] at hrow
      obtain ⟨r0, r1, r2, r3, hkb⟩ := row_cells4 hrow (HP.out.on HB.out)
      have hcn := count_any (w0 := w0) (Szs l[n].body + 1) l[n].ba l[n].bc l[n].body (by omega) (HI.out.fs n hlt).bl (HI.out.fs n hlt).ss
      have hsm : cnts l[n].body ≤ 4611686018427387904 ∧ stsV (l.take n) + cnts l[n].body ≤ 4611686018427387904 := by
        have h1 := stsV_take l n hlt
        have h2 := stsV_le l (n + 1)
        have h3 := HS.out
        omega
      rw [wrap_small _ (by omega)] at hcn
      have HR : Hid (stsV (l.take (n + 1)) = stsV (l.take n) + cnts l[n].body) := Lib.hid (stsV_take l n hlt)
      obtain ⟨x, hx⟩ : ∃ x, stsV (l.take n) = x := ⟨_, rfl⟩
      obtain ⟨y, hy⟩ : ∃ y, cnts l[n].body = y := ⟨_, rfl⟩
      rw [hy] at hcn
      rw [hx, hy] at hsm HR
      rw [hx]
      have HC := Lib.hid hcn
      have w1 : IntKind.i64.wrap ((x : Int) + (y : Int)) = (x : Int) + (y : Int) := IntWalk.i64_in _ (by omega)
      clear hcn hrow hx hy
      go_wp2_with (go_at_call 135; refine (HC.out _ ?_).mono ?_; (exact (HP.out.on HB.out).alloc _); rintro e w2 ⟨rfl, hb2⟩; have HB2 := Lib.hid hb2; clear hb2)
      go_round
      case rel => exact ⟨n + 1, by omega, by go_num, by rw [HR.out]; go_num, step_on (bal HB.out _) HB2.out⟩
      case measure => simp [intOf]; omega
    · obtain rfl : n = l.length := by omega
      go_wp2
      go_ret
      exact ⟨by rw [List.take_length]; rfl, HB.out⟩
theorem rep_iff {L : List ByteArray} : repB L = false ↔ L.Nodup := by unfold repB; simp
theorem nodup_snoc {L : List ByteArray} {n : Nat} (h : n < L.length) : (L.take (n + 1)).Nodup ↔ (L.take n).Nodup ∧ L[n] ∉ L.take n := by
  rw [List.take_succ_eq_append_getElem h, List.nodup_append]
  constructor
  · rintro ⟨h1, _, h3⟩
    exact ⟨h1, fun hm => h3 _ hm _ (by simp) rfl⟩
  · rintro ⟨h1, h2⟩
    refine ⟨h1, by simp, fun a ha b hb e => ?_⟩
    simp at hb
    subst hb; subst e
    exact h2 ha
set_option maxHeartbeats 4000000 in
set_option maxRecDepth 100000 in
theorem repeats_any {w0 : World} {a : Option Addr} {L : List ByteArray} (hin : StrsIn w0 0 a L) (hl : L.length ≤ 9223372036854775807) (c : Nat) (hc : L.length ≤ c) (w : World) (hp : Past w0 w) :
    Calls Tryz.prog 92 #[.slice a L.length c] w fun e w' => e = .returned (.bool (repB L)) ∧ Below w.heap.size w w' := by
  have HP := Lib.hid hp
  have HI := Lib.hid hin
  clear hp hin
  go_enter Tryz.func92, Tryz.ntmps92
  go_wp2
  go_loop [3, 4, 7] (fun _ _ i => ∃ n : Nat, n ≤ L.length ∧ i = .int .i64 n ∧ Aside ((L.take n).Nodup)) (fun _ _ i => L.length - (intOf i).toNat)
  case atStart => exact ⟨0, Nat.zero_le _, rfl, by rw [List.take_zero]; exact List.nodup_nil⟩
  case round =>
    obtain ⟨n, hn, rfl, hnd⟩ := hrel
    by_cases hlt : n < L.length
    · obtain ⟨kb, ko, rfl, -, hc0⟩ := HI.out n hlt
      have r0 := below_keep HP.out (B := 0) _ _ (Nat.zero_le _) hc0
      have hkb := cell_lt r0
      have hcall := contains_any HI.out hl n c hn L[n] w HP.out
      clear hc0
      by_cases hm : L[n] ∈ L.take n
      · rw [decide_eq_true hm] at hcall
        have HC := Lib.hid hcall
        have HV : Hid (repB L = true) := Lib.hid (by
          cases h : repB L
          · have h1 := rep_iff.1 h
            have h2 : (L.take (n + 1)).Nodup := h1.sublist (List.take_sublist _ _)
            exact absurd hm ((nodup_snoc hlt).1 h2).2
          · rfl)
        clear hcall hm hnd
        go_wp2_with (go_at_call 33; have hx := HC.out; refine hx.mono ?_; clear hx; rintro e w' ⟨rfl, rfl⟩)
        go_ret
        exact ⟨by rw [HV.out]; rfl, Below.refl _ _⟩
      · rw [decide_eq_false hm] at hcall
        have HC := Lib.hid hcall
        have HN := Lib.hid ((nodup_snoc hlt).2 ⟨hnd.out, hm⟩)
        clear hcall hm hnd
        go_wp2_with (go_at_call 33; have hx := HC.out; refine hx.mono ?_; clear hx; rintro e w' ⟨rfl, rfl⟩)
        go_round
        case rel => exact ⟨n + 1, by omega, by go_num, HN.out⟩
        case measure => simp [intOf]; omega
    · obtain rfl : n = L.length := by omega
      have HV : Hid (repB L = false) := Lib.hid (rep_iff.2 (by have := hnd.out; rwa [List.take_length] at this))
      clear hnd
      go_wp2
      go_ret
      exact ⟨by rw [HV.out]; rfl, Below.refl _ _⟩
theorem own_strs {w : World} {B : Nat} {v : Value} {L : List ByteArray} (h : w.ownsRow B 9 1 v L.length (L.map Value.string)) : ∃ a c, v = .slice a L.length c ∧ L.length ≤ c ∧ StrsIn w 0 a L := by
  rcases h.2 with ⟨rfl, hn⟩ | ⟨g, cap, cur, rfl, hB, hg, hn, hm, hs, ht⟩
  · exact ⟨none, 0, by rw [hn], by omega, fun i hi => by omega⟩
  · refine ⟨some ⟨g, 0, none⟩, cap, rfl, hn, fun i hi => ⟨g, 0, rfl, Nat.zero_le _, ?_⟩⟩
    have h1 := h.cellAt i (by omega)
    rw [Nat.zero_add, h1, List.getElem?_map, List.getElem?_eq_getElem hi]; rfl
theorem str_info : (Tryz.prog.info? 9).map (fun i => (i.zero, i.size, i.bytes)) = some (some (.string { data := #[] }), 1, 16) := by kernel_rfl
set_option maxHeartbeats 4000000 in
set_option maxRecDepth 100000 in
theorem functions_any {w0 : World} {a : Option Addr} {l : List FT} (hin : FsIn w0 0 a l) (hsm : l.length ≤ 1000) (c : Nat) (w : World) (hp : Past w0 w) :
    Calls Tryz.prog 93 #[.slice a l.length c] w fun e w' => (∃ a' c', e = .returned (.slice a' (l.map (·.name)).length c') ∧ (l.map (·.name)).length ≤ c' ∧ StrsIn w' 0 a' (l.map (·.name))) ∧ Below w.heap.size w w' := by
  obtain ⟨ei, hi, hz0, hz1, hz2⟩ := info_parts str_info
  have HP := Lib.hid hp
  have HI := Lib.hid hin
  have hll := hin.len
  have HN0 := Lib.hid (World.ownsRow_nil w w.heap.size 9 1)
  clear hp hin
  go_enter Tryz.func93, Tryz.ntmps93
  go_wp2
  go_loopw [2, 4, 7] (fun v _ i wr => ∃ n : Nat, n ≤ l.length ∧ i = .int .i64 n ∧ wr.ownsRow w.heap.size 9 1 v n ((l.take n).map fun F => .string F.name) ∧ Below w.heap.size w wr) (fun _ _ i _ => l.length - (intOf i).toNat)
  case atStart => exact ⟨0, Nat.zero_le _, rfl, by rw [List.take_zero]; exact HN0.out, Below.refl _ _⟩
  case round =>
    clear HN0
    obtain ⟨n, hn, rfl, ho, hb⟩ := hrel
    have HB := Lib.hid hb
    have HO := Lib.hid ho
    clear hb ho
    by_cases hlt : n < l.length
    · have hrow := HI.out.row n hlt
      have hrow' := hrow
      obtain ⟨kb, ko, rfl, -⟩ := hrow'
      rw [F.cells_is] at hrow
      obtain ⟨r0, r1, r2, r3, hkb⟩ := row_cells4 hrow (HP.out.on HB.out)
      have HT : Hid ((l.take (n + 1)).map (fun F => Value.string F.name) = (l.take n).map (fun F => Value.string F.name) ++ [.string l[n].name]) := Lib.hid (by rw [List.take_succ_eq_append_getElem hlt, List.map_append]; rfl)
      clear hrow
      go_wp2_with (at_builtin; refine wpList_append_own_at _ rfl _ _ 32 rfl w.heap.size 9 ei _ 1 16 Tryz.underlying32 hi hz0 hz1 hz2 rfl (by decide) _ n _ rfl ((HO.out.alloc _).alloc _) ⟨wr.heap.size + 1, 0, none⟩ 1 1 [.string l[n].name] rfl rfl (fun j u hj => by match j, hj with | 0, hj => (simp at hj; subst hj; simp [Addr.add]) | j + 1, hj => simp at hj) (by simp [Value.oneCell']) (by unfold maxLen; omega) (by omega) (by have := HB.out.size; simp; omega) ?_; intro v' w3 hown hgrow hnil hat; have HO3 := Lib.hid hown; have HG3 := Lib.hid hgrow; clear hown hgrow hnil hat)
      go_round
      case rel => exact ⟨n + 1, by omega, by go_num, by rw [HT.out]; exact HO3.out, Below.grown (bal (bal HB.out _) _) HG3.out (by have := HB.out.size; simp; omega) (fun k hk => (HO.out.lt k hk).1)⟩
      case measure => simp [intOf]; omega
    · obtain rfl : n = l.length := by omega
      go_wp2
      go_ret
      refine ⟨?_, HB.out⟩
      have h := HO.out
      rw [List.take_length] at h
      rw [show (l.map fun F => Value.string F.name) = (l.map (·.name)).map Value.string by rw [List.map_map]; rfl, ← List.length_map (·.name)] at h
      obtain ⟨a', c', hv, hc, hs⟩ := own_strs h
      exact ⟨a', c', by rw [← hv]; rfl, hc, hs⟩
set_option maxHeartbeats 4000000 in
set_option maxRecDepth 100000 in
theorem large1_any (b : ByteArray) (s : Int) (w : World) : Calls Tryz.prog 137 #[.agg #[.string b, .int .i64 s]] w fun e w' => e = .returned (.bool (decide (64 < s))) ∧ Below w.heap.size w w' := by
  go_enter Tryz.func137, Tryz.ntmps137
  go_wp2
  go_ret
  exact ⟨rfl, bal (bre w) _⟩
set_option maxHeartbeats 4000000 in
set_option maxRecDepth 100000 in
theorem idxD_any {w0 : World} {F : FT} (hin : F.In w0 0) (w : World) (hp : Past w0 w) :
    Calls Tryz.prog 191 #[.slice F.va F.vars.length F.vc, .func (.func 137) #[] #[]] w fun e w' => (∃ r : Int, e = .returned (.int .i64 r) ∧ decide (0 ≤ r) = (F.vars.any fun d => decide (64 < d.2))) ∧ Below w.heap.size w w' := by
  have HP := Lib.hid hp
  have HI := Lib.hid hin
  have hll := hin.vl
  clear hp hin
  go_enter Tryz.func191, Tryz.ntmps191
  go_wp2
  go_loopw [5, 8] (fun _ i wr => ∃ n : Nat, n ≤ F.vars.length ∧ i = .int .i64 n ∧ Below w.heap.size w wr ∧ ∀ j (hj : j < n) (hl : j < F.vars.length), F.vars[j].2 ≤ 64) (fun _ i _ => F.vars.length - (intOf i).toNat)
  case atStart => exact ⟨0, Nat.zero_le _, rfl, Below.refl _ _, fun j hj => by omega⟩
  case round =>
    obtain ⟨n, hn, rfl, hb, hno⟩ := hrel
    have HB := Lib.hid hb
    have HN := Lib.hid hno
    clear hb hno
    by_cases hlt : n < F.vars.length
    · have hrow := HI.out.vs n hlt
      have hrow' := hrow
      obtain ⟨kb, ko, rr, -⟩ := hrow'
      rw [rr] at hrow ⊢
      obtain ⟨r0, r1, hkb⟩ := row_cells2 hrow (HP.out.on HB.out)
      have hcall := large1_any F.vars[n].1 F.vars[n].2 wr
      clear hrow rr
      by_cases he : 64 < F.vars[n].2
      · rw [decide_eq_true he] at hcall
        have HX := Lib.hid hcall
        have HE : Hid ((F.vars.any fun d => decide (64 < d.2)) = true) := Lib.hid (List.any_eq_true.2 ⟨F.vars[n], List.getElem_mem hlt, decide_eq_true he⟩)
        clear hcall he
        go_wp2_with (go_at_call 137; have hx := HX.out; refine hx.mono ?_; clear hx; rintro e w1 ⟨rfl, hb1⟩)
        go_ret
        exact ⟨⟨n, rfl, by rw [HE.out]; exact decide_eq_true (by omega)⟩, step_on HB.out hb1⟩
      · rw [decide_eq_false he] at hcall
        have HX := Lib.hid hcall
        have HE : Hid (∀ j (hj : j < n + 1) (hl : j < F.vars.length), F.vars[j].2 ≤ 64) := Lib.hid (fun j hj hl => by
          by_cases e : j = n
          · subst e; omega
          · exact HN.out j (by omega) hl)
        clear hcall he
        go_wp2_with (go_at_call 137; have hx := HX.out; refine hx.mono ?_; clear hx; rintro e w1 ⟨rfl, hb1⟩)
        go_round
        case rel => exact ⟨n + 1, by omega, by go_num, step_on HB.out hb1, HE.out⟩
        case measure => simp [intOf]; omega
    · obtain rfl : n = F.vars.length := by omega
      have HE : Hid ((F.vars.any fun d => decide (64 < d.2)) = false) := Lib.hid (by
        rw [List.any_eq_false]
        intro d hd
        obtain ⟨j, hj, rfl⟩ := List.mem_iff_getElem.1 hd
        have := HN.out j hj hj
        simp; omega)
      go_wp2
      go_ret
      exact ⟨⟨-1, rfl, by rw [HE.out]; rfl⟩, HB.out⟩
set_option maxHeartbeats 4000000 in
set_option maxRecDepth 100000 in
theorem contD_any {w0 : World} {F : FT} (hin : F.In w0 0) (w : World) (hp : Past w0 w) :
    Calls Tryz.prog 136 #[.slice F.va F.vars.length F.vc, .func (.func 137) #[] #[]] w fun e w' => e = .returned (.bool (F.vars.any fun d => decide (64 < d.2))) ∧ Below w.heap.size w w' := by
  have HX := Lib.hid (idxD_any hin w hp)
  clear hp hin
  go_enter Tryz.func136, Tryz.ntmps136
  go_wp2_with (go_at_call 191; have hx := HX.out; refine hx.mono ?_; clear hx; rintro e w1 ⟨⟨r, rfl, hr⟩, hb1⟩; have HR := Lib.hid hr; clear hr)
  all_goals go_ret
  all_goals exact ⟨by rw [← HR.out]; rfl, hb1⟩
set_option maxHeartbeats 4000000 in
set_option maxRecDepth 100000 in
theorem large_any {w0 : World} {F : FT} (hin : F.In w0 0) (hsm : F.params.length ≤ 1000000000 ∧ F.vars.length ≤ 1000000000) (w : World) (hp : Past w0 w) :
    Calls Tryz.prog 97 #[.agg #[.string F.name, .slice F.pa F.params.length F.pc, .slice F.va F.vars.length F.vc, .slice F.ba F.body.length F.bc]] w fun e w' => e = .returned (.bool (largeB F)) ∧ Below w.heap.size w w' := by
  have HP := Lib.hid hp
  have HX := Lib.hid (fun (W : World) (hW : Past w0 W) => contD_any hin W hW)
  obtain ⟨q, hq⟩ : ∃ q, (F.vars.any fun d => decide (64 < d.2)) = q := ⟨_, rfl⟩
  rw [hq] at HX
  obtain ⟨p, hpp⟩ : ∃ p, F.params.length = p := ⟨_, rfl⟩
  obtain ⟨v, hv⟩ : ∃ v, F.vars.length = v := ⟨_, rfl⟩
  have HV : Hid (largeB F = (decide (24 < p + v) || q)) := Lib.hid (by unfold largeB; rw [hq, hpp, hv])
  rw [hpp, hv] at hsm
  rw [hv] at HX
  rw [hpp, hv]
  clear hp hin hq hpp hv
  by_cases h : 24 < p + v
  · have e1 : decide (24 < (p : Int) + (v : Int)) = true := by simp; omega
    have e2 : decide (24 < p + v) = true := decide_eq_true h
    rw [e2] at HV
    clear h
    go_enter Tryz.func97, Tryz.ntmps97
    go_wp2
    go_ret
    exact ⟨by rw [HV.out]; rfl, bal (bre w) _⟩
  · have e1 : decide (24 < (p : Int) + (v : Int)) = false := by simp; omega
    have e2 : decide (24 < p + v) = false := decide_eq_false h
    rw [e2] at HV
    clear h
    go_enter Tryz.func97, Tryz.ntmps97
    go_wp2_with (go_at_call 136; refine (HX.out _ ?_).mono ?_; (exact HP.out.alloc _); rintro e w1 ⟨rfl, hb1⟩; have HB1 := Lib.hid hb1; clear hb1)
    go_ret
    exact ⟨by rw [HV.out]; rfl, step_on (bal (bre w) _) HB1.out⟩
end Go.Proofs.YtplonecdaegfbaaGreatDoor.Ck

set_option linter.unusedSimpArgs false
set_option linter.unusedVariables false
namespace Go.Proofs.YtplonecdaegfbaaGreatDoor.Ck
open Go Go.RowKit Go.Proofs.YtplonecdaegfbaaGreatDoor

theorem clone_any {w0 : World} {a : Option Addr} {L : List ByteArray} (hin : StrsIn w0 0 a L) (hl : L.length ≤ 1000000000) (c : Nat) (w : World) (hp : Past w0 w) :
    Calls Tryz.prog 138 #[.slice a L.length c] w fun e w' => ∃ v', e = .returned v' ∧ w'.ownsRow w.heap.size 9 1 v' L.length (L.map Value.string) ∧ Below w.heap.size w w' := by
  rcases Nat.eq_zero_or_pos L.length with h0 | h0
  · have hL : L = [] := List.length_eq_zero_iff.1 h0
    subst hL
    cases a with
    | none => exact (Tryz.slices_Clone_string_nil 0 c w).mono fun e w' h => ⟨_, h.1, by rw [h.2]; exact World.ownsRow_nil _ _ _ _, by rw [h.2]; exact Below.refl _ _⟩
    | some x => exact (Tryz.slices_Clone_string_zero x c w).mono fun e w' ⟨v, h1, h2, _, h4⟩ => ⟨v, h1, h2, h4⟩
  · obtain ⟨b, o, rfl, -, -⟩ := hin 0 h0
    have := Tryz.slices_Clone_string b o L.length c L w (Nat.le_refl _) (by omega) (fun j hj => strs_getD hin hp j hj)
    rw [List.take_length] at this
    exact this.mono fun e w' ⟨v, h1, h2, _, h4⟩ => ⟨v, h1, h2, h4⟩
set_option maxHeartbeats 4000000 in
set_option maxRecDepth 100000 in
theorem declared_any {w0 : World} {F : FT} (hin : F.In w0 0) (hsm : F.params.length ≤ 1000000000 ∧ F.vars.length ≤ 1000000000) (w : World) (hp : Past w0 w) :
    Calls Tryz.prog 99 #[.agg #[.string F.name, .slice F.pa F.params.length F.pc, .slice F.va F.vars.length F.vc, .slice F.ba F.body.length F.bc]] w fun e w' => (∃ a' c', e = .returned (.slice a' (declared F).length c') ∧ (declared F).length ≤ c' ∧ StrsIn w' 0 a' (declared F)) ∧ Below w.heap.size w w' := by
  obtain ⟨ei, hi, hz0, hz1, hz2⟩ := info_parts str_info
  have HP := Lib.hid hp
  have HI := Lib.hid hin
  have HC := Lib.hid (fun (W : World) (hW : Past w0 W) => clone_any hin.ps hsm.1 F.pc W hW)
  obtain ⟨p, hpl⟩ : ∃ p, F.params.length = p := ⟨_, rfl⟩
  have HPL := Lib.hid hpl
  rw [hpl] at HC hsm ⊢
  clear hp hin hpl
  go_enter Tryz.func99, Tryz.ntmps99
  go_wp2_with (go_at_call 138; refine (HC.out _ ?_).mono ?_; (exact HP.out.alloc _); rintro e w1 ⟨v1, rfl, ho1, hb1⟩; have c2 := bk_cell (k := 2) (bl hb1 (nb _ rfl)) rfl; have hl2 := lt_blk (bl hb1 (nb _ rfl)); have HO1 : Hid (w1.ownsRow w.heap.size 9 1 v1 p (F.params.map Value.string)) := Lib.hid (by obtain ⟨h1, h2⟩ := ho1; refine ⟨h1, ?_⟩; rcases h2 with h2 | ⟨g, cap, cur, e1, e2, e3⟩; (exact Or.inl h2); (exact Or.inr ⟨g, cap, cur, e1, by simp at e2; omega, e3⟩)); have HB1 : Hid (Below w.heap.size w w1) := Lib.hid (step_on (bal (bre w) _) hb1); clear ho1 hb1)
  go_loopw [3, 5, 12] (fun v _ i wr => ∃ n : Nat, n ≤ F.vars.length ∧ i = .int .i64 n ∧ wr.ownsRow w.heap.size 9 1 v (p + n) (F.params.map Value.string ++ (F.vars.take n).map fun d => .string d.1) ∧ Below w.heap.size w wr) (fun _ _ i _ => F.vars.length - (intOf i).toNat)
  case atStart => exact ⟨0, Nat.zero_le _, rfl, by rw [List.take_zero]; simpa using HO1.out, HB1.out⟩
  case round =>
    obtain ⟨n, hn, rfl, ho, hb⟩ := hrel
    have HB := Lib.hid hb
    have HO := Lib.hid ho
    clear hb ho
    by_cases hlt : n < F.vars.length
    · have hrow := HI.out.vs n hlt
      have hrow' := hrow
      obtain ⟨kb, ko, rr, -⟩ := hrow'
      rw [rr] at hrow ⊢
      obtain ⟨r0, r1, hkb⟩ := row_cells2 hrow (HP.out.on HB.out)
      have HT : Hid ((F.vars.take (n + 1)).map (fun d => Value.string d.1) = (F.vars.take n).map (fun d => Value.string d.1) ++ [.string F.vars[n].1]) := Lib.hid (by rw [List.take_succ_eq_append_getElem hlt, List.map_append]; rfl)
      clear hrow rr
      go_wp2_with (at_builtin; refine wpList_append_own_at _ rfl _ _ 32 rfl w.heap.size 9 ei _ 1 16 Tryz.underlying32 hi hz0 hz1 hz2 rfl (by decide) _ (p + n) _ rfl ((HO.out.alloc _).alloc _) ⟨wr.heap.size + 1, 0, none⟩ 1 1 [.string F.vars[n].1] rfl rfl (fun j u hj => by match j, hj with | 0, hj => (simp at hj; subst hj; simp [Addr.add]) | j + 1, hj => simp at hj) (by simp [Value.oneCell']) (by unfold maxLen; omega) (by omega) (by have := HB.out.size; simp; omega) ?_; intro v' w3 hown hgrow hnil hat; have HO3 := Lib.hid hown; have HG3 := Lib.hid hgrow; clear hown hgrow hnil hat)
      go_roundw
      case rel => exact ⟨n + 1, by omega, by go_num, by rw [HT.out, ← List.append_assoc]; exact HO3.out, Below.grown (bal (bal HB.out _) _) HG3.out (by have := HB.out.size; simp; omega) (fun k hk => (HO.out.lt k hk).1)⟩
      case measure => simp [intOf]; omega
    · obtain rfl : n = F.vars.length := by omega
      go_wp2
      go_ret
      refine ⟨?_, HB.out⟩
      have h := HO.out
      rw [List.take_length, show F.params.map Value.string ++ F.vars.map (fun d => Value.string d.1) = (declared F).map Value.string by unfold declared; rw [List.map_append, List.map_map]; rfl, show p + F.vars.length = (declared F).length by unfold declared; rw [List.length_append, List.length_map, HPL.out]] at h
      obtain ⟨a', c', hv, hc, hs⟩ := own_strs h
      exact ⟨a', c', by rw [← hv]; rfl, hc, hs⟩
def e5 (b : Bool) : Nat := if b then 5 else 0
def e6 (b : Bool) : Nat := if b then 6 else 0
set_option maxHeartbeats 4000000 in
set_option maxRecDepth 100000 in
theorem fn1_any {w0 : World} {F : FT} (hin : F.In w0 0) (hsm : F.params.length ≤ 1000000000 ∧ F.vars.length ≤ 1000000000) (bf : Nat) (w : World) (hp : Past w0 w) (hf : FBox w bf F) :
    Calls Tryz.prog 96 #[.pointer (some ⟨bf, 0, none⟩)] w fun e w' => e = .returned (.int .i64 (e5 (largeB F) : Nat)) ∧ Below w.heap.size w w' := by
  have HX := Lib.hid (large_any hin hsm w hp)
  obtain ⟨f0, f1, f2, f3, hlf⟩ := fcells hf
  clear hp hin hf
  obtain ⟨q, hq⟩ : ∃ q, largeB F = q := ⟨_, rfl⟩
  rw [hq] at HX ⊢
  clear hq
  cases q
  all_goals
    go_enter Tryz.func96, Tryz.ntmps96
    go_wp2_with (first | (go_at_call 38; refine (when_any _ _ _).mono ?_; rintro e w' ⟨rfl, rfl⟩) | (go_at_call 97; have hx := HX.out; refine hx.mono ?_; clear hx; rintro e w1 ⟨rfl, hb1⟩; have HB1 := Lib.hid hb1; clear hb1))
    go_ret
    exact ⟨rfl, HB1.out⟩
set_option maxHeartbeats 4000000 in
set_option maxRecDepth 100000 in
theorem fn2_any {w0 : World} {F : FT} (hin : F.In w0 0) (hsm : F.params.length ≤ 1000000000 ∧ F.vars.length ≤ 1000000000) (bf : Nat) (w : World) (hp : Past w0 w) (hf : FBox w bf F) :
    Calls Tryz.prog 98 #[.pointer (some ⟨bf, 0, none⟩)] w fun e w' => e = .returned (.int .i64 (e6 (repB (declared F)) : Nat)) ∧ Below w.heap.size w w' := by
  have HX := Lib.hid (declared_any hin hsm w hp)
  have HDL : Hid ((declared F).length ≤ 9223372036854775807) := Lib.hid (by unfold declared; rw [List.length_append, List.length_map]; omega)
  obtain ⟨f0, f1, f2, f3, hlf⟩ := fcells hf
  clear hp hin hf
  obtain ⟨q, hq⟩ : ∃ q, repB (declared F) = q := ⟨_, rfl⟩
  have HQ := Lib.hid hq
  rw [hq]
  clear hq
  cases q
  all_goals
    go_enter Tryz.func98, Tryz.ntmps98
    go_wp2_with (first | (go_at_call 38; refine (when_any _ _ _).mono ?_; rintro e w' ⟨rfl, rfl⟩) | (go_at_call 92; have hx := HR.out; refine hx.mono ?_; clear hx; rintro e w2 ⟨rfl, hb2⟩; have HB2 := Lib.hid (step_on HB1.out hb2); clear hb2) | (go_at_call 99; have hx := HX.out; refine hx.mono ?_; clear hx; rintro e w1 ⟨⟨a1, c1, rfl, hc1, hs1⟩, hb1⟩; have hr := repeats_any (w0 := w1) hs1 HDL.out c1 hc1 w1 (Below.refl _ _); rw [HQ.out] at hr; have HR := Lib.hid hr; have HB1 := Lib.hid hb1; clear hb1 hs1 hc1 hr))
    go_ret
    exact ⟨rfl, HB2.out⟩
set_option maxHeartbeats 4000000 in
set_option maxRecDepth 100000 in
theorem asker_any {w0 : World} {a : Option Addr} {l : List FT} (hin : FsIn w0 0 a l) (c mb i : Nat) (hi : i < l.length) (w : World) (hp : Past w0 w) :
    Calls Tryz.prog 102 #[.agg #[.slice a l.length c, .map (some mb)], .int .i64 i] w fun e w' => e = .returned (askV w.heap.size (w.heap.size + 1) (w.heap.size + 2)) ∧ Below w.heap.size w w' ∧ XBox w' w.heap.size a l.length c mb ∧ Box w' (w.heap.size + 1) (.int .i64 i) 3 ∧ FBox w' (w.heap.size + 2) l[i] := by
  have hrow := hin.row i hi
  obtain ⟨kb, ko, rfl, -⟩ := hrow
  have hrow := hin.row i hi
  rw [F.cells_is] at hrow
  obtain ⟨r0, r1, r2, r3, hkb⟩ := row_cells4 hrow hp
  have hn := hin.len
  clear hrow hp hin
  go_enter Tryz.func102, Tryz.ntmps102
  go_wp2
  go_ret
  exact ⟨rfl, bal (bal (bal (bre w) _) _) _, ob _ (ob _ (nb _ rfl)), ob _ (nb _ (by simp)), nb _ (by simp)⟩
set_option maxHeartbeats 4000000 in
set_option maxRecDepth 100000 in
theorem fn3_any {w0 : World} {a : Option Addr} {l : List FT} (hin : FsIn w0 0 a l) (c mb i bx bi bf : Nat) (hi : i < l.length) (hm : w0.heap.size ≤ mb) (nx : bx ≠ mb) (ni : bi ≠ mb) (nf : bf ≠ mb) (seen : List Int) (hl : seen.length + cnts l[i].body ≤ 1000000) (w : World) (hp0 : Past w0 w) (hx : XBox w bx a l.length c mb) (hib : Box w bi (.int .i64 i) 3) (hf : FBox w bf l[i]) (hT0 : Tg mb w seen) :
    Calls Tryz.prog 100 #[.pointer (some ⟨bf, 0, none⟩), .pointer (some ⟨bx, 0, none⟩), .pointer (some ⟨bi, 0, none⟩)] w (Ans mb w (chkSs l i l[i] false l[i].body seen)) := by
  obtain ⟨f0, f1, f2, f3, hlf⟩ := fcells hf
  obtain ⟨x0, x1, hlx⟩ := xcells hx
  have i0 := hib.c0
  have hli := hib.lt
  have HC : Hid (∀ W, Gr mb w W → (W.cell? ⟨bf, 3, none⟩ = some (.slice l[i].ba l[i].body.length l[i].bc) ∧ W.cell? ⟨bx, 0, none⟩ = some (.slice a l.length c) ∧ W.cell? ⟨bx, 1, none⟩ = some (.map (some mb)) ∧ W.cell? ⟨bi, 0, none⟩ = some (.int .i64 i))) := Lib.hid (fun W hW => ⟨gr_cell hW nf f3, gr_cell hW nx x0, gr_cell hW nx x1, gr_cell hW ni i0⟩)
  have hAS := fun (W : World) (hW : Gr mb w W) => asker_any hin c mb i hi W (gr_past hp0 hW hm)
  have HAS := Lib.hid hAS
  have HM := Lib.hid hm
  have HP := Lib.hid hp0
  have HLT := Lib.hid hT0.lt
  have hFX : ∀ b1 b2 b3 : Nat, b1 ≠ mb → b2 ≠ mb → b3 ≠ mb → Fix w0 a l c mb i b1 b2 b3 l[i] := fun b1 b2 b3 h1 h2 h3 => ⟨h1, h2, h3, hm, hin, hin.fs i hi, hi⟩
  have HFIX := Lib.hid hFX
  have hST := fun (b1 b2 b3 : Nat) (X : Fix w0 a l c mb i b1 b2 b3 l[i]) (W : World) (hE : Env w0 a l c mb i b1 b2 b3 l[i] W) (hT : Tg mb W seen) => stmts_any X _ l[i].ba l[i].bc l[i].body (Nat.lt_succ_self _) (hin.fs i hi).bl (hin.fs i hi).ss false seen W hl hE hT
  have HST := Lib.hid hST
  have hp : Hid (Gr mb w w.drew) := Lib.hid (gr_below ((Below.refl w.heap.size w).drew))
  have hT : Hid (Tg mb w.drew seen) := Lib.hid (hT0.on ((Below.refl w.heap.size w).drew))
  clear f0 f1 f2 f3 x0 x1 i0 hAS hFX hST hT0 hp0 hx hib hf hl hm hin nx ni nf
  go_enter Tryz.func100, Tryz.ntmps100
  go_wp2
  refine wp_region_noPanic ?_
  refine wp_region_held_drew (S := fun w' => w'.cell? ⟨bf, 3, none⟩ = some (.slice l[i].ba l[i].body.length l[i].bc) ∧ w'.cell? ⟨bx, 0, none⟩ = some (.slice a l.length c) ∧ w'.cell? ⟨bx, 1, none⟩ = some (.map (some mb)) ∧ w'.cell? ⟨bi, 0, none⟩ = some (.int .i64 i)) (by kernel_rfl) ?_ (fun hHeld => ?_)
  · with_reducible exact HC.out _ hp.out
  refine wpAnyH_take (i := 0) (v := ?_) (opAt rfl) (by kernel_rfl) (by kernel_rfl) (by kernel_rfl) (fun _ _ _ h => h) (Or.inl ⟨by rfl, ?_⟩) (by assumption) ?_
  rotate_left
  · intro w' hSw; (try dsimp only at hSw); go_simp; (try with_reducible rfl)
  try simp only [Act.put, List.setIfInBounds_toArray, List.set_cons_zero, List.set_cons_succ]
  refine wpAnyH_take (i := 1) (v := ?_) (opAt rfl) (by kernel_rfl) (by kernel_rfl) (by kernel_rfl) (fun _ _ _ h => h) (Or.inl ⟨by rfl, ?_⟩) (by assumption) ?_
  rotate_left
  · intro w' hSw; (try dsimp only at hSw); go_simp; (try with_reducible rfl)
  try simp only [Act.put, List.setIfInBounds_toArray, List.set_cons_zero, List.set_cons_succ]
  refine wpAnyH_take (i := 2) (v := ?_) (opAt rfl) (by kernel_rfl) (by kernel_rfl) (by kernel_rfl) (fun _ _ _ h => h) (Or.inl ⟨by rfl, ?_⟩) (by assumption) ?_
  rotate_left
  · intro w' hSw; (try dsimp only at hSw); go_simp; (try with_reducible rfl)
  try simp only [Act.put, List.setIfInBounds_toArray, List.set_cons_zero, List.set_cons_succ]
  refine wpAnyH_take (i := 3) (v := ?_) (opAt rfl) (by kernel_rfl) (by kernel_rfl) (by kernel_rfl) (fun _ _ _ h => h) (Or.inl ⟨by rfl, ?_⟩) (by assumption) ?_
  rotate_left
  · intro w' hSw; (try dsimp only at hSw); go_simp; (try with_reducible rfl)
  try simp only [Act.put, List.setIfInBounds_toArray, List.set_cons_zero, List.set_cons_succ]
  refine wpAnyH_ready (rs := [4]) (by kernel_rfl) (by simp) ?_
  refine AllReadyH.cons (opAt rfl) (fun K hK => ?_) AllReadyH.nil
  go_simp
  go_at_call 102; ((with_reducible refine (HAS.out _ hp.out).mono ?_); rintro e wk ⟨rfl, hb, hx1, hi1, hf1⟩); have HEV := Lib.hid (And.intro hx1 (And.intro hi1 hf1)); have hTk := Lib.hid (hT.out.on hb); have HG1 := Lib.hid (gr_on hp.out hb); clear hp hT hb hx1 hi1 hf1; have hp := HG1
  (try go_wp2_with fail)
  refine hK.out _ _ (HC.out _ hp.out) (fun hHeld2 => ?_)
  clear hK K hHeld
  have hHeld := hHeld2
  clear hHeld2
  try simp only [Act.put, List.setIfInBounds_toArray, List.set_cons_zero, List.set_cons_succ]
  refine wpAnyH_ready (rs := [5]) (by kernel_rfl) (by simp) ?_
  refine AllReadyH.cons (opAt rfl) (fun K hK => ?_) AllReadyH.nil
  go_simp
  go_at_call 101; (refine (HST.out _ _ _ ?_ wk ?_ hTk.out).mono ?_); (exact HFIX.out _ _ _ (by have := HLT.out; first | omega | (simp; omega)) (by have := HLT.out; first | omega | (simp; omega)) (by have := HLT.out; first | omega | (simp; omega))); (exact ⟨gr_past HP.out hp.out HM.out, HEV.out.1, HEV.out.2.1, HEV.out.2.2⟩); intro e wk2 hA; have HQ := Lib.hid hA; (have hA2 := hA); (obtain ⟨rfl, hg, -⟩ := hA2); have hq := Lib.hid (gr_trans hp.out hg); clear hp hA hg; have hp := hq; clear hq
  (try go_wp2_with fail)
  refine hK.out _ _ (HC.out _ hp.out) (fun hHeld2 => ?_)
  clear hK K hHeld
  have hHeld := hHeld2
  clear hHeld2
  try simp only [Act.put, List.setIfInBounds_toArray, List.set_cons_zero, List.set_cons_succ]
  refine wpAnyH_take (i := 6) (v := ?_) (opAt rfl) (by kernel_rfl) (by kernel_rfl) (by kernel_rfl) (fun _ _ _ h => h) (Or.inl ⟨by rfl, ?_⟩) (by assumption) ?_
  rotate_left
  · intro w' hSw; (try dsimp only at hSw); go_simp; (try with_reducible rfl)
  try simp only [Act.put, List.setIfInBounds_toArray, List.set_cons_zero, List.set_cons_succ]
  refine wpAnyH_done (by kernel_rfl) ?_ _
  refine NoPanic.normal ?_
  go_wp2
  go_ret
  exact HQ.out.re HG1.out rfl rfl (fun _ => rfl)
theorem fn_code (l : List FT) (i : Nat) (F : FT) (seen : List Int) (r : Nat × List Int) (h : chkSs l i F false F.body seen = r) : (fnF l i F seen).1 = firstC (cd [e5 (largeB F), e6 (repB (declared F)), r.1]) 3 ∧ ((fnF l i F seen).1 = 0 → (fnF l i F seen).2 = r.2) := by
  show _ = orE (orE (orE 0 (e5 (largeB F))) (e6 (repB (declared F)))) r.1 ∧ _
  unfold fnF
  cases largeB F
  · cases repB (declared F)
    · simp [h, orE, e5, e6]
    · simp [orE, e5, e6]
  · simp [orE, e5, e6]
set_option maxHeartbeats 4000000 in
set_option maxRecDepth 100000 in
theorem function_any {w0 : World} {a : Option Addr} {l : List FT} (hin : FsIn w0 0 a l) (c mb i : Nat) (hi : i < l.length) (hm : w0.heap.size ≤ mb) (hsm : l[i].params.length ≤ 1000000000 ∧ l[i].vars.length ≤ 1000000000) (seen : List Int) (hl : seen.length + cnts l[i].body ≤ 1000000) (w : World) (hp : Past w0 w) (hT0 : Tg mb w seen) :
    Calls Tryz.prog 59 #[.agg #[.slice a l.length c, .map (some mb)], .int .i64 i] w (Ans mb w (fnF l i l[i] seen)) := by
  obtain ⟨r, hr⟩ : ∃ r, chkSs l i l[i] false l[i].body seen = r := ⟨_, rfl⟩
  have HV := Lib.hid (fn_code l i l[i] seen r hr)
  have h3 := fun (b1 b2 b3 : Nat) (n1 : b1 ≠ mb) (n2 : b2 ≠ mb) (n3 : b3 ≠ mb) => fn3_any hin c mb i b1 b2 b3 hi hm n1 n2 n3 seen hl
  rw [hr] at h3
  have H3 := Lib.hid h3
  have HI := Lib.hid hin
  have HP := Lib.hid hp
  have HT := Lib.hid hT0
  have HM := Lib.hid hm
  have hrow := hin.row i hi
  obtain ⟨kb, ko, rfl, -⟩ := hrow
  have hrow := hin.row i hi
  rw [F.cells_is] at hrow
  obtain ⟨r0, r1, r2, r3, hkb⟩ := row_cells4 hrow hp
  have hn := hin.len
  clear hrow hp hin hT0 hm hl hr h3
  go_enter Tryz.func59, Tryz.ntmps59
  go_wp2_with (go_at_call 35; refine (firstOf_t mb [(96, #[.pointer (some ⟨w.heap.size + 2, 0, none⟩)]), (98, #[.pointer (some ⟨w.heap.size + 2, 0, none⟩)]), (100, #[.pointer (some ⟨w.heap.size + 2, 0, none⟩), .pointer (some ⟨w.heap.size, 0, none⟩), .pointer (some ⟨w.heap.size + 1, 0, none⟩)])] (cd [e5 (largeB l[i]), e6 (repB (declared l[i])), r.1]) (stl [seen, seen, seen, r.2]) _ _ (by show 3 ≤ 100; decide) ?_ ?_ ?_ ?_ ?_).mono ?_; (have := HT.out.lt; simp; omega); (intro k h; match k, h with | 0, _ => exact enters_of Tryz.func96 (by kernel_rfl) rfl | 1, _ => exact enters_of Tryz.func98 (by kernel_rfl) rfl | 2, _ => exact enters_of Tryz.func100 (by kernel_rfl) rfl | k + 3, h => exact absurd h (by simp)); (intro k h; match k, h with | 0, _ => (refine bk_cell (nb _ (by simp)) ?_; rfl) | 1, _ => (refine bk_cell (nb _ (by simp)) ?_; rfl) | 2, _ => (refine bk_cell (nb _ (by simp)) ?_; rfl) | k + 3, h => exact absurd h (by simp)); (intro k h W hz hW hT; match k, h with | 0, _ => exact (fn1_any (HI.out.fs i hi) hsm _ W (gr_past ((((HP.out.alloc _).alloc _).alloc _).alloc _) hW HM.out) (gr_block hW (by have := HT.out.lt; omega) (ob _ (nb _ (by simp))))).mono fun e w' h => hT.quiet h | 1, _ => exact (fn2_any (HI.out.fs i hi) hsm _ W (gr_past ((((HP.out.alloc _).alloc _).alloc _).alloc _) hW HM.out) (gr_block hW (by have := HT.out.lt; omega) (ob _ (nb _ (by simp))))).mono fun e w' h => hT.quiet h | 2, _ => exact H3.out _ _ _ (by have := HT.out.lt; omega) (by have := HT.out.lt; omega) (by have := HT.out.lt; omega) W (gr_past ((((HP.out.alloc _).alloc _).alloc _).alloc _) hW HM.out) (gr_block hW (by have := HT.out.lt; omega) (ob _ (ob _ (ob _ (nb _ rfl))))) (gr_block hW (by have := HT.out.lt; omega) (ob _ (ob _ (nb _ (by simp))))) (gr_block hW (by have := HT.out.lt; omega) (ob _ (nb _ (by simp)))) hT | k + 3, h => exact absurd h (by simp)); (exact (((HT.out.alloc _).alloc _).alloc _).alloc _); intro e w2 hA; have HQ := Lib.hid hA; obtain ⟨rfl, -⟩ := hA)
  go_ret
  exact HQ.out.re (gr_alloc (gr_alloc (gr_alloc (gr_alloc (gr_refl _ _) _) _) _) _) rfl HV.out.1 HV.out.2
end Go.Proofs.YtplonecdaegfbaaGreatDoor.Ck
