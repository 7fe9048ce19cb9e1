/- The walk of LexCuts: cut at the end of a word a text has the words up to there, and those behind. -/
import Derived.Test.YtgfobalchpcgbaaDoorLWordsC
import Derived.Deep.DeepCutAuto
import Derived.IntWalk
set_option linter.unusedSimpArgs false
set_option linter.unusedVariables false
namespace Go.Proofs.YtgfobalchpcgbaaDoor
open Go Go.RowKit

abbrev tk0 : Tok := ⟨0, [], 0, 0⟩
theorem bs_size' (l : List UInt8) : (bsOf l).size = l.length := by show (List.toArray l).size = _; simp
theorem lexP_bd (p : Nat) (l : List UInt8) : ((lexP p l).1 = none → p ≤ (lexP p l).2 ∧ (lexP p l).2 < p + l.length) ∧ (∀ ts, (lexP p l).1 = some ts → (lexP p l).2 = p + l.length) := lexP_at (l.length + 1) p l (by omega)
section
variable {w0 w : World}
theorem cut_front {s S1 : ByteArray} {ts : List Tok} {n k E : Nat} (hz : s.size ≤ 8192) (hx : lexP 0 s.data.toList = (some ts, n)) (hk : k < ts.length) (hE : E = endAt ts k) (hS : s.extract 0 E = S1) (H : Errs w0) (h : Past w0 w) :
    Calls Tryd.prog 10 #[.string S1] w fun e w' => ∃ v g cap, e = .returned (.tuple #[.slice (some ⟨g, 0, none⟩) (k + 1) cap, v, .int .i64 0]) ∧ Below w.heap.size w w' ∧ Past w0 w' := by
  have hc := lex_cut 0 _ ts n hx k hk
  have h1 := hc.2.1
  have h2 := hc.2.2.1
  rw [Nat.sub_zero] at h2
  have eS : S1.data.toList = s.data.toList.take E := by rw [← hS, Lib.extract_data]; simp
  have sz : S1.size ≤ 8192 := by rw [← ba_len, eS, List.length_take, ba_len]; omega
  rw [← hE, ← eS] at h2
  have hl : (ts.take (k + 1)).length = k + 1 := by rw [List.length_take]; omega
  have := all_toks S1 sz H h h2 (by omega)
  rw [hl] at this
  exact this.mono fun e w' ⟨g, cap, he, _, hb, _, hp⟩ => ⟨_, g, cap, he, hb, hp⟩
theorem cut_behind {s S2 : ByteArray} {ts : List Tok} {n k E : Nat} (hz : s.size ≤ 8192) (hx : lexP 0 s.data.toList = (some ts, n)) (hk : k < ts.length) (hE : E = endAt ts k) (hS : s.extract E s.size = S2) :
    lexP 0 S2.data.toList = (some (shiftT E (ts.drop (k + 1))), n - E) ∧ S2.size ≤ 8192 := by
  have hc := lex_cut 0 _ ts n hx k hk
  have h2 := hc.2.2.2
  rw [Nat.sub_zero, ← hE] at h2
  have eS : S2.data.toList = s.data.toList.drop E := by rw [← hS, Lib.extract_to_end]
  have sz : S2.size ≤ 8192 := by rw [← ba_len, eS, List.length_drop, ba_len]; omega
  have h3 := (lex_shift E _ _ _ h2).2 E (Nat.le_refl _)
  rw [Nat.sub_self, ← eS] at h3
  exact ⟨h3, sz⟩
theorem cut_nil {s S2 : ByteArray} {ts : List Tok} {n k E : Nat} (hz : s.size ≤ 8192) (hx : lexP 0 s.data.toList = (some ts, n)) (hk : k < ts.length) (hE : E = endAt ts k) (hS : s.extract E s.size = S2) (hn : ts.length = k + 1) (H : Errs w0) (h : Past w0 w) :
    Calls Tryd.prog 10 #[.string S2] w fun e w' => ∃ v A cap, e = .returned (.tuple #[.slice A 0 cap, v, .int .i64 0]) ∧ Below w.heap.size w w' ∧ Past w0 w' := by
  obtain ⟨hx2, sz⟩ := cut_behind hz hx hk hE hS
  have e : shiftT E (ts.drop (k + 1)) = [] := by rw [← hn, List.drop_length]; rfl
  rw [e] at hx2
  exact (all_nil S2 sz H h hx2).mono fun e w' ⟨A, c, he, hb, hp⟩ => ⟨_, A, c, he, hb, hp⟩
theorem cut_some {s S2 : ByteArray} {ts : List Tok} {n k E m : Nat} (hz : s.size ≤ 8192) (hx : lexP 0 s.data.toList = (some ts, n)) (hk : k < ts.length) (hE : E = endAt ts k) (hS : s.extract E s.size = S2) (hn : ts.length = k + 1 + m) (hm : 0 < m) (H : Errs w0) (h : Past w0 w) :
    Calls Tryd.prog 10 #[.string S2] w fun e w' => ∃ v g cap, e = .returned (.tuple #[.slice (some ⟨g, 0, none⟩) m cap, v, .int .i64 0]) ∧ TokIn w' g (shiftT E (ts.drop (k + 1))) ∧ Below w.heap.size w w' ∧ Past w0 w' := by
  obtain ⟨hx2, sz⟩ := cut_behind hz hx hk hE hS
  have hl : (shiftT E (ts.drop (k + 1))).length = m := by unfold shiftT; rw [List.length_map, List.length_drop]; omega
  have := all_toks S2 sz H h hx2 (by omega)
  rw [hl] at this
  exact this.mono fun e w' ⟨g, cap, he, ht, hb, _, hp⟩ => ⟨_, g, cap, he, ht, hb, hp⟩
end
theorem shift_get (ts : List Tok) (E k j : Nat) (hj : k + 1 + j < ts.length) :
    (shiftT E (ts.drop (k + 1))).getD j tk0 = ⟨(ts.getD (k + 1 + j) tk0).kind, (ts.getD (k + 1 + j) tk0).text, (ts.getD (k + 1 + j) tk0).n, (ts.getD (k + 1 + j) tk0).at' - E⟩ := by
  unfold shiftT
  rw [List.getD_eq_getElem?_getD, List.getElem?_map, List.getElem?_drop, List.getD_eq_getElem?_getD, List.getElem?_eq_getElem hj]
  rfl
theorem behind_at {s : ByteArray} {ts : List Tok} {n k E : Nat} (hx : lexP 0 s.data.toList = (some ts, n)) (hk : k < ts.length) (hE : E = endAt ts k) (j : Nat) (hj : k + 1 + j < ts.length) : E ≤ (ts.getD (k + 1 + j) tk0).at' := by
  have h2 := (lex_cut 0 _ ts n hx k hk).2.2.2
  rw [Nat.sub_zero, ← hE] at h2
  refine (lex_shift E _ _ _ h2).1 _ ?_
  have e : ts.getD (k + 1 + j) tk0 = ts[k + 1 + j] := by rw [List.getD_eq_getElem?_getD, List.getElem?_eq_getElem hj]; rfl
  rw [e]
  have e2 : ts[k + 1 + j] = (ts.drop (k + 1))[j]'(by rw [List.length_drop]; omega) := by rw [List.getElem_drop]
  rw [e2]
  exact List.getElem_mem _
set_option maxRecDepth 100000 in
set_option maxHeartbeats 4000000 in
theorem cuts_some (x : Int) (hx0 : 0 ≤ x) (hx1 : x ≤ 255) (A : Option Addr) (len cap : Nat) (z : List Int) (w0 : World) (H0 : Errs w0) (hr : BytesIn w0 A len z) :
    Calls Tryd.prog 7 #[.slice A len cap, .int .u8 x] w0 fun e w' => e = .returned (.bool true) ∧ Past w0 w' := by
  have H := Lib.hid H0
  have HR := Lib.hid hr
  clear H0 hr
  go_enter Tryd.func7, Tryd.ntmps7
  go_upto_region 5 with (first
    | (go_at_call 8; refine (ex_any H.out _ (Past.refl w0)).mono ?_; rintro e w1 ⟨rfl, h1⟩; have H1 := Lib.hid h1; clear h1)
    | (go_at_call 9; refine (words_any A len cap z false HR.out H1.out).mono ?_; rintro e w2 ⟨s, rfl, hs, h2⟩; have H2 := Lib.hid h2; clear h2))
  have hs8 : s.size ≤ 8192 := by omega
  cases hlex : lexP 0 s.data.toList with
  | mk o n =>
    have HX := Lib.hid hlex
    clear hlex
    cases o with
    | none =>
      go_wp2_with (go_at_call 10; refine (all_err s hs8 H.out H2.out HX.out).mono ?_; rintro e w3 ⟨rfl, hb, h3⟩; have H3 := Lib.hid h3; clear hb h3)
      go_ret
      exact ⟨rfl, H3.out⟩
    | some ts =>
      by_cases hL0 : ts.length = 0
      · obtain rfl := List.eq_nil_of_length_eq_zero hL0
        go_wp2_with (go_at_call 10; refine (all_nil s hs8 H.out H2.out HX.out).mono ?_; rintro e w3 ⟨A3, c3, rfl, hb, h3⟩; have H3 := Lib.hid h3; clear hb h3)
        go_ret
        exact ⟨rfl, H3.out⟩
      · obtain ⟨L, hL⟩ : ∃ L, L = ts.length := ⟨_, rfl⟩
        have hLp : 0 < L := by omega
        obtain ⟨kk, hkk, hk⟩ : ∃ kk : Nat, x % (L : Int) = (kk : Int) ∧ kk < L := ⟨(x % (L : Int)).toNat, by have := Int.emod_nonneg x (show (L : Int) ≠ 0 by omega); omega, by have := Int.emod_lt_of_pos x (show (0 : Int) < L by omega); have := Int.emod_nonneg x (show (L : Int) ≠ 0 by omega); omega⟩
        have hkT : x.tmod (L : Int) = (kk : Int) := by rw [Int.tmod_eq_emod_of_nonneg hx0]; exact hkk
        have hLz : L ≤ 810 := by
          have := (spaced_len 0 _ ts n HX.out).2
          rw [ba_len] at this
          omega
        have hall : ∀ w', Past w0 w' → Calls Tryd.prog 10 #[.string s] w' fun e w3 => ∃ g cap, e = .returned (.tuple #[.slice (some ⟨g, 0, none⟩) L cap, .int .i64 s.size, .int .i64 0]) ∧ TokIn w3 g ts ∧ Past w0 w3 := fun w' hp => by
          rw [hL]
          exact (all_toks s hs8 H.out hp HX.out (by omega)).mono fun e w3 ⟨g, cap, he, ht, _, _, h3⟩ => ⟨g, cap, he, ht, h3⟩
        have HALL := Lib.hid hall
        have HL := Lib.hid hL
        clear hall hL hL0
        obtain ⟨P, hP⟩ : ∃ P : Nat, P = (ts.getD kk tk0).at' := ⟨_, rfl⟩
        obtain ⟨T, hT⟩ : ∃ T : ByteArray, T = bsOf (ts.getD kk tk0).text := ⟨_, rfl⟩
        obtain ⟨E, hE⟩ : ∃ E : Nat, E = endAt ts kk := ⟨_, rfl⟩
        have hPT : P + T.size = E := by rw [hP, hT, hE, bs_size']; rfl
        have hEz : E ≤ s.size := by
          have := (lex_cut 0 _ ts n HX.out kk (by rw [← HL.out]; exact hk)).2.1
          rw [ba_len] at this
          omega
        have HP := Lib.hid hP
        have HT := Lib.hid hT
        have HE := Lib.hid hE
        clear hP hT hE
        have e1 : (P : Int) + (T.size : Int) = (E : Int) := by omega
        have e2 : IntKind.i64.wrap ((P : Int) + (T.size : Int)) = (E : Int) := by rw [e1]; exact IntWalk.i64_in _ (by omega)
        go_upto_region 9 with (go_at_call 10; refine (HALL.out _ H2.out).mono ?_; rintro e w3 ⟨g, cap3, rfl, ht, h3⟩; have HT3 := Lib.hid ht; have H3 := Lib.hid h3; clear ht h3)
        have q1 : w3.cell? ⟨g, kk * 4 + 1, none⟩ = some (.string T) := by rw [HT.out, Nat.mul_comm]; exact HT3.out.text kk (by rw [← HL.out]; exact hk)
        have q3 : w3.cell? ⟨g, kk * 4 + 3, none⟩ = some (.int .i64 P) := by rw [HP.out, Nat.mul_comm]; exact HT3.out.pos kk (by rw [← HL.out]; exact hk)
        go_quiet (fail)
        have H3' := H3.out.on (below_drewN w3 nq)
        have HT3' := HT3.out.on (below_drewN w3 nq)
        have H4 := Lib.hid H3'
        have HT4 := Lib.hid HT3'
        clear H3' HT3' q1 q3
        obtain ⟨w4, hw4⟩ : ∃ w4, w4 = w3.drewN nq := ⟨_, rfl⟩
        rw [← hw4] at H4 HT4 ⊢
        clear hw4
        obtain ⟨S1, hS1⟩ : ∃ S1, s.extract 0 E = S1 := ⟨_, rfl⟩
        obtain ⟨S2, hS2⟩ : ∃ S2, s.extract E s.size = S2 := ⟨_, rfl⟩
        have HS1 := Lib.hid hS1
        have HS2 := Lib.hid hS2
        obtain ⟨m, hm⟩ : ∃ m, L = kk + 1 + m := ⟨L - (kk + 1), by omega⟩
        have e3 : (L : Int) - (kk : Int) - 1 = (m : Int) := by omega
        have HM := Lib.hid hm
        have hkL := Lib.hid hk
        clear hm e1 e2 hkk hkT
        by_cases hm0 : 0 < m
        · go_wp2_with (first
            | (go_at_call 10; ((with_reducible refine (cut_front hs8 HX.out (by rw [← HL.out]; exact hkL.out) HE.out HS1.out H.out H4.out).mono ?_); rintro e w5 ⟨v5, g5, cap5, rfl, hb, h5⟩; have HT5 := Lib.hid (HT4.out.on hb); have H5 := Lib.hid h5; clear hb h5))
            | (go_at_call 10; ((with_reducible refine (cut_some hs8 HX.out (by rw [← HL.out]; exact hkL.out) HE.out HS2.out (by rw [← HL.out]; exact HM.out) hm0 H.out H5.out).mono ?_); rintro e w6 ⟨v6, g6, cap6, rfl, ht, hb, h6⟩; have HT6 := Lib.hid (HT5.out.on hb); have HC6 := Lib.hid ht; have H6 := Lib.hid h6; clear ht hb h6)))
          go_loopw [18] (fun i wr => ∃ j : Nat, j ≤ m ∧ i = .int .i64 j ∧ TokIn wr g ts ∧ TokIn wr g6 (shiftT E (ts.drop (kk + 1))) ∧ Past w0 wr) (fun i _ => m - (intOf i).toNat)
          case atStart => exact ⟨0, Nat.zero_le _, rfl, HT6.out, HC6.out, H6.out⟩
          case round =>
            clear HT6 HC6 H6
            obtain ⟨j, hj, rfl, hta, htc, h7⟩ := hrel
            have HA := Lib.hid hta
            have HC := Lib.hid htc
            have H7 := Lib.hid h7
            clear hta htc h7
            by_cases hlt : j < m
            · have hjL : kk + 1 + j < L := by have := HM.out; omega
              have hjt : kk + 1 + j < ts.length := by rw [← HL.out]; exact hjL
              have hcl : j < (shiftT E (ts.drop (kk + 1))).length := by unfold shiftT; rw [List.length_map, List.length_drop, ← HL.out]; omega
              have hsg := shift_get ts E kk j hjt
              have hba := behind_at HX.out (by rw [← HL.out]; exact hkL.out) HE.out j hjt
              have a0 := HA.out.kind (kk + 1 + j) hjt
              have a1 := HA.out.text (kk + 1 + j) hjt
              have a2 := HA.out.num (kk + 1 + j) hjt
              have a3 := HA.out.pos (kk + 1 + j) hjt
              have c0 := HC.out.kind j hcl
              have c1 := HC.out.text j hcl
              have c2 := HC.out.num j hcl
              have c3 := HC.out.pos j hcl
              rw [hsg] at c0 c1 c2 c3
              simp only at c0 c1 c2 c3
              obtain ⟨tk, htk⟩ : ∃ tk, tk = ts.getD (kk + 1 + j) tk0 := ⟨_, rfl⟩
              rw [← htk] at a0 a1 a2 a3 c0 c1 c2 c3 hba
              obtain ⟨Q, hQ⟩ : ∃ Q : Nat, Q = tk.at' - E := ⟨_, rfl⟩
              rw [← hQ] at c3
              have e5 : ((tk.at' : Nat) : Int) - (E : Int) = (Q : Int) := by omega
              rw [Nat.mul_comm] at a0 a1 a2 a3 c0 c1 c2 c3
              have hg1 : g < wr.heap.size := HA.out.1
              have hg2 : g6 < wr.heap.size := HC.out.1
              have hza : tk.at' ≤ 810 := by
                have h0 := (lex_cut 0 _ ts n HX.out (kk + 1 + j) hjt).2.1
                rw [ba_len] at h0
                have h1 : endAt ts (kk + 1 + j) = tk.at' + tk.text.length := by rw [htk]; rfl
                omega
              simp only [Nat.add_zero] at a0 c0
              clear htk hsg hQ hcl hjt
              go_wp2
              go_roundw
              case rel => exact ⟨j + 1, by omega, by go_num, (HA.out.on ((Below.refl _ _).alloc (Nat.le_refl _) _)).on ((Below.refl _ _).alloc (Nat.le_refl _) _), (HC.out.on ((Below.refl _ _).alloc (Nat.le_refl _) _)).on ((Below.refl _ _).alloc (Nat.le_refl _) _), (H7.out.alloc _).alloc _⟩
              case measure => simp [intOf]; omega
            · obtain rfl : j = m := by omega
              go_wp2
              go_ret
              exact ⟨rfl, H7.out⟩
        · obtain rfl : m = 0 := by omega
          clear hm0
          go_wp2_with (first
            | (go_at_call 10; ((with_reducible refine (cut_front hs8 HX.out (by rw [← HL.out]; exact hkL.out) HE.out HS1.out H.out H4.out).mono ?_); rintro e w5 ⟨v5, g5, cap5, rfl, hb, h5⟩; have HT5 := Lib.hid (HT4.out.on hb); have H5 := Lib.hid h5; clear hb h5))
            | (go_at_call 10; ((with_reducible refine (cut_nil hs8 HX.out (by rw [← HL.out]; exact hkL.out) HE.out HS2.out (by rw [← HL.out]; exact HM.out) H.out H5.out).mono ?_); rintro e w6 ⟨v6, A6, cap6, rfl, hb, h6⟩; have H6 := Lib.hid h6; clear hb h6)))
          go_loopw [18] (fun i wr => i = .int .i64 (0 : Nat) ∧ Past w0 wr) (fun i _ => 1 - (intOf i).toNat)
          case atStart => exact ⟨rfl, H6.out⟩
          case round =>
            obtain ⟨rfl, h7⟩ := hrel
            have H7 := Lib.hid h7
            clear h7
            go_wp2
            go_ret
            exact ⟨rfl, H7.out⟩
theorem lexCuts_walk (a0 : Option Addr) (len0 cap0 : Nat) (z0 : List Int) (a1 : Int) (w1 : (Lit.int .u8 a1).wf = true) (w : World) (H : Errs w) (r0 : RowIn .u8 w a0 len0 z0) :
    Calls Tryd.prog 7 #[.slice a0 len0 cap0, .int .u8 a1] w fun e w' => e = .returned (.bool true) ∧ Below w.heap.size w w' := by
  have hb : 0 ≤ a1 ∧ a1 ≤ 255 := by
    simp only [Lit.wf, IntKind.min, IntKind.max, Bool.and_eq_true] at w1
    exact ⟨of_decide_eq_true w1.1, of_decide_eq_true w1.2⟩
  exact cuts_some a1 hb.1 hb.2 a0 len0 cap0 z0 w H (bytes_of_row r0)
end Go.Proofs.YtgfobalchpcgbaaDoor
