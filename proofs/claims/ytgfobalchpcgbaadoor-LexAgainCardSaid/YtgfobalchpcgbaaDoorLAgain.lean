/- The walk of LexAgain: words put with a space between are the same words. -/
import Derived.Test.YtgfobalchpcgbaaDoorLCuts
set_option linter.unusedSimpArgs false
set_option linter.unusedVariables false
namespace Go.Proofs.YtgfobalchpcgbaaDoor
open Go Go.RowKit

/-- The first i words with a space ahead of each. -/
def spB (ts : List Tok) (i : Nat) : ByteArray := bsOf (spaced (ts.take i))
theorem spB_zero (ts : List Tok) : spB ts 0 = { data := #[] } := rfl
theorem spB_succ (ts : List Tok) (i : Nat) (hi : i < ts.length) : (spB ts i ++ { data := #[32] }) ++ bsOf (ts.getD i tk0).text = spB ts (i + 1) := by
  apply ba_ext
  have e : ts.getD i tk0 = ts[i] := by rw [List.getD_eq_getElem?_getD, List.getElem?_eq_getElem hi]; rfl
  unfold spB
  rw [List.take_succ_eq_append_getElem hi, e]
  have e2 : spaced (ts.take i ++ [ts[i]]) = spaced (ts.take i) ++ (32 :: ts[i].text) := by
    unfold spaced
    rw [List.flatMap_append]
    simp only [List.flatMap_cons, List.flatMap_nil, List.append_nil]
  rw [e2]
  simp [bsOf]
theorem spB_size (ts : List Tok) (i : Nat) : (spB ts i).size ≤ (spaced ts).length := by
  unfold spB
  rw [bs_size']
  have e : spaced ts = spaced (ts.take i) ++ spaced (ts.drop i) := by
    unfold spaced
    rw [← List.flatMap_append, List.take_append_drop]
  rw [e, List.length_append]
  omega
theorem spB_all (ts : List Tok) : spB ts ts.length = bsOf (spaced ts) := by unfold spB; rw [List.take_length]
/-- What the walk is told of word i. -/
structure WordAt (s : ByteArray) (ts : List Tok) (i P last E : Nat) (T : ByteArray) : Prop where
  lo : last ≤ P
  hi : P + T.size = E
  ends : E ≤ s.size
  cut : s.extract P E = T
  pos : 0 < T.size
  gap : ∀ k (h : k < s.size), last ≤ k → k < P → isSp s[k] = true
theorem word_at {s : ByteArray} {ts : List Tok} {n : Nat} (hx : lexP 0 s.data.toList = (some ts, n)) (i : Nat) (hi : i < ts.length) :
    WordAt s ts i (ts.getD i tk0).at' (lastAt ts i) (lastAt ts (i + 1)) (bsOf (ts.getD i tk0).text) := by
  have hp := placed_all s.data.toList 0 _ ts n hx rfl 0 (Nat.le_refl _) (fun k h1 h2 => by omega)
  obtain ⟨h1, h2, h3, h4, h5⟩ := placed_at hp i hi
  have e : (if i = 0 then 0 else lastAt ts i) = lastAt ts i := by cases i <;> simp [lastAt]
  rw [e] at h1 h5
  refine ⟨h1, by rw [bs_size']; rfl, by rw [← ba_len s]; exact h2, ?_, by rw [bs_size']; exact h4, fun k hk a b => ?_⟩
  · apply ba_ext
    rw [Lib.extract_data]
    show _ = (ts.getD i tk0).text
    have e2 : lastAt ts (i + 1) - (ts.getD i tk0).at' = (ts.getD i tk0).text.length := by show (ts.getD i tk0).at' + (ts.getD i tk0).text.length - (ts.getD i tk0).at' = _; omega
    rw [e2]; exact h3
  · have := h5 k a b
    rw [List.getD_eq_getElem?_getD, List.getElem?_eq_getElem (by rw [ba_len]; exact hk)] at this
    exact this
theorem sp_cases {c : UInt8} (h : isSp c = true) : (c.toNat : Int) = 32 ∨ (c.toNat : Int) = 9 ∨ (c.toNat : Int) = 10 ∨ (c.toNat : Int) = 13 := by
  have : c.toNat = 32 ∨ c.toNat = 9 ∨ c.toNat = 10 ∨ c.toNat = 13 := by simpa [isSp, or_assoc] using h
  omega
section
variable {w0 w : World}
theorem empty_all (H : Errs w0) (h : Past w0 w) :
    Calls Tryd.prog 10 #[.string { data := #[] }] w fun e w' => ∃ A c, e = .returned (.tuple #[.slice A 0 c, .int .i64 0, .int .i64 0]) ∧ Past w0 w' :=
  (all_nil { data := #[] } (by decide) H h (n := 0) rfl).mono fun e w' ⟨A, c, he, _, hp⟩ => ⟨A, c, by rw [he]; rfl, hp⟩
theorem again_all {s S : ByteArray} {ts : List Tok} {n : Nat} (hx : lexP 0 s.data.toList = (some ts, n)) (hz : s.size ≤ 810) (hS : S = spB ts ts.length) (hn : 0 < ts.length) (H : Errs w0) (h : Past w0 w) :
    Calls Tryd.prog 10 #[.string S] w fun e w' => ∃ g cap, e = .returned (.tuple #[.slice (some ⟨g, 0, none⟩) ts.length cap, .int .i64 S.size, .int .i64 0]) ∧ TokIn w' g (reAt 0 ts) ∧ Below w.heap.size w w' ∧ Past w0 w' := by
  have hg := good_all 0 _ ts n hx
  have hl := lex_spaced ts hg 0
  have hsz := (spaced_len 0 _ ts n hx).1
  rw [ba_len] at hsz
  have e : S.data.toList = spaced ts := by rw [hS, spB_all]; rfl
  rw [← e] at hl
  have sz : S.size ≤ 8192 := by rw [← ba_len, e]; omega
  have := all_toks S sz H h hl (by rw [reAt_len]; exact hn)
  rw [reAt_len] at this
  exact this.mono fun e w' ⟨g, cap, he, ht, hb, _, hp⟩ => ⟨g, cap, he, ht, hb, hp⟩
end
set_option maxRecDepth 100000 in
set_option maxHeartbeats 8000000 in
theorem again_core (tight : Bool) (A : Option Addr) (len cap : Nat) (z : List Int) (w0 : World) (H0 : Errs w0) (hr : BytesIn w0 A len z) :
    Calls Tryd.prog 3 #[.slice A len cap, .bool tight] w0 fun e w' => e = .returned (.bool true) ∧ Past w0 w' := by
  have H := Lib.hid H0
  have HR := Lib.hid hr
  clear H0 hr
  go_enter Tryd.func3, Tryd.ntmps3
  go_upto_region 5 with (first
    | (go_at_call 8; refine (ex_any H.out _ (Past.refl w0)).mono ?_; rintro e w1 ⟨rfl, h1⟩; have H1 := Lib.hid h1; clear h1)
    | (go_at_call 9; refine (words_any A len cap z tight HR.out H1.out).mono ?_; rintro e w2 ⟨s, rfl, hs, h2⟩; have H2 := Lib.hid h2; clear h2))
  have hs8 : s.size ≤ 8192 := by omega
  cases hlex : lexP 0 s.data.toList with
  | mk o n =>
    have HX := Lib.hid hlex
    cases o with
    | none =>
      have hp : n < s.size := by
        have := (lexP_bd 0 s.data.toList).1 (by rw [hlex])
        rw [hlex, ba_len] at this
        simp only at this
        omega
      clear hlex
      go_wp2_with (go_at_call 10; refine (all_err s hs8 H.out H2.out HX.out).mono ?_; rintro e w3 ⟨rfl, hb, h3⟩; have H3 := Lib.hid h3; clear hb h3)
      go_ret
      exact ⟨rfl, H3.out⟩
    | some ts =>
      clear hlex
      by_cases hL0 : ts.length = 0
      · obtain rfl := List.eq_nil_of_length_eq_zero hL0
        go_wp2_with (go_at_call 10; refine (all_nil s hs8 H.out H2.out HX.out).mono ?_; rintro e w3 ⟨A3, c3, rfl, hb, h3⟩; have H3 := Lib.hid h3; clear hb h3)
        go_loopw [10, 11, 12] (fun t last i wr => i = .int .i64 (0 : Nat) ∧ last = .int .i64 (0 : Nat) ∧ t = .string { data := #[] } ∧ Past w0 wr) (fun _ _ i _ => 1 - (intOf i).toNat)
        case atStart => exact ⟨rfl, rfl, rfl, H3.out⟩
        case round =>
          obtain ⟨rfl, rfl, rfl, h4⟩ := hrel
          have H4 := Lib.hid h4
          clear h4
          go_wp2_with (go_at_call 10; refine (empty_all H.out H4.out).mono ?_; rintro e w6 ⟨A6, c6, rfl, h6⟩; have H6 := Lib.hid h6; clear h6)
          go_loopw [17] (fun i wr => i = .int .i64 (0 : Nat) ∧ Past w0 wr) (fun i _ => 1 - (intOf i).toNat)
          case atStart => exact ⟨rfl, H6.out⟩
          case round =>
            obtain ⟨rfl, h7⟩ := hrel
            have H7 := Lib.hid h7
            clear h7
            go_wp2
            go_ret
            exact ⟨rfl, H7.out⟩
      · obtain ⟨L, hL⟩ : ∃ L, L = ts.length := ⟨_, rfl⟩
        have hLp : 0 < L := by omega
        have hLz : L ≤ 810 := by
          have := (spaced_len 0 _ ts n HX.out).2
          rw [ba_len] at this
          omega
        have hsp : (spaced ts).length ≤ 1620 := by
          have := (spaced_len 0 _ ts n HX.out).1
          rw [ba_len] at this
          omega
        have HSP := Lib.hid hsp
        have hall : ∀ w', Past w0 w' → Calls Tryd.prog 10 #[.string s] w' fun e w3 => ∃ g cap, e = .returned (.tuple #[.slice (some ⟨g, 0, none⟩) L cap, .int .i64 s.size, .int .i64 0]) ∧ TokIn w3 g ts ∧ Past w0 w3 := fun w' hp => by
          rw [hL]
          exact (all_toks s hs8 H.out hp HX.out (by omega)).mono fun e w3 ⟨g, cap, he, ht, _, _, h3⟩ => ⟨g, cap, he, ht, h3⟩
        have HALL := Lib.hid hall
        have HL := Lib.hid hL
        clear hall hL hL0 hsp
        go_wp2_with (go_at_call 10; refine (HALL.out _ H2.out).mono ?_; rintro e w3 ⟨g, cap3, rfl, ht, h3⟩; have HT3 := Lib.hid ht; have H3 := Lib.hid h3; clear ht h3)
        go_loopw [10, 11, 12, 13] (fun t last i _ wr => ∃ j : Nat, j ≤ L ∧ i = .int .i64 j ∧ last = .int .i64 (lastAt ts j : Nat) ∧ t = .string (spB ts j) ∧ TokIn wr g ts ∧ Past w0 wr) (fun _ _ i _ _ => L - (intOf i).toNat)
        case atStart => exact ⟨0, Nat.zero_le _, rfl, rfl, rfl, HT3.out, H3.out⟩
        case round =>
          clear HT3 H3
          obtain ⟨j, hj, rfl, rfl, rfl, hta, h4⟩ := hrel
          have HA := Lib.hid hta
          have H4 := Lib.hid h4
          clear hta h4
          by_cases hlt : j < L
          · have hjt : j < ts.length := by rw [← HL.out]; exact hlt
            have hwa := word_at HX.out j hjt
            have q1 := HA.out.text j hjt
            have q3 := HA.out.pos j hjt
            have hsc := spB_succ ts j hjt
            have hsz := spB_size ts j
            obtain ⟨P, hP⟩ : ∃ P : Nat, P = (ts.getD j tk0).at' := ⟨_, rfl⟩
            obtain ⟨T, hT⟩ : ∃ T : ByteArray, T = bsOf (ts.getD j tk0).text := ⟨_, rfl⟩
            obtain ⟨E, hE⟩ : ∃ E : Nat, E = lastAt ts (j + 1) := ⟨_, rfl⟩
            obtain ⟨l0, hl0⟩ : ∃ l0 : Nat, l0 = lastAt ts j := ⟨_, rfl⟩
            obtain ⟨U, hU⟩ : ∃ U : ByteArray, U = spB ts j := ⟨_, rfl⟩
            rw [← hP, ← hT, ← hE, ← hl0] at hwa
            rw [← hT] at q1 hsc
            rw [← hP] at q3
            rw [← hU] at hsc hsz
            rw [Nat.mul_comm] at q1 q3
            rw [← hl0, ← hU]
            have HWA := Lib.hid hwa
            have HJ := Lib.hid hjt
            have HT := Lib.hid hT
            have HP := Lib.hid hP
            have HE := Lib.hid hE
            have HSC := Lib.hid hsc
            have hU2 : U.size ≤ 1620 := Nat.le_trans hsz HSP.out
            have g1 := hwa.lo
            have g2 := hwa.hi
            have g3 := hwa.ends
            have g4 := hwa.pos
            have c1 := hwa.cut
            have e1 : (P : Int) + (T.size : Int) = (E : Int) := by omega
            have e2 : IntKind.i64.wrap ((P : Int) + (T.size : Int)) = (E : Int) := by rw [e1]; exact IntWalk.i64_in _ (by omega)
            have t1 : T.toList.isEmpty = false := by
              have hl : T.toList.length = T.size := by rw [ByteArray.toList_eq]; simp
              cases e : T.toList with
              | nil => rw [e] at hl; simp at hl; omega
              | cons => rfl
            have t2 : T.toList = [] ↔ False := by
              constructor
              · intro e; rw [e] at t1; cases t1
              · exact False.elim
            have d1 : decide ((P : Int) < (l0 : Int)) = false := by simp; omega
            have d2 : decide ((s.size : Int) < (E : Int)) = false := by simp; omega
            have d3 : decide (s.size < E) = false := by simp; omega
            have d4 : decide (P < l0) = false := by simp; omega
            have e4 : IntKind.i64.wrap (E : Int) = (E : Int) := IntWalk.i64_in _ (by omega)
            have hs81 : s.size ≤ 810 := hs
            clear hwa hP hT hE hl0 hU hsc hsz hjt
            go_upto_region 13 with (fail)
            go_quiet (fail)
            have HA5 := Lib.hid (HA.out.on (below_drewN wr nq))
            have H5 := Lib.hid (H4.out.on (below_drewN wr nq))
            obtain ⟨w5, hw5⟩ : ∃ w5, w5 = wr.drewN nq := ⟨_, rfl⟩
            rw [← hw5] at HA5 H5 ⊢
            have Q1 : Hid (∀ w', TokIn w' g ts → w'.cell? ⟨g, j * 4 + 1, none⟩ = some (.string T)) := Lib.hid (fun w' h => by
              have := h.text j HJ.out
              rw [← HT.out, Nat.mul_comm] at this
              exact this)
            have Q3 : Hid (∀ w', TokIn w' g ts → w'.cell? ⟨g, j * 4 + 3, none⟩ = some (.int .i64 P)) := Lib.hid (fun w' h => by
              have := h.pos j HJ.out
              rw [← HP.out, Nat.mul_comm] at this
              exact this)
            clear hw5 q1 q3 d1 d2 d3 d4 c1 t1 t2
            go_wp2
            go_loopw [13] (fun k wr => ∃ q : Nat, l0 ≤ q ∧ q ≤ P ∧ k = .int .i64 q ∧ w5 = wr) (fun k _ => P - (intOf k).toNat)
            case atStart => exact ⟨l0, Nat.le_refl _, g1, rfl, rfl⟩
            case round =>
              obtain ⟨q, hq1, hq2, rfl, rfl⟩ := hrel
              have q3 := Q3.out _ HA5.out
              by_cases hqp : q < P
              · have hqs : q < s.size := by omega
                have hsp := sp_cases (HWA.out.gap q hqs hq1 hqp)
                rcases hsp with hc | hc | hc | hc
                all_goals
                  go_wp2
                  go_roundw
                  case rel => exact ⟨q + 1, by omega, by omega, by go_num, by first | trivial | rfl⟩
                  case measure => simp [intOf]; omega
              · obtain rfl : q = P := by omega
                have q1 := Q1.out _ HA5.out
                go_upto_region 20 with (fail)
                go_quiet (fail)
                have hTz : T.size ≤ 810 := by omega
                have hz32 : ({ data := #[32] } : ByteArray).size ≤ 1 := Nat.le_refl 1
                go_wp2
                go_roundw
                case rel => exact ⟨j + 1, by omega, by go_num, by rw [HE.out], by rw [HSC.out], HA5.out.on (below_drewN _ _), H5.out.on (below_drewN _ _)⟩
                case measure => simp [intOf]; omega
          · obtain rfl : j = L := by omega
            have hsz := spB_size ts j
            obtain ⟨S, hS⟩ : ∃ S, S = spB ts j := ⟨_, rfl⟩
            rw [← hS] at hsz ⊢
            have HS : Hid (S = spB ts ts.length) := Lib.hid (by rw [← HL.out]; exact hS)
            have hagain : ∀ w', Past w0 w' → Calls Tryd.prog 10 #[.string S] w' fun e w6 => ∃ g cap, e = .returned (.tuple #[.slice (some ⟨g, 0, none⟩) j cap, .int .i64 S.size, .int .i64 0]) ∧ TokIn w6 g (reAt 0 ts) ∧ Below w'.heap.size w' w6 ∧ Past w0 w6 := fun w' hp => by
              have := again_all HX.out hs HS.out (by rw [← HL.out]; exact hLp) H.out hp
              rw [← HL.out] at this
              exact this
            have HAG := Lib.hid hagain
            clear hagain hS hsz
            go_wp2_with (go_at_call 10; refine (HAG.out _ H4.out).mono ?_; rintro e w6 ⟨g6, cap6, rfl, ht, hb, h6⟩; have HT6 := Lib.hid (HA.out.on hb); have HB6 := Lib.hid ht; have H6 := Lib.hid h6; clear ht hb h6)
            go_loopw [17] (fun i wr => ∃ q : Nat, q ≤ j ∧ i = .int .i64 q ∧ TokIn wr g ts ∧ TokIn wr g6 (reAt 0 ts) ∧ Past w0 wr) (fun i _ => j - (intOf i).toNat)
            case atStart => exact ⟨0, Nat.zero_le _, rfl, HT6.out, HB6.out, H6.out⟩
            case round =>
              clear HT6 HB6 H6
              obtain ⟨q, hq, rfl, hta, htb, h7⟩ := hrel
              have HA7 := Lib.hid hta
              have HB7 := Lib.hid htb
              have H7 := Lib.hid h7
              clear hta htb h7
              by_cases hqj : q < j
              · have hqt : q < ts.length := by rw [← HL.out]; exact hqj
                have hqr : q < (reAt 0 ts).length := by rw [reAt_len]; exact hqt
                obtain ⟨r0, r1, r2⟩ := reAt_get 0 ts tk0 q hqt
                have a0 := HA7.out.kind q hqt
                have a1 := HA7.out.text q hqt
                have a2 := HA7.out.num q hqt
                have b0 := HB7.out.kind q hqr
                have b1 := HB7.out.text q hqr
                have b2 := HB7.out.num q hqr
                rw [r0] at b0
                rw [r1] at b1
                rw [r2] at b2
                obtain ⟨tk, htk⟩ : ∃ tk, tk = ts.getD q tk0 := ⟨_, rfl⟩
                rw [← htk] at a0 a1 a2 b0 b1 b2
                rw [Nat.mul_comm] at a0 a1 a2 b0 b1 b2
                simp only [Nat.add_zero] at a0 b0
                clear htk hqt hqr r0 r1 r2
                go_upto_region 28 with (fail)
                go_quiet (fail)
                go_wp2
                go_roundw
                case rel => exact ⟨q + 1, by omega, by go_num, HA7.out.on (below_drewN _ _), HB7.out.on (below_drewN _ _), H7.out.on (below_drewN _ _)⟩
                case measure => simp [intOf]; omega
              · obtain rfl : q = j := by omega
                go_wp2
                go_ret
                exact ⟨rfl, H7.out⟩
theorem lexAgain_walk (a0 : Option Addr) (len0 cap0 : Nat) (z0 : List Int) (a1 : Bool) (w : World) (H : Errs w) (r0 : RowIn .u8 w a0 len0 z0) :
    Calls Tryd.prog 3 #[.slice a0 len0 cap0, .bool a1] w fun e w' => e = .returned (.bool true) ∧ Below w.heap.size w w' :=
  again_core a1 a0 len0 cap0 z0 w H (bytes_of_row r0)
end Go.Proofs.YtgfobalchpcgbaaDoor
