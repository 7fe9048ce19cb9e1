/- A program that is cut off somewhere is wrong at its end, or at a word that is cut: the walk of ParseWrong. (Written by genwrong.py.) -/
import Derived.Test.YtgkdoealhbhnmaaGreatDoorPAns
import Derived.Test.YtgkdoealhbhnmaaGreatDoorPCode
import Derived.Test.YtgkdoealhbhnmaaGreatDoorPTrim
set_option linter.unusedSimpArgs false
set_option linter.unusedVariables false
namespace Go.Proofs.YtgkdoealhbhnmaaGreatDoor.Pm
open Go Go.RowKit Go.Proofs.YtgkdoealhbhnmaaGreatDoor
open Go.Lib (hid)

theorem putF_end (f : RF) : ∃ l, putF lev f = l ++ [125, 10] := ⟨[102, 117, 110, 99] ++ 32 :: (f.name ++ 40 :: (commas [44, 32] (fun s => s) f.params ++ 41 :: 32 :: 123 :: 10 :: (putV f.vars ++ putL lev 1 f.body))), by simp [putF]⟩
theorem code_end (F G M : FT) : ∃ l, progT [F, G, M] = l ++ [125, 10] := by
  obtain ⟨l, hl⟩ := putF_end M.rf
  refine ⟨F.text ++ (G.text ++ l), ?_⟩
  have h : M.text = l ++ [125, 10] := hl
  simp [progT, h]
theorem code_cut {F G M : FT} (h : CodeQ [F, G, M]) {k : Nat} (hk : k + 2 ≤ (progT [F, G, M]).length) : Evn fun m => Left 3 ((progT [F, G, M]).take k).length (parseF m ((progT [F, G, M]).take k)) := by
  obtain ⟨l, hl⟩ := code_end F G M
  have hlen : (progT [F, G, M]).length = l.length + 2 := by rw [hl]; simp
  have hb : isSp ((progT [F, G, M]).getD l.length 0) = false := by
    rw [hl, List.getD_eq_getElem?_getD, List.getElem?_append_right (Nat.le_refl _), Nat.sub_self]
    decide
  exact cut_text (f := F.rf) (p := [G.rf, M.rf]) h.ok (Nat.le_trans h.dp (by decide)) (Nat.le_trans h.np (by decide)) h.lx (i := l.length) (by omega) (by have := h.len; omega) hb (by omega)
theorem left_ok {n z : Nat} {q : List RF} {mo : Nat} (h : Left n z (.ok q mo)) : 0 < q.length ∧ q.length < n := h
theorem left_bad {n z p e : Nat} (h : Left n z (.bad p e)) : (e = 2 ∨ e = 3) ∧ p ≤ z := h
set_option maxHeartbeats 8000000 in
set_option maxRecDepth 100000 in
theorem wrong_go (pa : Option Addr) (pn pc : Nat) (own : Bool) (la : Option Addr) (ln lc : Nat) (zl : List Int) (ga : Option Addr) (gn gc : Nat) (zg : List Int) (a1 : Int) (h1 : 0 ≤ a1 ∧ a1 ≤ 65535) (w : World) (H : Wo w) (r0 : RowIn .u8 w la ln zl) (r1 : RowIn .u8 w ga gn zg) (hg : gn ≤ gc) :
    Calls Tryz.prog 6 #[.agg #[.slice pa pn pc, .bool own, .slice la ln lc, .slice ga gn gc], .int .u16 a1] w fun e w' => e = .returned (.bool true) ∧ Below w.heap.size w w' := by
  have HO := hid H
  have R0 := hid r0
  have R1 := hid r1
  have GC := hid hg
  clear H r0 r1 hg
  go_enter Tryz.func6, Tryz.ntmps6
  go_upto_region 6 with (first
    | (go_at_call 12; refine (put_any (w0 := w3) (HO.out.on HB3.out).pw (some ⟨N, 0, none⟩) 3 [F, G, K] (HIN3.out.mono (Nat.zero_le _)) HG3.out.1 (by have := HG3.out.2; omega) w3 (Past.refl _)).mono ?_; rintro e w4 ⟨rfl, hb⟩; have HP4 : Hid (Past w w4) := hid (Past.on (show Past w w3 from HB3.out) hb); clear hb)
    | (go_at_call 11; refine (code_call _ (R0.out.on ?_) (R1.out.on ?_) GC.out).mono ?_; (repeat (first | with_reducible exact HB1.out | (with_reducible refine Below.setCell ?_ ?_ _) | simp)); rintro e w3 ⟨N, F, G, K, rfl, hin3, g3, ⟨t3, q3, k3⟩, -, -, hb3⟩; clear x0 x1 x2 x3 fx lx; have HB3 : Hid (Below w.heap.size w w3) := hid (Below.trans (show Below w.heap.size w _ from by (repeat (first | with_reducible exact HB1.out | (with_reducible refine Below.setCell ?_ ?_ _) | simp))) (hb3.mono (by have := HB1.out.size; simp [World.setCell]; omega))); have HIN3 := hid hin3; have HG3 := hid (And.intro g3 t3); have HQ3 := hid (codeQ_of hin3 g3 q3 k3); clear hb3 hin3 g3 t3 q3 k3)
    | (go_at_call 10; refine (ex_any (HO.out.on ((Past.refl w).alloc _))).mono ?_; rintro e w1 ⟨rfl, hb1⟩; have hX := (Below.block hb1 w.heap.size (by simp)).trans (bk_new w _); have x0 := bk_cell (k := 0) hX rfl; have x1 := bk_cell (k := 1) hX rfl; have x2 := bk_cell (k := 2) hX rfl; have x3 := bk_cell (k := 3) hX rfl; have fx := fun k => bk_free (k := k) hX; have lx := lt_of_block hX; have HX := hid hX; have HB1 : Hid (Below w.heap.size w w1) := hid (step_on ((Below.refl _ _).alloc (Nat.le_refl _) _) hb1); clear hb1 hX))
  obtain ⟨S, hS⟩ : ∃ S : ByteArray, S = ⟨(progT [F, G, K]).toArray⟩ := ⟨_, rfl⟩
  rw [← hS]
  have hd : S.data.toList = progT [F, G, K] := by rw [hS]
  have hlen : (progT [F, G, K]).length = S.size := by rw [← hd]; rfl
  have h8 : S.size ≤ 8192 := by rw [← hlen]; exact HQ3.out.len
  have h2 : 2 ≤ S.size := by
    obtain ⟨l, hl⟩ := code_end F G K
    rw [← hlen, hl]; simp
  obtain ⟨k, ek, hk⟩ : ∃ k : Nat, a1 % ((S.size : Int) - 1) = k ∧ k + 2 ≤ S.size := by
    have p1 := Int.emod_nonneg a1 (show ((S.size : Int) - 1) ≠ 0 by omega)
    have p2 := Int.emod_lt_of_pos a1 (show 0 < ((S.size : Int) - 1) by omega)
    exact ⟨(a1 % ((S.size : Int) - 1)).toNat, by omega, by omega⟩
  have ek2 : a1.tmod ((S.size : Int) - 1) = k := by rw [Int.tmod_eq_emod_of_nonneg h1.1]; exact ek
  obtain ⟨m, hm⟩ := code_cut HQ3.out (k := k) (by omega)
  have hL : Left 3 ((progT [F, G, K]).take k).length (parseF m ((progT [F, G, K]).take k)) := hm m (Nat.le_refl _)
  obtain ⟨T, hT⟩ : ∃ T, S.extract 0 k = T := ⟨_, rfl⟩
  have hTd : T.data.toList = (progT [F, G, K]).take k := by rw [← hT, Lib.extract_data]; simp [hd]
  have hTl : ((progT [F, G, K]).take k).length = T.size := by rw [← hTd]; rfl
  have hT8 : ((progT [F, G, K]).take k).length ≤ 8192 := by rw [List.length_take]; omega
  have hTz : T.size ≤ 8192 := by rw [← hTl]; exact hT8
  have HT := hid (And.intro hTd (And.intro hTl hT8))
  have e1 : IntKind.i64.wrap ((S.size : Int) - 1) = (S.size : Int) - 1 := IntWalk.i64_in _ (by omega)
  have e2 : decide ((S.size : Int) < 2) = false := by simp; omega
  have e2' : decide (S.size < 2) = false := by simp; omega
  have e3 : ((S.size : Int) - 1 == 0) = false := by simp; omega
  have e3' : ¬ ((S.size : Int) - 1 = 0) := by omega
  have k0 : (0 : Int) ≤ k := by omega
  have k1 : (k : Int) ≤ S.size := by omega
  have k2 : k ≤ S.size := by omega
  clear hS hd hlen hk hm hTd hTl hT8 HQ3 HG3 HIN3
  rcases hr : parseF m ((progT [F, G, K]).take k) with ⟨q, mo⟩ | ⟨pl, n⟩
  · rw [hr] at hL
    obtain ⟨q1, q2⟩ := left_ok hL
    have HR := hid hr
    have g1 : decide ((0 : Int) < q.length) = true := by simp; omega
    have g1' : decide (0 < q.length) = true := by simp; omega
    have g2 : decide ((q.length : Int) < 3) = true := by simp; omega
    have g2' : decide (q.length < 3) = true := by simp; omega
    have g3 : q.length ≤ 9223372036854775807 := by omega
    clear hr hL q1 q2
    go_wp2_with (go_at_call 13; have hx := parse_some (HO.out.on HP4.out) m T HT.out.1 HT.out.2.2 HR.out; rw [HT.out.2.1] at hx; refine hx.mono ?_; clear hx; rintro e w5 ⟨hb, a, c, rfl⟩; have HP5 : Hid (Past w w5) := hid (HP4.out.on hb); clear hb)
    go_ret
    exact ⟨rfl, HP5.out.alloc _⟩
  · rw [hr] at hL
    obtain ⟨q1, q2⟩ := left_bad hL
    have HR := hid hr
    have q3 : pl ≤ T.size := by have := HT.out.2.1; omega
    have g1 : decide ((pl : Int) ≤ T.size) = true := by simp; omega
    have g1' : decide (pl ≤ T.size) = true := by simp; omega
    clear hr hL q2
    rcases q1 with rfl | rfl
    all_goals
      go_wp2_with (go_at_call 13; refine (parse_none (HO.out.on HP4.out) m T HT.out.1 HT.out.2.2 HR.out (by decide)).mono ?_; rintro e w5 ⟨hb, rfl⟩; have HP5 : Hid (Past w w5) := hid (HP4.out.on hb); clear hb)
      go_ret
      exact ⟨rfl, HP5.out.alloc _⟩
end Go.Proofs.YtgkdoealhbhnmaaGreatDoor.Pm
namespace Go.Proofs.YtgkdoealhbhnmaaGreatDoor
open Go Go.RowKit Go.Proofs.YtgkdoealhbhnmaaGreatDoor.Pm
open Go.Lib (hid)
theorem parseWrong_walk (v0 : Value) (a1 : Int) (w1 : (Lit.int .u16 a1).wf = true) (w : World) (H : Wo w) (c0 : CodeIn w v0) :
    Calls Tryz.prog 6 #[v0, .int .u16 a1] w fun e w' => e = .returned (.bool true) ∧ Below w.heap.size w w' := by
  have h1 : 0 ≤ a1 ∧ a1 ≤ 65535 := by
    simp only [Lit.wf, IntKind.min, IntKind.max, Bool.and_eq_true] at w1
    exact ⟨of_decide_eq_true w1.1, of_decide_eq_true w1.2⟩
  obtain ⟨pa, pn, pc, own, la, ln, lc, zl, ga, gn, gc, zg, rfl, r0, r1, hg⟩ := c0
  exact wrong_go pa pn pc own la ln lc zl ga gn gc zg a1 h1 w H r0 r1 hg
end Go.Proofs.YtgkdoealhbhnmaaGreatDoor
