/- What the writer writes of lists of names and of declarations. (Written by genl.py.) What Put answers of a right program. What Put and PutStmts answer of what is right. -/
import Derived.Test.YtgkdoealhbhnmaaGreatDoorTProg3
set_option linter.unusedSimpArgs false
set_option linter.unusedVariables false
namespace Go.Proofs.YtgkdoealhbhnmaaGreatDoor
open Go Go.RowKit
open Go.Lib (hid)

set_option maxHeartbeats 4000000 in
set_option maxRecDepth 100000 in
theorem list_names {w0 : World}  (a : Option Addr) (c : Nat) (l : List ByteArray) (hl : l.length ≤ 9223372036854775807)
    (B b : Nat) (bs : List UInt8) (k : Int) (w : World) (hB : w0.heap.size ≤ B) (h : Wr B b bs k w) (hp : Past w0 w) (hlen : bs.length + (commas [44, 32] nmT l).length ≤ 140737488355328) (hin : ∀ (i : Nat) (h : i < l.length), StrAt w0 0 a i l[i]) :
    Calls Tryz.prog 65 #[ptrW b, .slice a l.length c, .func (.func 66) #[] #[]] w fun e w' => e = .returned (.tuple #[]) ∧ Went B b (bs ++ commas [44, 32] nmT l) k w w' := by
  have HI := hid hin
  have HP := hid hp
  have HW := hid h
  have HB := hid hB
  have HL := hid hlen
  clear hin hp h hB hlen
  go_enter Tryz.func65, Tryz.ntmps65
  go_wp2
  go_loopw [6, 7, 10] (fun _ _ i wr => ∃ n : Nat, n ≤ l.length ∧ i = .int .i64 n ∧ Went B b (bs ++ commas [44, 32] nmT (l.take n)) k w wr) (fun _ _ i _ => l.length - (intOf i).toNat)
  case atStart => exact ⟨0, Nat.zero_le _, rfl, HW.out.went.cast (by simp [commas])⟩
  case round =>
    obtain ⟨n, hn, rfl, hw⟩ := hrel
    have HN := hid hw
    clear hw
    by_cases hlt : n < l.length
    · obtain ⟨kb, ko, rfl, -, hc0⟩ := HI.out n hlt
      have hc := below_keep (HP.out.went HB.out HN.out) (B := 0) _ _ (Nat.zero_le _) hc0
      have hkb := cell_lt hc
      clear hc0
      have et := commas_take [44, 32] nmT l n hlt
      have el := commas_take_len [44, 32] nmT l (n + 1)
      have ET' := hid et
      have htot : Hid ((bs ++ commas [44, 32] nmT (l.take n)).length + (((if n = 0 then [] else [44, 32]) : List UInt8).length + (nmT l[n]).length) ≤ 140737488355328) := hid (by
        rw [et, List.length_append, List.length_append] at el
        have := HL.out
        rw [List.length_append]; omega)
      clear et el
      by_cases h0 : n = 0
      · have h0' : decide (0 < n) = false := decide_eq_false (by omega)
        have h0n : ¬ 0 < n := by omega
        have L1 : Hid ((bs ++ commas [44, 32] nmT (l.take n)).length + (nmT l[n]).length ≤ 140737488355328) := hid (by have := htot.out; rw [if_pos h0] at this; simp at this ⊢; omega)
        have HF : Hid (commas [44, 32] nmT (l.take (n + 1)) = commas [44, 32] nmT (l.take n) ++ nmT l[n]) := hid (by rw [ET'.out, if_pos h0]; rfl)
        clear h0 htot ET'
        go_wp2_with (go_at_call 66; have hx := wname_any HN.out.wr l[n] L1.out; refine hx.mono ?_; clear hx; rintro e w2 ⟨rfl, g2⟩; have G2 := hid (HN.out.trans g2); clear g2)
        go_round
        case rel => exact ⟨n + 1, by omega, by go_num, G2.out.cast (by rw [HF.out, List.append_assoc])⟩
        case measure => simp [intOf]; omega
      · have hpos : decide ((0 : Int) < (n : Int)) = true := decide_eq_true (by omega)
        have ec : catB [{ data := #[44, 32] }] = [44, 32] := by simp [catB]
        have EC := hid ec
        have L1 : Hid ((bs ++ commas [44, 32] nmT (l.take n)).length + (catB [{ data := #[44, 32] }]).length ≤ 140737488355328) := hid (by have := htot.out; rw [if_neg h0] at this; rw [ec]; simp at this ⊢; omega)
        have L2 : Hid (((bs ++ commas [44, 32] nmT (l.take n)) ++ catB [{ data := #[44, 32] }]).length + (nmT l[n]).length ≤ 140737488355328) := hid (by have := htot.out; rw [if_neg h0] at this; rw [ec]; simp at this ⊢; omega)
        have HF : Hid (commas [44, 32] nmT (l.take (n + 1)) = commas [44, 32] nmT (l.take n) ++ ([44, 32] ++ nmT l[n])) := hid (by rw [ET'.out, if_neg h0])
        have hltb := hid HN.out.wr.lt
        clear ec htot ET'
        go_wp2_with (first
          | (go_at_call 66; have hx := wname_any G1.out.wr l[n] L2.out; refine hx.mono ?_; clear hx; rintro e w2 ⟨rfl, g2⟩; have G2 := hid (G1.out.trans g2); clear g2)
          | (go_at_call 52; have hx := text_any (HN.out.wr.alloc (.cells #[.string { data := #[44, 32] }] 9)) wr.heap.size 1 [{ data := #[44, 32] }] _ (bk_new _ _) rfl (by simp) L1.out; refine hx.mono ?_; clear hx; rintro e w1 ⟨rfl, g1⟩; have G1 := hid ((HN.out.alloc _).trans g1); clear g1))
        go_round
        case rel => exact ⟨n + 1, by omega, by go_num, G2.out.cast (by rw [HF.out, EC.out]; simp)⟩
        case measure => simp [intOf]; omega
    · obtain rfl : n = l.length := by omega
      go_wp2
      go_end0
      exact ⟨rfl, HN.out.cast (by rw [List.take_length])⟩
set_option maxHeartbeats 4000000 in
set_option maxRecDepth 100000 in
theorem list_decls {w0 : World} (H : Pow w0) (a : Option Addr) (c : Nat) (l : List (ByteArray × Int)) (hl : l.length ≤ 9223372036854775807)
    (B b : Nat) (bs : List UInt8) (k : Int) (w : World) (hB : w0.heap.size ≤ B) (h : Wr B b bs k w) (hp : Past w0 w) (hlen : bs.length + (commas [44, 32] dcT l).length ≤ 140737488355328) (hin : ∀ (i : Nat) (h : i < l.length), RowAt w0 0 a i 2 #[.string l[i].1, .int .i64 l[i].2]) (hrg : ∀ (i : Nat) (h : i < l.length), 0 ≤ l[i].2 ∧ l[i].2 ≤ 9223372036854775807) :
    Calls Tryz.prog 100 #[ptrW b, .slice a l.length c, .func (.func 101) #[] #[]] w fun e w' => e = .returned (.tuple #[]) ∧ Went B b (bs ++ commas [44, 32] dcT l) k w w' := by
  have HI := hid hin
  have HR := hid hrg
  have HPw := hid H
  clear hrg H
  have HP := hid hp
  have HW := hid h
  have HB := hid hB
  have HL := hid hlen
  clear hin hp h hB hlen
  go_enter Tryz.func100, Tryz.ntmps100
  go_wp2
  go_loopw [6, 7, 10] (fun _ _ i wr => ∃ n : Nat, n ≤ l.length ∧ i = .int .i64 n ∧ Went B b (bs ++ commas [44, 32] dcT (l.take n)) k w wr) (fun _ _ i _ => l.length - (intOf i).toNat)
  case atStart => exact ⟨0, Nat.zero_le _, rfl, HW.out.went.cast (by simp [commas])⟩
  case round =>
    obtain ⟨n, hn, rfl, hw⟩ := hrel
    have HN := hid hw
    clear hw
    by_cases hlt : n < l.length
    · have hrow := HI.out n hlt
      have hrow' := hrow
      obtain ⟨kb, ko, rfl, -⟩ := hrow'
      obtain ⟨r0, r1, hkb⟩ := row_cells2 hrow (HP.out.went HB.out HN.out)
      have HRn := hid (HR.out n hlt)
      clear hrow
      have et := commas_take [44, 32] dcT l n hlt
      have el := commas_take_len [44, 32] dcT l (n + 1)
      have ET' := hid et
      have htot : Hid ((bs ++ commas [44, 32] dcT (l.take n)).length + (((if n = 0 then [] else [44, 32]) : List UInt8).length + (dcT l[n]).length) ≤ 140737488355328) := hid (by
        rw [et, List.length_append, List.length_append] at el
        have := HL.out
        rw [List.length_append]; omega)
      clear et el
      by_cases h0 : n = 0
      · have h0' : decide (0 < n) = false := decide_eq_false (by omega)
        have h0n : ¬ 0 < n := by omega
        have L1 : Hid ((bs ++ commas [44, 32] dcT (l.take n)).length + (dcT l[n]).length ≤ 140737488355328) := hid (by have := htot.out; rw [if_pos h0] at this; simp at this ⊢; omega)
        have HF : Hid (commas [44, 32] dcT (l.take (n + 1)) = commas [44, 32] dcT (l.take n) ++ dcT l[n]) := hid (by rw [ET'.out, if_pos h0]; rfl)
        clear h0 htot ET'
        go_wp2_with (go_at_call 101; have hx := decl_any HPw.out HB.out ((HP.out.went HB.out HN.out).alloc (.cells #[.string l[n].1, .int .i64 l[n].2] 87)) ((HN.out.alloc (.cells #[.string l[n].1, .int .i64 l[n].2] 87)).wr) l[n].1 l[n].2 HRn.out.1 HRn.out.2 L1.out; refine hx.mono ?_; clear hx; rintro e w2 ⟨rfl, g2⟩; have G2 := hid ((HN.out.alloc _).trans g2); clear g2)
        go_round
        case rel => exact ⟨n + 1, by omega, by go_num, G2.out.cast (by rw [HF.out, List.append_assoc])⟩
        case measure => simp [intOf]; omega
      · have hpos : decide ((0 : Int) < (n : Int)) = true := decide_eq_true (by omega)
        have ec : catB [{ data := #[44, 32] }] = [44, 32] := by simp [catB]
        have EC := hid ec
        have L1 : Hid ((bs ++ commas [44, 32] dcT (l.take n)).length + (catB [{ data := #[44, 32] }]).length ≤ 140737488355328) := hid (by have := htot.out; rw [if_neg h0] at this; rw [ec]; simp at this ⊢; omega)
        have L2 : Hid (((bs ++ commas [44, 32] dcT (l.take n)) ++ catB [{ data := #[44, 32] }]).length + (dcT l[n]).length ≤ 140737488355328) := hid (by have := htot.out; rw [if_neg h0] at this; rw [ec]; simp at this ⊢; omega)
        have HF : Hid (commas [44, 32] dcT (l.take (n + 1)) = commas [44, 32] dcT (l.take n) ++ ([44, 32] ++ dcT l[n])) := hid (by rw [ET'.out, if_neg h0])
        have hltb := hid HN.out.wr.lt
        clear ec htot ET'
        go_wp2_with (first
          | (go_at_call 101; have hx := decl_any HPw.out HB.out (HP.out.went HB.out G1.out) G1.out.wr l[n].1 l[n].2 HRn.out.1 HRn.out.2 L2.out; refine hx.mono ?_; clear hx; rintro e w2 ⟨rfl, g2⟩; have G2 := hid (G1.out.trans g2); clear g2)
          | (go_at_call 52; have hx := text_any ((HN.out.alloc (.cells #[.string l[n].1, .int .i64 l[n].2] 87)).wr.alloc (.cells #[.string { data := #[44, 32] }] 9)) (wr.heap.size + 1) 1 [{ data := #[44, 32] }] _ (bk_new' _ (by simp)) rfl (by simp) L1.out; refine hx.mono ?_; clear hx; rintro e w1 ⟨rfl, g1⟩; have G1 := hid (((HN.out.alloc _).alloc _).trans g1); have hbox := g1.keeps.box (bk_old _ (bk_new wr _)) (Nat.ne_of_gt hltb.out) (by decide); obtain ⟨d0, d1⟩ := cells2 hbox; clear g1 hbox))
        go_round
        case rel => exact ⟨n + 1, by omega, by go_num, G2.out.cast (by rw [HF.out, EC.out]; simp)⟩
        case measure => simp [intOf]; omega
    · obtain rfl : n = l.length := by omega
      go_wp2
      go_end0
      exact ⟨rfl, HN.out.cast (by rw [List.take_length])⟩
end Go.Proofs.YtgkdoealhbhnmaaGreatDoor

set_option linter.unusedSimpArgs false
set_option linter.unusedVariables false
namespace Go.Proofs.YtgkdoealhbhnmaaGreatDoor
open Go Go.RowKit
open Go.Lib (hid)

def varsT (l : List (ByteArray × Int)) : List UInt8 := if l.isEmpty then [] else 9 :: ([118, 97, 114] ++ 32 :: (commas [44, 32] dcT l ++ [59, 10]))
theorem varsT_is (l : List (ByteArray × Int)) : putV (l.map fun d => (d.1.data.toList, d.2.toNat)) = varsT l := by
  unfold putV varsT
  rw [commas_map]
  cases l <;> rfl
set_option maxHeartbeats 2000000 in
set_option maxRecDepth 100000 in
theorem vars_any {w0 : World} (H : Pow w0) (a : Option Addr) (c : Nat) (l : List (ByteArray × Int)) (hl : l.length ≤ 9223372036854775807)
    (B b : Nat) (bs : List UInt8) (w : World) (hB : w0.heap.size ≤ B) (h : Wr B b bs ((1 : Nat) : Int) w) (hp : Past w0 w) (hlen : bs.length + (varsT l).length ≤ 140737488355328)
    (hin : ∀ (i : Nat) (h : i < l.length), RowAt w0 0 a i 2 #[.string l[i].1, .int .i64 l[i].2]) (hrg : ∀ (i : Nat) (h : i < l.length), 0 ≤ l[i].2 ∧ l[i].2 ≤ 9223372036854775807) :
    Calls Tryz.prog 68 #[ptrW b, .slice a l.length c] w fun e w' => e = .returned (.tuple #[]) ∧ Went B b (bs ++ varsT l) ((1 : Nat) : Int) w w' := by
  have HW := hid h
  have HP := hid hp
  have HB := hid hB
  by_cases h0 : l.length = 0
  · obtain rfl : l = [] := List.length_eq_zero_iff.1 h0
    clear h hp hB hlen hin hrg H
    go_enter Tryz.func68, Tryz.ntmps68
    go_wp2_with fail
    exact bodyPost_ret (v := .tuple #[]) (by simp [results, Tryz.results68, go_sem]) rfl ⟨rfl, HW.out.went.cast (by simp [varsT])⟩
  · have hne : ((l.length : Int) == 0) = false := by rw [show ((l.length : Int) == 0) = (l.length == 0) from len_is l.length 0]; simpa using h0
    have ev : varsT l = tabsT 1 ++ ([118, 97, 114, 32] ++ (commas [44, 32] dcT l ++ [59, 10])) := by
      unfold varsT
      cases l with
      | nil => exact absurd rfl h0
      | cons d l => rfl
    have ec1 : catB [{ data := #[118, 97, 114, 32] }] = [118, 97, 114, 32] := by simp [catB]
    have ec2 : catB [{ data := #[59, 10] }] = [59, 10] := by simp [catB]
    rw [ev] at hlen ⊢
    have L0 : Hid (bs.length + 1 ≤ 140737488355328) := hid (by simp only [List.length_append, tabs_lenW, List.length_cons, List.length_nil] at hlen; omega)
    have L1 : Hid ((bs ++ tabsT 1).length + (catB [{ data := #[118, 97, 114, 32] }]).length ≤ 140737488355328) := hid (by rw [ec1]; simp only [List.length_append, tabs_lenW, List.length_cons, List.length_nil] at hlen ⊢; omega)
    have L2 : Hid (((bs ++ tabsT 1) ++ catB [{ data := #[118, 97, 114, 32] }]).length + (commas [44, 32] dcT l).length ≤ 140737488355328) := hid (by rw [ec1]; simp only [List.length_append, tabs_lenW, List.length_cons, List.length_nil] at hlen ⊢; omega)
    have L3 : Hid ((((bs ++ tabsT 1) ++ catB [{ data := #[118, 97, 114, 32] }]) ++ commas [44, 32] dcT l).length + (catB [{ data := #[59, 10] }]).length ≤ 140737488355328) := hid (by rw [ec1, ec2]; simp only [List.length_append, tabs_lenW, List.length_cons, List.length_nil] at hlen ⊢; omega)
    have EC := hid (And.intro ec1 ec2)
    have HD := hid (fun W hW hP hL => list_decls H a c l hl B b ((bs ++ tabsT 1) ++ catB [{ data := #[118, 97, 114, 32] }]) ((1 : Nat) : Int) W hB hW hP hL hin hrg)
    clear h hp hB hlen hin hrg H ev ec1 ec2
    go_enter Tryz.func68, Tryz.ntmps68
    go_wp2_with (first
      | (go_at_call 52; have hx := text_any (G3.out.wr.alloc (.cells #[.string { data := #[59, 10] }] 9)) w3.heap.size 1 [{ data := #[59, 10] }] _ (bk_new _ _) rfl (by simp) L3.out; refine hx.mono ?_; clear hx; rintro e w4 ⟨rfl, g4⟩; have G4 := hid ((G3.out.alloc _).trans g4); clear g4)
      | (go_at_call 100; have hx := HD.out _ G2.out.wr (HP.out.went HB.out G2.out) L2.out; refine hx.mono ?_; clear hx; rintro e w3 ⟨rfl, g3⟩; have G3 := hid (G2.out.trans g3); clear g3)
      | (go_at_call 52; have hx := text_any (G1.out.wr.alloc (.cells #[.string { data := #[118, 97, 114, 32] }] 9)) w1.heap.size 1 [{ data := #[118, 97, 114, 32] }] _ (bk_new _ _) rfl (by simp) L1.out; refine hx.mono ?_; clear hx; rintro e w2 ⟨rfl, g2⟩; have G2 := hid ((G1.out.alloc _).trans g2); clear g2)
      | (go_at_call 99; have hx := tabs_any HW.out L0.out; refine hx.mono ?_; clear hx; rintro e w1 ⟨rfl, g1⟩; have G1 := hid g1; clear g1))
    go_end0
    refine ⟨rfl, G4.out.cast ?_⟩
    rw [EC.out.1, EC.out.2]
    simp only [List.append_assoc, List.cons_append, List.nil_append]

def FT.text (F : FT) : List UInt8 := putF levL F.rf
theorem text_parts (F : FT) : F.text = catB [{ data := #[102, 117, 110, 99, 32] }, F.name, { data := #[40] }] ++ (commas [44, 32] nmT F.params ++ (catB [{ data := #[41] }] ++ ([32, 123, 10] ++ (varsT F.vars ++ (putL levL 1 (rss F.body) ++ ((tabsT 0 ++ [125]) ++ catB [{ data := #[10] }])))))) := by
  unfold FT.text putF
  simp only [FT.rf, varsT_is]
  rw [commas_map]
  simp only [catB, List.flatMap_cons, List.flatMap_nil, List.append_nil, tabsT, List.replicate_zero, List.nil_append, List.cons_append, List.append_assoc]
  rfl
set_option maxHeartbeats 8000000 in
set_option maxRecDepth 100000 in
theorem function_any {w0 : World} (H : Pow w0) (F : FT) (hin : F.In w0 0) (hr : F.rightB = true)
    (B b : Nat) (bs : List UInt8) (w : World) (hB : w0.heap.size ≤ B) (h : Wr B b bs ((0 : Nat) : Int) w) (hp : Past w0 w) (hlen : bs.length + F.text.length ≤ 140737488355328) :
    Calls Tryz.prog 39 #[ptrW b, F.val] w fun e w' => e = .returned (.tuple #[]) ∧ Went B b (bs ++ F.text) ((0 : Nat) : Int) w w' := by
  simp only [FT.rightB, Bool.and_eq_true, List.all_eq_true] at hr
  obtain ⟨hr1, hr2, hr3, hr4⟩ := hr
  have hrg : ∀ (i : Nat) (h : i < F.vars.length), 0 ≤ F.vars[i].2 ∧ F.vars[i].2 ≤ 9223372036854775807 := fun i hi => by
    have h1 := hr3 _ (List.getElem_mem hi)
    have h2 := hin.vr i hi
    simp only [declB, Bool.and_eq_true, decide_eq_true_eq] at h1
    exact ⟨h1.2, h2.2⟩
  rw [text_parts] at hlen ⊢
  obtain ⟨p1, hp1⟩ : ∃ p1, catB [{ data := #[102, 117, 110, 99, 32] }, F.name, { data := #[40] }] = p1 := ⟨_, rfl⟩
  obtain ⟨p2, hp2⟩ : ∃ p2, commas [44, 32] nmT F.params = p2 := ⟨_, rfl⟩
  obtain ⟨p3, hp3⟩ : ∃ p3, catB [{ data := #[41] }] = p3 := ⟨_, rfl⟩
  obtain ⟨p5, hp5⟩ : ∃ p5, varsT F.vars = p5 := ⟨_, rfl⟩
  obtain ⟨p6, hp6⟩ : ∃ p6, putL levL 1 (rss F.body) = p6 := ⟨_, rfl⟩
  obtain ⟨p8, hp8⟩ : ∃ p8, catB [{ data := #[10] }] = p8 := ⟨_, rfl⟩
  rw [hp1, hp2, hp3, hp5, hp6, hp8] at hlen ⊢
  simp only [List.length_append, List.length_cons, List.length_nil, tabs_lenW] at hlen
  have L1 : Hid (bs.length + (catB [{ data := #[102, 117, 110, 99, 32] }, F.name, { data := #[40] }]).length ≤ 140737488355328) := hid (by rw [hp1]; omega)
  have L2 : Hid ((bs ++ p1).length + (commas [44, 32] nmT F.params).length ≤ 140737488355328) := hid (by rw [hp2, List.length_append]; omega)
  have L3 : Hid (((bs ++ p1) ++ p2).length + (catB [{ data := #[41] }]).length ≤ 140737488355328) := hid (by rw [hp3]; simp only [List.length_append]; omega)
  have L4 : Hid ((((bs ++ p1) ++ p2) ++ p3).length + 3 ≤ 140737488355328) := hid (by simp only [List.length_append]; omega)
  have L5 : Hid (((((bs ++ p1) ++ p2) ++ p3) ++ [32, 123, 10]).length + (varsT F.vars).length ≤ 140737488355328) := hid (by rw [hp5]; simp only [List.length_append, List.length_cons, List.length_nil]; omega)
  have L6 : Hid ((((((bs ++ p1) ++ p2) ++ p3) ++ [32, 123, 10]) ++ p5).length + p6.length ≤ 140737488355328) := hid (by simp only [List.length_append, List.length_cons, List.length_nil]; omega)
  have L7 : Hid (((((((bs ++ p1) ++ p2) ++ p3) ++ [32, 123, 10]) ++ p5) ++ p6).length + 0 + 1 ≤ 140737488355328) := hid (by simp only [List.length_append, List.length_cons, List.length_nil]; omega)
  have L8 : Hid ((((((((bs ++ p1) ++ p2) ++ p3) ++ [32, 123, 10]) ++ p5) ++ p6) ++ (tabsT 0 ++ [125])).length + (catB [{ data := #[10] }]).length ≤ 140737488355328) := hid (by rw [hp8]; simp only [List.length_append, List.length_cons, List.length_nil, tabs_lenW]; omega)
  have HN : Hid (∀ W, Wr B b (bs ++ p1) ((0 : Nat) : Int) W → Past w0 W → Calls Tryz.prog 65 #[ptrW b, .slice F.pa F.params.length F.pc, .func (.func 66) #[] #[]] W fun e w' => e = .returned (.tuple #[]) ∧ Went B b ((bs ++ p1) ++ p2) ((0 : Nat) : Int) W w') := hid fun W hW hP => by
    have := list_names F.pa F.pc F.params hin.pl B b (bs ++ p1) ((0 : Nat) : Int) W hB hW hP L2.out hin.ps
    rwa [hp2] at this
  have HV : Hid (∀ W, Wr B b ((((bs ++ p1) ++ p2) ++ p3) ++ [32, 123, 10]) ((1 : Nat) : Int) W → Past w0 W → Calls Tryz.prog 68 #[ptrW b, .slice F.va F.vars.length F.vc] W fun e w' => e = .returned (.tuple #[]) ∧ Went B b (((((bs ++ p1) ++ p2) ++ p3) ++ [32, 123, 10]) ++ p5) ((1 : Nat) : Int) W w') := hid fun W hW hP => by
    have := vars_any H F.va F.vc F.vars hin.vl B b ((((bs ++ p1) ++ p2) ++ p3) ++ [32, 123, 10]) W hB hW hP L5.out hin.vs hrg
    rwa [hp5] at this
  have HS : Hid (StmtsDoes w0 1 (.slice F.ba F.body.length F.bc) p6) := hid (by
    have := stmts_any H 1 F.ba F.bc F.body hin.bl hin.ss hr4
    rwa [hp6] at this)
  have E1 := hid hp1
  have E3 := hid hp3
  have E8 := hid hp8
  have HW := hid h
  have HP := hid hp
  have HB := hid hB
  have hltb := hid h.lt
  have h00 : Hid ((0 : Nat) ≤ 140737488355328) := hid (by omega)
  clear h hp hB hlen hr1 hr2 hr3 hr4 hrg hin H hp1 hp2 hp3 hp5 hp6 hp8 L2 L5
  show Calls Tryz.prog 39 #[ptrW b, .agg #[.string F.name, .slice F.pa F.params.length F.pc, .slice F.va F.vars.length F.vc, .slice F.ba F.body.length F.bc]] w _
  generalize F.name = nm at L1 E1
  generalize F.params.length = pl at HN
  generalize F.vars.length = vl at HV
  generalize F.body.length = bl at HS
  generalize F.pa = pa at HN
  generalize F.va = va at HV
  generalize F.ba = ba at HS
  generalize F.pc = pc at HN
  generalize F.vc = vc at HV
  generalize F.bc = bc at HS
  go_enter Tryz.func39, Tryz.ntmps39
  go_wp2_with (first
    | (go_at_call 52; have hx := text_any (G7.out.wr.alloc (.cells #[.string { data := #[10] }] 9)) w7.heap.size 1 [{ data := #[10] }] _ (bk_new _ _) rfl (by simp) L8.out; refine hx.mono ?_; clear hx; rintro e w8 ⟨rfl, g8⟩; have G8 := hid ((G7.out.alloc _).trans g8); clear g8)
    | (go_at_call 70; have hx := shut_any (d := 0) G6.out.wr L7.out; refine hx.mono ?_; clear hx; rintro e w7 ⟨rfl, g7⟩; have G7 := hid (G6.out.trans g7); clear g7)
    | (go_at_call 69; have hx := HS.out B b _ _ HB.out G5.out.wr (HP.out.went HB.out G5.out) L6.out; refine hx.mono ?_; clear hx; rintro e w6 ⟨rfl, g6⟩; have G6 := hid (G5.out.trans g6); clear g6)
    | (go_at_call 68; have hx := HV.out _ G4.out.wr (HP.out.went HB.out G4.out); refine hx.mono ?_; clear hx; rintro e w5 ⟨rfl, g5⟩; have G5 := hid (G4.out.trans g5); have X5 := hid (g5.keeps.box X4.out (Nat.ne_of_gt hltb.out) (by decide)); obtain ⟨t0, t1, t2, t3⟩ := cells4 X5.out; clear g5)
    | (go_at_call 67; have hx := open_any (d := 0) G3.out.wr h00.out L4.out; refine hx.mono ?_; clear hx; rintro e w4 ⟨rfl, g4⟩; have G4 := hid (G3.out.trans g4); have X4 := hid (g4.keeps.box X3.out (Nat.ne_of_gt hltb.out) (by decide)); obtain ⟨s0, s1, s2, s3⟩ := cells4 X4.out; clear g4)
    | (go_at_call 52; have hx := text_any (G2.out.wr.alloc (.cells #[.string { data := #[41] }] 9)) w2.heap.size 1 [{ data := #[41] }] _ (bk_new _ _) rfl (by simp) L3.out; refine hx.mono ?_; clear hx; rw [E3.out]; rintro e w3 ⟨rfl, g3⟩; have G3 := hid ((G2.out.alloc _).trans g3); have X3 := hid (g3.keeps.box (bk_old _ X2.out) (Nat.ne_of_gt hltb.out) (by decide)); obtain ⟨r0, r1, r2, r3⟩ := cells4 X3.out; clear g3)
    | (go_at_call 65; have hx := HN.out _ G1.out.wr (HP.out.went HB.out G1.out); refine hx.mono ?_; clear hx; rintro e w2 ⟨rfl, g2⟩; have G2 := hid (G1.out.trans g2); have X2 := hid (g2.keeps.box X1.out (Nat.ne_of_gt hltb.out) (by decide)); obtain ⟨d0, d1, d2, d3⟩ := cells4 X2.out; clear g2)
    | (go_at_call 52; have hx := text_any ((HW.out.alloc (.cells #[.string nm, .slice pa pl pc, .slice va vl vc, .slice ba bl bc] 59)).alloc (.cells #[.string { data := #[102, 117, 110, 99, 32] }, .string nm, .string { data := #[40] }] 9)) (w.heap.size + 1) 3 [{ data := #[102, 117, 110, 99, 32] }, nm, { data := #[40] }] _ (bk_new' _ (by simp)) rfl (by simp) L1.out; refine hx.mono ?_; clear hx; rw [E1.out]; rintro e w1 ⟨rfl, g1⟩; have G1 := hid (((HW.out.went.alloc _).alloc _).trans g1); have X1 := hid (g1.keeps.box (bk_old _ (bk_new w _)) (Nat.ne_of_gt hltb.out) (by decide)); obtain ⟨c0, c1, c2, c3⟩ := cells4 X1.out; clear g1))
  go_end0
  refine ⟨rfl, G8.out.cast ?_⟩
  rw [E8.out]
  simp only [List.append_assoc, List.cons_append, List.nil_append]
end Go.Proofs.YtgkdoealhbhnmaaGreatDoor

set_option linter.unusedSimpArgs false
set_option linter.unusedVariables false
namespace Go.Proofs.YtgkdoealhbhnmaaGreatDoor
open Go Go.RowKit
open Go.Lib (hid)

def progT (l : List FT) : List UInt8 := l.flatMap FT.text
theorem progT_is (l : List FT) : putP levL (l.map FT.rf) = progT l := by
  unfold putP progT
  rw [List.flatMap_map]; rfl
theorem progT_take {l : List FT} {n : Nat} (hn : n < l.length) : progT (l.take (n + 1)) = progT (l.take n) ++ l[n].text := by
  rw [List.take_succ_eq_append_getElem hn, progT, List.flatMap_append, progT]; simp
theorem progT_take_len (l : List FT) (n : Nat) : (progT (l.take n)).length ≤ (progT l).length := by
  rw [show progT l = progT (l.take n) ++ progT (l.drop n) by rw [progT, progT, progT, ← List.flatMap_append, List.take_append_drop], List.length_append]
  omega
set_option maxHeartbeats 4000000 in
set_option maxRecDepth 100000 in
theorem prog_any {w0 : World} (H : Pow w0) (a : Option Addr) (c : Nat) (l : List FT) (hin : FsIn w0 0 a l) (hr : l.all FT.rightB = true)
    (B b : Nat) (bs : List UInt8) (w : World) (hB : w0.heap.size ≤ B) (h : Wr B b bs ((0 : Nat) : Int) w) (hp : Past w0 w) (hlen : bs.length + (progT l).length ≤ 140737488355328) :
    Calls Tryz.prog 23 #[ptrW b, .agg #[.slice a l.length c]] w fun e w' => e = .returned (.tuple #[]) ∧ Went B b (bs ++ progT l) ((0 : Nat) : Int) w w' := by
  have hl := hin.len
  have HF : Hid (∀ (n : Nat) (hn : n < l.length) (bs : List UInt8) (W : World), Wr B b bs ((0 : Nat) : Int) W → Past w0 W → bs.length + l[n].text.length ≤ 140737488355328 → Calls Tryz.prog 39 #[ptrW b, .agg #[.string l[n].name, .slice l[n].pa l[n].params.length l[n].pc, .slice l[n].va l[n].vars.length l[n].vc, .slice l[n].ba l[n].body.length l[n].bc]] W fun e w' => e = .returned (.tuple #[]) ∧ Went B b (bs ++ l[n].text) ((0 : Nat) : Int) W w') := hid fun n hn bs W hW hP hL => function_any H l[n] (hin.fs n hn) (by rw [List.all_eq_true] at hr; exact hr _ (List.getElem_mem hn)) B b bs W hB hW hP hL
  have HI := hid hin
  have HP := hid hp
  have HW := hid h
  have HB := hid hB
  have HL := hid hlen
  clear hin hp h hB hlen hr H
  go_enter Tryz.func23, Tryz.ntmps23
  go_wp2
  go_loopw [5, 9] (fun _ i wr => ∃ n : Nat, n ≤ l.length ∧ i = .int .i64 n ∧ Went B b (bs ++ progT (l.take n)) ((0 : Nat) : Int) (w.alloc (.cells #[.slice a l.length c] 24)) wr) (fun _ i _ => l.length - (intOf i).toNat)
  case atStart => exact ⟨0, Nat.zero_le _, rfl, (HW.out.alloc _).went.cast (by simp [progT])⟩
  case round =>
    obtain ⟨n, hn, rfl, hw⟩ := hrel
    have HN := hid ((HW.out.went.alloc _).trans hw)
    have HN1 := hid hw
    clear hw
    by_cases hlt : n < l.length
    · have hrow := HI.out.row n hlt
      have hrow' := hrow
      obtain ⟨kb, ko, rfl, -⟩ := hrow'
      unfold FT.cells at hrow
      obtain ⟨r0, r1, r2, r3, hkb⟩ := row_cells4 hrow (HP.out.went HB.out HN.out)
      have et := progT_take hlt
      have el := progT_take_len l (n + 1)
      have L1 : Hid ((bs ++ progT (l.take n)).length + l[n].text.length ≤ 140737488355328) := hid (by
        rw [et, List.length_append] at el
        have := HL.out
        rw [List.length_append]; omega)
      have ET' := hid et
      clear et el hrow
      go_wp2_with (go_at_call 39; have hx := HF.out n hlt _ _ ((HN.out.alloc (.cells #[.string l[n].name, .slice l[n].pa l[n].params.length l[n].pc, .slice l[n].va l[n].vars.length l[n].vc, .slice l[n].ba l[n].body.length l[n].bc] 59)).wr) ((HP.out.went HB.out HN.out).alloc _) L1.out; refine hx.mono ?_; clear hx; rintro e w2 ⟨rfl, g2⟩; have G2 := hid ((HN1.out.alloc _).trans g2); clear g2)
      go_round
      case rel => exact ⟨n + 1, by omega, by go_num, G2.out.cast (by rw [ET'.out, List.append_assoc])⟩
      case measure => simp [intOf]; omega
    · obtain rfl : n = l.length := by omega
      go_wp2
      go_end0
      exact ⟨rfl, HN.out.cast (by rw [List.take_length])⟩
set_option maxHeartbeats 2000000 in
set_option maxRecDepth 100000 in
theorem putProg_any {w0 : World} (H : Pow w0) (a : Option Addr) (c : Nat) (l : List FT) (hin : FsIn w0 0 a l) (hr : l.all FT.rightB = true) (hlen : (progT l).length ≤ 140737488355328) (w : World) (hp : Past w0 w) :
    Calls Tryz.prog 21 #[.agg #[.slice a l.length c], .func (.func 22) #[] #[], .func (.func 23) #[] #[]] w fun e w' => e = .returned (.string ⟨(progT l).toArray⟩) ∧ Below w.heap.size w w' := by
  have HX := hid (prog_any H a c l hin hr)
  have HR : Hid (∀ W, Past w0 W → Calls Tryz.prog 22 #[.agg #[.slice a l.length c]] W fun e w' => e = .returned (.bool true) ∧ Below W.heap.size W w') := hid fun W hW => by have := rightP_any a c l hin W hW; rwa [hr] at this
  have HP := hid hp
  have HL : Hid (([] : List UInt8).length + (progT l).length ≤ 140737488355328) := hid (by simpa using hlen)
  clear hp hlen hin hr H
  generalize progT l = tx at HX HL ⊢
  generalize l.length = n at HX HR ⊢
  go_enter Tryz.func21, Tryz.ntmps21
  go_wp2_with (first
    | (go_at_call 36; refine (string_any G2.out.wr).mono ?_; rintro e w3 ⟨rfl, hb3⟩; have HB3 := hid hb3; clear hb3)
    | (go_at_call 23; have hx := HX.out w1.heap.size w1.heap.size [] _ HP1.out.size (wr_new w1) (HP1.out.alloc _) HL.out; refine hx.mono ?_; clear hx; rintro e w2 ⟨rfl, g2⟩; have G2 := hid g2; clear g2)
    | (go_at_call 22; have hx := HR.out _ (HP.out.alloc (.cells #[.slice a n c] 24)); refine hx.mono ?_; clear hx; rintro e w1 ⟨rfl, hb⟩; have c0 : w1.cell? ⟨w.heap.size, 0, none⟩ = some (.slice a n c) := bk_cell ((hb.block w.heap.size (by simp)).trans (bk_new _ _)) rfl; have hlt : w.heap.size < w1.heap.size := (by have := hb.size; simp at this; omega); have HP1 := hid ((HP.out.alloc _).on hb); have HB1 := hid (step_on ((Below.refl _ _).alloc (Nat.le_refl _) _) hb); clear hb))
  go_ret
  refine ⟨rfl, ?_⟩
  have h2 : Below w1.heap.size w1 w3 := (((Below.refl w1.heap.size w1).alloc (Nat.le_refl _) _).trans G2.out.below).trans HB3.out
  exact step_on HB1.out h2
set_option maxHeartbeats 1000000 in
theorem put_any {w0 : World} (H : Pow w0) (a : Option Addr) (c : Nat) (l : List FT) (hin : FsIn w0 0 a l) (hr : l.all FT.rightB = true) (hlen : (progT l).length ≤ 140737488355328) (w : World) (hp : Past w0 w) :
    Calls Tryz.prog 12 #[.agg #[.slice a l.length c]] w fun e w' => e = .returned (.string ⟨(progT l).toArray⟩) ∧ Below w.heap.size w w' := by
  have HX := hid (putProg_any H a c l hin hr hlen)
  have HP := hid hp
  clear hp hlen hin hr H
  generalize progT l = tx at HX ⊢
  generalize l.length = n at HX ⊢
  go_enter Tryz.func12, Tryz.ntmps12
  go_wp2_with (go_at_call 21; have hx := HX.out _ (HP.out.alloc (.cells #[.slice a n c] 24)); refine hx.mono ?_; clear hx; rintro e w1 ⟨rfl, hb⟩)
  go_ret
  exact ⟨rfl, step_on ((Below.refl _ _).alloc (Nat.le_refl _) _) hb⟩
end Go.Proofs.YtgkdoealhbhnmaaGreatDoor
