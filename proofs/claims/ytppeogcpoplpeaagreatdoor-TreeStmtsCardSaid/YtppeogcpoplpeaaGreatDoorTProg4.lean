/- What the writer writes of lists of names and of declarations. (Written by genl.py.) -/
import Derived.Test.YtppeogcpoplpeaaGreatDoorTProg3
set_option linter.unusedSimpArgs false
set_option linter.unusedVariables false
namespace Go.Proofs.YtppeogcpoplpeaaGreatDoor
open Go Go.RowKit

set_option maxHeartbeats 4000000 in
set_option maxRecDepth 100000 in
theorem list_names {w0 : World}  (a : Option Addr) (c : Nat) (l : List ByteArray) (hl : l.length ≤ 9223372036854775807)
    (B b : Nat) (bs : List UInt8) (k : Int) (w : World) (hB : w0.heap.size ≤ B) (h : Wr B b bs k w) (hp : Past w0 w) (hlen : bs.length + (commas [44, 32] nmT l).length ≤ 140737488355328) (hin : ∀ (i : Nat) (h : i < l.length), StrAt w0 0 a i l[i]) :
    Calls Tryz.prog 102 #[ptrW b, .slice a l.length c, .func (.func 103) #[] #[]] w fun e w' => e = .returned (.tuple #[]) ∧ Went B b (bs ++ commas [44, 32] nmT l) k w w' := by
  have HI := Lib.hid hin
  have HP := Lib.hid hp
  have HW := Lib.hid h
  have HB := Lib.hid hB
  have HL := Lib.hid hlen
  clear hin hp h hB hlen
  go_enter Tryz.func102, Tryz.ntmps102
  go_wp2
  go_loopw [6, 7, 10] (fun _ _ i wr => ∃ n : Nat, n ≤ l.length ∧ i = .int .i64 n ∧ Went B b (bs ++ commas [44, 32] nmT (l.take n)) k w wr) (fun _ _ i _ => l.length - (intOf i).toNat)
  case atStart => exact ⟨0, Nat.zero_le _, rfl, HW.out.went.cast (by simp [commas])⟩
  case round =>
    obtain ⟨n, hn, rfl, hw⟩ := hrel
    have HN := Lib.hid hw
    clear hw
    by_cases hlt : n < l.length
    · obtain ⟨kb, ko, rfl, -, hc0⟩ := HI.out n hlt
      have hc := below_keep (HP.out.went HB.out HN.out) (B := 0) _ _ (Nat.zero_le _) hc0
      have hkb := cell_lt hc
      clear hc0
      have et := commas_take [44, 32] nmT l n hlt
      have el := commas_take_len [44, 32] nmT l (n + 1)
      have ET' := Lib.hid et
      have htot : Hid ((bs ++ commas [44, 32] nmT (l.take n)).length + (((if n = 0 then [] else [44, 32]) : List UInt8).length + (nmT l[n]).length) ≤ 140737488355328) := Lib.hid (by
        rw [et, List.length_append, List.length_append] at el
        have := HL.out
        rw [List.length_append]; omega)
      clear et el
      by_cases h0 : n = 0
      · have h0' : decide (0 < n) = false := decide_eq_false (by omega)
        have h0n : ¬ 0 < n := by omega
        have L1 : Hid ((bs ++ commas [44, 32] nmT (l.take n)).length + (nmT l[n]).length ≤ 140737488355328) := Lib.hid (by have := htot.out; rw [if_pos h0] at this; simp at this ⊢; omega)
        have HF : Hid (commas [44, 32] nmT (l.take (n + 1)) = commas [44, 32] nmT (l.take n) ++ nmT l[n]) := Lib.hid (by rw [ET'.out, if_pos h0]; rfl)
        clear h0 htot ET'
        go_wp2_with (go_at_call 103; have hx := wname_any HN.out.wr l[n] L1.out; refine hx.mono ?_; clear hx; rintro e w2 ⟨rfl, g2⟩; have G2 := Lib.hid (HN.out.trans g2); clear g2)
        go_round
        case rel => exact ⟨n + 1, by omega, by go_num, G2.out.cast (by rw [HF.out, List.append_assoc])⟩
        case measure => simp [intOf]; omega
      · have hpos : decide ((0 : Int) < (n : Int)) = true := decide_eq_true (by omega)
        have ec : catB [{ data := #[44, 32] }] = [44, 32] := by simp [catB]
        have EC := Lib.hid ec
        have L1 : Hid ((bs ++ commas [44, 32] nmT (l.take n)).length + (catB [{ data := #[44, 32] }]).length ≤ 140737488355328) := Lib.hid (by have := htot.out; rw [if_neg h0] at this; rw [ec]; simp at this ⊢; omega)
        have L2 : Hid (((bs ++ commas [44, 32] nmT (l.take n)) ++ catB [{ data := #[44, 32] }]).length + (nmT l[n]).length ≤ 140737488355328) := Lib.hid (by have := htot.out; rw [if_neg h0] at this; rw [ec]; simp at this ⊢; omega)
        have HF : Hid (commas [44, 32] nmT (l.take (n + 1)) = commas [44, 32] nmT (l.take n) ++ ([44, 32] ++ nmT l[n])) := Lib.hid (by rw [ET'.out, if_neg h0])
        have hltb := Lib.hid HN.out.wr.lt
        clear ec htot ET'
        go_wp2_with (first
          | (go_at_call 103; have hx := wname_any G1.out.wr l[n] L2.out; refine hx.mono ?_; clear hx; rintro e w2 ⟨rfl, g2⟩; have G2 := Lib.hid (G1.out.trans g2); clear g2)
          | (go_at_call 81; have hx := text_any (HN.out.wr.alloc (.cells #[.string { data := #[44, 32] }] 9)) wr.heap.size 1 [{ data := #[44, 32] }] _ (bk_new _ _) rfl (by simp) L1.out; refine hx.mono ?_; clear hx; rintro e w1 ⟨rfl, g1⟩; have G1 := Lib.hid ((HN.out.alloc _).trans g1); clear g1))
        go_round
        case rel => exact ⟨n + 1, by omega, by go_num, G2.out.cast (by rw [HF.out, EC.out]; simp)⟩
        case measure => simp [intOf]; omega
    · obtain rfl : n = l.length := by omega
      go_wp2
      go_end0
      exact ⟨rfl, HN.out.cast (by rw [List.take_length])⟩
set_option maxHeartbeats 4000000 in
set_option maxRecDepth 100000 in
theorem list_decls {w0 : World} (H : Pow w0) (a : Option Addr) (c : Nat) (l : List (ByteArray × Int)) (hl : l.length ≤ 9223372036854775807)
    (B b : Nat) (bs : List UInt8) (k : Int) (w : World) (hB : w0.heap.size ≤ B) (h : Wr B b bs k w) (hp : Past w0 w) (hlen : bs.length + (commas [44, 32] dcT l).length ≤ 140737488355328) (hin : ∀ (i : Nat) (h : i < l.length), RowAt w0 0 a i 2 #[.string l[i].1, .int .i64 l[i].2]) (hrg : ∀ (i : Nat) (h : i < l.length), 0 ≤ l[i].2 ∧ l[i].2 ≤ 9223372036854775807) :
    Calls Tryz.prog 120 #[ptrW b, .slice a l.length c, .func (.func 121) #[] #[]] w fun e w' => e = .returned (.tuple #[]) ∧ Went B b (bs ++ commas [44, 32] dcT l) k w w' := by
  have HI := Lib.hid hin
  have HR := Lib.hid hrg
  have HPw := Lib.hid H
  clear hrg H
  have HP := Lib.hid hp
  have HW := Lib.hid h
  have HB := Lib.hid hB
  have HL := Lib.hid hlen
  clear hin hp h hB hlen
  go_enter Tryz.func120, Tryz.ntmps120
  go_wp2
  go_loopw [6, 7, 10] (fun _ _ i wr => ∃ n : Nat, n ≤ l.length ∧ i = .int .i64 n ∧ Went B b (bs ++ commas [44, 32] dcT (l.take n)) k w wr) (fun _ _ i _ => l.length - (intOf i).toNat)
  case atStart => exact ⟨0, Nat.zero_le _, rfl, HW.out.went.cast (by simp [commas])⟩
  case round =>
    obtain ⟨n, hn, rfl, hw⟩ := hrel
    have HN := Lib.hid hw
    clear hw
    by_cases hlt : n < l.length
    · have hrow := HI.out n hlt
      have hrow' := hrow
      obtain ⟨kb, ko, rfl, -⟩ := hrow'
      obtain ⟨r0, r1, hkb⟩ := row_cells2 hrow (HP.out.went HB.out HN.out)
      have HRn := Lib.hid (HR.out n hlt)
      clear hrow
      have et := commas_take [44, 32] dcT l n hlt
      have el := commas_take_len [44, 32] dcT l (n + 1)
      have ET' := Lib.hid et
      have htot : Hid ((bs ++ commas [44, 32] dcT (l.take n)).length + (((if n = 0 then [] else [44, 32]) : List UInt8).length + (dcT l[n]).length) ≤ 140737488355328) := Lib.hid (by
        rw [et, List.length_append, List.length_append] at el
        have := HL.out
        rw [List.length_append]; omega)
      clear et el
      by_cases h0 : n = 0
      · have h0' : decide (0 < n) = false := decide_eq_false (by omega)
        have h0n : ¬ 0 < n := by omega
        have L1 : Hid ((bs ++ commas [44, 32] dcT (l.take n)).length + (dcT l[n]).length ≤ 140737488355328) := Lib.hid (by have := htot.out; rw [if_pos h0] at this; simp at this ⊢; omega)
        have HF : Hid (commas [44, 32] dcT (l.take (n + 1)) = commas [44, 32] dcT (l.take n) ++ dcT l[n]) := Lib.hid (by rw [ET'.out, if_pos h0]; rfl)
        clear h0 htot ET'
        go_wp2_with (go_at_call 121; have hx := decl_any HPw.out HB.out ((HP.out.went HB.out HN.out).alloc (.cells #[.string l[n].1, .int .i64 l[n].2] 85)) ((HN.out.alloc (.cells #[.string l[n].1, .int .i64 l[n].2] 85)).wr) l[n].1 l[n].2 HRn.out.1 HRn.out.2 L1.out; refine hx.mono ?_; clear hx; rintro e w2 ⟨rfl, g2⟩; have G2 := Lib.hid ((HN.out.alloc _).trans g2); clear g2)
        go_round
        case rel => exact ⟨n + 1, by omega, by go_num, G2.out.cast (by rw [HF.out, List.append_assoc])⟩
        case measure => simp [intOf]; omega
      · have hpos : decide ((0 : Int) < (n : Int)) = true := decide_eq_true (by omega)
        have ec : catB [{ data := #[44, 32] }] = [44, 32] := by simp [catB]
        have EC := Lib.hid ec
        have L1 : Hid ((bs ++ commas [44, 32] dcT (l.take n)).length + (catB [{ data := #[44, 32] }]).length ≤ 140737488355328) := Lib.hid (by have := htot.out; rw [if_neg h0] at this; rw [ec]; simp at this ⊢; omega)
        have L2 : Hid (((bs ++ commas [44, 32] dcT (l.take n)) ++ catB [{ data := #[44, 32] }]).length + (dcT l[n]).length ≤ 140737488355328) := Lib.hid (by have := htot.out; rw [if_neg h0] at this; rw [ec]; simp at this ⊢; omega)
        have HF : Hid (commas [44, 32] dcT (l.take (n + 1)) = commas [44, 32] dcT (l.take n) ++ ([44, 32] ++ dcT l[n])) := Lib.hid (by rw [ET'.out, if_neg h0])
        have hltb := Lib.hid HN.out.wr.lt
        clear ec htot ET'
        go_wp2_with (first
          | (go_at_call 121; have hx := decl_any HPw.out HB.out (HP.out.went HB.out G1.out) G1.out.wr l[n].1 l[n].2 HRn.out.1 HRn.out.2 L2.out; refine hx.mono ?_; clear hx; rintro e w2 ⟨rfl, g2⟩; have G2 := Lib.hid (G1.out.trans g2); clear g2)
          | (go_at_call 81; have hx := text_any ((HN.out.alloc (.cells #[.string l[n].1, .int .i64 l[n].2] 85)).wr.alloc (.cells #[.string { data := #[44, 32] }] 9)) (wr.heap.size + 1) 1 [{ data := #[44, 32] }] _ (bk_new' _ (by simp)) rfl (by simp) L1.out; refine hx.mono ?_; clear hx; rintro e w1 ⟨rfl, g1⟩; have G1 := Lib.hid (((HN.out.alloc _).alloc _).trans g1); have hbox := g1.keeps.box (bk_old _ (bk_new wr _)) (Nat.ne_of_gt hltb.out) (by decide); obtain ⟨d0, d1⟩ := cells2 hbox; clear g1 hbox))
        go_round
        case rel => exact ⟨n + 1, by omega, by go_num, G2.out.cast (by rw [HF.out, EC.out]; simp)⟩
        case measure => simp [intOf]; omega
    · obtain rfl : n = l.length := by omega
      go_wp2
      go_end0
      exact ⟨rfl, HN.out.cast (by rw [List.take_length])⟩
end Go.Proofs.YtppeogcpoplpeaaGreatDoor
