/- What Put answers of a right program. What Put and PutStmts answer of what is right. -/
import Derived.Test.YtppeogcpoplpeaaGreatDoorTProg4
set_option linter.unusedSimpArgs false
set_option linter.unusedVariables false
namespace Go.Proofs.YtppeogcpoplpeaaGreatDoor
open Go Go.RowKit

def varsT (l : List (ByteArray × Int)) : List UInt8 := if l.isEmpty then [] else 9 :: ([118, 97, 114] ++ 32 :: (commas [44, 32] dcT l ++ [59, 10]))
theorem varsT_is (l : List (ByteArray × Int)) : putV (l.map fun d => (d.1.data.toList, d.2.toNat)) = varsT l := by
  unfold putV varsT
  rw [commas_map]
  cases l <;> rfl
set_option maxHeartbeats 2000000 in
set_option maxRecDepth 100000 in
theorem vars_any {w0 : World} (H : Pow w0) (a : Option Addr) (c : Nat) (l : List (ByteArray × Int)) (hl : l.length ≤ 9223372036854775807)
    (B b : Nat) (bs : List UInt8) (w : World) (hB : w0.heap.size ≤ B) (h : Wr B b bs ((1 : Nat) : Int) w) (hp : Past w0 w) (hlen : bs.length + (varsT l).length ≤ 140737488355328)
    (hin : ∀ (i : Nat) (h : i < l.length), RowAt w0 0 a i 2 #[.string l[i].1, .int .i64 l[i].2]) (hrg : ∀ (i : Nat) (h : i < l.length), 0 ≤ l[i].2 ∧ l[i].2 ≤ 9223372036854775807) :
    Calls Tryz.prog 105 #[ptrW b, .slice a l.length c] w fun e w' => e = .returned (.tuple #[]) ∧ Went B b (bs ++ varsT l) ((1 : Nat) : Int) w w' := by
  have HW := Lib.hid h
  have HP := Lib.hid hp
  have HB := Lib.hid hB
  by_cases h0 : l.length = 0
  · obtain rfl : l = [] := List.length_eq_zero_iff.1 h0
    clear h hp hB hlen hin hrg H
    go_enter Tryz.func105, Tryz.ntmps105
    go_wp2_with fail
    exact bodyPost_ret (v := .tuple #[]) (by simp [results, Tryz.results105, go_sem]) rfl ⟨rfl, HW.out.went.cast (by simp [varsT])⟩
  · have hne : ((l.length : Int) == 0) = false := by rw [show ((l.length : Int) == 0) = (l.length == 0) from len_is l.length 0]; simpa using h0
    have ev : varsT l = tabsT 1 ++ ([118, 97, 114, 32] ++ (commas [44, 32] dcT l ++ [59, 10])) := by
      unfold varsT
      cases l with
      | nil => exact absurd rfl h0
      | cons d l => rfl
    have ec1 : catB [{ data := #[118, 97, 114, 32] }] = [118, 97, 114, 32] := by simp [catB]
    have ec2 : catB [{ data := #[59, 10] }] = [59, 10] := by simp [catB]
    rw [ev] at hlen ⊢
    have L0 : Hid (bs.length + 1 ≤ 140737488355328) := Lib.hid (by simp only [List.length_append, tabs_lenW, List.length_cons, List.length_nil] at hlen; omega)
    have L1 : Hid ((bs ++ tabsT 1).length + (catB [{ data := #[118, 97, 114, 32] }]).length ≤ 140737488355328) := Lib.hid (by rw [ec1]; simp only [List.length_append, tabs_lenW, List.length_cons, List.length_nil] at hlen ⊢; omega)
    have L2 : Hid (((bs ++ tabsT 1) ++ catB [{ data := #[118, 97, 114, 32] }]).length + (commas [44, 32] dcT l).length ≤ 140737488355328) := Lib.hid (by rw [ec1]; simp only [List.length_append, tabs_lenW, List.length_cons, List.length_nil] at hlen ⊢; omega)
    have L3 : Hid ((((bs ++ tabsT 1) ++ catB [{ data := #[118, 97, 114, 32] }]) ++ commas [44, 32] dcT l).length + (catB [{ data := #[59, 10] }]).length ≤ 140737488355328) := Lib.hid (by rw [ec1, ec2]; simp only [List.length_append, tabs_lenW, List.length_cons, List.length_nil] at hlen ⊢; omega)
    have EC := Lib.hid (And.intro ec1 ec2)
    have HD := Lib.hid (fun W hW hP hL => list_decls H a c l hl B b ((bs ++ tabsT 1) ++ catB [{ data := #[118, 97, 114, 32] }]) ((1 : Nat) : Int) W hB hW hP hL hin hrg)
    clear h hp hB hlen hin hrg H ev ec1 ec2
    go_enter Tryz.func105, Tryz.ntmps105
    go_wp2_with (first
      | (go_at_call 81; have hx := text_any (G3.out.wr.alloc (.cells #[.string { data := #[59, 10] }] 9)) w3.heap.size 1 [{ data := #[59, 10] }] _ (bk_new _ _) rfl (by simp) L3.out; refine hx.mono ?_; clear hx; rintro e w4 ⟨rfl, g4⟩; have G4 := Lib.hid ((G3.out.alloc _).trans g4); clear g4)
      | (go_at_call 120; have hx := HD.out _ G2.out.wr (HP.out.went HB.out G2.out) L2.out; refine hx.mono ?_; clear hx; rintro e w3 ⟨rfl, g3⟩; have G3 := Lib.hid (G2.out.trans g3); clear g3)
      | (go_at_call 81; have hx := text_any (G1.out.wr.alloc (.cells #[.string { data := #[118, 97, 114, 32] }] 9)) w1.heap.size 1 [{ data := #[118, 97, 114, 32] }] _ (bk_new _ _) rfl (by simp) L1.out; refine hx.mono ?_; clear hx; rintro e w2 ⟨rfl, g2⟩; have G2 := Lib.hid ((G1.out.alloc _).trans g2); clear g2)
      | (go_at_call 87; have hx := tabs_any HW.out L0.out; refine hx.mono ?_; clear hx; rintro e w1 ⟨rfl, g1⟩; have G1 := Lib.hid g1; clear g1))
    go_end0
    refine ⟨rfl, G4.out.cast ?_⟩
    rw [EC.out.1, EC.out.2]
    simp only [List.append_assoc, List.cons_append, List.nil_append]

def FT.text (F : FT) : List UInt8 := putF levL F.rf
theorem text_parts (F : FT) : F.text = catB [{ data := #[102, 117, 110, 99, 32] }, F.name, { data := #[40] }] ++ (commas [44, 32] nmT F.params ++ (catB [{ data := #[41] }] ++ ([32, 123, 10] ++ (varsT F.vars ++ (putL levL 1 (rss F.body) ++ ((tabsT 0 ++ [125]) ++ catB [{ data := #[10] }])))))) := by
  unfold FT.text putF
  simp only [FT.rf, varsT_is]
  rw [commas_map]
  simp only [catB, List.flatMap_cons, List.flatMap_nil, List.append_nil, tabsT, List.replicate_zero, List.nil_append, List.cons_append, List.append_assoc]
  rfl
set_option maxHeartbeats 8000000 in
set_option maxRecDepth 100000 in
theorem function_any {w0 : World} (H : Pow w0) (F : FT) (hin : F.In w0 0) (hr : F.rightB = true)
    (B b : Nat) (bs : List UInt8) (w : World) (hB : w0.heap.size ≤ B) (h : Wr B b bs ((0 : Nat) : Int) w) (hp : Past w0 w) (hlen : bs.length + F.text.length ≤ 140737488355328) :
    Calls Tryz.prog 77 #[ptrW b, F.val] w fun e w' => e = .returned (.tuple #[]) ∧ Went B b (bs ++ F.text) ((0 : Nat) : Int) w w' := by
  simp only [FT.rightB, Bool.and_eq_true, List.all_eq_true] at hr
  obtain ⟨hr1, hr2, hr3, hr4⟩ := hr
  have hrg : ∀ (i : Nat) (h : i < F.vars.length), 0 ≤ F.vars[i].2 ∧ F.vars[i].2 ≤ 9223372036854775807 := fun i hi => by
    have h1 := hr3 _ (List.getElem_mem hi)
    have h2 := hin.vr i hi
    simp only [declB, Bool.and_eq_true, decide_eq_true_eq] at h1
    exact ⟨h1.2, h2.2⟩
  rw [text_parts] at hlen ⊢
  obtain ⟨p1, hp1⟩ : ∃ p1, catB [{ data := #[102, 117, 110, 99, 32] }, F.name, { data := #[40] }] = p1 := ⟨_, rfl⟩
  obtain ⟨p2, hp2⟩ : ∃ p2, commas [44, 32] nmT F.params = p2 := ⟨_, rfl⟩
  obtain ⟨p3, hp3⟩ : ∃ p3, catB [{ data := #[41] }] = p3 := ⟨_, rfl⟩
  obtain ⟨p5, hp5⟩ : ∃ p5, varsT F.vars = p5 := ⟨_, rfl⟩
  obtain ⟨p6, hp6⟩ : ∃ p6, putL levL 1 (rss F.body) = p6 := ⟨_, rfl⟩
  obtain ⟨p8, hp8⟩ : ∃ p8, catB [{ data := #[10] }] = p8 := ⟨_, rfl⟩
  rw [hp1, hp2, hp3, hp5, hp6, hp8] at hlen ⊢
  simp only [List.length_append, List.length_cons, List.length_nil, tabs_lenW] at hlen
  have L1 : Hid (bs.length + (catB [{ data := #[102, 117, 110, 99, 32] }, F.name, { data := #[40] }]).length ≤ 140737488355328) := Lib.hid (by rw [hp1]; omega)
  have L2 : Hid ((bs ++ p1).length + (commas [44, 32] nmT F.params).length ≤ 140737488355328) := Lib.hid (by rw [hp2, List.length_append]; omega)
  have L3 : Hid (((bs ++ p1) ++ p2).length + (catB [{ data := #[41] }]).length ≤ 140737488355328) := Lib.hid (by rw [hp3]; simp only [List.length_append]; omega)
  have L4 : Hid ((((bs ++ p1) ++ p2) ++ p3).length + 3 ≤ 140737488355328) := Lib.hid (by simp only [List.length_append]; omega)
  have L5 : Hid (((((bs ++ p1) ++ p2) ++ p3) ++ [32, 123, 10]).length + (varsT F.vars).length ≤ 140737488355328) := Lib.hid (by rw [hp5]; simp only [List.length_append, List.length_cons, List.length_nil]; omega)
  have L6 : Hid ((((((bs ++ p1) ++ p2) ++ p3) ++ [32, 123, 10]) ++ p5).length + p6.length ≤ 140737488355328) := Lib.hid (by simp only [List.length_append, List.length_cons, List.length_nil]; omega)
  have L7 : Hid (((((((bs ++ p1) ++ p2) ++ p3) ++ [32, 123, 10]) ++ p5) ++ p6).length + 0 + 1 ≤ 140737488355328) := Lib.hid (by simp only [List.length_append, List.length_cons, List.length_nil]; omega)
  have L8 : Hid ((((((((bs ++ p1) ++ p2) ++ p3) ++ [32, 123, 10]) ++ p5) ++ p6) ++ (tabsT 0 ++ [125])).length + (catB [{ data := #[10] }]).length ≤ 140737488355328) := Lib.hid (by rw [hp8]; simp only [List.length_append, List.length_cons, List.length_nil, tabs_lenW]; omega)
  have HN : Hid (∀ W, Wr B b (bs ++ p1) ((0 : Nat) : Int) W → Past w0 W → Calls Tryz.prog 102 #[ptrW b, .slice F.pa F.params.length F.pc, .func (.func 103) #[] #[]] W fun e w' => e = .returned (.tuple #[]) ∧ Went B b ((bs ++ p1) ++ p2) ((0 : Nat) : Int) W w') := Lib.hid fun W hW hP => by
    have := list_names F.pa F.pc F.params hin.pl B b (bs ++ p1) ((0 : Nat) : Int) W hB hW hP L2.out hin.ps
    rwa [hp2] at this
  have HV : Hid (∀ W, Wr B b ((((bs ++ p1) ++ p2) ++ p3) ++ [32, 123, 10]) ((1 : Nat) : Int) W → Past w0 W → Calls Tryz.prog 105 #[ptrW b, .slice F.va F.vars.length F.vc] W fun e w' => e = .returned (.tuple #[]) ∧ Went B b (((((bs ++ p1) ++ p2) ++ p3) ++ [32, 123, 10]) ++ p5) ((1 : Nat) : Int) W w') := Lib.hid fun W hW hP => by
    have := vars_any H F.va F.vc F.vars hin.vl B b ((((bs ++ p1) ++ p2) ++ p3) ++ [32, 123, 10]) W hB hW hP L5.out hin.vs hrg
    rwa [hp5] at this
  have HS : Hid (StmtsDoes w0 1 (.slice F.ba F.body.length F.bc) p6) := Lib.hid (by
    have := stmts_any H 1 F.ba F.bc F.body hin.bl hin.ss hr4
    rwa [hp6] at this)
  have E1 := Lib.hid hp1
  have E3 := Lib.hid hp3
  have E8 := Lib.hid hp8
  have HW := Lib.hid h
  have HP := Lib.hid hp
  have HB := Lib.hid hB
  have hltb := Lib.hid h.lt
  have h00 : Hid ((0 : Nat) ≤ 140737488355328) := Lib.hid (by omega)
  clear h hp hB hlen hr1 hr2 hr3 hr4 hrg hin H hp1 hp2 hp3 hp5 hp6 hp8 L2 L5
  show Calls Tryz.prog 77 #[ptrW b, .agg #[.string F.name, .slice F.pa F.params.length F.pc, .slice F.va F.vars.length F.vc, .slice F.ba F.body.length F.bc]] w _
  generalize F.name = nm at L1 E1
  generalize F.params.length = pl at HN
  generalize F.vars.length = vl at HV
  generalize F.body.length = bl at HS
  generalize F.pa = pa at HN
  generalize F.va = va at HV
  generalize F.ba = ba at HS
  generalize F.pc = pc at HN
  generalize F.vc = vc at HV
  generalize F.bc = bc at HS
  go_enter Tryz.func77, Tryz.ntmps77
  go_wp2_with (first
    | (go_at_call 81; have hx := text_any (G7.out.wr.alloc (.cells #[.string { data := #[10] }] 9)) w7.heap.size 1 [{ data := #[10] }] _ (bk_new _ _) rfl (by simp) L8.out; refine hx.mono ?_; clear hx; rintro e w8 ⟨rfl, g8⟩; have G8 := Lib.hid ((G7.out.alloc _).trans g8); clear g8)
    | (go_at_call 106; have hx := shut_any (d := 0) G6.out.wr L7.out; refine hx.mono ?_; clear hx; rintro e w7 ⟨rfl, g7⟩; have G7 := Lib.hid (G6.out.trans g7); clear g7)
    | (go_at_call 57; have hx := HS.out B b _ _ HB.out G5.out.wr (HP.out.went HB.out G5.out) L6.out; refine hx.mono ?_; clear hx; rintro e w6 ⟨rfl, g6⟩; have G6 := Lib.hid (G5.out.trans g6); clear g6)
    | (go_at_call 105; have hx := HV.out _ G4.out.wr (HP.out.went HB.out G4.out); refine hx.mono ?_; clear hx; rintro e w5 ⟨rfl, g5⟩; have G5 := Lib.hid (G4.out.trans g5); have X5 := Lib.hid (g5.keeps.box X4.out (Nat.ne_of_gt hltb.out) (by decide)); obtain ⟨t0, t1, t2, t3⟩ := cells4 X5.out; clear g5)
    | (go_at_call 104; have hx := open_any (d := 0) G3.out.wr h00.out L4.out; refine hx.mono ?_; clear hx; rintro e w4 ⟨rfl, g4⟩; have G4 := Lib.hid (G3.out.trans g4); have X4 := Lib.hid (g4.keeps.box X3.out (Nat.ne_of_gt hltb.out) (by decide)); obtain ⟨s0, s1, s2, s3⟩ := cells4 X4.out; clear g4)
    | (go_at_call 81; have hx := text_any (G2.out.wr.alloc (.cells #[.string { data := #[41] }] 9)) w2.heap.size 1 [{ data := #[41] }] _ (bk_new _ _) rfl (by simp) L3.out; refine hx.mono ?_; clear hx; rw [E3.out]; rintro e w3 ⟨rfl, g3⟩; have G3 := Lib.hid ((G2.out.alloc _).trans g3); have X3 := Lib.hid (g3.keeps.box (bk_old _ X2.out) (Nat.ne_of_gt hltb.out) (by decide)); obtain ⟨r0, r1, r2, r3⟩ := cells4 X3.out; clear g3)
    | (go_at_call 102; have hx := HN.out _ G1.out.wr (HP.out.went HB.out G1.out); refine hx.mono ?_; clear hx; rintro e w2 ⟨rfl, g2⟩; have G2 := Lib.hid (G1.out.trans g2); have X2 := Lib.hid (g2.keeps.box X1.out (Nat.ne_of_gt hltb.out) (by decide)); obtain ⟨d0, d1, d2, d3⟩ := cells4 X2.out; clear g2)
    | (go_at_call 81; have hx := text_any ((HW.out.alloc (.cells #[.string nm, .slice pa pl pc, .slice va vl vc, .slice ba bl bc] 55)).alloc (.cells #[.string { data := #[102, 117, 110, 99, 32] }, .string nm, .string { data := #[40] }] 9)) (w.heap.size + 1) 3 [{ data := #[102, 117, 110, 99, 32] }, nm, { data := #[40] }] _ (bk_new' _ (by simp)) rfl (by simp) L1.out; refine hx.mono ?_; clear hx; rw [E1.out]; rintro e w1 ⟨rfl, g1⟩; have G1 := Lib.hid (((HW.out.went.alloc _).alloc _).trans g1); have X1 := Lib.hid (g1.keeps.box (bk_old _ (bk_new w _)) (Nat.ne_of_gt hltb.out) (by decide)); obtain ⟨c0, c1, c2, c3⟩ := cells4 X1.out; clear g1))
  go_end0
  refine ⟨rfl, G8.out.cast ?_⟩
  rw [E8.out]
  simp only [List.append_assoc, List.cons_append, List.nil_append]
end Go.Proofs.YtppeogcpoplpeaaGreatDoor

set_option linter.unusedSimpArgs false
set_option linter.unusedVariables false
namespace Go.Proofs.YtppeogcpoplpeaaGreatDoor
open Go Go.RowKit

def progT (l : List FT) : List UInt8 := l.flatMap FT.text
theorem progT_is (l : List FT) : putP levL (l.map FT.rf) = progT l := by
  unfold putP progT
  rw [List.flatMap_map]; rfl
theorem progT_take {l : List FT} {n : Nat} (hn : n < l.length) : progT (l.take (n + 1)) = progT (l.take n) ++ l[n].text := by
  rw [List.take_succ_eq_append_getElem hn, progT, List.flatMap_append, progT]; simp
theorem progT_take_len (l : List FT) (n : Nat) : (progT (l.take n)).length ≤ (progT l).length := by
  rw [show progT l = progT (l.take n) ++ progT (l.drop n) by rw [progT, progT, progT, ← List.flatMap_append, List.take_append_drop], List.length_append]
  omega
set_option maxHeartbeats 4000000 in
set_option maxRecDepth 100000 in
theorem prog_any {w0 : World} (H : Pow w0) (a : Option Addr) (c : Nat) (l : List FT) (hin : FsIn w0 0 a l) (hr : l.all FT.rightB = true)
    (B b : Nat) (bs : List UInt8) (w : World) (hB : w0.heap.size ≤ B) (h : Wr B b bs ((0 : Nat) : Int) w) (hp : Past w0 w) (hlen : bs.length + (progT l).length ≤ 140737488355328) :
    Calls Tryz.prog 47 #[ptrW b, .agg #[.slice a l.length c]] w fun e w' => e = .returned (.tuple #[]) ∧ Went B b (bs ++ progT l) ((0 : Nat) : Int) w w' := by
  have hl := hin.len
  have HF : Hid (∀ (n : Nat) (hn : n < l.length) (bs : List UInt8) (W : World), Wr B b bs ((0 : Nat) : Int) W → Past w0 W → bs.length + l[n].text.length ≤ 140737488355328 → Calls Tryz.prog 77 #[ptrW b, .agg #[.string l[n].name, .slice l[n].pa l[n].params.length l[n].pc, .slice l[n].va l[n].vars.length l[n].vc, .slice l[n].ba l[n].body.length l[n].bc]] W fun e w' => e = .returned (.tuple #[]) ∧ Went B b (bs ++ l[n].text) ((0 : Nat) : Int) W w') := Lib.hid fun n hn bs W hW hP hL => function_any H l[n] (hin.fs n hn) (by rw [List.all_eq_true] at hr; exact hr _ (List.getElem_mem hn)) B b bs W hB hW hP hL
  have HI := Lib.hid hin
  have HP := Lib.hid hp
  have HW := Lib.hid h
  have HB := Lib.hid hB
  have HL := Lib.hid hlen
  clear hin hp h hB hlen hr H
  go_enter Tryz.func47, Tryz.ntmps47
  go_wp2
  go_loopw [5, 9] (fun _ i wr => ∃ n : Nat, n ≤ l.length ∧ i = .int .i64 n ∧ Went B b (bs ++ progT (l.take n)) ((0 : Nat) : Int) (w.alloc (.cells #[.slice a l.length c] 24)) wr) (fun _ i _ => l.length - (intOf i).toNat)
  case atStart => exact ⟨0, Nat.zero_le _, rfl, (HW.out.alloc _).went.cast (by simp [progT])⟩
  case round =>
    obtain ⟨n, hn, rfl, hw⟩ := hrel
    have HN := Lib.hid ((HW.out.went.alloc _).trans hw)
    have HN1 := Lib.hid hw
    clear hw
    by_cases hlt : n < l.length
    · have hrow := HI.out.row n hlt
      have hrow' := hrow
      obtain ⟨kb, ko, rfl, -⟩ := hrow'
      unfold FT.cells at hrow
      obtain ⟨r0, r1, r2, r3, hkb⟩ := row_cells4 hrow (HP.out.went HB.out HN.out)
      have et := progT_take hlt
      have el := progT_take_len l (n + 1)
      have L1 : Hid ((bs ++ progT (l.take n)).length + l[n].text.length ≤ 140737488355328) := Lib.hid (by
        rw [et, List.length_append] at el
        have := HL.out
        rw [List.length_append]; omega)
      have ET' := Lib.hid et
      clear et el hrow
      go_wp2_with (go_at_call 77; have hx := HF.out n hlt _ _ ((HN.out.alloc (.cells #[.string l[n].name, .slice l[n].pa l[n].params.length l[n].pc, .slice l[n].va l[n].vars.length l[n].vc, .slice l[n].ba l[n].body.length l[n].bc] 55)).wr) ((HP.out.went HB.out HN.out).alloc _) L1.out; refine hx.mono ?_; clear hx; rintro e w2 ⟨rfl, g2⟩; have G2 := Lib.hid ((HN1.out.alloc _).trans g2); clear g2)
      go_round
      case rel => exact ⟨n + 1, by omega, by go_num, G2.out.cast (by rw [ET'.out, List.append_assoc])⟩
      case measure => simp [intOf]; omega
    · obtain rfl : n = l.length := by omega
      go_wp2
      go_end0
      exact ⟨rfl, HN.out.cast (by rw [List.take_length])⟩
set_option maxHeartbeats 2000000 in
set_option maxRecDepth 100000 in
theorem putProg_any {w0 : World} (H : Pow w0) (a : Option Addr) (c : Nat) (l : List FT) (hin : FsIn w0 0 a l) (hr : l.all FT.rightB = true) (hlen : (progT l).length ≤ 140737488355328) (w : World) (hp : Past w0 w) :
    Calls Tryz.prog 46 #[.agg #[.slice a l.length c], .func (.func 12) #[] #[], .func (.func 47) #[] #[]] w fun e w' => e = .returned (.string ⟨(progT l).toArray⟩) ∧ Below w.heap.size w w' := by
  have HX := Lib.hid (prog_any H a c l hin hr)
  have HR : Hid (∀ W, Past w0 W → Calls Tryz.prog 12 #[.agg #[.slice a l.length c]] W fun e w' => e = .returned (.bool true) ∧ Below W.heap.size W w') := Lib.hid fun W hW => by have := rightP_any a c l hin W hW; rwa [hr] at this
  have HP := Lib.hid hp
  have HL : Hid (([] : List UInt8).length + (progT l).length ≤ 140737488355328) := Lib.hid (by simpa using hlen)
  clear hp hlen hin hr H
  generalize progT l = tx at HX HL ⊢
  generalize l.length = n at HX HR ⊢
  go_enter Tryz.func46, Tryz.ntmps46
  go_wp2_with (first
    | (go_at_call 76; refine (string_any G2.out.wr).mono ?_; rintro e w3 ⟨rfl, hb3⟩; have HB3 := Lib.hid hb3; clear hb3)
    | (go_at_call 47; have hx := HX.out w1.heap.size w1.heap.size [] _ HP1.out.size (wr_new w1) (HP1.out.alloc _) HL.out; refine hx.mono ?_; clear hx; rintro e w2 ⟨rfl, g2⟩; have G2 := Lib.hid g2; clear g2)
    | (go_at_call 12; have hx := HR.out _ (HP.out.alloc (.cells #[.slice a n c] 24)); refine hx.mono ?_; clear hx; rintro e w1 ⟨rfl, hb⟩; have c0 : w1.cell? ⟨w.heap.size, 0, none⟩ = some (.slice a n c) := bk_cell ((hb.block w.heap.size (by simp)).trans (bk_new _ _)) rfl; have hlt : w.heap.size < w1.heap.size := (by have := hb.size; simp at this; omega); have HP1 := Lib.hid ((HP.out.alloc _).on hb); have HB1 := Lib.hid (step_on ((Below.refl _ _).alloc (Nat.le_refl _) _) hb); clear hb))
  go_ret
  refine ⟨rfl, ?_⟩
  have h2 : Below w1.heap.size w1 w3 := (((Below.refl w1.heap.size w1).alloc (Nat.le_refl _) _).trans G2.out.below).trans HB3.out
  exact step_on HB1.out h2
set_option maxHeartbeats 1000000 in
theorem put_any {w0 : World} (H : Pow w0) (a : Option Addr) (c : Nat) (l : List FT) (hin : FsIn w0 0 a l) (hr : l.all FT.rightB = true) (hlen : (progT l).length ≤ 140737488355328) (w : World) (hp : Past w0 w) :
    Calls Tryz.prog 19 #[.agg #[.slice a l.length c]] w fun e w' => e = .returned (.string ⟨(progT l).toArray⟩) ∧ Below w.heap.size w w' := by
  have HX := Lib.hid (putProg_any H a c l hin hr hlen)
  have HP := Lib.hid hp
  clear hp hlen hin hr H
  generalize progT l = tx at HX ⊢
  generalize l.length = n at HX ⊢
  go_enter Tryz.func19, Tryz.ntmps19
  go_wp2_with (go_at_call 46; have hx := HX.out _ (HP.out.alloc (.cells #[.slice a n c] 24)); refine hx.mono ?_; clear hx; rintro e w1 ⟨rfl, hb⟩)
  go_ret
  exact ⟨rfl, step_on ((Below.refl _ _).alloc (Nat.le_refl _) _) hb⟩
set_option maxHeartbeats 2000000 in
set_option maxRecDepth 100000 in
theorem putStmts_any {w0 : World} (H : Pow w0) (a : Option Addr) (c : Nat) (l : List ST) (hl : l.length ≤ 9223372036854775807) (hin : SsIn w0 0 a 0 l) (hr : rightSs l = true) (hlen : (putL levL 0 (rss l)).length ≤ 140737488355328) (w : World) (hp : Past w0 w) :
    Calls Tryz.prog 27 #[.slice a l.length c] w fun e w' => e = .returned (.string ⟨(putL levL 0 (rss l)).toArray⟩) ∧ Below w.heap.size w w' := by
  have HX : Hid (StmtsDoes w0 0 (.slice a l.length c) (putL levL 0 (rss l))) := Lib.hid (stmts_any H 0 a c l hl hin hr)
  have HR : Hid (∀ W, Past w0 W → Calls Tryz.prog 25 #[.slice a l.length c] W fun e w' => e = .returned (.bool true) ∧ Below W.heap.size W w') := Lib.hid fun W hW => by have := rightStmts_any a c l hl hin W hW; rwa [hr] at this
  have HP := Lib.hid hp
  have HL : Hid (([] : List UInt8).length + (putL levL 0 (rss l)).length ≤ 140737488355328) := Lib.hid (by simpa using hlen)
  clear hp hlen hin hr H hl
  generalize putL levL 0 (rss l) = tx at HX HL ⊢
  generalize l.length = n at HX HR ⊢
  have hput : ∀ W, Past w0 W → Calls Tryz.prog 56 #[.slice a n c, .func (.func 25) #[] #[], .func (.func 57) #[] #[]] W fun e w' => e = .returned (.string ⟨tx.toArray⟩) ∧ Below W.heap.size W w' := by
    intro w hp
    have HP := Lib.hid hp
    clear hp
    go_enter Tryz.func56, Tryz.ntmps56
    go_wp2_with (first
      | (go_at_call 76; refine (string_any G2.out.wr).mono ?_; rintro e w3 ⟨rfl, hb3⟩; have HB3 := Lib.hid hb3; clear hb3)
      | (go_at_call 57; have hx := HX.out w1.heap.size w1.heap.size [] _ HP1.out.size (wr_new w1) (HP1.out.alloc _) HL.out; refine hx.mono ?_; clear hx; rintro e w2 ⟨rfl, g2⟩; have G2 := Lib.hid g2; clear g2)
      | (go_at_call 25; have hx := HR.out _ HP.out; refine hx.mono ?_; clear hx; rintro e w1 ⟨rfl, hb⟩; have HP1 := Lib.hid (HP.out.on hb); have HB1 := Lib.hid hb; clear hb))
    go_ret
    refine ⟨rfl, ?_⟩
    have h2 : Below w1.heap.size w1 w3 := (((Below.refl w1.heap.size w1).alloc (Nat.le_refl _) _).trans G2.out.below).trans HB3.out
    exact step_on HB1.out h2
  have HPU := Lib.hid hput
  clear hput HX HR HL
  go_enter Tryz.func27, Tryz.ntmps27
  go_wp2_with (go_at_call 56; have hx := HPU.out _ HP.out; refine hx.mono ?_; clear hx; rintro e w1 ⟨rfl, hb⟩)
  go_ret
  exact ⟨rfl, hb⟩
end Go.Proofs.YtppeogcpoplpeaaGreatDoor
