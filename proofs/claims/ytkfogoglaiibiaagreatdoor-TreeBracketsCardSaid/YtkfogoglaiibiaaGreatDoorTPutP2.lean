/- What Put and PutStmts answer of what is right. -/
import Derived.Test.YtkfogoglaiibiaaGreatDoorTPutP
set_option linter.unusedSimpArgs false
set_option linter.unusedVariables false
namespace Go.Proofs.YtkfogoglaiibiaaGreatDoor
open Go Go.RowKit

def progT (l : List FT) : List UInt8 := l.flatMap FT.text
theorem progT_is (l : List FT) : putP levL (l.map FT.rf) = progT l := by
  unfold putP progT
  rw [List.flatMap_map]; rfl
theorem progT_take {l : List FT} {n : Nat} (hn : n < l.length) : progT (l.take (n + 1)) = progT (l.take n) ++ l[n].text := by
  rw [List.take_succ_eq_append_getElem hn, progT, List.flatMap_append, progT]; simp
theorem progT_take_len (l : List FT) (n : Nat) : (progT (l.take n)).length ≤ (progT l).length := by
  rw [show progT l = progT (l.take n) ++ progT (l.drop n) by rw [progT, progT, progT, ← List.flatMap_append, List.take_append_drop], List.length_append]
  omega
set_option maxHeartbeats 4000000 in
set_option maxRecDepth 100000 in
theorem prog_any {w0 : World} (H : Pow w0) (a : Option Addr) (c : Nat) (l : List FT) (hin : FsIn w0 0 a l) (hr : l.all FT.rightB = true)
    (B b : Nat) (bs : List UInt8) (w : World) (hB : w0.heap.size ≤ B) (h : Wr B b bs ((0 : Nat) : Int) w) (hp : Past w0 w) (hlen : bs.length + (progT l).length ≤ 140737488355328) :
    Calls Tryz.prog 47 #[ptrW b, .agg #[.slice a l.length c]] w fun e w' => e = .returned (.tuple #[]) ∧ Went B b (bs ++ progT l) ((0 : Nat) : Int) w w' := by
  have hl := hin.len
  have HF : Hid (∀ (n : Nat) (hn : n < l.length) (bs : List UInt8) (W : World), Wr B b bs ((0 : Nat) : Int) W → Past w0 W → bs.length + l[n].text.length ≤ 140737488355328 → Calls Tryz.prog 77 #[ptrW b, .agg #[.string l[n].name, .slice l[n].pa l[n].params.length l[n].pc, .slice l[n].va l[n].vars.length l[n].vc, .slice l[n].ba l[n].body.length l[n].bc]] W fun e w' => e = .returned (.tuple #[]) ∧ Went B b (bs ++ l[n].text) ((0 : Nat) : Int) W w') := Lib.hid fun n hn bs W hW hP hL => function_any H l[n] (hin.fs n hn) (by rw [List.all_eq_true] at hr; exact hr _ (List.getElem_mem hn)) B b bs W hB hW hP hL
  have HI := Lib.hid hin
  have HP := Lib.hid hp
  have HW := Lib.hid h
  have HB := Lib.hid hB
  have HL := Lib.hid hlen
  clear hin hp h hB hlen hr H
  go_enter Tryz.func47, Tryz.ntmps47
  go_wp2
  go_loopw [5, 9] (fun _ i wr => ∃ n : Nat, n ≤ l.length ∧ i = .int .i64 n ∧ Went B b (bs ++ progT (l.take n)) ((0 : Nat) : Int) (w.alloc (.cells #[.slice a l.length c] 24)) wr) (fun _ i _ => l.length - (intOf i).toNat)
  case atStart => exact ⟨0, Nat.zero_le _, rfl, (HW.out.alloc _).went.cast (by simp [progT])⟩
  case round =>
    obtain ⟨n, hn, rfl, hw⟩ := hrel
    have HN := Lib.hid ((HW.out.went.alloc _).trans hw)
    have HN1 := Lib.hid hw
    clear hw
    by_cases hlt : n < l.length
    · have hrow := HI.out.row n hlt
      have hrow' := hrow
      obtain ⟨kb, ko, rfl, -⟩ := hrow'
      unfold FT.cells at hrow
      obtain ⟨r0, r1, r2, r3, hkb⟩ := row_cells4 hrow (HP.out.went HB.out HN.out)
      have et := progT_take hlt
      have el := progT_take_len l (n + 1)
      have L1 : Hid ((bs ++ progT (l.take n)).length + l[n].text.length ≤ 140737488355328) := Lib.hid (by
        rw [et, List.length_append] at el
        have := HL.out
        rw [List.length_append]; omega)
      have ET' := Lib.hid et
      clear et el hrow
      go_wp2_with (go_at_call 77; have hx := HF.out n hlt _ _ ((HN.out.alloc (.cells #[.string l[n].name, .slice l[n].pa l[n].params.length l[n].pc, .slice l[n].va l[n].vars.length l[n].vc, .slice l[n].ba l[n].body.length l[n].bc] 55)).wr) ((HP.out.went HB.out HN.out).alloc _) L1.out; refine hx.mono ?_; clear hx; rintro e w2 ⟨rfl, g2⟩; have G2 := Lib.hid ((HN1.out.alloc _).trans g2); clear g2)
      go_round
      case rel => exact ⟨n + 1, by omega, by go_num, G2.out.cast (by rw [ET'.out, List.append_assoc])⟩
      case measure => simp [intOf]; omega
    · obtain rfl : n = l.length := by omega
      go_wp2
      go_end0
      exact ⟨rfl, HN.out.cast (by rw [List.take_length])⟩
set_option maxHeartbeats 2000000 in
set_option maxRecDepth 100000 in
theorem putProg_any {w0 : World} (H : Pow w0) (a : Option Addr) (c : Nat) (l : List FT) (hin : FsIn w0 0 a l) (hr : l.all FT.rightB = true) (hlen : (progT l).length ≤ 140737488355328) (w : World) (hp : Past w0 w) :
    Calls Tryz.prog 46 #[.agg #[.slice a l.length c], .func (.func 12) #[] #[], .func (.func 47) #[] #[]] w fun e w' => e = .returned (.string ⟨(progT l).toArray⟩) ∧ Below w.heap.size w w' := by
  have HX := Lib.hid (prog_any H a c l hin hr)
  have HR : Hid (∀ W, Past w0 W → Calls Tryz.prog 12 #[.agg #[.slice a l.length c]] W fun e w' => e = .returned (.bool true) ∧ Below W.heap.size W w') := Lib.hid fun W hW => by have := rightP_any a c l hin W hW; rwa [hr] at this
  have HP := Lib.hid hp
  have HL : Hid (([] : List UInt8).length + (progT l).length ≤ 140737488355328) := Lib.hid (by simpa using hlen)
  clear hp hlen hin hr H
  generalize progT l = tx at HX HL ⊢
  generalize l.length = n at HX HR ⊢
  go_enter Tryz.func46, Tryz.ntmps46
  go_wp2_with (first
    | (go_at_call 76; refine (string_any G2.out.wr).mono ?_; rintro e w3 ⟨rfl, hb3⟩; have HB3 := Lib.hid hb3; clear hb3)
    | (go_at_call 47; have hx := HX.out w1.heap.size w1.heap.size [] _ HP1.out.size (wr_new w1) (HP1.out.alloc _) HL.out; refine hx.mono ?_; clear hx; rintro e w2 ⟨rfl, g2⟩; have G2 := Lib.hid g2; clear g2)
    | (go_at_call 12; have hx := HR.out _ (HP.out.alloc (.cells #[.slice a n c] 24)); refine hx.mono ?_; clear hx; rintro e w1 ⟨rfl, hb⟩; have c0 : w1.cell? ⟨w.heap.size, 0, none⟩ = some (.slice a n c) := bk_cell ((hb.block w.heap.size (by simp)).trans (bk_new _ _)) rfl; have hlt : w.heap.size < w1.heap.size := (by have := hb.size; simp at this; omega); have HP1 := Lib.hid ((HP.out.alloc _).on hb); have HB1 := Lib.hid (step_on ((Below.refl _ _).alloc (Nat.le_refl _) _) hb); clear hb))
  go_ret
  refine ⟨rfl, ?_⟩
  have h2 : Below w1.heap.size w1 w3 := (((Below.refl w1.heap.size w1).alloc (Nat.le_refl _) _).trans G2.out.below).trans HB3.out
  exact step_on HB1.out h2
set_option maxHeartbeats 1000000 in
theorem put_any {w0 : World} (H : Pow w0) (a : Option Addr) (c : Nat) (l : List FT) (hin : FsIn w0 0 a l) (hr : l.all FT.rightB = true) (hlen : (progT l).length ≤ 140737488355328) (w : World) (hp : Past w0 w) :
    Calls Tryz.prog 19 #[.agg #[.slice a l.length c]] w fun e w' => e = .returned (.string ⟨(progT l).toArray⟩) ∧ Below w.heap.size w w' := by
  have HX := Lib.hid (putProg_any H a c l hin hr hlen)
  have HP := Lib.hid hp
  clear hp hlen hin hr H
  generalize progT l = tx at HX ⊢
  generalize l.length = n at HX ⊢
  go_enter Tryz.func19, Tryz.ntmps19
  go_wp2_with (go_at_call 46; have hx := HX.out _ (HP.out.alloc (.cells #[.slice a n c] 24)); refine hx.mono ?_; clear hx; rintro e w1 ⟨rfl, hb⟩)
  go_ret
  exact ⟨rfl, step_on ((Below.refl _ _).alloc (Nat.le_refl _) _) hb⟩
set_option maxHeartbeats 2000000 in
set_option maxRecDepth 100000 in
theorem putStmts_any {w0 : World} (H : Pow w0) (a : Option Addr) (c : Nat) (l : List ST) (hl : l.length ≤ 9223372036854775807) (hin : SsIn w0 0 a 0 l) (hr : rightSs l = true) (hlen : (putL levL 0 (rss l)).length ≤ 140737488355328) (w : World) (hp : Past w0 w) :
    Calls Tryz.prog 27 #[.slice a l.length c] w fun e w' => e = .returned (.string ⟨(putL levL 0 (rss l)).toArray⟩) ∧ Below w.heap.size w w' := by
  have HX : Hid (StmtsDoes w0 0 (.slice a l.length c) (putL levL 0 (rss l))) := Lib.hid (stmts_any H 0 a c l hl hin hr)
  have HR : Hid (∀ W, Past w0 W → Calls Tryz.prog 25 #[.slice a l.length c] W fun e w' => e = .returned (.bool true) ∧ Below W.heap.size W w') := Lib.hid fun W hW => by have := rightStmts_any a c l hl hin W hW; rwa [hr] at this
  have HP := Lib.hid hp
  have HL : Hid (([] : List UInt8).length + (putL levL 0 (rss l)).length ≤ 140737488355328) := Lib.hid (by simpa using hlen)
  clear hp hlen hin hr H hl
  generalize putL levL 0 (rss l) = tx at HX HL ⊢
  generalize l.length = n at HX HR ⊢
  have hput : ∀ W, Past w0 W → Calls Tryz.prog 56 #[.slice a n c, .func (.func 25) #[] #[], .func (.func 57) #[] #[]] W fun e w' => e = .returned (.string ⟨tx.toArray⟩) ∧ Below W.heap.size W w' := by
    intro w hp
    have HP := Lib.hid hp
    clear hp
    go_enter Tryz.func56, Tryz.ntmps56
    go_wp2_with (first
      | (go_at_call 76; refine (string_any G2.out.wr).mono ?_; rintro e w3 ⟨rfl, hb3⟩; have HB3 := Lib.hid hb3; clear hb3)
      | (go_at_call 57; have hx := HX.out w1.heap.size w1.heap.size [] _ HP1.out.size (wr_new w1) (HP1.out.alloc _) HL.out; refine hx.mono ?_; clear hx; rintro e w2 ⟨rfl, g2⟩; have G2 := Lib.hid g2; clear g2)
      | (go_at_call 25; have hx := HR.out _ HP.out; refine hx.mono ?_; clear hx; rintro e w1 ⟨rfl, hb⟩; have HP1 := Lib.hid (HP.out.on hb); have HB1 := Lib.hid hb; clear hb))
    go_ret
    refine ⟨rfl, ?_⟩
    have h2 : Below w1.heap.size w1 w3 := (((Below.refl w1.heap.size w1).alloc (Nat.le_refl _) _).trans G2.out.below).trans HB3.out
    exact step_on HB1.out h2
  have HPU := Lib.hid hput
  clear hput HX HR HL
  go_enter Tryz.func27, Tryz.ntmps27
  go_wp2_with (go_at_call 56; have hx := HPU.out _ HP.out; refine hx.mono ?_; clear hx; rintro e w1 ⟨rfl, hb⟩)
  go_ret
  exact ⟨rfl, hb⟩
end Go.Proofs.YtkfogoglaiibiaaGreatDoor
