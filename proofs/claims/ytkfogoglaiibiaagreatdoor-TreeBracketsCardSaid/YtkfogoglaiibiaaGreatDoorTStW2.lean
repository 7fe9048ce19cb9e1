/- What the writer writes of a list of expressions, of a block, and of the statements one by one. -/
import Derived.Test.YtkfogoglaiibiaaGreatDoorTStW
set_option linter.unusedSimpArgs false
set_option linter.unusedVariables false
namespace Go.Proofs.YtkfogoglaiibiaaGreatDoor
open Go Go.RowKit

def putAE (l : List ET) : List UInt8 := commas [44, 32] (fun T => putR levL T.re) l
theorem putAE_is (l : List ET) : putA levL (res l) = putAE l := by
  unfold putA putAE res
  induction l with
  | nil => rfl
  | cons T l ih =>
    cases l with
    | nil => rfl
    | cons U l =>
      simp only [List.map_cons] at ih ⊢
      rw [commas_two, commas_two, ih]
set_option maxHeartbeats 4000000 in
set_option maxRecDepth 100000 in
theorem list_exprs {w0 : World} (H : Pow w0) (a : Option Addr) (c : Nat) (l : List ET) (hl : l.length ≤ 9223372036854775807) (hin : EsIn w0 0 a 0 l) (hr : rightEs l = true)
    (B b : Nat) (bs : List UInt8) (k : Int) (w : World) (hB : w0.heap.size ≤ B) (h : Wr B b bs k w) (hp : Past w0 w) (hlen : bs.length + (putAE l).length ≤ 140737488355328) :
    Calls Tryz.prog 115 #[ptrW b, .slice a l.length c, .func (.func 51) #[] #[]] w fun e w' => e = .returned (.tuple #[]) ∧ Went B b (bs ++ putAE l) k w w' := by
  have HE : Hid (∀ (n : Nat) (hn : n < l.length), ExprDoes w0 51 l[n].val (putR levL l[n].re)) := Lib.hid fun n hn => expr_any H _ l[n] (Nat.le_refl _) ((rightEs_all l).1 hr _ (List.getElem_mem hn)) (hin.nth n hn).2
  have HI := Lib.hid hin
  have HP := Lib.hid hp
  have HW := Lib.hid h
  have HB := Lib.hid hB
  have HL := Lib.hid hlen
  clear hin hp h hB hlen hr H
  go_enter Tryz.func115, Tryz.ntmps115
  go_wp2
  go_loopw [6, 7, 10] (fun _ _ i wr => ∃ n : Nat, n ≤ l.length ∧ i = .int .i64 n ∧ Went B b (bs ++ putAE (l.take n)) k w wr) (fun _ _ i _ => l.length - (intOf i).toNat)
  case atStart => exact ⟨0, Nat.zero_le _, rfl, HW.out.went.cast (by simp [putAE, commas])⟩
  case round =>
    obtain ⟨n, hn, rfl, hw⟩ := hrel
    have HN := Lib.hid hw
    clear hw
    by_cases hlt : n < l.length
    · obtain ⟨hrow, -⟩ := HI.out.nth n hlt
      have hrow' := hrow
      obtain ⟨kb, ko, rfl, -⟩ := hrow'
      rw [ET.cells_is, Nat.zero_add] at hrow
      obtain ⟨r0, r1, r2, r3, r4, hkb⟩ := row_cells hrow (HP.out.went HB.out HN.out)
      have hcall := HE.out n hlt
      unfold ExprDoes at hcall
      rw [ET.val_is] at hcall
      have HC := Lib.hid hcall
      have et : putAE (l.take (n + 1)) = putAE (l.take n) ++ ((if n = 0 then [] else [44, 32]) ++ putR levL l[n].re) := commas_take [44, 32] (fun T : ET => putR levL T.re) l n hlt
      have el : (putAE (l.take (n + 1))).length ≤ (putAE l).length := commas_take_len _ _ _ _
      have ET' := Lib.hid et
      have htot : Hid ((bs ++ putAE (l.take n)).length + (((if n = 0 then [] else [44, 32]) : List UInt8).length + (putR levL l[n].re).length) ≤ 140737488355328) := Lib.hid (by
        rw [et, List.length_append, List.length_append] at el
        have := HL.out
        rw [List.length_append]; omega)
      clear hcall hrow et el
      generalize putR levL l[n].re = tx at HC ET' htot
      by_cases h0 : n = 0
      · subst h0
        simp only [Nat.zero_mul, Nat.add_zero] at r0 r1 r2 r3 r4
        have L1 : Hid ((bs ++ putAE (l.take 0)).length + tx.length ≤ 140737488355328) := Lib.hid (by have := htot.out; simp at this ⊢; omega)
        go_wp2_with (go_at_call 51; have hx := HC.out B b _ k _ HB.out (HN.out.wr.alloc (.cells #[.int .i64 l[0].kind, .string l[0].op, .int .i64 l[0].n, .string l[0].name, .slice l[0].kaddr l[0].kids.length l[0].kcap] 30)) ((HP.out.went HB.out HN.out).alloc _) L1.out; refine hx.mono ?_; clear hx; rintro e w2 ⟨rfl, g2⟩; have G2 := Lib.hid ((HN.out.alloc _).trans g2); clear g2)
        go_round
        case rel => exact ⟨1, by omega, by go_num, G2.out.cast (by rw [ET'.out]; simp)⟩
        case measure => simp [intOf]; omega
      · have hpos : decide ((0 : Int) < (n : Int)) = true := decide_eq_true (by omega)
        have ec : catB [{ data := #[44, 32] }] = [44, 32] := by simp [catB]
        have EC := Lib.hid ec
        have L1 : Hid ((bs ++ putAE (l.take n)).length + (catB [{ data := #[44, 32] }]).length ≤ 140737488355328) := Lib.hid (by have := htot.out; rw [if_neg h0] at this; rw [ec]; simp at this ⊢; omega)
        have L2 : Hid (((bs ++ putAE (l.take n)) ++ catB [{ data := #[44, 32] }]).length + tx.length ≤ 140737488355328) := Lib.hid (by have := htot.out; rw [if_neg h0] at this; rw [ec]; simp at this ⊢; omega)
        have HF : Hid (putAE (l.take (n + 1)) = putAE (l.take n) ++ ([44, 32] ++ tx)) := Lib.hid (by rw [ET'.out, if_neg h0])
        have hltb := Lib.hid HN.out.wr.lt
        clear ec htot ET'
        go_wp2_with (first
          | (go_at_call 51; have hx := HC.out B b _ k _ HB.out G1.out.wr (HP.out.went HB.out G1.out) L2.out; refine hx.mono ?_; clear hx; rintro e w2 ⟨rfl, g2⟩; have G2 := Lib.hid (G1.out.trans g2); clear g2)
          | (go_at_call 81; have hx := text_any ((HN.out.alloc (.cells #[.int .i64 l[n].kind, .string l[n].op, .int .i64 l[n].n, .string l[n].name, .slice l[n].kaddr l[n].kids.length l[n].kcap] 30)).wr.alloc (.cells #[.string { data := #[44, 32] }] 9)) (wr.heap.size + 1) 1 [{ data := #[44, 32] }] _ (bk_new' _ (by simp)) rfl (by simp) L1.out; refine hx.mono ?_; clear hx; rintro e w1 ⟨rfl, g1⟩; have G1 := Lib.hid (((HN.out.alloc _).alloc _).trans g1); have hbox := g1.keeps.box (bk_old _ (bk_new wr _)) (Nat.ne_of_gt hltb.out) (by decide); obtain ⟨c0, c1, c2, c3, c4⟩ := cells5 hbox; clear g1 hbox))
        go_round
        case rel => exact ⟨n + 1, by omega, by go_num, G2.out.cast (by rw [HF.out, EC.out]; simp)⟩
        case measure => simp [intOf]; omega
    · obtain rfl : n = l.length := by omega
      go_wp2
      go_end0
      exact ⟨rfl, HN.out.cast (by rw [List.take_length])⟩

def StmtsDoes (w0 : World) (d : Nat) (v : Value) (tx : List UInt8) : Prop :=
  ∀ (B b : Nat) (bs : List UInt8) (w : World), w0.heap.size ≤ B → Wr B b bs (d : Int) w → Past w0 w → bs.length + tx.length ≤ 140737488355328 →
    Calls Tryz.prog 57 #[ptrW b, v] w fun e w' => e = .returned (.tuple #[]) ∧ Went B b (bs ++ tx) (d : Int) w w'
set_option maxHeartbeats 1000000 in
set_option maxRecDepth 100000 in
theorem block_of {w0 : World} {d : Nat} {a : Option Addr} {len c : Nat} {tx : List UInt8} (HS : StmtsDoes w0 (d + 1) (.slice a len c) tx) (B b : Nat) (bs : List UInt8) (w : World) (hB : w0.heap.size ≤ B) (h : Wr B b bs (d : Int) w) (hp : Past w0 w)
    (hlen : bs.length + (3 + (tx.length + (d + 1))) ≤ 140737488355328) :
    Calls Tryz.prog 116 #[ptrW b, .slice a len c] w fun e w' => e = .returned (.tuple #[]) ∧ Went B b (bs ++ (32 :: 123 :: 10 :: (tx ++ (tabsT d ++ [125])))) (d : Int) w w' := by
  have L1 : Hid (bs.length + 3 ≤ 140737488355328) := Lib.hid (by omega)
  have L2 : Hid ((bs ++ [32, 123, 10]).length + tx.length ≤ 140737488355328) := Lib.hid (by simp; omega)
  have L3 : Hid (((bs ++ [32, 123, 10]) ++ tx).length + d + 1 ≤ 140737488355328) := Lib.hid (by simp; omega)
  have hd : Hid (d ≤ 140737488355328) := Lib.hid (by omega)
  have HW := Lib.hid h
  have HP := Lib.hid hp
  have HB := Lib.hid hB
  have HX := Lib.hid HS
  clear h hp hB hlen HS
  go_enter Tryz.func116, Tryz.ntmps116
  go_wp2_with (first
    | (go_at_call 106; have hx := shut_any G2.out.wr L3.out; refine hx.mono ?_; clear hx; rintro e w3 ⟨rfl, g3⟩; have G3 := Lib.hid (G2.out.trans g3); clear g3)
    | (go_at_call 57; have hx := HX.out B b _ _ HB.out G1.out.wr (HP.out.went HB.out G1.out) L2.out; refine hx.mono ?_; clear hx; rintro e w2 ⟨rfl, g2⟩; have G2 := Lib.hid (G1.out.trans g2); clear g2)
    | (go_at_call 104; have hx := open_any HW.out hd.out L1.out; refine hx.mono ?_; clear hx; rintro e w1 ⟨rfl, g1⟩; have G1 := Lib.hid (HW.out.went.trans g1); clear g1))
  go_end0
  exact ⟨rfl, G3.out.cast (by simp)⟩
end Go.Proofs.YtkfogoglaiibiaaGreatDoor
