/- What the writer writes of a list of expressions, ahead of a line, and round a block. What the writer writes of a list of expressions, of a block, and of the statements one by one. -/
import Derived.Test.YtppeogcpoplpeaaGreatDoorTStRight2
set_option linter.unusedSimpArgs false
set_option linter.unusedVariables false
namespace Go.Proofs.YtppeogcpoplpeaaGreatDoor
open Go Go.RowKit

theorem commas_snoc {α β : Type} (c : List β) (f : α → List β) (l : List α) (a : α) : commas c f (l ++ [a]) = commas c f l ++ ((if l.isEmpty then [] else c) ++ f a) := by
  induction l with
  | nil => rfl
  | cons b l ih =>
    cases l with
    | nil => simp [commas]
    | cons b' l =>
      rw [List.cons_append, List.cons_append, commas_two, ← List.cons_append, ih, commas_two]
      simp
theorem commas_take {α β : Type} (c : List β) (f : α → List β) (l : List α) (n : Nat) (hn : n < l.length) : commas c f (l.take (n + 1)) = commas c f (l.take n) ++ ((if n = 0 then [] else c) ++ f l[n]) := by
  rw [List.take_succ_eq_append_getElem hn, commas_snoc]
  congr 2
  cases n with
  | zero => rfl
  | succ n =>
    cases l with
    | nil => simp at hn
    | cons a l => rfl
theorem commas_len {α β : Type} (c : List β) (f : α → List β) (l m : List α) : (commas c f l).length ≤ (commas c f (l ++ m)).length := by
  induction m generalizing l with
  | nil => simp
  | cons a m ih =>
    have h := ih (l ++ [a])
    rw [commas_snoc, List.append_assoc] at h
    simp only [List.length_append, List.singleton_append] at h ⊢
    omega
theorem commas_take_len {α β : Type} (c : List β) (f : α → List β) (l : List α) (n : Nat) : (commas c f (l.take n)).length ≤ (commas c f l).length := by
  have := commas_len c f (l.take n) (l.drop n)
  rwa [List.take_append_drop] at this

theorem Went.cell2 {B b : Nat} {bs : List UInt8} {k : Int} {w : World} (h : Wr B b bs k w) : w.cell? ⟨b, 2, none⟩ = some (.int .i64 k) := by
  obtain ⟨hB, p, v, hp, hb, ho, hne⟩ := h
  exact bk_cell hb rfl
theorem Wr.free {B b : Nat} {bs : List UInt8} {k : Int} {w : World} (h : Wr B b bs k w) (j : Nat) : w.frozen? ⟨b, j, none⟩ = false := by
  obtain ⟨hB, p, v, hp, hb, ho, hne⟩ := h
  exact bk_free hb
theorem Wr.blocks {B b : Nat} {bs : List UInt8} {k : Int} {w : World} (h : Wr B b bs k w) (m : Int) : Went B b bs m w (w.setCell ⟨b, 2, none⟩ (.int .i64 m)) := by
  obtain ⟨hB, p, v, hp, hb, ho, hne⟩ := h
  refine ⟨⟨hB, p, v, hp, by rw [bk_set _ hb]; rfl, ?_, hne⟩, (Below.refl B w).setCell (p := ⟨b, 2, none⟩) hB _, (Keeps.refl b w).set 2 _⟩
  exact ho.kept (row := some b) ⟨rfl, rfl, rfl, by simp [World.setCell], fun k _ hk => Below.heap_setCell _ _ _ _ (fun e => hk (by simp [e]))⟩ (Or.inr hne)
theorem Went.cast {B b : Nat} {bs cs : List UInt8} {k : Int} {w w1 : World} (h : Went B b bs k w w1) (e : bs = cs) : Went B b cs k w w1 := e ▸ h

theorem tabs_succ (n : Nat) : tabsT (n + 1) = tabsT n ++ [9] := by unfold tabsT; rw [List.replicate_succ']
theorem tabs_lenW (n : Nat) : (tabsT n).length = n := by simp [tabsT]
set_option maxHeartbeats 1000000 in
set_option maxRecDepth 100000 in
theorem tabs_any {B b : Nat} {bs : List UInt8} {d : Nat} {w : World} (h : Wr B b bs (d : Int) w) (hlen : bs.length + d ≤ 140737488355328) :
    Calls Tryz.prog 87 #[ptrW b] w fun e w' => e = .returned (.tuple #[]) ∧ Went B b (bs ++ tabsT d) d w w' := by
  have c2 := Went.cell2 h
  have HW := Lib.hid h
  clear h
  go_enter Tryz.func87, Tryz.ntmps87
  go_wp2
  go_loopw [6] (fun i wr => ∃ n : Nat, n ≤ d ∧ i = .int .i64 n ∧ Went B b (bs ++ tabsT n) d w wr) (fun i _ => d - (intOf i).toNat)
  case atStart => exact ⟨0, Nat.zero_le _, rfl, by simpa [tabsT] using HW.out.went⟩
  case round =>
    clear c2
    obtain ⟨n, hn, rfl, hw⟩ := hrel
    have HN := Lib.hid hw
    clear hw
    by_cases hlt : n < d
    · have HL : Hid ((bs ++ tabsT n).length + 1 ≤ 140737488355328) := Lib.hid (by rw [List.length_append, tabs_lenW]; omega)
      have HC : Hid (∀ W, Wr B b (bs ++ tabsT n) d W → Calls Tryz.prog 114 #[.pointer (some ⟨b, 0, none⟩), .int .u8 9] W fun e w' => e = .returned .nilIface ∧ Went B b ((bs ++ tabsT n) ++ [9]) d W w') := Lib.hid fun W hW => writeByte_any hW 9 HL.out
      go_wp2_with (go_at_call 114; have hx := HC.out _ HN.out.wr; refine hx.mono ?_; clear hx; rintro e w2 ⟨rfl, g2⟩; have G2 := Lib.hid (HN.out.trans g2); clear g2)
      go_round
      case rel => exact ⟨n + 1, by omega, by go_num, G2.out.cast (by rw [tabs_succ, List.append_assoc])⟩
      case measure => simp [intOf]; omega
    · obtain rfl : n = d := by omega
      go_wp2
      go_end0
      exact ⟨rfl, HN.out⟩

set_option maxHeartbeats 1000000 in
set_option maxRecDepth 100000 in
theorem tag_any {w0 : World} (H : Pow w0) {B b : Nat} {bs : List UInt8} {k : Int} {w : World} (hp : Past w0 w) (h : Wr B b bs k w) (t : Int) (ht0 : 0 ≤ t) (ht1 : t ≤ 1000000) (hlen : bs.length + (tagT t.toNat).length ≤ 140737488355328) :
    Calls Tryz.prog 88 #[ptrW b, .int .i64 t] w fun e w' => e = .returned (.tuple #[]) ∧ Went B b (bs ++ tagT t.toNat) k w w' := by
  have HW := Lib.hid h
  have HP := Lib.hid hp
  by_cases h0 : t = 0
  · subst h0
    clear h hp H hlen ht0 ht1
    go_enter Tryz.func88, Tryz.ntmps88
    go_wp2_with fail
    go_end0
    exact ⟨rfl, HW.out.went.cast (by simp [tagT])⟩
  · have hpos : decide (0 < t) = true := decide_eq_true (by omega)
    have ec : catB [{ data := #[64] }, txt t, { data := #[32] }] = tagT t.toNat := by
      have e2 : (txt t).data.toList = Lib.decDigits t.toNat := by
        show Lib.itoa t = _
        unfold Lib.itoa
        rw [if_neg (by omega)]
      simp only [catB, List.flatMap_cons, List.flatMap_nil, e2, List.append_nil, tagT]
      rw [if_neg (by omega)]
      rfl
    have L1 : Hid (bs.length + (catB [{ data := #[64] }, txt t, { data := #[32] }]).length ≤ 140737488355328) := Lib.hid (by rw [ec]; exact hlen)
    have EC := Lib.hid ec
    have HT := Lib.hid (fun W => wordText_any H t (by omega) W)
    clear h hp H hlen ht0 ht1 ec
    go_enter Tryz.func88, Tryz.ntmps88
    go_wp2_with (first
      | (go_at_call 81; have hx := text_any (G1.out.wr.alloc (.cells #[.string { data := #[64] }, .string (txt t), .string { data := #[32] }] 9)) w1.heap.size 3 [{ data := #[64] }, txt t, { data := #[32] }] _ (bk_new _ _) rfl (by simp) L1.out; refine hx.mono ?_; clear hx; rintro e w2 ⟨rfl, g2⟩; have G2 := Lib.hid ((G1.out.alloc _).trans g2); clear g2)
      | (go_at_call 82; refine (HT.out _ HP.out).mono ?_; rintro e w1 ⟨rfl, hb⟩; have G1 := Lib.hid (HW.out.on hb); clear hb))
    go_end0
    exact ⟨rfl, G2.out.cast (by rw [EC.out])⟩

set_option maxHeartbeats 1000000 in
set_option maxRecDepth 100000 in
theorem open_any {B b : Nat} {bs : List UInt8} {d : Nat} {w : World} (h : Wr B b bs (d : Int) w) (hd : d ≤ 140737488355328) (hlen : bs.length + 3 ≤ 140737488355328) :
    Calls Tryz.prog 104 #[ptrW b] w fun e w' => e = .returned (.tuple #[]) ∧ Went B b (bs ++ [32, 123, 10]) ((d + 1 : Nat) : Int) w w' := by
  have ec : catB [{ data := #[32, 123, 10] }] = [32, 123, 10] := by simp [catB]
  have L1 : Hid (bs.length + (catB [{ data := #[32, 123, 10] }]).length ≤ 140737488355328) := Lib.hid (by rw [ec]; exact hlen)
  have EC := Lib.hid ec
  have HW := Lib.hid h
  clear h hlen ec
  go_enter Tryz.func104, Tryz.ntmps104
  go_wp2_with (go_at_call 81; have hx := text_any (HW.out.alloc (.cells #[.string { data := #[32, 123, 10] }] 9)) w.heap.size 1 [{ data := #[32, 123, 10] }] _ (bk_new _ _) rfl (by simp) L1.out; refine hx.mono ?_; clear hx; rintro e w1 ⟨rfl, g1⟩; have G1 := Lib.hid ((HW.out.went.alloc _).trans g1); have c2 := Went.cell2 g1.wr; have f2 := g1.wr.free 2; clear g1)
  go_end0
  exact ⟨rfl, (G1.out.cast (by rw [EC.out])).trans ((G1.out.cast (by rw [EC.out])).wr.blocks _)⟩
set_option maxHeartbeats 1000000 in
set_option maxRecDepth 100000 in
theorem shut_any {B b : Nat} {bs : List UInt8} {d : Nat} {w : World} (h : Wr B b bs ((d + 1 : Nat) : Int) w) (hlen : bs.length + d + 1 ≤ 140737488355328) :
    Calls Tryz.prog 106 #[ptrW b] w fun e w' => e = .returned (.tuple #[]) ∧ Went B b (bs ++ (tabsT d ++ [125])) d w w' := by
  have ec : catB [{ data := #[125] }] = [125] := by simp [catB]
  have L0 : Hid (bs.length + d ≤ 140737488355328) := Lib.hid (by omega)
  have L1 : Hid ((bs ++ tabsT d).length + (catB [{ data := #[125] }]).length ≤ 140737488355328) := Lib.hid (by rw [ec, List.length_append, tabs_lenW]; exact hlen)
  have EC := Lib.hid ec
  have c2 := Went.cell2 h
  have f2 := h.free 2
  have HW := Lib.hid h
  have G0 : Hid (Went B b bs (d : Int) w (w.setCell ⟨b, 2, none⟩ (.int .i64 (d : Int)))) := Lib.hid (h.blocks _)
  have e1 : ((d + 1 : Nat) : Int) - 1 = (d : Int) := by omega
  rw [show ((d + 1 : Nat) : Int) = (d : Int) + 1 by omega] at c2
  have hd : d ≤ 140737488355328 := by omega
  clear h hlen ec
  go_enter Tryz.func106, Tryz.ntmps106
  go_wp2_with (first
    | (go_at_call 81; have hx := text_any (G1.out.wr.alloc (.cells #[.string { data := #[125] }] 9)) w1.heap.size 1 [{ data := #[125] }] _ (bk_new _ _) rfl (by simp) L1.out; refine hx.mono ?_; clear hx; rintro e w2 ⟨rfl, g2⟩; have G2 := Lib.hid ((G1.out.alloc _).trans g2); clear g2)
    | (go_at_call 87; have hx := tabs_any G0.out.wr L0.out; refine hx.mono ?_; clear hx; rintro e w1 ⟨rfl, g1⟩; have G1 := Lib.hid (G0.out.trans g1); clear g1))
  go_end0
  exact ⟨rfl, G2.out.cast (by rw [EC.out, List.append_assoc])⟩
end Go.Proofs.YtppeogcpoplpeaaGreatDoor

set_option linter.unusedSimpArgs false
set_option linter.unusedVariables false
namespace Go.Proofs.YtppeogcpoplpeaaGreatDoor
open Go Go.RowKit

def putAE (l : List ET) : List UInt8 := commas [44, 32] (fun T => putR levL T.re) l
theorem putAE_is (l : List ET) : putA levL (res l) = putAE l := by
  unfold putA putAE res
  induction l with
  | nil => rfl
  | cons T l ih =>
    cases l with
    | nil => rfl
    | cons U l =>
      simp only [List.map_cons] at ih ⊢
      rw [commas_two, commas_two, ih]
set_option maxHeartbeats 4000000 in
set_option maxRecDepth 100000 in
theorem list_exprs {w0 : World} (H : Pow w0) (a : Option Addr) (c : Nat) (l : List ET) (hl : l.length ≤ 9223372036854775807) (hin : EsIn w0 0 a 0 l) (hr : rightEs l = true)
    (B b : Nat) (bs : List UInt8) (k : Int) (w : World) (hB : w0.heap.size ≤ B) (h : Wr B b bs k w) (hp : Past w0 w) (hlen : bs.length + (putAE l).length ≤ 140737488355328) :
    Calls Tryz.prog 115 #[ptrW b, .slice a l.length c, .func (.func 51) #[] #[]] w fun e w' => e = .returned (.tuple #[]) ∧ Went B b (bs ++ putAE l) k w w' := by
  have HE : Hid (∀ (n : Nat) (hn : n < l.length), ExprDoes w0 51 l[n].val (putR levL l[n].re)) := Lib.hid fun n hn => expr_any H _ l[n] (Nat.le_refl _) ((rightEs_all l).1 hr _ (List.getElem_mem hn)) (hin.nth n hn).2
  have HI := Lib.hid hin
  have HP := Lib.hid hp
  have HW := Lib.hid h
  have HB := Lib.hid hB
  have HL := Lib.hid hlen
  clear hin hp h hB hlen hr H
  go_enter Tryz.func115, Tryz.ntmps115
  go_wp2
  go_loopw [6, 7, 10] (fun _ _ i wr => ∃ n : Nat, n ≤ l.length ∧ i = .int .i64 n ∧ Went B b (bs ++ putAE (l.take n)) k w wr) (fun _ _ i _ => l.length - (intOf i).toNat)
  case atStart => exact ⟨0, Nat.zero_le _, rfl, HW.out.went.cast (by simp [putAE, commas])⟩
  case round =>
    obtain ⟨n, hn, rfl, hw⟩ := hrel
    have HN := Lib.hid hw
    clear hw
    by_cases hlt : n < l.length
    · obtain ⟨hrow, -⟩ := HI.out.nth n hlt
      have hrow' := hrow
      obtain ⟨kb, ko, rfl, -⟩ := hrow'
      rw [ET.cells_is, Nat.zero_add] at hrow
      obtain ⟨r0, r1, r2, r3, r4, hkb⟩ := row_cells hrow (HP.out.went HB.out HN.out)
      have hcall := HE.out n hlt
      unfold ExprDoes at hcall
      rw [ET.val_is] at hcall
      have HC := Lib.hid hcall
      have et : putAE (l.take (n + 1)) = putAE (l.take n) ++ ((if n = 0 then [] else [44, 32]) ++ putR levL l[n].re) := commas_take [44, 32] (fun T : ET => putR levL T.re) l n hlt
      have el : (putAE (l.take (n + 1))).length ≤ (putAE l).length := commas_take_len _ _ _ _
      have ET' := Lib.hid et
      have htot : Hid ((bs ++ putAE (l.take n)).length + (((if n = 0 then [] else [44, 32]) : List UInt8).length + (putR levL l[n].re).length) ≤ 140737488355328) := Lib.hid (by
        rw [et, List.length_append, List.length_append] at el
        have := HL.out
        rw [List.length_append]; omega)
      clear hcall hrow et el
      generalize putR levL l[n].re = tx at HC ET' htot
      by_cases h0 : n = 0
      · subst h0
        simp only [Nat.zero_mul, Nat.add_zero] at r0 r1 r2 r3 r4
        have L1 : Hid ((bs ++ putAE (l.take 0)).length + tx.length ≤ 140737488355328) := Lib.hid (by have := htot.out; simp at this ⊢; omega)
        go_wp2_with (go_at_call 51; have hx := HC.out B b _ k _ HB.out (HN.out.wr.alloc (.cells #[.int .i64 l[0].kind, .string l[0].op, .int .i64 l[0].n, .string l[0].name, .slice l[0].kaddr l[0].kids.length l[0].kcap] 30)) ((HP.out.went HB.out HN.out).alloc _) L1.out; refine hx.mono ?_; clear hx; rintro e w2 ⟨rfl, g2⟩; have G2 := Lib.hid ((HN.out.alloc _).trans g2); clear g2)
        go_round
        case rel => exact ⟨1, by omega, by go_num, G2.out.cast (by rw [ET'.out]; simp)⟩
        case measure => simp [intOf]; omega
      · have hpos : decide ((0 : Int) < (n : Int)) = true := decide_eq_true (by omega)
        have ec : catB [{ data := #[44, 32] }] = [44, 32] := by simp [catB]
        have EC := Lib.hid ec
        have L1 : Hid ((bs ++ putAE (l.take n)).length + (catB [{ data := #[44, 32] }]).length ≤ 140737488355328) := Lib.hid (by have := htot.out; rw [if_neg h0] at this; rw [ec]; simp at this ⊢; omega)
        have L2 : Hid (((bs ++ putAE (l.take n)) ++ catB [{ data := #[44, 32] }]).length + tx.length ≤ 140737488355328) := Lib.hid (by have := htot.out; rw [if_neg h0] at this; rw [ec]; simp at this ⊢; omega)
        have HF : Hid (putAE (l.take (n + 1)) = putAE (l.take n) ++ ([44, 32] ++ tx)) := Lib.hid (by rw [ET'.out, if_neg h0])
        have hltb := Lib.hid HN.out.wr.lt
        clear ec htot ET'
        go_wp2_with (first
          | (go_at_call 51; have hx := HC.out B b _ k _ HB.out G1.out.wr (HP.out.went HB.out G1.out) L2.out; refine hx.mono ?_; clear hx; rintro e w2 ⟨rfl, g2⟩; have G2 := Lib.hid (G1.out.trans g2); clear g2)
          | (go_at_call 81; have hx := text_any ((HN.out.alloc (.cells #[.int .i64 l[n].kind, .string l[n].op, .int .i64 l[n].n, .string l[n].name, .slice l[n].kaddr l[n].kids.length l[n].kcap] 30)).wr.alloc (.cells #[.string { data := #[44, 32] }] 9)) (wr.heap.size + 1) 1 [{ data := #[44, 32] }] _ (bk_new' _ (by simp)) rfl (by simp) L1.out; refine hx.mono ?_; clear hx; rintro e w1 ⟨rfl, g1⟩; have G1 := Lib.hid (((HN.out.alloc _).alloc _).trans g1); have hbox := g1.keeps.box (bk_old _ (bk_new wr _)) (Nat.ne_of_gt hltb.out) (by decide); obtain ⟨c0, c1, c2, c3, c4⟩ := cells5 hbox; clear g1 hbox))
        go_round
        case rel => exact ⟨n + 1, by omega, by go_num, G2.out.cast (by rw [HF.out, EC.out]; simp)⟩
        case measure => simp [intOf]; omega
    · obtain rfl : n = l.length := by omega
      go_wp2
      go_end0
      exact ⟨rfl, HN.out.cast (by rw [List.take_length])⟩

def StmtsDoes (w0 : World) (d : Nat) (v : Value) (tx : List UInt8) : Prop :=
  ∀ (B b : Nat) (bs : List UInt8) (w : World), w0.heap.size ≤ B → Wr B b bs (d : Int) w → Past w0 w → bs.length + tx.length ≤ 140737488355328 →
    Calls Tryz.prog 57 #[ptrW b, v] w fun e w' => e = .returned (.tuple #[]) ∧ Went B b (bs ++ tx) (d : Int) w w'
set_option maxHeartbeats 1000000 in
set_option maxRecDepth 100000 in
theorem block_of {w0 : World} {d : Nat} {a : Option Addr} {len c : Nat} {tx : List UInt8} (HS : StmtsDoes w0 (d + 1) (.slice a len c) tx) (B b : Nat) (bs : List UInt8) (w : World) (hB : w0.heap.size ≤ B) (h : Wr B b bs (d : Int) w) (hp : Past w0 w)
    (hlen : bs.length + (3 + (tx.length + (d + 1))) ≤ 140737488355328) :
    Calls Tryz.prog 116 #[ptrW b, .slice a len c] w fun e w' => e = .returned (.tuple #[]) ∧ Went B b (bs ++ (32 :: 123 :: 10 :: (tx ++ (tabsT d ++ [125])))) (d : Int) w w' := by
  have L1 : Hid (bs.length + 3 ≤ 140737488355328) := Lib.hid (by omega)
  have L2 : Hid ((bs ++ [32, 123, 10]).length + tx.length ≤ 140737488355328) := Lib.hid (by simp; omega)
  have L3 : Hid (((bs ++ [32, 123, 10]) ++ tx).length + d + 1 ≤ 140737488355328) := Lib.hid (by simp; omega)
  have hd : Hid (d ≤ 140737488355328) := Lib.hid (by omega)
  have HW := Lib.hid h
  have HP := Lib.hid hp
  have HB := Lib.hid hB
  have HX := Lib.hid HS
  clear h hp hB hlen HS
  go_enter Tryz.func116, Tryz.ntmps116
  go_wp2_with (first
    | (go_at_call 106; have hx := shut_any G2.out.wr L3.out; refine hx.mono ?_; clear hx; rintro e w3 ⟨rfl, g3⟩; have G3 := Lib.hid (G2.out.trans g3); clear g3)
    | (go_at_call 57; have hx := HX.out B b _ _ HB.out G1.out.wr (HP.out.went HB.out G1.out) L2.out; refine hx.mono ?_; clear hx; rintro e w2 ⟨rfl, g2⟩; have G2 := Lib.hid (G1.out.trans g2); clear g2)
    | (go_at_call 104; have hx := open_any HW.out hd.out L1.out; refine hx.mono ?_; clear hx; rintro e w1 ⟨rfl, g1⟩; have G1 := Lib.hid (HW.out.went.trans g1); clear g1))
  go_end0
  exact ⟨rfl, G3.out.cast (by simp)⟩
end Go.Proofs.YtppeogcpoplpeaaGreatDoor
