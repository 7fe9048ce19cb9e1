/- What the writer writes of names, of declarations, of a function's variables. -/
import Derived.Test.YtppeogcpoplpeaaGreatDoorTProg2
import Derived.Test.YtppeogcpoplpeaaGreatDoorTStW4
set_option linter.unusedSimpArgs false
set_option linter.unusedVariables false
namespace Go.Proofs.YtppeogcpoplpeaaGreatDoor
open Go Go.RowKit

theorem commas_map {α β γ : Type} (c : List γ) (f : β → List γ) (g : α → β) (l : List α) : commas c f (l.map g) = commas c (fun a => f (g a)) l := by
  induction l with
  | nil => rfl
  | cons a l ih =>
    cases l with
    | nil => rfl
    | cons b l =>
      simp only [List.map_cons] at ih ⊢
      rw [commas_two, commas_two, ih]
def nmT (s : ByteArray) : List UInt8 := s.data.toList
def dcT (d : ByteArray × Int) : List UInt8 := putD (d.1.data.toList, d.2.toNat)
set_option maxHeartbeats 1000000 in
set_option maxRecDepth 100000 in
theorem wname_any {B b : Nat} {bs : List UInt8} {k : Int} {w : World} (h : Wr B b bs k w) (s : ByteArray) (hlen : bs.length + (nmT s).length ≤ 140737488355328) :
    Calls Tryz.prog 103 #[ptrW b, .string s] w fun e w' => e = .returned (.tuple #[]) ∧ Went B b (bs ++ nmT s) k w w' := by
  have L1 : Hid (bs.length + (catB [s]).length ≤ 140737488355328) := Lib.hid (by rw [catB_one]; exact hlen)
  have HW := Lib.hid h
  clear h hlen
  go_enter Tryz.func103, Tryz.ntmps103
  go_wp2_with (go_at_call 81; have hx := text_any (HW.out.alloc (.cells #[.string s] 9)) w.heap.size 1 [s] _ (bk_new _ _) rfl (by simp) L1.out; refine hx.mono ?_; clear hx; rintro e w1 ⟨rfl, g1⟩; have G1 := Lib.hid ((HW.out.went.alloc _).trans g1); clear g1)
  go_end0
  exact ⟨rfl, G1.out.cast (by rw [catB_one]; rfl)⟩
set_option maxHeartbeats 2000000 in
set_option maxRecDepth 100000 in
theorem decl_any {w0 : World} (H : Pow w0) {B b : Nat} {bs : List UInt8} {k : Int} {w : World} (hB : w0.heap.size ≤ B) (hp : Past w0 w) (h : Wr B b bs k w) (n : ByteArray) (s : Int) (hs0 : 0 ≤ s) (hs1 : s ≤ 9223372036854775807) (hlen : bs.length + (dcT (n, s)).length ≤ 140737488355328) :
    Calls Tryz.prog 121 #[ptrW b, .agg #[.string n, .int .i64 s]] w fun e w' => e = .returned (.tuple #[]) ∧ Went B b (bs ++ dcT (n, s)) k w w' := by
  have HW := Lib.hid h
  have HP := Lib.hid hp
  have HB := Lib.hid hB
  have hltb := Lib.hid h.lt
  clear hB
  by_cases h0 : s = 0
  · subst h0
    have et : dcT (n, 0) = catB [n] := by rw [catB_one]; simp [dcT, putD]
    have L1 : Hid (bs.length + (catB [n]).length ≤ 140737488355328) := Lib.hid (by rw [← et]; exact hlen)
    have ET' := Lib.hid et
    clear h hp H hlen hs0 hs1 et
    go_enter Tryz.func121, Tryz.ntmps121
    go_wp2_with (go_at_call 81; have hx := text_any ((HW.out.alloc (.cells #[.string n, .int .i64 0] 85)).alloc (.cells #[.string n] 9)) (w.heap.size + 1) 1 [n] _ (bk_new' _ (by simp)) rfl (by simp) L1.out; refine hx.mono ?_; clear hx; rintro e w1 ⟨rfl, g1⟩; have G1 := Lib.hid (((HW.out.went.alloc _).alloc _).trans g1); obtain ⟨c0, c1⟩ := cells2 (g1.keeps.box (bk_old _ (bk_new w _)) (Nat.ne_of_gt hltb.out) (by decide)); clear g1)
    go_end0
    exact ⟨rfl, G1.out.cast (by rw [ET'.out])⟩
  · have hpos : decide (0 < s) = true := decide_eq_true (by omega)
    have hpos2 : 0 < s := by omega
    have e2 : (txt s).data.toList = Lib.decDigits s.toNat := by
      show Lib.itoa s = _
      unfold Lib.itoa
      rw [if_neg (by omega)]
    have et : dcT (n, s) = catB [n] ++ catB [{ data := #[91] }, txt s, { data := #[93] }] := by
      rw [catB_one]
      simp only [catB, List.flatMap_cons, List.flatMap_nil, e2, List.append_nil, dcT, putD]
      rw [if_neg (by omega)]
      simp
    have L1 : Hid (bs.length + (catB [n]).length ≤ 140737488355328) := Lib.hid (by rw [et, List.length_append] at hlen; omega)
    have L2 : Hid ((bs ++ catB [n]).length + (catB [{ data := #[91] }, txt s, { data := #[93] }]).length ≤ 140737488355328) := Lib.hid (by rw [et, List.length_append] at hlen; rw [List.length_append]; omega)
    have ET' := Lib.hid et
    have HT := Lib.hid (fun W => wordText_any H s (by omega) W)
    clear h hp H hlen hs0 hs1 et e2
    go_enter Tryz.func121, Tryz.ntmps121
    go_wp2_with (first
      | (go_at_call 81; have hx := text_any (G2.out.wr.alloc (.cells #[.string { data := #[91] }, .string (txt s), .string { data := #[93] }] 9)) w2.heap.size 3 [{ data := #[91] }, txt s, { data := #[93] }] _ (bk_new _ _) rfl (by simp) L2.out; refine hx.mono ?_; clear hx; rintro e w3 ⟨rfl, g3⟩; have G3 := Lib.hid ((G2.out.alloc _).trans g3); clear g3)
      | (go_at_call 82; refine (HT.out _ (HP.out.went HB.out G1.out)).mono ?_; rintro e w2 ⟨rfl, hb⟩; have G2 := Lib.hid (G1.out.trans (G1.out.wr.on hb)); clear hb)
      | (go_at_call 81; have hx := text_any ((HW.out.alloc (.cells #[.string n, .int .i64 s] 85)).alloc (.cells #[.string n] 9)) (w.heap.size + 1) 1 [n] _ (bk_new' _ (by simp)) rfl (by simp) L1.out; refine hx.mono ?_; clear hx; rintro e w1 ⟨rfl, g1⟩; have G1 := Lib.hid (((HW.out.went.alloc _).alloc _).trans g1); obtain ⟨c0, c1⟩ := cells2 (g1.keeps.box (bk_old _ (bk_new w _)) (Nat.ne_of_gt hltb.out) (by decide)); clear g1))
    go_end0
    exact ⟨rfl, G3.out.cast (by rw [ET'.out, List.append_assoc])⟩
end Go.Proofs.YtppeogcpoplpeaaGreatDoor
