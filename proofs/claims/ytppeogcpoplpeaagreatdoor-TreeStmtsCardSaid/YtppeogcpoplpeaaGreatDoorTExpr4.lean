/- What the writer writes of any right expression that lies in memory. What the writer writes of any right expression that lies in memory: by the parts. -/
import Derived.Test.YtppeogcpoplpeaaGreatDoorTExpr2
set_option linter.unusedSimpArgs false
set_option linter.unusedVariables false
namespace Go.Proofs.YtppeogcpoplpeaaGreatDoor
open Go Go.RowKit

/-- The five cells of a list's first part, and of its second. -/
structure Cells5 (w : World) (b o : Nat) (v0 v1 v2 v3 v4 : Value) : Prop where
  c0 : w.cell? ⟨b, o, none⟩ = some v0
  c1 : w.cell? ⟨b, o + 1, none⟩ = some v1
  c2 : w.cell? ⟨b, o + 2, none⟩ = some v2
  c3 : w.cell? ⟨b, o + 3, none⟩ = some v3
  c4 : w.cell? ⟨b, o + 4, none⟩ = some v4
  lt : b < w.heap.size
theorem cell_lt {w : World} {b o : Nat} {v : Value} (h : w.cell? ⟨b, o, none⟩ = some v) : b < w.heap.size := by
  rcases Nat.lt_or_ge b w.heap.size with h' | h'
  · exact h'
  · simp [World.cell?, Array.getElem?_eq_none h'] at h
theorem row_cells {w0 w : World} {B b o i : Nat} {v0 v1 v2 v3 v4 : Value} (h : RowAt w0 B (some ⟨b, o, none⟩) i 5 #[v0, v1, v2, v3, v4]) (hp : Past w0 w) : Cells5 w b (o + i * 5) v0 v1 v2 v3 v4 := by
  obtain ⟨b', o', e, -, hc⟩ := h
  simp only [Option.some.injEq, Addr.mk.injEq, and_true] at e
  obtain ⟨rfl, rfl⟩ := e
  have k := below_keep hp (B := 0)
  have h0 := k _ _ (Nat.zero_le _) (hc 0 v0 rfl)
  exact ⟨h0, k _ _ (Nat.zero_le _) (hc 1 v1 rfl), k _ _ (Nat.zero_le _) (hc 2 v2 rfl), k _ _ (Nat.zero_le _) (hc 3 v3 rfl), k _ _ (Nat.zero_le _) (hc 4 v4 rfl), cell_lt h0⟩

set_option maxHeartbeats 2000000 in
set_option maxRecDepth 100000 in
theorem expr_num {w0 : World} (H : Pow w0) (n : Int) (hn : -9223372036854775808 ≤ n ∧ n ≤ 9223372036854775807) (o m : ByteArray) (v : Value) : ExprDoes w0 51 (.agg #[.int .i64 0, .string o, .int .i64 n, .string m, v]) (Lib.itoa n) := by
  intro B b bs k w hB h hp hlen
  have L1 : Hid (bs.length + (catB [txt n]).length ≤ 140737488355328) := Lib.hid (by rw [catB_one]; exact hlen)
  have HW := Lib.hid h
  have HP := Lib.hid hp
  have HT := Lib.hid (fun W => wordText_any H n hn W)
  clear h hp hB hlen H hn
  go_enter Tryz.func51, Tryz.ntmps51
  go_wp2_with (first
    | (go_at_call 81; have hx := text_any (G1.out.wr.alloc (.cells #[.string (txt n)] 9)) w1.heap.size 1 [txt n] _ (bk_new _ _) rfl (by simp) L1.out; refine hx.mono ?_; clear hx; rintro e w2 ⟨rfl, g2⟩; have G2 := Lib.hid ((G1.out.alloc _).trans g2); clear g2)
    | (go_at_call 82; refine (HT.out _ (HP.out.alloc _)).mono ?_; rintro e w1 ⟨rfl, hb⟩; have G1 := Lib.hid ((HW.out.went.alloc _).trans ((HW.out.alloc _).on hb)); clear hb))
  go_end0
  refine ⟨rfl, ?_⟩
  have := G2.out
  rw [catB_one] at this
  exact this
set_option maxHeartbeats 2000000 in
set_option maxRecDepth 100000 in
theorem expr_var {w0 : World} (o m : ByteArray) (n : Int) (v : Value) : ExprDoes w0 51 (.agg #[.int .i64 1, .string o, .int .i64 n, .string m, v]) m.data.toList := by
  intro B b bs k w hB h hp hlen
  have L1 : Hid (bs.length + (catB [m]).length ≤ 140737488355328) := Lib.hid (by rw [catB_one]; exact hlen)
  have HW := Lib.hid h
  clear h hp hB hlen
  go_enter Tryz.func51, Tryz.ntmps51
  go_wp2_with (go_at_call 81; refine (text_any ((HW.out.alloc _).alloc _) (w.heap.size + 1) 1 [m] _ (bk_new' _ (by simp)) rfl (by simp) L1.out).mono ?_; rintro e w1 ⟨rfl, g1⟩; have G1 := Lib.hid (((HW.out.went.alloc _).alloc _).trans g1); clear g1)
  go_end0
  refine ⟨rfl, ?_⟩
  have := G1.out
  rw [catB_one] at this
  exact this
set_option maxHeartbeats 4000000 in
set_option maxRecDepth 100000 in
theorem expr_idx {w0 : World} {k1 : Int} {o1 : ByteArray} {n1 : Int} {m1 : ByteArray} {v1 : Value} {t1 : List UInt8} (H1 : ExprDoes w0 51 (.agg #[.int .i64 k1, .string o1, .int .i64 n1, .string m1, v1]) t1)
    (kb ko cap : Nat) (hr : RowAt w0 0 (some ⟨kb, ko, none⟩) 0 5 #[.int .i64 k1, .string o1, .int .i64 n1, .string m1, v1]) (o m : ByteArray) (n : Int) :
    ExprDoes w0 51 (.agg #[.int .i64 2, .string o, .int .i64 n, .string m, .slice (some ⟨kb, ko, none⟩) 1 cap]) (m.data.toList ++ 91 :: (t1 ++ [93])) := by
  intro B b bs k w hB h hp hlen
  obtain ⟨r0, r1, r2, r3, r4, hkb⟩ := row_cells hr hp
  simp only [Nat.zero_mul, Nat.add_zero] at r0 r1 r2 r3 r4
  have hz : m.data.toList.length = m.size := Array.length_toList
  have hzm : m.size ≤ 140737488355328 := by
    simp only [List.length_append, List.length_cons, List.length_nil] at hlen
    omega
  have L1 : Hid (bs.length + ((m ++ { data := #[91] } : ByteArray).size + t1.length + ({ data := #[93] } : ByteArray).size) ≤ 140737488355328) := Lib.hid (by
    rw [ByteArray.size_append]
    show bs.length + (m.size + 1 + t1.length + 1) ≤ _
    simp only [List.length_append, List.length_cons, List.length_nil] at hlen
    omega)
  have HW := Lib.hid h
  have HP := Lib.hid hp
  have HB := Lib.hid hB
  have HA := Lib.hid (around_of H1 (m ++ { data := #[91] }) { data := #[93] } B b bs k)
  clear h hp hB hlen H1 hr hz
  go_enter Tryz.func51, Tryz.ntmps51
  go_wp2
  go_region_with (go_at_call 83; have hx := HA.out _ HB.out (HW.out.went.alloc (.cells #[.int .i64 2, .string o, .int .i64 n, .string m, .slice (some ⟨kb, ko, none⟩) 1 cap] 30)).drew.wr (HP.out.alloc _).drew L1.out; refine hx.mono ?_; clear hx; rintro e w2 ⟨rfl, g2⟩; have G2 := Lib.hid ((HW.out.went.alloc _).drew.trans g2); clear g2)
  all_goals
    go_wp2_with fail
    go_end0
    refine ⟨rfl, ?_⟩
    have := G2.out
    rw [ByteArray.data_append, Array.toList_append] at this
    simpa only [List.append_assoc, List.cons_append, List.nil_append] using this
set_option maxHeartbeats 4000000 in
set_option maxRecDepth 100000 in
theorem expr_un {w0 : World} {k1 : Int} {o1 : ByteArray} {n1 : Int} {m1 : ByteArray} {v1 : Value} {t1 : List UInt8} (H1 : ExprDoes w0 51 (.agg #[.int .i64 k1, .string o1, .int .i64 n1, .string m1, v1]) t1)
    (kb ko cap : Nat) (hr : RowAt w0 0 (some ⟨kb, ko, none⟩) 0 5 #[.int .i64 k1, .string o1, .int .i64 n1, .string m1, v1]) (o m : ByteArray) (n : Int) (br : Bool) (hbr : brB o k1 n1 = br) :
    ExprDoes w0 51 (.agg #[.int .i64 3, .string o, .int .i64 n, .string m, .slice (some ⟨kb, ko, none⟩) 1 cap]) (o.data.toList ++ inBr br t1) := by
  intro B b bs k w hB h hp hlen
  obtain ⟨r0, r1, r2, r3, r4, hkb⟩ := row_cells hr hp
  simp only [Nat.zero_mul, Nat.add_zero] at r0 r1 r2 r3 r4
  have hz : o.data.toList.length = o.size := Array.length_toList
  have L1 : Hid (bs.length + (o.size + (inBr (brB o k1 n1) t1).length) ≤ 140737488355328) := Lib.hid (by
    rw [List.length_append, hz] at hlen
    rw [hbr]; omega)
  have HW := Lib.hid h
  have HP := Lib.hid hp
  have HB := Lib.hid hB
  have HA := Lib.hid (unary_of H1 o B b bs k)
  have HBR := Lib.hid hbr
  clear h hp hB hlen H1 hr hz hbr
  go_enter Tryz.func51, Tryz.ntmps51
  go_wp2
  go_region_with (go_at_call 84; have hx := HA.out _ HB.out (HW.out.went.alloc (.cells #[.int .i64 3, .string o, .int .i64 n, .string m, .slice (some ⟨kb, ko, none⟩) 1 cap] 30)).drew.wr (HP.out.alloc _).drew L1.out; refine hx.mono ?_; clear hx; rintro e w2 ⟨rfl, g2⟩; have G2 := Lib.hid ((HW.out.went.alloc _).drew.trans g2); clear g2)
  all_goals
    go_wp2_with fail
    go_end0
    refine ⟨rfl, ?_⟩
    have := G2.out
    rw [HBR.out] at this
    exact this
set_option maxHeartbeats 4000000 in
set_option maxRecDepth 100000 in
theorem expr_bin {w0 : World} {k1 : Int} {o1 : ByteArray} {n1 : Int} {m1 : ByteArray} {v1 : Value} {t1 : List UInt8} (H1 : ExprDoes w0 51 (.agg #[.int .i64 k1, .string o1, .int .i64 n1, .string m1, v1]) t1)
    {k2 : Int} {o2 : ByteArray} {n2 : Int} {m2 : ByteArray} {v2 : Value} {t2 : List UInt8} (H2 : ExprDoes w0 51 (.agg #[.int .i64 k2, .string o2, .int .i64 n2, .string m2, v2]) t2)
    (kb ko cap : Nat) (hr1 : RowAt w0 0 (some ⟨kb, ko, none⟩) 0 5 #[.int .i64 k1, .string o1, .int .i64 n1, .string m1, v1]) (hr2 : RowAt w0 0 (some ⟨kb, ko, none⟩) 1 5 #[.int .i64 k2, .string o2, .int .i64 n2, .string m2, v2]) (o m : ByteArray) (n : Int) (br1 br2 : Bool)
    (hb1 : (k1 == 4 && decide (levelV o1 < levelV o)) = br1) (hb2 : (k2 == 4 && decide (levelV o2 < levelV o + 1)) = br2) :
    ExprDoes w0 51 (.agg #[.int .i64 4, .string o, .int .i64 n, .string m, .slice (some ⟨kb, ko, none⟩) 2 cap]) (inBr br1 t1 ++ 32 :: (o.data.toList ++ 32 :: inBr br2 t2)) := by
  intro B b bs k w hB h hp hlen
  obtain ⟨r0, r1, r2, r3, r4, hkb⟩ := row_cells hr1 hp
  obtain ⟨s0, s1, s2, s3, s4, -⟩ := row_cells hr2 hp
  simp only [Nat.zero_mul, Nat.add_zero] at r0 r1 r2 r3 r4
  simp only [Nat.one_mul] at s0 s1 s2 s3 s4
  have hz : o.data.toList.length = o.size := Array.length_toList
  have L1 : Hid (bs.length + ((inBr br1 t1).length + (o.size + 2 + (inBr br2 t2).length)) ≤ 140737488355328) := Lib.hid (by
    simp only [List.length_append, List.length_cons] at hlen
    omega)
  have HW := Lib.hid h
  have HP := Lib.hid hp
  have HB := Lib.hid hB
  have HA := Lib.hid (binary_of H1 H2 o br1 br2 hb1 hb2 B b bs k)
  clear h hp hB hlen H1 H2 hr1 hr2 hz hb1 hb2
  go_enter Tryz.func51, Tryz.ntmps51
  go_wp2
  go_region_with (go_at_call 85; have hx := HA.out _ HB.out (HW.out.went.alloc (.cells #[.int .i64 4, .string o, .int .i64 n, .string m, .slice (some ⟨kb, ko, none⟩) 2 cap] 30)).drew.wr (HP.out.alloc _).drew L1.out; refine hx.mono ?_; clear hx; rintro e w2 ⟨rfl, g2⟩; have G2 := Lib.hid ((HW.out.went.alloc _).drew.trans g2); clear g2)
  all_goals
    go_wp2_with fail
    go_end0
    exact ⟨rfl, G2.out⟩

end Go.Proofs.YtppeogcpoplpeaaGreatDoor

set_option linter.unusedSimpArgs false
set_option linter.unusedVariables false
namespace Go.Proofs.YtppeogcpoplpeaaGreatDoor
open Go Go.RowKit

theorem ET.cells_is (T : ET) : T.cells = #[.int .i64 T.kind, .string T.op, .int .i64 T.n, .string T.name, .slice T.kaddr T.kids.length T.kcap] := by cases T; rfl
theorem ET.val_is (T : ET) : T.val = .agg #[.int .i64 T.kind, .string T.op, .int .i64 T.n, .string T.name, .slice T.kaddr T.kids.length T.kcap] := by cases T; rfl
theorem expr_any {w0 : World} (H : Pow w0) : ∀ (m : Nat) (T : ET), T.sz ≤ m → T.rightB = true → T.In w0 0 → ExprDoes w0 51 T.val (putR levL T.re) := by
  intro m
  induction m with
  | zero => intro T hm; obtain ⟨k, o, n, m, a, c, l⟩ := T; simp [ET.sz] at hm
  | succ m ih =>
    intro T hm h hin
    rcases right_cases h with ⟨n, a, c, rfl⟩ | ⟨s, a, c, hs, rfl⟩ | ⟨s, a, c, e, hs, he, rfl⟩ | ⟨o, a, c, e, ho, he, rfl⟩ | ⟨o, a, c, e, f, ho, he, hf, rfl⟩
    · rw [ET.In] at hin
      exact expr_num H n hin.1 _ _ _
    · exact expr_var _ _ _ _
    · simp only [ET.In, EsIn] at hin
      simp [ET.sz, szs] at hm
      obtain ⟨kb, ko, rfl, -⟩ := hin.2.2.1
      have H1 := ih e (by omega) he hin.2.2.2.1
      rw [ET.val_is] at H1
      have hr := hin.2.2.1
      rw [ET.cells_is] at hr
      have := expr_idx (k1 := e.kind) (o1 := e.op) (n1 := e.n) (m1 := e.name) (v1 := .slice e.kaddr e.kids.length e.kcap) H1 kb ko c hr { data := #[] } s 0
      exact this
    · simp only [ET.In, EsIn] at hin
      simp [ET.sz, szs] at hm
      obtain ⟨kb, ko, rfl, -⟩ := hin.2.2.1
      have H1 := ih e (by omega) he hin.2.2.2.1
      rw [ET.val_is] at H1
      have hr := hin.2.2.1
      rw [ET.cells_is] at hr
      obtain ⟨c', hc, rfl⟩ := unB_is ho
      have := expr_un (k1 := e.kind) (o1 := e.op) (n1 := e.n) (m1 := e.name) (v1 := .slice e.kaddr e.kids.length e.kcap) H1 kb ko c hr { data := #[c'] } { data := #[] } 0 _ (brB_un c' he)
      exact this
    · simp only [ET.In, EsIn] at hin
      simp [ET.sz, szs] at hm
      obtain ⟨kb, ko, rfl, -⟩ := hin.2.2.1
      have H1 := ih e (by omega) he hin.2.2.2.1
      rw [ET.val_is] at H1
      have H2 := ih f (by omega) hf hin.2.2.2.2.2.1
      rw [ET.val_is] at H2
      have hr := hin.2.2.1
      rw [ET.cells_is] at hr
      have hr2 := hin.2.2.2.2.1
      rw [ET.cells_is] at hr2
      have := expr_bin (k1 := e.kind) (o1 := e.op) (n1 := e.n) (m1 := e.name) (v1 := .slice e.kaddr e.kids.length e.kcap) H1 (k2 := f.kind) (o2 := f.op) (n2 := f.n) (m2 := f.name) (v2 := .slice f.kaddr f.kids.length f.kcap) H2 kb ko c hr hr2 o { data := #[] } 0 _ _ (lower_is he _) (lower_is hf _)
      simp only [ET.re, putR, levL_is]
      exact this
end Go.Proofs.YtppeogcpoplpeaaGreatDoor
