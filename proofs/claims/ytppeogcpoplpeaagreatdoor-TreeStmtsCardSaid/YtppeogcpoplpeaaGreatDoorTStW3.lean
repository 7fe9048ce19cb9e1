/- What the writer writes of one statement, kind by kind. (Written by genw.py.) -/
import Derived.Test.YtppeogcpoplpeaaGreatDoorTStW2
import Derived.Deep.DeepCutAuto
set_option linter.unusedSimpArgs false
set_option linter.unusedVariables false
namespace Go.Proofs.YtppeogcpoplpeaaGreatDoor
open Go Go.RowKit

def StmtDoes (w0 : World) (d : Nat) (v : Value) (tx : List UInt8) : Prop :=
  ∀ (B b : Nat) (bs : List UInt8) (w : World), w0.heap.size ≤ B → Wr B b bs (d : Int) w → Past w0 w → bs.length + tx.length ≤ 140737488355328 →
    Calls Tryz.prog 89 #[ptrW b, v] w fun e w' => e = .returned (.tuple #[]) ∧ Went B b (bs ++ tx) (d : Int) w w'
abbrev agE (k1 : Int) (o1 : ByteArray) (n1 : Int) (m1 : ByteArray) (v1 : Value) : Value := .agg #[.int .i64 k1, .string o1, .int .i64 n1, .string m1, v1]
set_option maxHeartbeats 4000000 in
set_option maxRecDepth 100000 in
theorem stmt_rd {w0 : World} (d : Nat) (t : Int) (n f : ByteArray) (ea : Option Addr) (ec : Nat) (ba : Option Addr) (bc : Nat) (la : Option Addr) (lc : Nat) : StmtDoes w0 d (.agg #[.int .i64 2, .int .i64 t, .string n, .string f, .slice ea 0 ec, .slice ba 0 bc, .slice la 0 lc]) (n.data.toList ++ [32, 61, 32, 114, 101, 97, 100, 40, 41, 59]) := by
  intro B b bs w hB h hp hlen
  have ecc : catB [n, { data := #[32, 61, 32, 114, 101, 97, 100, 40, 41, 59] }] = n.data.toList ++ [32, 61, 32, 114, 101, 97, 100, 40, 41, 59] := by simp [catB]
  have L1 : Hid (bs.length + (catB [n, { data := #[32, 61, 32, 114, 101, 97, 100, 40, 41, 59] }]).length ≤ 140737488355328) := Lib.hid (by rw [ecc]; exact hlen)
  have EC := Lib.hid ecc
  have HW := Lib.hid h
  clear h hp hB hlen ecc
  go_enter Tryz.func89, Tryz.ntmps89
  go_wp2_with (go_at_call 81; have hx := text_any ((HW.out.alloc (.cells #[.int .i64 2, .int .i64 t, .string n, .string f, .slice ea 0 ec, .slice ba 0 bc, .slice la 0 lc] 83)).alloc (.cells #[.string n, .string { data := #[32, 61, 32, 114, 101, 97, 100, 40, 41, 59] }] 9)) (w.heap.size + 1) 2 [n, { data := #[32, 61, 32, 114, 101, 97, 100, 40, 41, 59] }] _ (bk_new' _ (by simp)) rfl (by simp) L1.out; refine hx.mono ?_; clear hx; rintro e w1 ⟨rfl, g1⟩; have G1 := Lib.hid (((HW.out.went.alloc _).alloc _).trans g1); clear g1)
  go_end0
  exact ⟨rfl, G1.out.cast (by rw [EC.out])⟩
set_option maxHeartbeats 4000000 in
set_option maxRecDepth 100000 in
theorem stmt_brk {w0 : World} (d : Nat) (t : Int) (n f : ByteArray) (ea : Option Addr) (ec : Nat) (ba : Option Addr) (bc : Nat) (la : Option Addr) (lc : Nat) : StmtDoes w0 d (.agg #[.int .i64 6, .int .i64 t, .string n, .string f, .slice ea 0 ec, .slice ba 0 bc, .slice la 0 lc]) ([98, 114, 101, 97, 107, 59]) := by
  intro B b bs w hB h hp hlen
  have ecc : catB [{ data := #[98, 114, 101, 97, 107, 59] }] = [98, 114, 101, 97, 107, 59] := by simp [catB]
  have L1 : Hid (bs.length + (catB [{ data := #[98, 114, 101, 97, 107, 59] }]).length ≤ 140737488355328) := Lib.hid (by rw [ecc]; exact hlen)
  have EC := Lib.hid ecc
  have HW := Lib.hid h
  clear h hp hB hlen ecc
  go_enter Tryz.func89, Tryz.ntmps89
  go_wp2_with (go_at_call 81; have hx := text_any ((HW.out.alloc (.cells #[.int .i64 6, .int .i64 t, .string n, .string f, .slice ea 0 ec, .slice ba 0 bc, .slice la 0 lc] 83)).alloc (.cells #[.string { data := #[98, 114, 101, 97, 107, 59] }] 9)) (w.heap.size + 1) 1 [{ data := #[98, 114, 101, 97, 107, 59] }] _ (bk_new' _ (by simp)) rfl (by simp) L1.out; refine hx.mono ?_; clear hx; rintro e w1 ⟨rfl, g1⟩; have G1 := Lib.hid (((HW.out.went.alloc _).alloc _).trans g1); clear g1)
  go_end0
  exact ⟨rfl, G1.out.cast (by rw [EC.out])⟩
set_option maxHeartbeats 4000000 in
set_option maxRecDepth 100000 in
theorem stmt_cnt {w0 : World} (d : Nat) (t : Int) (n f : ByteArray) (ea : Option Addr) (ec : Nat) (ba : Option Addr) (bc : Nat) (la : Option Addr) (lc : Nat) : StmtDoes w0 d (.agg #[.int .i64 7, .int .i64 t, .string n, .string f, .slice ea 0 ec, .slice ba 0 bc, .slice la 0 lc]) ([99, 111, 110, 116, 105, 110, 117, 101, 59]) := by
  intro B b bs w hB h hp hlen
  have ecc : catB [{ data := #[99, 111, 110, 116, 105, 110, 117, 101, 59] }] = [99, 111, 110, 116, 105, 110, 117, 101, 59] := by simp [catB]
  have L1 : Hid (bs.length + (catB [{ data := #[99, 111, 110, 116, 105, 110, 117, 101, 59] }]).length ≤ 140737488355328) := Lib.hid (by rw [ecc]; exact hlen)
  have EC := Lib.hid ecc
  have HW := Lib.hid h
  clear h hp hB hlen ecc
  go_enter Tryz.func89, Tryz.ntmps89
  go_wp2_with (go_at_call 81; have hx := text_any ((HW.out.alloc (.cells #[.int .i64 7, .int .i64 t, .string n, .string f, .slice ea 0 ec, .slice ba 0 bc, .slice la 0 lc] 83)).alloc (.cells #[.string { data := #[99, 111, 110, 116, 105, 110, 117, 101, 59] }] 9)) (w.heap.size + 1) 1 [{ data := #[99, 111, 110, 116, 105, 110, 117, 101, 59] }] _ (bk_new' _ (by simp)) rfl (by simp) L1.out; refine hx.mono ?_; clear hx; rintro e w1 ⟨rfl, g1⟩; have G1 := Lib.hid (((HW.out.went.alloc _).alloc _).trans g1); clear g1)
  go_end0
  exact ⟨rfl, G1.out.cast (by rw [EC.out])⟩
set_option maxHeartbeats 4000000 in
set_option maxRecDepth 100000 in
theorem stmt_ret {w0 : World} (d : Nat) {k1 : Int} {o1 : ByteArray} {n1 : Int} {m1 : ByteArray} {v1 : Value} {t1 : List UInt8} (H1 : ExprDoes w0 51 (agE k1 o1 n1 m1 v1) t1) (kb ko ec : Nat) (hr : RowAt w0 0 (some ⟨kb, ko, none⟩) 0 5 #[.int .i64 k1, .string o1, .int .i64 n1, .string m1, v1]) (t : Int) (n f : ByteArray) (ba : Option Addr) (bc : Nat) (la : Option Addr) (lc : Nat) : StmtDoes w0 d (.agg #[.int .i64 8, .int .i64 t, .string n, .string f, .slice (some ⟨kb, ko, none⟩) 1 ec, .slice ba 0 bc, .slice la 0 lc]) ([114, 101, 116, 117, 114, 110, 32] ++ (t1 ++ [59])) := by
  intro B b bs w hB h hp hlen
  obtain ⟨r0, r1, r2, r3, r4, hkb⟩ := row_cells hr hp
  simp only [Nat.zero_mul, Nat.add_zero] at r0 r1 r2 r3 r4
  have L1 : Hid (bs.length + (({ data := #[114, 101, 116, 117, 114, 110, 32] } : ByteArray).size + t1.length + ({ data := #[59] } : ByteArray).size) ≤ 140737488355328) := Lib.hid (by
    show bs.length + (7 + t1.length + 1) ≤ _
    simp only [List.length_append, List.length_cons, List.length_nil] at hlen
    omega)
  have HW := Lib.hid h
  have HP := Lib.hid hp
  have HB := Lib.hid hB
  have HA := Lib.hid (around_of H1 { data := #[114, 101, 116, 117, 114, 110, 32] } { data := #[59] } B b bs d)
  clear h hp hB hlen H1 hr
  go_enter Tryz.func89, Tryz.ntmps89
  go_wp2_with (go_at_call 83; have hx := HA.out _ HB.out (HW.out.alloc (.cells #[.int .i64 8, .int .i64 t, .string n, .string f, .slice (some ⟨kb, ko, none⟩) 1 ec, .slice ba 0 bc, .slice la 0 lc] 83)) (HP.out.alloc _) L1.out; refine hx.mono ?_; clear hx; rintro e w1 ⟨rfl, g1⟩; have G1 := Lib.hid ((HW.out.went.alloc _).trans g1); clear g1)
  go_end0
  exact ⟨rfl, G1.out.cast (by simp)⟩
set_option maxHeartbeats 4000000 in
set_option maxRecDepth 100000 in
theorem stmt_ass {w0 : World} (d : Nat) {k1 : Int} {o1 : ByteArray} {n1 : Int} {m1 : ByteArray} {v1 : Value} {t1 : List UInt8} (H1 : ExprDoes w0 51 (agE k1 o1 n1 m1 v1) t1) (kb ko ec : Nat) (hr : RowAt w0 0 (some ⟨kb, ko, none⟩) 0 5 #[.int .i64 k1, .string o1, .int .i64 n1, .string m1, v1]) (t : Int) (n f : ByteArray) (ba : Option Addr) (bc : Nat) (la : Option Addr) (lc : Nat) : StmtDoes w0 d (.agg #[.int .i64 9, .int .i64 t, .string n, .string f, .slice (some ⟨kb, ko, none⟩) 1 ec, .slice ba 0 bc, .slice la 0 lc]) ([97, 115, 115, 101, 114, 116, 40] ++ (t1 ++ [41, 59])) := by
  intro B b bs w hB h hp hlen
  obtain ⟨r0, r1, r2, r3, r4, hkb⟩ := row_cells hr hp
  simp only [Nat.zero_mul, Nat.add_zero] at r0 r1 r2 r3 r4
  have L1 : Hid (bs.length + (({ data := #[97, 115, 115, 101, 114, 116, 40] } : ByteArray).size + t1.length + ({ data := #[41, 59] } : ByteArray).size) ≤ 140737488355328) := Lib.hid (by
    show bs.length + (7 + t1.length + 2) ≤ _
    simp only [List.length_append, List.length_cons, List.length_nil] at hlen
    omega)
  have HW := Lib.hid h
  have HP := Lib.hid hp
  have HB := Lib.hid hB
  have HA := Lib.hid (around_of H1 { data := #[97, 115, 115, 101, 114, 116, 40] } { data := #[41, 59] } B b bs d)
  clear h hp hB hlen H1 hr
  go_enter Tryz.func89, Tryz.ntmps89
  go_wp2_with (go_at_call 83; have hx := HA.out _ HB.out (HW.out.alloc (.cells #[.int .i64 9, .int .i64 t, .string n, .string f, .slice (some ⟨kb, ko, none⟩) 1 ec, .slice ba 0 bc, .slice la 0 lc] 83)) (HP.out.alloc _) L1.out; refine hx.mono ?_; clear hx; rintro e w1 ⟨rfl, g1⟩; have G1 := Lib.hid ((HW.out.went.alloc _).trans g1); clear g1)
  go_end0
  exact ⟨rfl, G1.out.cast (by simp)⟩
set_option maxHeartbeats 4000000 in
set_option maxRecDepth 100000 in
theorem stmt_asg {w0 : World} (d : Nat) {k1 : Int} {o1 : ByteArray} {n1 : Int} {m1 : ByteArray} {v1 : Value} {t1 : List UInt8} (H1 : ExprDoes w0 51 (agE k1 o1 n1 m1 v1) t1) (kb ko ec : Nat) (hr : RowAt w0 0 (some ⟨kb, ko, none⟩) 0 5 #[.int .i64 k1, .string o1, .int .i64 n1, .string m1, v1]) (t : Int) (n f : ByteArray) (ba : Option Addr) (bc : Nat) (la : Option Addr) (lc : Nat) : StmtDoes w0 d (.agg #[.int .i64 0, .int .i64 t, .string n, .string f, .slice (some ⟨kb, ko, none⟩) 1 ec, .slice ba 0 bc, .slice la 0 lc]) (n.data.toList ++ 32 :: 61 :: 32 :: (t1 ++ [59])) := by
  intro B b bs w hB h hp hlen
  obtain ⟨r0, r1, r2, r3, r4, hkb⟩ := row_cells hr hp
  simp only [Nat.zero_mul, Nat.add_zero] at r0 r1 r2 r3 r4
  have hz : n.data.toList.length = n.size := Array.length_toList
  have hzm : n.size ≤ 140737488355328 := by
    simp only [List.length_append, List.length_cons, List.length_nil] at hlen
    omega
  have L1 : Hid (bs.length + ((n ++ { data := #[32, 61, 32] } : ByteArray).size + t1.length + ({ data := #[59] } : ByteArray).size) ≤ 140737488355328) := Lib.hid (by
    rw [ByteArray.size_append]
    show bs.length + (n.size + 3 + t1.length + 1) ≤ _
    simp only [List.length_append, List.length_cons, List.length_nil] at hlen
    omega)
  have HW := Lib.hid h
  have HP := Lib.hid hp
  have HB := Lib.hid hB
  have HA := Lib.hid (around_of H1 (n ++ { data := #[32, 61, 32] }) { data := #[59] } B b bs d)
  clear h hp hB hlen H1 hr hz
  go_enter Tryz.func89, Tryz.ntmps89
  go_wp2
  go_region_with (go_at_call 83; have hx := HA.out _ HB.out (HW.out.went.alloc (.cells #[.int .i64 0, .int .i64 t, .string n, .string f, .slice (some ⟨kb, ko, none⟩) 1 ec, .slice ba 0 bc, .slice la 0 lc] 83)).drew.wr (HP.out.alloc _).drew L1.out; refine hx.mono ?_; clear hx; rintro e w2 ⟨rfl, g2⟩; have G2 := Lib.hid ((HW.out.went.alloc _).drew.trans g2); clear g2)
  all_goals
    go_wp2_with fail
    go_end0
    refine ⟨rfl, G2.out.cast ?_⟩
    rw [ByteArray.data_append, Array.toList_append]
    simp only [List.append_assoc, List.cons_append, List.nil_append]
set_option maxHeartbeats 4000000 in
set_option maxRecDepth 100000 in
theorem stmt_sto {w0 : World} (d : Nat) {k1 : Int} {o1 : ByteArray} {n1 : Int} {m1 : ByteArray} {v1 : Value} {t1 : List UInt8} (H1 : ExprDoes w0 51 (agE k1 o1 n1 m1 v1) t1) {k2 : Int} {o2 : ByteArray} {n2 : Int} {m2 : ByteArray} {v2 : Value} {t2 : List UInt8} (H2 : ExprDoes w0 51 (agE k2 o2 n2 m2 v2) t2) (kb ko ec : Nat) (hr : RowAt w0 0 (some ⟨kb, ko, none⟩) 0 5 #[.int .i64 k1, .string o1, .int .i64 n1, .string m1, v1]) (hr2 : RowAt w0 0 (some ⟨kb, ko, none⟩) 1 5 #[.int .i64 k2, .string o2, .int .i64 n2, .string m2, v2]) (t : Int) (n f : ByteArray) (ba : Option Addr) (bc : Nat) (la : Option Addr) (lc : Nat) : StmtDoes w0 d (.agg #[.int .i64 1, .int .i64 t, .string n, .string f, .slice (some ⟨kb, ko, none⟩) 2 ec, .slice ba 0 bc, .slice la 0 lc]) (n.data.toList ++ 91 :: (t1 ++ 93 :: 32 :: 61 :: 32 :: (t2 ++ [59]))) := by
  intro B b bs w hB h hp hlen
  obtain ⟨r0, r1, r2, r3, r4, hkb⟩ := row_cells hr hp
  simp only [Nat.zero_mul, Nat.add_zero] at r0 r1 r2 r3 r4
  have hz : n.data.toList.length = n.size := Array.length_toList
  have hzm : n.size ≤ 140737488355328 := by
    simp only [List.length_append, List.length_cons, List.length_nil] at hlen
    omega
  have ez : (n ++ { data := #[91] } : ByteArray).data.toList = n.data.toList ++ [91] := by rw [ByteArray.data_append, Array.toList_append]
  have L1 : Hid (bs.length + ((n ++ { data := #[91] } : ByteArray).size + t1.length + ({ data := #[93, 32, 61, 32] } : ByteArray).size) ≤ 140737488355328) := Lib.hid (by
    rw [ByteArray.size_append]
    show bs.length + (n.size + 1 + t1.length + 4) ≤ _
    simp only [List.length_append, List.length_cons, List.length_nil] at hlen
    omega)
  have L2 : Hid ((bs ++ (n.data.toList ++ 91 :: (t1 ++ [93, 32, 61, 32]))).length + (({ data := #[] } : ByteArray).size + t2.length + ({ data := #[59] } : ByteArray).size) ≤ 140737488355328) := Lib.hid (by
    show _ + (0 + t2.length + 1) ≤ _
    simp only [List.length_append, List.length_cons, List.length_nil] at hlen ⊢
    omega)
  have HW := Lib.hid h
  have HP := Lib.hid hp
  have HB := Lib.hid hB
  have HA := Lib.hid (around_of H1 (n ++ { data := #[91] }) { data := #[93, 32, 61, 32] } B b bs d)
  have HA2 := Lib.hid (around_of H2 { data := #[] } { data := #[59] } B b (bs ++ (n.data.toList ++ 91 :: (t1 ++ [93, 32, 61, 32]))) d)
  have HR2 := Lib.hid hr2
  have hlt := Lib.hid h.lt
  have EZ := Lib.hid ez
  clear h hp hB hlen H1 H2 hr hr2 hz ez
  go_enter Tryz.func89, Tryz.ntmps89
  go_upto_region 5 with fail
  go_cut [27] (fun _ wx => Went B b (bs ++ (n.data.toList ++ 91 :: (t1 ++ [93, 32, 61, 32]))) d w wx ∧ wx.heap[w.heap.size]? = some (.cells #[.int .i64 1, .int .i64 t, .string n, .string f, .slice (some ⟨kb, ko, none⟩) 2 ec, .slice ba 0 bc, .slice la 0 lc] 83 (0, 0)))
  case first =>
    go_region_with (go_at_call 83; have hx := HA.out _ HB.out (HW.out.went.alloc (.cells #[.int .i64 1, .int .i64 t, .string n, .string f, .slice (some ⟨kb, ko, none⟩) 2 ec, .slice ba 0 bc, .slice la 0 lc] 83)).drew.wr (HP.out.alloc _).drew L1.out; refine hx.mono ?_; clear hx; rintro e w2 ⟨rfl, g2⟩; have G2 := Lib.hid ((HW.out.went.alloc _).drew.trans g2); have X2 := Lib.hid (g2.keeps.box (show (w.alloc _).drew.heap[w.heap.size]? = _ from bk_new w _) (Nat.ne_of_gt hlt.out) (by decide)); clear g2)
    all_goals
      go_wp2_with fail
      go_meet
      refine ⟨G2.out.cast ?_, X2.out⟩
      rw [EZ.out]
      simp only [List.append_assoc, List.cons_append, List.nil_append]
  case rest =>
    obtain ⟨g2, x2⟩ := hcut
    have G2 := Lib.hid g2
    obtain ⟨c0, c1, c2, c3, c4, c5, c6⟩ := cells7 x2
    obtain ⟨s0, s1, s2, s3, s4, hkb2⟩ := row_cells HR2.out (HP.out.went HB.out g2)
    simp only [Nat.one_mul] at s0 s1 s2 s3 s4
    clear g2 x2 r0 r1 r2 r3 r4 hkb
    go_wp2_with (go_at_call 83; have hx := HA2.out _ HB.out G2.out.wr (HP.out.went HB.out G2.out) L2.out; refine hx.mono ?_; clear hx; rintro e w3 ⟨rfl, g3⟩; have G3 := Lib.hid (G2.out.trans g3); clear g3)
    go_end0
    exact ⟨rfl, G3.out.cast (by simp)⟩
set_option maxHeartbeats 4000000 in
set_option maxRecDepth 100000 in
theorem stmt_call {w0 : World} (H : Pow w0) (d : Nat) (ea : Option Addr) (ec : Nat) (l : List ET) (hl : l.length ≤ 9223372036854775807) (hin : EsIn w0 0 ea 0 l) (hr : rightEs l = true) (t : Int) (n f : ByteArray) (ba : Option Addr) (bc : Nat) (la : Option Addr) (lc : Nat) : StmtDoes w0 d (.agg #[.int .i64 3, .int .i64 t, .string n, .string f, .slice ea l.length ec, .slice ba 0 bc, .slice la 0 lc]) (n.data.toList ++ 32 :: 61 :: 32 :: (f.data.toList ++ 40 :: (putAE l ++ [41, 59]))) := by
  intro B b bs w hB h hp hlen
  have ecc : catB [n, { data := #[32, 61, 32] }, f, { data := #[40] }] = n.data.toList ++ 32 :: 61 :: 32 :: (f.data.toList ++ [40]) := by simp [catB]
  have ec2 : catB [{ data := #[41, 59] }] = [41, 59] := by simp [catB]
  have L1 : Hid (bs.length + (catB [n, { data := #[32, 61, 32] }, f, { data := #[40] }]).length ≤ 140737488355328) := Lib.hid (by rw [ecc]; simp at hlen ⊢; omega)
  have L2 : Hid ((bs ++ catB [n, { data := #[32, 61, 32] }, f, { data := #[40] }]).length + (putAE l).length ≤ 140737488355328) := Lib.hid (by rw [ecc]; simp at hlen ⊢; omega)
  have L3 : Hid (((bs ++ catB [n, { data := #[32, 61, 32] }, f, { data := #[40] }]) ++ putAE l).length + (catB [{ data := #[41, 59] }]).length ≤ 140737488355328) := Lib.hid (by rw [ecc, ec2]; simp at hlen ⊢; omega)
  have EC := Lib.hid ecc
  have EC2 := Lib.hid ec2
  have HW := Lib.hid h
  have HP := Lib.hid hp
  have HB := Lib.hid hB
  have HA := Lib.hid (list_exprs H ea ec l hl hin hr B b (bs ++ catB [n, { data := #[32, 61, 32] }, f, { data := #[40] }]) d)
  have hlt := Lib.hid h.lt
  clear h hp hB hlen hin hr ecc ec2 H
  go_enter Tryz.func89, Tryz.ntmps89
  go_wp2_with (first
    | (go_at_call 81; have hx := text_any (G2.out.wr.alloc (.cells #[.string { data := #[41, 59] }] 9)) w2.heap.size 1 [{ data := #[41, 59] }] _ (bk_new _ _) rfl (by simp) L3.out; refine hx.mono ?_; clear hx; rintro e w3 ⟨rfl, g3⟩; have G3 := Lib.hid ((G2.out.alloc _).trans g3); clear g3)
    | (go_at_call 115; have hx := HA.out _ HB.out G1.out.wr (HP.out.went HB.out G1.out) L2.out; refine hx.mono ?_; clear hx; rintro e w2 ⟨rfl, g2⟩; have G2 := Lib.hid (G1.out.trans g2); clear g2)
    | (go_at_call 81; have hx := text_any ((HW.out.alloc (.cells #[.int .i64 3, .int .i64 t, .string n, .string f, .slice ea l.length ec, .slice ba 0 bc, .slice la 0 lc] 83)).alloc (.cells #[.string n, .string { data := #[32, 61, 32] }, .string f, .string { data := #[40] }] 9)) (w.heap.size + 1) 4 [n, { data := #[32, 61, 32] }, f, { data := #[40] }] _ (bk_new' _ (by simp)) rfl (by simp) L1.out; refine hx.mono ?_; clear hx; rintro e w1 ⟨rfl, g1⟩; have G1 := Lib.hid (((HW.out.went.alloc _).alloc _).trans g1); have hbox := g1.keeps.box (bk_old _ (bk_new w _)) (Nat.ne_of_gt hlt.out) (by decide); obtain ⟨c0, c1, c2, c3, c4, c5, c6⟩ := cells7 hbox; clear g1 hbox))
  go_end0
  refine ⟨rfl, G3.out.cast ?_⟩
  rw [EC.out, EC2.out]
  simp
set_option maxHeartbeats 4000000 in
set_option maxRecDepth 100000 in
theorem stmt_whl {w0 : World} (d : Nat) {k1 : Int} {o1 : ByteArray} {n1 : Int} {m1 : ByteArray} {v1 : Value} {t1 : List UInt8} (H1 : ExprDoes w0 51 (agE k1 o1 n1 m1 v1) t1) (kb ko ec : Nat) (hr : RowAt w0 0 (some ⟨kb, ko, none⟩) 0 5 #[.int .i64 k1, .string o1, .int .i64 n1, .string m1, v1]) (t : Int) (n f : ByteArray) (ba : Option Addr) (bl bc : Nat) (la : Option Addr) (lc : Nat) {tb : List UInt8} (HS : StmtsDoes w0 (d + 1) (.slice ba bl bc) tb) : StmtDoes w0 d (.agg #[.int .i64 5, .int .i64 t, .string n, .string f, .slice (some ⟨kb, ko, none⟩) 1 ec, .slice ba bl bc, .slice la 0 lc]) ([119, 104, 105, 108, 101, 32, 40] ++ (t1 ++ 41 :: 32 :: 123 :: 10 :: (tb ++ (tabsT d ++ [125])))) := by
  intro B b bs w hB h hp hlen
  obtain ⟨r0, r1, r2, r3, r4, hkb⟩ := row_cells hr hp
  simp only [Nat.zero_mul, Nat.add_zero] at r0 r1 r2 r3 r4
  have hz := tabs_lenW d
  have L1 : Hid (bs.length + (({ data := #[119, 104, 105, 108, 101, 32, 40] } : ByteArray).size + t1.length + ({ data := #[41] } : ByteArray).size) ≤ 140737488355328) := Lib.hid (by
    show bs.length + (7 + t1.length + 1) ≤ _
    simp only [List.length_append, List.length_cons, List.length_nil] at hlen
    omega)
  have L2 : Hid ((bs ++ ([119, 104, 105, 108, 101, 32, 40] ++ (t1 ++ [41]))).length + (3 + (tb.length + (d + 1))) ≤ 140737488355328) := Lib.hid (by
    simp only [List.length_append, List.length_cons, List.length_nil] at hlen ⊢
    omega)
  have HW := Lib.hid h
  have HP := Lib.hid hp
  have HB := Lib.hid hB
  have HA := Lib.hid (around_of H1 { data := #[119, 104, 105, 108, 101, 32, 40] } { data := #[41] } B b bs d)
  have HS' := Lib.hid (block_of HS B b (bs ++ ([119, 104, 105, 108, 101, 32, 40] ++ (t1 ++ [41]))))
  have hlt := Lib.hid h.lt
  clear h hp hB hlen H1 hr hz HS
  go_enter Tryz.func89, Tryz.ntmps89
  go_wp2_with (first
    | (go_at_call 116; have hx := HS'.out _ HB.out G1.out.wr (HP.out.went HB.out G1.out) L2.out; refine hx.mono ?_; clear hx; rintro e w2 ⟨rfl, g2⟩; have G2 := Lib.hid (G1.out.trans g2); have X2 := Lib.hid (g2.keeps.box X1.out (Nat.ne_of_gt hlt.out) (by decide)); obtain ⟨p0, p1, p2, p3, p4, p5, p6⟩ := cells7 X2.out; clear g2)
    | (go_at_call 83; have hx := HA.out _ HB.out (HW.out.alloc (.cells #[.int .i64 5, .int .i64 t, .string n, .string f, .slice (some ⟨kb, ko, none⟩) 1 ec, .slice ba bl bc, .slice la 0 lc] 83)) (HP.out.alloc _) L1.out; refine hx.mono ?_; clear hx; rintro e w1 ⟨rfl, g1⟩; have G1 := Lib.hid ((HW.out.went.alloc _).trans g1); have X1 := Lib.hid (g1.keeps.box (bk_new w _) (Nat.ne_of_gt hlt.out) (by decide)); obtain ⟨c0, c1, c2, c3, c4, c5, c6⟩ := cells7 X1.out; clear g1))
  go_end0
  exact ⟨rfl, G2.out.cast (by simp)⟩
set_option maxHeartbeats 4000000 in
set_option maxRecDepth 100000 in
theorem stmt_if0 {w0 : World} (d : Nat) {k1 : Int} {o1 : ByteArray} {n1 : Int} {m1 : ByteArray} {v1 : Value} {t1 : List UInt8} (H1 : ExprDoes w0 51 (agE k1 o1 n1 m1 v1) t1) (kb ko ec : Nat) (hr : RowAt w0 0 (some ⟨kb, ko, none⟩) 0 5 #[.int .i64 k1, .string o1, .int .i64 n1, .string m1, v1]) (t : Int) (n f : ByteArray) (ba : Option Addr) (bl bc : Nat) (la : Option Addr) (lc : Nat) {tb : List UInt8} (HS : StmtsDoes w0 (d + 1) (.slice ba bl bc) tb) : StmtDoes w0 d (.agg #[.int .i64 4, .int .i64 t, .string n, .string f, .slice (some ⟨kb, ko, none⟩) 1 ec, .slice ba bl bc, .slice la 0 lc]) ([105, 102, 32, 40] ++ (t1 ++ 41 :: 32 :: 123 :: 10 :: (tb ++ (tabsT d ++ [125])))) := by
  intro B b bs w hB h hp hlen
  obtain ⟨r0, r1, r2, r3, r4, hkb⟩ := row_cells hr hp
  simp only [Nat.zero_mul, Nat.add_zero] at r0 r1 r2 r3 r4
  have hz := tabs_lenW d
  have L1 : Hid (bs.length + (({ data := #[105, 102, 32, 40] } : ByteArray).size + t1.length + ({ data := #[41] } : ByteArray).size) ≤ 140737488355328) := Lib.hid (by
    show bs.length + (4 + t1.length + 1) ≤ _
    simp only [List.length_append, List.length_cons, List.length_nil] at hlen
    omega)
  have L2 : Hid ((bs ++ ([105, 102, 32, 40] ++ (t1 ++ [41]))).length + (3 + (tb.length + (d + 1))) ≤ 140737488355328) := Lib.hid (by
    simp only [List.length_append, List.length_cons, List.length_nil] at hlen ⊢
    omega)
  have HW := Lib.hid h
  have HP := Lib.hid hp
  have HB := Lib.hid hB
  have HA := Lib.hid (around_of H1 { data := #[105, 102, 32, 40] } { data := #[41] } B b bs d)
  have HS' := Lib.hid (block_of HS B b (bs ++ ([105, 102, 32, 40] ++ (t1 ++ [41]))))
  have hlt := Lib.hid h.lt
  clear h hp hB hlen H1 hr hz HS
  go_enter Tryz.func89, Tryz.ntmps89
  go_wp2_with (first
    | (go_at_call 116; have hx := HS'.out _ HB.out G1.out.wr (HP.out.went HB.out G1.out) L2.out; refine hx.mono ?_; clear hx; rintro e w2 ⟨rfl, g2⟩; have G2 := Lib.hid (G1.out.trans g2); have X2 := Lib.hid (g2.keeps.box X1.out (Nat.ne_of_gt hlt.out) (by decide)); obtain ⟨p0, p1, p2, p3, p4, p5, p6⟩ := cells7 X2.out; clear g2)
    | (go_at_call 83; have hx := HA.out _ HB.out (HW.out.alloc (.cells #[.int .i64 4, .int .i64 t, .string n, .string f, .slice (some ⟨kb, ko, none⟩) 1 ec, .slice ba bl bc, .slice la 0 lc] 83)) (HP.out.alloc _) L1.out; refine hx.mono ?_; clear hx; rintro e w1 ⟨rfl, g1⟩; have G1 := Lib.hid ((HW.out.went.alloc _).trans g1); have X1 := Lib.hid (g1.keeps.box (bk_new w _) (Nat.ne_of_gt hlt.out) (by decide)); obtain ⟨c0, c1, c2, c3, c4, c5, c6⟩ := cells7 X1.out; clear g1))
  go_end0
  exact ⟨rfl, G2.out.cast (by simp)⟩
set_option maxHeartbeats 4000000 in
set_option maxRecDepth 100000 in
theorem stmt_if1 {w0 : World} (d : Nat) {k1 : Int} {o1 : ByteArray} {n1 : Int} {m1 : ByteArray} {v1 : Value} {t1 : List UInt8} (H1 : ExprDoes w0 51 (agE k1 o1 n1 m1 v1) t1) (kb ko ec : Nat) (hr : RowAt w0 0 (some ⟨kb, ko, none⟩) 0 5 #[.int .i64 k1, .string o1, .int .i64 n1, .string m1, v1]) (t : Int) (n f : ByteArray) (ba : Option Addr) (bl bc : Nat) (la : Option Addr) (ll lc : Nat) {tb : List UInt8} (HS : StmtsDoes w0 (d + 1) (.slice ba bl bc) tb) {te : List UInt8} (HS2 : StmtsDoes w0 (d + 1) (.slice la ll lc) te) (hll : 0 < ll) : StmtDoes w0 d (.agg #[.int .i64 4, .int .i64 t, .string n, .string f, .slice (some ⟨kb, ko, none⟩) 1 ec, .slice ba bl bc, .slice la ll lc]) ([105, 102, 32, 40] ++ (t1 ++ 41 :: 32 :: 123 :: 10 :: (tb ++ (tabsT d ++ 125 :: 32 :: 101 :: 108 :: 115 :: 101 :: 32 :: 123 :: 10 :: (te ++ (tabsT d ++ [125])))))) := by
  intro B b bs w hB h hp hlen
  obtain ⟨r0, r1, r2, r3, r4, hkb⟩ := row_cells hr hp
  simp only [Nat.zero_mul, Nat.add_zero] at r0 r1 r2 r3 r4
  have hz := tabs_lenW d
  have L1 : Hid (bs.length + (({ data := #[105, 102, 32, 40] } : ByteArray).size + t1.length + ({ data := #[41] } : ByteArray).size) ≤ 140737488355328) := Lib.hid (by
    show bs.length + (4 + t1.length + 1) ≤ _
    simp only [List.length_append, List.length_cons, List.length_nil] at hlen
    omega)
  have L2 : Hid ((bs ++ ([105, 102, 32, 40] ++ (t1 ++ [41]))).length + (3 + (tb.length + (d + 1))) ≤ 140737488355328) := Lib.hid (by
    simp only [List.length_append, List.length_cons, List.length_nil] at hlen ⊢
    omega)
  have ecc : catB [{ data := #[32, 101, 108, 115, 101] }] = [32, 101, 108, 115, 101] := by simp [catB]
  have L3 : Hid (((bs ++ ([105, 102, 32, 40] ++ (t1 ++ [41]))) ++ 32 :: 123 :: 10 :: (tb ++ (tabsT d ++ [125]))).length + (catB [{ data := #[32, 101, 108, 115, 101] }]).length ≤ 140737488355328) := Lib.hid (by
    rw [ecc]
    simp only [List.length_append, List.length_cons, List.length_nil] at hlen ⊢
    omega)
  have L4 : Hid ((((bs ++ ([105, 102, 32, 40] ++ (t1 ++ [41]))) ++ 32 :: 123 :: 10 :: (tb ++ (tabsT d ++ [125]))) ++ catB [{ data := #[32, 101, 108, 115, 101] }]).length + (3 + (te.length + (d + 1))) ≤ 140737488355328) := Lib.hid (by
    rw [ecc]
    simp only [List.length_append, List.length_cons, List.length_nil] at hlen ⊢
    omega)
  have hpos : decide ((0 : Int) < (ll : Int)) = true := decide_eq_true (by omega)
  have EC := Lib.hid ecc
  have HS2' := Lib.hid (block_of HS2 B b (((bs ++ ([105, 102, 32, 40] ++ (t1 ++ [41]))) ++ 32 :: 123 :: 10 :: (tb ++ (tabsT d ++ [125]))) ++ catB [{ data := #[32, 101, 108, 115, 101] }]))
  clear ecc HS2
  have HW := Lib.hid h
  have HP := Lib.hid hp
  have HB := Lib.hid hB
  have HA := Lib.hid (around_of H1 { data := #[105, 102, 32, 40] } { data := #[41] } B b bs d)
  have HS' := Lib.hid (block_of HS B b (bs ++ ([105, 102, 32, 40] ++ (t1 ++ [41]))))
  have hlt := Lib.hid h.lt
  clear h hp hB hlen H1 hr hz HS
  go_enter Tryz.func89, Tryz.ntmps89
  go_wp2_with (first
    | (go_at_call 116; have hx := HS2'.out _ HB.out G3.out.wr (HP.out.went HB.out G3.out) L4.out; refine hx.mono ?_; clear hx; rintro e w4 ⟨rfl, g4⟩; have G4 := Lib.hid (G3.out.trans g4); clear g4)
    | (go_at_call 81; have hx := text_any (G2.out.wr.alloc (.cells #[.string { data := #[32, 101, 108, 115, 101] }] 9)) w2.heap.size 1 [{ data := #[32, 101, 108, 115, 101] }] _ (bk_new _ _) rfl (by simp) L3.out; refine hx.mono ?_; clear hx; rintro e w3 ⟨rfl, g3⟩; have G3 := Lib.hid ((G2.out.alloc _).trans g3); have X3 := Lib.hid (g3.keeps.box (bk_old _ X2.out) (Nat.ne_of_gt hlt.out) (by decide)); obtain ⟨q0, q1, q2, q3, q4, q5, q6⟩ := cells7 X3.out; clear g3)
    | (go_at_call 116; have hx := HS'.out _ HB.out G1.out.wr (HP.out.went HB.out G1.out) L2.out; refine hx.mono ?_; clear hx; rintro e w2 ⟨rfl, g2⟩; have G2 := Lib.hid (G1.out.trans g2); have X2 := Lib.hid (g2.keeps.box X1.out (Nat.ne_of_gt hlt.out) (by decide)); obtain ⟨p0, p1, p2, p3, p4, p5, p6⟩ := cells7 X2.out; clear g2)
    | (go_at_call 83; have hx := HA.out _ HB.out (HW.out.alloc (.cells #[.int .i64 4, .int .i64 t, .string n, .string f, .slice (some ⟨kb, ko, none⟩) 1 ec, .slice ba bl bc, .slice la ll lc] 83)) (HP.out.alloc _) L1.out; refine hx.mono ?_; clear hx; rintro e w1 ⟨rfl, g1⟩; have G1 := Lib.hid ((HW.out.went.alloc _).trans g1); have X1 := Lib.hid (g1.keeps.box (bk_new w _) (Nat.ne_of_gt hlt.out) (by decide)); obtain ⟨c0, c1, c2, c3, c4, c5, c6⟩ := cells7 X1.out; clear g1))
  go_end0
  refine ⟨rfl, G4.out.cast ?_⟩
  rw [EC.out]
  simp
end Go.Proofs.YtppeogcpoplpeaaGreatDoor
