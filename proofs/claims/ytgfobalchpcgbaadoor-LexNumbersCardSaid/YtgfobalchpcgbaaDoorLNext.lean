/- lex's word: the word that comes next, at every byte. -/
import Derived.Test.YtgfobalchpcgbaaDoorLWord
set_option linter.unusedSimpArgs false
set_option linter.unusedVariables false
namespace Go.Proofs.YtgfobalchpcgbaaDoor
open Go Go.RowKit

section
variable {w : World} {R : Nat} {s : ByteArray} {k : Nat} {SH SG cap : Nat}
theorem Reader.al {p : Int} (h : Reader w R s p SH SG cap) (o : Obj) : Reader (w.alloc o) R s p SH SG cap := h.on ((Below.refl _ _).alloc (Nat.le_refl _) o)
theorem took_some {f : Nat} {a : Array Value} {kd len n : Nat} (h : Calls Tryd.prog f a w (Took s k (some (kd, len, n)) w)) :
    Calls Tryd.prog f a w fun e w' => e = .returned (.tuple #[.agg #[.int .i64 kd, .string ⟨((rest s k).data.toList.take len).toArray⟩, .int .u64 n, .int .i64 k], .bool true]) ∧ Below w.heap.size w w' := h.mono fun _ _ ⟨a, b⟩ => ⟨b, a⟩
theorem took_none {f : Nat} {a : Array Value} (h : Calls Tryd.prog f a w (Took s k none w)) :
    Calls Tryd.prog f a w fun e w' => e = .returned (.tuple #[.agg #[.int .i64 0, .string ⟨#[]⟩, .int .u64 0, .int .i64 0], .bool false]) ∧ Below w.heap.size w w' := h.mono fun _ _ ⟨a, b⟩ => ⟨b, a⟩
/-- In the world of a round of word: the reader, the result's cell, the errors. -/
structure Mid (w wr : World) (R : Nat) (s : ByteArray) (k SH SG cap : Nat) : Prop where
  past : Past (w.alloc tok0) wr
  rd : Reader wr R s k SH SG cap
  er : Errs wr
theorem Mid.on {wr w2 : World} (h : Mid w wr R s k SH SG cap) (hb : Below wr.heap.size wr w2) : Mid w w2 R s k SH SG cap :=
  ⟨h.past.on hb, h.rd.on hb, h.er.on hb⟩
theorem Mid.step {wr : World} (h : Mid w wr R s k SH SG cap) (o : Obj) (n : Nat) : Mid w ((wr.alloc o).drewN n) R s k SH SG cap := h.on (bel_ad wr o n)
theorem Mid.tok {wr : World} (h : Mid w wr R s k SH SG cap) : wr.heap[w.heap.size]? = some tok0 := (h.past.block _ (by simp)).trans (bk_new w _)
theorem Mid.below {wr : World} (h : Mid w wr R s k SH SG cap) : Below w.heap.size w wr := ((Below.refl _ _).alloc (Nat.le_refl _) tok0).trans (h.past.mono (by simp))
theorem rest_cons (hk : k < s.size) : (rest s k).data.toList = s[k] :: (rest s (k + 1)).data.toList := by
  rw [rest_data, rest_data]
  exact List.drop_eq_getElem_cons (by simpa using hk)
set_option maxRecDepth 100000 in
set_option maxHeartbeats 2000000 in
theorem word_letter (hr : Reader w R s k SH SG cap) (hk : k < s.size) (H : Errs w) (o : Option (Nat × Nat × Nat)) (h0 : ltI (s[k].toNat : Int) = true)
    (htake : ∀ w', Reader w' R s k SH SG cap → Errs w' → Calls Tryd.prog 24 #[me R] w' (Took s k o w')) :
    Calls Tryd.prog 17 #[me R] w (Took s k o w) := by
  have HM := Lib.hid (Mid.mk (Past.refl (w.alloc tok0)) (hr.al tok0) (H.on ((Past.refl w).alloc tok0)))
  have HK := Lib.hid hk
  have hlt := lt_of_block hr.blk
  have c2 := HM.out.rd.c2
  have HT := Lib.hid htake
  clear hr H htake
  unfold me
  cases o with
  | none =>
    go_enter Tryd.func17, Tryd.ntmps17
    go_wp2
    go_loopw [11] (fun i wr => ∃ j : Nat, j ≤ 0 ∧ i = .int .i64 j ∧ Mid w wr R s k SH SG cap) (fun i _ => 5 - (intOf i).toNat)
    case atStart => exact ⟨0, by omega, rfl, HM.out⟩
    case round =>
      clear c2
      obtain ⟨j, hj, rfl, hmid⟩ := hrel
      have HMI := Lib.hid hmid
      have hjc : j = 0 := by omega
      have s0 := bk_cell (k := 0) hmid.rd.shp rfl
      have s1 := bk_cell (k := 1) hmid.rd.shp rfl
      have s2 := bk_cell (k := 2) hmid.rd.shp rfl
      have s3 := bk_cell (k := 3) hmid.rd.shp rfl
      have s4 := bk_cell (k := 4) hmid.rd.shp rfl
      have s5 := bk_cell (k := 5) hmid.rd.shp rfl
      have s6 := bk_cell (k := 6) hmid.rd.shp rfl
      have s7 := bk_cell (k := 7) hmid.rd.shp rfl
      have q0 := bk_cell (k := 0) hmid.tok rfl
      have q1 := bk_cell (k := 1) hmid.tok rfl
      have q2 := bk_cell (k := 2) hmid.tok rfl
      have q3 := bk_cell (k := 3) hmid.tok rfl
      have f0 := bk_free (k := 0) hmid.tok
      have f1 := bk_free (k := 1) hmid.tok
      have f2 := bk_free (k := 2) hmid.tok
      have f3 := bk_free (k := 3) hmid.tok
      have z0 := lt_of_block hmid.tok
      clear hmid hj
      unfold me at s0 s1 s2 s3 s4 s5 s6 s7
      rcases hjc with rfl
      · go_wp2_with (first
          | (go_at_call 23; refine (atLetter_any (HMI.out.rd.al _) HK.out).mono ?_; rintro e w' ⟨rfl, n, rfl⟩)
          | (go_at_call 24; refine (took_none (HT.out _ (HMI.out.step _ _).rd (HMI.out.step _ _).er)).mono ?_; rintro e w2 ⟨rfl, hb⟩; have HM2 := Lib.hid ((HMI.out.step _ _).on hb); have q0' := bk_cell (k := 0) HM2.out.tok rfl; have q1' := bk_cell (k := 1) HM2.out.tok rfl; have q2' := bk_cell (k := 2) HM2.out.tok rfl; have q3' := bk_cell (k := 3) HM2.out.tok rfl; have f0' := bk_free (k := 0) HM2.out.tok; have f1' := bk_free (k := 1) HM2.out.tok; have f2' := bk_free (k := 2) HM2.out.tok; have f3' := bk_free (k := 3) HM2.out.tok; clear hb))
        exact bodyPost_ret (v := (.tuple #[zeroV, .bool false])) (by simp [results, Tryd.results17, zeroV, tokV, go_sem, q0', q1', q2', q3']) rfl ⟨set4 HM2.out.below _ _ _ _, rfl⟩

  | some x =>
    obtain ⟨kd, len, u⟩ := x
    go_enter Tryd.func17, Tryd.ntmps17
    go_wp2
    go_loopw [11] (fun i wr => ∃ j : Nat, j ≤ 0 ∧ i = .int .i64 j ∧ Mid w wr R s k SH SG cap) (fun i _ => 5 - (intOf i).toNat)
    case atStart => exact ⟨0, by omega, rfl, HM.out⟩
    case round =>
      clear c2
      obtain ⟨j, hj, rfl, hmid⟩ := hrel
      have HMI := Lib.hid hmid
      have hjc : j = 0 := by omega
      have s0 := bk_cell (k := 0) hmid.rd.shp rfl
      have s1 := bk_cell (k := 1) hmid.rd.shp rfl
      have s2 := bk_cell (k := 2) hmid.rd.shp rfl
      have s3 := bk_cell (k := 3) hmid.rd.shp rfl
      have s4 := bk_cell (k := 4) hmid.rd.shp rfl
      have s5 := bk_cell (k := 5) hmid.rd.shp rfl
      have s6 := bk_cell (k := 6) hmid.rd.shp rfl
      have s7 := bk_cell (k := 7) hmid.rd.shp rfl
      have q0 := bk_cell (k := 0) hmid.tok rfl
      have q1 := bk_cell (k := 1) hmid.tok rfl
      have q2 := bk_cell (k := 2) hmid.tok rfl
      have q3 := bk_cell (k := 3) hmid.tok rfl
      have f0 := bk_free (k := 0) hmid.tok
      have f1 := bk_free (k := 1) hmid.tok
      have f2 := bk_free (k := 2) hmid.tok
      have f3 := bk_free (k := 3) hmid.tok
      have z0 := lt_of_block hmid.tok
      clear hmid hj
      unfold me at s0 s1 s2 s3 s4 s5 s6 s7
      rcases hjc with rfl
      · go_wp2_with (first
          | (go_at_call 23; refine (atLetter_any (HMI.out.rd.al _) HK.out).mono ?_; rintro e w' ⟨rfl, n, rfl⟩)
          | (go_at_call 24; refine (took_some (HT.out _ (HMI.out.step _ _).rd (HMI.out.step _ _).er)).mono ?_; rintro e w2 ⟨rfl, hb⟩; have HM2 := Lib.hid ((HMI.out.step _ _).on hb); have q0' := bk_cell (k := 0) HM2.out.tok rfl; have q1' := bk_cell (k := 1) HM2.out.tok rfl; have q2' := bk_cell (k := 2) HM2.out.tok rfl; have q3' := bk_cell (k := 3) HM2.out.tok rfl; have f0' := bk_free (k := 0) HM2.out.tok; have f1' := bk_free (k := 1) HM2.out.tok; have f2' := bk_free (k := 2) HM2.out.tok; have f3' := bk_free (k := 3) HM2.out.tok; clear hb))
        exact bodyPost_ret (v := (.tuple #[tokV kd ⟨((rest s k).data.toList.take len).toArray⟩ u k, .bool true])) (by simp [results, Tryd.results17, zeroV, tokV, go_sem, q0', q1', q2', q3']) rfl ⟨set4 HM2.out.below _ _ _ _, rfl⟩


set_option maxRecDepth 100000 in
set_option maxHeartbeats 2000000 in
theorem word_digit (hr : Reader w R s k SH SG cap) (hk : k < s.size) (H : Errs w) (o : Option (Nat × Nat × Nat)) (h0 : ltI (s[k].toNat : Int) = false) (h1 : dgI (s[k].toNat : Int) = true)
    (htake : ∀ w', Reader w' R s k SH SG cap → Errs w' → Calls Tryd.prog 26 #[me R] w' (Took s k o w')) :
    Calls Tryd.prog 17 #[me R] w (Took s k o w) := by
  have HM := Lib.hid (Mid.mk (Past.refl (w.alloc tok0)) (hr.al tok0) (H.on ((Past.refl w).alloc tok0)))
  have HK := Lib.hid hk
  have hlt := lt_of_block hr.blk
  have c2 := HM.out.rd.c2
  have HT := Lib.hid htake
  clear hr H htake
  unfold me
  cases o with
  | none =>
    go_enter Tryd.func17, Tryd.ntmps17
    go_wp2
    go_loopw [11] (fun i wr => ∃ j : Nat, j ≤ 1 ∧ i = .int .i64 j ∧ Mid w wr R s k SH SG cap) (fun i _ => 5 - (intOf i).toNat)
    case atStart => exact ⟨0, by omega, rfl, HM.out⟩
    case round =>
      clear c2
      obtain ⟨j, hj, rfl, hmid⟩ := hrel
      have HMI := Lib.hid hmid
      have hjc : j = 0 ∨ j = 1 := by omega
      have s0 := bk_cell (k := 0) hmid.rd.shp rfl
      have s1 := bk_cell (k := 1) hmid.rd.shp rfl
      have s2 := bk_cell (k := 2) hmid.rd.shp rfl
      have s3 := bk_cell (k := 3) hmid.rd.shp rfl
      have s4 := bk_cell (k := 4) hmid.rd.shp rfl
      have s5 := bk_cell (k := 5) hmid.rd.shp rfl
      have s6 := bk_cell (k := 6) hmid.rd.shp rfl
      have s7 := bk_cell (k := 7) hmid.rd.shp rfl
      have q0 := bk_cell (k := 0) hmid.tok rfl
      have q1 := bk_cell (k := 1) hmid.tok rfl
      have q2 := bk_cell (k := 2) hmid.tok rfl
      have q3 := bk_cell (k := 3) hmid.tok rfl
      have f0 := bk_free (k := 0) hmid.tok
      have f1 := bk_free (k := 1) hmid.tok
      have f2 := bk_free (k := 2) hmid.tok
      have f3 := bk_free (k := 3) hmid.tok
      have z0 := lt_of_block hmid.tok
      clear hmid hj
      unfold me at s0 s1 s2 s3 s4 s5 s6 s7
      rcases hjc with rfl | rfl
      · go_wp2_with (go_at_call 23; refine (atLetter_any (HMI.out.rd.al _) HK.out).mono ?_; rintro e w' ⟨rfl, n, rfl⟩)
        go_roundw
        case rel => exact ⟨1, by omega, by first | rfl | go_num, HMI.out.step _ _⟩
        case measure => simp [intOf]
      · go_wp2_with (first
          | (go_at_call 25; refine (atDigit_any (HMI.out.rd.al _) HK.out).mono ?_; rintro e w' ⟨rfl, n, rfl⟩)
          | (go_at_call 26; refine (took_none (HT.out _ (HMI.out.step _ _).rd (HMI.out.step _ _).er)).mono ?_; rintro e w2 ⟨rfl, hb⟩; have HM2 := Lib.hid ((HMI.out.step _ _).on hb); have q0' := bk_cell (k := 0) HM2.out.tok rfl; have q1' := bk_cell (k := 1) HM2.out.tok rfl; have q2' := bk_cell (k := 2) HM2.out.tok rfl; have q3' := bk_cell (k := 3) HM2.out.tok rfl; have f0' := bk_free (k := 0) HM2.out.tok; have f1' := bk_free (k := 1) HM2.out.tok; have f2' := bk_free (k := 2) HM2.out.tok; have f3' := bk_free (k := 3) HM2.out.tok; clear hb))
        exact bodyPost_ret (v := (.tuple #[zeroV, .bool false])) (by simp [results, Tryd.results17, zeroV, tokV, go_sem, q0', q1', q2', q3']) rfl ⟨set4 HM2.out.below _ _ _ _, rfl⟩

  | some x =>
    obtain ⟨kd, len, u⟩ := x
    go_enter Tryd.func17, Tryd.ntmps17
    go_wp2
    go_loopw [11] (fun i wr => ∃ j : Nat, j ≤ 1 ∧ i = .int .i64 j ∧ Mid w wr R s k SH SG cap) (fun i _ => 5 - (intOf i).toNat)
    case atStart => exact ⟨0, by omega, rfl, HM.out⟩
    case round =>
      clear c2
      obtain ⟨j, hj, rfl, hmid⟩ := hrel
      have HMI := Lib.hid hmid
      have hjc : j = 0 ∨ j = 1 := by omega
      have s0 := bk_cell (k := 0) hmid.rd.shp rfl
      have s1 := bk_cell (k := 1) hmid.rd.shp rfl
      have s2 := bk_cell (k := 2) hmid.rd.shp rfl
      have s3 := bk_cell (k := 3) hmid.rd.shp rfl
      have s4 := bk_cell (k := 4) hmid.rd.shp rfl
      have s5 := bk_cell (k := 5) hmid.rd.shp rfl
      have s6 := bk_cell (k := 6) hmid.rd.shp rfl
      have s7 := bk_cell (k := 7) hmid.rd.shp rfl
      have q0 := bk_cell (k := 0) hmid.tok rfl
      have q1 := bk_cell (k := 1) hmid.tok rfl
      have q2 := bk_cell (k := 2) hmid.tok rfl
      have q3 := bk_cell (k := 3) hmid.tok rfl
      have f0 := bk_free (k := 0) hmid.tok
      have f1 := bk_free (k := 1) hmid.tok
      have f2 := bk_free (k := 2) hmid.tok
      have f3 := bk_free (k := 3) hmid.tok
      have z0 := lt_of_block hmid.tok
      clear hmid hj
      unfold me at s0 s1 s2 s3 s4 s5 s6 s7
      rcases hjc with rfl | rfl
      · go_wp2_with (go_at_call 23; refine (atLetter_any (HMI.out.rd.al _) HK.out).mono ?_; rintro e w' ⟨rfl, n, rfl⟩)
        go_roundw
        case rel => exact ⟨1, by omega, by first | rfl | go_num, HMI.out.step _ _⟩
        case measure => simp [intOf]
      · go_wp2_with (first
          | (go_at_call 25; refine (atDigit_any (HMI.out.rd.al _) HK.out).mono ?_; rintro e w' ⟨rfl, n, rfl⟩)
          | (go_at_call 26; refine (took_some (HT.out _ (HMI.out.step _ _).rd (HMI.out.step _ _).er)).mono ?_; rintro e w2 ⟨rfl, hb⟩; have HM2 := Lib.hid ((HMI.out.step _ _).on hb); have q0' := bk_cell (k := 0) HM2.out.tok rfl; have q1' := bk_cell (k := 1) HM2.out.tok rfl; have q2' := bk_cell (k := 2) HM2.out.tok rfl; have q3' := bk_cell (k := 3) HM2.out.tok rfl; have f0' := bk_free (k := 0) HM2.out.tok; have f1' := bk_free (k := 1) HM2.out.tok; have f2' := bk_free (k := 2) HM2.out.tok; have f3' := bk_free (k := 3) HM2.out.tok; clear hb))
        exact bodyPost_ret (v := (.tuple #[tokV kd ⟨((rest s k).data.toList.take len).toArray⟩ u k, .bool true])) (by simp [results, Tryd.results17, zeroV, tokV, go_sem, q0', q1', q2', q3']) rfl ⟨set4 HM2.out.below _ _ _ _, rfl⟩


set_option maxRecDepth 100000 in
set_option maxHeartbeats 2000000 in
theorem word_tag (hr : Reader w R s k SH SG cap) (hk : k < s.size) (H : Errs w) (o : Option (Nat × Nat × Nat)) (h0 : ltI (s[k].toNat : Int) = false) (h1 : dgI (s[k].toNat : Int) = false) (h2 : ((s[k].toNat : Int) == 64) = true)
    (htake : ∀ w', Reader w' R s k SH SG cap → Errs w' → Calls Tryd.prog 28 #[me R] w' (Took s k o w')) :
    Calls Tryd.prog 17 #[me R] w (Took s k o w) := by
  have HM := Lib.hid (Mid.mk (Past.refl (w.alloc tok0)) (hr.al tok0) (H.on ((Past.refl w).alloc tok0)))
  have HK := Lib.hid hk
  have hlt := lt_of_block hr.blk
  have c2 := HM.out.rd.c2
  have HT := Lib.hid htake
  clear hr H htake
  unfold me
  cases o with
  | none =>
    go_enter Tryd.func17, Tryd.ntmps17
    go_wp2
    go_loopw [11] (fun i wr => ∃ j : Nat, j ≤ 2 ∧ i = .int .i64 j ∧ Mid w wr R s k SH SG cap) (fun i _ => 5 - (intOf i).toNat)
    case atStart => exact ⟨0, by omega, rfl, HM.out⟩
    case round =>
      clear c2
      obtain ⟨j, hj, rfl, hmid⟩ := hrel
      have HMI := Lib.hid hmid
      have hjc : j = 0 ∨ j = 1 ∨ j = 2 := by omega
      have s0 := bk_cell (k := 0) hmid.rd.shp rfl
      have s1 := bk_cell (k := 1) hmid.rd.shp rfl
      have s2 := bk_cell (k := 2) hmid.rd.shp rfl
      have s3 := bk_cell (k := 3) hmid.rd.shp rfl
      have s4 := bk_cell (k := 4) hmid.rd.shp rfl
      have s5 := bk_cell (k := 5) hmid.rd.shp rfl
      have s6 := bk_cell (k := 6) hmid.rd.shp rfl
      have s7 := bk_cell (k := 7) hmid.rd.shp rfl
      have q0 := bk_cell (k := 0) hmid.tok rfl
      have q1 := bk_cell (k := 1) hmid.tok rfl
      have q2 := bk_cell (k := 2) hmid.tok rfl
      have q3 := bk_cell (k := 3) hmid.tok rfl
      have f0 := bk_free (k := 0) hmid.tok
      have f1 := bk_free (k := 1) hmid.tok
      have f2 := bk_free (k := 2) hmid.tok
      have f3 := bk_free (k := 3) hmid.tok
      have z0 := lt_of_block hmid.tok
      clear hmid hj
      unfold me at s0 s1 s2 s3 s4 s5 s6 s7
      rcases hjc with rfl | rfl | rfl
      · go_wp2_with (go_at_call 23; refine (atLetter_any (HMI.out.rd.al _) HK.out).mono ?_; rintro e w' ⟨rfl, n, rfl⟩)
        go_roundw
        case rel => exact ⟨1, by omega, by first | rfl | go_num, HMI.out.step _ _⟩
        case measure => simp [intOf]
      · go_wp2_with (go_at_call 25; refine (atDigit_any (HMI.out.rd.al _) HK.out).mono ?_; rintro e w' ⟨rfl, n, rfl⟩)
        go_roundw
        case rel => exact ⟨2, by omega, by first | rfl | go_num, HMI.out.step _ _⟩
        case measure => simp [intOf]
      · go_wp2_with (first
          | (go_at_call 27; refine (atTag_any (HMI.out.rd.al _) HK.out).mono ?_; rintro e w' ⟨rfl, n, rfl⟩)
          | (go_at_call 28; refine (took_none (HT.out _ (HMI.out.step _ _).rd (HMI.out.step _ _).er)).mono ?_; rintro e w2 ⟨rfl, hb⟩; have HM2 := Lib.hid ((HMI.out.step _ _).on hb); have q0' := bk_cell (k := 0) HM2.out.tok rfl; have q1' := bk_cell (k := 1) HM2.out.tok rfl; have q2' := bk_cell (k := 2) HM2.out.tok rfl; have q3' := bk_cell (k := 3) HM2.out.tok rfl; have f0' := bk_free (k := 0) HM2.out.tok; have f1' := bk_free (k := 1) HM2.out.tok; have f2' := bk_free (k := 2) HM2.out.tok; have f3' := bk_free (k := 3) HM2.out.tok; clear hb))
        exact bodyPost_ret (v := (.tuple #[zeroV, .bool false])) (by simp [results, Tryd.results17, zeroV, tokV, go_sem, q0', q1', q2', q3']) rfl ⟨set4 HM2.out.below _ _ _ _, rfl⟩

  | some x =>
    obtain ⟨kd, len, u⟩ := x
    go_enter Tryd.func17, Tryd.ntmps17
    go_wp2
    go_loopw [11] (fun i wr => ∃ j : Nat, j ≤ 2 ∧ i = .int .i64 j ∧ Mid w wr R s k SH SG cap) (fun i _ => 5 - (intOf i).toNat)
    case atStart => exact ⟨0, by omega, rfl, HM.out⟩
    case round =>
      clear c2
      obtain ⟨j, hj, rfl, hmid⟩ := hrel
      have HMI := Lib.hid hmid
      have hjc : j = 0 ∨ j = 1 ∨ j = 2 := by omega
      have s0 := bk_cell (k := 0) hmid.rd.shp rfl
      have s1 := bk_cell (k := 1) hmid.rd.shp rfl
      have s2 := bk_cell (k := 2) hmid.rd.shp rfl
      have s3 := bk_cell (k := 3) hmid.rd.shp rfl
      have s4 := bk_cell (k := 4) hmid.rd.shp rfl
      have s5 := bk_cell (k := 5) hmid.rd.shp rfl
      have s6 := bk_cell (k := 6) hmid.rd.shp rfl
      have s7 := bk_cell (k := 7) hmid.rd.shp rfl
      have q0 := bk_cell (k := 0) hmid.tok rfl
      have q1 := bk_cell (k := 1) hmid.tok rfl
      have q2 := bk_cell (k := 2) hmid.tok rfl
      have q3 := bk_cell (k := 3) hmid.tok rfl
      have f0 := bk_free (k := 0) hmid.tok
      have f1 := bk_free (k := 1) hmid.tok
      have f2 := bk_free (k := 2) hmid.tok
      have f3 := bk_free (k := 3) hmid.tok
      have z0 := lt_of_block hmid.tok
      clear hmid hj
      unfold me at s0 s1 s2 s3 s4 s5 s6 s7
      rcases hjc with rfl | rfl | rfl
      · go_wp2_with (go_at_call 23; refine (atLetter_any (HMI.out.rd.al _) HK.out).mono ?_; rintro e w' ⟨rfl, n, rfl⟩)
        go_roundw
        case rel => exact ⟨1, by omega, by first | rfl | go_num, HMI.out.step _ _⟩
        case measure => simp [intOf]
      · go_wp2_with (go_at_call 25; refine (atDigit_any (HMI.out.rd.al _) HK.out).mono ?_; rintro e w' ⟨rfl, n, rfl⟩)
        go_roundw
        case rel => exact ⟨2, by omega, by first | rfl | go_num, HMI.out.step _ _⟩
        case measure => simp [intOf]
      · go_wp2_with (first
          | (go_at_call 27; refine (atTag_any (HMI.out.rd.al _) HK.out).mono ?_; rintro e w' ⟨rfl, n, rfl⟩)
          | (go_at_call 28; refine (took_some (HT.out _ (HMI.out.step _ _).rd (HMI.out.step _ _).er)).mono ?_; rintro e w2 ⟨rfl, hb⟩; have HM2 := Lib.hid ((HMI.out.step _ _).on hb); have q0' := bk_cell (k := 0) HM2.out.tok rfl; have q1' := bk_cell (k := 1) HM2.out.tok rfl; have q2' := bk_cell (k := 2) HM2.out.tok rfl; have q3' := bk_cell (k := 3) HM2.out.tok rfl; have f0' := bk_free (k := 0) HM2.out.tok; have f1' := bk_free (k := 1) HM2.out.tok; have f2' := bk_free (k := 2) HM2.out.tok; have f3' := bk_free (k := 3) HM2.out.tok; clear hb))
        exact bodyPost_ret (v := (.tuple #[tokV kd ⟨((rest s k).data.toList.take len).toArray⟩ u k, .bool true])) (by simp [results, Tryd.results17, zeroV, tokV, go_sem, q0', q1', q2', q3']) rfl ⟨set4 HM2.out.below _ _ _ _, rfl⟩


set_option maxRecDepth 100000 in
set_option maxHeartbeats 2000000 in
theorem word_sign (hr : Reader w R s k SH SG cap) (hk : k < s.size) (H : Errs w) (o : Option (Nat × Nat × Nat)) (h0 : ltI (s[k].toNat : Int) = false) (h1 : dgI (s[k].toNat : Int) = false) (h2 : ((s[k].toNat : Int) == 64) = false) (HL : Hid (longest (rest s k).data.toList ≠ []))
    (htake : ∀ w', Reader w' R s k SH SG cap → Errs w' → Calls Tryd.prog 30 #[me R] w' (Took s k o w')) :
    Calls Tryd.prog 17 #[me R] w (Took s k o w) := by
  have HM := Lib.hid (Mid.mk (Past.refl (w.alloc tok0)) (hr.al tok0) (H.on ((Past.refl w).alloc tok0)))
  have HK := Lib.hid hk
  have hlt := lt_of_block hr.blk
  have c2 := HM.out.rd.c2
  have HT := Lib.hid htake
  clear hr H htake
  unfold me
  cases o with
  | none =>
    go_enter Tryd.func17, Tryd.ntmps17
    go_wp2
    go_loopw [11] (fun i wr => ∃ j : Nat, j ≤ 3 ∧ i = .int .i64 j ∧ Mid w wr R s k SH SG cap) (fun i _ => 5 - (intOf i).toNat)
    case atStart => exact ⟨0, by omega, rfl, HM.out⟩
    case round =>
      clear c2
      obtain ⟨j, hj, rfl, hmid⟩ := hrel
      have HMI := Lib.hid hmid
      have hjc : j = 0 ∨ j = 1 ∨ j = 2 ∨ j = 3 := by omega
      have s0 := bk_cell (k := 0) hmid.rd.shp rfl
      have s1 := bk_cell (k := 1) hmid.rd.shp rfl
      have s2 := bk_cell (k := 2) hmid.rd.shp rfl
      have s3 := bk_cell (k := 3) hmid.rd.shp rfl
      have s4 := bk_cell (k := 4) hmid.rd.shp rfl
      have s5 := bk_cell (k := 5) hmid.rd.shp rfl
      have s6 := bk_cell (k := 6) hmid.rd.shp rfl
      have s7 := bk_cell (k := 7) hmid.rd.shp rfl
      have q0 := bk_cell (k := 0) hmid.tok rfl
      have q1 := bk_cell (k := 1) hmid.tok rfl
      have q2 := bk_cell (k := 2) hmid.tok rfl
      have q3 := bk_cell (k := 3) hmid.tok rfl
      have f0 := bk_free (k := 0) hmid.tok
      have f1 := bk_free (k := 1) hmid.tok
      have f2 := bk_free (k := 2) hmid.tok
      have f3 := bk_free (k := 3) hmid.tok
      have z0 := lt_of_block hmid.tok
      clear hmid hj
      unfold me at s0 s1 s2 s3 s4 s5 s6 s7
      rcases hjc with rfl | rfl | rfl | rfl
      · go_wp2_with (go_at_call 23; refine (atLetter_any (HMI.out.rd.al _) HK.out).mono ?_; rintro e w' ⟨rfl, n, rfl⟩)
        go_roundw
        case rel => exact ⟨1, by omega, by first | rfl | go_num, HMI.out.step _ _⟩
        case measure => simp [intOf]
      · go_wp2_with (go_at_call 25; refine (atDigit_any (HMI.out.rd.al _) HK.out).mono ?_; rintro e w' ⟨rfl, n, rfl⟩)
        go_roundw
        case rel => exact ⟨2, by omega, by first | rfl | go_num, HMI.out.step _ _⟩
        case measure => simp [intOf]
      · go_wp2_with (go_at_call 27; refine (atTag_any (HMI.out.rd.al _) HK.out).mono ?_; rintro e w' ⟨rfl, n, rfl⟩)
        go_roundw
        case rel => exact ⟨3, by omega, by first | rfl | go_num, HMI.out.step _ _⟩
        case measure => simp [intOf]
      · go_wp2_with (first
          | (go_at_call 29; refine (atSign_yes (HMI.out.rd.al _) (Nat.le_of_lt HK.out) HL.out).mono ?_; rintro e w' ⟨rfl, n, rfl⟩)
          | (go_at_call 30; refine (took_none (HT.out _ (HMI.out.step _ _).rd (HMI.out.step _ _).er)).mono ?_; rintro e w2 ⟨rfl, hb⟩; have HM2 := Lib.hid ((HMI.out.step _ _).on hb); have q0' := bk_cell (k := 0) HM2.out.tok rfl; have q1' := bk_cell (k := 1) HM2.out.tok rfl; have q2' := bk_cell (k := 2) HM2.out.tok rfl; have q3' := bk_cell (k := 3) HM2.out.tok rfl; have f0' := bk_free (k := 0) HM2.out.tok; have f1' := bk_free (k := 1) HM2.out.tok; have f2' := bk_free (k := 2) HM2.out.tok; have f3' := bk_free (k := 3) HM2.out.tok; clear hb))
        exact bodyPost_ret (v := (.tuple #[zeroV, .bool false])) (by simp [results, Tryd.results17, zeroV, tokV, go_sem, q0', q1', q2', q3']) rfl ⟨set4 HM2.out.below _ _ _ _, rfl⟩

  | some x =>
    obtain ⟨kd, len, u⟩ := x
    go_enter Tryd.func17, Tryd.ntmps17
    go_wp2
    go_loopw [11] (fun i wr => ∃ j : Nat, j ≤ 3 ∧ i = .int .i64 j ∧ Mid w wr R s k SH SG cap) (fun i _ => 5 - (intOf i).toNat)
    case atStart => exact ⟨0, by omega, rfl, HM.out⟩
    case round =>
      clear c2
      obtain ⟨j, hj, rfl, hmid⟩ := hrel
      have HMI := Lib.hid hmid
      have hjc : j = 0 ∨ j = 1 ∨ j = 2 ∨ j = 3 := by omega
      have s0 := bk_cell (k := 0) hmid.rd.shp rfl
      have s1 := bk_cell (k := 1) hmid.rd.shp rfl
      have s2 := bk_cell (k := 2) hmid.rd.shp rfl
      have s3 := bk_cell (k := 3) hmid.rd.shp rfl
      have s4 := bk_cell (k := 4) hmid.rd.shp rfl
      have s5 := bk_cell (k := 5) hmid.rd.shp rfl
      have s6 := bk_cell (k := 6) hmid.rd.shp rfl
      have s7 := bk_cell (k := 7) hmid.rd.shp rfl
      have q0 := bk_cell (k := 0) hmid.tok rfl
      have q1 := bk_cell (k := 1) hmid.tok rfl
      have q2 := bk_cell (k := 2) hmid.tok rfl
      have q3 := bk_cell (k := 3) hmid.tok rfl
      have f0 := bk_free (k := 0) hmid.tok
      have f1 := bk_free (k := 1) hmid.tok
      have f2 := bk_free (k := 2) hmid.tok
      have f3 := bk_free (k := 3) hmid.tok
      have z0 := lt_of_block hmid.tok
      clear hmid hj
      unfold me at s0 s1 s2 s3 s4 s5 s6 s7
      rcases hjc with rfl | rfl | rfl | rfl
      · go_wp2_with (go_at_call 23; refine (atLetter_any (HMI.out.rd.al _) HK.out).mono ?_; rintro e w' ⟨rfl, n, rfl⟩)
        go_roundw
        case rel => exact ⟨1, by omega, by first | rfl | go_num, HMI.out.step _ _⟩
        case measure => simp [intOf]
      · go_wp2_with (go_at_call 25; refine (atDigit_any (HMI.out.rd.al _) HK.out).mono ?_; rintro e w' ⟨rfl, n, rfl⟩)
        go_roundw
        case rel => exact ⟨2, by omega, by first | rfl | go_num, HMI.out.step _ _⟩
        case measure => simp [intOf]
      · go_wp2_with (go_at_call 27; refine (atTag_any (HMI.out.rd.al _) HK.out).mono ?_; rintro e w' ⟨rfl, n, rfl⟩)
        go_roundw
        case rel => exact ⟨3, by omega, by first | rfl | go_num, HMI.out.step _ _⟩
        case measure => simp [intOf]
      · go_wp2_with (first
          | (go_at_call 29; refine (atSign_yes (HMI.out.rd.al _) (Nat.le_of_lt HK.out) HL.out).mono ?_; rintro e w' ⟨rfl, n, rfl⟩)
          | (go_at_call 30; refine (took_some (HT.out _ (HMI.out.step _ _).rd (HMI.out.step _ _).er)).mono ?_; rintro e w2 ⟨rfl, hb⟩; have HM2 := Lib.hid ((HMI.out.step _ _).on hb); have q0' := bk_cell (k := 0) HM2.out.tok rfl; have q1' := bk_cell (k := 1) HM2.out.tok rfl; have q2' := bk_cell (k := 2) HM2.out.tok rfl; have q3' := bk_cell (k := 3) HM2.out.tok rfl; have f0' := bk_free (k := 0) HM2.out.tok; have f1' := bk_free (k := 1) HM2.out.tok; have f2' := bk_free (k := 2) HM2.out.tok; have f3' := bk_free (k := 3) HM2.out.tok; clear hb))
        exact bodyPost_ret (v := (.tuple #[tokV kd ⟨((rest s k).data.toList.take len).toArray⟩ u k, .bool true])) (by simp [results, Tryd.results17, zeroV, tokV, go_sem, q0', q1', q2', q3']) rfl ⟨set4 HM2.out.below _ _ _ _, rfl⟩


set_option maxRecDepth 100000 in
set_option maxHeartbeats 2000000 in
theorem word_nothing (hr : Reader w R s k SH SG cap) (hk : k < s.size) (H : Errs w) (o : Option (Nat × Nat × Nat)) (h0 : ltI (s[k].toNat : Int) = false) (h1 : dgI (s[k].toNat : Int) = false) (h2 : ((s[k].toNat : Int) == 64) = false) (HL : Hid (longest (rest s k).data.toList = []))
    (ho : o = none) :
    Calls Tryd.prog 17 #[me R] w (Took s k o w) := by
  have HM := Lib.hid (Mid.mk (Past.refl (w.alloc tok0)) (hr.al tok0) (H.on ((Past.refl w).alloc tok0)))
  have HK := Lib.hid hk
  have hlt := lt_of_block hr.blk
  have c2 := HM.out.rd.c2
  clear hr H
  unfold me
  subst ho
  go_enter Tryd.func17, Tryd.ntmps17
  go_wp2
  go_loopw [11] (fun i wr => ∃ j : Nat, j ≤ 4 ∧ i = .int .i64 j ∧ Mid w wr R s k SH SG cap) (fun i _ => 5 - (intOf i).toNat)
  case atStart => exact ⟨0, by omega, rfl, HM.out⟩
  case round =>
    clear c2
    obtain ⟨j, hj, rfl, hmid⟩ := hrel
    have HMI := Lib.hid hmid
    have hjc : j = 0 ∨ j = 1 ∨ j = 2 ∨ j = 3 ∨ j = 4 := by omega
    have s0 := bk_cell (k := 0) hmid.rd.shp rfl
    have s1 := bk_cell (k := 1) hmid.rd.shp rfl
    have s2 := bk_cell (k := 2) hmid.rd.shp rfl
    have s3 := bk_cell (k := 3) hmid.rd.shp rfl
    have s4 := bk_cell (k := 4) hmid.rd.shp rfl
    have s5 := bk_cell (k := 5) hmid.rd.shp rfl
    have s6 := bk_cell (k := 6) hmid.rd.shp rfl
    have s7 := bk_cell (k := 7) hmid.rd.shp rfl
    have q0 := bk_cell (k := 0) hmid.tok rfl
    have q1 := bk_cell (k := 1) hmid.tok rfl
    have q2 := bk_cell (k := 2) hmid.tok rfl
    have q3 := bk_cell (k := 3) hmid.tok rfl
    have f0 := bk_free (k := 0) hmid.tok
    have f1 := bk_free (k := 1) hmid.tok
    have f2 := bk_free (k := 2) hmid.tok
    have f3 := bk_free (k := 3) hmid.tok
    have z0 := lt_of_block hmid.tok
    clear hmid hj
    unfold me at s0 s1 s2 s3 s4 s5 s6 s7
    rcases hjc with rfl | rfl | rfl | rfl | rfl
    · go_wp2_with (go_at_call 23; refine (atLetter_any (HMI.out.rd.al _) HK.out).mono ?_; rintro e w' ⟨rfl, n, rfl⟩)
      go_roundw
      case rel => exact ⟨1, by omega, by first | rfl | go_num, HMI.out.step _ _⟩
      case measure => simp [intOf]
    · go_wp2_with (go_at_call 25; refine (atDigit_any (HMI.out.rd.al _) HK.out).mono ?_; rintro e w' ⟨rfl, n, rfl⟩)
      go_roundw
      case rel => exact ⟨2, by omega, by first | rfl | go_num, HMI.out.step _ _⟩
      case measure => simp [intOf]
    · go_wp2_with (go_at_call 27; refine (atTag_any (HMI.out.rd.al _) HK.out).mono ?_; rintro e w' ⟨rfl, n, rfl⟩)
      go_roundw
      case rel => exact ⟨3, by omega, by first | rfl | go_num, HMI.out.step _ _⟩
      case measure => simp [intOf]
    · go_wp2_with (go_at_call 29; refine (atSign_no (HMI.out.rd.al _) (Nat.le_of_lt HK.out) HL.out).mono ?_; rintro e w' ⟨rfl, n, rfl⟩)
      go_roundw
      case rel => exact ⟨4, by omega, by first | rfl | go_num, HMI.out.step _ _⟩
      case measure => simp [intOf]
    · go_wp2
      exact bodyPost_ret (v := (.tuple #[zeroV, .bool false])) (by simp [results, Tryd.results17, zeroV, go_sem, q0, q1, q2, q3]) rfl ⟨by first | exact HMI.out.below | exact set4 HMI.out.below _ _ _ _, rfl⟩


end
end Go.Proofs.YtgfobalchpcgbaaDoor
