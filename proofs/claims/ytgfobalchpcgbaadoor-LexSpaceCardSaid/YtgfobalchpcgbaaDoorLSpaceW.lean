/- The walk of LexSpace itself. -/
import Derived.Test.YtgfobalchpcgbaaDoorLSpace
import Derived.Deep.DeepCutAuto
set_option linter.unusedSimpArgs false
set_option linter.unusedVariables false
namespace Go.Proofs.YtgfobalchpcgbaaDoor
open Go Go.RowKit

def wdL (i : Nat) : List UInt8 := [[97], [119, 104, 105, 108, 101], [49, 50], [64, 51], [60, 61], [40], [120, 57], [61, 61]].getD i []
def wd (i : Nat) : ByteArray := bsOf (wdL i)
def wdK (i : Nat) : Nat := [1, 5, 2, 3, 4, 4, 1, 4].getD i 0
def wdN (i : Nat) : Nat := [0, 0, 12, 3, 0, 0, 0, 0].getD i 0
theorem wd_data (i : Nat) : (wd i).data.toList = wdL i := rfl
theorem wd_size (i : Nat) (h : i < 8) : (wd i).size ≤ 5 := by
  have : ∀ i : Fin 8, (wd i.val).size ≤ 5 := by decide
  exact this ⟨i, h⟩
theorem wd_good (i : Nat) (h : i < 8) (q : Nat) : Good ⟨wdK i, wdL i, wdN i, q⟩ := by
  have main : ∀ i : Fin 8, (∀ c, (wdL i.val).head? = some c → isSp c = false) ∧ 0 < (wdL i.val).length ∧ wordOf (wdL i.val) = some (wdK i.val, (wdL i.val).length, wdN i.val) := by decide +kernel
  obtain ⟨h1, h2, h3⟩ := main ⟨i, h⟩
  simp only at h1 h2 h3
  cases e : wdL i with
  | nil => rw [e] at h2; simp at h2
  | cons c r =>
    rw [e] at h1 h3
    exact ⟨c, r, c :: r, rfl, h1 c rfl, h3, List.take_length⟩
/-- Two words with space ahead, between, behind. -/
theorem lex_two (s1 s2 s3 : List UInt8) (h1 : ∀ c ∈ s1, isSp c = true) (h2 : ∀ c ∈ s2, isSp c = true) (h3 : ∀ c ∈ s3, isSp c = true) (i j : Nat) (hi : i < 8) (hj : j < 8) :
    lexP 0 (s1 ++ (wdL i ++ (32 :: (s2 ++ (wdL j ++ s3))))) = (some [⟨wdK i, wdL i, wdN i, s1.length⟩, ⟨wdK j, wdL j, wdN j, s1.length + (wdL i).length + 1 + s2.length⟩], s1.length + (wdL i).length + 1 + s2.length + (wdL j).length + s3.length) := by
  have g1 := (wd_good i hi s1.length).cut s1.length (32 :: (s2 ++ (wdL j ++ s3))) (fun c hc => by simp only [List.head?_cons, Option.some.injEq] at hc; subst hc; rfl)
  have hs3 : ∀ c, s3.head? = some c → isSp c = true := fun c hc => h3 c (List.mem_of_mem_head? hc)
  have g2 := (wd_good j hj (s1.length + (wdL i).length + 1 + s2.length)).cut (s1.length + (wdL i).length + 1 + s2.length) s3 hs3
  simp only at g1 g2
  have e3 := lexP_sp (s1.length + (wdL i).length + 1 + s2.length + (wdL j).length) s3 [] h3
  rw [List.append_nil, lexP_nil] at e3
  rw [lexP_sp 0 s1 _ h1, Nat.zero_add, g1, lexP_space _ _ rfl, lexP_sp _ s2 _ h2, g2, e3]
  rfl
def WdIn (w : World) (L : Nat) : Prop := L < w.heap.size ∧ ∀ i, i < 8 → w.cell? ⟨L, i, none⟩ = some (.string (wd i))
theorem WdIn.on {w w' : World} {L : Nat} (h : WdIn w L) (hb : Below w.heap.size w w') : WdIn w' L :=
  ⟨Nat.lt_of_lt_of_le h.1 hb.size, fun i hi => (hb.cell (p := ⟨L, i, none⟩) h.1).trans (h.2 i hi)⟩
theorem wdIn_new (w : World) : WdIn (w.alloc (.cells #[.string { data := #[97] }, .string { data := #[119, 104, 105, 108, 101] }, .string { data := #[49, 50] }, .string { data := #[64, 51] }, .string { data := #[60, 61] }, .string { data := #[40] }, .string { data := #[120, 57] }, .string { data := #[61, 61] }] 9)) w.heap.size := by
  refine ⟨by simp, fun i hi => bk_cell (bk_new _ _) ?_⟩
  have : i = 0 ∨ i = 1 ∨ i = 2 ∨ i = 3 ∨ i = 4 ∨ i = 5 ∨ i = 6 ∨ i = 7 := by omega
  rcases this with rfl | rfl | rfl | rfl | rfl | rfl | rfl | rfl <;> rfl
theorem space_all {w0 w : World} {S1 S2 S3 T2 T3 : ByteArray} {i j : Nat} (hi : i < 8) (hj : j < 8) (h1 : Spc S1 10) (h2 : Spc S2 10) (h3 : Spc S3 10) (e2 : ((S1 ++ wd i) ++ { data := #[32] }) ++ S2 = T2) (e3 : (T2 ++ wd j) ++ S3 = T3) (H : Errs w0) (h : Past w0 w) :
    Calls Tryd.prog 10 #[.string T3] w fun e w' => ∃ g cap, e = .returned (.tuple #[.slice (some ⟨g, 0, none⟩) 2 cap, .int .i64 T3.size, .int .i64 0]) ∧ w'.cell? ⟨g, 1, none⟩ = some (.string (wd i)) ∧ w'.cell? ⟨g, 3, none⟩ = some (.int .i64 S1.size) ∧ w'.cell? ⟨g, 5, none⟩ = some (.string (wd j)) ∧ w'.cell? ⟨g, 7, none⟩ = some (.int .i64 T2.size) ∧ Below w.heap.size w w' ∧ Past w0 w' := by
  have z1 := h1.size
  have z2 := h2.size
  have z3 := h3.size
  have y1 := wd_size i hi
  have y2 := wd_size j hj
  have eT : T3.data.toList = S1.data.toList ++ (wdL i ++ (32 :: (S2.data.toList ++ (wdL j ++ S3.data.toList)))) := by
    rw [← e3, ← e2]; simp [wd_data]
  have sz2 : T2.size = S1.data.toList.length + (wdL i).length + 1 + S2.data.toList.length := by
    rw [← e2, ByteArray.size_append, ByteArray.size_append, ByteArray.size_append, ba_len, ba_len, ← wd_data, ba_len]; rfl
  have sz3 : T3.size ≤ 8192 := by
    rw [← e3, ByteArray.size_append, ByteArray.size_append, sz2, ba_len, ba_len, ← wd_data, ba_len]; omega
  have hx := lex_two S1.data.toList S2.data.toList S3.data.toList h1.all h2.all h3.all i j hi hj
  rw [← eT, ← sz2] at hx
  refine (all_toks T3 sz3 H h hx (by simp)).mono fun e w' ⟨g, cap, he, ht, hb, _, hp⟩ => ⟨g, cap, he, ht.2 1 _ rfl, ?_, ht.2 5 _ rfl, ht.2 7 _ rfl, hb, hp⟩
  have := ht.2 3 _ rfl
  rw [ba_len] at this
  exact this
set_option maxRecDepth 100000 in
set_option maxHeartbeats 4000000 in
theorem space_core (a b : Int) (A2 A3 A4 : Option Addr) (l2 l3 l4 c2 c3 c4 : Nat) (z2 z3 z4 : List Int) (i j : Nat) (hi : i < 8) (hj : j < 8) (ha : 0 ≤ a) (hb : 0 ≤ b) (hai : a % 8 = (i : Int)) (hbj : b % 8 = (j : Int))
    (w0 : World) (H0 : Errs w0) (r2 : BytesIn w0 A2 l2 z2) (r3 : BytesIn w0 A3 l3 z3) (r4 : BytesIn w0 A4 l4 z4) :
    Calls Tryd.prog 6 #[.int .u8 a, .int .u8 b, .slice A2 l2 c2, .slice A3 l3 c3, .slice A4 l4 c4] w0 fun e w' => e = .returned (.bool true) ∧ Past w0 w' := by
  have haT : a.tmod 8 = (i : Int) := by rw [Int.tmod_eq_emod_of_nonneg ha]; exact hai
  have hbT : b.tmod 8 = (j : Int) := by rw [Int.tmod_eq_emod_of_nonneg hb]; exact hbj
  have H := Lib.hid H0
  have R2 := Lib.hid r2
  have R3 := Lib.hid r3
  have R4 := Lib.hid r4
  have zi := wd_size i hi
  have zj := wd_size j hj
  have hz32 : ({ data := #[32] } : ByteArray).size ≤ 1 := Nat.le_refl 1
  clear H0 r2 r3 r4
  go_enter Tryd.func6, Tryd.ntmps6
  go_upto_region 7 with (first
    | (go_at_call 8; refine (ex_any H.out _ (Past.refl w0)).mono ?_; rintro e w1 ⟨rfl, h1⟩; have H1 := Lib.hid h1; have HW := Lib.hid (wdIn_new w1); clear h1)
    | (go_at_call 13; refine (space_any A2 l2 c2 z2 R2.out (H1.out.alloc _)).mono ?_; rintro e w2 ⟨S1, rfl, hS, hb2, hp⟩; have HW2 := Lib.hid (HW.out.on hb2); have HS1 := Lib.hid hS; have H2 := Lib.hid hp; have q2 := (HW2.out).2 i hi; have zS1 := hS.size; clear hS hb2 hp))
  go_cut [13] (fun s wx => ∃ S2, s = .string (((S1 ++ wd i) ++ { data := #[32] }) ++ S2) ∧ Spc S2 10 ∧ WdIn wx w1.heap.size ∧ Past w0 wx)
  case first =>
    go_region_with (go_at_call 13; refine (space_any A3 l3 c3 z3 R3.out (by first | exact H2.out | exact H2.out.drew)).mono ?_; rintro e w3 ⟨S2, rfl, hS, hb2, hp⟩; have HW3 := Lib.hid (HW2.out.on (by first | exact hb2 | exact ((Below.refl _ _).drew).trans hb2)); have HS2 := Lib.hid hS; have H3 := Lib.hid hp; have q3 := (HW3.out).2 i hi; have zS2 := hS.size; clear hS hb2 hp)
    all_goals (go_wp2_with fail; go_meet; exact ⟨S2, rfl, HS2.out, by first | exact HW3.out | exact HW3.out.on ((Below.refl _ _).drew), by first | exact H3.out | exact H3.out.drew⟩)
  case rest =>
    obtain ⟨S2, rfl, hS2, hW3, h3⟩ := hcut
    clear q2
    obtain ⟨T2, hT2⟩ : ∃ T2, ((S1 ++ wd i) ++ { data := #[32] }) ++ S2 = T2 := ⟨_, rfl⟩
    rw [hT2]
    have zT2 : T2.size ≤ 26 := by
      rw [← hT2, ByteArray.size_append, ByteArray.size_append, ByteArray.size_append]
      have := hS2.size
      omega
    have HT2 := Lib.hid hT2
    have HS2 := Lib.hid hS2
    have HW3 := Lib.hid hW3
    have H3 := Lib.hid h3
    have q3 := hW3.2 j hj
    clear hT2 hS2 hW3 h3
    go_upto_region 9 with (fail)
    go_cut [13] (fun s wx => ∃ S3, s = .string ((T2 ++ wd j) ++ S3) ∧ Spc S3 10 ∧ WdIn wx w1.heap.size ∧ Past w0 wx)
    case first =>
      go_region_with (go_at_call 13; refine (space_any A4 l4 c4 z4 R4.out (by first | exact H3.out | exact H3.out.drew)).mono ?_; rintro e w4 ⟨S3, rfl, hS, hb2, hp⟩; have HW4 := Lib.hid (HW3.out.on (by first | exact hb2 | exact ((Below.refl _ _).drew).trans hb2)); have HS3 := Lib.hid hS; have H4 := Lib.hid hp; have q4 := (HW4.out).2 j hj; have zS3 := hS.size; clear hS hb2 hp)
      all_goals (go_wp2_with fail; go_meet; exact ⟨S3, rfl, HS3.out, by first | exact HW4.out | exact HW4.out.on ((Below.refl _ _).drew), by first | exact H4.out | exact H4.out.drew⟩)
    case rest =>
      obtain ⟨S3, rfl, hS3, hW4, h4⟩ := hcut
      clear q3
      obtain ⟨T3, hT3⟩ : ∃ T3, (T2 ++ wd j) ++ S3 = T3 := ⟨_, rfl⟩
      rw [hT3]
      have HT3 := Lib.hid hT3
      have HS3 := Lib.hid hS3
      have HW4 := Lib.hid hW4
      have H4 := Lib.hid h4
      clear hT3 hS3 hW4 h4
      go_wp2_with (go_at_call 10; refine (space_all hi hj HS1.out HS2.out HS3.out HT2.out HT3.out H.out H4.out).mono ?_; rintro e w5 ⟨g, cap, rfl, p1, p3, p5, p7, hb5, h5⟩; have q5 := (HW4.out.on hb5).2 i hi; have q6 := (HW4.out.on hb5).2 j hj; have H5 := Lib.hid h5; clear hb5 h5)
      go_quiet (fail)
      go_wp2
      go_ret
      exact ⟨rfl, H5.out.on (below_drewN _ _)⟩
theorem lexSpace_walk (a0 a1 : Int) (a2 : Option Addr) (len2 cap2 : Nat) (z2 : List Int) (a3 : Option Addr) (len3 cap3 : Nat) (z3 : List Int) (a4 : Option Addr) (len4 cap4 : Nat) (z4 : List Int)
    (w0 : (Lit.int .u8 a0).wf = true) (w1 : (Lit.int .u8 a1).wf = true) (w : World) (H : Errs w) (r2 : RowIn .u8 w a2 len2 z2) (r3 : RowIn .u8 w a3 len3 z3) (r4 : RowIn .u8 w a4 len4 z4) :
    Calls Tryd.prog 6 #[.int .u8 a0, .int .u8 a1, .slice a2 len2 cap2, .slice a3 len3 cap3, .slice a4 len4 cap4] w fun e w' => e = .returned (.bool true) ∧ Below w.heap.size w w' := by
  have hb : ∀ x : Int, (Lit.int .u8 x).wf = true → 0 ≤ x := fun x h => by
    simp only [Lit.wf, IntKind.min, IntKind.max, Bool.and_eq_true] at h
    exact of_decide_eq_true h.1
  have b0 := hb a0 w0
  have b1 := hb a1 w1
  exact space_core a0 a1 a2 a3 a4 len2 len3 len4 cap2 cap3 cap4 z2 z3 z4 (a0 % 8).toNat (a1 % 8).toNat (by omega) (by omega) b0 b1 (by omega) (by omega) w H (bytes_of_row r2) (bytes_of_row r3) (bytes_of_row r4)
end Go.Proofs.YtgfobalchpcgbaaDoor
