/- Statements of the feed: an element that is set; a call of one. -/
import Derived.Test.YtppeogcpoplpeaaGreatDoorTFeedS
import Derived.Deep.AppendLies
import Derived.OwnWalk
import Derived.Deep.RegionLaw
import Derived.Deep.AppendLies
set_option linter.unusedSimpArgs false
set_option linter.unusedVariables false
namespace Go.Proofs.YtppeogcpoplpeaaGreatDoor
open Go Go.RowKit

section
variable {F : FeedC} {B f : Nat}
set_option maxHeartbeats 8000000 in
set_option maxRecDepth 100000 in
theorem tail_2 (D : Nat) (loop : Bool) (dv v t tag' left : Int) (X q0 : Nat) (v0 : 0 ≤ v) (v1 : v ≤ 255) (w wc : World) (K K1 : Act → World → Prop) (j3 j4 j5 j10 j11 j12 j13 j14 j15 j16 j17 j18 j19 j20 j21 j22 j23 j24 j25 j26 j27 j28 j29 j30 j31 j32 j33 j34 j35 j36 j37 j38 j39 j40 j41 j42 j43 j44 j45 j46 j47 j48 j49 j50 j51 j52 j53 j54 j55 j56 j57 j58 j59 j60 j61 j62 j63 j64 j65 j66 j67 j68 j69 j70 j71 j72 j73 j74 j75 j76 j77 j78 j79 j80 j81 j82 j83 j84 j85 j86 j87 j88 j89 j90 j91 j92 j93 j94 j95 j96 j97 j98 j99 j100 j101 j102 j103 j104 j105 j106 j107 j108 j109 j110 j111 j112 j113 j114 j115 j116 j117 j118 j119 j120 j121 j122 j123 j124 j125 j126 j127 j128 j129 j130 j131 j132 j133 j134 j135 j136 j137 j138 j139 j140 j141 j142 j143 j144 j145 j146 j147 j148 j149 j150 j151 j152 j153 j154 j155 j156 j157 j158 j159 j160 j161 j162 j163 j164 j165 j166 j167 j168 j169 j170 j171 j172 j173 j174 j175 j176 j177 j178 j179 j180 j181 j182 j183 j184 j185 j186 j187 j188 j189 j190 j191 j192 j193 j194 j195 j196 j197 j198 j199 j200 j201 j202 j203 j204 j205 j206 j207 j208 j209 j210 j211 j212 j213 j214 j215 j216 j217 j218 : Value)
    (hK1 : ∀ a w', Code.wp Tryz.prog stEnd (bodyPost Tryz.prog Tryz.f93 (StPost F B f D w)) a w' → K1 a w') (hK : ∀ a w', Code.wp Tryz.prog stRest (Exit.then K1 (bodyPost Tryz.prog Tryz.f93 (StPost F B f D w))) a w' → K a w')
    (HT : Hid ((0 ≤ t ∧ t ≤ 24) ∧ 0 ≤ tag' ∧ tag' + left ≤ 24 ∧ 0 ≤ left)) (HM0 : Hid (MidS F B f w X (st0 t) q0 left tag' wc)) :
    Code.wp Tryz.prog stHead (Exit.then K (Exit.then K1 (bodyPost Tryz.prog Tryz.f93 (StPost F B f D w)))) ⟨#[.pointer (some ⟨f, 0, none⟩), .int .i64 dv, .bool loop, j3, j4, j5, .pointer (some ⟨w.heap.size, 0, none⟩), .int .i64 v, .int .i64 2, .pointer (some ⟨X, 0, none⟩), j10, j11, j12, j13, j14, j15, j16, j17, j18, j19, j20, j21, j22, j23, j24, j25, j26, j27, j28, j29, j30, j31, j32, j33, j34, j35, j36, j37, j38, j39, j40, j41, j42, j43, j44, j45, j46, j47, j48, j49, j50, j51, j52, j53, j54, j55, j56, j57, j58, j59, j60, j61, j62, j63, j64, j65, j66, j67, j68, j69, j70, j71, j72, j73, j74, j75, j76, j77, j78, j79, j80, j81, j82, j83, j84, j85, j86, j87, j88, j89, j90, j91, j92, j93, j94, j95, j96, j97, j98, j99, j100, j101, j102, j103, j104, j105, j106, j107, j108, j109, j110, j111, j112, j113, j114, j115, j116, j117, j118, j119, j120, j121, j122, j123, j124, j125, j126, j127, j128, j129, j130, j131, j132, j133, j134, j135, j136, j137, j138, j139, j140, j141, j142, j143, j144, j145, j146, j147, j148, j149, j150, j151, j152, j153, j154, j155, j156, j157, j158, j159, j160, j161, j162, j163, j164, j165, j166, j167, j168, j169, j170, j171, j172, j173, j174, j175, j176, j177, j178, j179, j180, j181, j182, j183, j184, j185, j186, j187, j188, j189, j190, j191, j192, j193, j194, j195, j196, j197, j198, j199, j200, j201, j202, j203, j204, j205, j206, j207, j208, j209, j210, j211, j212, j213, j214, j215, j216, j217, j218], []⟩ wc := by
  have hK1' := hK1
  have hK' := hK
  conv at hK1' => intro a w'; arg 1; arg 2; whnf
  conv at hK' => intro a w'; arg 1; arg 2; whnf
  conv => arg 2; whnf
  clear hK hK1
  have HB : f < w.heap.size := by have := HM0.out.hf; have := HM0.out.hB; omega
  have hRX : w.heap.size < X := HM0.out.lt
  have hX : wc.heap[X]? = some (.cells #[.int .i64 0, .int .i64 t, .string { data := #[] }, .string { data := #[] }, .slice none 0 0, .slice none 0 0, .slice none 0 0] 83 (0, 0)) := HM0.out.hX
  have hR := HM0.out.hR
  obtain ⟨x0, x1, x2, x3, x4, x5, x6⟩ := sevenC hX
  have y0 := bk_free (k := 0) hX
  have y2 := bk_free (k := 2) hX
  have y3 := bk_free (k := 3) hX
  have y4 := bk_free (k := 4) hX
  have y5 := bk_free (k := 5) hX
  have y6 := bk_free (k := 6) hX
  obtain ⟨r0, r1, r2, r3, r4, r5, r6⟩ := sevenC hR
  have z0 := bk_free (k := 0) hR
  have z1 := bk_free (k := 1) hR
  have z2 := bk_free (k := 2) hR
  have z3 := bk_free (k := 3) hR
  have z4 := bk_free (k := 4) hR
  have z5 := bk_free (k := 5) hR
  have z6 := bk_free (k := 6) hR
  have HXR : Hid (w.heap.size < X) := Lib.hid hRX
  have hXlt : X < wc.heap.size := lt_of_block hX
  have hRlt : w.heap.size < wc.heap.size := lt_of_block hR
  have HBX : Hid (B ≤ X ∧ B ≤ w.heap.size) := Lib.hid ⟨by have := HM0.out.hB; omega, HM0.out.hB⟩
  have HPR : Hid (Three f w.heap.size X w.heap.size) := Lib.hid (Or.inr (Or.inl rfl))
  have HPX : Hid (Three f w.heap.size X X) := Lib.hid (Or.inr (Or.inr rfl))
  have ne1 : ¬ w.heap.size = f := by omega
  have ne3 : ¬ X = w.heap.size := by omega
  have ne4 : ¬ w.heap.size = X := by omega
  have ne5 : ¬ X = f := by omega
  clear hX hR hRX
  obtain ⟨k, n, s, hn0, hn1, hn2, hkk, hvv, hs, hnm, hc⟩ := pick_name HM0.out.fd.arrs v0
  have c2 := HM0.out.fd.c3
  rw [hn0] at c2
  have HS := Lib.hid hnm
  have neA : ¬ X = F.xa := by have := HM0.out.fd.arrs.1; have := HBX.out; omega
  have neB : ¬ w.heap.size = F.xa := by have := HM0.out.fd.arrs.1; have := HBX.out; omega
  clear hn0 hs hnm
  have t1 : (v.tdiv 16).tmod n = k := by rw [← hvv, Int.tdiv_eq_ediv_of_nonneg v0, Int.tmod_eq_emod_of_nonneg (by omega)]
  have t2 : (v / 16).tmod n = k := by rw [← hvv, Int.tmod_eq_emod_of_nonneg (by omega)]
  have n0 : ((n : Int) == 0) = false := by simp; omega
  have u1 : IntKind.i64.wrap (v.tdiv 16) = v / 16 := by rw [Int.tdiv_eq_ediv_of_nonneg v0]; exact IntWalk.i64_in _ (by omega)
  have u3 : (IntKind.i64.wrap (v.tdiv 16)).tmod n = k := by rw [u1]; exact t2
  have u4 : IntKind.i64.wrap (v / 16) = v / 16 := IntWalk.i64_in _ (by omega)
  have n3 : (n == 0) = false := by simp; omega
  have n4 : ¬ n = 0 := by omega
  have n5 : (0 : Int) < n := by omega
  have k0 : (0 : Int) ≤ k := by omega
  have k1 : (k : Int) < n := by omega
  go_wp2
  go_region_held3 (fun w' => w'.cell? ⟨f, 3, none⟩ = some (.slice (some ⟨F.xa, 0, none⟩) n n) ∧ w'.cell? ⟨F.xa, k, none⟩ = some (.string s)) (go_keep) (fail)
  go_wp2_with (go_at_call 33; refine MidS.call_expr (F := F) (B := B) (w := w) (X := X) (left := left) (tag := tag') (q := q0) (c := upd (upd (st0 t) 0 (.int .i64 1)) 2 (.string s)) (e := 1) 1 (by decide) (by decide) ?_ ?_; (repeat (first | with_reducible exact HM0.out | with_reducible refine MidS.set ?_ (by decide) _ | with_reducible refine MidS.drew ?_ | with_reducible refine MidS.drewN ?_ _ | with_reducible refine MidS.alloc ?_ _)); intro T q2 w2 hT2 hin2 hA2 hm2 hk2; have hX : w2.heap[X]? = some (.cells #[.int .i64 1, .int .i64 t, .string s, .string { data := #[] }, .slice none 0 0, .slice none 0 0, .slice none 0 0] 83 (0, 0)) := hm2.hX; have hR := hm2.hR; obtain ⟨x0, x1, x2, x3, x4, x5, x6⟩ := sevenC hX; have y0 := bk_free (k := 0) hX; have y2 := bk_free (k := 2) hX; have y3 := bk_free (k := 3) hX; have y4 := bk_free (k := 4) hX; have y5 := bk_free (k := 5) hX; have y6 := bk_free (k := 6) hX; obtain ⟨r0, r1, r2, r3, r4, r5, r6⟩ := sevenC hR; have z0 := bk_free (k := 0) hR; have z1 := bk_free (k := 1) hR; have z2 := bk_free (k := 2) hR; have z3 := bk_free (k := 3) hR; have z4 := bk_free (k := 4) hR; have z5 := bk_free (k := 5) hR; have z6 := bk_free (k := 6) hR; have hXlt : X < w2.heap.size := lt_of_block hX; have hRlt : w.heap.size < w2.heap.size := lt_of_block hR; have HM2 := Lib.hid hm2; have HK2 := Lib.hid hk2; have HT2 := Lib.hid (And.intro hT2 (And.intro hin2 hA2)); clear hX hR hm2 hk2 hT2 hin2 hA2)
  have HX3 := Lib.hid (bk_new w2 (.cells #[.int .i64 T.kind, .string T.op, .int .i64 T.n, .string T.name, .slice T.kaddr T.kids.length T.kcap] 30))
  have HM3 := Lib.hid (HM2.out.alloc (.cells #[.int .i64 T.kind, .string T.op, .int .i64 T.n, .string T.name, .slice T.kaddr T.kids.length T.kcap] 30))
  have HK3 := Lib.hid ((KeptP.refl (Three f w.heap.size X) w2).alloc (.cells #[.int .i64 T.kind, .string T.op, .int .i64 T.n, .string T.name, .slice T.kaddr T.kids.length T.kcap] 30))
  have hXO : X < w2.heap.size := HM2.out.xlt
  clear x0 x1 x2 x3 x4 x5 x6 y0 y2 y3 y4 y5 y6 r0 r1 r2 r3 r4 r5 r6 z0 z1 z2 z3 z4 z5 z6 hXlt hRlt c2 hc
  generalize (w2.alloc (.cells #[.int .i64 T.kind, .string T.op, .int .i64 T.n, .string T.name, .slice T.kaddr T.kids.length T.kcap] 30)) = w3 at HX3 HM3 HK3 ⊢
  generalize w2.heap.size = O at HX3 hXO ⊢
  obtain ⟨o0, o1, o2, o3, o4⟩ := cells5 HX3.out
  have HXO := Lib.hid hXO
  have neO : ¬ X = O := by omega
  clear hXO
  go_region_held3 (fun w' => w'.cell? ⟨O, 0, none⟩ = some (.int .i64 T.kind) ∧ w'.cell? ⟨O, 1, none⟩ = some (.string T.op) ∧ w'.cell? ⟨O, 2, none⟩ = some (.int .i64 T.n) ∧ w'.cell? ⟨O, 3, none⟩ = some (.string T.name) ∧ w'.cell? ⟨O, 4, none⟩ = some (.slice T.kaddr T.kids.length T.kcap)) ((refine ⟨?_, ?_, ?_, ?_, ?_⟩ <;> (repeat (first | with_reducible assumption | with_reducible refine cellD ?_ | with_reducible refine cellA ?_ _ | with_reducible refine cellS ?_ neO))))
    ((go_at_call 33; refine MidS.call_expr (F := F) (B := B) (w := w) (X := X) (left := left) (tag := tag') (q := q2) (c := upd (upd (st0 t) 0 (.int .i64 1)) 2 (.string s)) (e := 2) 2 (by decide) (by decide) ?_ ?_; (repeat (first | with_reducible exact HM3.out | with_reducible refine MidS.set ?_ (by decide) _ | with_reducible refine MidS.drew ?_ | with_reducible refine MidS.drewN ?_ _ | with_reducible refine MidS.alloc ?_ _)); intro U q4 w4 hT4 hin4 hA4 hm4 hk4; have hX : w4.heap[X]? = some (.cells #[.int .i64 1, .int .i64 t, .string s, .string { data := #[] }, .slice none 0 0, .slice none 0 0, .slice none 0 0] 83 (0, 0)) := hm4.hX; have hR := hm4.hR; obtain ⟨x0, x1, x2, x3, x4, x5, x6⟩ := sevenC hX; have y0 := bk_free (k := 0) hX; have y2 := bk_free (k := 2) hX; have y3 := bk_free (k := 3) hX; have y4 := bk_free (k := 4) hX; have y5 := bk_free (k := 5) hX; have y6 := bk_free (k := 6) hX; obtain ⟨r0, r1, r2, r3, r4, r5, r6⟩ := sevenC hR; have z0 := bk_free (k := 0) hR; have z1 := bk_free (k := 1) hR; have z2 := bk_free (k := 2) hR; have z3 := bk_free (k := 3) hR; have z4 := bk_free (k := 4) hR; have z5 := bk_free (k := 5) hR; have z6 := bk_free (k := 6) hR; have hXlt : X < w4.heap.size := lt_of_block hX; have hRlt : w.heap.size < w4.heap.size := lt_of_block hR; have HM4 := Lib.hid hm4; have HK4 := Lib.hid hk4; have HT4 := Lib.hid (And.intro hT4 (And.intro hin4 hA4)); have hO4 := (hk4.block O (lt_of_block HX3.out) (HM3.out.three HXO.out _ (Nat.le_refl _))).trans HX3.out; obtain ⟨p0, p1, p2, p3, p4⟩ := cells5 hO4; have hk34 : KeptP (Three f w.heap.size X) w3 w4 := KeptP.trans (by repeat (first | with_reducible exact KeptP.refl _ _ | with_reducible refine KeptP.set ?_ HPR.out _ _ | with_reducible refine KeptP.set ?_ HPX.out _ _ | with_reducible refine KeptP.drew ?_ | with_reducible refine KeptP.drewN ?_ _ | with_reducible refine KeptP.alloc ?_ _)) hk4; have HK34 := Lib.hid hk34; clear hO4 hk34 hX hR hm4 hk4 hT4 hin4 hA4))
  go_wp2
  refine bodyPost_ret (v := .agg #[.int .i64 1, .int .i64 t, .string s, .string { data := #[] }, .slice (some ⟨w4.heap.size, 0, none⟩) 2 2, .slice none 0 0, .slice none 0 0]) (by simp [results, Tryz.results93, go_sem, *]) rfl ?_
  obtain ⟨ht1, ht2⟩ := HT.out
  obtain ⟨hBX, hBR⟩ := HBX.out
  have hXR := HXR.out
  have hrr : w.heap.size ≤ w.heap.size := Nat.le_refl _
  have hrx : w.heap.size ≤ X := Nat.le_of_lt hXR
  refine ⟨.mk 1 t s mE (some ⟨w4.heap.size, 0, none⟩) 2 [T, U] none 0 [] none 0 [], q4, left, tag', rfl, gs_sto ht1.1 (by omega) _ HS.out HT2.out.1 (by decide) HT4.out.1 (by decide) _ _ _ _ _ _, ?_, ?_, ?_, by omega, by omega, by omega⟩
  · rw [ST.In]
    refine ⟨by omega, by simp, ?_, by rw [SsIn]; trivial, by rw [SsIn]; trivial⟩
    refine es_two_of (bk_new' _ (by simp)) (fun _ _ h => h) (KeptP.et (A := _) ?_ (HM2.out.three HT2.out.2.2) HT2.out.2.1 |>.mono (by have := HT2.out.2.2; omega)) (KeptP.et (A := _) ?_ (HM2.out.three HT4.out.2.2) HT4.out.2.1 |>.mono (by have := HT4.out.2.2; omega)) (by have := HM4.out.xlt; have := HM4.out.lt; omega)
    · (repeat (first | with_reducible exact (HK3.out.trans HK34.out) | with_reducible refine KeptP.set ?_ HPR.out _ _ | with_reducible refine KeptP.set ?_ HPX.out _ _ | with_reducible refine KeptP.drew ?_ | with_reducible refine KeptP.drewN ?_ _ | with_reducible refine KeptP.alloc ?_ _))
    · (repeat (first | with_reducible exact KeptP.refl _ _ | with_reducible refine KeptP.set ?_ HPR.out _ _ | with_reducible refine KeptP.set ?_ HPX.out _ _ | with_reducible refine KeptP.drew ?_ | with_reducible refine KeptP.drewN ?_ _ | with_reducible refine KeptP.alloc ?_ _))
  · have h1 := HM4.out.fd
    repeat (first | with_reducible exact h1 | with_reducible refine Fd.far ?_ hBX _ _ | with_reducible refine Fd.far ?_ hBR _ _ | with_reducible refine Fd.drew ?_ | with_reducible refine Fd.drewN ?_ _ | with_reducible refine Fd.alloc ?_ _)
  · have h0 := HM4.out.gr
    repeat (first | with_reducible exact h0 | with_reducible refine grown_new ?_ hrx _ _ | with_reducible refine grown_new ?_ hrr _ _ | with_reducible refine grown_drew ?_ | with_reducible refine grown_drewN ?_ _ | with_reducible refine grown_alloc ?_ _)

set_option maxHeartbeats 8000000 in
set_option maxRecDepth 100000 in
theorem tail_3 (D : Nat) (loop : Bool) (dv v t tag' left : Int) (X q0 : Nat) (v0 : 0 ≤ v) (v1 : v ≤ 255) (w wc : World) (K K1 : Act → World → Prop) (j3 j4 j5 j10 j11 j12 j13 j14 j15 j16 j17 j18 j19 j20 j21 j22 j23 j24 j25 j26 j27 j28 j29 j30 j31 j32 j33 j34 j35 j36 j37 j38 j39 j40 j41 j42 j43 j44 j45 j46 j47 j48 j49 j50 j51 j52 j53 j54 j55 j56 j57 j58 j59 j60 j61 j62 j63 j64 j65 j66 j67 j68 j69 j70 j71 j72 j73 j74 j75 j76 j77 j78 j79 j80 j81 j82 j83 j84 j85 j86 j87 j88 j89 j90 j91 j92 j93 j94 j95 j96 j97 j98 j99 j100 j101 j102 j103 j104 j105 j106 j107 j108 j109 j110 j111 j112 j113 j114 j115 j116 j117 j118 j119 j120 j121 j122 j123 j124 j125 j126 j127 j128 j129 j130 j131 j132 j133 j134 j135 j136 j137 j138 j139 j140 j141 j142 j143 j144 j145 j146 j147 j148 j149 j150 j151 j152 j153 j154 j155 j156 j157 j158 j159 j160 j161 j162 j163 j164 j165 j166 j167 j168 j169 j170 j171 j172 j173 j174 j175 j176 j177 j178 j179 j180 j181 j182 j183 j184 j185 j186 j187 j188 j189 j190 j191 j192 j193 j194 j195 j196 j197 j198 j199 j200 j201 j202 j203 j204 j205 j206 j207 j208 j209 j210 j211 j212 j213 j214 j215 j216 j217 j218 : Value)
    (hK1 : ∀ a w', Code.wp Tryz.prog stEnd (bodyPost Tryz.prog Tryz.f93 (StPost F B f D w)) a w' → K1 a w') (hK : ∀ a w', Code.wp Tryz.prog stRest (Exit.then K1 (bodyPost Tryz.prog Tryz.f93 (StPost F B f D w))) a w' → K a w')
    (HT : Hid ((0 ≤ t ∧ t ≤ 24) ∧ 0 ≤ tag' ∧ tag' + left ≤ 24 ∧ 0 ≤ left)) (HM0 : Hid (MidS F B f w X (st0 t) q0 left tag' wc)) :
    Code.wp Tryz.prog stHead (Exit.then K (Exit.then K1 (bodyPost Tryz.prog Tryz.f93 (StPost F B f D w)))) ⟨#[.pointer (some ⟨f, 0, none⟩), .int .i64 dv, .bool loop, j3, j4, j5, .pointer (some ⟨w.heap.size, 0, none⟩), .int .i64 v, .int .i64 3, .pointer (some ⟨X, 0, none⟩), j10, j11, j12, j13, j14, j15, j16, j17, j18, j19, j20, j21, j22, j23, j24, j25, j26, j27, j28, j29, j30, j31, j32, j33, j34, j35, j36, j37, j38, j39, j40, j41, j42, j43, j44, j45, j46, j47, j48, j49, j50, j51, j52, j53, j54, j55, j56, j57, j58, j59, j60, j61, j62, j63, j64, j65, j66, j67, j68, j69, j70, j71, j72, j73, j74, j75, j76, j77, j78, j79, j80, j81, j82, j83, j84, j85, j86, j87, j88, j89, j90, j91, j92, j93, j94, j95, j96, j97, j98, j99, j100, j101, j102, j103, j104, j105, j106, j107, j108, j109, j110, j111, j112, j113, j114, j115, j116, j117, j118, j119, j120, j121, j122, j123, j124, j125, j126, j127, j128, j129, j130, j131, j132, j133, j134, j135, j136, j137, j138, j139, j140, j141, j142, j143, j144, j145, j146, j147, j148, j149, j150, j151, j152, j153, j154, j155, j156, j157, j158, j159, j160, j161, j162, j163, j164, j165, j166, j167, j168, j169, j170, j171, j172, j173, j174, j175, j176, j177, j178, j179, j180, j181, j182, j183, j184, j185, j186, j187, j188, j189, j190, j191, j192, j193, j194, j195, j196, j197, j198, j199, j200, j201, j202, j203, j204, j205, j206, j207, j208, j209, j210, j211, j212, j213, j214, j215, j216, j217, j218], []⟩ wc := by
  have hK1' := hK1
  have hK' := hK
  conv at hK1' => intro a w'; arg 1; arg 2; whnf
  conv at hK' => intro a w'; arg 1; arg 2; whnf
  conv => arg 2; whnf
  clear hK hK1
  have HB : f < w.heap.size := by have := HM0.out.hf; have := HM0.out.hB; omega
  have hRX : w.heap.size < X := HM0.out.lt
  have hX : wc.heap[X]? = some (.cells #[.int .i64 0, .int .i64 t, .string { data := #[] }, .string { data := #[] }, .slice none 0 0, .slice none 0 0, .slice none 0 0] 83 (0, 0)) := HM0.out.hX
  have hR := HM0.out.hR
  obtain ⟨x0, x1, x2, x3, x4, x5, x6⟩ := sevenC hX
  have y0 := bk_free (k := 0) hX
  have y2 := bk_free (k := 2) hX
  have y3 := bk_free (k := 3) hX
  have y4 := bk_free (k := 4) hX
  have y5 := bk_free (k := 5) hX
  have y6 := bk_free (k := 6) hX
  obtain ⟨r0, r1, r2, r3, r4, r5, r6⟩ := sevenC hR
  have z0 := bk_free (k := 0) hR
  have z1 := bk_free (k := 1) hR
  have z2 := bk_free (k := 2) hR
  have z3 := bk_free (k := 3) hR
  have z4 := bk_free (k := 4) hR
  have z5 := bk_free (k := 5) hR
  have z6 := bk_free (k := 6) hR
  have HXR : Hid (w.heap.size < X) := Lib.hid hRX
  have hXlt : X < wc.heap.size := lt_of_block hX
  have hRlt : w.heap.size < wc.heap.size := lt_of_block hR
  have HBX : Hid (B ≤ X ∧ B ≤ w.heap.size) := Lib.hid ⟨by have := HM0.out.hB; omega, HM0.out.hB⟩
  have HPR : Hid (Three f w.heap.size X w.heap.size) := Lib.hid (Or.inr (Or.inl rfl))
  have HPX : Hid (Three f w.heap.size X X) := Lib.hid (Or.inr (Or.inr rfl))
  have ne1 : ¬ w.heap.size = f := by omega
  have ne3 : ¬ X = w.heap.size := by omega
  have ne4 : ¬ w.heap.size = X := by omega
  have ne5 : ¬ X = f := by omega
  clear hX hR hRX
  obtain ⟨k, n, s, hn0, hn1, hn2, hkk, hvv, hs, hnm, hc⟩ := pick_name HM0.out.fd.arrs v0
  have c2 := HM0.out.fd.c3
  rw [hn0] at c2
  have HS := Lib.hid hnm
  have neA : ¬ X = F.xa := by have := HM0.out.fd.arrs.1; have := HBX.out; omega
  have neB : ¬ w.heap.size = F.xa := by have := HM0.out.fd.arrs.1; have := HBX.out; omega
  clear hn0 hs hnm
  have t1 : (v.tdiv 16).tmod n = k := by rw [← hvv, Int.tdiv_eq_ediv_of_nonneg v0, Int.tmod_eq_emod_of_nonneg (by omega)]
  have t2 : (v / 16).tmod n = k := by rw [← hvv, Int.tmod_eq_emod_of_nonneg (by omega)]
  have n0 : ((n : Int) == 0) = false := by simp; omega
  have u1 : IntKind.i64.wrap (v.tdiv 16) = v / 16 := by rw [Int.tdiv_eq_ediv_of_nonneg v0]; exact IntWalk.i64_in _ (by omega)
  have u3 : (IntKind.i64.wrap (v.tdiv 16)).tmod n = k := by rw [u1]; exact t2
  have u4 : IntKind.i64.wrap (v / 16) = v / 16 := IntWalk.i64_in _ (by omega)
  have n3 : (n == 0) = false := by simp; omega
  have n4 : ¬ n = 0 := by omega
  have n5 : (0 : Int) < n := by omega
  have k0 : (0 : Int) ≤ k := by omega
  have k1 : (k : Int) < n := by omega
  go_wp2
  go_region_held3 (fun w' => w'.cell? ⟨f, 3, none⟩ = some (.slice (some ⟨F.xa, 0, none⟩) n n) ∧ w'.cell? ⟨F.xa, k, none⟩ = some (.string s)) (go_keep) (fail)
  go_wp2_with (go_at_call 33; refine MidS.call_expr (F := F) (B := B) (w := w) (X := X) (left := left) (tag := tag') (q := q0) (c := upd (upd (st0 t) 0 (.int .i64 1)) 2 (.string s)) (e := 1) 1 (by decide) (by decide) ?_ ?_; (repeat (first | with_reducible exact HM0.out | with_reducible refine MidS.set ?_ (by decide) _ | with_reducible refine MidS.drew ?_ | with_reducible refine MidS.drewN ?_ _ | with_reducible refine MidS.alloc ?_ _)); intro T q2 w2 hT2 hin2 hA2 hm2 hk2; have hX : w2.heap[X]? = some (.cells #[.int .i64 1, .int .i64 t, .string s, .string { data := #[] }, .slice none 0 0, .slice none 0 0, .slice none 0 0] 83 (0, 0)) := hm2.hX; have hR := hm2.hR; obtain ⟨x0, x1, x2, x3, x4, x5, x6⟩ := sevenC hX; have y0 := bk_free (k := 0) hX; have y2 := bk_free (k := 2) hX; have y3 := bk_free (k := 3) hX; have y4 := bk_free (k := 4) hX; have y5 := bk_free (k := 5) hX; have y6 := bk_free (k := 6) hX; obtain ⟨r0, r1, r2, r3, r4, r5, r6⟩ := sevenC hR; have z0 := bk_free (k := 0) hR; have z1 := bk_free (k := 1) hR; have z2 := bk_free (k := 2) hR; have z3 := bk_free (k := 3) hR; have z4 := bk_free (k := 4) hR; have z5 := bk_free (k := 5) hR; have z6 := bk_free (k := 6) hR; have hXlt : X < w2.heap.size := lt_of_block hX; have hRlt : w.heap.size < w2.heap.size := lt_of_block hR; have HM2 := Lib.hid hm2; have HK2 := Lib.hid hk2; have HT2 := Lib.hid (And.intro hT2 (And.intro hin2 hA2)); clear hX hR hm2 hk2 hT2 hin2 hA2)
  have HX3 := Lib.hid (bk_new w2 (.cells #[.int .i64 T.kind, .string T.op, .int .i64 T.n, .string T.name, .slice T.kaddr T.kids.length T.kcap] 30))
  have HM3 := Lib.hid (HM2.out.alloc (.cells #[.int .i64 T.kind, .string T.op, .int .i64 T.n, .string T.name, .slice T.kaddr T.kids.length T.kcap] 30))
  have HK3 := Lib.hid ((KeptP.refl (Three f w.heap.size X) w2).alloc (.cells #[.int .i64 T.kind, .string T.op, .int .i64 T.n, .string T.name, .slice T.kaddr T.kids.length T.kcap] 30))
  have hXO : X < w2.heap.size := HM2.out.xlt
  clear x0 x1 x2 x3 x4 x5 x6 y0 y2 y3 y4 y5 y6 r0 r1 r2 r3 r4 r5 r6 z0 z1 z2 z3 z4 z5 z6 hXlt hRlt c2 hc
  generalize (w2.alloc (.cells #[.int .i64 T.kind, .string T.op, .int .i64 T.n, .string T.name, .slice T.kaddr T.kids.length T.kcap] 30)) = w3 at HX3 HM3 HK3 ⊢
  generalize w2.heap.size = O at HX3 hXO ⊢
  obtain ⟨o0, o1, o2, o3, o4⟩ := cells5 HX3.out
  have HXO := Lib.hid hXO
  have neO : ¬ X = O := by omega
  clear hXO
  go_region_held3 (fun w' => w'.cell? ⟨O, 0, none⟩ = some (.int .i64 T.kind) ∧ w'.cell? ⟨O, 1, none⟩ = some (.string T.op) ∧ w'.cell? ⟨O, 2, none⟩ = some (.int .i64 T.n) ∧ w'.cell? ⟨O, 3, none⟩ = some (.string T.name) ∧ w'.cell? ⟨O, 4, none⟩ = some (.slice T.kaddr T.kids.length T.kcap)) ((refine ⟨?_, ?_, ?_, ?_, ?_⟩ <;> (repeat (first | with_reducible assumption | with_reducible refine cellD ?_ | with_reducible refine cellA ?_ _ | with_reducible refine cellS ?_ neO))))
    ((go_at_call 33; refine MidS.call_expr (F := F) (B := B) (w := w) (X := X) (left := left) (tag := tag') (q := q2) (c := upd (upd (st0 t) 0 (.int .i64 1)) 2 (.string s)) (e := 2) 2 (by decide) (by decide) ?_ ?_; (repeat (first | with_reducible exact HM3.out | with_reducible refine MidS.set ?_ (by decide) _ | with_reducible refine MidS.drew ?_ | with_reducible refine MidS.drewN ?_ _ | with_reducible refine MidS.alloc ?_ _)); intro U q4 w4 hT4 hin4 hA4 hm4 hk4; have hX : w4.heap[X]? = some (.cells #[.int .i64 1, .int .i64 t, .string s, .string { data := #[] }, .slice none 0 0, .slice none 0 0, .slice none 0 0] 83 (0, 0)) := hm4.hX; have hR := hm4.hR; obtain ⟨x0, x1, x2, x3, x4, x5, x6⟩ := sevenC hX; have y0 := bk_free (k := 0) hX; have y2 := bk_free (k := 2) hX; have y3 := bk_free (k := 3) hX; have y4 := bk_free (k := 4) hX; have y5 := bk_free (k := 5) hX; have y6 := bk_free (k := 6) hX; obtain ⟨r0, r1, r2, r3, r4, r5, r6⟩ := sevenC hR; have z0 := bk_free (k := 0) hR; have z1 := bk_free (k := 1) hR; have z2 := bk_free (k := 2) hR; have z3 := bk_free (k := 3) hR; have z4 := bk_free (k := 4) hR; have z5 := bk_free (k := 5) hR; have z6 := bk_free (k := 6) hR; have hXlt : X < w4.heap.size := lt_of_block hX; have hRlt : w.heap.size < w4.heap.size := lt_of_block hR; have HM4 := Lib.hid hm4; have HK4 := Lib.hid hk4; have HT4 := Lib.hid (And.intro hT4 (And.intro hin4 hA4)); have hO4 := (hk4.block O (lt_of_block HX3.out) (HM3.out.three HXO.out _ (Nat.le_refl _))).trans HX3.out; obtain ⟨p0, p1, p2, p3, p4⟩ := cells5 hO4; have hk34 : KeptP (Three f w.heap.size X) w3 w4 := KeptP.trans (by repeat (first | with_reducible exact KeptP.refl _ _ | with_reducible refine KeptP.set ?_ HPR.out _ _ | with_reducible refine KeptP.set ?_ HPX.out _ _ | with_reducible refine KeptP.drew ?_ | with_reducible refine KeptP.drewN ?_ _ | with_reducible refine KeptP.alloc ?_ _)) hk4; have HK34 := Lib.hid hk34; clear hO4 hk34 hX hR hm4 hk4 hT4 hin4 hA4))
  go_wp2
  refine bodyPost_ret (v := .agg #[.int .i64 1, .int .i64 t, .string s, .string { data := #[] }, .slice (some ⟨w4.heap.size, 0, none⟩) 2 2, .slice none 0 0, .slice none 0 0]) (by simp [results, Tryz.results93, go_sem, *]) rfl ?_
  obtain ⟨ht1, ht2⟩ := HT.out
  obtain ⟨hBX, hBR⟩ := HBX.out
  have hXR := HXR.out
  have hrr : w.heap.size ≤ w.heap.size := Nat.le_refl _
  have hrx : w.heap.size ≤ X := Nat.le_of_lt hXR
  refine ⟨.mk 1 t s mE (some ⟨w4.heap.size, 0, none⟩) 2 [T, U] none 0 [] none 0 [], q4, left, tag', rfl, gs_sto ht1.1 (by omega) _ HS.out HT2.out.1 (by decide) HT4.out.1 (by decide) _ _ _ _ _ _, ?_, ?_, ?_, by omega, by omega, by omega⟩
  · rw [ST.In]
    refine ⟨by omega, by simp, ?_, by rw [SsIn]; trivial, by rw [SsIn]; trivial⟩
    refine es_two_of (bk_new' _ (by simp)) (fun _ _ h => h) (KeptP.et (A := _) ?_ (HM2.out.three HT2.out.2.2) HT2.out.2.1 |>.mono (by have := HT2.out.2.2; omega)) (KeptP.et (A := _) ?_ (HM2.out.three HT4.out.2.2) HT4.out.2.1 |>.mono (by have := HT4.out.2.2; omega)) (by have := HM4.out.xlt; have := HM4.out.lt; omega)
    · (repeat (first | with_reducible exact (HK3.out.trans HK34.out) | with_reducible refine KeptP.set ?_ HPR.out _ _ | with_reducible refine KeptP.set ?_ HPX.out _ _ | with_reducible refine KeptP.drew ?_ | with_reducible refine KeptP.drewN ?_ _ | with_reducible refine KeptP.alloc ?_ _))
    · (repeat (first | with_reducible exact KeptP.refl _ _ | with_reducible refine KeptP.set ?_ HPR.out _ _ | with_reducible refine KeptP.set ?_ HPX.out _ _ | with_reducible refine KeptP.drew ?_ | with_reducible refine KeptP.drewN ?_ _ | with_reducible refine KeptP.alloc ?_ _))
  · have h1 := HM4.out.fd
    repeat (first | with_reducible exact h1 | with_reducible refine Fd.far ?_ hBX _ _ | with_reducible refine Fd.far ?_ hBR _ _ | with_reducible refine Fd.drew ?_ | with_reducible refine Fd.drewN ?_ _ | with_reducible refine Fd.alloc ?_ _)
  · have h0 := HM4.out.gr
    repeat (first | with_reducible exact h0 | with_reducible refine grown_new ?_ hrx _ _ | with_reducible refine grown_new ?_ hrr _ _ | with_reducible refine grown_drew ?_ | with_reducible refine grown_drewN ?_ _ | with_reducible refine grown_alloc ?_ _)

set_option maxHeartbeats 8000000 in
set_option maxRecDepth 100000 in
theorem tail_9f (D : Nat) (loop : Bool) (dv v t tag' left : Int) (X q0 : Nat) (v0 : 0 ≤ v) (v1 : v ≤ 255) (w wc : World) (K K1 : Act → World → Prop) (j3 j4 j5 j10 j11 j12 j13 j14 j15 j16 j17 j18 j19 j20 j21 j22 j23 j24 j25 j26 j27 j28 j29 j30 j31 j32 j33 j34 j35 j36 j37 j38 j39 j40 j41 j42 j43 j44 j45 j46 j47 j48 j49 j50 j51 j52 j53 j54 j55 j56 j57 j58 j59 j60 j61 j62 j63 j64 j65 j66 j67 j68 j69 j70 j71 j72 j73 j74 j75 j76 j77 j78 j79 j80 j81 j82 j83 j84 j85 j86 j87 j88 j89 j90 j91 j92 j93 j94 j95 j96 j97 j98 j99 j100 j101 j102 j103 j104 j105 j106 j107 j108 j109 j110 j111 j112 j113 j114 j115 j116 j117 j118 j119 j120 j121 j122 j123 j124 j125 j126 j127 j128 j129 j130 j131 j132 j133 j134 j135 j136 j137 j138 j139 j140 j141 j142 j143 j144 j145 j146 j147 j148 j149 j150 j151 j152 j153 j154 j155 j156 j157 j158 j159 j160 j161 j162 j163 j164 j165 j166 j167 j168 j169 j170 j171 j172 j173 j174 j175 j176 j177 j178 j179 j180 j181 j182 j183 j184 j185 j186 j187 j188 j189 j190 j191 j192 j193 j194 j195 j196 j197 j198 j199 j200 j201 j202 j203 j204 j205 j206 j207 j208 j209 j210 j211 j212 j213 j214 j215 j216 j217 j218 : Value) (hv32 : ¬ v % 32 < 16)
    (hK1 : ∀ a w', Code.wp Tryz.prog stEnd (bodyPost Tryz.prog Tryz.f93 (StPost F B f D w)) a w' → K1 a w') (hK : ∀ a w', Code.wp Tryz.prog stRest (Exit.then K1 (bodyPost Tryz.prog Tryz.f93 (StPost F B f D w))) a w' → K a w')
    (HT : Hid ((0 ≤ t ∧ t ≤ 24) ∧ 0 ≤ tag' ∧ tag' + left ≤ 24 ∧ 0 ≤ left)) (HM0 : Hid (MidS F B f w X (st0 t) q0 left tag' wc)) :
    Code.wp Tryz.prog stHead (Exit.then K (Exit.then K1 (bodyPost Tryz.prog Tryz.f93 (StPost F B f D w)))) ⟨#[.pointer (some ⟨f, 0, none⟩), .int .i64 dv, .bool loop, j3, j4, j5, .pointer (some ⟨w.heap.size, 0, none⟩), .int .i64 v, .int .i64 9, .pointer (some ⟨X, 0, none⟩), j10, j11, j12, j13, j14, j15, j16, j17, j18, j19, j20, j21, j22, j23, j24, j25, j26, j27, j28, j29, j30, j31, j32, j33, j34, j35, j36, j37, j38, j39, j40, j41, j42, j43, j44, j45, j46, j47, j48, j49, j50, j51, j52, j53, j54, j55, j56, j57, j58, j59, j60, j61, j62, j63, j64, j65, j66, j67, j68, j69, j70, j71, j72, j73, j74, j75, j76, j77, j78, j79, j80, j81, j82, j83, j84, j85, j86, j87, j88, j89, j90, j91, j92, j93, j94, j95, j96, j97, j98, j99, j100, j101, j102, j103, j104, j105, j106, j107, j108, j109, j110, j111, j112, j113, j114, j115, j116, j117, j118, j119, j120, j121, j122, j123, j124, j125, j126, j127, j128, j129, j130, j131, j132, j133, j134, j135, j136, j137, j138, j139, j140, j141, j142, j143, j144, j145, j146, j147, j148, j149, j150, j151, j152, j153, j154, j155, j156, j157, j158, j159, j160, j161, j162, j163, j164, j165, j166, j167, j168, j169, j170, j171, j172, j173, j174, j175, j176, j177, j178, j179, j180, j181, j182, j183, j184, j185, j186, j187, j188, j189, j190, j191, j192, j193, j194, j195, j196, j197, j198, j199, j200, j201, j202, j203, j204, j205, j206, j207, j208, j209, j210, j211, j212, j213, j214, j215, j216, j217, j218], []⟩ wc := by
  have hK1' := hK1
  have hK' := hK
  conv at hK1' => intro a w'; arg 1; arg 2; whnf
  conv at hK' => intro a w'; arg 1; arg 2; whnf
  conv => arg 2; whnf
  clear hK hK1
  have HB : f < w.heap.size := by have := HM0.out.hf; have := HM0.out.hB; omega
  have hRX : w.heap.size < X := HM0.out.lt
  have hX : wc.heap[X]? = some (.cells #[.int .i64 0, .int .i64 t, .string { data := #[] }, .string { data := #[] }, .slice none 0 0, .slice none 0 0, .slice none 0 0] 83 (0, 0)) := HM0.out.hX
  have hR := HM0.out.hR
  obtain ⟨x0, x1, x2, x3, x4, x5, x6⟩ := sevenC hX
  have y0 := bk_free (k := 0) hX
  have y2 := bk_free (k := 2) hX
  have y3 := bk_free (k := 3) hX
  have y4 := bk_free (k := 4) hX
  have y5 := bk_free (k := 5) hX
  have y6 := bk_free (k := 6) hX
  obtain ⟨r0, r1, r2, r3, r4, r5, r6⟩ := sevenC hR
  have z0 := bk_free (k := 0) hR
  have z1 := bk_free (k := 1) hR
  have z2 := bk_free (k := 2) hR
  have z3 := bk_free (k := 3) hR
  have z4 := bk_free (k := 4) hR
  have z5 := bk_free (k := 5) hR
  have z6 := bk_free (k := 6) hR
  have HXR : Hid (w.heap.size < X) := Lib.hid hRX
  have hXlt : X < wc.heap.size := lt_of_block hX
  have hRlt : w.heap.size < wc.heap.size := lt_of_block hR
  have HBX : Hid (B ≤ X ∧ B ≤ w.heap.size) := Lib.hid ⟨by have := HM0.out.hB; omega, HM0.out.hB⟩
  have HPR : Hid (Three f w.heap.size X w.heap.size) := Lib.hid (Or.inr (Or.inl rfl))
  have HPX : Hid (Three f w.heap.size X X) := Lib.hid (Or.inr (Or.inr rfl))
  have ne1 : ¬ w.heap.size = f := by omega
  have ne3 : ¬ X = w.heap.size := by omega
  have ne4 : ¬ w.heap.size = X := by omega
  have ne5 : ¬ X = f := by omega
  clear hX hR hRX
  obtain ⟨r, hr⟩ : ∃ r, v % 32 = r := ⟨_, rfl⟩
  have hr' : v.tmod 32 = r := by rw [Int.tmod_eq_emod_of_nonneg v0]; exact hr
  rw [hr] at hv32
  have kd : decide (r < 16) = false := by simp; omega
  obtain ⟨k, n, s, hn0, hn1, hn2, hkk, hvv, hs, hnm, hc⟩ := pick_name HM0.out.fd.ints v0
  have c2 := HM0.out.fd.c2
  rw [hn0] at c2
  have HS := Lib.hid hnm
  have neA : ¬ X = F.ia := by have := HM0.out.fd.ints.1; have := HBX.out; omega
  have neB : ¬ w.heap.size = F.ia := by have := HM0.out.fd.ints.1; have := HBX.out; omega
  clear hn0 hs hnm
  have t1 : (v.tdiv 16).tmod n = k := by rw [← hvv, Int.tdiv_eq_ediv_of_nonneg v0, Int.tmod_eq_emod_of_nonneg (by omega)]
  have t2 : (v / 16).tmod n = k := by rw [← hvv, Int.tmod_eq_emod_of_nonneg (by omega)]
  have n0 : ((n : Int) == 0) = false := by simp; omega
  have u1 : IntKind.i64.wrap (v.tdiv 16) = v / 16 := by rw [Int.tdiv_eq_ediv_of_nonneg v0]; exact IntWalk.i64_in _ (by omega)
  have u3 : (IntKind.i64.wrap (v.tdiv 16)).tmod n = k := by rw [u1]; exact t2
  have u4 : IntKind.i64.wrap (v / 16) = v / 16 := IntWalk.i64_in _ (by omega)
  have n3 : (n == 0) = false := by simp; omega
  have n4 : ¬ n = 0 := by omega
  have n5 : (0 : Int) < n := by omega
  have k0 : (0 : Int) ≤ k := by omega
  have k1 : (k : Int) < n := by omega
  go_wp2
  go_region_held3 (fun w' => w'.cell? ⟨f, 2, none⟩ = some (.slice (some ⟨F.ia, 0, none⟩) n n) ∧ w'.cell? ⟨F.ia, k, none⟩ = some (.string s)) (go_keep) (fail)
  go_wp2_with (go_at_call 33; refine MidS.call_expr (F := F) (B := B) (w := w) (X := X) (left := left) (tag := tag') (q := q0) (c := upd (upd (upd (st0 t) 0 (.int .i64 3)) 2 (.string s)) 3 (.string { data := #[103] })) (e := 1) 1 (by decide) (by decide) ?_ ?_; (repeat (first | with_reducible exact HM0.out | with_reducible refine MidS.set ?_ (by decide) _ | with_reducible refine MidS.drew ?_ | with_reducible refine MidS.drewN ?_ _ | with_reducible refine MidS.alloc ?_ _)); intro T q2 w2 hT2 hin2 hA2 hm2 hk2; have hX : w2.heap[X]? = some (.cells #[.int .i64 3, .int .i64 t, .string s, .string { data := #[103] }, .slice none 0 0, .slice none 0 0, .slice none 0 0] 83 (0, 0)) := hm2.hX; have hR := hm2.hR; obtain ⟨x0, x1, x2, x3, x4, x5, x6⟩ := sevenC hX; have y0 := bk_free (k := 0) hX; have y2 := bk_free (k := 2) hX; have y3 := bk_free (k := 3) hX; have y4 := bk_free (k := 4) hX; have y5 := bk_free (k := 5) hX; have y6 := bk_free (k := 6) hX; obtain ⟨r0, r1, r2, r3, r4, r5, r6⟩ := sevenC hR; have z0 := bk_free (k := 0) hR; have z1 := bk_free (k := 1) hR; have z2 := bk_free (k := 2) hR; have z3 := bk_free (k := 3) hR; have z4 := bk_free (k := 4) hR; have z5 := bk_free (k := 5) hR; have z6 := bk_free (k := 6) hR; have hXlt : X < w2.heap.size := lt_of_block hX; have hRlt : w.heap.size < w2.heap.size := lt_of_block hR; have HM2 := Lib.hid hm2; have HK2 := Lib.hid hk2; have HT2 := Lib.hid (And.intro hT2 (And.intro hin2 hA2)); clear hX hR hm2 hk2 hT2 hin2 hA2)
  refine bodyPost_ret (v := .agg #[.int .i64 3, .int .i64 t, .string s, .string { data := #[103] }, .slice (some ⟨w2.heap.size, 0, none⟩) 1 1, .slice none 0 0, .slice none 0 0]) (by simp [results, Tryz.results93, go_sem, *]) rfl ?_
  obtain ⟨ht1, ht2⟩ := HT.out
  obtain ⟨hBX, hBR⟩ := HBX.out
  have hXR := HXR.out
  have hrr : w.heap.size ≤ w.heap.size := Nat.le_refl _
  have hrx : w.heap.size ≤ X := Nat.le_of_lt hXR
  refine ⟨.mk 3 t s { data := #[103] } (some ⟨w2.heap.size, 0, none⟩) 1 [T] none 0 [] none 0 [], q2, left, tag', rfl, gs_call1 ht1.1 (by omega) _ HS.out rfl HT2.out.1 (by decide) _ _ _ _ _ _, ?_, ?_, ?_, by omega, by omega, by omega⟩
  · rw [ST.In]
    refine ⟨by omega, by simp, ?_, by rw [SsIn]; trivial, by rw [SsIn]; trivial⟩
    refine es_one_at (bk_new' _ (by simp)) (KeptP.et (A := _) ?_ (HM2.out.three HT2.out.2.2) HT2.out.2.1 |>.mono (by have := HT2.out.2.2; omega)) (by have := HT2.out.2.2; have := HM2.out.xlt; omega)
    (repeat (first | with_reducible exact KeptP.refl _ _ | with_reducible refine KeptP.set ?_ HPR.out _ _ | with_reducible refine KeptP.set ?_ HPX.out _ _ | with_reducible refine KeptP.drew ?_ | with_reducible refine KeptP.drewN ?_ _ | with_reducible refine KeptP.alloc ?_ _))
  · have h1 := HM2.out.fd
    repeat (first | with_reducible exact h1 | with_reducible refine Fd.far ?_ hBX _ _ | with_reducible refine Fd.far ?_ hBR _ _ | with_reducible refine Fd.drew ?_ | with_reducible refine Fd.drewN ?_ _ | with_reducible refine Fd.alloc ?_ _)
  · have h0 := HM2.out.gr
    repeat (first | with_reducible exact h0 | with_reducible refine grown_new ?_ hrx _ _ | with_reducible refine grown_new ?_ hrr _ _ | with_reducible refine grown_drew ?_ | with_reducible refine grown_drewN ?_ _ | with_reducible refine grown_alloc ?_ _)
end
end Go.Proofs.YtppeogcpoplpeaaGreatDoor
