/- The chapter's examples. (Written by genex4.py.) From the rows' condition on the listed variables: strconv's two errors are errors, its table is the powers of ten. -/
import Derived.Test.YtgkdoealhbhnmaaGreatDoorPParse
import Derived.Test.YtgkdoealhbhnmaaGreatDoorTLaid
import Derived.Stop.LaidErr
set_option linter.unusedSimpArgs false
set_option linter.unusedVariables false
namespace Go.Proofs.YtgkdoealhbhnmaaGreatDoor.Pm
open Go Go.RowKit Go.Proofs.YtgkdoealhbhnmaaGreatDoor
open Go.Lib (hid)

def et1 : List UInt8 := [102, 117, 110, 99, 32, 109, 97, 105, 110, 40, 41, 32, 123, 32, 118, 97, 114, 32, 97, 44, 32, 120, 91, 51, 93, 59, 32, 64, 50, 32, 119, 104, 105, 108, 101, 32, 40, 97, 32, 60, 32, 51, 41, 32, 123, 32, 120, 91, 97, 93, 32, 61, 32, 45, 53, 59, 32, 97, 32, 61, 32, 97, 32, 43, 32, 49, 59, 32, 125, 32, 125]
def et2 : List UInt8 := [102, 117, 110, 99, 32, 109, 97, 105, 110, 40, 41, 32, 123, 32, 97, 32, 61, 32, 59, 32, 125]
def et3 : List UInt8 := [102, 117, 110, 99, 32, 109, 97, 105, 110, 40, 41, 32, 123]
def et4 : List UInt8 := [49, 32, 43, 32, 50, 32, 42, 32, 51, 32, 45, 32, 45, 40, 52, 41]
def et5 : List UInt8 := [57, 50, 50, 51, 51, 55, 50, 48, 51, 54, 56, 53, 52, 55, 55, 53, 56, 48, 56]
def et6 : List UInt8 := [45, 57, 50, 50, 51, 51, 55, 50, 48, 51, 54, 56, 53, 52, 55, 55, 53, 56, 48, 56]
def et7 : List UInt8 := [40, 40, 97, 41, 41]
def et8 : List UInt8 := [97, 32, 43]
def ef1 : RF := ⟨[109, 97, 105, 110], [], [([97], 0), ([120], 3)], [.whl 2 (.bin [60] (.var [97]) (.num 3)) [.sto 0 [120] (.var [97]) (.num (-5)), .asg 0 [97] (.bin [43] (.var [97]) (.num 1))]]⟩
def ex4 : RE := .bin [45] (.bin [43] (.num 1) (.bin [42] (.num 2) (.num 3))) (.un 45 (.num 4))
theorem ev1 : parseF 100 et1 = .ok [ef1] 3 := by kernel_rfl
theorem ev2 : parseF 100 et2 = .bad 18 3 := by kernel_rfl
theorem ev3 : parseF 100 et3 = .bad 13 3 := by kernel_rfl
theorem ev4 : exprF 100 et4 = .ok ex4 2 := by kernel_rfl
theorem ev5 : exprF 100 et5 = .bad 0 3 := by kernel_rfl
theorem ev6 : exprF 100 et6 = .ok (.num (-9223372036854775808)) 0 := by kernel_rfl
theorem ev7 : exprF 100 et7 = .ok (.var [97]) 2 := by kernel_rfl
theorem ev7p : parseF 100 et7 = .bad 0 3 := by kernel_rfl
theorem ev8 : exprF 100 et8 = .bad 3 3 := by kernel_rfl
theorem ev8p : parseF 100 et8 = .bad 0 3 := by kernel_rfl
theorem eput : putR levL ex4 = et4 := by kernel_rfl
structure Wo (w : World) : Prop where
  er : Lx.Errs w
  pw : Pow w
theorem Wo.on {w w' : World} (h : Wo w) (hp : Past w w') : Wo w' := ⟨h.er.on (show Lx.Past w w' from hp), h.pw.on hp⟩
theorem cellA {w w' : World} {o : Obj} {p : Addr} {v : Value} (hb : Below (w.alloc o).heap.size (w.alloc o) w') (hc : w.cell? p = some v) : w'.cell? p = some v := by
  have hlt := World.block_lt_of_cell? w p hc
  rw [World.cell?_of_block (w := w.alloc o) (hb.block p.block (by simp; omega)), World.cell?_alloc_lt _ _ _ hlt]
  exact hc
theorem cell0 {w w' : World} {p : Addr} {v : Value} (hb : Below w.heap.size w w') (hc : w.cell? p = some v) : w'.cell? p = some v := by
  have hlt := World.block_lt_of_cell? w p hc
  rw [World.cell?_of_block (w := w) (hb.block p.block hlt)]
  exact hc
theorem inA {w w' : World} {o : Obj} {T : ET} {A : Nat} (hb : Below (w.alloc o).heap.size (w.alloc o) w') (hT : T.In w A) : T.In w' A := hT.keep fun p v _ hc => cellA hb hc
theorem past_alloc {w0 w w' : World} {o : Obj} (h : Past w0 w) (hb : Below (w.alloc o).heap.size (w.alloc o) w') : Past w0 w' := (h.alloc o).on hb
theorem tag_of {S : ST} {t : Nat} (h : S.rightB = true) (e : S.rs.tag = t) : S.tag = (t : Int) := by
  obtain ⟨k, t0, n, g, ea, ec, x, ba, bc, b, la, lc, l⟩ := S
  rw [ST.rightB] at h
  simp only [Bool.and_eq_true] at h
  have h1 := h.1.1.1
  unfold formedS at h1
  have h0 : ¬ (t0 < 0 ∨ 1000000 < t0) := fun h0 => by rw [if_pos h0] at h1; cases h1
  have e2 : t0.toNat = t := by
    rw [← e, ST.rs]
    repeat' split
    all_goals rfl
  show t0 = _
  omega
section
variable {w0 w : World}
theorem one_tag {a : Option Addr} {l : List FT} {w : World} {A : Nat} (h1 : l.map FT.rf = [ef1]) (h2 : l.all FT.rightB = true) (h3 : FsIn w A a l) : ∃ b o c b2 o2 c2, a = some ⟨b, o, none⟩ ∧ l.length = 1 ∧ w.cell? ⟨b, o + 3, none⟩ = some (.slice (some ⟨b2, o2, none⟩) 1 c2) ∧ w.cell? ⟨b2, o2 + 1, none⟩ = some (.int .i64 2) ∧ c = 0 := by
  have hl1 : l.length = 1 := by have := congrArg List.length h1; simpa using this
  obtain ⟨K, rfl⟩ := List.length_eq_one_iff.1 hl1
  simp only [List.map_cons, List.map_nil, List.cons.injEq, and_true] at h1
  simp only [List.all_cons, List.all_nil, Bool.and_true] at h2
  have hb : rss K.body = ef1.body := by rw [← h1]; rfl
  have hbl : K.body.length = 1 := by have := congrArg List.length hb; rw [rss_map, List.length_map] at this; exact this
  obtain ⟨S, hS1⟩ := List.length_eq_one_iff.1 hbl
  obtain ⟨b, o, e, -, hc⟩ := h3.row 0 (by simp)
  have hss := (h3.fs 0 (by simp)).ss
  have hc3 := hc 3 (.slice K.ba K.body.length K.bc) rfl
  simp only [List.getElem_cons_zero] at hss
  rw [hS1] at hss hb hc3
  rw [SsIn] at hss
  obtain ⟨⟨b2, o2, e2, -, hd⟩, hS, -⟩ := hss
  rw [e2] at hc3
  have hd1 := hd 1 (.int .i64 S.tag) (by rw [ST.cells_eq]; rfl)
  have hrs : S.rs = .whl 2 (.bin [60] (.var [97]) (.num 3)) [.sto 0 [120] (.var [97]) (.num (-5)), .asg 0 [97] (.bin [43] (.var [97]) (.num 1))] := by
    simp only [rss, ef1, List.cons.injEq, and_true] at hb
    exact hb
  have hrt : S.rightB = true := by
    simp only [FT.rightB, Bool.and_eq_true] at h2
    have h5 := h2.2.2.2
    rw [hS1] at h5
    simp only [rightSs, Bool.and_true] at h5
    exact h5
  have ht : S.tag = 2 := tag_of hrt (by rw [hrs]; rfl)
  rw [ht] at hd1
  refine ⟨b, o, 0, b2, o2, K.bc, e, rfl, ?_, ?_, rfl⟩
  · rw [show o + 0 * 4 + 3 = o + 3 by omega] at hc3; exact hc3
  · rw [show o2 + 0 * 7 + 1 = o2 + 1 by omega] at hd1; exact hd1
theorem exa_p1 (H : Wo w) (sb : ByteArray) (hs : sb.data.toList = et1) : Calls Tryz.prog 13 #[.string sb] w fun e w' => Below w.heap.size w w' ∧ ∃ b o k b2 o2 c2, e = .returned (.tuple #[.agg #[.slice (some ⟨b, o, none⟩) 1 k], .int .i64 71, .int .i64 0]) ∧ w'.cell? ⟨b, o + 3, none⟩ = some (.slice (some ⟨b2, o2, none⟩) 1 c2) ∧ w'.cell? ⟨b2, o2 + 1, none⟩ = some (.int .i64 2) := by
  have hz : sb.size = 71 := by show sb.data.toList.length = 71; rw [hs]; rfl
  refine (pParse_any 100 sb (by omega) H.er (by rw [hs]; exact finA_ok ev1)).mono ?_
  intro e w' hq
  rw [hs, ev1] at hq
  obtain ⟨hb, v, rfl, a, c, l, rfl, h1, h2, h3, h4⟩ := hq
  obtain ⟨b, o, k, b2, o2, c2, rfl, hl, g3, g1, -⟩ := one_tag h1 h2 h3
  rw [hl]
  exact ⟨hb, b, o, c, b2, o2, c2, rfl, g3, g1⟩
theorem exa_pbad (H : Wo w) (sb : ByteArray) {l : List UInt8} {p : Nat} (hs : sb.data.toList = l) (hl : l.length ≤ 8192) (ev : parseF 100 l = .bad p 3) : Calls Tryz.prog 13 #[.string sb] w fun e w' => Below w.heap.size w w' ∧ e = .returned (.tuple #[.agg #[.slice none 0 0], .int .i64 (p : Nat), .int .i64 3]) := by
  subst hs
  refine (pParse_any 100 sb hl H.er (finA_bad ev (by decide))).mono ?_
  intro e w' hq
  rw [ev] at hq
  exact ⟨hq.1, hq.2⟩
theorem exa_ebad (H : Wo w) (sb : ByteArray) {l : List UInt8} {p : Nat} (hs : sb.data.toList = l) (hl : l.length ≤ 8192) (ev : exprF 100 l = .bad p 3) : Calls Tryz.prog 18 #[.string sb] w fun e w' => Below w.heap.size w w' ∧ e = .returned (.tuple #[zE, .int .i64 (p : Nat), .int .i64 3]) := by
  subst hs
  refine (pExpr_any 100 sb hl H.er (finA_bad ev (by decide))).mono ?_
  intro e w' hq
  rw [ev] at hq
  exact ⟨hq.1, hq.2⟩
def EOk (r : RE) (n : Nat) (w : World) (e : Ending) (w' : World) : Prop := Below w.heap.size w w' ∧ ∃ T : ET, e = .returned (.tuple #[.agg #[.int .i64 T.kind, .string T.op, .int .i64 T.n, .string T.name, .slice T.kaddr T.kids.length T.kcap], .int .i64 (n : Nat), .int .i64 0]) ∧ T.re = r ∧ T.rightB = true ∧ T.In w' w.heap.size
theorem expr_fine (H : Wo w) (m : Nat) (sb : ByteArray) {l : List UInt8} {r : RE} {mo : Nat} (hs : sb.data.toList = l) (hl : l.length ≤ 8192) (ev : exprF m l = .ok r mo) : Calls Tryz.prog 18 #[.string sb] w (EOk r l.length w) := by
  subst hs
  refine (pExpr_any m sb hl H.er (finA_ok ev)).mono ?_
  intro e w' hq
  rw [ev] at hq
  obtain ⟨hb, v, rfl, T, hv, hT⟩ := hq
  rw [ET.val_is] at hv
  subst hv
  exact ⟨hb, T, rfl, hT⟩
theorem nest_fine (H : Wo w) (m : Nat) (sb : ByteArray) {l : List UInt8} {r : RE} {mo p : Nat} (hs : sb.data.toList = l) (hl : l.length ≤ 8192) (ev : exprF m l = .ok r mo) (ep : parseF m l = .bad p 3) : Calls Tryz.prog 15 #[.string sb] w fun e w' => e = .returned (.int .i64 (mo : Nat)) ∧ Below w.heap.size w w' := by
  subst hs
  have hv : nestF m sb.data.toList = (mo : Nat) := by unfold nestF; rw [ep]; simp only; rw [ev]
  refine (pNest_any m sb hl H.er (finA_bad ep (by decide)) (fun _ => finA_ok ev) (fun q n e => by rw [ep] at e; cases e; decide) (fun q n e => by rw [ev] at e; cases e)).mono ?_
  intro e w' hq
  rw [hv] at hq
  exact hq
theorem nest_bad (H : Wo w) (m : Nat) (sb : ByteArray) {l : List UInt8} {q n p : Nat} (hs : sb.data.toList = l) (hl : l.length ≤ 8192) (ev : exprF m l = .bad q n) (hn : n ≠ 99 ∧ n ≠ 0) (ep : parseF m l = .bad p 3) : Calls Tryz.prog 15 #[.string sb] w fun e w' => e = .returned (.int .i64 (-1)) ∧ Below w.heap.size w w' := by
  subst hs
  have hv : nestF m sb.data.toList = -1 := by unfold nestF; rw [ep]; simp only; rw [ev]
  refine (pNest_any m sb hl H.er (finA_bad ep (by decide)) (fun _ => finA_bad ev hn.1) (fun q n e => by rw [ep] at e; cases e; decide) (fun q n e => by rw [ev] at e; cases e; exact hn.2)).mono ?_
  intro e w' hq
  rw [hv] at hq
  exact hq
theorem put_five {w : World} (H : Wo w) {T : ET} {A : Nat} (hin : T.In w A) (hr : T.rightB = true) {r : RE} {l : List UInt8} (e : T.re = r) (el : putR levL r = l) (hl : l.length ≤ 100000) : Calls Tryz.prog 17 #[.agg #[.int .i64 T.kind, .string T.op, .int .i64 T.n, .string T.name, .slice T.kaddr T.kids.length T.kcap]] w fun e w' => e = .returned (.string ⟨l.toArray⟩) ∧ Below w.heap.size w w' := by
  have h := putExpr_any (w0 := w) H.pw (hin.mono (Nat.zero_le _)) hr (by rw [e, el]; omega) w (Past.refl _)
  rw [ET.val_is, e, el] at h
  exact h
theorem inB {w : World} {o : Obj} {T : ET} {A : Nat} (hT : T.In w A) : T.In (w.alloc o) A := hT.on ((Below.refl _ _).alloc (Nat.le_refl _) _)
theorem n_of {T : ET} {n : Int} (h : T.re = .num n) (hr : T.rightB = true) : T.n = n := by
  rcases right_cases hr with ⟨n', a, c, rfl⟩ | ⟨m, a, c, _, rfl⟩ | ⟨m, a, c, e, _, _, rfl⟩ | ⟨o, a, c, e, _, _, rfl⟩ | ⟨o, a, c, e, f, _, _, _, rfl⟩
  · simp [ET.re] at h
    exact h
  · simp [ET.re] at h
  · simp [ET.re] at h
  · simp [ET.re] at h
  · simp [ET.re] at h
set_option maxHeartbeats 8000000 in
set_option maxRecDepth 100000 in
theorem ex_any (H0 : Wo w) : Calls Tryz.prog 10 #[] w fun e w' => e = .returned (.bool true) ∧ Past w w' := by
  have HO := hid H0
  clear H0
  go_enter Tryz.func10, Tryz.ntmps10
  go_wp2_with (first
    | (go_at_call 15; refine (nest_bad (HO.out.on HP8.out) 100 _ (l := et8) rfl (by decide) ev8 (by decide) ev8p).mono ?_; rintro e w9 ⟨rfl, hb⟩; have HP9 : Hid (Past w w9) := hid (HP8.out.on hb); clear hb)
    | (go_at_call 15; refine (nest_fine (HO.out.on HP7.out) 100 _ (l := et7) rfl (by decide) ev7 ev7p).mono ?_; rintro e w8 ⟨rfl, hb⟩; have HP8 : Hid (Past w w8) := hid (HP7.out.on hb); clear hb)
    | (go_at_call 17; refine (put_five (HO.out.on (HP6.out.alloc _)) (inB HI6.out) HT4.out.2.1 HT4.out.1 eput (by decide)).mono ?_; rintro e w7 ⟨rfl, hb⟩; have HP7 : Hid (Past w w7) := hid ((HP6.out.alloc _).on hb); have y2 : w7.cell? ⟨w6.heap.size, 2, none⟩ = some (.int .i64 T6.n) := bk_cell (k := 2) ((hb.block w6.heap.size (by simp)).trans (bk_new w6 (.cells #[.int .i64 T6.kind, .string T6.op, .int .i64 T6.n, .string T6.name, .slice T6.kaddr T6.kids.length T6.kcap] 43))) rfl; rw [n_of HT6.out.1 HT6.out.2.1] at y2; have y2l : w6.heap.size < w7.heap.size := Nat.lt_of_lt_of_le (by simp) hb.size; clear hb)
    | (go_at_call 18; refine (expr_fine (HO.out.on (HP5.out.alloc oE)) 100 _ (l := et6) rfl (by decide) ev6).mono ?_; rintro e w6 ⟨hb, T6, rfl, hT⟩; have HT6 := hid hT; have HP6 : Hid (Past w w6) := hid (past_alloc HP5.out hb); have g3 := cellA hb G3_5.out; have g1 := cellA hb G1_5.out; have G3_6 := hid g3; have G1_6 := hid g1; have q1 := (hb.block w1.heap.size (lt_of_block (bk_old oE Q1_5.out))).trans (bk_old oE Q1_5.out); have Q1_6 := hid q1; clear q1; have q4 := (hb.block w4.heap.size (lt_of_block (bk_old oE Q4_5.out))).trans (bk_old oE Q4_5.out); have Q4_6 := hid q4; clear q4; have HI6 := hid (inA hb HI5.out); clear hb g3 g1 hT; have p1 := bk_cell (k := 0) Q1_6.out rfl; have p1l := lt_of_block Q1_6.out; have p3 := G3_6.out; have p2 := G1_6.out; have p3l := World.block_lt_of_cell? w6 _ G3_6.out; have p2l := World.block_lt_of_cell? w6 _ G1_6.out; have x0 := bk_cell (k := 0) Q4_6.out rfl; have x1 := bk_cell (k := 1) Q4_6.out rfl; have x2 := bk_cell (k := 2) Q4_6.out rfl; have x3 := bk_cell (k := 3) Q4_6.out rfl; have x4 := bk_cell (k := 4) Q4_6.out rfl; have x0l := lt_of_block Q4_6.out)
    | (go_at_call 18; refine (exa_ebad (HO.out.on (HP4.out.alloc (.cells #[.int .i64 T4.kind, .string T4.op, .int .i64 T4.n, .string T4.name, .slice T4.kaddr T4.kids.length T4.kcap] 43))) _ (l := et5) rfl (by decide) ev5).mono ?_; rintro e w5 ⟨hb, rfl⟩; have HP5 : Hid (Past w w5) := hid (past_alloc HP4.out hb); have g3 := cellA hb G3_4.out; have g1 := cellA hb G1_4.out; have G3_5 := hid g3; have G1_5 := hid g1; have q1 := (hb.block w1.heap.size (lt_of_block (bk_old (.cells #[.int .i64 T4.kind, .string T4.op, .int .i64 T4.n, .string T4.name, .slice T4.kaddr T4.kids.length T4.kcap] 43) Q1_4.out))).trans (bk_old (.cells #[.int .i64 T4.kind, .string T4.op, .int .i64 T4.n, .string T4.name, .slice T4.kaddr T4.kids.length T4.kcap] 43) Q1_4.out); have Q1_5 := hid q1; clear q1; have q4 := (hb.block w4.heap.size (by simp)).trans (bk_new w4 (.cells #[.int .i64 T4.kind, .string T4.op, .int .i64 T4.n, .string T4.name, .slice T4.kaddr T4.kids.length T4.kcap] 43)); have Q4_5 := hid q4; clear q4; have HI5 := hid (inA hb HT4.out.2.2); clear hb g3 g1)
    | (go_at_call 18; refine (expr_fine (HO.out.on (HP3.out.alloc (.cells #[.slice none 0 0] 24))) 100 _ (l := et4) rfl (by decide) ev4).mono ?_; rintro e w4 ⟨hb, T4, rfl, hT⟩; have HT4 := hid hT; have HP4 : Hid (Past w w4) := hid (past_alloc HP3.out hb); have g3 := cellA hb G3_3.out; have g1 := cellA hb G1_3.out; have G3_4 := hid g3; have G1_4 := hid g1; have q1 := (hb.block w1.heap.size (lt_of_block (bk_old (.cells #[.slice none 0 0] 24) Q1_3.out))).trans (bk_old (.cells #[.slice none 0 0] 24) Q1_3.out); have Q1_4 := hid q1; clear q1; clear hb g3 g1 hT)
    | (go_at_call 13; refine (exa_pbad (HO.out.on (HP2.out.alloc (.cells #[.slice none 0 0] 24))) _ (l := et3) rfl (by decide) ev3).mono ?_; rintro e w3 ⟨hb, rfl⟩; have HP3 : Hid (Past w w3) := hid (past_alloc HP2.out hb); have g3 := cellA hb G3_2.out; have g1 := cellA hb G1_2.out; have G3_3 := hid g3; have G1_3 := hid g1; have q1 := (hb.block w1.heap.size (lt_of_block (bk_old (.cells #[.slice none 0 0] 24) Q1_2.out))).trans (bk_old (.cells #[.slice none 0 0] 24) Q1_2.out); have Q1_3 := hid q1; clear q1; clear hb g3 g1)
    | (go_at_call 13; refine (exa_pbad (HO.out.on (HP1.out.alloc (.cells #[.slice (some ⟨b, o, none⟩) 1 k] 24))) _ (l := et2) rfl (by decide) ev2).mono ?_; rintro e w2 ⟨hb, rfl⟩; have HP2 : Hid (Past w w2) := hid (past_alloc HP1.out hb); have g3 := cellA hb G3.out; have g1 := cellA hb G1.out; have G3_2 := hid g3; have G1_2 := hid g1; have q1 := (hb.block w1.heap.size (by simp)).trans (bk_new w1 (.cells #[.slice (some ⟨b, o, none⟩) 1 k] 24)); have Q1_2 := hid q1; clear q1; clear hb g3 g1)
    | (go_at_call 13; refine (exa_p1 HO.out _ rfl).mono ?_; rintro e w1 ⟨hb, b, o, k, b2, o2, c2, rfl, g3, g1⟩; have HP1 : Hid (Past w w1) := hid (Past.on (Past.refl w) hb); have G3 := hid g3; have G1 := hid g1; clear hb g3 g1))
  go_ret
  exact ⟨rfl, HP9.out⟩
end
end Go.Proofs.YtgkdoealhbhnmaaGreatDoor.Pm

namespace Go.Proofs.YtgkdoealhbhnmaaGreatDoor.Pm
open Go Go.RowKit Go.Proofs.YtgkdoealhbhnmaaGreatDoor
open Go.Lib (hid)
theorem gSyn : Tryz.prog.globalNamed "strconv.ErrSyntax" = some 3 := by kernel_rfl
theorem gRng : Tryz.prog.globalNamed "strconv.ErrRange" = some 4 := by kernel_rfl
theorem gSynT : (Tryz.prog.globals[3]?).map (·.type) = some 147 := by kernel_rfl
theorem gRngT : (Tryz.prog.globals[4]?).map (·.type) = some 147 := by kernel_rfl
theorem starErr : "*" ++ "errors.errorString" = "*errors.errorString" := by decide
theorem row_err (u : TypeId) (h : Tryz.prog.typeName? 3 u = some "*errors.errorString") : u = 236 :=
  typeName_ptr_named (nm := "errors.errorString") (by rw [starErr]; kernel_rfl) (by kernel_rfl) (by decide) u (by rw [starErr]; exact h)
theorem errs_facts {x y z : String × DataW Unit} {W : World}
    (h : laidMet Tryz.prog [x, y, z, ("strconv.ErrRange", .iface "*errors.errorString" (.ptr (.agg [.lit (.string [118, 97, 108, 117, 101, 32, 111, 117, 116, 32, 111, 102, 32, 114, 97, 110, 103, 101])]))), ("strconv.ErrSyntax", .iface "*errors.errorString" (.ptr (.agg [.lit (.string [105, 110, 118, 97, 108, 105, 100, 32, 115, 121, 110, 116, 97, 120])])))] W) : Lx.Errs W := by
  have h3 := h.tail.tail.tail
  obtain ⟨a1, s1, hv1, _⟩ := laid_sentinel h3 gRng gRngT Tryz.underlying147 row_err Tryz.underlying236 Tryz.underlying238 rfl rfl Tryz.underlying9 (by kernel_rfl) (by kernel_rfl)
  obtain ⟨a2, s2, hv2, _⟩ := laid_sentinel h3.tail gSyn gSynT Tryz.underlying147 row_err Tryz.underlying236 Tryz.underlying238 rfl rfl Tryz.underlying9 (by kernel_rfl) (by kernel_rfl)
  exact ⟨⟨_, _, hv2⟩, ⟨_, _, hv1⟩⟩
theorem wo_facts {x y : String × DataW Unit} {W : World} (h : laidMet Tryz.prog [x, y, ("internal/strconv.uint64pow10", (Lib.tabData .u64 Lib.pow10Tab : DataW Unit)), ("strconv.ErrRange", .iface "*errors.errorString" (.ptr (.agg [.lit (.string [118, 97, 108, 117, 101, 32, 111, 117, 116, 32, 111, 102, 32, 114, 97, 110, 103, 101])]))), ("strconv.ErrSyntax", .iface "*errors.errorString" (.ptr (.agg [.lit (.string [105, 110, 118, 97, 108, 105, 100, 32, 115, 121, 110, 116, 97, 120])])))] W) : Wo W :=
  ⟨errs_facts h, laid_facts h⟩
end Go.Proofs.YtgkdoealhbhnmaaGreatDoor.Pm
