/- Expressions that are parsed: what stands within brackets, numbers, names, operations of one. What stands where an operation asks for something: the contract of operand, of expr. (Written by genop.py.) Operations of two, one behind the other, as tightly as is asked: the contract of bound, and of all that leans on it. (Written by genbound.py.) -/
import Derived.Test.YtdaklmbifkehpaaGreatDoorPTake
set_option linter.unusedSimpArgs false
set_option linter.unusedVariables false
namespace Go.Proofs.YtdaklmbifkehpaaGreatDoor.Pm
open Go Go.RowKit Go.Proofs.YtdaklmbifkehpaaGreatDoor
open Go.Lib (hid)

def Two (f R b : Nat) : Prop := b = f ∨ b = R
theorem two_no {f R A : Nat} (h1 : f < A) (h2 : R < A) : ∀ b, A ≤ b → ¬ Two f R b := fun b hb h => by unfold Two at h; omega
theorem CE.on {P : Nat → Prop} {r : RE} {v : Value} {A A' : Nat} {w1 w2 : World} (h : CE r v A w1) (hk : KeptP P w1 w2) (hP : ∀ b, A ≤ b → ¬ P b) (hA : A' ≤ A) : CE r v A' w2 := by
  obtain ⟨T, rfl, h1, h2, h3⟩ := h
  exact ⟨T, rfl, h1, h2, (hk.et hP h3).mono hA⟩
section
variable {F : PC} {B f : Nat} {s : PS} {w : World}
def RuleE (F : PC) (B f : Nat) (m : PS → PR RE) : Prop := ∀ (s1 : PS) (w1 : World), Pa F B f s1 w1 → Fin (m s1) → Calls Tryz.prog 52 #[ptrP f] w1 (QPost F B f CE (m s1) w1)
set_option maxHeartbeats 2000000 in
set_option maxRecDepth 100000 in
theorem withinE_any (m : PS → PR RE) (hm : RuleE F B f m) (hk : Keeps m) (o c : ByteArray) (lo lc : List UInt8) (ho : o.data.toList = lo) (hc : c.data.toList = lc) (h1 : opens lo = true) (h2 : opens lc = false) (h3 : shuts lc = true) (h4 : shuts lo = false) (h5 : lo ≠ []) (h6 : lc ≠ [])
    (h : Pa F B f s w) (hfin : Fin (within F.z lo m lc s)) :
    Calls Tryz.prog 149 #[ptrP f, .string o, .func (.func 52) #[] #[], .string c] w (QPost F B f CE (within F.z lo m lc s) w) := by
  have HX := hid (take_any (h.alloc (.cells #[.int .i64 0, .string ⟨#[]⟩, .int .i64 0, .string ⟨#[]⟩, .slice none 0 0] 26)) o lo ho h5 (fun e => by rw [h4] at e; cases e))
  have HM := hid hm
  have HFIN := hid hfin
  have HLT := hid h.lt
  have HLE := hid h.le
  have HKP := hid hk
  have HC := hid hc
  have H1 := hid h1
  have H2 := hid h2
  have H3 := hid h3
  have H6 := hid h6
  clear hm hfin h hk hc h1 h2 h3 h4 h5 h6 ho
  go_enter Tryz.func149, Tryz.ntmps149
  go_wp2_with (first
    | (go_at_call 163; refine (take_any (HP2.out.alloc _) c lc HC.out H6.out (fun _ => HOP.out)).mono ?_; intro e w3 hq; rcases hq.split with ⟨a, s3, v, hr, rfl, hC, hp, hg⟩ | ⟨n, s', hr, rfl, hp, hg⟩; rotate_left; (exact ⟨rfl, QPost.wrong (by unfold within; rw [HE1.out]; show (m s1).bind _ = _; rw [HE2.out]; show (take F.z lc s2).bind _ = _; rw [hr]; rfl) hp (grown_trans (grown_alloc HG2.out _) hg)⟩); obtain rfl : v = .tuple #[] := hC; have HE3 := hid hr; have HP3 := hid hp; have HG3 := hid (grown_trans (grown_alloc HG2.out _) hg); have HK3 := hid (((KeptP.refl (Two f w.heap.size) w2).alloc (.cells (five T) 26)).grown (Or.inl rfl) hg); have hr8 := (hg.block w.heap.size (by have := lt_of_block HR2.out; simp; omega) (by have := HLT.out; have := HLE.out; simp; omega)).trans (bk_old (.cells (five T) 26) HR2.out); have hr9 := (hg.block w2.heap.size (by simp) (by have := HP2.out.flt; simp; omega)).trans (bk_new w2 (.cells (five T) 26)); have y0 := fun k => bk_free (k := k) hr8; have x0 := bk_cell (k := 0) hr8 rfl; have x1 := bk_cell (k := 1) hr8 rfl; have x2 := bk_cell (k := 2) hr8 rfl; have x3 := bk_cell (k := 3) hr8 rfl; have x4 := bk_cell (k := 4) hr8 rfl; have z0 := bk_cell (k := 0) hr9 rfl; have z1 := bk_cell (k := 1) hr9 rfl; have z2 := bk_cell (k := 2) hr9 rfl; have z3 := bk_cell (k := 3) hr9 rfl; have z4 := bk_cell (k := 4) hr9 rfl; have l8 := lt_of_block hr8; have l9 := lt_of_block hr9; clear hr hp hg hq hr8 hr9)
    | (go_at_call 52; refine (HM.out s1 w1 HP1.out ((HFIN.out.snd HE1.out).fst)).mono ?_; intro e w2 hq; rcases hq.split with ⟨a, s2, v, hr, rfl, hC, hp, hg⟩ | ⟨n, s', hr, rfl, hp, hg⟩; rotate_left; (exact ⟨rfl, QPost.wrong (by unfold within; rw [HE1.out]; show (m s1).bind _ = _; rw [hr]; rfl) hp (grown_trans HG1.out hg)⟩); obtain ⟨T, hv, hT⟩ := hC; rw [ET.val_is] at hv; subst hv; have HT := hid hT; have HE2 := hid hr; have HP2 := hid hp; have HG2 := hid (grown_trans HG1.out hg); have HOP : Hid (0 < s2.op) := hid (by have := (HKP.out _ _ _ hr).2; have := (take_open HE1.out H1.out).2; omega); have HR2 := hid ((hg.block w.heap.size (lt_of_block HR1.out) (by have := HLT.out; have := HLE.out; simp; omega)).trans HR1.out); clear hr hp hg hq hT)
    | (go_at_call 163; refine HX.out.mono ?_; intro e w1 hq; rcases hq.split with ⟨a, s1, v, hr, rfl, hC, hp, hg⟩ | ⟨n, s', hr, rfl, hp, hg⟩; rotate_left; (exact ⟨rfl, QPost.wrong (by unfold within; rw [hr]; rfl) hp (grown_trans (grown_alloc (grown_refl w _) _) hg)⟩); obtain rfl : v = .tuple #[] := hC; have HE1 := hid hr; have HP1 := hid hp; have HG1 := hid (grown_trans (grown_alloc (grown_refl w (some f)) _) hg); have HR1 := hid ((hg.block w.heap.size (by simp) (by have := HLT.out; have := HLE.out; simp; omega)).trans (bk_new w _)); clear hr hp hg hq))
  have hle := HLE.out
  have hlt := HLT.out
  have hr1 := lt_of_block HR1.out
  obtain ⟨t1, t2, t3⟩ := HT.out
  refine bodyPost_ret (v := .agg (five T)) (by simp [results, Tryz.results149, go_sem, *]) rfl (QPost.good (by unfold within; rw [HE1.out]; show (m s1).bind _ = _; rw [HE2.out]; show (take F.z lc s2).bind _ = _; rw [HE3.out]; rfl) (CE.on (A := w1.heap.size) ⟨T, by rw [ET.val_is], t1, t2, t3⟩ (w2 := _) ?_ (two_no (f := f) (R := w.heap.size) (by omega) hr1) (by omega)) ?_ ?_)
  · repeat (first | with_reducible exact HK3.out | (with_reducible refine KeptP.set ?_ (Or.inr rfl) _ _))
  · repeat (first | with_reducible exact HP3.out | (with_reducible refine Pa.far ?_ hle _ _))
  · repeat (first | with_reducible exact HG3.out | (with_reducible refine grown_new ?_ (Nat.le_refl _) _ _))
set_option maxHeartbeats 2000000 in
set_option maxRecDepth 100000 in
theorem index_any (m : PS → PR RE) (hm : RuleE F B f m) (hk : Keeps m) (h : Pa F B f s w) (hfin : Fin (within F.z [91] m [93] s)) :
    Calls Tryz.prog 162 #[ptrP f] w (QPost F B f CE (within F.z [91] m [93] s) w) := by
  have HX := hid (withinE_any m hm hk { data := #[91] } { data := #[93] } [91] [93] rfl rfl rfl rfl rfl rfl (by simp) (by simp) (h.alloc (.cells #[.int .i64 0, .string ⟨#[]⟩, .int .i64 0, .string ⟨#[]⟩, .slice none 0 0] 26)) hfin)
  have HLT := hid h.lt
  have HLE := hid h.le
  clear h hm hk hfin
  go_enter Tryz.func162, Tryz.ntmps162
  go_wp2_with (go_at_call 149; refine HX.out.mono ?_; intro e w1 hq; rcases hq.split with ⟨a, s1, v, hr, rfl, hC, hp, hg⟩ | ⟨n, s', hr, rfl, hp, hg⟩; rotate_left; (exact ⟨rfl, QPost.wrong hr hp (grown_trans (grown_alloc (grown_refl w _) _) hg)⟩); obtain ⟨T, hv, hT⟩ := hC; rw [ET.val_is] at hv; subst hv; have HT := hid hT; have HE1 := hid hr; have HP1 := hid hp; have HG1 := hid (grown_trans (grown_alloc (grown_refl w (some f)) _) hg); have hr8 := (hg.block w.heap.size (by simp) (by have := HLT.out; have := HLE.out; simp; omega)).trans (bk_new w _); obtain ⟨y0, x0, x1, x2, x3, x4, l8⟩ := allc5 hr8; clear hr hp hg hq hT hr8)
  have hle := HLE.out
  have hlt := HLT.out
  obtain ⟨t1, t2, t3⟩ := HT.out
  refine bodyPost_ret (v := .agg (five T)) (by simp [results, Tryz.results162, go_sem, *]) rfl (QPost.good HE1.out (CE.on (P := Two f w.heap.size) (A := w.heap.size + 1) ⟨T, by rw [ET.val_is], t1, t2, (by simpa using t3)⟩ (w2 := _) ?_ (two_no (f := f) (R := w.heap.size) (by omega) (by omega)) (by omega)) ?_ ?_)
  · repeat (first | with_reducible exact KeptP.refl _ _ | (with_reducible refine KeptP.set ?_ (Or.inr rfl) _ _))
  · repeat (first | with_reducible exact HP1.out | (with_reducible refine Pa.far ?_ hle _ _))
  · repeat (first | with_reducible exact HG1.out | (with_reducible refine grown_new ?_ (Nat.le_refl _) _ _))
theorem num_ce {n : Int} (h : -9223372036854775808 ≤ n ∧ n ≤ 9223372036854775807) (A : Nat) (w' : World) : CE (.num n) (.agg #[.int .i64 0, .string ⟨#[]⟩, .int .i64 n, .string ⟨#[]⟩, .slice none 0 0]) A w' :=
  ⟨.mk 0 mE n mE none 0 [], rfl, by rw [ET.re]; rfl, by simp [ET.rightB, rightEs, formedC], num_in h w' A⟩
set_option maxHeartbeats 2000000 in
set_option maxRecDepth 100000 in
theorem number_any (h : Pa F B f s w) (hk : (cur F.z s).kind = 2) : Calls Tryz.prog 145 #[ptrP f] w (QPost F B f CE (number F.z s) w) := by
  have HW := hid (word_any (h.alloc (.cells #[.int .i64 0, .string ⟨#[]⟩, .int .i64 0, .string ⟨#[]⟩, .slice none 0 0] 26)))
  have HH := hid (h.alloc (.cells #[.int .i64 0, .string ⟨#[]⟩, .int .i64 0, .string ⟨#[]⟩, .slice none 0 0] 26))
  have fl := (cur_good h).fl (by omega)
  have F1 := hid fl.1
  have F2 := hid fl.2
  have HT := hid (kind_there hk (by decide))
  have HLT := hid h.lt
  have HLE := hid h.le
  have hfd := fld_n
  clear h hk fl
  by_cases hn : (cur F.z s).n < 9223372036854775808
  · have HN : Hid (number F.z s = .ok (.num (cur F.z s).n) (skip s)) := hid (by unfold number; rw [if_pos hn])
    have hx1 : ((cur F.z s).n : Int) ≤ 9223372036854775807 := by omega
    have hx2 : ((cur F.z s).n : Int) < 9223372036854775808 := by omega
    have hd : decide (((cur F.z s).n : Int) < 9223372036854775808) = true := by simpa using hx2
    have HB1 := hid hx1
    clear hn hx2
    go_enter Tryz.func145, Tryz.ntmps145
    go_wp2_with (first
      | (go_at_call 120; refine (pass_plain HP1.out HT.out F1.out F2.out).mono ?_; rintro e w2 ⟨rfl, hp, hg⟩; have HP2 : Hid (Pa F B f (skip s) w2) := hid hp; have HG2 := hid (grown_trans HG1.out hg); have hr8 := (hg.block w.heap.size (lt_of_block HR1.out) (by have := HLT.out; have := HLE.out; simp; omega)).trans HR1.out; clear y0 x0 x1 x2 x3 x4 l8; obtain ⟨y0, x0, x1, x2, x3, x4, l8⟩ := allc5 hr8; clear hp hg hr8)
      | (go_at_call 117; refine (must_yes _).mono ?_; rintro e w2 ⟨rfl, rfl⟩)
      | (go_at_call 116; refine HW.out.mono ?_; rintro e w1 ⟨rfl, hb⟩; have HB := hid hb; have HP1 := hid (HH.out.on hb); have HG1 := hid (grown_trans (grown_alloc (grown_refl w (some f)) _) (below_grown hb (some f))); have hr8 := (hb.block w.heap.size (by simp)).trans (bk_new w _); have HR1 := hid hr8; obtain ⟨y0, x0, x1, x2, x3, x4, l8⟩ := allc5 hr8; clear hb hr8))
    have hle := HLE.out
    refine bodyPost_ret (v := .agg #[.int .i64 0, .string ⟨#[]⟩, .int .i64 ((cur F.z s).n : Int), .string ⟨#[]⟩, .slice none 0 0]) (by simp [results, Tryz.results145, go_sem, *]) rfl (QPost.good HN.out (num_ce ⟨by omega, HB1.out⟩ _ _) ?_ ?_)
    · repeat (first | with_reducible exact HP2.out | (with_reducible refine Pa.far ?_ hle _ _))
    · repeat (first | with_reducible exact HG2.out | (with_reducible refine grown_new ?_ (Nat.le_refl _) _ _))
  · have HN : Hid (number F.z s = .bad 3 s) := hid (by unfold number; rw [if_neg hn])
    have hd : decide (((cur F.z s).n : Int) < 9223372036854775808) = false := by simp; omega
    clear hn
    go_enter Tryz.func145, Tryz.ntmps145
    go_wp2_with (first
      | (go_at_call 117; refine (must_no _).mono ?_; rintro e w2 ⟨rfl, rfl⟩)
      | (go_at_call 116; refine HW.out.mono ?_; rintro e w1 ⟨rfl, hb⟩; have HB := hid hb; have HP1 := hid (HH.out.on hb); have HG1 := hid (grown_trans (grown_alloc (grown_refl w (some f)) _) (below_grown hb (some f))); have hr8 := (hb.block w.heap.size (by simp)).trans (bk_new w _); have HR1 := hid hr8; obtain ⟨y0, x0, x1, x2, x3, x4, l8⟩ := allc5 hr8; clear hb hr8))
    exact ⟨rfl, QPost.wrong HN.out HP1.out HG1.out⟩
set_option maxHeartbeats 2000000 in
set_option maxRecDepth 100000 in
theorem negative_any (h : Pa F B f s w) (ht : (cur F.z s).text = [45]) (hk : (nxt F.z s).kind = 2) : Calls Tryz.prog 148 #[ptrP f] w (QPost F B f CE (negative F.z s) w) := by
  have HH := hid (h.alloc (.cells #[.int .i64 0, .string ⟨#[]⟩, .int .i64 0, .string ⟨#[]⟩, .slice none 0 0] 26))
  have fl : opens (cur F.z s).text = false ∧ shuts (cur F.z s).text = false := by rw [ht]; exact ⟨rfl, rfl⟩
  have F1 := hid fl
  have gd : Good (nxt F.z s) := by rw [nxt_is]; exact h.good' 1
  have F2 : Hid (opens (cur F.z (skip s)).text = false ∧ shuts (cur F.z (skip s)).text = false) := hid (gd.fl (by omega))
  have HT := hid (cur_there ht (by simp))
  have HT2 : Hid ((skip s).ws ≠ []) := hid (kind_there (F := F) (s := skip s) (k := 2) hk (by decide))
  have HLT := hid h.lt
  have HLE := hid h.le
  have hfd := fld_n
  have hn : ((nxt F.z s).n : Int) ≤ 9223372036854775808 := by have := gd.num; omega
  have hcn : cur F.z (skip s) = nxt F.z s := rfl
  have HN : Hid (negative F.z s = .ok (.num (-((nxt F.z s).n : Int))) (skip (skip s))) := hid rfl
  have HNN := hid hn
  obtain ⟨x, hx⟩ : ∃ x : Int, ((cur F.z (skip s)).n : Int) = x := ⟨_, rfl⟩
  clear h ht hk fl gd hn hcn
  go_enter Tryz.func148, Tryz.ntmps148
  go_wp2_with (first
    | (go_at_call 120; refine (pass_plain HP1.out HT2.out F2.out.1 F2.out.2).mono ?_; rintro e w2 ⟨rfl, hp, hg⟩; have HP2 : Hid (Pa F B f (skip (skip s)) w2) := hid hp; have HG2 := hid (grown_trans HG1.out hg); have hr8 := (hg.block w.heap.size (lt_of_block HR1.out) (by have := HLT.out; have := HLE.out; simp; omega)).trans HR1.out; clear y0 x0 x1 x2 x3 x4 l8; obtain ⟨y0, x0, x1, x2, x3, x4, l8⟩ := allc5 hr8; clear hp hg hr8)
    | (go_at_call 120; refine (pass_plain HH.out HT.out F1.out.1 F1.out.2).mono ?_; rintro e w1 ⟨rfl, hp, hg⟩; have HP1 : Hid (Pa F B f (skip s) w1) := hid hp; have HG1 := hid (grown_trans (grown_alloc (grown_refl w (some f)) _) hg); have hr8 := (hg.block w.heap.size (by simp) (by have := HLT.out; have := HLE.out; simp; omega)).trans (bk_new w _); have HR1 := hid hr8; obtain ⟨y0, x0, x1, x2, x3, x4, l8⟩ := allc5 hr8; clear hp hg hr8))
  have hle := HLE.out
  have hxn : ((nxt F.z s).n : Int) = x := hx
  have HW2 : Hid (wrap64 (IntKind.u64.wrap (-x)) = -((nxt F.z s).n : Int)) := hid (by have := HNN.out; rw [show IntKind.u64.wrap (-x) = -x % 18446744073709551616 from rfl]; unfold wrap64; omega)
  clear hxn hx
  generalize wrap64 (IntKind.u64.wrap (-x)) = y at HW2 ⊢
  refine bodyPost_ret (v := .agg #[.int .i64 0, .string ⟨#[]⟩, .int .i64 y, .string ⟨#[]⟩, .slice none 0 0]) (by simp [results, Tryz.results148, go_sem, *]) rfl (QPost.good HN.out (by rw [HW2.out]; exact num_ce ⟨by have := HNN.out; omega, by omega⟩ _ _) ?_ ?_)
  · repeat (first | with_reducible exact HP2.out | (with_reducible refine Pa.far ?_ hle _ _))
  · repeat (first | with_reducible exact HG2.out | (with_reducible refine grown_new ?_ (Nat.le_refl _) _ _))
theorem var_ce {l : List UInt8} (h : nameOk l = true) (A : Nat) (w' : World) : CE (.var l) (.agg #[.int .i64 1, .string ⟨#[]⟩, .int .i64 0, .string (bs l), .slice none 0 0]) A w' :=
  ⟨.mk 1 mE 0 (bs l) none 0 [], rfl, by rw [ET.re]; rfl, by simp [ET.rightB, rightEs, formedC, namesC, nmB, bs, h], var_in (bs l) w' A⟩
theorem idx_ce {l : List UInt8} (h : nameOk l = true) {T : ET} {r : RE} (hr : T.re = r) (hb : T.rightB = true) {w' : World} {N R : Nat} (hT : T.In w' R) (hN : R ≤ N) (h2 : w'.heap[N]? = some (.cells (five T) 26 (0, 0))) :
    CE (.idx l r) (.agg #[.int .i64 2, .string ⟨#[]⟩, .int .i64 0, .string (bs l), .slice (some ⟨N, 0, none⟩) 1 1]) R w' :=
  ⟨.mk 2 mE 0 (bs l) (some ⟨N, 0, none⟩) 1 [T], rfl, by rw [ET.re, hr]; rfl, by simp [ET.rightB, rightEs, formedC, namesC, nmB, bs, h, hb], by rw [ET.In]; exact ⟨by decide, by simp, es_one_at h2 hT hN⟩⟩
set_option maxHeartbeats 4000000 in
set_option maxRecDepth 100000 in
theorem named_any (m : PS → PR RE) (hm : RuleE F B f m) (hkp : Keeps m) (h : Pa F B f s w) (hk : (cur F.z s).kind = 1) (hfin : Fin (named F.z m s)) : Calls Tryz.prog 146 #[ptrP f] w (QPost F B f CE (named F.z m s) w) := by
  have hx := name_any (h.alloc (.cells #[.int .i64 0, .string ⟨#[]⟩, .int .i64 0, .string ⟨#[]⟩, .slice none 0 0] 26))
  rw [name_yes hk] at hx
  have HX := hid hx
  have HNM := hid ((cur_good h).nm hk)
  have HLT := hid h.lt
  have HLE := hid h.le
  have HM := hid hm
  have HKP := hid hkp
  have e0 : named F.z m s = if at' F.z [91] (skip s) then (within F.z [91] m [93] (skip s)).bind fun e s2 => .ok (.idx (cur F.z s).text e) s2 else .ok (.var (cur F.z s).text) (skip s) := by unfold named; rw [name_yes hk]; rfl
  rcases hat : at' F.z [91] (skip s) with _ | _
  · have HN : Hid (named F.z m s = .ok (.var (cur F.z s).text) (skip s)) := hid (by rw [e0, hat]; rfl)
    have HAT := hid hat
    clear hat e0 hx h hk hfin hm hkp
    go_enter Tryz.func146, Tryz.ntmps146
    go_wp2_with (first
      | (go_at_call 147; have hx := at_is HP1.out { data := #[91] } [91] rfl; rw [HAT.out] at hx; refine hx.mono ?_; clear hx; rintro e w2 ⟨rfl, hb⟩; have HP2 := hid (HP1.out.on hb); have HG2 := hid (grown_trans HG1.out (below_grown hb (some f))); have hr8 := (hb.block w.heap.size (lt_of_block HR1.out)).trans HR1.out; have HR2 := hid hr8; clear y0 x0 x1 x2 x3 x4 l8; obtain ⟨y0, x0, x1, x2, x3, x4, l8⟩ := allc5 hr8; clear hb hr8)
      | (go_at_call 161; refine HX.out.mono ?_; rintro e w1 ⟨v, rfl, hC, hp, hg⟩; obtain rfl : v = .string (bs (cur F.z s).text) := hC; have HP1 := hid hp; have HG1 := hid (grown_trans (grown_alloc (grown_refl w (some f)) _) hg); have hr8 := (hg.block w.heap.size (by simp) (by have := HLT.out; have := HLE.out; simp; omega)).trans (bk_new w _); have HR1 := hid hr8; obtain ⟨y0, x0, x1, x2, x3, x4, l8⟩ := allc5 hr8; clear hp hg hr8))
    have hle := HLE.out
    refine bodyPost_ret (v := .agg #[.int .i64 1, .string ⟨#[]⟩, .int .i64 0, .string (bs (cur F.z s).text), .slice none 0 0]) (by simp [results, Tryz.results146, go_sem, *]) rfl (QPost.good HN.out (var_ce HNM.out _ _) ?_ ?_)
    · repeat (first | with_reducible exact HP2.out | (with_reducible refine Pa.far ?_ hle _ _))
    · repeat (first | with_reducible exact HG2.out | (with_reducible refine grown_new ?_ (Nat.le_refl _) _ _))
  · have HN : Hid (named F.z m s = (within F.z [91] m [93] (skip s)).bind fun e s2 => .ok (.idx (cur F.z s).text e) s2) := hid (by rw [e0, hat]; rfl)
    have HFI : Hid (Fin (within F.z [91] m [93] (skip s))) := hid (by rw [HN.out] at hfin; exact hfin.fst)
    have HAT := hid hat
    clear hat e0 hx h hk hfin hm hkp
    go_enter Tryz.func146, Tryz.ntmps146
    go_wp2_with (first
      | (go_at_call 162; refine (index_any m HM.out HKP.out HP2.out HFI.out).mono ?_; intro e w3 hq; rcases hq.split with ⟨a, s3, v, hr, rfl, hC, hp, hg⟩ | ⟨n, s', hr, rfl, hp, hg⟩; rotate_left; (exact ⟨rfl, QPost.wrong (by rw [HN.out, hr]; rfl) hp (grown_trans HG2.out hg)⟩); obtain ⟨T, hv, hT⟩ := hC; rw [ET.val_is] at hv; subst hv; have HT := hid hT; have HE3 := hid hr; have HP3 := hid hp; have HG3 := hid (grown_trans HG2.out hg); have HS3 := hid hg.size; have hr8 := (hg.block w.heap.size (lt_of_block HR2.out) (by have := HLT.out; have := HLE.out; simp; omega)).trans HR2.out; clear y0 x0 x1 x2 x3 x4 l8; obtain ⟨y0, x0, x1, x2, x3, x4, l8⟩ := allc5 hr8; clear hr hp hg hq hT hr8)
      | (go_at_call 147; have hx := at_is HP1.out { data := #[91] } [91] rfl; rw [HAT.out] at hx; refine hx.mono ?_; clear hx; rintro e w2 ⟨rfl, hb⟩; have HP2 := hid (HP1.out.on hb); have HG2 := hid (grown_trans HG1.out (below_grown hb (some f))); have hr8 := (hb.block w.heap.size (lt_of_block HR1.out)).trans HR1.out; have HR2 := hid hr8; clear y0 x0 x1 x2 x3 x4 l8; obtain ⟨y0, x0, x1, x2, x3, x4, l8⟩ := allc5 hr8; clear hb hr8)
      | (go_at_call 161; refine HX.out.mono ?_; rintro e w1 ⟨v, rfl, hC, hp, hg⟩; obtain rfl : v = .string (bs (cur F.z s).text) := hC; have HP1 := hid hp; have HG1 := hid (grown_trans (grown_alloc (grown_refl w (some f)) _) hg); have hr8 := (hg.block w.heap.size (by simp) (by have := HLT.out; have := HLE.out; simp; omega)).trans (bk_new w _); have HR1 := hid hr8; obtain ⟨y0, x0, x1, x2, x3, x4, l8⟩ := allc5 hr8; clear hp hg hr8))
    have hle := HLE.out
    have hlt := HLT.out
    have hr2 := lt_of_block HR2.out
    obtain ⟨t1, t2, t3⟩ := HT.out
    have hs3 := HG3.out.size
    refine bodyPost_ret (v := .agg #[.int .i64 2, .string ⟨#[]⟩, .int .i64 0, .string (bs (cur F.z s).text), .slice (some ⟨w3.heap.size, 0, none⟩) 1 1]) (by simp [results, Tryz.results146, go_sem, *]) rfl (QPost.good (by rw [HN.out, HE3.out]; rfl) (idx_ce HNM.out t1 t2 ((KeptP.et (P := Two f w.heap.size) (w := w3) ?_ (two_no (by omega) hr2) t3).mono (Nat.le_of_lt hr2)) (by have := HS3.out; omega) ?_) ?_ ?_)
    · repeat (first | with_reducible exact KeptP.refl _ _ | (with_reducible refine KeptP.set ?_ (Or.inr rfl) _ _) | (with_reducible refine KeptP.alloc ?_ _))
    · exact bk_new' _ (by simp [World.setCell])
    · repeat (first | with_reducible exact HP3.out | (with_reducible refine Pa.far ?_ hle _ _) | (with_reducible refine Pa.alloc ?_ _))
    · repeat (first | with_reducible exact HG3.out | (with_reducible refine grown_new ?_ (Nat.le_refl _) _ _) | (with_reducible refine grown_alloc ?_ _))
def RuleO (F : PC) (B f : Nat) (m : PS → PR RE) : Prop := ∀ (s1 : PS) (w1 : World), Pa F B f s1 w1 → Fin (m s1) → Calls Tryz.prog 119 #[ptrP f] w1 (QPost F B f CE (m s1) w1)
def deep (s : PS) : PS := { s with op := s.op + 1, mo := max s.mo (s.op + 1) }
theorem un_ce {l : List UInt8} (h : isUn l = true) {T : ET} {r : RE} (hr : T.re = r) (hb : T.rightB = true) {w' : World} {N R : Nat} (hT : T.In w' R) (hN : R ≤ N) (h2 : w'.heap[N]? = some (.cells (five T) 26 (0, 0))) :
    CE (.un (l.headD 0) r) (.agg #[.int .i64 3, .string (bs l), .int .i64 0, .string ⟨#[]⟩, .slice (some ⟨N, 0, none⟩) 1 1]) R w' :=
  ⟨.mk 3 (bs l) 0 mE (some ⟨N, 0, none⟩) 1 [T], rfl, by rw [ET.re, hr]; simp [bs], by
    have hu : unB (bs l) = true := by unfold unB; simpa [bs, isUn] using h
    simp [ET.rightB, rightEs, formedC, reckC, hu, hb], by rw [ET.In]; exact ⟨by decide, by simp, es_one_at h2 hT hN⟩⟩
theorem un_flat {l : List UInt8} (h : isUn l = true) : opens l = false ∧ shuts l = false ∧ l ≠ [] := by
  simp only [isUn, Bool.or_eq_true, beq_iff_eq] at h
  rcases h with (rfl | rfl) | rfl <;> exact ⟨rfl, rfl, by simp⟩
set_option maxHeartbeats 8000000 in
set_option maxRecDepth 100000 in
theorem unary_rule (m : PS → PR RE) (hm : RuleO F B f m) (hkp : Keeps m) (h : Pa F B f s w) (hfin : Fin (unary F.z m s)) : Calls Tryz.prog 150 #[ptrP f] w (QPost F B f CE (unary F.z m s) w) := by
  have HW := hid (word_any (h.alloc (.cells #[.int .i64 0, .string ⟨#[]⟩, .int .i64 0, .string ⟨#[]⟩, .slice none 0 0] 26)))
  have HH := hid (h.alloc (.cells #[.int .i64 0, .string ⟨#[]⟩, .int .i64 0, .string ⟨#[]⟩, .slice none 0 0] 26))
  have HLT := hid h.lt
  have HLE := hid h.le
  have HM := hid hm
  have HKP := hid hkp
  have hfd := fld_text
  have hub : unB (bs (cur F.z s).text) = isUn (cur F.z s).text := by unfold unB isUn; simp [bs]
  rcases hun : isUn (cur F.z s).text with _ | _
  · have HN : Hid (unary F.z m s = .bad 3 s) := hid (by unfold unary; rw [if_neg (by simp [hun])])
    have HU := hid (hub.trans hun)
    clear hun hub h hm hkp hfin
    go_enter Tryz.func150, Tryz.ntmps150
    go_wp2_with (first
      | (go_at_call 117; refine (must_no _).mono ?_; rintro e w9 ⟨rfl, rfl⟩)
      | (go_at_call 35; have hx := un_any (bs (cur F.z s).text) 0 (by decide) w1; rw [HU.out] at hx; refine hx.mono ?_; clear hx; rintro e w2 ⟨rfl, hb⟩; have HP2 := hid (HP1.out.on hb); have HG2 := hid (grown_trans HG1.out (below_grown hb (some f))); have hr8 := (hb.block w.heap.size (lt_of_block HR1.out)).trans HR1.out; have HR2 := hid hr8; clear y0 x0 x1 x2 x3 x4 l8; obtain ⟨y0, x0, x1, x2, x3, x4, l8⟩ := allc5 hr8; clear hb hr8)
      | (go_at_call 116; refine HW.out.mono ?_; rintro e w1 ⟨rfl, hb⟩; have HP1 := hid (HH.out.on hb); have HG1 := hid (grown_trans (grown_alloc (grown_refl w (some f)) _) (below_grown hb (some f))); have hr8 := (hb.block w.heap.size (by simp)).trans (bk_new w _); have HR1 := hid hr8; obtain ⟨y0, x0, x1, x2, x3, x4, l8⟩ := allc5 hr8; clear hb hr8))
    exact ⟨rfl, QPost.wrong HN.out HP2.out HG2.out⟩
  · have HUN := hid hun
    have HU := hid (hub.trans hun)
    have fl := un_flat hun
    by_cases h40 : s.op = 40
    · have HN : Hid (unary F.z m s = .bad 4 s) := hid (by unfold unary; rw [if_pos hun]; unfold enter; rw [if_pos h40]; rfl)
      have H40 := hid h40
      clear hun hub h hm hkp hfin fl h40
      go_enter Tryz.func150, Tryz.ntmps150
      go_wp2_with (first
        | (go_at_call 151; refine (enter_no HP2.out H40.out).mono ?_; rintro e w9 ⟨rfl, rfl⟩)
        | (go_at_call 117; refine (must_yes _).mono ?_; rintro e w9 ⟨rfl, rfl⟩)
        | (go_at_call 35; have hx := un_any (bs (cur F.z s).text) 0 (by decide) w1; rw [HU.out] at hx; refine hx.mono ?_; clear hx; rintro e w2 ⟨rfl, hb⟩; have HP2 := hid (HP1.out.on hb); have HG2 := hid (grown_trans HG1.out (below_grown hb (some f))); have hr8 := (hb.block w.heap.size (lt_of_block HR1.out)).trans HR1.out; have HR2 := hid hr8; clear y0 x0 x1 x2 x3 x4 l8; obtain ⟨y0, x0, x1, x2, x3, x4, l8⟩ := allc5 hr8; clear hb hr8)
        | (go_at_call 116; refine HW.out.mono ?_; rintro e w1 ⟨rfl, hb⟩; have HP1 := hid (HH.out.on hb); have HG1 := hid (grown_trans (grown_alloc (grown_refl w (some f)) _) (below_grown hb (some f))); have hr8 := (hb.block w.heap.size (by simp)).trans (bk_new w _); have HR1 := hid hr8; obtain ⟨y0, x0, x1, x2, x3, x4, l8⟩ := allc5 hr8; clear hb hr8))
      exact ⟨rfl, QPost.wrong HN.out HP2.out HG2.out⟩
    · have HN : Hid (unary F.z m s = (m (skip (deep s))).bind fun e s3 => .ok (.un ((cur F.z s).text.headD 0) e) (leave s3)) := hid (by unfold unary; rw [if_pos hun]; unfold enter; rw [if_neg h40]; rfl)
      have HFI : Hid (Fin (m (skip (deep s)))) := hid (by rw [HN.out] at hfin; exact hfin.fst)
      have H40 := hid h40
      have HT0 : Hid ((deep s).ws ≠ []) := hid (cur_there (F := F) (s := s) rfl fl.2.2)
      have FL : Hid (opens (cur F.z (deep s)).text = false ∧ shuts (cur F.z (deep s)).text = false) := hid ⟨fl.1, fl.2.1⟩
      clear hun hub h hm hkp hfin fl h40
      go_enter Tryz.func150, Tryz.ntmps150
      go_wp2_with (first
        | (go_at_call 152; refine (leave_any (HP5.out.alloc (.cells (five T) 26)) HOP.out).mono ?_; rintro e w6 ⟨rfl, hp, hg⟩; have HP6 := hid hp; have HG6 := hid (grown_trans (grown_alloc HG5.out (.cells (five T) 26)) hg); have HS6 := hid hg.size; have HK6 := hid (((KeptP.refl (Two f w.heap.size) w5).alloc (.cells (five T) 26)).grown (Or.inl rfl) hg); have hr8 := (hg.block w.heap.size (by have := lt_of_block HR5.out; simp; omega) (by have := HLT.out; have := HLE.out; simp; omega)).trans (bk_old (.cells (five T) 26) HR5.out); have hr9 := (hg.block w5.heap.size (by simp) (by have := HP5.out.flt; simp; omega)).trans (bk_new w5 (.cells (five T) 26)); clear y0 x0 x1 x2 x3 x4 l8; obtain ⟨y0, x0, x1, x2, x3, x4, l8⟩ := allc5 hr8; have z0 := bk_cell (k := 0) hr9 rfl; have z1 := bk_cell (k := 1) hr9 rfl; have z2 := bk_cell (k := 2) hr9 rfl; have z3 := bk_cell (k := 3) hr9 rfl; have z4 := bk_cell (k := 4) hr9 rfl; have l9 := lt_of_block hr9; clear hp hg hr8 hr9)
        | (go_at_call 119; refine (HM.out _ w4 HP4.out HFI.out).mono ?_; intro e w5 hq; rcases hq.split with ⟨a, s5, v, hr, rfl, hC, hp, hg⟩ | ⟨n, s', hr, rfl, hp, hg⟩; rotate_left; (exact ⟨rfl, QPost.wrong (by rw [HN.out, hr]; rfl) hp (grown_trans HG4.out hg)⟩); obtain ⟨T, hv, hT⟩ := hC; rw [ET.val_is] at hv; subst hv; have HT := hid hT; have HE5 := hid hr; have HOP : Hid (0 < s5.op) := hid (by have := (HKP.out _ _ _ hr).2; have e2 : (skip (deep s)).op = s.op + 1 := rfl; omega); have HP5 := hid hp; have HG5 := hid (grown_trans HG4.out hg); have HS5 := hid hg.size; have hr8 := (hg.block w.heap.size (lt_of_block HR4.out) (by have := HLT.out; have := HLE.out; simp; omega)).trans HR4.out; have HR5 := hid hr8; clear y0 x0 x1 x2 x3 x4 l8; obtain ⟨y0, x0, x1, x2, x3, x4, l8⟩ := allc5 hr8; clear hr hp hg hq hT hr8)
        | (go_at_call 120; refine (pass_plain HP3.out HT0.out FL.out.1 FL.out.2).mono ?_; rintro e w4 ⟨rfl, hp, hg⟩; have HP4 : Hid (Pa F B f (skip (deep s)) w4) := hid hp; have HG4 := hid (grown_trans HG3.out hg); have hr8 := (hg.block w.heap.size (lt_of_block HR3.out) (by have := HLT.out; have := HLE.out; simp; omega)).trans HR3.out; have HR4 := hid hr8; clear y0 x0 x1 x2 x3 x4 l8; obtain ⟨y0, x0, x1, x2, x3, x4, l8⟩ := allc5 hr8; clear hp hg hr8)
        | (go_at_call 151; refine (enter_yes HP2.out H40.out).mono ?_; rintro e w3 ⟨rfl, hp, hg⟩; have HP3 := hid hp; have HG3 := hid (grown_trans HG2.out hg); have hr8 := (hg.block w.heap.size (lt_of_block HR2.out) (by have := HLT.out; have := HLE.out; simp; omega)).trans HR2.out; have HR3 := hid hr8; clear y0 x0 x1 x2 x3 x4 l8; obtain ⟨y0, x0, x1, x2, x3, x4, l8⟩ := allc5 hr8; clear hp hg hr8)
        | (go_at_call 117; refine (must_yes _).mono ?_; rintro e w9 ⟨rfl, rfl⟩)
        | (go_at_call 35; have hx := un_any (bs (cur F.z s).text) 0 (by decide) w1; rw [HU.out] at hx; refine hx.mono ?_; clear hx; rintro e w2 ⟨rfl, hb⟩; have HP2 := hid (HP1.out.on hb); have HG2 := hid (grown_trans HG1.out (below_grown hb (some f))); have hr8 := (hb.block w.heap.size (lt_of_block HR1.out)).trans HR1.out; have HR2 := hid hr8; clear y0 x0 x1 x2 x3 x4 l8; obtain ⟨y0, x0, x1, x2, x3, x4, l8⟩ := allc5 hr8; clear hb hr8)
        | (go_at_call 116; refine HW.out.mono ?_; rintro e w1 ⟨rfl, hb⟩; have HP1 := hid (HH.out.on hb); have HG1 := hid (grown_trans (grown_alloc (grown_refl w (some f)) _) (below_grown hb (some f))); have hr8 := (hb.block w.heap.size (by simp)).trans (bk_new w _); have HR1 := hid hr8; obtain ⟨y0, x0, x1, x2, x3, x4, l8⟩ := allc5 hr8; clear hb hr8))
      have hcc : cur F.z { ws := s.ws, sts := s.sts, op := s.op + 1, mo := max s.mo (s.op + 1) } = cur F.z s := rfl
      have hle := HLE.out
      have hlt := HLT.out
      have hr4 := lt_of_block HR4.out
      obtain ⟨t1, t2, t3⟩ := HT.out
      refine bodyPost_ret (v := .agg #[.int .i64 3, .string (bs (cur F.z s).text), .int .i64 0, .string ⟨#[]⟩, .slice (some ⟨w6.heap.size, 0, none⟩) 1 1]) (by simp [results, Tryz.results150, go_sem, *]) rfl (QPost.good (by rw [HN.out, HE5.out]; rfl) (un_ce HUN.out t1 t2 ((KeptP.et (P := Two f w.heap.size) (w := w5) ?_ (two_no (by omega) hr4) t3).mono (Nat.le_of_lt hr4)) (by have h6 := HS6.out; have h5 := HS5.out; simp at h6; omega) ?_) ?_ ?_)
      · repeat (first | with_reducible exact HK6.out | (with_reducible refine KeptP.set ?_ (Or.inr rfl) _ _) | (with_reducible refine KeptP.alloc ?_ _))
      · exact bk_new' _ (by simp [World.setCell])
      · repeat (first | with_reducible exact HP6.out | (with_reducible refine Pa.far ?_ hle _ _) | (with_reducible refine Pa.alloc ?_ _))
      · repeat (first | with_reducible exact HG6.out | (with_reducible refine grown_new ?_ (Nat.le_refl _) _ _) | (with_reducible refine grown_alloc ?_ _))
end
end Go.Proofs.YtdaklmbifkehpaaGreatDoor.Pm

set_option linter.unusedSimpArgs false
set_option linter.unusedVariables false
namespace Go.Proofs.YtdaklmbifkehpaaGreatDoor.Pm
open Go Go.RowKit Go.Proofs.YtdaklmbifkehpaaGreatDoor
open Go.Lib (hid)

section
variable {F : PC} {B f : Nat} {s : PS} {w : World}
theorem kind_at (h : Pa F B f s w) (k : Nat) (b : Bool) (e : ((cur F.z s).kind == k) = b) : Calls Tryz.prog 144 #[ptrP f, .int .i64 (k : Nat)] w fun e w' => e = .returned (.bool b) ∧ Below w.heap.size w w' := by rw [← e]; exact kind_is h k
theorem text_at (h : Pa F B f s w) (t : ByteArray) (l : List UInt8) (hl : t.data.toList = l) (b : Bool) (e : at' F.z l s = b) : Calls Tryz.prog 147 #[ptrP f, .string t] w fun e w' => e = .returned (.bool b) ∧ Below w.heap.size w w' := by rw [← e]; exact at_is h t l hl
set_option maxHeartbeats 8000000 in
set_option maxRecDepth 100000 in
theorem oper_number (h : Pa F B f s w) (m : Nat) (k2 : ((cur F.z s).kind == 2) = true) : Calls Tryz.prog 119 #[ptrP f] w (QPost F B f CE (operand F.z (m + 1) s) w) := by
  obtain ⟨HP0, HG0, HR0⟩ := start5 h
  have HLT := hid h.lt
  have HLE := hid h.le
  have hfd := fld_kind
  have HN : Hid (operand F.z (m + 1) s = number F.z s) := hid (by rw [operand, if_pos k2])
  have k2e : (cur F.z s).kind = 2 := by simpa using k2
  have Hk2 := hid k2
  have Hk2e := hid k2e
  clear h k2 k2e
  go_enter Tryz.func119, Tryz.ntmps119
  go_wp2_with (first
    | (go_at_call 145; refine (number_any HP1.out Hk2e.out).mono ?_; intro e w2 hq; rcases hq.split with ⟨a, s3, v, hr, rfl, hC, hp, hg⟩ | ⟨n, s', hr, rfl, hp, hg⟩; rotate_left; (exact ⟨rfl, QPost.wrong (by rw [HN.out, hr]) hp (grown_trans HG1.out hg)⟩); obtain ⟨T, hv, hT⟩ := hC; rw [ET.val_is] at hv; subst hv; have HT := hid hT; have HEZ := hid hr; have HPZ := hid hp; have HGZ := hid (grown_trans HG1.out hg); have hr8 := (hg.block w.heap.size (lt_of_block HR1.out) (by have := HLT.out; have := HLE.out; simp; omega)).trans HR1.out; have HRB := hid (lt_of_block HR1.out); clear y0 x0 x1 x2 x3 x4 l8; obtain ⟨y0, x0, x1, x2, x3, x4, l8⟩ := allc5 hr8; clear hr hp hg hq hT hr8)
    | (go_at_call 144; have hx := kind_at HP0.out 2 _ Hk2.out; refine hx.mono ?_; clear hx; rintro e w1 ⟨rfl, hb⟩; have HP1 := hid (HP0.out.on hb); have HG1 := hid (grown_trans HG0.out (below_grown hb (some f))); have hr8 := (hb.block w.heap.size (lt_of_block HR0.out)).trans HR0.out; have HR1 := hid hr8; obtain ⟨y0, x0, x1, x2, x3, x4, l8⟩ := allc5 hr8; clear hb hr8))
  have hle := HLE.out
  have hlt := HLT.out
  obtain ⟨t1, t2, t3⟩ := HT.out
  refine bodyPost_ret (v := .agg (five T)) (by simp [results, Tryz.results119, go_sem, *]) rfl (QPost.good (by rw [HN.out, HEZ.out]) (CE.on (P := Two f w.heap.size) ⟨T, by rw [ET.val_is], t1, t2, t3⟩ (w2 := _) ?_ (two_no (f := f) (R := w.heap.size) (by have := HRB.out; omega) HRB.out) (Nat.le_of_lt HRB.out)) ?_ ?_)
  · repeat (first | with_reducible exact KeptP.refl _ _ | (with_reducible refine KeptP.set ?_ (Or.inr rfl) _ _))
  · repeat (first | with_reducible exact HPZ.out | (with_reducible refine Pa.far ?_ hle _ _))
  · repeat (first | with_reducible exact HGZ.out | (with_reducible refine grown_new ?_ (Nat.le_refl _) _ _))
set_option maxHeartbeats 8000000 in
set_option maxRecDepth 100000 in
theorem oper_named (h : Pa F B f s w) (m : Nat) (hm : RuleE F B f (bound F.z m 1)) (hkp : Keeps (bound F.z m 1)) (k2 : ((cur F.z s).kind == 2) = false) (k1 : ((cur F.z s).kind == 1) = true) (hfin : Fin (named F.z (bound F.z m 1) s)) : Calls Tryz.prog 119 #[ptrP f] w (QPost F B f CE (operand F.z (m + 1) s) w) := by
  obtain ⟨HP0, HG0, HR0⟩ := start5 h
  have HLT := hid h.lt
  have HLE := hid h.le
  have hfd := fld_kind
  have HN : Hid (operand F.z (m + 1) s = named F.z (bound F.z m 1) s) := hid (by rw [operand, if_neg (by simp [k2]), if_pos k1])
  have k1e : (cur F.z s).kind = 1 := by simpa using k1
  have Hk2 := hid k2
  have Hk1 := hid k1
  have Hk1e := hid k1e
  have Hhm := hid hm
  have Hhkp := hid hkp
  have Hhfin := hid hfin
  clear h k2 k1 k1e hm hkp hfin
  go_enter Tryz.func119, Tryz.ntmps119
  go_wp2_with (first
    | (go_at_call 146; refine (named_any _ Hhm.out Hhkp.out HP2.out Hk1e.out Hhfin.out).mono ?_; intro e w3 hq; rcases hq.split with ⟨a, s3, v, hr, rfl, hC, hp, hg⟩ | ⟨n, s', hr, rfl, hp, hg⟩; rotate_left; (exact ⟨rfl, QPost.wrong (by rw [HN.out, hr]) hp (grown_trans HG2.out hg)⟩); obtain ⟨T, hv, hT⟩ := hC; rw [ET.val_is] at hv; subst hv; have HT := hid hT; have HEZ := hid hr; have HPZ := hid hp; have HGZ := hid (grown_trans HG2.out hg); have hr8 := (hg.block w.heap.size (lt_of_block HR2.out) (by have := HLT.out; have := HLE.out; simp; omega)).trans HR2.out; have HRB := hid (lt_of_block HR2.out); clear y0 x0 x1 x2 x3 x4 l8; obtain ⟨y0, x0, x1, x2, x3, x4, l8⟩ := allc5 hr8; clear hr hp hg hq hT hr8)
    | (go_at_call 144; have hx := kind_at HP1.out 1 _ Hk1.out; refine hx.mono ?_; clear hx; rintro e w2 ⟨rfl, hb⟩; have HP2 := hid (HP1.out.on hb); have HG2 := hid (grown_trans HG1.out (below_grown hb (some f))); have hr8 := (hb.block w.heap.size (lt_of_block HR1.out)).trans HR1.out; have HR2 := hid hr8; clear y0 x0 x1 x2 x3 x4 l8; obtain ⟨y0, x0, x1, x2, x3, x4, l8⟩ := allc5 hr8; clear hb hr8)
    | (go_at_call 144; have hx := kind_at HP0.out 2 _ Hk2.out; refine hx.mono ?_; clear hx; rintro e w1 ⟨rfl, hb⟩; have HP1 := hid (HP0.out.on hb); have HG1 := hid (grown_trans HG0.out (below_grown hb (some f))); have hr8 := (hb.block w.heap.size (lt_of_block HR0.out)).trans HR0.out; have HR1 := hid hr8; obtain ⟨y0, x0, x1, x2, x3, x4, l8⟩ := allc5 hr8; clear hb hr8))
  have hle := HLE.out
  have hlt := HLT.out
  obtain ⟨t1, t2, t3⟩ := HT.out
  refine bodyPost_ret (v := .agg (five T)) (by simp [results, Tryz.results119, go_sem, *]) rfl (QPost.good (by rw [HN.out, HEZ.out]) (CE.on (P := Two f w.heap.size) ⟨T, by rw [ET.val_is], t1, t2, t3⟩ (w2 := _) ?_ (two_no (f := f) (R := w.heap.size) (by have := HRB.out; omega) HRB.out) (Nat.le_of_lt HRB.out)) ?_ ?_)
  · repeat (first | with_reducible exact KeptP.refl _ _ | (with_reducible refine KeptP.set ?_ (Or.inr rfl) _ _))
  · repeat (first | with_reducible exact HPZ.out | (with_reducible refine Pa.far ?_ hle _ _))
  · repeat (first | with_reducible exact HGZ.out | (with_reducible refine grown_new ?_ (Nat.le_refl _) _ _))
set_option maxHeartbeats 8000000 in
set_option maxRecDepth 100000 in
theorem oper_negative (h : Pa F B f s w) (m : Nat) (k2 : ((cur F.z s).kind == 2) = false) (k1 : ((cur F.z s).kind == 1) = false) (t45 : at' F.z [45] s = true) (n2 : ((nxt F.z s).kind == 2) = true) : Calls Tryz.prog 119 #[ptrP f] w (QPost F B f CE (operand F.z (m + 1) s) w) := by
  obtain ⟨HP0, HG0, HR0⟩ := start5 h
  have HLT := hid h.lt
  have HLE := hid h.le
  have hfd := fld_kind
  have HN : Hid (operand F.z (m + 1) s = negative F.z s) := hid (by rw [operand, if_neg (by simp [k2]), if_neg (by simp [k1]), if_pos (by simp [t45, n2])])
  have n2e : (nxt F.z s).kind = 2 := by simpa using n2
  have n2b : (((nxt F.z s).kind : Int) == 2) = true := by simp [n2e]
  have t45e := at_text t45
  have Hk2 := hid k2
  have Hk1 := hid k1
  have Ht45 := hid t45
  have Hn2e := hid n2e
  have Ht45e := hid t45e
  clear h k2 k1 t45 n2e t45e n2
  go_enter Tryz.func119, Tryz.ntmps119
  go_wp2_with (first
    | (go_at_call 148; refine (negative_any HP4.out Ht45e.out Hn2e.out).mono ?_; intro e w5 hq; rcases hq.split with ⟨a, s3, v, hr, rfl, hC, hp, hg⟩ | ⟨n, s', hr, rfl, hp, hg⟩; rotate_left; (exact ⟨rfl, QPost.wrong (by rw [HN.out, hr]) hp (grown_trans HG4.out hg)⟩); obtain ⟨T, hv, hT⟩ := hC; rw [ET.val_is] at hv; subst hv; have HT := hid hT; have HEZ := hid hr; have HPZ := hid hp; have HGZ := hid (grown_trans HG4.out hg); have hr8 := (hg.block w.heap.size (lt_of_block HR4.out) (by have := HLT.out; have := HLE.out; simp; omega)).trans HR4.out; have HRB := hid (lt_of_block HR4.out); clear y0 x0 x1 x2 x3 x4 l8; obtain ⟨y0, x0, x1, x2, x3, x4, l8⟩ := allc5 hr8; clear hr hp hg hq hT hr8)
    | (go_at_call 143; have hx := ahead1 HP3.out; refine hx.mono ?_; clear hx; rintro e w4 ⟨rfl, hb⟩; have HP4 := hid (HP3.out.on hb); have HG4 := hid (grown_trans HG3.out (below_grown hb (some f))); have hr8 := (hb.block w.heap.size (lt_of_block HR3.out)).trans HR3.out; have HR4 := hid hr8; clear y0 x0 x1 x2 x3 x4 l8; obtain ⟨y0, x0, x1, x2, x3, x4, l8⟩ := allc5 hr8; clear hb hr8)
    | (go_at_call 147; have hx := text_at HP2.out { data := #[45] } [45] rfl _ Ht45.out; refine hx.mono ?_; clear hx; rintro e w3 ⟨rfl, hb⟩; have HP3 := hid (HP2.out.on hb); have HG3 := hid (grown_trans HG2.out (below_grown hb (some f))); have hr8 := (hb.block w.heap.size (lt_of_block HR2.out)).trans HR2.out; have HR3 := hid hr8; clear y0 x0 x1 x2 x3 x4 l8; obtain ⟨y0, x0, x1, x2, x3, x4, l8⟩ := allc5 hr8; clear hb hr8)
    | (go_at_call 144; have hx := kind_at HP1.out 1 _ Hk1.out; refine hx.mono ?_; clear hx; rintro e w2 ⟨rfl, hb⟩; have HP2 := hid (HP1.out.on hb); have HG2 := hid (grown_trans HG1.out (below_grown hb (some f))); have hr8 := (hb.block w.heap.size (lt_of_block HR1.out)).trans HR1.out; have HR2 := hid hr8; clear y0 x0 x1 x2 x3 x4 l8; obtain ⟨y0, x0, x1, x2, x3, x4, l8⟩ := allc5 hr8; clear hb hr8)
    | (go_at_call 144; have hx := kind_at HP0.out 2 _ Hk2.out; refine hx.mono ?_; clear hx; rintro e w1 ⟨rfl, hb⟩; have HP1 := hid (HP0.out.on hb); have HG1 := hid (grown_trans HG0.out (below_grown hb (some f))); have hr8 := (hb.block w.heap.size (lt_of_block HR0.out)).trans HR0.out; have HR1 := hid hr8; obtain ⟨y0, x0, x1, x2, x3, x4, l8⟩ := allc5 hr8; clear hb hr8))
  have hle := HLE.out
  have hlt := HLT.out
  obtain ⟨t1, t2, t3⟩ := HT.out
  refine bodyPost_ret (v := .agg (five T)) (by simp [results, Tryz.results119, go_sem, *]) rfl (QPost.good (by rw [HN.out, HEZ.out]) (CE.on (P := Two f w.heap.size) ⟨T, by rw [ET.val_is], t1, t2, t3⟩ (w2 := _) ?_ (two_no (f := f) (R := w.heap.size) (by have := HRB.out; omega) HRB.out) (Nat.le_of_lt HRB.out)) ?_ ?_)
  · repeat (first | with_reducible exact KeptP.refl _ _ | (with_reducible refine KeptP.set ?_ (Or.inr rfl) _ _))
  · repeat (first | with_reducible exact HPZ.out | (with_reducible refine Pa.far ?_ hle _ _))
  · repeat (first | with_reducible exact HGZ.out | (with_reducible refine grown_new ?_ (Nat.le_refl _) _ _))
set_option maxHeartbeats 8000000 in
set_option maxRecDepth 100000 in
theorem oper_within (h : Pa F B f s w) (m : Nat) (hm : RuleE F B f (bound F.z m 1)) (hkp : Keeps (bound F.z m 1)) (k2 : ((cur F.z s).kind == 2) = false) (k1 : ((cur F.z s).kind == 1) = false) (t45 : at' F.z [45] s = false) (t40 : at' F.z [40] s = true) (hfin : Fin (within F.z [40] (bound F.z m 1) [41] s)) : Calls Tryz.prog 119 #[ptrP f] w (QPost F B f CE (operand F.z (m + 1) s) w) := by
  obtain ⟨HP0, HG0, HR0⟩ := start5 h
  have HLT := hid h.lt
  have HLE := hid h.le
  have hfd := fld_kind
  have HN : Hid (operand F.z (m + 1) s = within F.z [40] (bound F.z m 1) [41] s) := hid (by rw [operand, if_neg (by simp [k2]), if_neg (by simp [k1]), if_neg (by simp [t45]), if_pos t40])
  have Hk2 := hid k2
  have Hk1 := hid k1
  have Ht45 := hid t45
  have Ht40 := hid t40
  have Hhm := hid hm
  have Hhkp := hid hkp
  have Hhfin := hid hfin
  clear h k2 k1 t45 t40 hm hkp hfin
  go_enter Tryz.func119, Tryz.ntmps119
  go_wp2_with (first
    | (go_at_call 149; refine (withinE_any _ Hhm.out Hhkp.out { data := #[40] } { data := #[41] } [40] [41] rfl rfl rfl rfl rfl rfl (by simp) (by simp) HP4.out Hhfin.out).mono ?_; intro e w5 hq; rcases hq.split with ⟨a, s3, v, hr, rfl, hC, hp, hg⟩ | ⟨n, s', hr, rfl, hp, hg⟩; rotate_left; (exact ⟨rfl, QPost.wrong (by rw [HN.out, hr]) hp (grown_trans HG4.out hg)⟩); obtain ⟨T, hv, hT⟩ := hC; rw [ET.val_is] at hv; subst hv; have HT := hid hT; have HEZ := hid hr; have HPZ := hid hp; have HGZ := hid (grown_trans HG4.out hg); have hr8 := (hg.block w.heap.size (lt_of_block HR4.out) (by have := HLT.out; have := HLE.out; simp; omega)).trans HR4.out; have HRB := hid (lt_of_block HR4.out); clear y0 x0 x1 x2 x3 x4 l8; obtain ⟨y0, x0, x1, x2, x3, x4, l8⟩ := allc5 hr8; clear hr hp hg hq hT hr8)
    | (go_at_call 147; have hx := text_at HP3.out { data := #[40] } [40] rfl _ Ht40.out; refine hx.mono ?_; clear hx; rintro e w4 ⟨rfl, hb⟩; have HP4 := hid (HP3.out.on hb); have HG4 := hid (grown_trans HG3.out (below_grown hb (some f))); have hr8 := (hb.block w.heap.size (lt_of_block HR3.out)).trans HR3.out; have HR4 := hid hr8; clear y0 x0 x1 x2 x3 x4 l8; obtain ⟨y0, x0, x1, x2, x3, x4, l8⟩ := allc5 hr8; clear hb hr8)
    | (go_at_call 147; have hx := text_at HP2.out { data := #[45] } [45] rfl _ Ht45.out; refine hx.mono ?_; clear hx; rintro e w3 ⟨rfl, hb⟩; have HP3 := hid (HP2.out.on hb); have HG3 := hid (grown_trans HG2.out (below_grown hb (some f))); have hr8 := (hb.block w.heap.size (lt_of_block HR2.out)).trans HR2.out; have HR3 := hid hr8; clear y0 x0 x1 x2 x3 x4 l8; obtain ⟨y0, x0, x1, x2, x3, x4, l8⟩ := allc5 hr8; clear hb hr8)
    | (go_at_call 144; have hx := kind_at HP1.out 1 _ Hk1.out; refine hx.mono ?_; clear hx; rintro e w2 ⟨rfl, hb⟩; have HP2 := hid (HP1.out.on hb); have HG2 := hid (grown_trans HG1.out (below_grown hb (some f))); have hr8 := (hb.block w.heap.size (lt_of_block HR1.out)).trans HR1.out; have HR2 := hid hr8; clear y0 x0 x1 x2 x3 x4 l8; obtain ⟨y0, x0, x1, x2, x3, x4, l8⟩ := allc5 hr8; clear hb hr8)
    | (go_at_call 144; have hx := kind_at HP0.out 2 _ Hk2.out; refine hx.mono ?_; clear hx; rintro e w1 ⟨rfl, hb⟩; have HP1 := hid (HP0.out.on hb); have HG1 := hid (grown_trans HG0.out (below_grown hb (some f))); have hr8 := (hb.block w.heap.size (lt_of_block HR0.out)).trans HR0.out; have HR1 := hid hr8; obtain ⟨y0, x0, x1, x2, x3, x4, l8⟩ := allc5 hr8; clear hb hr8))
  have hle := HLE.out
  have hlt := HLT.out
  obtain ⟨t1, t2, t3⟩ := HT.out
  refine bodyPost_ret (v := .agg (five T)) (by simp [results, Tryz.results119, go_sem, *]) rfl (QPost.good (by rw [HN.out, HEZ.out]) (CE.on (P := Two f w.heap.size) ⟨T, by rw [ET.val_is], t1, t2, t3⟩ (w2 := _) ?_ (two_no (f := f) (R := w.heap.size) (by have := HRB.out; omega) HRB.out) (Nat.le_of_lt HRB.out)) ?_ ?_)
  · repeat (first | with_reducible exact KeptP.refl _ _ | (with_reducible refine KeptP.set ?_ (Or.inr rfl) _ _))
  · repeat (first | with_reducible exact HPZ.out | (with_reducible refine Pa.far ?_ hle _ _))
  · repeat (first | with_reducible exact HGZ.out | (with_reducible refine grown_new ?_ (Nat.le_refl _) _ _))
set_option maxHeartbeats 8000000 in
set_option maxRecDepth 100000 in
theorem oper_unary (h : Pa F B f s w) (m : Nat) (hm : RuleO F B f (operand F.z m)) (hkp : Keeps (operand F.z m)) (k2 : ((cur F.z s).kind == 2) = false) (k1 : ((cur F.z s).kind == 1) = false) (t45 : at' F.z [45] s = false) (t40 : at' F.z [40] s = false) (hfin : Fin (unary F.z (operand F.z m) s)) : Calls Tryz.prog 119 #[ptrP f] w (QPost F B f CE (operand F.z (m + 1) s) w) := by
  obtain ⟨HP0, HG0, HR0⟩ := start5 h
  have HLT := hid h.lt
  have HLE := hid h.le
  have hfd := fld_kind
  have HN : Hid (operand F.z (m + 1) s = unary F.z (operand F.z m) s) := hid (by rw [operand, if_neg (by simp [k2]), if_neg (by simp [k1]), if_neg (by simp [t45]), if_neg (by simp [t40])])
  have Hk2 := hid k2
  have Hk1 := hid k1
  have Ht45 := hid t45
  have Ht40 := hid t40
  have Hhm := hid hm
  have Hhkp := hid hkp
  have Hhfin := hid hfin
  clear h k2 k1 t45 t40 hm hkp hfin
  go_enter Tryz.func119, Tryz.ntmps119
  go_wp2_with (first
    | (go_at_call 150; refine (unary_rule _ Hhm.out Hhkp.out HP4.out Hhfin.out).mono ?_; intro e w5 hq; rcases hq.split with ⟨a, s3, v, hr, rfl, hC, hp, hg⟩ | ⟨n, s', hr, rfl, hp, hg⟩; rotate_left; (exact ⟨rfl, QPost.wrong (by rw [HN.out, hr]) hp (grown_trans HG4.out hg)⟩); obtain ⟨T, hv, hT⟩ := hC; rw [ET.val_is] at hv; subst hv; have HT := hid hT; have HEZ := hid hr; have HPZ := hid hp; have HGZ := hid (grown_trans HG4.out hg); have hr8 := (hg.block w.heap.size (lt_of_block HR4.out) (by have := HLT.out; have := HLE.out; simp; omega)).trans HR4.out; have HRB := hid (lt_of_block HR4.out); clear y0 x0 x1 x2 x3 x4 l8; obtain ⟨y0, x0, x1, x2, x3, x4, l8⟩ := allc5 hr8; clear hr hp hg hq hT hr8)
    | (go_at_call 147; have hx := text_at HP3.out { data := #[40] } [40] rfl _ Ht40.out; refine hx.mono ?_; clear hx; rintro e w4 ⟨rfl, hb⟩; have HP4 := hid (HP3.out.on hb); have HG4 := hid (grown_trans HG3.out (below_grown hb (some f))); have hr8 := (hb.block w.heap.size (lt_of_block HR3.out)).trans HR3.out; have HR4 := hid hr8; clear y0 x0 x1 x2 x3 x4 l8; obtain ⟨y0, x0, x1, x2, x3, x4, l8⟩ := allc5 hr8; clear hb hr8)
    | (go_at_call 147; have hx := text_at HP2.out { data := #[45] } [45] rfl _ Ht45.out; refine hx.mono ?_; clear hx; rintro e w3 ⟨rfl, hb⟩; have HP3 := hid (HP2.out.on hb); have HG3 := hid (grown_trans HG2.out (below_grown hb (some f))); have hr8 := (hb.block w.heap.size (lt_of_block HR2.out)).trans HR2.out; have HR3 := hid hr8; clear y0 x0 x1 x2 x3 x4 l8; obtain ⟨y0, x0, x1, x2, x3, x4, l8⟩ := allc5 hr8; clear hb hr8)
    | (go_at_call 144; have hx := kind_at HP1.out 1 _ Hk1.out; refine hx.mono ?_; clear hx; rintro e w2 ⟨rfl, hb⟩; have HP2 := hid (HP1.out.on hb); have HG2 := hid (grown_trans HG1.out (below_grown hb (some f))); have hr8 := (hb.block w.heap.size (lt_of_block HR1.out)).trans HR1.out; have HR2 := hid hr8; clear y0 x0 x1 x2 x3 x4 l8; obtain ⟨y0, x0, x1, x2, x3, x4, l8⟩ := allc5 hr8; clear hb hr8)
    | (go_at_call 144; have hx := kind_at HP0.out 2 _ Hk2.out; refine hx.mono ?_; clear hx; rintro e w1 ⟨rfl, hb⟩; have HP1 := hid (HP0.out.on hb); have HG1 := hid (grown_trans HG0.out (below_grown hb (some f))); have hr8 := (hb.block w.heap.size (lt_of_block HR0.out)).trans HR0.out; have HR1 := hid hr8; obtain ⟨y0, x0, x1, x2, x3, x4, l8⟩ := allc5 hr8; clear hb hr8))
  have hle := HLE.out
  have hlt := HLT.out
  obtain ⟨t1, t2, t3⟩ := HT.out
  refine bodyPost_ret (v := .agg (five T)) (by simp [results, Tryz.results119, go_sem, *]) rfl (QPost.good (by rw [HN.out, HEZ.out]) (CE.on (P := Two f w.heap.size) ⟨T, by rw [ET.val_is], t1, t2, t3⟩ (w2 := _) ?_ (two_no (f := f) (R := w.heap.size) (by have := HRB.out; omega) HRB.out) (Nat.le_of_lt HRB.out)) ?_ ?_)
  · repeat (first | with_reducible exact KeptP.refl _ _ | (with_reducible refine KeptP.set ?_ (Or.inr rfl) _ _))
  · repeat (first | with_reducible exact HPZ.out | (with_reducible refine Pa.far ?_ hle _ _))
  · repeat (first | with_reducible exact HGZ.out | (with_reducible refine grown_new ?_ (Nat.le_refl _) _ _))
set_option maxHeartbeats 8000000 in
set_option maxRecDepth 100000 in
theorem oper_minus (h : Pa F B f s w) (m : Nat) (hm : RuleO F B f (operand F.z m)) (hkp : Keeps (operand F.z m)) (k2 : ((cur F.z s).kind == 2) = false) (k1 : ((cur F.z s).kind == 1) = false) (t45 : at' F.z [45] s = true) (n2 : ((nxt F.z s).kind == 2) = false) (t40 : at' F.z [40] s = false) (hfin : Fin (unary F.z (operand F.z m) s)) : Calls Tryz.prog 119 #[ptrP f] w (QPost F B f CE (operand F.z (m + 1) s) w) := by
  obtain ⟨HP0, HG0, HR0⟩ := start5 h
  have HLT := hid h.lt
  have HLE := hid h.le
  have hfd := fld_kind
  have HN : Hid (operand F.z (m + 1) s = unary F.z (operand F.z m) s) := hid (by rw [operand, if_neg (by simp [k2]), if_neg (by simp [k1]), if_neg (by simp [t45, n2]), if_neg (by simp [t40])])
  have n2b : (((nxt F.z s).kind : Int) == 2) = false := by simp at n2 ⊢; omega
  have Hk2 := hid k2
  have Hk1 := hid k1
  have Ht45 := hid t45
  have Ht40 := hid t40
  have Hhm := hid hm
  have Hhkp := hid hkp
  have Hhfin := hid hfin
  clear h k2 k1 t45 t40 hm hkp hfin n2
  go_enter Tryz.func119, Tryz.ntmps119
  go_wp2_with (first
    | (go_at_call 150; refine (unary_rule _ Hhm.out Hhkp.out HP5.out Hhfin.out).mono ?_; intro e w6 hq; rcases hq.split with ⟨a, s3, v, hr, rfl, hC, hp, hg⟩ | ⟨n, s', hr, rfl, hp, hg⟩; rotate_left; (exact ⟨rfl, QPost.wrong (by rw [HN.out, hr]) hp (grown_trans HG5.out hg)⟩); obtain ⟨T, hv, hT⟩ := hC; rw [ET.val_is] at hv; subst hv; have HT := hid hT; have HEZ := hid hr; have HPZ := hid hp; have HGZ := hid (grown_trans HG5.out hg); have hr8 := (hg.block w.heap.size (lt_of_block HR5.out) (by have := HLT.out; have := HLE.out; simp; omega)).trans HR5.out; have HRB := hid (lt_of_block HR5.out); clear y0 x0 x1 x2 x3 x4 l8; obtain ⟨y0, x0, x1, x2, x3, x4, l8⟩ := allc5 hr8; clear hr hp hg hq hT hr8)
    | (go_at_call 147; have hx := text_at HP4.out { data := #[40] } [40] rfl _ Ht40.out; refine hx.mono ?_; clear hx; rintro e w5 ⟨rfl, hb⟩; have HP5 := hid (HP4.out.on hb); have HG5 := hid (grown_trans HG4.out (below_grown hb (some f))); have hr8 := (hb.block w.heap.size (lt_of_block HR4.out)).trans HR4.out; have HR5 := hid hr8; clear y0 x0 x1 x2 x3 x4 l8; obtain ⟨y0, x0, x1, x2, x3, x4, l8⟩ := allc5 hr8; clear hb hr8)
    | (go_at_call 143; have hx := ahead1 HP3.out; refine hx.mono ?_; clear hx; rintro e w4 ⟨rfl, hb⟩; have HP4 := hid (HP3.out.on hb); have HG4 := hid (grown_trans HG3.out (below_grown hb (some f))); have hr8 := (hb.block w.heap.size (lt_of_block HR3.out)).trans HR3.out; have HR4 := hid hr8; clear y0 x0 x1 x2 x3 x4 l8; obtain ⟨y0, x0, x1, x2, x3, x4, l8⟩ := allc5 hr8; clear hb hr8)
    | (go_at_call 147; have hx := text_at HP2.out { data := #[45] } [45] rfl _ Ht45.out; refine hx.mono ?_; clear hx; rintro e w3 ⟨rfl, hb⟩; have HP3 := hid (HP2.out.on hb); have HG3 := hid (grown_trans HG2.out (below_grown hb (some f))); have hr8 := (hb.block w.heap.size (lt_of_block HR2.out)).trans HR2.out; have HR3 := hid hr8; clear y0 x0 x1 x2 x3 x4 l8; obtain ⟨y0, x0, x1, x2, x3, x4, l8⟩ := allc5 hr8; clear hb hr8)
    | (go_at_call 144; have hx := kind_at HP1.out 1 _ Hk1.out; refine hx.mono ?_; clear hx; rintro e w2 ⟨rfl, hb⟩; have HP2 := hid (HP1.out.on hb); have HG2 := hid (grown_trans HG1.out (below_grown hb (some f))); have hr8 := (hb.block w.heap.size (lt_of_block HR1.out)).trans HR1.out; have HR2 := hid hr8; clear y0 x0 x1 x2 x3 x4 l8; obtain ⟨y0, x0, x1, x2, x3, x4, l8⟩ := allc5 hr8; clear hb hr8)
    | (go_at_call 144; have hx := kind_at HP0.out 2 _ Hk2.out; refine hx.mono ?_; clear hx; rintro e w1 ⟨rfl, hb⟩; have HP1 := hid (HP0.out.on hb); have HG1 := hid (grown_trans HG0.out (below_grown hb (some f))); have hr8 := (hb.block w.heap.size (lt_of_block HR0.out)).trans HR0.out; have HR1 := hid hr8; obtain ⟨y0, x0, x1, x2, x3, x4, l8⟩ := allc5 hr8; clear hb hr8))
  have hle := HLE.out
  have hlt := HLT.out
  obtain ⟨t1, t2, t3⟩ := HT.out
  refine bodyPost_ret (v := .agg (five T)) (by simp [results, Tryz.results119, go_sem, *]) rfl (QPost.good (by rw [HN.out, HEZ.out]) (CE.on (P := Two f w.heap.size) ⟨T, by rw [ET.val_is], t1, t2, t3⟩ (w2 := _) ?_ (two_no (f := f) (R := w.heap.size) (by have := HRB.out; omega) HRB.out) (Nat.le_of_lt HRB.out)) ?_ ?_)
  · repeat (first | with_reducible exact KeptP.refl _ _ | (with_reducible refine KeptP.set ?_ (Or.inr rfl) _ _))
  · repeat (first | with_reducible exact HPZ.out | (with_reducible refine Pa.far ?_ hle _ _))
  · repeat (first | with_reducible exact HGZ.out | (with_reducible refine grown_new ?_ (Nat.le_refl _) _ _))
end
end Go.Proofs.YtdaklmbifkehpaaGreatDoor.Pm

set_option linter.unusedSimpArgs false
set_option linter.unusedVariables false
namespace Go.Proofs.YtdaklmbifkehpaaGreatDoor.Pm
open Go Go.RowKit Go.Proofs.YtdaklmbifkehpaaGreatDoor
open Go.Lib (hid)

theorem hide_block {w : World} {X N : Nat} (h : N ≠ X) : (hide (some X) w).heap[N]? = w.heap[N]? := by simp [hide, Array.getElem?_modify, Ne.symm h]
theorem levelV_le (s : ByteArray) : levelV s ≤ 10 := by
  unfold levelV
  repeat (first | (split; decide) | (split; · decide))
  all_goals (first | decide | omega)
theorem lev_flat {t : List UInt8} (h : 1 ≤ levelV (bs t)) : opens t = false ∧ shuts t = false ∧ t ≠ [] := by
  have key : ∀ x : List UInt8, x ∈ [[40], [91], [123], [41], [93], [125], []] → levelV (bs x) = 0 := by decide
  have no : ∀ x, x ∈ [[40], [91], [123], [41], [93], [125], []] → t ≠ x := fun x hx e => by
    have := key x hx
    rw [e] at h
    omega
  refine ⟨?_, ?_, no [] (by simp)⟩
  · simp only [opens, Bool.or_eq_false_iff, beq_eq_false_iff_ne]
    exact ⟨⟨no _ (by simp), no _ (by simp)⟩, no _ (by simp)⟩
  · simp only [shuts, Bool.or_eq_false_iff, beq_eq_false_iff_ne]
    exact ⟨⟨no _ (by simp), no _ (by simp)⟩, no _ (by simp)⟩
theorem hid_move {P : Nat → Prop} {X A : Nat} {T : ET} {wa wb : World} (hk : KeptP P wa wb) (hP : ∀ b, A ≤ b → b ≠ X → ¬ P b) (hT : T.In (hide (some X) wa) A) : T.In (hide (some X) wb) A := hT.keep fun p u hp hc => by
  rw [hide_cell] at hc ⊢
  exact ⟨hc.1, hk.cell (hP _ hp fun e => hc.1 (by rw [e])) hc.2⟩
theorem hid_new {P : Nat → Prop} {X A : Nat} {T : ET} {wa wb : World} (hk : KeptP P wa wb) (hP : ∀ b, A ≤ b → ¬ P b) (hX : ∀ b, A ≤ b → b < wa.heap.size → b ≠ X) (hT : T.In wa A) : T.In (hide (some X) wb) A := hT.keep fun p u hp hc => by
  rw [hide_cell]
  exact ⟨fun e => hX _ hp (World.block_lt_of_cell? wa p hc) (by simpa using e), hk.cell (hP _ hp) hc⟩
theorem hid_out {X A A' : Nat} {T : ET} {w : World} (hT : T.In (hide (some X) w) A) (hA : A' ≤ A) : T.In w A' := (hT.keep fun p u hp hc => (hide_cell.1 hc).2).mono hA
structure BInv (F : PC) (B f : Nat) (all : PR RE) (k : Int) (m R X : Nat) (w wr : World) (mm : Nat) (s' : PS) (r : RE) (T : ET) : Prop where
  tl : tail F.z mm k r s' = all
  le : mm ≤ m
  pa : Pa F B f s' wr
  gr : w.grownBy wr (some f)
  rb : wr.heap[R]? = some (.cells #[.int .i64 0, .string ⟨#[]⟩, .int .i64 0, .string ⟨#[]⟩, .slice none 0 0] 26 (0, 0))
  xb : wr.heap[X]? = some (.cells (five T) 26 (0, 0))
  re : T.re = r
  rt : T.rightB = true
  tin : T.In (hide (some X) wr) (R + 1)
def BRel (F : PC) (B f : Nat) (all : PR RE) (k : Int) (m R X : Nat) (w wr : World) : Prop := ∃ (mm : Nat) (s' : PS) (r : RE) (T : ET), BInv F B f all k m R X w wr mm s' r T
def posW (f : Nat) (w : World) : Nat := (intOf ((w.cell? ⟨f, 1, none⟩).getD (.bool false))).toNat
def Tri (f R X b : Nat) : Prop := b = f ∨ b = R ∨ b = X
section
variable {F : PC} {B f : Nat} {s : PS} {w : World}
theorem posW_is (h : Pa F B f s w) : posW f w = posOf F s := by unfold posW; rw [h.c1]; simp [intOf]
theorem bin_ce {l : List UInt8} (h : 1 ≤ levelV (bs l)) {T U : ET} {r q : RE} (hr : T.re = r) (hq : U.re = q) (hb : T.rightB = true) (hb' : U.rightB = true) (N : Nat) :
    (ET.mk 4 (bs l) 0 mE (some ⟨N, 0, none⟩) 2 [T, U]).re = .bin l r q ∧ (ET.mk 4 (bs l) 0 mE (some ⟨N, 0, none⟩) 2 [T, U]).rightB = true := by
  refine ⟨by rw [ET.re, hr, hq]; simp [bs], ?_⟩
  have h0 : 0 < levelV (bs l) := by omega
  simp [ET.rightB, rightEs, formedC, reckC, hb, hb', h0]
theorem meas {wf wr : World} {s2 s1 : PS} (h2 : Pa F B f s2 wf) (h1 : Pa F B f s1 wr) (hl : s2.ws.length < s1.ws.length) : F.ws.length - posW f wf < F.ws.length - posW f wr := by
  rw [posW_is h2, posW_is h1]
  have := h1.len
  have := h2.len
  unfold posOf
  omega
theorem five_copy {w1 : World} {X : Nat} {a0 a1 a2 a3 a4 b0 b1 b2 b3 b4 : Value} {t : TypeId} (hY : w1.heap[X]? = some (.cells #[a0, a1, a2, a3, a4] t (0, 0))) :
    (((((w1.setCell ⟨X, 0, none⟩ b0).setCell ⟨X, 1, none⟩ b1).setCell ⟨X, 2, none⟩ b2).setCell ⟨X, 3, none⟩ b3).setCell ⟨X, 4, none⟩ b4).heap[X]? = some (.cells #[b0, b1, b2, b3, b4] t (0, 0)) :=
  bk_set (k := 4) b4 (bk_set (k := 3) b3 (bk_set (k := 2) b2 (bk_set (k := 1) b1 (bk_set (k := 0) b0 hY))))
def RuleB (F : PC) (B f m : Nat) : Prop := ∀ (k : Int) (s1 : PS) (w1 : World), Pa F B f s1 w1 → Fin (bound F.z m k s1) → (1 ≤ k ∧ k ≤ 11) → Calls Tryz.prog 71 #[ptrP f, .int .i64 k] w1 (QPost F B f CE (bound F.z m k s1) w1)
set_option maxHeartbeats 8000000 in
set_option maxRecDepth 100000 in
theorem bound_go (m : Nat) (ho : RuleO F B f (operand F.z m)) (hb : ∀ j, j < m → RuleB F B f j) (k : Int) (hk : 1 ≤ k ∧ k ≤ 11) (h : Pa F B f s w) (hfin : Fin (bound F.z (m + 1) k s)) :
    Calls Tryz.prog 71 #[ptrP f, .int .i64 k] w (QPost F B f CE (bound F.z (m + 1) k s) w) := by
  have HP0 := hid (h.alloc (.cells #[.int .i64 0, .string ⟨#[]⟩, .int .i64 0, .string ⟨#[]⟩, .slice none 0 0] 26))
  have HG0 : Hid (w.grownBy (w.alloc (.cells #[.int .i64 0, .string ⟨#[]⟩, .int .i64 0, .string ⟨#[]⟩, .slice none 0 0] 26)) (some f)) := hid (grown_alloc (grown_refl w (some f)) _)
  have HLT := hid h.lt
  have HLE := hid h.le
  have HO := hid ho
  have HB : Hid (∀ j, j < m → ∀ (k : Int) (s1 : PS) (w1 : World), Pa F B f s1 w1 → Fin (bound F.z j k s1) → (1 ≤ k ∧ k ≤ 11) → Calls Tryz.prog 71 #[ptrP f, .int .i64 k] w1 (QPost F B f CE (bound F.z j k s1) w1)) := hid hb
  have HFIN := hid hfin
  have HFO : Hid (Fin (operand F.z m s)) := hid (by rw [bound] at hfin; exact hfin.fst)
  have hk1 := hk.1
  have hk2 := hk.2
  have hfd := fld_text
  clear h ho hb hfin hk
  go_enter Tryz.func71, Tryz.ntmps71
  go_wp2_with (go_at_call 119; refine (HO.out s _ HP0.out HFO.out).mono ?_; intro e w1 hq; rcases hq.split with ⟨a, s1, v, hr, rfl, hC, hp, hg⟩ | ⟨n, s', hr, rfl, hp, hg⟩; rotate_left; (exact ⟨rfl, QPost.wrong (by rw [bound, hr]; rfl) hp (grown_trans HG0.out hg)⟩); obtain ⟨T, hv, hT⟩ := hC; rw [ET.val_is] at hv; subst hv; have HT := hid hT; have HE1 := hid hr; have HP1 := hid hp; have HG1 := hid (grown_trans HG0.out hg); have HR1 := hid ((hg.block w.heap.size (by simp) (by have := HLT.out; have := HLE.out; simp; omega)).trans (bk_new w _)); clear hr hp hg hq hT)
  have hr1 := lt_of_block HR1.out
  have hlt := HLT.out
  have hle := HLE.out
  obtain ⟨t1, t2, t3⟩ := HT.out
  have HS0 : Hid (BRel F B f (bound F.z (m + 1) k s) k m w.heap.size w1.heap.size w (w1.alloc (.cells (five T) 26))) := hid ⟨m, s1, a, T, ⟨by rw [bound, HE1.out]; rfl, Nat.le_refl _, HP1.out.alloc _, grown_alloc HG1.out _, bk_old _ HR1.out, bk_new _ _, t1, t2, by
    have t4 : T.In w1 (w.heap.size + 1) := by simpa using t3
    exact hid_new ((KeptP.refl (fun _ => False) w1).alloc _) (fun _ _ h => h) (fun b _ hb e => by omega) t4⟩⟩
  have HRF : Hid (w.heap.size ≠ f) := hid (by omega)
  have HXF : Hid (some w1.heap.size ≠ some f) := hid (by simp; omega)
  have HRF : Hid (some w.heap.size ≠ some f) := hid (by simp; omega)
  have HR1L := hid hr1
  clear HT t1 t2 t3 HP1 HG1 HE1 HP0 HG0 HO HFO hr1 hlt hle
  go_loopw [6, 7] (fun _ _ wr => BRel F B f (bound F.z (m + 1) k s) k m w.heap.size w1.heap.size w wr) (fun _ _ wr => F.ws.length - posW f wr)
  case atStart => exact HS0.out
  case round =>
    obtain ⟨mm0, s', r, T, hI⟩ := hrel
    have HTL := hid hI.tl
    have HML := hid hI.le
    have HP11 := hid hI.pa
    have HG11 := hid hI.gr
    have HR11 := hid hI.rb
    have HX11 := hid hI.xb
    have HTI := hid (And.intro hI.re (And.intro hI.rt hI.tin))
    have HK11 := hid (KeptP.refl (Tri f w.heap.size w1.heap.size) wr)
    have hr8 := hI.rb
    have hrx := hI.xb
    obtain ⟨y0, x0, x1, x2, x3, x4, l8⟩ := allc5 hr8
    have u0 := bk_cell (k := 0) hrx rfl; have u1 := bk_cell (k := 1) hrx rfl; have u2 := bk_cell (k := 2) hrx rfl; have u3 := bk_cell (k := 3) hrx rfl; have u4 := bk_cell (k := 4) hrx rfl; have uy := fun k => bk_free (k := k) hrx; have lx := lt_of_block hrx
    have hl0 := levelV_le (bs (cur F.z s').text)
    clear hr8 hrx hI
    obtain ⟨mm, rfl⟩ : ∃ mm, mm0 = mm + 1 := by
      cases mm0 with
      | zero => exact absurd (by rw [← HTL.out, tail]) (HFIN.out s')
      | succ mm => exact ⟨mm, rfl⟩
    by_cases hlv : k ≤ levelV (bs (cur F.z s').text)
    · have hfl := lev_flat (t := (cur F.z s').text) (by omega)
      have HTT : Hid (tail F.z (mm + 1) k r s' = (bound F.z mm (levelV (bs (cur F.z s').text) + 1) (skip s')).bind fun y s2 => tail F.z mm k (.bin (cur F.z s').text r y) s2) := hid (by rw [tail]; exact if_pos hlv)
      have HFI : Hid (Fin (bound F.z mm (levelV (bs (cur F.z s').text) + 1) (skip s'))) := hid (by have := HFIN.out; rw [← HTL.out, HTT.out] at this; exact this.fst)
      have HMM : Hid (mm < m) := hid (by have := HML.out; omega)
      have HLV : Hid (1 ≤ levelV (bs (cur F.z s').text) + 1 ∧ levelV (bs (cur F.z s').text) + 1 ≤ 11) := hid (by omega)
      have HL1 : Hid (1 ≤ levelV (bs (cur F.z s').text)) := hid (by omega)
      have HTH : Hid (s'.ws ≠ []) := hid (cur_there (F := F) (s := s') rfl hfl.2.2)
      have HFL : Hid (opens (cur F.z s').text = false ∧ shuts (cur F.z s').text = false) := hid ⟨hfl.1, hfl.2.1⟩
      clear hfl
      go_wp2_with (first
        | (go_at_call 71; refine (HB.out mm HMM.out _ (skip s') w15 HP15.out HFI.out HLV.out).mono ?_; intro e w16 hq; rcases hq.split with ⟨a, s2, v, hr, rfl, hC, hp, hg⟩ | ⟨n, s9, hr, rfl, hp, hg⟩; rotate_left; (exact ⟨rfl, QPost.wrong (by rw [← HTL.out, HTT.out, hr]; rfl) hp (grown_trans HG15.out hg)⟩); obtain ⟨U, hv, hU⟩ := hC; rw [ET.val_is] at hv; subst hv; have HU := hid hU; have HE16 := hid hr; have HP16 := hid hp; have HG16 := hid (grown_trans HG15.out hg); have HK16 := hid (HK15.out.grown (Or.inl rfl) hg); have HS16 := hid hg.size; have hr8 := (hg.block w.heap.size (lt_of_block HR15.out) HRF.out).trans HR15.out; have HR16 := hid hr8; have hrx := (hg.block w1.heap.size (lt_of_block HX15.out) HXF.out).trans HX15.out; have HX16 := hid hrx; have HLX := hid (lt_of_block HX15.out); clear y0 x0 x1 x2 x3 x4 l8; clear u0 u1 u2 u3 u4 uy lx; obtain ⟨y0, x0, x1, x2, x3, x4, l8⟩ := allc5 hr8; have u0 := bk_cell (k := 0) hrx rfl; have u1 := bk_cell (k := 1) hrx rfl; have u2 := bk_cell (k := 2) hrx rfl; have u3 := bk_cell (k := 3) hrx rfl; have u4 := bk_cell (k := 4) hrx rfl; have uy := fun k => bk_free (k := k) hrx; have lx := lt_of_block hrx; clear hr hp hg hq hU hr8 hrx)
        | (go_at_call 110; refine (level_any (bs (cur F.z s').text) w14).mono ?_; rintro e w15 ⟨rfl, hb⟩; have HP15 := hid (HP14.out.on hb); have HG15 := hid (grown_trans HG14.out (below_grown hb (some f))); have HK15 := hid (HK14.out.grown (Or.inl rfl) (below_grown hb (some f))); have hr8 := (hb.block w.heap.size (lt_of_block HR14.out)).trans HR14.out; have HR15 := hid hr8; have hrx := (hb.block w1.heap.size (lt_of_block HX14.out)).trans HX14.out; have HX15 := hid hrx; clear y0 x0 x1 x2 x3 x4 l8; clear u0 u1 u2 u3 u4 uy lx; obtain ⟨y0, x0, x1, x2, x3, x4, l8⟩ := allc5 hr8; have u0 := bk_cell (k := 0) hrx rfl; have u1 := bk_cell (k := 1) hrx rfl; have u2 := bk_cell (k := 2) hrx rfl; have u3 := bk_cell (k := 3) hrx rfl; have u4 := bk_cell (k := 4) hrx rfl; have uy := fun k => bk_free (k := k) hrx; have lx := lt_of_block hrx; clear hb hr8 hrx)
        | (go_at_call 120; refine (pass_plain HP13.out HTH.out HFL.out.1 HFL.out.2).mono ?_; rintro e w14 ⟨rfl, hp, hg⟩; have HP14 : Hid (Pa F B f (skip s') w14) := hid hp; have HG14 := hid (grown_trans HG13.out hg); have HK14 := hid (HK13.out.grown (Or.inl rfl) hg); have hr8 := (hg.block w.heap.size (lt_of_block HR13.out) HRF.out).trans HR13.out; have HR14 := hid hr8; have hrx := (hg.block w1.heap.size (lt_of_block HX13.out) HXF.out).trans HX13.out; have HX14 := hid hrx; clear y0 x0 x1 x2 x3 x4 l8; clear u0 u1 u2 u3 u4 uy lx; obtain ⟨y0, x0, x1, x2, x3, x4, l8⟩ := allc5 hr8; have u0 := bk_cell (k := 0) hrx rfl; have u1 := bk_cell (k := 1) hrx rfl; have u2 := bk_cell (k := 2) hrx rfl; have u3 := bk_cell (k := 3) hrx rfl; have u4 := bk_cell (k := 4) hrx rfl; have uy := fun k => bk_free (k := k) hrx; have lx := lt_of_block hrx; clear hp hg hr8 hrx)
        | (go_at_call 110; refine (level_any (bs (cur F.z s').text) w12).mono ?_; rintro e w13 ⟨rfl, hb⟩; have HP13 := hid (HP12.out.on hb); have HG13 := hid (grown_trans HG12.out (below_grown hb (some f))); have HK13 := hid (HK12.out.grown (Or.inl rfl) (below_grown hb (some f))); have hr8 := (hb.block w.heap.size (lt_of_block HR12.out)).trans HR12.out; have HR13 := hid hr8; have hrx := (hb.block w1.heap.size (lt_of_block HX12.out)).trans HX12.out; have HX13 := hid hrx; clear y0 x0 x1 x2 x3 x4 l8; clear u0 u1 u2 u3 u4 uy lx; obtain ⟨y0, x0, x1, x2, x3, x4, l8⟩ := allc5 hr8; have u0 := bk_cell (k := 0) hrx rfl; have u1 := bk_cell (k := 1) hrx rfl; have u2 := bk_cell (k := 2) hrx rfl; have u3 := bk_cell (k := 3) hrx rfl; have u4 := bk_cell (k := 4) hrx rfl; have uy := fun k => bk_free (k := k) hrx; have lx := lt_of_block hrx; clear hb hr8 hrx)
        | (go_at_call 116; refine (word_any HP11.out).mono ?_; rintro e w12 ⟨rfl, hb⟩; have HP12 := hid (HP11.out.on hb); have HG12 := hid (grown_trans HG11.out (below_grown hb (some f))); have HK12 := hid (HK11.out.grown (Or.inl rfl) (below_grown hb (some f))); have hr8 := (hb.block w.heap.size (lt_of_block HR11.out)).trans HR11.out; have HR12 := hid hr8; have hrx := (hb.block w1.heap.size (lt_of_block HX11.out)).trans HX11.out; have HX12 := hid hrx; clear y0 x0 x1 x2 x3 x4 l8; clear u0 u1 u2 u3 u4 uy lx; obtain ⟨y0, x0, x1, x2, x3, x4, l8⟩ := allc5 hr8; have u0 := bk_cell (k := 0) hrx rfl; have u1 := bk_cell (k := 1) hrx rfl; have u2 := bk_cell (k := 2) hrx rfl; have u3 := bk_cell (k := 3) hrx rfl; have u4 := bk_cell (k := 4) hrx rfl; have uy := fun k => bk_free (k := k) hrx; have lx := lt_of_block hrx; clear hb hr8 hrx))
      go_roundw
      case rel =>
        have hlt := HLT.out
        have hle := HLE.out
        have hr1 := HR1L.out
        have hlx := HLX.out
        have hs16 := HS16.out
        obtain ⟨t1, t2, t3⟩ := HTI.out
        obtain ⟨u1, u2, u3⟩ := HU.out
        obtain ⟨b1, b2⟩ := bin_ce HL1.out t1 u1 t2 u2 (w16.heap.size + 1)
        refine ⟨mm, s2, _, _, ⟨by rw [← HTL.out, HTT.out, HE16.out]; rfl, by have := HMM.out; omega, ?_, ?_, ?_, bk_old _ (bk_old _ (five_copy HX16.out)), b1, b2, ?_⟩⟩
        · repeat (first | with_reducible exact HP16.out | (with_reducible refine Pa.far ?_ (Nat.le_trans hle (Nat.le_of_lt hr1)) _ _) | (with_reducible refine Pa.alloc ?_ _))
        · repeat (first | with_reducible exact HG16.out | (with_reducible refine grown_new ?_ (Nat.le_of_lt hr1) _ _) | (with_reducible refine grown_alloc ?_ _))
        · repeat (first | with_reducible exact HR16.out | (with_reducible refine bk_old _ ?_) | (with_reducible refine (Below.heap_setCell _ _ _ _ (Nat.ne_of_lt hr1)).trans ?_))
        · rw [ET.In]
          refine ⟨by decide, by simp, es_two_of ((hide_block (by omega)).trans (bk_new' _ (by simp [World.setCell]))) (fun _ _ h => h) (hid_move (P := Tri f w.heap.size w1.heap.size) (wa := wr) ?_ (fun b hb hx h => by unfold Tri at h; omega) t3) ((hid_new (P := Tri f w.heap.size w1.heap.size) (wa := w16) ?_ (fun b hb h => by unfold Tri at h; omega) (fun b hb _ => by omega) u3).mono (by omega)) (by omega)⟩
          · repeat (first | with_reducible exact HK16.out | (with_reducible refine KeptP.set ?_ (Or.inr (Or.inr rfl)) _ _) | (with_reducible refine KeptP.alloc ?_ _))
          · repeat (first | with_reducible exact KeptP.refl _ _ | (with_reducible refine KeptP.set ?_ (Or.inr (Or.inr rfl)) _ _) | (with_reducible refine KeptP.alloc ?_ _))
      case measure =>
        have hr1 := HR1L.out
        have hle := HLE.out
        refine meas (s2 := s2) ?_ HP11.out ?_
        · repeat (first | with_reducible exact HP16.out | (with_reducible refine Pa.far ?_ (Nat.le_trans hle (Nat.le_of_lt hr1)) _ _) | (with_reducible refine Pa.alloc ?_ _))
        · have h1 := ((keeps_expr F.z mm).2.1 _ _ _ _ HE16.out).1
          have h2 := HTH.out
          have h3 : (skip s').ws = s'.ws.tail := rfl
          rw [h3, List.length_tail] at h1
          have : 0 < s'.ws.length := List.length_pos_iff.2 h2
          omega
    · have HTT : Hid (tail F.z (mm + 1) k r s' = .ok r s') := hid (by rw [tail]; exact if_neg hlv)
      go_wp2_with (first
        | (go_at_call 110; refine (level_any (bs (cur F.z s').text) w12).mono ?_; rintro e w13 ⟨rfl, hb⟩; have HP13 := hid (HP12.out.on hb); have HG13 := hid (grown_trans HG12.out (below_grown hb (some f))); have HK13 := hid (HK12.out.grown (Or.inl rfl) (below_grown hb (some f))); have hr8 := (hb.block w.heap.size (lt_of_block HR12.out)).trans HR12.out; have HR13 := hid hr8; have hrx := (hb.block w1.heap.size (lt_of_block HX12.out)).trans HX12.out; have HX13 := hid hrx; clear y0 x0 x1 x2 x3 x4 l8; clear u0 u1 u2 u3 u4 uy lx; obtain ⟨y0, x0, x1, x2, x3, x4, l8⟩ := allc5 hr8; have u0 := bk_cell (k := 0) hrx rfl; have u1 := bk_cell (k := 1) hrx rfl; have u2 := bk_cell (k := 2) hrx rfl; have u3 := bk_cell (k := 3) hrx rfl; have u4 := bk_cell (k := 4) hrx rfl; have uy := fun k => bk_free (k := k) hrx; have lx := lt_of_block hrx; clear hb hr8 hrx)
        | (go_at_call 116; refine (word_any HP11.out).mono ?_; rintro e w12 ⟨rfl, hb⟩; have HP12 := hid (HP11.out.on hb); have HG12 := hid (grown_trans HG11.out (below_grown hb (some f))); have HK12 := hid (HK11.out.grown (Or.inl rfl) (below_grown hb (some f))); have hr8 := (hb.block w.heap.size (lt_of_block HR11.out)).trans HR11.out; have HR12 := hid hr8; have hrx := (hb.block w1.heap.size (lt_of_block HX11.out)).trans HX11.out; have HX12 := hid hrx; clear y0 x0 x1 x2 x3 x4 l8; clear u0 u1 u2 u3 u4 uy lx; obtain ⟨y0, x0, x1, x2, x3, x4, l8⟩ := allc5 hr8; have u0 := bk_cell (k := 0) hrx rfl; have u1 := bk_cell (k := 1) hrx rfl; have u2 := bk_cell (k := 2) hrx rfl; have u3 := bk_cell (k := 3) hrx rfl; have u4 := bk_cell (k := 4) hrx rfl; have uy := fun k => bk_free (k := k) hrx; have lx := lt_of_block hrx; clear hb hr8 hrx))
      have hle := HLE.out
      obtain ⟨t1, t2, t3⟩ := HTI.out
      refine bodyPost_ret (v := .agg (five T)) (by simp [results, Tryz.results71, go_sem, *]) rfl (QPost.good (by rw [← HTL.out, HTT.out]) ⟨T, by rw [ET.val_is], t1, t2, hid_out (X := w1.heap.size) (hid_move (P := Tri f w.heap.size w1.heap.size) (wa := wr) ?_ (fun b hb hx h => by have := HLT.out; unfold Tri at h; omega) t3) (Nat.le_succ _)⟩ ?_ ?_)
      · repeat (first | with_reducible exact HK13.out | (with_reducible refine KeptP.set ?_ (Or.inr (Or.inl rfl)) _ _))
      · repeat (first | with_reducible exact HP13.out | (with_reducible refine Pa.far ?_ hle _ _))
      · repeat (first | with_reducible exact HG13.out | (with_reducible refine grown_new ?_ (Nat.le_refl _) _ _))
set_option maxHeartbeats 8000000 in
set_option maxRecDepth 100000 in
theorem expr_of (h : Pa F B f s w) (m : Nat) (hb : RuleB F B f m) (hfin : Fin (bound F.z m 1 s)) : Calls Tryz.prog 52 #[ptrP f] w (QPost F B f CE (expr F.z m s) w) := by
  obtain ⟨HP0, HG0, HR0⟩ := start5 h
  have HLT := hid h.lt
  have HLE := hid h.le
  have hfd := fld_kind
  have HN : Hid (expr F.z m s = bound F.z m 1 s) := hid rfl
  have Hhb : Hid (∀ (k : Int) (s1 : PS) (w1 : World), Pa F B f s1 w1 → Fin (bound F.z m k s1) → (1 ≤ k ∧ k ≤ 11) → Calls Tryz.prog 71 #[ptrP f, .int .i64 k] w1 (QPost F B f CE (bound F.z m k s1) w1)) := hid hb
  have Hhfin := hid hfin
  clear h hb hfin
  go_enter Tryz.func52, Tryz.ntmps52
  go_wp2_with (first
    | (go_at_call 71; refine (Hhb.out 1 s _ HP0.out Hhfin.out (by omega)).mono ?_; intro e w1 hq; rcases hq.split with ⟨a, s3, v, hr, rfl, hC, hp, hg⟩ | ⟨n, s', hr, rfl, hp, hg⟩; rotate_left; (exact ⟨rfl, QPost.wrong (by rw [HN.out, hr]) hp (grown_trans HG0.out hg)⟩); obtain ⟨T, hv, hT⟩ := hC; rw [ET.val_is] at hv; subst hv; have HT := hid hT; have HEZ := hid hr; have HPZ := hid hp; have HGZ := hid (grown_trans HG0.out hg); have hr8 := (hg.block w.heap.size (lt_of_block HR0.out) (by have := HLT.out; have := HLE.out; simp; omega)).trans HR0.out; have HRB := hid (lt_of_block HR0.out); obtain ⟨y0, x0, x1, x2, x3, x4, l8⟩ := allc5 hr8; clear hr hp hg hq hT hr8))
  have hle := HLE.out
  have hlt := HLT.out
  obtain ⟨t1, t2, t3⟩ := HT.out
  refine bodyPost_ret (v := .agg (five T)) (by simp [results, Tryz.results52, go_sem, *]) rfl (QPost.good (by rw [HN.out, HEZ.out]) (CE.on (P := Two f w.heap.size) ⟨T, by rw [ET.val_is], t1, t2, t3⟩ (w2 := _) ?_ (two_no (f := f) (R := w.heap.size) (by have := HRB.out; omega) HRB.out) (Nat.le_of_lt HRB.out)) ?_ ?_)
  · repeat (first | with_reducible exact KeptP.refl _ _ | (with_reducible refine KeptP.set ?_ (Or.inr rfl) _ _))
  · repeat (first | with_reducible exact HPZ.out | (with_reducible refine Pa.far ?_ hle _ _))
  · repeat (first | with_reducible exact HGZ.out | (with_reducible refine grown_new ?_ (Nat.le_refl _) _ _))
theorem oper_all (m : Nat) (hb : RuleB F B f m) (ho : RuleO F B f (operand F.z m)) : RuleO F B f (operand F.z (m + 1)) := by
  intro s w h hfin
  have he : RuleE F B f (bound F.z m 1) := fun s1 w1 h1 hf => expr_of h1 m hb hf
  have k1 := (keeps_expr F.z m).1
  have k2 := (keeps_expr F.z m).2.1 1
  rw [operand] at hfin
  rcases c2 : ((cur F.z s).kind == 2) with _ | _
  · rw [if_neg (by simp [c2])] at hfin
    rcases c1 : ((cur F.z s).kind == 1) with _ | _
    · rw [if_neg (by simp [c1])] at hfin
      rcases c45 : at' F.z [45] s with _ | _
      · rw [if_neg (by simp [c45])] at hfin
        rcases c40 : at' F.z [40] s with _ | _
        · rw [if_neg (by simp [c40])] at hfin
          exact oper_unary h m ho k1 c2 c1 c45 c40 hfin
        · rw [if_pos c40] at hfin
          exact oper_within h m he k2 c2 c1 c45 c40 hfin
      · rcases n2 : ((nxt F.z s).kind == 2) with _ | _
        · rw [if_neg (by simp [c45, n2])] at hfin
          have c40 : at' F.z [40] s = false := by
            have e := at_text c45
            unfold at'
            rw [e]
            decide
          rw [if_neg (by simp [c40])] at hfin
          exact oper_minus h m ho k1 c2 c1 c45 n2 c40 hfin
        · exact oper_negative h m c2 c1 c45 n2
    · rw [if_pos c1] at hfin
      exact oper_named h m he k2 c2 c1 hfin
  · exact oper_number h m c2
theorem expr_all : ∀ m, ∀ j, j ≤ m → RuleO F B f (operand F.z j) ∧ RuleB F B f j := by
  intro m
  induction m with
  | zero =>
    intro j hj
    obtain rfl : j = 0 := by omega
    refine ⟨fun s1 w1 h hf => ?_, fun k s1 w1 h hf hk => ?_⟩
    · exact absurd (by rw [operand]) (hf s1)
    · exact absurd (by rw [bound]) (hf s1)
  | succ m ih =>
    intro j hj
    rcases Nat.lt_or_ge j (m + 1) with h1 | h1
    · exact ih j (by omega)
    · obtain rfl : j = m + 1 := by omega
      obtain ⟨o1, o2⟩ := ih m (Nat.le_refl _)
      exact ⟨oper_all m o2 o1, fun k s1 w1 h hf hk => bound_go m o1 (fun i hi => (ih i (by omega)).2) k hk h hf⟩
theorem expr_any (m : Nat) : RuleE F B f (expr F.z m) := fun s1 w1 h hf => expr_of h m (expr_all m m (Nat.le_refl _)).2 hf
end
end Go.Proofs.YtdaklmbifkehpaaGreatDoor.Pm
