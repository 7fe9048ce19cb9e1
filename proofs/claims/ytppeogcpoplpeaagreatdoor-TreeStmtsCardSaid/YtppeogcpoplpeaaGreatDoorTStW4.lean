/- What the writer writes of any list of right statements that lies in memory. -/
import Derived.Test.YtppeogcpoplpeaaGreatDoorTStW3
set_option linter.unusedSimpArgs false
set_option linter.unusedVariables false
namespace Go.Proofs.YtppeogcpoplpeaaGreatDoor
open Go Go.RowKit

theorem putL_take (d : Nat) (l : List ST) (n : Nat) (hn : n < l.length) : putL levL d (rss (l.take (n + 1))) = putL levL d (rss (l.take n)) ++ (tabsT d ++ (tagT l[n].rs.tag ++ (putB levL d l[n].rs ++ [10]))) := by
  rw [List.take_succ_eq_append_getElem hn, rss_map, List.map_append, putL_append, ← rss_map, List.map_cons, List.map_nil, putL_cons, putL]
theorem putL_take_len (d : Nat) (l : List ST) (n : Nat) : (putL levL d (rss (l.take n))).length ≤ (putL levL d (rss l)).length := by
  have e : rss l = rss (l.take n) ++ rss (l.drop n) := by rw [rss_map, rss_map, rss_map, ← List.map_append, List.take_append_drop]
  rw [e, putL_append, List.length_append]; omega
theorem rs_tag {S : ST} (h : S.rightB = true) : S.rs.tag = S.tag.toNat ∧ 0 ≤ S.tag ∧ S.tag ≤ 1000000 := by
  obtain ⟨t, ht0, ht1, hc⟩ := rightS_cases h
  rcases hc with ⟨n, ea, ec, e, ba, bc, la, lc, hn, he, rfl⟩ | ⟨n, ea, ec, e, e2, ba, bc, la, lc, hn, he, he2, rfl⟩ | ⟨n, ea, ec, ba, bc, la, lc, hn, rfl⟩ | ⟨n, f, ea, ec, e, ba, bc, la, lc, hn, hf, he, rfl⟩ | ⟨ea, ec, e, ba, bc, b, la, lc, l, he, hb, hl, rfl⟩ | ⟨ea, ec, e, ba, bc, b, la, lc, he, hb, rfl⟩ | ⟨ea, ec, ba, bc, la, lc, rfl⟩ | ⟨ea, ec, ba, bc, la, lc, rfl⟩ | ⟨ea, ec, e, ba, bc, la, lc, he, rfl⟩ | ⟨ea, ec, e, ba, bc, la, lc, he, rfl⟩
  all_goals exact ⟨rfl, ht0, ht1⟩

set_option maxHeartbeats 4000000 in
set_option maxRecDepth 100000 in
theorem stmts_of {w0 : World} (H : Pow w0) (d : Nat) (a : Option Addr) (c : Nat) (l : List ST) (hl : l.length ≤ 9223372036854775807) (hin : SsIn w0 0 a 0 l) (hr : rightSs l = true)
    (hs : ∀ (n : Nat) (hn : n < l.length), StmtDoes w0 d l[n].val (putB levL d l[n].rs)) : StmtsDoes w0 d (.slice a l.length c) (putL levL d (rss l)) := by
  intro B b bs w hB h hp hlen
  have HS := Lib.hid hs
  have HT : Hid (∀ (n : Nat) (hn : n < l.length), l[n].rs.tag = l[n].tag.toNat ∧ 0 ≤ l[n].tag ∧ l[n].tag ≤ 1000000) := Lib.hid fun n hn => rs_tag ((rightSs_all l).1 hr _ (List.getElem_mem hn))
  have HI := Lib.hid hin
  have HP := Lib.hid hp
  have HW := Lib.hid h
  have HB := Lib.hid hB
  have HL := Lib.hid hlen
  have HPw := Lib.hid H
  clear hs hin hp h hB hlen hr H
  go_enter Tryz.func57, Tryz.ntmps57
  go_wp2
  go_loopw [5, 8] (fun _ i wr => ∃ n : Nat, n ≤ l.length ∧ i = .int .i64 n ∧ Went B b (bs ++ putL levL d (rss (l.take n))) (d : Int) w wr) (fun _ i _ => l.length - (intOf i).toNat)
  case atStart => exact ⟨0, Nat.zero_le _, rfl, HW.out.went.cast (by simp [rss, putL])⟩
  case round =>
    obtain ⟨n, hn, rfl, hw⟩ := hrel
    have HN := Lib.hid hw
    clear hw
    by_cases hlt : n < l.length
    · obtain ⟨hrow, -⟩ := HI.out.nth n hlt
      have hrow' := hrow
      obtain ⟨kb, ko, rfl, -⟩ := hrow'
      rw [ST.cells_eq, Nat.zero_add] at hrow
      obtain ⟨r0, r1, r2, r3, r4, r5, r6, hkb⟩ := row_cells7 hrow (HP.out.went HB.out HN.out)
      have hcall := HS.out n hlt
      unfold StmtDoes at hcall
      rw [ST.val_eq] at hcall
      have HC := Lib.hid hcall
      obtain ⟨tg, tg0, tg1⟩ := HT.out n hlt
      have et := putL_take d l n hlt
      have el := putL_take_len d l (n + 1)
      rw [tg] at et
      generalize putB levL d l[n].rs = tb at HC et
      have HTG := Lib.hid (And.intro tg0 tg1)
      have ET' := Lib.hid et
      have htot : Hid ((bs ++ putL levL d (rss (l.take n))).length + (d + ((tagT l[n].tag.toNat).length + (tb.length + 1))) ≤ 140737488355328) := Lib.hid (by
        rw [et] at el
        simp only [List.length_append, List.length_cons, List.length_nil, tabs_lenW] at el ⊢
        have := HL.out
        omega)
      clear hcall hrow et el tg tg0 tg1
      have ec : catB [{ data := #[10] }] = [10] := by simp [catB]
      have EC := Lib.hid ec
      have L1 : Hid ((bs ++ putL levL d (rss (l.take n))).length + d ≤ 140737488355328) := Lib.hid (by have := htot.out; omega)
      have L2 : Hid (((bs ++ putL levL d (rss (l.take n))) ++ tabsT d).length + (tagT l[n].tag.toNat).length ≤ 140737488355328) := Lib.hid (by have := htot.out; rw [List.length_append, tabs_lenW]; omega)
      have L3 : Hid ((((bs ++ putL levL d (rss (l.take n))) ++ tabsT d) ++ tagT l[n].tag.toNat).length + tb.length ≤ 140737488355328) := Lib.hid (by have := htot.out; simp only [List.length_append, tabs_lenW] at this ⊢; omega)
      have L4 : Hid (((((bs ++ putL levL d (rss (l.take n))) ++ tabsT d) ++ tagT l[n].tag.toNat) ++ tb).length + (catB [{ data := #[10] }]).length ≤ 140737488355328) := Lib.hid (by have := htot.out; rw [ec]; simp only [List.length_append, tabs_lenW, List.length_cons, List.length_nil] at this ⊢; omega)
      have hltb := Lib.hid HN.out.wr.lt
      clear ec htot
      go_wp2_with (first
        | (go_at_call 81; have hx := text_any (G3.out.wr.alloc (.cells #[.string { data := #[10] }] 9)) w3.heap.size 1 [{ data := #[10] }] _ (bk_new _ _) rfl (by simp) L4.out; refine hx.mono ?_; clear hx; rintro e w4 ⟨rfl, g4⟩; have G4 := Lib.hid ((G3.out.alloc _).trans g4); clear g4)
        | (go_at_call 89; have hx := HC.out B b _ _ HB.out G2.out.wr (HP.out.went HB.out G2.out) L3.out; refine hx.mono ?_; clear hx; rintro e w3 ⟨rfl, g3⟩; have G3 := Lib.hid (G2.out.trans g3); clear g3)
        | (go_at_call 88; have hx := tag_any HPw.out (HP.out.went HB.out G1.out) G1.out.wr l[n].tag HTG.out.1 HTG.out.2 L2.out; refine hx.mono ?_; clear hx; rintro e w2 ⟨rfl, g2⟩; have G2 := Lib.hid (G1.out.trans g2); have X2 := Lib.hid (g2.keeps.box X1.out (Nat.ne_of_gt hltb.out) (by decide)); obtain ⟨d0, d1, d2, d3, d4, d5, d6⟩ := cells7 X2.out; clear g2)
        | (go_at_call 87; have hx := tabs_any (HN.out.alloc (.cells #[.int .i64 l[n].kind, .int .i64 l[n].tag, .string l[n].name, .string l[n].func, .slice l[n].ea l[n].en l[n].ec, .slice l[n].ba l[n].bn l[n].bc, .slice l[n].la l[n].ln l[n].lc] 83)).wr L1.out; refine hx.mono ?_; clear hx; rintro e w1 ⟨rfl, g1⟩; have G1 := Lib.hid ((HN.out.alloc _).trans g1); have X1 := Lib.hid (g1.keeps.box (bk_new wr _) (Nat.ne_of_gt hltb.out) (by decide)); obtain ⟨c0, c1, c2, c3, c4, c5, c6⟩ := cells7 X1.out; clear g1))
      go_round
      case rel => exact ⟨n + 1, by omega, by go_num, G4.out.cast (by rw [ET'.out, EC.out]; simp)⟩
      case measure => simp [intOf]; omega
    · obtain rfl : n = l.length := by omega
      go_wp2
      go_end0
      exact ⟨rfl, HN.out.cast (by rw [List.take_length])⟩

/-- A statement's kind tells what is written of it. -/
theorem stmt_any {w0 : World} (H : Pow w0) : ∀ (m : Nat) (S : ST), S.sz ≤ m → S.rightB = true → S.In w0 0 → ∀ d, StmtDoes w0 d S.val (putB levL d S.rs) := by
  intro m
  induction m with
  | zero => intro S hm; obtain ⟨k, t, n, f, ea, ec, e, ba, bc, b, la, lc, l⟩ := S; simp [ST.sz] at hm
  | succ m ih =>
    intro S hm h hin d
    have list : ∀ {a : Option Addr} {c : Nat} {l : List ST}, Szs l ≤ m → l.length ≤ 9223372036854775807 → rightSs l = true → SsIn w0 0 a 0 l → StmtsDoes w0 (d + 1) (.slice a l.length c) (putL levL (d + 1) (rss l)) := by
      intro a c l hs hl hr hi
      exact stmts_of H (d + 1) a c l hl hi hr fun n hn => ih l[n] (by have := Szs_nth hn; omega) ((rightSs_all l).1 hr _ (List.getElem_mem hn)) (hi.nth n hn).2 (d + 1)
    obtain ⟨t, ht0, ht1, hc⟩ := rightS_cases h
    rcases hc with ⟨n, ea, ec, e, ba, bc, la, lc, hn, he, rfl⟩ | ⟨n, ea, ec, e, e2, ba, bc, la, lc, hn, he, he2, rfl⟩ | ⟨n, ea, ec, ba, bc, la, lc, hn, rfl⟩ | ⟨n, f, ea, ec, e, ba, bc, la, lc, hn, hf, he, rfl⟩ | ⟨ea, ec, e, ba, bc, b, la, lc, l, he, hb, hl, rfl⟩ | ⟨ea, ec, e, ba, bc, b, la, lc, he, hb, rfl⟩ | ⟨ea, ec, ba, bc, la, lc, rfl⟩ | ⟨ea, ec, ba, bc, la, lc, rfl⟩ | ⟨ea, ec, e, ba, bc, la, lc, he, rfl⟩ | ⟨ea, ec, e, ba, bc, la, lc, he, rfl⟩
    all_goals
      rw [ST.In] at hin
      simp only [ST.sz, szs, Szs] at hm
      obtain ⟨-, ⟨z1, z2, z3⟩, i1, i2, i3⟩ := hin
    · rw [EsIn] at i1
      obtain ⟨hrow, hi, -⟩ := i1
      have hrow' := hrow
      obtain ⟨kb, ko, rfl, -⟩ := hrow
      rw [ET.cells_is] at hrow'
      have H1 := expr_any H _ e (Nat.le_refl _) he hi
      rw [ET.val_is] at H1
      exact stmt_asg d H1 kb ko ec hrow' t n _ ba bc la lc
    · rw [EsIn, EsIn] at i1
      obtain ⟨hrow, hi, hrow2, hi2, -⟩ := i1
      have hrow' := hrow
      obtain ⟨kb, ko, rfl, -⟩ := hrow
      rw [ET.cells_is] at hrow' hrow2
      have H1 := expr_any H _ e (Nat.le_refl _) he hi
      have H2 := expr_any H _ e2 (Nat.le_refl _) he2 hi2
      rw [ET.val_is] at H1 H2
      exact stmt_sto d H1 H2 kb ko ec hrow' hrow2 t n _ ba bc la lc
    · exact stmt_rd d t n _ ea ec ba bc la lc
    · have := stmt_call H d ea ec e z1 i1 he t n f ba bc la lc
      rw [← putAE_is] at this
      exact this
    · rw [EsIn] at i1
      obtain ⟨hrow, hi, -⟩ := i1
      have hrow' := hrow
      obtain ⟨kb, ko, rfl, -⟩ := hrow
      rw [ET.cells_is] at hrow'
      have H1 := expr_any H _ e (Nat.le_refl _) he hi
      rw [ET.val_is] at H1
      have HS := list (c := bc) (by omega) z2 hb i2
      cases l with
      | nil =>
        have := stmt_if0 d H1 kb ko ec hrow' t { data := #[] } { data := #[] } ba b.length bc la lc HS
        exact this
      | cons S l =>
        have HS2 := list (c := lc) (by omega) z3 hl i3
        have := stmt_if1 d H1 kb ko ec hrow' t { data := #[] } { data := #[] } ba b.length bc la (S :: l).length lc HS HS2 (by simp)
        exact this
    · rw [EsIn] at i1
      obtain ⟨hrow, hi, -⟩ := i1
      have hrow' := hrow
      obtain ⟨kb, ko, rfl, -⟩ := hrow
      rw [ET.cells_is] at hrow'
      have H1 := expr_any H _ e (Nat.le_refl _) he hi
      rw [ET.val_is] at H1
      have HS := list (c := bc) (by omega) z2 hb i2
      exact stmt_whl d H1 kb ko ec hrow' t _ _ ba b.length bc la lc HS
    · exact stmt_brk d t _ _ ea ec ba bc la lc
    · exact stmt_cnt d t _ _ ea ec ba bc la lc
    · rw [EsIn] at i1
      obtain ⟨hrow, hi, -⟩ := i1
      have hrow' := hrow
      obtain ⟨kb, ko, rfl, -⟩ := hrow
      rw [ET.cells_is] at hrow'
      have H1 := expr_any H _ e (Nat.le_refl _) he hi
      rw [ET.val_is] at H1
      exact stmt_ret d H1 kb ko ec hrow' t _ _ ba bc la lc
    · rw [EsIn] at i1
      obtain ⟨hrow, hi, -⟩ := i1
      have hrow' := hrow
      obtain ⟨kb, ko, rfl, -⟩ := hrow
      rw [ET.cells_is] at hrow'
      have H1 := expr_any H _ e (Nat.le_refl _) he hi
      rw [ET.val_is] at H1
      exact stmt_ass d H1 kb ko ec hrow' t _ _ ba bc la lc
theorem stmts_any {w0 : World} (H : Pow w0) (d : Nat) (a : Option Addr) (c : Nat) (l : List ST) (hl : l.length ≤ 9223372036854775807) (hin : SsIn w0 0 a 0 l) (hr : rightSs l = true) : StmtsDoes w0 d (.slice a l.length c) (putL levL d (rss l)) :=
  stmts_of H d a c l hl hin hr fun n hn => stmt_any H _ l[n] (Nat.le_refl _) ((rightSs_all l).1 hr _ (List.getElem_mem hn)) (hin.nth n hn).2 d
end Go.Proofs.YtppeogcpoplpeaaGreatDoor
