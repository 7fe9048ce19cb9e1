/- Statements are counted, are right, and the same, as their parts are; in two lists they are put one behind the other: the walk of TreeStmts. -/
import Derived.Test.YtppeogcpoplpeaaGreatDoorTCodeP
import Derived.Test.YtppeogcpoplpeaaGreatDoorTLaid
import Derived.Test.YtppeogcpoplpeaaGreatDoorTLines
import Derived.Laws.OwnMore
set_option linter.unusedSimpArgs false
set_option linter.unusedVariables false
namespace Go.Proofs.YtppeogcpoplpeaaGreatDoor
open Go Go.RowKit

theorem run_append_zero {P : Program} {w : World} (base : Nat) (t ty e : TypeId) (i : TypeInfo) (size : Nat) (ht : P.underlying t = some (.slice e)) (hi : P.info? e = some i) {v : Value} {n : Nat} {xs : List Value}
    (hown : w.ownsRow base e size v n xs) (c : Nat) : (Builtin.append_ #[t, t] ty #[v, .slice none 0 c]).run P w = .ok v w := by
  rcases hown.2 with ⟨rfl, rfl⟩ | ⟨g, cap, cur, rfl, -, -, hn, -⟩ <;> simp [*, run_underlying ht, Builtin.append_, typeInfo, sizeOf, Builtin.firstCells, Builtin.lenOf, storeCells]
/-- A row is appended to a row of the call's own: it is nil, or it lies somewhere. -/
theorem append_src {P : Program} {w : World} {ops : Array Oper} {rest : List Oper} {o : Oper} {a : Act} {Q : Exit → Act → World → Prop} (hgd : o.guard = none) (s x : Operand) (t : TypeId)
    (ho : o.op = .call { callee := .builtin .append, args := #[s, x], argTypes := #[t, t] })
    (base : Nat) (e : TypeId) (i : TypeInfo) (z : Value) (size bytes : Nat) (ht : P.underlying t = some (.slice e)) (hi : P.info? e = some i) (hz : i.zero = some z)
    (hsize : i.size = size) (hby : i.bytes = bytes) (hzs : z.cells.size = size) (hsz : 0 < size)
    (v : Value) (n : Nat) (xs : List Value) (hs : a.eval s = v) (hown : w.ownsRow base e size v n xs)
    (A : Option Addr) (m c : Nat) (news : List Value) (hx : a.eval x = .slice A m c) (hl : news.length = m * size) (hA : (A = none ∧ m = 0) ∨ ∃ ad, A = some ad ∧ ∀ j u, news[j]? = some u → w.cell? (ad.add j) = some u) (h1 : ∀ u ∈ news, u.oneCell' = true)
    (h63 : n + m ≤ maxLen) (hbytes : (n + m) * bytes ≤ 140737488355328) (hbase : base ≤ w.heap.size)
    (h : ∀ v' w', w'.ownsRow base e size v' (n + m) (xs ++ news) → w.grownBy w' v.ownBlock → wpList P ops Q rest (a.put o.dst v') w') : wpList P ops Q (o :: rest) a w := by
  rcases hA with ⟨rfl, rfl⟩ | ⟨ad, rfl, hc⟩
  · obtain rfl : news = [] := List.eq_nil_of_length_eq_zero (by simpa using hl)
    refine wpList_plain hgd fun K hK => ?_
    have hrun := run_append_zero (P := P) (w := w) base t o.type e i size ht hi hown c
    unfold Oper.wp
    simp [execOp, ho, resolve, invoke, builtin, hs, hx, hrun, Result.andThen]
    exact hK _ _ (h v w (by simpa using hown) (grown_refl _ _))
  · exact wpList_append_own w hgd s x t ho base e i z size bytes ht hi hz hsize hby hzs hsz v n xs hs hown ad m c news hx hl hc h1 h63 hbytes hbase fun v' w' h2 h3 _ => h v' w' h2 h3
/-- The cells of statements that lie somewhere. -/
theorem flat_len (l : List ST) : (l.flatMap fun S => S.cells.toList).length = l.length * 7 := by
  induction l with
  | nil => rfl
  | cons S l ih => rw [List.flatMap_cons, List.length_append, ih, cells_seven, List.length_cons]; omega
theorem flat_one (l : List ST) : ∀ u ∈ (l.flatMap fun S => S.cells.toList), u.oneCell' = true := by
  intro u hu
  obtain ⟨S, -, hS⟩ := List.mem_flatMap.1 hu
  rw [ST.cells_eq] at hS
  exact sev_one S u hS
theorem src_of {w : World} {B : Nat} {a : Option Addr} {l : List ST} (h : SsIn w B a 0 l) : (a = none ∧ l.length = 0) ∨ ∃ ad, a = some ad ∧ ∀ j u, (l.flatMap fun S => S.cells.toList)[j]? = some u → w.cell? (ad.add j) = some u := by
  cases a with
  | none =>
    left
    refine ⟨rfl, ?_⟩
    cases l with
    | nil => rfl
    | cons S l =>
      obtain ⟨⟨b, o, e, -⟩, -⟩ := h.nth 0 (by simp)
      cases e
  | some ad =>
    right
    refine ⟨ad, rfl, fun j u hj => ?_⟩
    have hlt : j < l.length * 7 := by
      rw [← flat_len]
      rcases Nat.lt_or_ge j (l.flatMap fun S => S.cells.toList).length with h2 | h2
      · exact h2
      · rw [List.getElem?_eq_none h2] at hj; cases hj
    have hi : j / 7 < l.length := by omega
    obtain ⟨⟨b, o, e, -, hc⟩, -⟩ := h.nth (j / 7) hi
    obtain rfl : ad = ⟨b, o, none⟩ := by simpa using e
    rw [show j = j / 7 * 7 + j % 7 by omega, flat_at l _ _ hi (by omega)] at hj
    have := hc (j % 7) u (by simpa using hj)
    have e2 : (⟨b, o, none⟩ : Addr).add j = ⟨b, o + j, none⟩ := by
      unfold Addr.add
      split
      · rename_i h; subst h; rfl
      · rfl
    rw [e2, ← this]
    congr 2
    omega
/-- Both lists stand in the new row, one behind the other. -/
theorem both_in {w : World} {base : Nat} {v : Value} {la lb : List ST} {n : Nat} (hn : n = la.length + lb.length) (h : w.ownsRow base 83 7 v n ((la.flatMap fun S => S.cells.toList) ++ (lb.flatMap fun S => S.cells.toList)))
    (ha : ∀ S ∈ la, S.In w 0) (hb : ∀ S ∈ lb, S.In w 0) :
    (v = .slice none 0 0 ∧ la = [] ∧ lb = []) ∨ ∃ g c, v = .slice (some ⟨g, 0, none⟩) n c ∧ n ≤ c ∧ c ≤ 9223372036854775807 ∧ SsIn w 0 (some ⟨g, 0, none⟩) 0 (la ++ lb) ∧ SsIn w 0 (some ⟨g, 0, none⟩) 0 la ∧ SsIn w 0 (some ⟨g, la.length * 7, none⟩) 0 lb := by
  subst hn
  rcases h.2 with ⟨e, hl⟩ | ⟨g, cap, cur, e, hg, hB, hnc, hm, hs, ht⟩
  · exact .inl ⟨e, List.length_eq_zero_iff.1 (by omega), List.length_eq_zero_iff.1 (by omega)⟩
  · have row : ∀ j (hj : j < (la ++ lb).length) k u, (la ++ lb)[j].cells[k]? = some u → w.cell? ⟨g, j * 7 + k, none⟩ = some u := by
      intro j hj k u hk
      have hk7 : k < 7 := by
        have h1 := cells_seven (la ++ lb)[j]
        rcases Nat.lt_or_ge k 7 with h2 | h2
        · exact h2
        · rw [Array.getElem?_eq_none (by simpa using (by rw [← h1] at h2; simpa using h2))] at hk; cases hk
      refine bk_cell hB ?_
      have h1 := flat_at (la ++ lb) j k hj hk7
      rw [List.flatMap_append, ← ht] at h1
      rw [List.length_append] at hj
      rw [List.getElem?_take_of_lt (by omega)] at h1
      rw [← Array.getElem?_toList, h1, Array.getElem?_toList]
      exact hk
    refine .inr ⟨g, cap, e, hnc, by unfold maxLen at hm; omega, ss_of_rows _ 0 fun j hj => ⟨⟨g, 0, rfl, Nat.zero_le _, fun k u hk => ?_⟩, ?_⟩, ss_of_rows _ 0 fun j hj => ⟨⟨g, 0, rfl, Nat.zero_le _, fun k u hk => ?_⟩, ha _ (List.getElem_mem hj)⟩, ss_of_rows _ 0 fun j hj => ⟨⟨g, la.length * 7, rfl, Nat.zero_le _, fun k u hk => ?_⟩, hb _ (List.getElem_mem hj)⟩⟩
    · rw [show 0 + (0 + j) * 7 + k = j * 7 + k by omega]
      exact row j hj k u hk
    · rcases List.mem_append.1 (List.getElem_mem hj) with h1 | h1
      · exact ha _ h1
      · exact hb _ h1
    · rw [show 0 + (0 + j) * 7 + k = j * 7 + k by omega]
      exact row j (by simp; omega) k u (by rw [List.getElem_append_left hj]; exact hk)
    · rw [show la.length * 7 + (0 + j) * 7 + k = (la.length + j) * 7 + k by omega]
      exact row (la.length + j) (by simp; omega) k u (by rw [List.getElem_append_right (by omega)]; simpa using hk)
theorem cnts_app (l m : List ST) : cnts (l ++ m) = cnts l + cnts m := by
  induction l with
  | nil => simp [cnts]
  | cons S l ih => simp only [List.cons_append, cnts, ih]; omega
theorem rss_app (l m : List ST) : rss (l ++ m) = rss l ++ rss m := by simp [rss_map]
/-- What the layer answers of two lists, of both, and of the parts of both. -/
structure StF (w9 : World) (vA vB vC v1 v2 : Value) (x y : Int) (tx ty : ByteArray) (s : Bool) : Prop where
  nC : ∀ W, Past w9 W → Calls Tryz.prog 23 #[vC] W fun e w' => e = .returned (.int .i64 (x + y)) ∧ Below W.heap.size W w'
  nA : ∀ W, Past w9 W → Calls Tryz.prog 23 #[vA] W fun e w' => e = .returned (.int .i64 x) ∧ Below W.heap.size W w'
  nB : ∀ W, Past w9 W → Calls Tryz.prog 23 #[vB] W fun e w' => e = .returned (.int .i64 y) ∧ Below W.heap.size W w'
  pC : ∀ W, Past w9 W → Calls Tryz.prog 27 #[vC] W fun e w' => e = .returned (.string (tx ++ ty)) ∧ Below W.heap.size W w'
  pA : ∀ W, Past w9 W → Calls Tryz.prog 27 #[vA] W fun e w' => e = .returned (.string tx) ∧ Below W.heap.size W w'
  pB : ∀ W, Past w9 W → Calls Tryz.prog 27 #[vB] W fun e w' => e = .returned (.string ty) ∧ Below W.heap.size W w'
  rC : ∀ W, Past w9 W → Calls Tryz.prog 25 #[vC] W fun e w' => e = .returned (.bool true) ∧ Below W.heap.size W w'
  s1 : ∀ W, Past w9 W → Calls Tryz.prog 29 #[v1, vA] W fun e w' => e = .returned (.bool true) ∧ Below W.heap.size W w'
  s2 : ∀ W, Past w9 W → Calls Tryz.prog 29 #[v2, vB] W fun e w' => e = .returned (.bool true) ∧ Below W.heap.size W w'
  sAB : ∀ W, Past w9 W → Calls Tryz.prog 29 #[vA, vB] W fun e w' => e = .returned (.bool s) ∧ Below W.heap.size W w'
  x0 : 0 ≤ x ∧ x ≤ 1000000
  y0 : 0 ≤ y ∧ y ≤ 1000000
  tl : tx.size ≤ 1000000 ∧ ty.size ≤ 1000000
theorem cnts_le {w : World} {B : Nat} {a : Option Addr} {l : List ST} (hin : SsIn w B a 0 l) (hr : rightSs l = true) (ht : (putL levL 0 (rss l)).length ≤ 900000) : cnts l ≤ 900000 := by
  have hw : wfSs (rss l) = true := by
    rw [wfSs_all, rss_map]
    intro s hs
    obtain ⟨S, hS, rfl⟩ := List.mem_map.1 hs
    obtain ⟨i, hi, rfl⟩ := List.mem_iff_getElem.1 hS
    exact rightS_wf _ (Nat.le_refl _) ((rightSs_all _).1 hr _ hS) (hin.nth i hi).2
  have e1 := nl_putL levL 0 (rss l) hw
  have e2 := lines_is _ l (Nat.le_refl _) hr
  have e3 : nl (putL levL 0 (rss l)) ≤ (putL levL 0 (rss l)).length := List.count_le_length
  omega
theorem sameSs_refl (l : List ST) (h : rightSs l = true) : sameSs l l = true := (sameSs_iff l l h h).2 rfl
theorem st_facts {w9 : World} (H : Pow w9) {la lb : List ST} {aA aB aC a1 a2 : Option Addr} {cA cB cC c1 c2 : Nat} (hA : SsIn w9 0 aA 0 la) (hB : SsIn w9 0 aB 0 lb) (hC : SsIn w9 0 aC 0 (la ++ lb)) (h1 : SsIn w9 0 a1 0 la) (h2 : SsIn w9 0 a2 0 lb)
    (rA : rightSs la = true) (rB : rightSs lb = true) (tA : (putL levL 0 (rss la)).length ≤ 900000) (tB : (putL levL 0 (rss lb)).length ≤ 900000) (lA : la.length ≤ 14) (lB : lb.length ≤ 14) :
    ∃ x y tx ty s, StF w9 (.slice aA la.length cA) (.slice aB lb.length cB) (.slice aC (la.length + lb.length) cC) (.slice a1 la.length c1) (.slice a2 lb.length c2) x y tx ty s ∧ (s = true → la.length = lb.length) := by
  have kA := cnts_le hA rA tA
  have kB := cnts_le hB rB tB
  have rC : rightSs (la ++ lb) = true := by rw [rightSs_append, rA, rB]; rfl
  have tC : putL levL 0 (rss (la ++ lb)) = putL levL 0 (rss la) ++ putL levL 0 (rss lb) := by rw [rss_app, putL_append]
  have lC : (la ++ lb).length = la.length + lb.length := List.length_append
  refine ⟨(cnts la : Nat), (cnts lb : Nat), ⟨(putL levL 0 (rss la)).toArray⟩, ⟨(putL levL 0 (rss lb)).toArray⟩, sameSs la lb, ⟨fun W hW => ?_, fun W hW => ?_, fun W hW => ?_, fun W hW => ?_, fun W hW => ?_, fun W hW => ?_, fun W hW => ?_, fun W hW => ?_, fun W hW => ?_, fun W hW => ?_, by omega, by omega, ⟨?_, ?_⟩⟩, fun hs => ?_⟩
  · have := count_any (Szs (la ++ lb) + 1) aC cC (la ++ lb) (by omega) (by omega) hC W hW
    rw [wrap_small _ (by rw [cnts_app]; omega), cnts_app, lC] at this
    simpa using this
  · have := count_any (Szs la + 1) aA cA la (by omega) (by omega) hA W hW
    rw [wrap_small _ (by omega)] at this
    exact this
  · have := count_any (Szs lb + 1) aB cB lb (by omega) (by omega) hB W hW
    rw [wrap_small _ (by omega)] at this
    exact this
  · have := putStmts_any H aC cC (la ++ lb) (by omega) hC rC (by rw [tC, List.length_append]; omega) W hW
    rw [lC, tC] at this
    have e : (⟨(putL levL 0 (rss la)).toArray⟩ : ByteArray) ++ (⟨(putL levL 0 (rss lb)).toArray⟩ : ByteArray) = ⟨(putL levL 0 (rss la) ++ putL levL 0 (rss lb)).toArray⟩ := by
      apply txt_inj
      simp
    rw [e]
    exact this
  · exact putStmts_any H aA cA la (by omega) hA rA (by omega) W hW
  · exact putStmts_any H aB cB lb (by omega) hB rB (by omega) W hW
  · have := rightStmts_any aC cC (la ++ lb) (by omega) hC W hW
    rw [lC, rC] at this
    exact this
  · have := sameStmts_any a1 aA c1 cA la la (by omega) (by omega) h1 hA W hW
    rw [sameSs_refl la rA] at this
    exact this
  · have := sameStmts_any a2 aB c2 cB lb lb (by omega) (by omega) h2 hB W hW
    rw [sameSs_refl lb rB] at this
    exact this
  · exact sameStmts_any aA aB cA cB la lb (by omega) (by omega) hA hB W hW
  · show (putL levL 0 (rss la)).toArray.size ≤ _
    simp
    omega
  · show (putL levL 0 (rss lb)).toArray.size ≤ _
    simp
    omega
  · rcases Decidable.em (la.length = lb.length) with h | h
    · exact h
    · rw [sameSs_len h] at hs; cases hs
theorem own_set2 {w1 : World} {X Y : Nat} {a0 a1 a2 a3 u v : Value} {t : TypeId} (hne : Y ≠ X) (hY : w1.heap[Y]? = some (.cells #[a0, a1, a2, a3] t (0, 0))) :
    ((w1.setCell ⟨X, 1, none⟩ u).setCell ⟨Y, 1, none⟩ v).heap[Y]? = some (.cells #[a0, v, a2, a3] t (0, 0)) :=
  bk_set (k := 1) v ((Below.heap_setCell w1 ⟨X, 1, none⟩ u Y hne).trans hY)
/-- Where the third function's statements lie. -/
theorem third {w : World} {B N : Nat} {F G K : FT} (h : FsIn w B (some ⟨N, 0, none⟩) [F, G, K]) : w.cell? ⟨N, 11, none⟩ = some (.slice K.ba K.body.length K.bc) ∧ N < w.heap.size := by
  obtain ⟨b, o, e, -, hc⟩ := h.row 2 (by simp)
  simp only [Option.some.injEq, Addr.mk.injEq, and_true] at e
  obtain ⟨rfl, rfl⟩ := e
  have hc3 := hc 3 (.slice K.ba K.body.length K.bc) (by show K.cells[3]? = _; rw [FT.cells_eq]; rfl)
  exact ⟨hc3, World.block_lt_of_cell? _ _ hc3⟩
theorem third_facts {w : World} {B : Nat} {a : Option Addr} {F G K : FT} (h : FsIn w B a [F, G, K]) (g : [F, G, K].all FT.rightB = true) (v : ∀ X ∈ [F, G, K], X.vars ≠ [] ∧ X.body.length ≤ 14) (t : (putL levL 0 (rss K.body)).length ≤ 900000) :
    SsIn w B K.ba 0 K.body ∧ rightSs K.body = true ∧ (putL levL 0 (rss K.body)).length ≤ 900000 ∧ K.body.length ≤ 14 := by
  have h2 := (h.fs 2 (by simp)).ss
  simp only [List.all_cons, List.all_nil, Bool.and_true, Bool.and_eq_true] at g
  have g2 := g.2.2
  simp only [FT.rightB, Bool.and_eq_true] at g2
  exact ⟨h2, g2.2.2.2, t, (v K (by simp)).2⟩
theorem grown_keep {w w' : World} (h : w.grownBy w' none) {p : Addr} {v : Value} {B : Nat} (hp : B ≤ p.block) (hc : w.cell? p = some v) : w'.cell? p = some v := by
  rw [World.cell?_of_block (w := w) (h.block _ (World.block_lt_of_cell? _ _ hc) (by simp))]
  exact hc
set_option maxHeartbeats 20000000 in
set_option maxRecDepth 100000 in
theorem treeStmts_go (pa : Option Addr) (pn pc : Nat) (own : Bool) (la : Option Addr) (ln lc : Nat) (zl : List Int) (ga : Option Addr) (gn gc : Nat) (zg : List Int) (pa' : Option Addr) (pn' pc' : Nat) (own' : Bool) (la' : Option Addr) (ln' lc' : Nat) (zl' : List Int) (ga' : Option Addr) (gn' gc' : Nat) (zg' : List Int)
    (w : World) (H : Pow w) (r0 : RowIn .u8 w la ln zl) (r1 : RowIn .u8 w ga gn zg) (hg : gn ≤ gc) (r2 : RowIn .u8 w la' ln' zl') (r3 : RowIn .u8 w ga' gn' zg') (hg' : gn' ≤ gc') :
    Calls Tryz.prog 7 #[.agg #[.slice pa pn pc, .bool own, .slice la ln lc, .slice ga gn gc], .agg #[.slice pa' pn' pc', .bool own', .slice la' ln' lc', .slice ga' gn' gc']] w fun e w' => e = .returned (.bool true) ∧ Below w.heap.size w w' := by
  have HP := Lib.hid H
  have R0 := Lib.hid r0
  have R1 := Lib.hid r1
  have R2 := Lib.hid r2
  have R3 := Lib.hid r3
  have GC := Lib.hid hg
  have GC' := Lib.hid hg'
  clear H r0 r1 r2 r3 hg hg'
  obtain ⟨ei, hi, hz0, hz1, hz2⟩ := info_parts stmt_info
  have hfd : ∀ (N : Nat) (w : World), (Instr.field 24 (.agg #[.slice (some ⟨N, 0, none⟩) 3 3]) 0).run Tryz.prog w = .ok (.slice (some ⟨N, 0, none⟩) 3 3) w := fun _ _ => by kernel_rfl
  go_enter Tryz.func7, Tryz.ntmps7
  go_upto_region 9 with (first
    | (at_builtin; refine append_src rfl _ _ 53 rfl w4.heap.size 83 ei _ 7 120 Tryz.underlying53 hi hz0 hz1 hz2 rfl (by decide) v1 K.body.length _ rfl HO1.out K'.ba K'.body.length K'.bc (K'.body.flatMap fun S => S.cells.toList) rfl (flat_len _) (src_of (HL4.out.1.keep (fun p u hp hc => grown_keep HG1.out hp hc))) (flat_one _) ?_ ?_ HG1.out.size ?_; (have := HL3.out.2.2.2; have := HL4.out.2.2.2; unfold maxLen; omega); (have := HL3.out.2.2.2; have := HL4.out.2.2.2; omega); intro v2 w6 hown2 hg2; have HO2 := Lib.hid hown2; have HG2 := Lib.hid hg2; clear hown2 hg2)
    | (at_builtin; refine append_src rfl _ _ 53 rfl w4.heap.size 83 ei _ 7 120 Tryz.underlying53 hi hz0 hz1 hz2 rfl (by decide) (.slice none 0 0) 0 [] rfl (World.ownsRow_nil _ _ _ _) K.ba K.body.length K.bc (K.body.flatMap fun S => S.cells.toList) rfl (flat_len _) (src_of (HL3.out.1.on HB4.out)) (flat_one _) ?_ ?_ (Nat.le_refl _) ?_; (have := HL3.out.2.2.2; unfold maxLen; omega); (have := HL3.out.2.2.2; omega); intro v1 w5 hown1 hg1; rw [Nat.zero_add, List.nil_append] at hown1; have HO1 := Lib.hid hown1; have HG1 := Lib.hid hg1; clear hown1 hg1)
    | (go_at_call 10; refine (code_call _ (R2.out.on HB3.out) (R3.out.on HB3.out) GC'.out).mono ?_; rintro e w4 ⟨M, F', G', K', rfl, hin4, g4, -, v4, t4, hb4⟩; obtain ⟨z3, lz3⟩ := third hin4; have HB4 := Lib.hid hb4; have HL4 := Lib.hid (third_facts hin4 g4 v4 t4); clear hb4 hin4 g4 t4 v4)
    | (go_at_call 10; refine (code_call _ (R0.out.on ?_) (R1.out.on ?_) GC.out).mono ?_; (repeat (first | with_reducible exact HB1.out | (with_reducible refine Below.setCell ?_ ?_ _) | simp)); rintro e w3 ⟨N, F, G, K, rfl, hin3, g3, -, v3, t3, hb3⟩; have hY3 : w3.heap[w.heap.size + 1]? = some (.cells #[.slice pa' pn' pc', .bool true, .slice la' ln' lc', .slice ga' gn' gc'] 27 (0, 0)) := (hb3.block _ (by simp [World.setCell]; omega)).trans (own_set2 (by omega) HY.out); clear x0 x1 x2 x3 y0 y1 y2 y3 fx fy; have y0 := bk_cell (k := 0) hY3 rfl; have y1 := bk_cell (k := 1) hY3 rfl; have y2 := bk_cell (k := 2) hY3 rfl; have y3 := bk_cell (k := 3) hY3 rfl; have l3 := lt_of_block hY3; have HB3 : Hid (Below w.heap.size w w3) := Lib.hid (Below.trans (show Below w.heap.size w _ from by (repeat (first | with_reducible exact HB1.out | (with_reducible refine Below.setCell ?_ ?_ _) | simp))) (hb3.mono (by simp [World.setCell]; have := HB1.out.size; omega))); obtain ⟨x3, lx3⟩ := third hin3; have HL3 := Lib.hid (third_facts hin3 g3 v3 t3); clear hb3 hY3 hin3 g3 t3 v3)
    | (go_at_call 9; refine (ex_any HP.out _ (((Past.refl w).alloc _).alloc _)).mono ?_; rintro e w1 ⟨rfl, hb1⟩; have hX := (hb1.block w.heap.size (by simp; omega)).trans (bk_old _ (bk_new w _)); have hY := (hb1.block (w.heap.size + 1) (by simp)).trans (bk_new' _ (by simp)); have x0 := bk_cell (k := 0) hX rfl; have x1 := bk_cell (k := 1) hX rfl; have x2 := bk_cell (k := 2) hX rfl; have x3 := bk_cell (k := 3) hX rfl; have y0 := bk_cell (k := 0) hY rfl; have y1 := bk_cell (k := 1) hY rfl; have y2 := bk_cell (k := 2) hY rfl; have y3 := bk_cell (k := 3) hY rfl; have fx := fun k => bk_free (k := k) hX; have fy := fun k => bk_free (k := k) hY; have lx := lt_of_block hX; have ly := lt_of_block hY; have HX := Lib.hid hX; have HY := Lib.hid hY; have HB1 : Hid (Below w.heap.size w w1) := Lib.hid (step_on (((Below.refl _ _).alloc (Nat.le_refl _) _).alloc (by simp) _) hb1); clear hX hY hb1))
  have hA3 := HL3.out
  have hA4 := HL4.out
  have o1 : ∀ k, v1.ownBlock = some k → w4.heap.size ≤ k := fun k hk => by
    rcases HO1.out.2 with ⟨e, -⟩ | ⟨g, cap, cur, e, hg, -⟩
    · rw [e] at hk; cases hk
    · rw [e] at hk; simp only [Value.ownBlock, Option.some.injEq] at hk; omega
  have b46 : Below w4.heap.size w4 w6 := ((Below.refl _ _).grown HG1.out (Nat.le_refl _) (fun k hk => by cases hk)).grown HG2.out HG1.out.size o1
  have B9 : Below w.heap.size w w6 := step_on (step_on HB3.out HB4.out) b46
  have sA := ((hA3.1.on HB4.out).on b46).mono (B' := 0) (Nat.zero_le _)
  have sB := (hA4.1.on b46).mono (B' := 0) (Nat.zero_le _)
  have HO := HO2.out
  have P9 : Pow w6 := HP.out.on (show Past w w6 from B9)
  clear HO1 HO2 HG1 HG2 o1 b46 HB1 HB3 HB4 HX HY HP R0 R1 R2 R3 HL3 HL4
  clear y0 y1 y2 y3 l3 lx ly x3 lx3 z3 lz3 hi hz0 hz1 hz2 hfd
  obtain ⟨-, rA, tA, lA⟩ := hA3
  obtain ⟨-, rB, tB, lB⟩ := hA4
  have HB9 := Lib.hid B9
  clear B9
  obtain ⟨la, hla⟩ : ∃ la, K.body = la := ⟨_, rfl⟩
  obtain ⟨lb, hlb⟩ : ∃ lb, K'.body = lb := ⟨_, rfl⟩
  rw [hla] at sA rA tA lA HO ⊢
  rw [hlb] at sB rB tB lB HO ⊢
  clear hla hlb
  have hp : Hid (Past w6 w6) := Lib.hid (Past.refl _)
  rcases both_in rfl HO (fun S hS => by obtain ⟨i, hi, rfl⟩ := List.mem_iff_getElem.1 hS; exact (sA.nth i hi).2) (fun S hS => by obtain ⟨i, hi, rfl⟩ := List.mem_iff_getElem.1 hS; exact (sB.nth i hi).2) with ⟨rfl, rfl, rfl⟩ | ⟨g, c, rfl, hnc, hc, sC, s1, s2⟩
  · obtain ⟨x, y, tx, ty, s, sf, hs⟩ := st_facts (aC := none) (a1 := none) (a2 := none) (cA := K.bc) (cB := K'.bc) (cC := 0) (c1 := 0) (c2 := 0) P9 sA sB (by rw [List.append_nil, SsIn]; trivial) (by rw [SsIn]; trivial) (by rw [SsIn]; trivial) rA rB tA tB lA lB
    simp only [List.length_nil, Nat.add_zero] at sf ⊢
    have b1 := sf.x0
    have b2 := sf.y0
    have b3 := sf.tl
    have SF := Lib.hid sf
    clear sf sA sB rA rB tA tB lA lB HO P9 hs
    go_wp2_with (first
        | (go_at_call 23; ((with_reducible refine (SF.out.nC _ hp.out).mono ?_); rintro e wk ⟨rfl, hb⟩); have hq := Lib.hid (hp.out.on hb); clear hp hb; have hp := hq; clear hq)
        | (go_at_call 23; ((with_reducible refine (SF.out.nA _ hp.out).mono ?_); rintro e wk ⟨rfl, hb⟩); have hq := Lib.hid (hp.out.on hb); clear hp hb; have hp := hq; clear hq)
        | (go_at_call 23; ((with_reducible refine (SF.out.nB _ hp.out).mono ?_); rintro e wk ⟨rfl, hb⟩); have hq := Lib.hid (hp.out.on hb); clear hp hb; have hp := hq; clear hq)
        | (go_at_call 27; ((with_reducible refine (SF.out.pC _ hp.out).mono ?_); rintro e wk ⟨rfl, hb⟩); have hq := Lib.hid (hp.out.on hb); clear hp hb; have hp := hq; clear hq)
        | (go_at_call 27; ((with_reducible refine (SF.out.pA _ hp.out).mono ?_); rintro e wk ⟨rfl, hb⟩); have hq := Lib.hid (hp.out.on hb); clear hp hb; have hp := hq; clear hq)
        | (go_at_call 27; ((with_reducible refine (SF.out.pB _ hp.out).mono ?_); rintro e wk ⟨rfl, hb⟩); have hq := Lib.hid (hp.out.on hb); clear hp hb; have hp := hq; clear hq)
        | (go_at_call 25; ((with_reducible refine (SF.out.rC _ hp.out).mono ?_); rintro e wk ⟨rfl, hb⟩); have hq := Lib.hid (hp.out.on hb); clear hp hb; have hp := hq; clear hq)
        | (go_at_call 29; ((with_reducible refine (SF.out.s1 _ hp.out).mono ?_); rintro e wk ⟨rfl, hb⟩); have hq := Lib.hid (hp.out.on hb); clear hp hb; have hp := hq; clear hq)
        | (go_at_call 29; ((with_reducible refine (SF.out.s2 _ hp.out).mono ?_); rintro e wk ⟨rfl, hb⟩); have hq := Lib.hid (hp.out.on hb); clear hp hb; have hp := hq; clear hq)
        | (go_at_call 29; ((with_reducible refine (SF.out.sAB _ hp.out).mono ?_); rintro e wk ⟨rfl, hb⟩); have hq := Lib.hid (hp.out.on hb); clear hp hb; have hp := hq; clear hq))
    go_ret
    exact ⟨rfl, step_on HB9.out hp.out⟩
  · have hC0 : la.length + lb.length ≤ c := hnc
    rcases Decidable.em (la.length = lb.length) with he | he
    · rcases Decidable.em (c = la.length) with hcl | hcl
      · subst hcl
        obtain rfl : lb = [] := List.length_eq_zero_iff.1 (by omega)
        obtain ⟨x, y, tx, ty, s, sf, hs⟩ := st_facts (aC := some ⟨g, 0, none⟩) (a1 := some ⟨g, 0, none⟩) (a2 := some ⟨g, 0, none⟩) (cA := K.bc) (cB := K'.bc) (cC := la.length) (c1 := la.length) (c2 := 0) P9 sA sB sC s1 (by rw [SsIn]; trivial) rA rB tA tB lA lB
        simp only [List.length_nil, Nat.add_zero] at sf he hs hnc ⊢
        rw [he] at sf hnc ⊢
        clear hC0
        clear he
        have b1 := sf.x0
        have b2 := sf.y0
        have b3 := sf.tl
        have SF := Lib.hid sf
        clear sf sA sB rA rB tA tB lA lB HO P9 hs
        go_wp2_with (first
        | (go_at_call 23; ((with_reducible refine (SF.out.nC _ hp.out).mono ?_); rintro e wk ⟨rfl, hb⟩); have hq := Lib.hid (hp.out.on hb); clear hp hb; have hp := hq; clear hq)
        | (go_at_call 23; ((with_reducible refine (SF.out.nA _ hp.out).mono ?_); rintro e wk ⟨rfl, hb⟩); have hq := Lib.hid (hp.out.on hb); clear hp hb; have hp := hq; clear hq)
        | (go_at_call 23; ((with_reducible refine (SF.out.nB _ hp.out).mono ?_); rintro e wk ⟨rfl, hb⟩); have hq := Lib.hid (hp.out.on hb); clear hp hb; have hp := hq; clear hq)
        | (go_at_call 27; ((with_reducible refine (SF.out.pC _ hp.out).mono ?_); rintro e wk ⟨rfl, hb⟩); have hq := Lib.hid (hp.out.on hb); clear hp hb; have hp := hq; clear hq)
        | (go_at_call 27; ((with_reducible refine (SF.out.pA _ hp.out).mono ?_); rintro e wk ⟨rfl, hb⟩); have hq := Lib.hid (hp.out.on hb); clear hp hb; have hp := hq; clear hq)
        | (go_at_call 27; ((with_reducible refine (SF.out.pB _ hp.out).mono ?_); rintro e wk ⟨rfl, hb⟩); have hq := Lib.hid (hp.out.on hb); clear hp hb; have hp := hq; clear hq)
        | (go_at_call 25; ((with_reducible refine (SF.out.rC _ hp.out).mono ?_); rintro e wk ⟨rfl, hb⟩); have hq := Lib.hid (hp.out.on hb); clear hp hb; have hp := hq; clear hq)
        | (go_at_call 29; ((with_reducible refine (SF.out.s1 _ hp.out).mono ?_); rintro e wk ⟨rfl, hb⟩); have hq := Lib.hid (hp.out.on hb); clear hp hb; have hp := hq; clear hq)
        | (go_at_call 29; ((with_reducible refine (SF.out.s2 _ hp.out).mono ?_); rintro e wk ⟨rfl, hb⟩); have hq := Lib.hid (hp.out.on hb); clear hp hb; have hp := hq; clear hq)
        | (go_at_call 29; ((with_reducible refine (SF.out.sAB _ hp.out).mono ?_); rintro e wk ⟨rfl, hb⟩); have hq := Lib.hid (hp.out.on hb); clear hp hb; have hp := hq; clear hq))
        go_ret
        exact ⟨rfl, step_on HB9.out hp.out⟩
      · obtain ⟨x, y, tx, ty, s, sf, hs⟩ := st_facts (aC := some ⟨g, 0, none⟩) (a1 := some ⟨g, 0, none⟩) (a2 := some ⟨g, la.length * 7, none⟩) (cA := K.bc) (cB := K'.bc) (cC := c) (c1 := c) (c2 := c - la.length) P9 sA sB sC s1 s2 rA rB tA tB lA lB
        rw [he] at sf hcl hnc ⊢
        clear he hC0
        have b1 := sf.x0
        have b2 := sf.y0
        have b3 := sf.tl
        have SF := Lib.hid sf
        clear sf sA sB rA rB tA tB lA lB HO P9 hs
        go_wp2_with (first
        | (go_at_call 23; ((with_reducible refine (SF.out.nC _ hp.out).mono ?_); rintro e wk ⟨rfl, hb⟩); have hq := Lib.hid (hp.out.on hb); clear hp hb; have hp := hq; clear hq)
        | (go_at_call 23; ((with_reducible refine (SF.out.nA _ hp.out).mono ?_); rintro e wk ⟨rfl, hb⟩); have hq := Lib.hid (hp.out.on hb); clear hp hb; have hp := hq; clear hq)
        | (go_at_call 23; ((with_reducible refine (SF.out.nB _ hp.out).mono ?_); rintro e wk ⟨rfl, hb⟩); have hq := Lib.hid (hp.out.on hb); clear hp hb; have hp := hq; clear hq)
        | (go_at_call 27; ((with_reducible refine (SF.out.pC _ hp.out).mono ?_); rintro e wk ⟨rfl, hb⟩); have hq := Lib.hid (hp.out.on hb); clear hp hb; have hp := hq; clear hq)
        | (go_at_call 27; ((with_reducible refine (SF.out.pA _ hp.out).mono ?_); rintro e wk ⟨rfl, hb⟩); have hq := Lib.hid (hp.out.on hb); clear hp hb; have hp := hq; clear hq)
        | (go_at_call 27; ((with_reducible refine (SF.out.pB _ hp.out).mono ?_); rintro e wk ⟨rfl, hb⟩); have hq := Lib.hid (hp.out.on hb); clear hp hb; have hp := hq; clear hq)
        | (go_at_call 25; ((with_reducible refine (SF.out.rC _ hp.out).mono ?_); rintro e wk ⟨rfl, hb⟩); have hq := Lib.hid (hp.out.on hb); clear hp hb; have hp := hq; clear hq)
        | (go_at_call 29; ((with_reducible refine (SF.out.s1 _ hp.out).mono ?_); rintro e wk ⟨rfl, hb⟩); have hq := Lib.hid (hp.out.on hb); clear hp hb; have hp := hq; clear hq)
        | (go_at_call 29; ((with_reducible refine (SF.out.s2 _ hp.out).mono ?_); rintro e wk ⟨rfl, hb⟩); have hq := Lib.hid (hp.out.on hb); clear hp hb; have hp := hq; clear hq)
        | (go_at_call 29; ((with_reducible refine (SF.out.sAB _ hp.out).mono ?_); rintro e wk ⟨rfl, hb⟩); have hq := Lib.hid (hp.out.on hb); clear hp hb; have hp := hq; clear hq))
        go_ret
        exact ⟨rfl, step_on HB9.out hp.out⟩
    · rcases Decidable.em (c = la.length) with hcl | hcl
      · subst hcl
        obtain rfl : lb = [] := List.length_eq_zero_iff.1 (by omega)
        obtain ⟨x, y, tx, ty, s, sf, hs⟩ := st_facts (aC := some ⟨g, 0, none⟩) (a1 := some ⟨g, 0, none⟩) (a2 := some ⟨g, 0, none⟩) (cA := K.bc) (cB := K'.bc) (cC := la.length) (c1 := la.length) (c2 := 0) P9 sA sB sC s1 (by rw [SsIn]; trivial) rA rB tA tB lA lB
        simp only [List.length_nil, Nat.add_zero] at sf he hs hnc ⊢
        have hs0 : s = false := by cases s with | false => rfl | true => exact absurd (hs rfl) he
        clear hC0
        skip
        have b1 := sf.x0
        have b2 := sf.y0
        have b3 := sf.tl
        have SF := Lib.hid sf
        clear sf sA sB rA rB tA tB lA lB HO P9 hs
        go_wp2_with (first
        | (go_at_call 23; ((with_reducible refine (SF.out.nC _ hp.out).mono ?_); rintro e wk ⟨rfl, hb⟩); have hq := Lib.hid (hp.out.on hb); clear hp hb; have hp := hq; clear hq)
        | (go_at_call 23; ((with_reducible refine (SF.out.nA _ hp.out).mono ?_); rintro e wk ⟨rfl, hb⟩); have hq := Lib.hid (hp.out.on hb); clear hp hb; have hp := hq; clear hq)
        | (go_at_call 23; ((with_reducible refine (SF.out.nB _ hp.out).mono ?_); rintro e wk ⟨rfl, hb⟩); have hq := Lib.hid (hp.out.on hb); clear hp hb; have hp := hq; clear hq)
        | (go_at_call 27; ((with_reducible refine (SF.out.pC _ hp.out).mono ?_); rintro e wk ⟨rfl, hb⟩); have hq := Lib.hid (hp.out.on hb); clear hp hb; have hp := hq; clear hq)
        | (go_at_call 27; ((with_reducible refine (SF.out.pA _ hp.out).mono ?_); rintro e wk ⟨rfl, hb⟩); have hq := Lib.hid (hp.out.on hb); clear hp hb; have hp := hq; clear hq)
        | (go_at_call 27; ((with_reducible refine (SF.out.pB _ hp.out).mono ?_); rintro e wk ⟨rfl, hb⟩); have hq := Lib.hid (hp.out.on hb); clear hp hb; have hp := hq; clear hq)
        | (go_at_call 25; ((with_reducible refine (SF.out.rC _ hp.out).mono ?_); rintro e wk ⟨rfl, hb⟩); have hq := Lib.hid (hp.out.on hb); clear hp hb; have hp := hq; clear hq)
        | (go_at_call 29; ((with_reducible refine (SF.out.s1 _ hp.out).mono ?_); rintro e wk ⟨rfl, hb⟩); have hq := Lib.hid (hp.out.on hb); clear hp hb; have hp := hq; clear hq)
        | (go_at_call 29; ((with_reducible refine (SF.out.s2 _ hp.out).mono ?_); rintro e wk ⟨rfl, hb⟩); have hq := Lib.hid (hp.out.on hb); clear hp hb; have hp := hq; clear hq)
        | (go_at_call 29; ((with_reducible refine (SF.out.sAB _ hp.out).mono ?_); rintro e wk ⟨rfl, hb⟩); have hq := Lib.hid (hp.out.on hb); clear hp hb; have hp := hq; clear hq))
        go_ret
        exact ⟨rfl, step_on HB9.out hp.out⟩
      · obtain ⟨x, y, tx, ty, s, sf, hs⟩ := st_facts (aC := some ⟨g, 0, none⟩) (a1 := some ⟨g, 0, none⟩) (a2 := some ⟨g, la.length * 7, none⟩) (cA := K.bc) (cB := K'.bc) (cC := c) (c1 := c) (c2 := c - la.length) P9 sA sB sC s1 s2 rA rB tA tB lA lB
        have hs0 : s = false := by cases s with | false => rfl | true => exact absurd (hs rfl) he
        have b1 := sf.x0
        have b2 := sf.y0
        have b3 := sf.tl
        have SF := Lib.hid sf
        clear sf sA sB rA rB tA tB lA lB HO P9 hs
        go_wp2_with (first
        | (go_at_call 23; ((with_reducible refine (SF.out.nC _ hp.out).mono ?_); rintro e wk ⟨rfl, hb⟩); have hq := Lib.hid (hp.out.on hb); clear hp hb; have hp := hq; clear hq)
        | (go_at_call 23; ((with_reducible refine (SF.out.nA _ hp.out).mono ?_); rintro e wk ⟨rfl, hb⟩); have hq := Lib.hid (hp.out.on hb); clear hp hb; have hp := hq; clear hq)
        | (go_at_call 23; ((with_reducible refine (SF.out.nB _ hp.out).mono ?_); rintro e wk ⟨rfl, hb⟩); have hq := Lib.hid (hp.out.on hb); clear hp hb; have hp := hq; clear hq)
        | (go_at_call 27; ((with_reducible refine (SF.out.pC _ hp.out).mono ?_); rintro e wk ⟨rfl, hb⟩); have hq := Lib.hid (hp.out.on hb); clear hp hb; have hp := hq; clear hq)
        | (go_at_call 27; ((with_reducible refine (SF.out.pA _ hp.out).mono ?_); rintro e wk ⟨rfl, hb⟩); have hq := Lib.hid (hp.out.on hb); clear hp hb; have hp := hq; clear hq)
        | (go_at_call 27; ((with_reducible refine (SF.out.pB _ hp.out).mono ?_); rintro e wk ⟨rfl, hb⟩); have hq := Lib.hid (hp.out.on hb); clear hp hb; have hp := hq; clear hq)
        | (go_at_call 25; ((with_reducible refine (SF.out.rC _ hp.out).mono ?_); rintro e wk ⟨rfl, hb⟩); have hq := Lib.hid (hp.out.on hb); clear hp hb; have hp := hq; clear hq)
        | (go_at_call 29; ((with_reducible refine (SF.out.s1 _ hp.out).mono ?_); rintro e wk ⟨rfl, hb⟩); have hq := Lib.hid (hp.out.on hb); clear hp hb; have hp := hq; clear hq)
        | (go_at_call 29; ((with_reducible refine (SF.out.s2 _ hp.out).mono ?_); rintro e wk ⟨rfl, hb⟩); have hq := Lib.hid (hp.out.on hb); clear hp hb; have hp := hq; clear hq)
        | (go_at_call 29; ((with_reducible refine (SF.out.sAB _ hp.out).mono ?_); rintro e wk ⟨rfl, hb⟩); have hq := Lib.hid (hp.out.on hb); clear hp hb; have hp := hq; clear hq))
        go_ret
        exact ⟨rfl, step_on HB9.out hp.out⟩
theorem treeStmts_walk (v0 v1 : Value) (w : World) (H : Pow w) (c0 : CodeIn w v0) (c1 : CodeIn w v1) :
    Calls Tryz.prog 7 #[v0, v1] w fun e w' => e = .returned (.bool true) ∧ Below w.heap.size w w' := by
  obtain ⟨pa, pn, pc, own, la, ln, lc, zl, ga, gn, gc, zg, rfl, r0, r1, hg⟩ := c0
  obtain ⟨pa', pn', pc', own', la', ln', lc', zl', ga', gn', gc', zg', rfl, r2, r3, hg'⟩ := c1
  exact treeStmts_go pa pn pc own la ln lc zl ga gn gc zg pa' pn' pc' own' la' ln' lc' zl' ga' gn' gc' zg' w H r0 r1 hg r2 r3 hg'
end Go.Proofs.YtppeogcpoplpeaaGreatDoor
