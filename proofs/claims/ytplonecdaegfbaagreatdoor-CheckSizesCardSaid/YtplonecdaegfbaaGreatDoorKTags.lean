/- What is asked of each name in expressions. (Written by genplace.py.) What Find answers; what is wrong with a call, and with what a statement sets. (Written by genask.py.) The tags that were seen, counted in a map; whether a statement may have its tag. -/
import Derived.Test.YtplonecdaegfbaaGreatDoorKNamed
import Derived.Test.YtplonecdaegfbaaGreatDoorKEach
import Derived.Maps.Own
import Derived.Maps.OwnOps
import Derived.Maps.Views
set_option linter.unusedSimpArgs false
set_option linter.unusedVariables false
namespace Go.Proofs.YtplonecdaegfbaaGreatDoor.Ck
open Go Go.RowKit Go.Proofs.YtplonecdaegfbaaGreatDoor

theorem foldr_or (l : List Nat) (b : Nat) : l.foldr orE b = orE (l.foldr orE 0) b := by
  induction l with
  | nil => rfl
  | cons a l ih => rw [List.foldr_cons, List.foldr_cons, ih, orE_assoc]
theorem firstC_take (l : List Nat) : ∀ n, n ≤ l.length → firstC (cd l) n = (l.take n).foldr orE 0 := by
  intro n
  induction n with
  | zero => intro _; rfl
  | succ n ih =>
    intro h
    rw [firstC, ih (by omega), List.take_succ_eq_append_getElem (by omega), List.foldr_append, foldr_or (l.take n) (List.foldr orE 0 [l[n]])]
    congr 1
    show cd l n = orE l[n] 0
    rw [orE_zero_right]
    unfold cd
    rw [List.getD_eq_getElem?_getD, List.getElem?_eq_getElem (by omega)]; rfl
theorem firstC_list (l : List Nat) : firstC (cd l) l.length = l.foldr orE 0 := by
  rw [firstC_take l l.length (Nat.le_refl _), List.take_length]
theorem cd_at {α : Type} (f : α → Nat) (l : List α) (k : Nat) (h : k < l.length) : cd (l.map f) k = f l[k] := by
  unfold cd; rw [List.getD_eq_getElem?_getD, List.getElem?_map, List.getElem?_eq_getElem h]; rfl
theorem placeEs_fold (F : FT) (L : List ET) : placeEs F L = (L.map (placeE F)).foldr orE 0 := by
  induction L with
  | nil => rfl
  | cons T L ih => rw [placeEs, ih]; rfl
abbrev FBox (w : World) (b : Nat) (F : FT) : Prop := w.heap[b]? = some (.cells #[.string F.name, .slice F.pa F.params.length F.pc, .slice F.va F.vars.length F.vc, .slice F.ba F.body.length F.bc] 47 (0, 0))
abbrev EBox (w : World) (b : Nat) (T : ET) : Prop := w.heap[b]? = some (.cells #[.int .i64 T.kind, .string T.op, .int .i64 T.n, .string T.name, .slice T.kaddr T.kids.length T.kcap] 68 (0, 0))
theorem cells4 {w : World} {b : Nat} {t : TypeId} {v0 v1 v2 v3 : Value} (h : w.heap[b]? = some (.cells #[v0, v1, v2, v3] t (0, 0))) : w.cell? ⟨b, 0, none⟩ = some v0 ∧ w.cell? ⟨b, 1, none⟩ = some v1 ∧ w.cell? ⟨b, 2, none⟩ = some v2 ∧ w.cell? ⟨b, 3, none⟩ = some v3 :=
  ⟨bk_cell h rfl, bk_cell h rfl, bk_cell h rfl, bk_cell h rfl⟩
theorem cells5' {w : World} {b : Nat} {t : TypeId} {v0 v1 v2 v3 v4 : Value} (h : w.heap[b]? = some (.cells #[v0, v1, v2, v3, v4] t (0, 0))) : w.cell? ⟨b, 0, none⟩ = some v0 ∧ w.cell? ⟨b, 1, none⟩ = some v1 ∧ w.cell? ⟨b, 2, none⟩ = some v2 ∧ w.cell? ⟨b, 3, none⟩ = some v3 ∧ w.cell? ⟨b, 4, none⟩ = some v4 :=
  ⟨bk_cell h rfl, bk_cell h rfl, bk_cell h rfl, bk_cell h rfl, bk_cell h rfl⟩
abbrev askP (bf : Nat) : Value := .func (.func 155) #[] #[.pointer (some ⟨bf, 0, none⟩)]
set_option maxHeartbeats 2000000 in
set_option maxRecDepth 100000 in
theorem askP_any {w0 : World} {F : FT} (hin : F.In w0 0) (T : ET) (bf : Nat) (w : World) (hp : Past w0 w) (hf : FBox w bf F) :
    Calls Tryz.prog 155 #[.agg #[.int .i64 T.kind, .string T.op, .int .i64 T.n, .string T.name, .slice T.kaddr T.kids.length T.kcap], .pointer (some ⟨bf, 0, none⟩)] w fun e w' => e = .returned (.int .i64 (namedF F T.name (decide (T.kind = 2)) : Nat)) ∧ Below w.heap.size w w' := by
  have HP := Lib.hid hp
  obtain ⟨f0, f1, f2, f3⟩ := cells4 hf
  have hlt := lt_of_block hf
  obtain ⟨q, hq⟩ : ∃ q, decide (T.kind = 2) = q := ⟨_, rfl⟩
  have hq2 : (T.kind == 2) = q := by rw [← hq]; rfl
  have HN := Lib.hid (fun (W : World) (hW : Past w0 W) => named_any hin T.name q W hW)
  rw [hq]
  clear hp hin hf hq
  go_enter Tryz.func155, Tryz.ntmps155
  go_wp2_with (go_at_call 42; refine (HN.out _ ?_).mono ?_; (exact HP.out.alloc _); rintro e w1 ⟨rfl, hb1⟩)
  go_ret
  exact ⟨rfl, step_on (bal (bre w) _) hb1⟩
def ownC (F : FT) (T : ET) : Nat := if T.kind = 1 ∨ T.kind = 2 then namedF F T.name (decide (T.kind = 2)) else 0
theorem placeE_own (F : FT) (T : ET) : placeE F T = orE (ownC F T) (placeEs F T.kids) := by cases T; rw [placeE]; rfl
set_option maxHeartbeats 2000000 in
set_option maxRecDepth 100000 in
theorem place1_any {w0 : World} {F : FT} (hin : F.In w0 0) (T : ET) (bf be bq : Nat) (w : World) (hp : Past w0 w) (hf : FBox w bf F) (he : EBox w be T) (hq : Box w bq (askP bf) 204) :
    Calls Tryz.prog 196 #[.pointer (some ⟨be, 0, none⟩), .pointer (some ⟨bq, 0, none⟩)] w fun e w' => e = .returned (.int .i64 (ownC F T : Nat)) ∧ Below w.heap.size w w' := by
  have HP := Lib.hid hp
  have HN := Lib.hid (fun (W : World) (hW : Past w0 W) (hfW : FBox W bf F) => askP_any hin T bf W hW hfW)
  have HF := Lib.hid hf
  obtain ⟨c0, c1, c2, c3, c4⟩ := cells5' he
  have q0 := bk_cell (k := 0) hq rfl
  have hlt := lt_of_block he
  have hlq := lt_of_block hq
  unfold ownC
  clear hp hin hf he hq
  by_cases h1 : T.kind = 1
  · have e1 : (T.kind == 1) = true := by simpa using h1
    rw [if_pos (Or.inl h1)]
    clear h1
    go_enter Tryz.func196, Tryz.ntmps196
    go_wp2_with (go_at_call 155; have hx := HN.out _ HP.out HF.out; refine hx.mono ?_; clear hx; rintro e w1 ⟨rfl, hb1⟩)
    go_ret
    exact ⟨rfl, hb1⟩
  · have e1 : (T.kind == 1) = false := by simpa using h1
    by_cases h2 : T.kind = 2
    · have e2 : (T.kind == 2) = true := by simpa using h2
      rw [if_pos (Or.inr h2)]
      clear h1 h2
      go_enter Tryz.func196, Tryz.ntmps196
      go_wp2_with (go_at_call 155; have hx := HN.out _ HP.out HF.out; refine hx.mono ?_; clear hx; rintro e w1 ⟨rfl, hb1⟩)
      go_ret
      exact ⟨rfl, hb1⟩
    · have e2 : (T.kind == 2) = false := by simpa using h2
      rw [if_neg (by omega)]
      clear h1 h2
      go_enter Tryz.func196, Tryz.ntmps196
      go_wp2
      go_ret
      exact ⟨rfl, Below.refl _ _⟩
def KidsOk (w0 : World) (F : FT) (bf : Nat) (T : ET) : Prop := ∀ W, Past w0 W → FBox W bf F → Calls Tryz.prog 154 #[.slice T.kaddr T.kids.length T.kcap, askP bf] W fun e w' => e = .returned (.int .i64 (placeEs F T.kids : Nat)) ∧ Below W.heap.size W w'
set_option maxHeartbeats 2000000 in
set_option maxRecDepth 100000 in
theorem place2_any {w0 : World} {F : FT} (T : ET) (bf be bq : Nat) (hk : KidsOk w0 F bf T) (w : World) (hp : Past w0 w) (hf : FBox w bf F) (he : EBox w be T) (hq : Box w bq (askP bf) 204) :
    Calls Tryz.prog 197 #[.pointer (some ⟨be, 0, none⟩), .pointer (some ⟨bq, 0, none⟩)] w fun e w' => e = .returned (.int .i64 (placeEs F T.kids : Nat)) ∧ Below w.heap.size w w' := by
  have HK := Lib.hid (hk w hp hf)
  obtain ⟨c0, c1, c2, c3, c4⟩ := cells5' he
  have q0 := bk_cell (k := 0) hq rfl
  have hlt := lt_of_block he
  have hlq := lt_of_block hq
  clear hp hf he hq hk
  go_enter Tryz.func197, Tryz.ntmps197
  go_wp2_with (go_at_call 154; have hx := HK.out; refine hx.mono ?_; clear hx; rintro e w1 ⟨rfl, hb1⟩)
  go_ret
  exact ⟨rfl, hb1⟩
set_option maxHeartbeats 2000000 in
set_option maxRecDepth 100000 in
theorem place_step {w0 : World} {F : FT} (hin : F.In w0 0) (T : ET) (bf bq : Nat) (hk : KidsOk w0 F bf T) (w : World) (hp : Past w0 w) (hf : FBox w bf F) (hq : Box w bq (askP bf) 204) :
    Calls Tryz.prog 195 #[.agg #[.int .i64 T.kind, .string T.op, .int .i64 T.n, .string T.name, .slice T.kaddr T.kids.length T.kcap], .pointer (some ⟨bq, 0, none⟩)] w fun e w' => e = .returned (.int .i64 (placeE F T : Nat)) ∧ Below w.heap.size w w' := by
  have HP := Lib.hid hp
  have HI := Lib.hid hin
  have HK := Lib.hid hk
  have HF := Lib.hid hf
  have HQ := Lib.hid hq
  have HN : Hid (placeE F T = orE (orE 0 (ownC F T)) (placeEs F T.kids)) := Lib.hid (placeE_own F T)
  clear hp hin hk hf hq
  go_enter Tryz.func195, Tryz.ntmps195
  go_wp2_with (go_at_call 35; refine (firstOf_q [(196, #[.pointer (some ⟨w.heap.size, 0, none⟩), .pointer (some ⟨bq, 0, none⟩)]), (197, #[.pointer (some ⟨w.heap.size, 0, none⟩), .pointer (some ⟨bq, 0, none⟩)])] (cd [ownC F T, placeEs F T.kids]) _ _ (by show 2 ≤ 100; decide) (by simp) ?_ ?_ ?_).mono ?_; (intro k h; match k, h with | 0, _ => exact enters_of Tryz.func196 (by kernel_rfl) rfl | 1, _ => exact enters_of Tryz.func197 (by kernel_rfl) rfl | k + 2, h => exact absurd h (by simp)); (intro k h; match k, h with | 0, _ => (refine bk_cell (nb _ (by simp)) ?_; rfl) | 1, _ => (refine bk_cell (nb _ (by simp)) ?_; rfl) | k + 2, h => exact absurd h (by simp)); (intro k h W hz hW; match k, h with | 0, _ => exact place1_any HI.out T bf w.heap.size bq W (Past.on ((HP.out.alloc _).alloc _) hW) (bl hW (ob _ (ob _ HF.out))) (bl hW (ob _ (nb _ rfl))) (bl hW (ob _ (ob _ HQ.out))) | 1, _ => exact place2_any T bf w.heap.size bq HK.out W (Past.on ((HP.out.alloc _).alloc _) hW) (bl hW (ob _ (ob _ HF.out))) (bl hW (ob _ (nb _ rfl))) (bl hW (ob _ (ob _ HQ.out))) | k + 2, h => exact absurd h (by simp)); rintro e w2 ⟨rfl, hb2⟩; have HB2 := Lib.hid hb2; clear hb2)
  go_ret
  exact ⟨by rw [HN.out]; rfl, step_on (bal (bal (bre w) _) _) HB2.out⟩
theorem places_list {w0 : World} {F : FT} (hin : F.In w0 0) (bf bq : Nat) (a : Option Addr) (c : Nat) (L : List ET) (hl : L.length ≤ 9223372036854775807) (hL : EsIn w0 0 a 0 L) (hK : ∀ k (h : k < L.length), KidsOk w0 F bf L[k]) (W : World) (hW : Past w0 W) (hfW : FBox W bf F) (hqW : Box W bq (askP bf) 204) :
    Calls Tryz.prog 194 #[.slice a L.length c, .func (.func 195) #[] #[.pointer (some ⟨bq, 0, none⟩)]] W fun e w' => e = .returned (.int .i64 (placeEs F L : Nat)) ∧ Below W.heap.size W w' := by
  have h := eachE_any a c L hl hL 195 #[.pointer (some ⟨bq, 0, none⟩)] (enters_of Tryz.func195 (by kernel_rfl) rfl) (cd (L.map (placeE F))) (fun _ V => Below W.heap.size W V) (fun k V hV => hW.on hV) (fun k V o hV => hV.alloc hV.size o)
    (fun k h V hz hV => by
      rw [cd_at (placeE F) L k h, ET.val_is]
      exact (place_step hin L[k] bf bq (hK k h) V (hW.on hV) (bl hV hfW) (bl hV hqW)).mono fun e w' q => ⟨q.1, step_on hV q.2⟩) W (Below.refl _ _)
  refine h.mono ?_
  rintro e w' ⟨he, k, hk, hb, -⟩
  refine ⟨?_, hb⟩
  have := firstC_list (L.map (placeE F))
  rw [List.length_map, ← placeEs_fold] at this
  rw [he, this]
set_option maxHeartbeats 2000000 in
set_option maxRecDepth 100000 in
theorem places_any {w0 : World} {F : FT} (hin : F.In w0 0) (bf : Nat) : ∀ (m : Nat) (a : Option Addr) (c : Nat) (L : List ET), szs L < m → L.length ≤ 9223372036854775807 → EsIn w0 0 a 0 L → ∀ w, Past w0 w → FBox w bf F →
    Calls Tryz.prog 154 #[.slice a L.length c, askP bf] w fun e w' => e = .returned (.int .i64 (placeEs F L : Nat)) ∧ Below w.heap.size w w' := by
  intro m
  induction m with
  | zero => intro a c L hm; omega
  | succ m ih =>
    intro a c L hm hl hL w hp hf
    have hK : ∀ k (h : k < L.length), KidsOk w0 F bf L[k] := fun k h W hW hfW => by
      have h1 := (hL.nth k h).2
      have h2 : EsIn w0 0 L[k].kaddr 0 L[k].kids ∧ L[k].kids.length ≤ 9223372036854775807 := by
        revert h1; cases L[k]; intro h1; rw [ET.In] at h1; exact ⟨h1.2.2, h1.2.1⟩
      refine ih _ _ _ ?_ h2.2 h2.1 W hW hfW
      have h3 := szs_mem (List.getElem_mem h)
      have h4 : szs L[k].kids < L[k].sz := kids_sz
      omega
    have hE := fun W => places_list hin bf w.heap.size a c L hl hL hK W
    have HE := Lib.hid hE
    clear hE
    have HP := Lib.hid hp
    have HF := Lib.hid hf
    clear hp hf hK ih hL hm
    go_enter Tryz.func154, Tryz.ntmps154
    go_wp2_with (go_at_call 194; refine (HE.out _ ?_ ?_ ?_).mono ?_; (exact HP.out.alloc _); (exact ob _ HF.out); (exact nb _ rfl); rintro e w1 ⟨rfl, hb1⟩)
    go_ret
    exact ⟨rfl, step_on (bal (bre w) _) hb1⟩
end Go.Proofs.YtplonecdaegfbaaGreatDoor.Ck

set_option linter.unusedSimpArgs false
set_option linter.unusedVariables false
namespace Go.Proofs.YtplonecdaegfbaaGreatDoor.Ck
open Go Go.RowKit Go.Proofs.YtplonecdaegfbaaGreatDoor

abbrev SBox (w : World) (b : Nat) (S : ST) : Prop := w.heap[b]? = some (.cells #[.int .i64 S.kind, .int .i64 S.tag, .string S.name, .string S.func, .slice S.ea S.en S.ec, .slice S.ba S.bn S.bc, .slice S.la S.ln S.lc] 66 (0, 0))
abbrev XBox (w : World) (b : Nat) (a : Option Addr) (n c mb : Nat) : Prop := w.heap[b]? = some (.cells #[.slice a n c, .map (some mb)] 81 (0, 0))
set_option maxHeartbeats 1000000 in
set_option maxRecDepth 100000 in
theorem last_any (a : Option Addr) (n c mb : Nat) (hn : n ≤ 9223372036854775807) (w : World) :
    Calls Tryz.prog 95 #[.agg #[.slice a n c, .map (some mb)]] w fun e w' => e = .returned (.int .i64 ((n : Int) - 1)) ∧ Below w.heap.size w w' := by
  go_enter Tryz.func95, Tryz.ntmps95
  go_wp2
  go_ret
  exact ⟨rfl, bal (bre w) _⟩
set_option maxHeartbeats 1000000 in
set_option maxRecDepth 100000 in
theorem find1_any (F : FT) (nm : ByteArray) (b : Nat) (w : World) (hc : Box w b (.string nm) 9) :
    Calls Tryz.prog 46 #[.agg #[.string F.name, .slice F.pa F.params.length F.pc, .slice F.va F.vars.length F.vc, .slice F.ba F.body.length F.bc], .pointer (some ⟨b, 0, none⟩)] w fun e w' => e = .returned (.bool (F.name.toList == nm.toList)) ∧ Below w.heap.size w w' := by
  have c0 := bk_cell (k := 0) hc rfl
  have hlt := lt_of_block hc
  clear hc
  obtain ⟨q, hq⟩ : ∃ q, (F.name.toList == nm.toList) = q := ⟨_, rfl⟩
  rw [hq]
  go_enter Tryz.func46, Tryz.ntmps46
  go_wp2
  go_ret
  exact ⟨rfl, bal (bre w) _⟩
theorem findN_at {l : List FT} {nm : ByteArray} {n : Nat} (hn : n < l.length) (h : ∀ j (hj : j < n) (hl : j < l.length), l[j].name ≠ nm) (e : l[n].name = nm) : findN l nm = n := by
  induction l generalizing n with
  | nil => simp at hn
  | cons F l ih =>
    cases n with
    | zero => rw [findN, if_pos (show F.name = nm from e)]
    | succ n =>
      rw [findN, if_neg (show F.name ≠ nm from h 0 (by omega) (by simp))]
      rw [ih (n := n) (by simpa using hn) (fun j hj hl => h (j + 1) (by omega) (by simpa using hl)) e]
theorem findN_none {l : List FT} {nm : ByteArray} (h : ∀ j (hl : j < l.length), l[j].name ≠ nm) : findN l nm = l.length := by
  induction l with
  | nil => rfl
  | cons F l ih => rw [findN, if_neg (show F.name ≠ nm from h 0 (by simp)), ih (fun j hl => h (j + 1) (by simpa using hl))]; rfl
theorem F.cells_is (F : FT) : F.cells = #[.string F.name, .slice F.pa F.params.length F.pc, .slice F.va F.vars.length F.vc, .slice F.ba F.body.length F.bc] := rfl
set_option maxHeartbeats 2000000 in
set_option maxRecDepth 100000 in
theorem index_any {w0 : World} {a : Option Addr} {l : List FT} (hin : FsIn w0 0 a l) (c : Nat) (nm : ByteArray) (b : Nat) (w : World) (hp : Past w0 w) (hc : Box w b (.string nm) 9) :
    Calls Tryz.prog 45 #[.slice a l.length c, .func (.func 46) #[] #[.pointer (some ⟨b, 0, none⟩)]] w fun e w' => e = .returned (.int .i64 (findV l nm)) ∧ Below w.heap.size w w' := by
  have HP := Lib.hid hp
  have HI := Lib.hid hin
  have HC := Lib.hid hc
  have hll := hin.len
  clear hp hin hc
  go_enter Tryz.func45, Tryz.ntmps45
  go_wp2
  go_loopw [5, 8] (fun _ i wr => ∃ n : Nat, n ≤ l.length ∧ i = .int .i64 n ∧ Below w.heap.size w wr ∧ ∀ j (hj : j < n) (hl : j < l.length), l[j].name ≠ nm) (fun _ i _ => l.length - (intOf i).toNat)
  case atStart => exact ⟨0, Nat.zero_le _, rfl, Below.refl _ _, fun j hj => by omega⟩
  case round =>
    obtain ⟨n, hn, rfl, hb, hno⟩ := hrel
    have HB := Lib.hid hb
    have HN := Lib.hid hno
    clear hb hno
    by_cases hlt : n < l.length
    · have hrow := HI.out.row n hlt
      have hrow' := hrow
      obtain ⟨kb, ko, rfl, -⟩ := hrow'
      rw [F.cells_is] at hrow
      obtain ⟨r0, r1, r2, r3, hkb⟩ := row_cells4 hrow (HP.out.on HB.out)
      have hcall := find1_any l[n] nm b wr (bl HB.out HC.out)
      clear hrow
      by_cases he : l[n].name = nm
      · rw [text_eq.2 he] at hcall
        have HX := Lib.hid hcall
        have HE : Hid (findV l nm = (n : Int)) := Lib.hid (by unfold findV; rw [findN_at hlt HN.out he, if_pos hlt])
        clear hcall he
        go_wp2_with (go_at_call 46; have hx := HX.out; refine hx.mono ?_; clear hx; rintro e w1 ⟨rfl, hb1⟩)
        go_ret
        exact ⟨by rw [HE.out]; rfl, step_on HB.out hb1⟩
      · rw [text_ne he] at hcall
        have HX := Lib.hid hcall
        have HE : Hid (∀ j (hj : j < n + 1) (hl : j < l.length), l[j].name ≠ nm) := Lib.hid (fun j hj hl => by
          by_cases e : j = n
          · subst e; exact he
          · exact HN.out j (by omega) hl)
        clear hcall he
        go_wp2_with (go_at_call 46; have hx := HX.out; refine hx.mono ?_; clear hx; rintro e w1 ⟨rfl, hb1⟩)
        go_round
        case rel => exact ⟨n + 1, by omega, by go_num, step_on HB.out hb1, HE.out⟩
        case measure => simp [intOf]; omega
    · obtain rfl : n = l.length := by omega
      go_wp2
      go_ret
      exact ⟨by unfold findV; rw [findN_none (fun j hl => HN.out j hl hl), if_neg (Nat.lt_irrefl _)]; rfl, HB.out⟩
set_option maxHeartbeats 2000000 in
set_option maxRecDepth 100000 in
theorem find_any {w0 : World} {a : Option Addr} {l : List FT} (hin : FsIn w0 0 a l) (c : Nat) (nm : ByteArray) (w : World) (hp : Past w0 w) :
    Calls Tryz.prog 19 #[.agg #[.slice a l.length c], .string nm] w fun e w' => e = .returned (.int .i64 (findV l nm)) ∧ Below w.heap.size w w' := by
  have HX := Lib.hid (fun (W : World) (hW : Past w0 W) (b : Nat) (hb : Box W b (.string nm) 9) => index_any hin c nm b W hW hb)
  have HP := Lib.hid hp
  clear hin hp
  go_enter Tryz.func19, Tryz.ntmps19
  go_wp2_with (go_at_call 45; refine (HX.out _ ?_ _ ?_).mono ?_; (exact (HP.out.alloc _).alloc _); (exact nb _ (by simp)); rintro e w1 ⟨rfl, hb1⟩)
  go_ret
  exact ⟨rfl, step_on (bal (bal (bre w) _) _) hb1⟩
theorem findV_lt (l : List FT) (nm : ByteArray) : findV l nm < 0 ∧ l.length ≤ findN l nm ∨ 0 ≤ findV l nm ∧ findV l nm = (findN l nm : Nat) ∧ findN l nm < l.length := by
  unfold findV
  split
  · rename_i h; exact Or.inr ⟨by omega, rfl, h⟩
  · rename_i h; exact Or.inl ⟨by omega, by omega⟩
/-- What is wrong with a call, of a function that there is. -/
def call2 (l : List FT) (S : ST) : Nat := if findN l S.func + 1 = l.length ∨ ((l.map fun F => F.params.length).getD (findN l S.func) 0) ≠ S.en then 10 else 0
def ng (v : Int) : Nat := if v < 0 then 6 else 0
theorem callee_code (l : List FT) (S : ST) (hk : S.kind = 3) : calleeF l S = orE (orE 0 (ng (findV l S.func))) (call2 l S) := by
  unfold calleeF call2 ng
  rw [if_neg (by omega)]
  rcases findV_lt l S.func with ⟨h1, h2⟩ | ⟨h1, h2, h3⟩
  · rw [if_pos h2, if_pos h1]; rfl
  · rw [if_neg (show ¬ l.length ≤ findN l S.func by omega), if_neg (show ¬ findV l S.func < 0 by omega)]; rfl
set_option maxHeartbeats 1000000 in
set_option maxRecDepth 100000 in
theorem callee1_any (b : Nat) (i : Int) (w : World) (hc : Box w b (.int .i64 i) 3) :
    Calls Tryz.prog 192 #[.pointer (some ⟨b, 0, none⟩)] w fun e w' => e = .returned (.int .i64 (ng i : Nat)) ∧ w' = w := by
  have c0 := bk_cell (k := 0) hc rfl
  have hlt := lt_of_block hc
  clear hc
  by_cases h : i < 0
  · have e1 : decide (i < 0) = true := by simpa using h
    have HV : ng i = 6 := if_pos h
    rw [HV]
    clear h HV
    go_enter Tryz.func192, Tryz.ntmps192
    go_wp2_with (go_at_call 38; refine (when_any _ _ _).mono ?_; rintro e w' ⟨rfl, rfl⟩)
    go_ret
    exact ⟨rfl, rfl⟩
  · have e1 : decide (i < 0) = false := by simpa using h
    have HV : ng i = 0 := if_neg h
    rw [HV]
    clear h HV
    go_enter Tryz.func192, Tryz.ntmps192
    go_wp2_with (go_at_call 38; refine (when_any _ _ _).mono ?_; rintro e w' ⟨rfl, rfl⟩)
    go_ret
    exact ⟨rfl, rfl⟩
end Go.Proofs.YtplonecdaegfbaaGreatDoor.Ck

set_option linter.unusedSimpArgs false
set_option linter.unusedVariables false
namespace Go.Proofs.YtplonecdaegfbaaGreatDoor.Ck
open Go Go.RowKit Go.Proofs.YtplonecdaegfbaaGreatDoor

theorem keyI : Go.Maps.Keyed Tryz.prog 3 := Go.Maps.int_keyed Tryz.underlying3
theorem zeroI (w : World) : (zeroValue 3).run Tryz.prog w = .ok (.int .i64 0) w := by kernel_rfl
/-- Block mb is a map that counts the tags in seen. -/
def Tg (mb : Nat) (W : World) (seen : List Int) : Prop := ∃ D : DataW Unit, W.ownsMap Tryz.prog 3 (plainElem Tryz.prog 3) mb seen.length D ∧ Go.Maps.IsMap D ∧ ∀ t : Int, D.atKey (.int .i64 t) (.lit (.int .i64 0)) = .lit (.int .i64 (seen.count t : Nat))
theorem Tg.lt {mb : Nat} {W : World} {seen : List Int} (h : Tg mb W seen) : mb < W.heap.size := by
  obtain ⟨D, h1, -⟩ := h; exact h1.lt
theorem Tg.on {mb : Nat} {W W' : World} {seen : List Int} (h : Tg mb W seen) (hb : Below W.heap.size W W') : Tg mb W' seen := by
  obtain ⟨D, h1, h2, h3⟩ := h
  exact ⟨D, h1.kept (row := none) ⟨hb.os, hb.tape, hb.output, hb.size, fun k hk _ => hb.block k hk⟩ (by simp), h2, h3⟩
theorem Tg.alloc {mb : Nat} {W : World} {seen : List Int} (h : Tg mb W seen) (o : Obj) : Tg mb (W.alloc o) seen := h.on ((Below.refl _ _).alloc (Nat.le_refl _) _)
theorem tg_new (w : World) : Tg w.heap.size (w.alloc (.map #[] 0)) [] :=
  ⟨.map [], World.ownsMap_made _ _ _ _, Go.Maps.isMap_empty, fun t => rfl⟩
theorem wf64 {t : Int} (h : -9223372036854775808 ≤ t ∧ t ≤ 9223372036854775807) : (Lit.int .i64 t).wf = true := WalkArith.wf_i64 h
theorem Tg.look {mb : Nat} {W : World} {seen : List Int} (h : Tg mb W seen) {t : Int} (ht : -9223372036854775808 ≤ t ∧ t ≤ 9223372036854775807) :
    (Instr.lookup 79 (.map (some mb)) (.int .i64 t) false).run Tryz.prog W = .ok (.int .i64 (seen.count t : Nat)) W := by
  obtain ⟨D, h1, h2, h3⟩ := h
  obtain ⟨c, hrun, hat, -⟩ := h1.lookup_int keyI Tryz.underlying79 Tryz.underlying3 (zeroI _) (Go.Maps.keyOf_int_mk Tryz.underlying3 (wf64 ht))
  rw [h3 t] at hat
  simp only [DataW.lit.injEq, Lit.int.injEq, true_and] at hat
  rw [hrun, hat]
theorem Tg.upd {mb : Nat} {W : World} {seen : List Int} (h : Tg mb W seen) (hl : seen.length ≤ 1000000) {t : Int} (ht : -9223372036854775808 ≤ t ∧ t ≤ 9223372036854775807) :
    ∃ W', (Instr.mapUpdate 79 (.map (some mb)) (.int .i64 t) (.int .i64 ((seen.count t : Nat) + 1))).run Tryz.prog W = .ok () W' ∧ Tg mb W' (t :: seen) ∧ Gr mb W W' := by
  obtain ⟨D, h1, h2, h3⟩ := h
  have hc : seen.count t ≤ seen.length := List.count_le_length
  obtain ⟨W', hrun, hown, hg⟩ := h1.update keyI Tryz.underlying79 (by unfold maxLen; omega) (key := .int .i64 t) (Go.Maps.keyOf_int_mk Tryz.underlying3 (wf64 ht)) (plainElem_int Tryz.underlying3 (wf64 (t := (seen.count t : Nat) + 1) (by omega)))
  refine ⟨W', hrun, ⟨_, hown, h2.put _ _, fun s => ?_⟩, hg⟩
  by_cases e : s = t
  · subst e
    rw [Go.Maps.atKey_put_same h2 (show Go.WideAt.IsKeyLit (Lit.int .i64 s) from trivial), List.count_cons_self]
    congr 2
  · rw [Go.Maps.atKey_put_other (by simpa using e), h3 s, List.count_cons_of_ne (fun h => e h.symm)]
set_option maxHeartbeats 4000000 in
set_option maxRecDepth 100000 in
theorem mayTag_any (a : Option Addr) (n c mb : Nat) (hn : n ≤ 9223372036854775807) (i : Nat) (hi : i < n) (t : Int) (ht : -9223372036854775808 ≤ t ∧ t ≤ 9223372036854775807) (seen : List Int) (hl : seen.length ≤ 1000000) (w : World) (hT : Tg mb w seen) :
    Calls Tryz.prog 146 #[.agg #[.slice a n c, .map (some mb)], .int .i64 i, .int .i64 t] w fun e w' => e = .returned (.bool (decide (i + 1 = n ∧ t ∉ seen))) ∧ Gr mb w w' ∧ Tg mb w' (t :: seen) := by
  have hc : seen.count t ≤ seen.length := List.count_le_length
  have hmem : t ∉ seen ↔ seen.count t = 0 := List.count_eq_zero.symm
  have hcs : (t :: seen).count t = seen.count t + 1 := List.count_cons_self
  have hTa := hT.alloc (.cells #[.slice a n c, .map (some mb)] 81)
  have hk := hTa.look ht
  obtain ⟨W1, hrun, hT1, hG1⟩ := hTa.upd hl ht
  have hlt := hT.lt
  have x0 : W1.heap[w.heap.size]? = some (.cells #[.slice a n c, .map (some mb)] 81 (0, 0)) := gr_block hG1 (by omega) (nb _ rfl)
  have c0 := bk_cell (k := 0) x0 rfl
  have c1 := bk_cell (k := 1) x0 rfl
  have hlx := lt_of_block x0
  have HT1 := Lib.hid hT1
  have HG1 := Lib.hid hG1
  have HL := Lib.hid (fun W => last_any a n c mb hn W)
  have HK2 : Hid (∀ W, Below W1.heap.size W1 W → (Instr.lookup 79 (.map (some mb)) (.int .i64 t) false).run Tryz.prog W = .ok (.int .i64 ((seen.count t : Nat) + 1)) W) := Lib.hid (fun W hW => by have := (hT1.on hW).look ht; rw [hcs] at this; simpa using this)
  have HX := Lib.hid x0
  have HCNT : Hid (t ∉ seen ↔ seen.count t = 0) := Lib.hid hmem
  obtain ⟨k, hkk⟩ : ∃ k, seen.count t = k := ⟨_, rfl⟩
  rw [hkk] at hk hrun hc HK2 HCNT
  have w1 : IntKind.i64.wrap ((k : Int) + 1) = (k : Int) + 1 := IntWalk.i64_in _ (by omega)
  clear hT hTa hT1 hG1 x0 hmem hcs hkk
  by_cases hin : i + 1 = n
  · have e1 : ((i : Int) == (n : Int) - 1) = true := by simp; omega
    by_cases hk0 : k = 0
    · have HR : Hid (decide (i + 1 = n ∧ t ∉ seen) = true) := Lib.hid (decide_eq_true ⟨hin, HCNT.out.2 hk0⟩)
      have e2 : ((k : Int) + 1 == 1) = true := by simp; omega
      clear hin hk0
      go_enter Tryz.func146, Tryz.ntmps146
      go_wp2_with (go_at_call 95; refine (HL.out _).mono ?_; rintro e w2 ⟨rfl, hb2⟩; have x2 := bl hb2 HX.out; have d0 := bk_cell (k := 0) x2 rfl; have d1 := bk_cell (k := 1) x2 rfl; have hk2 := HK2.out w2 hb2; have HB2 := Lib.hid hb2; clear x2 hb2)
      go_ret
      exact ⟨by rw [HR.out]; rfl, gr_trans (gr_trans (gr_alloc (gr_refl _ _) _) HG1.out) (gr_below HB2.out), HT1.out.on HB2.out⟩
    · have HR : Hid (decide (i + 1 = n ∧ t ∉ seen) = false) := Lib.hid (decide_eq_false (fun h => hk0 (HCNT.out.1 h.2)))
      have e2 : ((k : Int) + 1 == 1) = false := by simp; omega
      clear hin hk0
      go_enter Tryz.func146, Tryz.ntmps146
      go_wp2_with (go_at_call 95; refine (HL.out _).mono ?_; rintro e w2 ⟨rfl, hb2⟩; have x2 := bl hb2 HX.out; have d0 := bk_cell (k := 0) x2 rfl; have d1 := bk_cell (k := 1) x2 rfl; have hk2 := HK2.out w2 hb2; have HB2 := Lib.hid hb2; clear x2 hb2)
      go_ret
      exact ⟨by rw [HR.out]; rfl, gr_trans (gr_trans (gr_alloc (gr_refl _ _) _) HG1.out) (gr_below HB2.out), HT1.out.on HB2.out⟩
  · have e1 : ((i : Int) == (n : Int) - 1) = false := by simp; omega
    have HR : Hid (decide (i + 1 = n ∧ t ∉ seen) = false) := Lib.hid (decide_eq_false (fun h => hin h.1))
    clear hin
    go_enter Tryz.func146, Tryz.ntmps146
    go_wp2_with (go_at_call 95; refine (HL.out _).mono ?_; rintro e w2 ⟨rfl, hb2⟩; have x2 := bl hb2 HX.out; have d0 := bk_cell (k := 0) x2 rfl; have d1 := bk_cell (k := 1) x2 rfl; have hk2 := HK2.out w2 hb2; have HB2 := Lib.hid hb2; clear x2 hb2)
    go_ret
    exact ⟨by rw [HR.out]; rfl, gr_trans (gr_trans (gr_alloc (gr_refl _ _) _) HG1.out) (gr_below HB2.out), HT1.out.on HB2.out⟩
end Go.Proofs.YtplonecdaegfbaaGreatDoor.Ck
