/- What Check asks of right programs, as plain functions of plain data: no program stands in this text. -/
import Derived.Test.YtplonecdaegfbaaGreatDoorKModel
set_option linter.unusedSimpArgs false
set_option linter.unusedVariables false
namespace Go.Proofs.YtplonecdaegfbaaGreatDoor.Ck
open Go Go.RowKit Go.Proofs.YtplonecdaegfbaaGreatDoor

abbrev Nm := List UInt8
def sizeVR (vs : List (Nm × Nat)) (nm : Nm) : Option Nat := match vs with
  | [] => none
  | d :: l => if d.1 = nm then some d.2 else sizeVR l nm
def sizeR (F : RF) (nm : Nm) : Option Nat := if nm ∈ F.params then some 0 else sizeVR F.vars nm
def namedR (F : RF) (nm : Nm) (arr : Bool) : Nat := match sizeR F nm with
  | none => 6
  | some s => if decide (0 < s) = arr then 0 else 7
def placeR (F : RF) : RE → Nat
  | .num _ => 0
  | .var s => namedR F s false
  | .idx s e => orE (namedR F s true) (placeR F e)
  | .un _ e => placeR F e
  | .bin _ a b => orE (placeR F a) (placeR F b)
def placesR (F : RF) (l : List RE) : Nat := match l with
  | [] => 0
  | e :: l => orE (placeR F e) (placesR F l)
def findR (l : List RF) (nm : Nm) : Nat := match l with
  | [] => 0
  | F :: l => if F.name = nm then 0 else findR l nm + 1
def calleeR (l : List RF) (f : Nm) (n : Nat) : Nat :=
  if l.length ≤ findR l f then 6
  else if findR l f + 1 = l.length ∨ ((l.map fun F => F.params.length).getD (findR l f) 0) ≠ n then 10 else 0
def tagR (l : List RF) (i t : Nat) (seen : List Nat) : Nat := if 0 < t then (if i + 1 = l.length ∧ t ∉ seen then 0 else 9) else 0
def seenR (t : Nat) (seen : List Nat) : List Nat := if 0 < t then t :: seen else seen
def askR (l : List RF) (i : Nat) (F : RF) (looped : Bool) (seen : List Nat) : RS → Nat
  | .asg t x e => orE (tagR l i t seen) (orE (namedR F x false) (placeR F e))
  | .sto t x a e => orE (tagR l i t seen) (orE (namedR F x true) (orE (placeR F a) (placeR F e)))
  | .rd t x => orE (tagR l i t seen) (namedR F x false)
  | .call t x f es => orE (tagR l i t seen) (orE (namedR F x false) (orE (calleeR l f es.length) (placesR F es)))
  | .ife t c _ _ => orE (tagR l i t seen) (placeR F c)
  | .whl t c _ => orE (tagR l i t seen) (placeR F c)
  | .brk t => orE (tagR l i t seen) (if looped then 0 else 8)
  | .cnt t => orE (tagR l i t seen) (if looped then 0 else 8)
  | .ret t e => orE (tagR l i t seen) (placeR F e)
  | .ass t e => orE (tagR l i t seen) (placeR F e)
def andR (r : Nat × List Nat) (f : List Nat → Nat × List Nat) : Nat × List Nat := if r.1 = 0 then f r.2 else r
mutual
def stmtR (l : List RF) (i : Nat) (F : RF) (looped : Bool) (seen : List Nat) : RS → Nat × List Nat
  | .asg t x e => (askR l i F looped seen (.asg t x e), seenR t seen)
  | .sto t x a e => (askR l i F looped seen (.sto t x a e), seenR t seen)
  | .rd t x => (askR l i F looped seen (.rd t x), seenR t seen)
  | .call t x f es => (askR l i F looped seen (.call t x f es), seenR t seen)
  | .ife t c b e => andR (andR (orE (tagR l i t seen) (placeR F c), seenR t seen) (fun s => stmtsR l i F looped s b)) (fun s => stmtsR l i F looped s e)
  | .whl t c b => andR (orE (tagR l i t seen) (placeR F c), seenR t seen) (fun s => stmtsR l i F true s b)
  | .brk t => (askR l i F looped seen (.brk t), seenR t seen)
  | .cnt t => (askR l i F looped seen (.cnt t), seenR t seen)
  | .ret t e => (askR l i F looped seen (.ret t e), seenR t seen)
  | .ass t e => (askR l i F looped seen (.ass t e), seenR t seen)
def stmtsR (l : List RF) (i : Nat) (F : RF) (looped : Bool) (seen : List Nat) : List RS → Nat × List Nat
  | [] => (0, seen)
  | s :: r => andR (stmtR l i F looped seen s) (fun x => stmtsR l i F looped x r)
end
def largeR (F : RF) : Bool := decide (24 < F.params.length + F.vars.length) || F.vars.any fun d => decide (64 < d.2)
def fnR (l : List RF) (i : Nat) (F : RF) (seen : List Nat) : Nat × List Nat :=
  if largeR F then (5, seen) else if decide (F.params ++ F.vars.map (·.1)).Nodup = false then (6, seen) else stmtsR l i F false seen F.body
mutual
def cntS : RS → Nat
  | .ife _ _ b e => 1 + (cntSs b + cntSs e)
  | .whl _ _ b => 1 + cntSs b
  | _ => 1
def cntSs : List RS → Nat
  | [] => 0
  | s :: r => cntS s + cntSs r
end
def stsR (l : List RF) : Nat := match l with
  | [] => 0
  | F :: l => cntSs F.body + stsR l
def mainR (l : List RF) : Bool := match l with
  | [] => false
  | [F] => decide (F.name = [109, 97, 105, 110]) && F.params.isEmpty
  | _ :: l => mainR l
def wholeR (l : List RF) : Nat :=
  if l.length = 0 ∨ 16 < l.length ∨ 400 < stsR l then 5
  else if decide (l.map (·.name)).Nodup = false then 6
  else if mainR l then 0 else 10
def fnsR (l : List RF) : Nat → List RF → List Nat → (Nat × List Nat) × Int
  | _, [], seen => ((0, seen), -1)
  | n, F :: r, seen => if (fnR l n F seen).1 = 0 then fnsR l (n + 1) r (fnR l n F seen).2 else (fnR l n F seen, (n : Int))
def progR (l : List RF) : (Nat × List Nat) × Int := if wholeR l = 0 then fnsR l 0 l [] else ((wholeR l, []), -1)

/- The plain functions tell of right trees what the others tell. -/
theorem toL_inj {a b : ByteArray} : a.data.toList = b.data.toList ↔ a = b := by
  constructor
  · intro h
    cases a with | mk x => cases b with | mk y =>
      congr 1
      exact Array.toList_inj.1 h
  · rintro rfl; rfl
theorem mem_toL {a : ByteArray} {l : List ByteArray} : a.data.toList ∈ l.map (fun s => s.data.toList) ↔ a ∈ l := by
  constructor
  · intro h
    obtain ⟨b, hb, e⟩ := List.mem_map.1 h
    rw [← toL_inj.1 e]; exact hb
  · intro h; exact List.mem_map.2 ⟨a, h, rfl⟩
theorem sizeV_rf {vs : List (ByteArray × Int)} (h : vs.all declB = true) (nm : ByteArray) : sizeV vs nm = (sizeVR (vs.map fun d => (d.1.data.toList, d.2.toNat)) nm.data.toList).map Int.ofNat := by
  induction vs with
  | nil => rfl
  | cons d l ih =>
    rw [List.all_cons, Bool.and_eq_true] at h
    rw [sizeV, List.map_cons, sizeVR]
    by_cases e : d.1 = nm
    · rw [if_pos e, if_pos (toL_inj.2 e)]
      have h0 := h.1
      unfold declB at h0
      rw [Bool.and_eq_true, decide_eq_true_eq] at h0
      rw [Option.map_some]
      congr 1
      show d.2 = ((d.2.toNat : Nat) : Int)
      omega
    · rw [if_neg e, if_neg (fun h => e (toL_inj.1 h)), ih h.2]
theorem right_parts {F : FT} (h : F.rightB = true) : F.vars.all declB = true ∧ rightSs F.body = true := by
  unfold FT.rightB at h
  simp only [Bool.and_eq_true] at h
  exact ⟨h.2.2.1, h.2.2.2⟩
theorem size_rf {F : FT} (h : F.rightB = true) (nm : ByteArray) : sizeF F nm = (sizeR F.rf nm.data.toList).map Int.ofNat := by
  unfold sizeF sizeR FT.rf
  by_cases hm : nm ∈ F.params
  · rw [if_pos hm, if_pos (mem_toL.2 hm)]; rfl
  · rw [if_neg hm, if_neg (fun h => hm (mem_toL.1 h))]
    exact sizeV_rf (right_parts h).1 nm
theorem named_rf {F : FT} (h : F.rightB = true) (nm : ByteArray) (b : Bool) : namedF F nm b = namedR F.rf nm.data.toList b := by
  have e : sizeF F nm = (sizeR F.rf nm.data.toList).map Int.ofNat := by
    unfold sizeF sizeR FT.rf
    by_cases hm : nm ∈ F.params
    · rw [if_pos hm, if_pos (mem_toL.2 hm)]; rfl
    · rw [if_neg hm, if_neg (fun h => hm (mem_toL.1 h))]
      exact sizeV_rf (right_parts h).1 nm
  unfold namedF namedR
  rw [e]
  cases sizeR F.rf nm.data.toList with
  | none => rfl
  | some n =>
    show (if decide (0 < (n : Int)) = b then 0 else 7) = _
    have : decide (0 < (n : Int)) = decide (0 < n) := by simp
    rw [this]
theorem place_rf {F : FT} (hF : F.rightB = true) : ∀ (n : Nat) (T : ET), T.sz ≤ n → T.rightB = true → placeE F T = placeR F.rf T.re := by
  intro n
  induction n with
  | zero => intro T h; cases T; simp [ET.sz] at h
  | succ n ih =>
    intro T hn h
    rcases right_cases h with ⟨n', a', c', rfl⟩ | ⟨m', a', c', hm, rfl⟩ | ⟨m', a', c', x, hm, hx, rfl⟩ | ⟨o', a', c', x, ho, hx, rfl⟩ | ⟨o', a', c', x, y, ho, hx, hy, rfl⟩
    · rw [placeE, placeEs]; rfl
    · rw [placeE, placeEs, orE_zero_right]
      exact named_rf hF _ _
    · simp only [ET.sz, szs] at hn
      rw [placeE, placeEs, placeEs, orE_zero_right, ih x (by omega) hx]
      show orE (namedF F m' true) _ = orE (namedR F.rf _ true) _
      rw [named_rf hF]
    · simp only [ET.sz, szs] at hn
      rw [placeE, placeEs, placeEs, orE_zero_right, ih x (by omega) hx]; rfl
    · simp only [ET.sz, szs] at hn
      rw [placeE, placeEs, placeEs, placeEs, orE_zero_right, ih x (by omega) hx, ih y (by omega) hy]; rfl
theorem places_rf {F : FT} (hF : F.rightB = true) : ∀ (l : List ET), rightEs l = true → placeEs F l = placesR F.rf (res l)
  | [], _ => rfl
  | T :: l, h => by
    rw [rightEs, Bool.and_eq_true] at h
    rw [placeEs, place_rf hF T.sz T (Nat.le_refl _) h.1, places_rf hF l h.2]; rfl
theorem find_rf (l : List FT) (nm : ByteArray) : findN l nm = findR (l.map FT.rf) nm.data.toList := by
  induction l with
  | nil => rfl
  | cons F l ih =>
    rw [findN, List.map_cons, findR, ih]
    have : (F.name = nm) = (F.rf.name = nm.data.toList) := propext ⟨fun h => toL_inj.2 h, fun h => toL_inj.1 h⟩
    simp only [this]
theorem callee_rf (l : List FT) {S : ST} (hk : S.kind = 3) : calleeF l S = calleeR (l.map FT.rf) S.func.data.toList S.en := by
  unfold calleeF calleeR
  rw [if_neg (by omega), find_rf, List.length_map, List.map_map]
  have : ((fun F : RF => F.params.length) ∘ FT.rf) = fun F => F.params.length := by funext F; simp [FT.rf]
  rw [this]
theorem callee_no (l : List FT) {S : ST} (hk : S.kind ≠ 3) : calleeF l S = 0 := by unfold calleeF; rw [if_pos hk]
/-- The tags that were seen, as they are and as numbers from 0 on. -/
def natS (seen : List Int) : List Nat := seen.map Int.toNat
theorem mem_natS {t : Int} {seen : List Int} (ht : 0 ≤ t) (hs : ∀ x ∈ seen, 0 ≤ x) : t.toNat ∈ natS seen ↔ t ∈ seen := by
  unfold natS
  constructor
  · intro h
    obtain ⟨x, hx, e⟩ := List.mem_map.1 h
    have := hs x hx
    obtain rfl : x = t := by omega
    exact hx
  · intro h; exact List.mem_map.2 ⟨t, h, rfl⟩
theorem tag_rf (l : List FT) (i : Nat) {S : ST} {seen : List Int} (ht : 0 ≤ S.tag) (hs : ∀ x ∈ seen, 0 ≤ x) : tagF l i S seen = tagR (l.map FT.rf) i S.tag.toNat (natS seen) := by
  unfold tagF tagR
  rw [List.length_map]
  have e1 : (0 < S.tag) = (0 < S.tag.toNat) := propext (by omega)
  have e2 : (S.tag ∉ seen) = (S.tag.toNat ∉ natS seen) := propext (not_congr (mem_natS ht hs).symm)
  simp only [e1, e2]
theorem seen_rf {S : ST} {seen : List Int} (ht : 0 ≤ S.tag) : natS (seenF S seen) = seenR S.tag.toNat (natS seen) := by
  unfold seenF seenR
  by_cases h : 0 < S.tag
  · rw [if_pos h, if_pos (by omega)]; rfl
  · rw [if_neg h, if_neg (by omega)]
theorem seen_pos {S : ST} {seen : List Int} (ht : 0 ≤ S.tag) (hs : ∀ x ∈ seen, 0 ≤ x) : ∀ x ∈ seenF S seen, 0 ≤ x := by
  unfold seenF
  split
  · intro x hx
    rcases List.mem_cons.1 hx with rfl | h
    · exact ht
    · exact hs x h
  · exact hs
/-- One answer is the other's. -/
def Like (r : Nat × List Int) (q : Nat × List Nat) : Prop := r.1 = q.1 ∧ natS r.2 = q.2 ∧ ∀ x ∈ r.2, 0 ≤ x
theorem like_then {r : Nat × List Int} {q : Nat × List Nat} {f : List Int → Nat × List Int} {g : List Nat → Nat × List Nat} (h : Like r q) (k : ∀ s, (∀ x ∈ s, 0 ≤ x) → Like (f s) (g (natS s))) : Like (andThen r f) (andR q g) := by
  unfold andThen andR
  rw [← h.1]
  split
  · rw [← h.2.1]; exact k _ h.2.2
  · exact h
theorem then_nil (r : Nat × List Int) (l : List FT) (i : Nat) (F : FT) (b : Bool) : andThen r (chkSs l i F b []) = r := by
  unfold andThen
  split
  · rename_i h
    rw [chkSs]
    obtain ⟨a, b⟩ := r
    simp only at h
    rw [h]
  · rfl
theorem nm_nil {n : ByteArray} (h : nmB n = true) : n.data.toList ≠ [] := by
  intro e
  rw [show n = { data := #[] } from toL_inj.1 e] at h
  revert h
  decide
theorem flat_rf {l : List FT} {i : Nat} {F : FT} {S : ST} {looped : Bool} {seen : List Int} {q : Nat} (ht : 0 ≤ S.tag) (hs : ∀ x ∈ seen, 0 ≤ x) (hb : S.body = []) (he : S.els = [])
    (h : orE (jumpF S looped) (orE (targetF F S) (orE (calleeF l S) (placeEs F (ST.es S)))) = q) :
    Like (chkS l i F looped S seen) (orE (tagR (l.map FT.rf) i S.tag.toNat (natS seen)) q, seenR S.tag.toNat (natS seen)) := by
  rw [chkS_eq, hb, he, then_nil, then_nil]
  refine ⟨?_, seen_rf ht, seen_pos ht hs⟩
  show askF l i F S looped seen = _
  unfold askF
  rw [h, tag_rf l i ht hs]
theorem target_none {F : FT} {S : ST} (h : S.name = { data := #[] }) : targetF F S = 0 := by
  unfold targetF; rw [h]; rfl
theorem target_nm {F : FT} (hF : F.rightB = true) {S : ST} (h : nmB S.name = true) : targetF F S = namedR F.rf S.name.data.toList (decide (S.kind = 1)) := by
  unfold targetF; rw [if_neg (nm_nil h), named_rf hF]
theorem jump_none {S : ST} {looped : Bool} (h : ¬ (S.kind = 6 ∨ S.kind = 7)) : jumpF S looped = 0 := by
  unfold jumpF; rw [if_neg (fun k => h k.1)]
theorem jump_is {S : ST} {looped : Bool} (h : S.kind = 6 ∨ S.kind = 7) : jumpF S looped = if looped then 0 else 8 := by
  unfold jumpF
  cases looped
  · rw [if_pos ⟨h, rfl⟩]; rfl
  · rw [if_neg (fun k => by cases k.2)]; rfl
theorem stmts_rf {l : List FT} {i : Nat} {F : FT} (hF : F.rightB = true) : ∀ (n : Nat) (L : List ST), Szs L < n → rightSs L = true → ∀ (looped : Bool) (seen : List Int), (∀ x ∈ seen, 0 ≤ x) →
    Like (chkSs l i F looped L seen) (stmtsR (l.map FT.rf) i F.rf looped (natS seen) (rss L)) := by
  intro n
  induction n with
  | zero => intro L h; omega
  | succ n ih =>
    intro L
    induction L with
    | nil =>
      intro _ _ looped seen hs
      rw [chkSs, rss, stmtsR]
      exact ⟨rfl, rfl, hs⟩
    | cons S L ihL =>
      intro hn hr looped seen hs
      rw [rightSs, Bool.and_eq_true] at hr
      rw [Szs] at hn
      have hsz := body_sz S
      rw [chkSs, rss, stmtsR]
      refine like_then ?_ (fun s hs => ihL (by omega) hr.2 looped s hs)
      · obtain ⟨t, ht0, ht1, hc⟩ := rightS_cases hr.1
        rcases hc with ⟨m, ea, ec, e, ba, bc, la, lc, hm, he, rfl⟩ | ⟨m, ea, ec, e, e2, ba, bc, la, lc, hm, he, he2, rfl⟩ | ⟨m, ea, ec, ba, bc, la, lc, hm, rfl⟩ | ⟨m, f, ea, ec, e, ba, bc, la, lc, hm, hf, he, rfl⟩ | ⟨ea, ec, e, ba, bc, b, la, lc, el, he, hb, hl, rfl⟩ | ⟨ea, ec, e, ba, bc, b, la, lc, he, hb, rfl⟩ | ⟨ea, ec, ba, bc, la, lc, rfl⟩ | ⟨ea, ec, ba, bc, la, lc, rfl⟩ | ⟨ea, ec, e, ba, bc, la, lc, he, rfl⟩ | ⟨ea, ec, e, ba, bc, la, lc, he, rfl⟩
        · refine flat_rf ht0 hs rfl rfl ?_
          rw [jump_none (by simp [ST.kind]), target_nm hF (by exact hm), callee_no _ (by simp [ST.kind])]
          show orE 0 (orE _ (orE 0 (placeEs F [e]))) = _
          rw [places_rf hF [e] (by simp [rightEs, he])]
          show orE _ (orE (placeR F.rf e.re) 0) = _
          rw [orE_zero_right]; rfl
        · refine flat_rf ht0 hs rfl rfl ?_
          rw [jump_none (by simp [ST.kind]), target_nm hF (by exact hm), callee_no _ (by simp [ST.kind])]
          show orE 0 (orE _ (orE 0 (placeEs F [e, e2]))) = _
          rw [places_rf hF [e, e2] (by simp [rightEs, he, he2])]
          show orE _ (orE (placeR F.rf e.re) (orE (placeR F.rf e2.re) 0)) = _
          rw [orE_zero_right]; rfl
        · refine flat_rf ht0 hs rfl rfl ?_
          rw [jump_none (by simp [ST.kind]), target_nm hF (by exact hm), callee_no _ (by simp [ST.kind])]
          show orE 0 (orE _ (orE 0 (placeEs F []))) = _
          exact orE_zero_right _
        · refine flat_rf ht0 hs rfl rfl ?_
          rw [jump_none (by simp [ST.kind]), target_nm hF (by exact hm), callee_rf _ rfl]
          show orE 0 (orE _ (orE _ (placeEs F e))) = _
          rw [places_rf hF e he]
          show orE _ (orE (calleeR _ _ e.length) _) = orE _ (orE (calleeR _ _ (res e).length) _)
          unfold res
          rw [List.length_map]; rfl
        · rw [chkS_eq]
          have hw : within looped (ST.mk 4 t { data := #[] } { data := #[] } ea ec [e] ba bc b la lc el) = looped := by simp [within, ST.kind]
          rw [hw]
          refine like_then (like_then ?_ (fun s hs => ih b (by have := hsz.1; simp only [ST.body] at this; omega) hb looped s hs)) (fun s hs => ih el (by have := hsz.2; simp only [ST.els] at this; omega) hl looped s hs)
          refine ⟨?_, seen_rf (by exact ht0), seen_pos (by exact ht0) hs⟩
          show askF l i F _ looped seen = _
          unfold askF
          rw [tag_rf l i (by exact ht0) hs, jump_none (by simp [ST.kind]), target_none rfl, callee_no _ (by simp [ST.kind])]
          show orE _ (placeEs F [e]) = _
          rw [places_rf hF [e] (by simp [rightEs, he])]
          exact congrArg (orE _) (orE_zero_right _)
        · rw [chkS_eq]
          have hw : within looped (ST.mk 5 t { data := #[] } { data := #[] } ea ec [e] ba bc b la lc []) = true := by simp [within, ST.kind]
          rw [hw]
          show Like (andThen _ (chkSs l i F true [])) _
          rw [then_nil]
          refine like_then ?_ (fun s hs => ih b (by have := hsz.1; simp only [ST.body] at this; omega) hb true s hs)
          refine ⟨?_, seen_rf (by exact ht0), seen_pos (by exact ht0) hs⟩
          show askF l i F _ looped seen = _
          unfold askF
          rw [tag_rf l i (by exact ht0) hs, jump_none (by simp [ST.kind]), target_none rfl, callee_no _ (by simp [ST.kind])]
          show orE _ (placeEs F [e]) = _
          rw [places_rf hF [e] (by simp [rightEs, he])]
          exact congrArg (orE _) (orE_zero_right _)
        · refine flat_rf ht0 hs rfl rfl ?_
          rw [jump_is (by simp [ST.kind]), target_none rfl, callee_no _ (by simp [ST.kind])]
          exact orE_zero_right _
        · refine flat_rf ht0 hs rfl rfl ?_
          rw [jump_is (by simp [ST.kind]), target_none rfl, callee_no _ (by simp [ST.kind])]
          exact orE_zero_right _
        · refine flat_rf ht0 hs rfl rfl ?_
          rw [jump_none (by simp [ST.kind]), target_none rfl, callee_no _ (by simp [ST.kind])]
          show placeEs F [e] = _
          rw [places_rf hF [e] (by simp [rightEs, he])]
          exact orE_zero_right _
        · refine flat_rf ht0 hs rfl rfl ?_
          rw [jump_none (by simp [ST.kind]), target_none rfl, callee_no _ (by simp [ST.kind])]
          show placeEs F [e] = _
          rw [places_rf hF [e] (by simp [rightEs, he])]
          exact orE_zero_right _
/- Functions and programs. -/
theorem names_rf (l : List ByteArray) : (l.map fun s => s.data.toList).Nodup ↔ l.Nodup := by
  induction l with
  | nil => simp
  | cons a l ih =>
    rw [List.map_cons, List.nodup_cons, List.nodup_cons, ih, mem_toL]
theorem rep_rf (l : List ByteArray) : repB l = true ↔ decide (l.map fun s => s.data.toList).Nodup = false := by
  unfold repB
  by_cases h : l.Nodup
  · have := (names_rf l).2 h; simp [h, this]
  · have e : decide (l.map fun s => s.data.toList).Nodup = false := decide_eq_false (fun k => h ((names_rf l).1 k))
    rw [e, decide_eq_false h]; simp
theorem large_rf {F : FT} (h : F.rightB = true) : largeB F = largeR F.rf := by
  unfold largeB largeR FT.rf
  rw [List.length_map, List.length_map, List.any_map]
  congr 1
  have hv := (right_parts h).1
  generalize F.vars = l at hv
  induction l with
  | nil => rfl
  | cons d l ih =>
    rw [List.all_cons, Bool.and_eq_true] at hv
    rw [List.any_cons, List.any_cons, ih hv.2]
    congr 1
    have h0 := hv.1
    unfold declB at h0
    rw [Bool.and_eq_true, decide_eq_true_eq] at h0
    simp only [Function.comp]
    have : (64 < d.2) = (64 < d.2.toNat) := propext (by omega)
    simp only [this]
theorem fn_rf {l : List FT} {i : Nat} {F : FT} (hF : F.rightB = true) {seen : List Int} (hs : ∀ x ∈ seen, 0 ≤ x) : Like (fnF l i F seen) (fnR (l.map FT.rf) i F.rf (natS seen)) := by
  unfold fnF fnR
  rw [large_rf hF]
  split
  · exact ⟨rfl, rfl, hs⟩
  · have e : F.rf.params ++ F.rf.vars.map (·.1) = (declared F).map fun s => s.data.toList := by
      unfold declared FT.rf
      rw [List.map_append, List.map_map, List.map_map]; rfl
    rw [e]
    by_cases h : repB (declared F) = true
    · rw [if_pos h, if_pos ((rep_rf _).1 h)]; exact ⟨rfl, rfl, hs⟩
    · rw [if_neg h, if_neg (fun k => h ((rep_rf _).2 k))]
      exact stmts_rf hF _ _ (Nat.lt_succ_self _) (right_parts hF).2 false seen hs
theorem cnt_rf : ∀ (n : Nat) (L : List ST), Szs L < n → rightSs L = true → cnts L = cntSs (rss L) := by
  intro n
  induction n with
  | zero => intro L h; omega
  | succ n ih =>
    intro L
    induction L with
    | nil => intros; rw [cnts, rss, cntSs]
    | cons S L ihL =>
      intro hn hr
      rw [rightSs, Bool.and_eq_true] at hr
      rw [Szs] at hn
      have hsz := body_sz S
      rw [cnts, rss, cntSs, ihL (by omega) hr.2]
      congr 1
      obtain ⟨t, ht0, ht1, hc⟩ := rightS_cases hr.1
      rcases hc with ⟨m, ea, ec, e, ba, bc, la, lc, hm, he, rfl⟩ | ⟨m, ea, ec, e, e2, ba, bc, la, lc, hm, he, he2, rfl⟩ | ⟨m, ea, ec, ba, bc, la, lc, hm, rfl⟩ | ⟨m, f, ea, ec, e, ba, bc, la, lc, hm, hf, he, rfl⟩ | ⟨ea, ec, e, ba, bc, b, la, lc, el, he, hb, hl, rfl⟩ | ⟨ea, ec, e, ba, bc, b, la, lc, he, hb, rfl⟩ | ⟨ea, ec, ba, bc, la, lc, rfl⟩ | ⟨ea, ec, ba, bc, la, lc, rfl⟩ | ⟨ea, ec, e, ba, bc, la, lc, he, rfl⟩ | ⟨ea, ec, e, ba, bc, la, lc, he, rfl⟩
      · rw [ST.cnt]; rfl
      · rw [ST.cnt]; rfl
      · rw [ST.cnt]; rfl
      · rw [ST.cnt]; rfl
      · rw [ST.cnt, ih b (by have := hsz.1; simp only [ST.body] at this; omega) hb, ih el (by have := hsz.2; simp only [ST.els] at this; omega) hl]; rfl
      · rw [ST.cnt, ih b (by have := hsz.1; simp only [ST.body] at this; omega) hb]; rfl
      all_goals (rw [ST.cnt]; rfl)
theorem sts_rf {l : List FT} (h : l.all FT.rightB = true) : stsV l = stsR (l.map FT.rf) := by
  induction l with
  | nil => rfl
  | cons F l ih =>
    rw [List.all_cons, Bool.and_eq_true] at h
    rw [stsV, List.map_cons, stsR, ih h.2, cnt_rf _ _ (Nat.lt_succ_self _) (right_parts h.1).2]; rfl
theorem main_rf (l : List FT) : mainB l = mainR (l.map FT.rf) := by
  induction l with
  | nil => rfl
  | cons F l ih =>
    cases l with
    | nil =>
      show (decide (F.name = { data := #[109, 97, 105, 110] }) && F.params.isEmpty) = (decide (F.name.data.toList = [109, 97, 105, 110]) && (F.params.map fun s => s.data.toList).isEmpty)
      have : (F.name = { data := #[109, 97, 105, 110] }) = (F.name.data.toList = [109, 97, 105, 110]) := propext ⟨fun h => by rw [h], fun h => toL_inj.1 h⟩
      simp only [this]
      cases F.params <;> rfl
    | cons G l => exact ih
theorem whole_rf {l : List FT} (h : l.all FT.rightB = true) : wholeF l = wholeR (l.map FT.rf) := by
  unfold wholeF wholeR
  rw [if_neg (by rw [h]; simp), sts_rf h, List.length_map, main_rf]
  have e : (l.map FT.rf).map (·.name) = (l.map (·.name)).map fun s => s.data.toList := by rw [List.map_map, List.map_map]; rfl
  rw [e]
  split
  · rfl
  · by_cases k : repB (l.map (·.name)) = true
    · rw [if_pos k, if_pos ((rep_rf _).1 k)]
    · rw [if_neg k, if_neg (fun k' => k ((rep_rf _).2 k'))]
theorem fns_rf (l : List FT) : ∀ (r : List FT) (n : Nat) (seen : List Int), r.all FT.rightB = true → (∀ x ∈ seen, 0 ≤ x) → Like (fnsF l n r seen).1 (fnsR (l.map FT.rf) n (r.map FT.rf) (natS seen)).1 ∧ (fnsF l n r seen).2 = (fnsR (l.map FT.rf) n (r.map FT.rf) (natS seen)).2
  | [], n, seen, _, hs => ⟨⟨rfl, rfl, hs⟩, rfl⟩
  | F :: r, n, seen, h, hs => by
    rw [List.all_cons, Bool.and_eq_true] at h
    have hf := fn_rf (l := l) (i := n) h.1 hs
    rw [fnsF, List.map_cons, fnsR, ← hf.1]
    split
    · rw [← hf.2.1]
      exact fns_rf l r (n + 1) _ h.2 hf.2.2
    · exact ⟨hf, rfl⟩
theorem prog_rf {l : List FT} (h : l.all FT.rightB = true) : Like (progF l).1 (progR (l.map FT.rf)).1 ∧ (progF l).2 = (progR (l.map FT.rf)).2 := by
  unfold progF progR
  rw [← whole_rf h]
  split
  · exact fns_rf l l 0 [] h (fun x hx => by cases hx)
  · exact ⟨⟨rfl, rfl, fun x hx => by cases hx⟩, rfl⟩
theorem chk_rf {l : List FT} (h : l.all FT.rightB = true) : chkF l = ((progR (l.map FT.rf)).1.1, (progR (l.map FT.rf)).2) := by
  have := prog_rf h
  unfold chkF
  rw [this.2, this.1.1]
end Go.Proofs.YtplonecdaegfbaaGreatDoor.Ck
