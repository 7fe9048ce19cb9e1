/- What Size answers, and what is wrong with a name. What is wrong with a name that must be an array, or a number. -/
import Derived.Test.YtplonecdaegfbaaGreatDoorTLaid
import Derived.Test.YtplonecdaegfbaaGreatDoorKModel
import Derived.Test.YtplonecdaegfbaaGreatDoorKFirst
import Derived.Test.YtplonecdaegfbaaGreatDoorKShelf
set_option linter.unusedSimpArgs false
set_option linter.unusedVariables false
namespace Go.Proofs.YtplonecdaegfbaaGreatDoor.Ck
open Go Go.RowKit Go.Proofs.YtplonecdaegfbaaGreatDoor

/-- Texts that lie in memory. -/
abbrev StrsIn (w : World) (B : Nat) (a : Option Addr) (l : List ByteArray) : Prop := ∀ (i : Nat) (h : i < l.length), StrAt w B a i l[i]
theorem strs_getD {w0 w : World} {B b o : Nat} {l : List ByteArray} (h : StrsIn w0 B (some ⟨b, o, none⟩) l) (hp : Past w0 w) (j : Nat) (hj : j < l.length) : w.cell? ⟨b, o + j, none⟩ = some (.string (l.getD j ByteArray.empty)) := by
  obtain ⟨b', o', e, -, hc⟩ := h j hj
  simp only [Option.some.injEq, Addr.mk.injEq, and_true] at e
  obtain ⟨rfl, rfl⟩ := e
  rw [List.getD_eq_getElem?_getD, List.getElem?_eq_getElem hj]
  exact below_keep hp (B := 0) _ _ (Nat.zero_le _) hc
/-- Is a text among the first so many? -/
theorem contains_any {w0 : World} {B : Nat} {a : Option Addr} {l : List ByteArray} (h : StrsIn w0 B a l) (hl : l.length ≤ 9223372036854775807) (n c : Nat) (hn : n ≤ l.length) (x : ByteArray) (w : World) (hp : Past w0 w) :
    Calls Tryz.prog 33 #[.slice a n c, .string x] w fun e w' => e = .returned (.bool (decide (x ∈ l.take n))) ∧ w' = w := by
  have hb : Lib.containsS (l.take n) x = decide (x ∈ l.take n) := by
    rw [Bool.eq_iff_iff, Lib.containsS_iff, decide_eq_true_eq]
  rcases Nat.eq_zero_or_pos n with rfl | hn0
  · have := Tryz.slices_Contains_string_empty a c x w
    simpa using this
  · obtain ⟨b, o, rfl, -, -⟩ := h 0 (by omega)
    have := Tryz.slices_Contains_string b o n c l x w hn (by omega) (fun j hj => strs_getD h hp j hj)
    rw [hb] at this
    exact this
abbrev szV (F : FT) (nm : ByteArray) : Value := .tuple #[.int .i64 ((sizeF F nm).getD 0), .bool (sizeF F nm).isSome]
theorem sizeV_at {vs : List (ByteArray × Int)} {nm : ByteArray} {n : Nat} (h : ∀ j (hj : j < n) (hl : j < vs.length), vs[j].1 ≠ nm) (hn : n < vs.length) (e : vs[n].1 = nm) : sizeV vs nm = some vs[n].2 := by
  induction vs generalizing n with
  | nil => simp at hn
  | cons d l ih =>
    cases n with
    | zero => rw [sizeV, if_pos (show d.1 = nm from e)]; rfl
    | succ n =>
      rw [sizeV, if_neg (show d.1 ≠ nm from h 0 (by omega) (by simp))]
      exact ih (n := n) (fun j hj hl => h (j + 1) (by omega) (by simpa using hl)) (by simpa using hn) e
theorem sizeV_none {vs : List (ByteArray × Int)} {nm : ByteArray} (h : ∀ j (hl : j < vs.length), vs[j].1 ≠ nm) : sizeV vs nm = none := by
  induction vs with
  | nil => rfl
  | cons d l ih =>
    rw [sizeV, if_neg (show d.1 ≠ nm from h 0 (by simp)), ih (fun j hl => h (j + 1) (by simpa using hl))]
theorem FT.val_is (F : FT) : F.val = .agg #[.string F.name, .slice F.pa F.params.length F.pc, .slice F.va F.vars.length F.vc, .slice F.ba F.body.length F.bc] := rfl
theorem text_eq {a b : ByteArray} : (a.toList == b.toList) = true ↔ a = b := by
  rw [ByteArray.toList_eq, ByteArray.toList_eq, beq_iff_eq]
  constructor
  · intro h
    cases a with | mk x => cases b with | mk y =>
      congr 1
      exact Array.toList_inj.1 h
  · rintro rfl; rfl
theorem text_ne {a b : ByteArray} (h : a ≠ b) : (a.toList == b.toList) = false := by
  cases e : (a.toList == b.toList)
  · rfl
  · exact absurd (text_eq.1 e) h
set_option maxHeartbeats 2000000 in
set_option maxRecDepth 100000 in
theorem size_any {w0 : World} {F : FT} (hin : F.In w0 0) (nm : ByteArray) (w : World) (hp : Past w0 w) :
    Calls Tryz.prog 14 #[.agg #[.string F.name, .slice F.pa F.params.length F.pc, .slice F.va F.vars.length F.vc, .slice F.ba F.body.length F.bc], .string nm] w fun e w' => e = .returned (szV F nm) ∧ Below w.heap.size w w' := by
  have HP := Lib.hid hp
  have HI := Lib.hid hin
  have HC := Lib.hid (fun (W : World) (hW : Past w0 W) => contains_any hin.ps hin.pl F.params.length F.pc (Nat.le_refl _) nm W hW)
  have hvl := hin.vl
  clear hp hin
  by_cases hm : nm ∈ F.params
  · have HS : Hid (sizeF F nm = some 0) := Lib.hid (by unfold sizeF; rw [if_pos hm])
    rw [List.take_length, decide_eq_true hm] at HC
    clear hm
    go_enter Tryz.func14, Tryz.ntmps14
    go_wp2_with (go_at_call 33; have hx := HC.out _ (HP.out.alloc (.cells #[.string F.name, .slice F.pa F.params.length F.pc, .slice F.va F.vars.length F.vc, .slice F.ba F.body.length F.bc] 47)); refine hx.mono ?_; clear hx; rintro e w1 ⟨rfl, rfl⟩)
    go_ret2
    exact ⟨by rw [szV, HS.out]; rfl, (Below.refl _ _).alloc (Nat.le_refl _) _⟩
  · have HS : Hid (sizeF F nm = sizeV F.vars nm) := Lib.hid (by unfold sizeF; rw [if_neg hm])
    rw [List.take_length, decide_eq_false hm] at HC
    clear hm
    go_enter Tryz.func14, Tryz.ntmps14
    go_wp2_with (go_at_call 33; have hx := HC.out _ (HP.out.alloc (.cells #[.string F.name, .slice F.pa F.params.length F.pc, .slice F.va F.vars.length F.vc, .slice F.ba F.body.length F.bc] 47)); refine hx.mono ?_; clear hx; rintro e w1 ⟨rfl, rfl⟩)
    go_loopw [7, 15] (fun _ i wr => ∃ n : Nat, n ≤ F.vars.length ∧ i = .int .i64 n ∧ Below w.heap.size w wr ∧ ∀ j (hj : j < n) (hl : j < F.vars.length), F.vars[j].1 ≠ nm) (fun _ i _ => F.vars.length - (intOf i).toNat)
    case atStart => exact ⟨0, Nat.zero_le _, rfl, (Below.refl _ _).alloc (Nat.le_refl _) _, fun j hj => by omega⟩
    case round =>
      obtain ⟨n, hn, rfl, hb, hno⟩ := hrel
      have HB := Lib.hid hb
      have HN := Lib.hid hno
      clear hb hno HC
      by_cases hlt : n < F.vars.length
      · have hrow := HI.out.vs n hlt
        have hrow' := hrow
        obtain ⟨kb, ko, rr, -⟩ := hrow'
        rw [rr] at hrow ⊢
        obtain ⟨r0, r1, hkb⟩ := row_cells2 hrow (HP.out.on HB.out)
        have HR := Lib.hid rr
        clear hrow rr
        by_cases he : F.vars[n].1 = nm
        · have e1 := text_eq.2 he
          have HE := Lib.hid (sizeV_at HN.out hlt he)
          clear he
          go_wp2
          go_ret2
          exact ⟨by rw [szV, HS.out, HE.out]; rfl, HB.out.alloc HB.out.size _⟩
        · have e1 := text_ne he
          have HE : Hid (∀ j (hj : j < n + 1) (hl : j < F.vars.length), F.vars[j].1 ≠ nm) := Lib.hid (fun j hj hl => by
            by_cases e : j = n
            · subst e; exact he
            · exact HN.out j (by omega) hl)
          clear he
          go_wp2
          go_round
          case rel => exact ⟨n + 1, by omega, by go_num, HB.out.alloc HB.out.size _, HE.out⟩
          case measure => simp [intOf]; omega
      · obtain rfl : n = F.vars.length := by omega
        go_wp2
        go_ret2
        exact ⟨by rw [szV, HS.out, sizeV_none (fun j hl => HN.out j hl hl)]; rfl, HB.out⟩
end Go.Proofs.YtplonecdaegfbaaGreatDoor.Ck

set_option linter.unusedSimpArgs false
set_option linter.unusedVariables false
namespace Go.Proofs.YtplonecdaegfbaaGreatDoor.Ck
open Go Go.RowKit Go.Proofs.YtplonecdaegfbaaGreatDoor

def nm1 (ok : Bool) : Nat := if ok then 0 else 6
def nm2 (s : Int) (arr : Bool) : Nat := if decide (0 < s) = arr then 0 else 7
set_option maxHeartbeats 1000000 in
theorem named1_any (b : Nat) (ok : Bool) (w : World) (hx : Box w b (.bool ok) 4) :
    Calls Tryz.prog 64 #[.pointer (some ⟨b, 0, none⟩)] w fun e w' => e = .returned (.int .i64 (nm1 ok : Nat)) ∧ w' = w := by
  have hc := hx.c0
  have hb := hx.lt
  clear hx
  cases ok
  all_goals
    go_enter Tryz.func64, Tryz.ntmps64
    go_wp2_with (go_at_call 38; refine (when_any _ _ _).mono ?_; rintro e w' ⟨rfl, rfl⟩)
    go_ret
    exact ⟨rfl, rfl⟩
set_option maxHeartbeats 1000000 in
theorem named2_any (b d : Nat) (s : Int) (arr : Bool) (w : World) (hx : Box w b (.int .i64 s) 3) (hy : Box w d (.bool arr) 4) :
    Calls Tryz.prog 65 #[.pointer (some ⟨b, 0, none⟩), .pointer (some ⟨d, 0, none⟩)] w fun e w' => e = .returned (.int .i64 (nm2 s arr : Nat)) ∧ w' = w := by
  have hc := hx.c0
  have hb := hx.lt
  have hd := hy.c0
  have hdl := hy.lt
  clear hx hy
  by_cases h : 0 < s
  all_goals cases arr
  all_goals
    go_enter Tryz.func65, Tryz.ntmps65
    go_wp2_with (go_at_call 38; refine (when_any _ _ _).mono ?_; rintro e w' ⟨rfl, rfl⟩)
    go_ret
    exact ⟨by unfold nm2; first | rw [decide_eq_true (show 0 < s by omega)]; rfl | rw [decide_eq_false (show ¬ 0 < s by omega)]; rfl, rfl⟩
theorem named_code (F : FT) (nm : ByteArray) (arr : Bool) : namedF F nm arr = orE (orE 0 (nm1 (sizeF F nm).isSome)) (nm2 ((sizeF F nm).getD 0) arr) := by
  unfold namedF
  cases sizeF F nm with
  | none => rfl
  | some s => simp [orE, nm1, nm2]
set_option maxHeartbeats 2000000 in
set_option maxRecDepth 100000 in
theorem named_any {w0 : World} {F : FT} (hin : F.In w0 0) (nm : ByteArray) (arr : Bool) (w : World) (hp : Past w0 w) :
    Calls Tryz.prog 42 #[.agg #[.string F.name, .slice F.pa F.params.length F.pc, .slice F.va F.vars.length F.vc, .slice F.ba F.body.length F.bc], .string nm, .bool arr] w fun e w' => e = .returned (.int .i64 (namedF F nm arr : Nat)) ∧ Below w.heap.size w w' := by
  have HP := Lib.hid hp
  have HS := Lib.hid (fun (W : World) (hW : Past w0 W) => size_any hin nm W hW)
  obtain ⟨s, hs⟩ : ∃ s, (sizeF F nm).getD 0 = s := ⟨_, rfl⟩
  obtain ⟨ok, hok⟩ : ∃ ok, (sizeF F nm).isSome = ok := ⟨_, rfl⟩
  have HN : Hid (namedF F nm arr = orE (orE 0 (nm1 ok)) (nm2 s arr)) := Lib.hid (by rw [named_code, hs, hok])
  unfold szV at HS
  rw [hs, hok] at HS
  clear hp hin hs hok
  go_enter Tryz.func42, Tryz.ntmps42
  go_wp2_with (first
    | (go_at_call 35; refine (firstOf_q [(64, #[.pointer (some ⟨w1.heap.size + 1, 0, none⟩)]), (65, #[.pointer (some ⟨w1.heap.size, 0, none⟩), .pointer (some ⟨w.heap.size + 1, 0, none⟩)])] (cd [nm1 ok, nm2 s arr]) _ _ (by show 2 ≤ 100; decide) (by simp) ?_ ?_ ?_).mono ?_; (intro k h; match k, h with | 0, _ => exact enters_of Tryz.func64 (by kernel_rfl) rfl | 1, _ => exact enters_of Tryz.func65 (by kernel_rfl) rfl | k + 2, h => exact absurd h (by simp)); (intro k h; match k, h with | 0, _ => (refine bk_cell (nb _ (by simp)) ?_; rfl) | 1, _ => (refine bk_cell (nb _ (by simp)) ?_; rfl) | k + 2, h => exact absurd h (by simp)); (intro k h W hz hW; match k, h with | 0, _ => exact (named1_any _ ok W (bl hW (by repeat (first | (refine nb _ ?_; simp; done) | exact HA.out | refine ob _ ?_)))).mono fun e w' h => ⟨h.1, h.2 ▸ Below.refl _ _⟩ | 1, _ => exact (named2_any _ _ s arr W (bl hW (by repeat (first | (refine nb _ ?_; simp; done) | exact HA.out | refine ob _ ?_))) (bl hW (by repeat (first | (refine nb _ ?_; simp; done) | exact HA.out | refine ob _ ?_)))).mono fun e w' h => ⟨h.1, h.2 ▸ Below.refl _ _⟩ | k + 2, h => exact absurd h (by simp)); rintro e w2 ⟨rfl, hb2⟩; have HB2 := Lib.hid hb2; clear hb2)
    | (go_at_call 14; refine (HS.out _ ?_).mono ?_; (exact (HP.out.alloc _).alloc _); rintro e w1 ⟨rfl, hb1⟩; have HA : Hid (w1.heap[w.heap.size + 1]? = some (.cells #[.bool arr] 4 (0, 0))) := Lib.hid (bl hb1 (by repeat (first | (refine nb _ ?_; simp; done) | refine ob _ ?_))); have HB1 := Lib.hid hb1; clear hb1))
  go_ret
  refine ⟨by rw [HN.out]; rfl, ?_⟩
  have h1 : Below w.heap.size w w1 := step_on (bal (bal (bre w) _) _) HB1.out
  have h2 := step_on (bal (bal (bal (bre w1) _) _) _) HB2.out
  exact step_on h1 h2
end Go.Proofs.YtplonecdaegfbaaGreatDoor.Ck
