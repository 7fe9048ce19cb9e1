/- What is put of a program is parsed as the same; put once more it is as it was: the walk of ParseBack. (Written by genback.py.) -/
import Derived.Test.YtgkdoealhbhnmaaGreatDoorPCode
import Derived.Test.YtgkdoealhbhnmaaGreatDoorPLaid
import Derived.Test.YtgkdoealhbhnmaaGreatDoorTSameM
set_option linter.unusedSimpArgs false
set_option linter.unusedVariables false
namespace Go.Proofs.YtgkdoealhbhnmaaGreatDoor.Pm
open Go Go.RowKit Go.Proofs.YtgkdoealhbhnmaaGreatDoor
open Go.Lib (hid)

theorem parse_full {w : World} (H : Wo w) (m : Nat) (sb : ByteArray) {l : List UInt8} {q : List RF} {mo : Nat} (hs : sb.data.toList = l) (hl : l.length ≤ 8192) (ev : parseF m l = .ok q mo) : Calls Tryz.prog 13 #[.string sb] w fun e w' => Below w.heap.size w w' ∧ ∃ (a : Option Addr) (c : Nat) (L : List FT), e = .returned (.tuple #[.agg #[.slice a L.length c], .int .i64 (l.length : Nat), .int .i64 0]) ∧ L.map FT.rf = q ∧ L.all FT.rightB = true ∧ FsIn w' w.heap.size a L := by
  subst hs
  refine (pParse_any m sb hl H.er (finA_ok ev)).mono ?_
  intro e w' hq
  have ev' : parseF m sb.data.toList = .ok q mo := ev
  rw [ev'] at hq
  obtain ⟨hb, v, rfl, a, c, l, rfl, h1, h2, h3, h4⟩ := hq
  exact ⟨hb, a, c, l, rfl, h1, h2, h3⟩
def NZ {α : Type} (r : PR α) : Prop := ∀ s, r ≠ .bad 0 s
theorem nz_ok {α : Type} (a : α) (s : PS) : NZ (.ok a s) := fun _ e => by cases e
theorem nz_bad {α : Type} {n : Nat} (s : PS) (h : n ≠ 0) : NZ (.bad (α := α) n s) := fun _ e => by cases e; exact h rfl
theorem nz_bind {α β : Type} {r : PR α} {g : α → PS → PR β} (h : NZ r) (hg : ∀ a s, NZ (g a s)) : NZ (r.bind g) := by
  cases r with
  | ok a s => exact hg a s
  | bad n s => exact fun t e => by cases e; exact h _ rfl
theorem nz_ite {α : Type} {c : Prop} [Decidable c] {a b : PR α} (h1 : NZ a) (h2 : NZ b) : NZ (if c then a else b) := by
  split
  · exact h1
  · exact h2
theorem nz_enter (s : PS) : NZ (enter s) := nz_ite (nz_bad _ (by decide)) (nz_ok _ _)
theorem nz_take (z : Nat) (l : List UInt8) (s : PS) : NZ (take z l s) := nz_ite (nz_bind (nz_ite (nz_bind (nz_enter _) fun _ _ => nz_ok _ _) (nz_ite (nz_ok _ _) (nz_ok _ _))) fun _ _ => nz_ok _ _) (nz_bad _ (by decide))
theorem nz_within {α : Type} {z : Nat} {o c : List UInt8} {m : PS → PR α} (hm : ∀ s, NZ (m s)) (s : PS) : NZ (within z o m c s) := nz_bind (nz_take _ _ _) fun _ _ => nz_bind (hm _) fun _ _ => nz_bind (nz_take _ _ _) fun _ _ => nz_ok _ _
theorem nz_expr (z : Nat) : ∀ m, (∀ s, NZ (operand z m s)) ∧ (∀ k s, NZ (bound z m k s)) ∧ (∀ k x s, NZ (tail z m k x s)) := by
  intro m
  induction m with
  | zero =>
    refine ⟨fun s => ?_, fun k s => ?_, fun k x s => ?_⟩
    · rw [operand]; exact nz_bad _ (by decide)
    · rw [bound]; exact nz_bad _ (by decide)
    · rw [tail]; exact nz_bad _ (by decide)
  | succ m ih =>
    obtain ⟨i1, i2, i3⟩ := ih
    refine ⟨fun s => ?_, fun k s => ?_, fun k x s => ?_⟩
    · rw [operand]
      refine nz_ite (nz_ite (nz_ok _ _) (nz_bad _ (by decide))) (nz_ite ?_ (nz_ite (nz_ok _ _) (nz_ite (nz_within (i2 1) _) (nz_ite ?_ (nz_bad _ (by decide))))))
      · exact nz_bind (nz_ite (nz_ok _ _) (nz_bad _ (by decide))) fun _ _ => nz_ite (nz_bind (nz_within (i2 1) _) fun _ _ => nz_ok _ _) (nz_ok _ _)
      · exact nz_bind (nz_enter _) fun _ _ => nz_bind (i1 _) fun _ _ => nz_ok _ _
    · rw [bound]; exact nz_bind (i1 _) fun _ _ => i3 _ _ _
    · rw [tail]; exact nz_ite (nz_bind (i2 _ _) fun _ _ => i3 _ _ _) (nz_ok _ _)
theorem bad_nz {m p : Nat} {l : List UInt8} (e : exprF m l = .bad p 0) : False := by
  have e' : answerF m expr l = .bad p 0 := e
  unfold answerF at e'
  split at e'
  · cases e'
  · split at e'
    · cases e'
    · rename_i n s hw
      simp only [Ans.bad.injEq] at e'
      have hz : ∀ ws, NZ (whole l.length (expr l.length m) ws) := fun ws => nz_bind ((nz_expr l.length m).2.1 1 _) fun _ _ => nz_ite (nz_ok _ _) (nz_bad _ (by decide))
      rw [e'.2] at hw
      exact hz _ _ hw
theorem nest_prog {w : World} (H : Wo w) (m : Nat) (sb : ByteArray) {l : List UInt8} {q : List RF} {mo : Nat} (hs : sb.data.toList = l) (hl : l.length ≤ 8192) (ev : parseF m l = .ok q mo) : Calls Tryz.prog 15 #[.string sb] w fun e w' => e = .returned (.int .i64 (mo : Nat)) ∧ Below w.heap.size w w' := by
  subst hs
  have ev' : parseF m sb.data.toList = .ok q mo := ev
  have hv : nestF m sb.data.toList = (mo : Nat) := by unfold nestF; rw [ev']
  refine (pNest_any m sb hl H.er (finA_ok ev) (fun h => absurd ev' (h _ _)) (fun q n e => by rw [ev'] at e; cases e) (fun q n e => ?_)).mono ?_
  · intro h0
    subst h0
    exact bad_nz (l := sb.data.toList) e
  · intro e w' hq
    rw [hv] at hq
    exact hq
structure BackF (w6 : World) (N : Nat) (a : Option Addr) (n c : Nat) (S : ByteArray) (d : Nat) : Prop where
  sm : ∀ W, Past w6 W → Calls Tryz.prog 14 #[.agg #[.slice (some ⟨N, 0, none⟩) 3 3], .agg #[.slice a n c]] W fun e w' => e = .returned (.bool true) ∧ Below W.heap.size W w'
  pt : ∀ W, Past w6 W → Calls Tryz.prog 12 #[.agg #[.slice a n c]] W fun e w' => e = .returned (.string S) ∧ Below W.heap.size W w'
  ns : ∀ W, Past w6 W → Calls Tryz.prog 15 #[.string S] W fun e w' => e = .returned (.int .i64 (d : Nat)) ∧ Below W.heap.size W w'
theorem back_facts {w6 : World} (H : Wo w6) {N c : Nat} {F G K : FT} {a : Option Addr} {L : List FT} {S : ByteArray} {m d : Nat} (h1 : FsIn w6 0 (some ⟨N, 0, none⟩) [F, G, K]) (h2 : FsIn w6 0 a L) (g1 : [F, G, K].all FT.rightB = true) (g2 : L.all FT.rightB = true) (hm : L.map FT.rf = [F, G, K].map FT.rf) (hS : S = ⟨(progT [F, G, K]).toArray⟩) (h8 : (progT [F, G, K]).length ≤ 8192) (ev : parseF m (progT [F, G, K]) = .ok ([F, G, K].map FT.rf) d) : BackF w6 N a L.length c S d := by
  have hp : progT L = progT [F, G, K] := by rw [← progT_is, ← progT_is, hm]
  refine ⟨fun W hW => ?_, fun W hW => ?_, fun W hW => ?_⟩
  · have := sameP_any (some ⟨N, 0, none⟩) a 3 c [F, G, K] L h1 h2 W hW
    rw [(sameFs_iff _ _ g1 g2).2 hm.symm] at this
    exact this
  · have := put_any H.pw a c L h2 g2 (by rw [hp]; omega) W hW
    rw [hp, ← hS] at this
    exact this
  · exact nest_prog (H.on hW) m S (by rw [hS]) h8 ev
set_option maxHeartbeats 8000000 in
set_option maxRecDepth 100000 in
theorem back_go (pa : Option Addr) (pn pc : Nat) (own : Bool) (la : Option Addr) (ln lc : Nat) (zl : List Int) (ga : Option Addr) (gn gc : Nat) (zg : List Int) (w : World) (H : Wo w) (r0 : RowIn .u8 w la ln zl) (r1 : RowIn .u8 w ga gn zg) (hg : gn ≤ gc) :
    Calls Tryz.prog 3 #[.agg #[.slice pa pn pc, .bool own, .slice la ln lc, .slice ga gn gc]] w fun e w' => e = .returned (.bool true) ∧ Below w.heap.size w w' := by
  have HO := hid H
  have R0 := hid r0
  have R1 := hid r1
  have GC := hid hg
  clear H r0 r1 hg
  go_enter Tryz.func3, Tryz.ntmps3
  go_upto_region 7 with (first
    | (go_at_call 12; refine (put_any (w0 := w3.alloc (.cells #[.slice (some ⟨N, 0, none⟩) 3 3] 24)) (HO.out.on (show Past w _ from HB3.out.alloc HB3.out.size _)).pw (some ⟨N, 0, none⟩) 3 [F, G, K] ((HIN3.out.on ((Below.refl _ _).alloc (Nat.le_refl _) _)).mono (Nat.zero_le _)) HG3.out.1 (by have := HG3.out.2; omega) _ (Past.refl _)).mono ?_; rintro e w4 ⟨rfl, hb4⟩; have HP4 : Hid (Past w w4) := hid (Past.on (show Past w _ from HB3.out.alloc HB3.out.size _) hb4); have HB4 := hid hb4; clear hb4)
    | (go_at_call 11; refine (code_call _ (R0.out.on ?_) (R1.out.on ?_) GC.out).mono ?_; (repeat (first | with_reducible exact HB1.out | (with_reducible refine Below.setCell ?_ ?_ _) | simp)); rintro e w3 ⟨N, F, G, K, rfl, hin3, g3, ⟨t3, q3, k3⟩, -, -, hb3⟩; clear x0 x1 x2 x3 fx lx; have HB3 : Hid (Below w.heap.size w w3) := hid (Below.trans (show Below w.heap.size w _ from by (repeat (first | with_reducible exact HB1.out | (with_reducible refine Below.setCell ?_ ?_ _) | simp))) (hb3.mono (by have := HB1.out.size; simp [World.setCell]; omega))); have HIN3 := hid hin3; have HG3 := hid (And.intro g3 t3); have HQ3 := hid (codeQ_of hin3 g3 q3 k3); clear hb3 hin3 g3 t3 q3 k3)
    | (go_at_call 10; refine (ex_any (HO.out.on ((Past.refl w).alloc _))).mono ?_; rintro e w1 ⟨rfl, hb1⟩; have hX := (Below.block hb1 w.heap.size (by simp)).trans (bk_new w _); have x0 := bk_cell (k := 0) hX rfl; have x1 := bk_cell (k := 1) hX rfl; have x2 := bk_cell (k := 2) hX rfl; have x3 := bk_cell (k := 3) hX rfl; have fx := fun k => bk_free (k := k) hX; have lx := lt_of_block hX; have HX := hid hX; have HB1 : Hid (Below w.heap.size w w1) := hid (step_on ((Below.refl _ _).alloc (Nat.le_refl _) _) hb1); clear hb1 hX))
  obtain ⟨S, hS⟩ : ∃ S : ByteArray, S = ⟨(progT [F, G, K]).toArray⟩ := ⟨_, rfl⟩
  rw [← hS]
  have hd : S.data.toList = progT [F, G, K] := by rw [hS]
  have hlen : (progT [F, G, K]).length = S.size := by rw [← hd]; rfl
  have h8 : S.size ≤ 8192 := by rw [← hlen]; exact HQ3.out.len
  obtain ⟨m, hm⟩ := code_parse HQ3.out
  have ev : parseF m (progT [F, G, K]) = .ok ([F, G, K].map FT.rf) (dP ([F, G, K].map FT.rf)) := hm m (Nat.le_refl _)
  have EV := hid ev
  have HS := hid (And.intro hS (And.intro hd hlen))
  obtain ⟨d, hdp⟩ : ∃ d, dP ([F, G, K].map FT.rf) = d := ⟨_, rfl⟩
  have d2 : 2 ≤ d := by rw [← hdp]; exact HQ3.out.two
  have g1 : decide ((2 : Int) ≤ d) = true := by simp; omega
  have g1' : decide (2 ≤ d) = true := by simp; omega
  have HD := hid hdp
  clear ev hm hS hd hlen hdp
  go_upto_region 8 with (go_at_call 13; have hx := parse_full (HO.out.on HP4.out) m S HS.out.2.1 HQ3.out.len EV.out; rw [HS.out.2.2] at hx; refine hx.mono ?_; clear hx; rintro e w5 ⟨hb5, a, c, L, rfl, hm, hg, hin⟩; have HB5 := hid hb5; have HL := hid (And.intro hm (And.intro hg hin)); clear hb5 hm hg hin)
  have b4 := HB4.out
  have b5 := HB5.out
  have s4 := b4.size
  simp at s4
  have b6 : Below w5.heap.size w5 (w5.alloc (.cells #[.slice a L.length c] 24)) := (Below.refl _ _).alloc (Nat.le_refl _) _
  have hX : (w5.alloc (.cells #[.slice a L.length c] 24)).heap[w3.heap.size]? = some (.cells #[.slice (some ⟨N, 0, none⟩) 3 3] 24 (0, 0)) := bk_old _ ((b5.block _ (by omega)).trans ((b4.block _ (by simp)).trans (bk_new w3 _)))
  have hY : (w5.alloc (.cells #[.slice a L.length c] 24)).heap[w5.heap.size]? = some (.cells #[.slice a L.length c] 24 (0, 0)) := bk_new w5 _
  have f3 : FsIn (w5.alloc (.cells #[.slice a L.length c] 24)) 0 (some ⟨N, 0, none⟩) [F, G, K] := ((((HIN3.out.on ((Below.refl _ _).alloc (Nat.le_refl _) (.cells #[.slice (some ⟨N, 0, none⟩) 3 3] 24))).on b4).on b5).on b6).mono (Nat.zero_le _)
  have f4 : FsIn (w5.alloc (.cells #[.slice a L.length c] 24)) 0 a L := (HL.out.2.2.on b6).mono (Nat.zero_le _)
  have HP6 : Hid (Past w (w5.alloc (.cells #[.slice a L.length c] 24))) := hid ((HP4.out.on b5).alloc _)
  have ev := EV.out
  rw [HD.out] at ev
  have BF := hid (back_facts (c := c) (HO.out.on HP6.out) f3 f4 HG3.out.1 HL.out.2.1 HL.out.1 HS.out.1 HQ3.out.len ev)
  clear b4 b5 s4 b6 f3 f4 ev HB4 HB5 HP4 HQ3 HG3 HIN3 HB3 HL EV HD
  generalize w5.alloc (.cells #[.slice a L.length c] 24) = w6 at hX hY HP6 BF ⊢
  generalize w3.heap.size = X at hX ⊢
  generalize w5.heap.size = Y at hY ⊢
  have x0 : w6.cell? ⟨X, 0, none⟩ = some (.slice (some ⟨N, 0, none⟩) 3 3) := bk_cell hX rfl
  have y0 : w6.cell? ⟨Y, 0, none⟩ = some (.slice a L.length c) := bk_cell hY rfl
  have lx := lt_of_block hX
  have ly := lt_of_block hY
  have Y0 := hid y0
  clear hX hY
  go_wp2_with (first
    | (go_at_call 15; refine (BF.out.ns _ HP8.out).mono ?_; rintro e w9 ⟨rfl, hb⟩; have HP9 : Hid (Past w6 w9) := hid (Past.on HP8.out hb); clear hb)
    | (go_at_call 12; refine (BF.out.pt _ HP7.out).mono ?_; rintro e w8 ⟨rfl, hb⟩; have HP8 : Hid (Past w6 w8) := hid (Past.on HP7.out hb); clear hb)
    | (go_at_call 14; refine (BF.out.sm _ (Past.refl _)).mono ?_; rintro e w7 ⟨rfl, hb⟩; have HP7 : Hid (Past w6 w7) := hid hb; clear y0 ly; have y0 := cell0 hb Y0.out; have ly := World.block_lt_of_cell? w7 _ y0; clear hb))
  go_ret
  exact ⟨rfl, step_on HP6.out HP9.out⟩
end Go.Proofs.YtgkdoealhbhnmaaGreatDoor.Pm
namespace Go.Proofs.YtgkdoealhbhnmaaGreatDoor
open Go Go.RowKit Go.Proofs.YtgkdoealhbhnmaaGreatDoor.Pm
open Go.Lib (hid)
theorem parseBack_walk (v0 : Value) (w : World) (H : Wo w) (c0 : CodeIn w v0) :
    Calls Tryz.prog 3 #[v0] w fun e w' => e = .returned (.bool true) ∧ Below w.heap.size w w' := by
  obtain ⟨pa, pn, pc, own, la, ln, lc, zl, ga, gn, gc, zg, rfl, r0, r1, hg⟩ := c0
  exact back_go pa pn pc own la ln lc zl ga gn gc zg w H r0 r1 hg
end Go.Proofs.YtgkdoealhbhnmaaGreatDoor
