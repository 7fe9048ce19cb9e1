/- What a program of the feed is parsed as: itself; what is left of it where it is cut. No walk stands in this text. -/
import Derived.Test.YtgkdoealhbhnmaaGreatDoorPText
import Derived.Test.YtgkdoealhbhnmaaGreatDoorTCodeP
set_option linter.unusedSimpArgs false
set_option linter.unusedVariables false
namespace Go.Proofs.YtgkdoealhbhnmaaGreatDoor.Pm
open Go Go.RowKit Go.Proofs.YtgkdoealhbhnmaaGreatDoor

theorem dA_le (l : List RE) : dA l ≤ depA l := by
  induction l with
  | nil => exact Nat.le_refl _
  | cons e l ih =>
    have h : dA (e :: l) = max (dE e) (dA l) := rfl
    rw [h, depA]
    have := dE_le e
    omega
mutual
theorem dB_le : ∀ s : RS, dB s ≤ dpB s
  | .asg t x e => by rw [dB, dpB]; exact dE_le e
  | .sto t x i e => by rw [dB, dpB]; have := dE_le i; have := dE_le e; omega
  | .rd t x => by rw [dB, dpB]; exact Nat.le_refl _
  | .call t x f l => by rw [dB, dpB]; have := dA_le l; omega
  | .ife t c b l => by
    rw [dB, dpB]
    have h1 := dE_le c
    have h2 := dSs_le b
    have h3 := dSs_le l
    split <;> omega
  | .whl t c b => by rw [dB, dpB]; have h1 := dE_le c; have h2 := dSs_le b; omega
  | .brk t => by rw [dB, dpB]; exact Nat.le_refl _
  | .cnt t => by rw [dB, dpB]; exact Nat.le_refl _
  | .ret t e => by rw [dB, dpB]; exact dE_le e
  | .ass t e => by rw [dB, dpB]; have := dE_le e; omega
theorem dSs_le : ∀ l : List RS, dSs l ≤ dpSs l
  | [] => by rw [dSs]; exact Nat.zero_le _
  | s :: l => by rw [dSs, dpSs]; have := dB_le s; have := dSs_le l; omega
end
theorem dD_le (d : List UInt8 × Nat) : dD d ≤ 1 := by unfold dD; split <;> decide
theorem dD_one {d : List UInt8 × Nat} (h : 0 < d.2) : dD d = 1 := by
  unfold dD
  split
  · omega
  · rfl
theorem dV_le (l : List (List UInt8 × Nat)) : dV l ≤ 1 := by
  induction l with
  | nil => exact Nat.zero_le _
  | cons d l ih =>
    have h : dV (d :: l) = max (dD d) (dV l) := rfl
    have := dD_le d
    omega
theorem dV_one {l : List (List UInt8 × Nat)} {d : List UInt8 × Nat} (hd : d ∈ l) (h : 0 < d.2) : 1 ≤ dV l := by
  induction l with
  | nil => cases hd
  | cons a l ih =>
    have h2 : dV (a :: l) = max (dD a) (dV l) := rfl
    rcases List.mem_cons.1 hd with rfl | hd
    · have := dD_one h; omega
    · have := ih hd; omega
structure CodeQ (l : List FT) : Prop where
  ok : ∀ g ∈ l.map FT.rf, RF.ok g
  dp : dP (l.map FT.rf) ≤ 8
  two : 2 ≤ dP (l.map FT.rf)
  np : nP (l.map FT.rf) ≤ 72
  lx : Lx (progT l) (tkP lev (l.map FT.rf))
  len : (progT l).length ≤ 8192
theorem p_lx : ∀ p : List RF, (∀ f ∈ p, f.wf = true) → Lx (putP lev p) (tkP lev p) := by
  intro p
  induction p with
  | nil => intro _; exact Lx.nil
  | cons f p ih =>
    intro h
    rw [putP, tkP, List.flatMap_cons, List.flatMap_cons]
    exact f_lx lev f (h f List.mem_cons_self) _ _ (ih fun x hx => h x (List.mem_cons_of_mem _ hx))
theorem codeQ_of {w : World} {B : Nat} {a : Option Addr} {F G M : FT} (hin : FsIn w B a [F, G, M]) (hr : [F, G, M].all FT.rightB = true) (hl : (progT [F, G, M]).length ≤ 8192) (hk : ∀ K ∈ [F, G, M], nSs K.rf.body ≤ 24 ∧ dpSs K.rf.body ≤ 7 ∧ (∀ d ∈ K.rf.vars, d.2 ≤ 1000000) ∧ ∃ d ∈ K.rf.vars, 0 < d.2) : CodeQ [F, G, M] := by
  have hwf : ∀ f ∈ [F, G, M].map FT.rf, f.wf = true := by
    intro f hf
    obtain ⟨K, hK, rfl⟩ := List.mem_map.1 hf
    obtain ⟨i, hi, rfl⟩ := List.mem_iff_getElem.1 hK
    exact rightF_wf (by rw [List.all_eq_true] at hr; exact hr _ hK) (hin.fs i hi)
  have hF : ∀ K ∈ [F, G, M], dF K.rf ≤ 8 ∧ 2 ≤ dF K.rf ∧ nSs K.rf.body ≤ 24 := fun K hK => by
    obtain ⟨h1, h2, -, d, hd, h4⟩ := hk K hK
    have h5 := dV_le K.rf.vars
    have h6 := dV_one hd h4
    have h7 := dSs_le K.rf.body
    unfold dF
    omega
  obtain ⟨f1, f2, f3⟩ := hF F (by simp)
  obtain ⟨g1, g2, g3⟩ := hF G (by simp)
  obtain ⟨m1, m2, m3⟩ := hF M (by simp)
  have e1 : dP ([F, G, M].map FT.rf) = max (dF F.rf) (max (dF G.rf) (max (dF M.rf) 0)) := rfl
  have e2 : nP ([F, G, M].map FT.rf) = nSs F.rf.body + (nSs G.rf.body + (nSs M.rf.body + 0)) := rfl
  refine ⟨fun g hg => ⟨hwf g hg, ?_⟩, by omega, by omega, by omega, ?_, hl⟩
  · obtain ⟨K, hK, rfl⟩ := List.mem_map.1 hg
    exact (hk K hK).2.2.1
  · rw [← progT_is]
    exact p_lx _ hwf
theorem code_parse {F G M : FT} (h : CodeQ [F, G, M]) : Evn fun m => parseF m (progT [F, G, M]) = .ok ([F, G, M].map FT.rf) (dP ([F, G, M].map FT.rf)) :=
  prog_text (f := F.rf) (p := [G.rf, M.rf]) h.ok (Nat.le_trans h.dp (by decide)) (Nat.le_trans h.np (by decide)) h.lx
end Go.Proofs.YtgkdoealhbhnmaaGreatDoor.Pm
