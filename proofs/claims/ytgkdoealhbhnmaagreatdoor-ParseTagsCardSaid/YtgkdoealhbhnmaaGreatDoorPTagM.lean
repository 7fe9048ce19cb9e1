/- A statement with a tag ahead of it, and one without: what the parser answers. No walk stands in this text. -/
import Derived.Test.YtgkdoealhbhnmaaGreatDoorPText
set_option linter.unusedSimpArgs false
set_option linter.unusedVariables false
namespace Go.Proofs.YtgkdoealhbhnmaaGreatDoor.Pm
open Go
open Go.Lib (decDigits)

theorem lx_any : ∀ (n p : Nat) (l : List UInt8), l.length < n → (lexP p l).1.map wds = (lexP 0 l).1.map wds := by
  intro n
  induction n with
  | zero => intro p l h; omega
  | succ n ih =>
    intro p l h
    cases l with
    | nil => rw [lexP_nil, lexP_nil]
    | cons c r =>
      rw [List.length_cons] at h
      cases hs : isSp c with
      | true => rw [lexP_space p r hs, lexP_space 0 r hs, ih (p + 1) r (by omega), ih (0 + 1) r (by omega)]
      | false =>
        cases hw : wordOf (c :: r) with
        | none => rw [lexP_bad p r hs hw, lexP_bad 0 r hs hw]
        | some x =>
          obtain ⟨k, len, m⟩ := x
          have hl := wordOf_len hw
          have hd : ((c :: r).drop len).length < n := by rw [List.length_drop, List.length_cons]; omega
          have e := (ih (p + len) _ hd).trans (ih (0 + len) _ hd).symm
          rw [lexP_word p r hs hw, lexP_word 0 r hs hw]
          simp only [pre]
          revert e
          cases (lexP (p + len) ((c :: r).drop len)).1 <;> cases (lexP (0 + len) ((c :: r).drop len)).1 <;> intro e <;> simp_all
theorem lx_of {l : List UInt8} {W : List Wd} (h : (lexP 0 l).1.map wds = some W) : Lx l W := fun p => by
  have := (lx_any (l.length + 1) p l (by omega)).trans h
  exact this
def tgS (k : Nat) : List UInt8 := [[97, 32, 61, 32, 49, 59], [120, 91, 48, 93, 32, 61, 32, 50, 59], [97, 32, 61, 32, 114, 101, 97, 100, 40, 41, 59], [97, 32, 61, 32, 102, 40, 49, 44, 32, 97, 41, 59], [105, 102, 32, 40, 97, 41, 32, 123, 32, 125], [119, 104, 105, 108, 101, 32, 40, 97, 41, 32, 123, 32, 125], [98, 114, 101, 97, 107, 59], [99, 111, 110, 116, 105, 110, 117, 101, 59], [114, 101, 116, 117, 114, 110, 32, 49, 59], [97, 115, 115, 101, 114, 116, 40, 97, 41, 59]].getD k []
def tgR (k t : Nat) : RS := [RS.asg t [97] (.num 1), .sto t [120] (.num 0) (.num 2), .rd t [97], .call t [97] [102] [.num 1, .var [97]], .ife t (.var [97]) [] [], .whl t (.var [97]) [], .brk t, .cnt t, .ret t (.num 1), .ass t (.var [97])].getD k (.brk t)
def tgB (k : Nat) : List UInt8 := tgS k ++ 32 :: (tgS k ++ [32, 125])
def tgT (k : Nat) (d : List UInt8) : List UInt8 := [102, 117, 110, 99, 32, 109, 97, 105, 110, 40, 41, 32, 123, 32] ++ (64 :: (d ++ 32 :: tgB k))
def tgF (k t : Nat) : RF := ⟨[109, 97, 105, 110], [], [], [tgR k t, tgR k 0]⟩
theorem tgB_lx : ∀ k : _root_.Fin 10, (lexP 0 (tgB k.val)).1.map wds = some (tkB lev (tgR k.val 0) ++ (tkB lev (tgR k.val 0) ++ [sgW [125]])) := by decide +kernel
theorem tgR_wf : ∀ k : _root_.Fin 10, (tgR k.val 0).wf = true := by decide +kernel
def isBad (r : Ans (List RF)) (p e : Nat) : Bool := match r with
  | .ok _ _ => false
  | .bad a b => a == p && b == e
theorem isBad_is {r : Ans (List RF)} {p e : Nat} (h : isBad r p e = true) : r = .bad p e := by
  cases r with
  | ok a n => cases h
  | bad a b =>
    unfold isBad at h
    simp only [Bool.and_eq_true, beq_iff_eq] at h
    rw [h.1, h.2]
theorem zero_chk : ∀ k : _root_.Fin 10, isBad (parseF 60 (tgT k.val [48])) 14 3 = true := by decide +kernel
theorem big_chk : ∀ k : _root_.Fin 10, isBad (parseF 60 (tgT k.val [49, 48, 48, 48, 48, 48, 49])) 14 2 = true := by decide +kernel
theorem tgR_zero {k : Nat} (h : k < 10) : parseF 60 (tgT k [48]) = .bad 14 3 := isBad_is (zero_chk ⟨k, h⟩)
theorem tgR_big {k : Nat} (h : k < 10) : parseF 60 (tgT k [49, 48, 48, 48, 48, 48, 49]) = .bad 14 2 := isBad_is (big_chk ⟨k, h⟩)
def tgE : List UInt8 := [102, 117, 110, 99, 32, 109, 97, 105, 110, 40, 41, 32, 123, 32, 64, 51, 32, 125]
theorem tgE_bad : parseF 60 tgE = .bad 17 3 := by kernel_rfl
theorem tgR_put (k t : Nat) (hk : k < 10) : tgR k t = RS.put t (tgR k 0) := by
  match k, hk with
  | 0, _ => rfl
  | 1, _ => rfl
  | 2, _ => rfl
  | 3, _ => rfl
  | 4, _ => rfl
  | 5, _ => rfl
  | 6, _ => rfl
  | 7, _ => rfl
  | 8, _ => rfl
  | 9, _ => rfl
theorem tkB_put (t : Nat) (s : RS) : tkB lev (RS.put t s) = tkB lev s := by cases s <;> simp [RS.put, tkB]
theorem wf_put (t : Nat) (ht : t ≤ 1000000) (s : RS) (h : s.wf = true) : (RS.put t s).wf = true := by
  cases s <;> simp [RS.put, RS.wf] at h ⊢ <;> simp_all
theorem tag_put (t : Nat) (s : RS) : (RS.put t s).tag = t := by cases s <;> rfl
theorem dB_put (t : Nat) (s : RS) : dB (RS.put t s) = dB s := by cases s <;> rw [RS.put, dB, dB]
theorem nB_put (t : Nat) (s : RS) : nB (RS.put t s) = nB s := by cases s <;> rw [RS.put, nB, nB]
theorem tgR_dep : ∀ k : _root_.Fin 10, dB (tgR k.val 0) ≤ 10 ∧ nB (tgR k.val 0) ≤ 10 := by decide +kernel
theorem tag_good {k t : Nat} (hk : k < 10) (h1 : 1 ≤ t) (h2 : t ≤ 1000000) : Evn fun m => ∃ mo, parseF m (tgT k (decDigits t)) = .ok [tgF k t] mo := by
  have e1 : tgR k t = RS.put t (tgR k 0) := tgR_put k t hk
  have hw := tgR_wf ⟨k, hk⟩
  have hz : (tgR k 0).tag = 0 := by rw [tgR_put k 0 hk]; exact tag_put _ _
  have hwf : RF.ok (tgF k t) := by
    refine ⟨?_, fun d hd => by cases hd⟩
    have hwt := wf_put t h2 _ hw
    rw [← e1] at hwt
    simp only [tgF, RF.wf, wfSs, hwt, hw, List.all_nil, Bool.and_true]
    decide
  have hx : Lx (tgT k (decDigits t)) (tkP lev [tgF k t]) := by
    have hB := lx_of (tgB_lx ⟨k, hk⟩)
    have h3 : Lx (64 :: (decDigits t ++ 32 :: tgB k)) ((3, 64 :: decDigits t, t) :: (tkB lev (tgR k 0) ++ (tkB lev (tgR k 0) ++ [sgW [125]]))) := Lx.tag h2 (NP.cons (by decide) _) (Lx.sp (by decide) hB)
    have e2 : tkP lev [tgF k t] = kW [102, 117, 110, 99] :: nmW [109, 97, 105, 110] :: sgW [40] :: sgW [41] :: sgW [123] :: ((3, 64 :: decDigits t, t) :: (tkB lev (tgR k 0) ++ (tkB lev (tgR k 0) ++ [sgW [125]]))) := by
      have ht0 : ¬ t = 0 := by omega
      have htt : (tgR k t).tag = t := by rw [e1]; exact tag_put _ _
      simp [tkP, tkF, tgF, commas, tkV, tkSs, tgW, htt, hz, ht0]
      rw [e1, tkB_put]
    rw [e2]
    exact Lx.key (s := [102, 117, 110, 99]) (by decide) (by decide) (by decide) (NP.cons (by decide) _) (Lx.sp (by decide) (Lx.name (s := [109, 97, 105, 110]) (by decide) (NP.cons (by decide) _) (Lx.lone (by decide) (Lx.lone (by decide) (Lx.sp (by decide) (Lx.lone (by decide) (Lx.sp (by decide) h3)))))))
  obtain ⟨b1, b2⟩ := tgR_dep ⟨k, hk⟩
  simp only at b1 b2
  have c1 : dB (tgR k t) = dB (tgR k 0) := by rw [e1]; exact dB_put _ _
  have c2 : nB (tgR k t) = nB (tgR k 0) := by rw [e1]; exact nB_put _ _
  have d1 : dP [tgF k t] = max (max 1 (1 + max 0 (max (dB (tgR k t)) (max (dB (tgR k 0)) 0)))) 0 := by
    show max (dF (tgF k t)) 0 = _
    unfold dF
    rw [show (tgF k t).body = [tgR k t, tgR k 0] from rfl, dSs, dSs, dSs]
    rfl
  have d2 : nP [tgF k t] = (1 + nB (tgR k t) + (1 + nB (tgR k 0) + 0)) + 0 := by
    show nSs (tgF k t).body + 0 = _
    rw [show (tgF k t).body = [tgR k t, tgR k 0] from rfl, nSs, nSs, nSs]
  have hd : dP [tgF k t] ≤ 40 := by omega
  have hn : nP [tgF k t] ≤ 400 := by omega
  exact (prog_text (p := []) (by simpa using hwf) hd hn hx).mono fun m h => ⟨_, h⟩
end Go.Proofs.YtgkdoealhbhnmaaGreatDoor.Pm
