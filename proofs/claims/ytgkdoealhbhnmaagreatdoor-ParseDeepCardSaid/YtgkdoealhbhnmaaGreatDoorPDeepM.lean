/- Texts that open so often: what the parser answers, each of them asked by the kernel. No walk stands in this text. -/
import Derived.Test.YtgkdoealhbhnmaaGreatDoorPText
set_option linter.unusedSimpArgs false
set_option linter.unusedVariables false
namespace Go.Proofs.YtgkdoealhbhnmaaGreatDoor.Pm
open Go

def opn (k : Nat) : List UInt8 := [[40], [45], [126], [33], [120, 115, 91]].getD k []
def sht (k : Nat) : List UInt8 := [[41], [], [], [], [93]].getD k []
def rep : Nat → List UInt8 → List UInt8
  | 0, _ => []
  | n + 1, l => rep n l ++ l
def dt (n k : Nat) : List UInt8 := rep n (opn k) ++ 97 :: rep n (sht k)
def chk (n k : Nat) : Bool := (match exprF 130 (dt n k) with
  | .ok _ mo => decide (n ≤ 40) && mo == n
  | .bad p e => decide (40 < n) && (e == 4 && p == 40 * (opn k).length + (opn k).length - 1)) &&
  match parseF 130 (dt n k) with
  | .ok _ _ => false
  | .bad _ e => e == 3
set_option maxRecDepth 100000 in
theorem deep0 : ∀ n : _root_.Fin 60, chk n.val 0 = true := by decide +kernel
set_option maxRecDepth 100000 in
theorem deep1 : ∀ n : _root_.Fin 60, chk n.val 1 = true := by decide +kernel
set_option maxRecDepth 100000 in
theorem deep2 : ∀ n : _root_.Fin 60, chk n.val 2 = true := by decide +kernel
set_option maxRecDepth 100000 in
theorem deep3 : ∀ n : _root_.Fin 60, chk n.val 3 = true := by decide +kernel
set_option maxRecDepth 100000 in
theorem deep4 : ∀ n : _root_.Fin 60, chk n.val 4 = true := by decide +kernel
theorem deep_all {n k : Nat} (hn : n < 60) (hk : k < 5) : chk n k = true := by
  match k, hk with
  | 0, _ => exact deep0 ⟨n, hn⟩
  | 1, _ => exact deep1 ⟨n, hn⟩
  | 2, _ => exact deep2 ⟨n, hn⟩
  | 3, _ => exact deep3 ⟨n, hn⟩
  | 4, _ => exact deep4 ⟨n, hn⟩
theorem deep_ok {n k : Nat} (hn : n ≤ 40) (hk : k < 5) : ∃ r p, exprF 130 (dt n k) = .ok r n ∧ parseF 130 (dt n k) = .bad p 3 := by
  have h := deep_all (n := n) (by omega) hk
  unfold chk at h
  rw [Bool.and_eq_true] at h
  obtain ⟨h1, h2⟩ := h
  split at h1
  · rename_i a mo e
    simp only [Bool.and_eq_true, decide_eq_true_eq, beq_iff_eq] at h1
    split at h2
    · cases h2
    · rename_i p e3 e2
      simp only [beq_iff_eq] at h2
      exact ⟨a, p, by rw [e, h1.2], by rw [e2, h2]⟩
  · simp only [Bool.and_eq_true, decide_eq_true_eq] at h1
    omega
theorem deep_bad {n k : Nat} (h40 : 40 < n) (hn : n < 60) (hk : k < 5) : exprF 130 (dt n k) = .bad (40 * (opn k).length + (opn k).length - 1) 4 := by
  have h := deep_all hn hk
  unfold chk at h
  rw [Bool.and_eq_true] at h
  obtain ⟨h1, h2⟩ := h
  split at h1
  · simp only [Bool.and_eq_true, decide_eq_true_eq] at h1
    omega
  · rename_i p e3 e
    simp only [Bool.and_eq_true, decide_eq_true_eq, beq_iff_eq] at h1
    rw [e, h1.2.1, h1.2.2]
theorem rep_len (n : Nat) (l : List UInt8) : (rep n l).length = n * l.length := by
  induction n with
  | zero => simp [rep]
  | succ n ih => rw [rep, List.length_append, ih, Nat.add_mul]; omega
end Go.Proofs.YtgkdoealhbhnmaaGreatDoor.Pm
