/- How much fuel the plain parser needs: enough for each word. No walk stands in this text. -/
import Derived.Test.YtplonecdaegfbaaGreatDoorPUps
set_option linter.unusedSimpArgs false
set_option linter.unusedVariables false
namespace Go.Proofs.YtplonecdaegfbaaGreatDoor.Pm
open Go

theorem take_less {z : Nat} {l : List UInt8} {s s' : PS} {u : Unit} (hl : l ≠ []) (h : take z l s = .ok u s') : s'.ws.length + 1 = s.ws.length := by
  obtain ⟨e, hp⟩ := take_ok h
  have h1 := (pass_ok hp).2.1
  have h2 : s.ws ≠ [] := fun e2 => hl (by rw [← e]; unfold cur; rw [e2]; rfl)
  have h3 := List.length_pos_iff.2 h2
  rw [h1, List.length_tail]; omega
theorem kr_length (z : Nat) (s : PS) : KR s (length z s) := by
  unfold length
  split
  · exact kr_skip (kr_ok _ _)
  · exact kr_bad _ _ _
theorem kr_decl (z : Nat) (s : PS) : KR s (decl z s) := by
  refine kr_bind (kr_name _ _) fun x s1 => ?_
  split
  · exact kr_bind (kr_within rfl rfl rfl (kr_length z) _) fun _ _ => kr_ok _ _
  · exact kr_ok _ _
theorem kr_vars (z m : Nat) (s : PS) : KR s (vars z m s) := by
  unfold vars
  split
  · exact kr_skip (kr_bind (kr_list (kr_decl z) _) fun _ _ => kr_bind (kr_take rfl rfl _) fun _ _ => kr_ok _ _)
  · exact kr_ok _ _
theorem function_less {z m : Nat} {s s' : PS} {f : RF} (h : function z m s = .ok f s') : s'.ws.length < s.ws.length ∧ s'.op = s.op ∧ s.sts ≤ s'.sts := by
  unfold function at h
  obtain ⟨u1, s1, h1, h⟩ := bind_ok h
  obtain ⟨x, s2, h2, h⟩ := bind_ok h
  obtain ⟨ps, s3, h3, h⟩ := bind_ok h
  obtain ⟨u4, s4, h4, h⟩ := bind_ok h
  obtain ⟨vs, s5, h5, h⟩ := bind_ok h
  obtain ⟨b, s6, h6, h⟩ := bind_ok h
  obtain ⟨u7, s7, h7, h⟩ := bind_ok h
  cases h
  have k1 := take_less (by decide) h1
  have q1 := take_flat h1 rfl rfl
  have p1 := take_sts h1
  have k2 := kr_name _ _ _ _ h2
  have k3 := kr_args (kr_name z) _ _ _ h3
  have q4 := take_open h4 rfl
  have p4 := take_sts h4
  have k5 := kr_vars _ _ _ _ _ h5
  have k6 := (kr_stmts z m).2.2.2 _ _ _ _ h6
  have q7 := take_shut h7 rfl rfl
  have p7 := take_sts h7
  omega
end Go.Proofs.YtplonecdaegfbaaGreatDoor.Pm
