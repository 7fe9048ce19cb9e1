/- The list of operations in memory: word.Ops, and billhookref01's. -/
import Derived.Test.YtbphpbkkafgihaaDoorWLaid
import Derived.OpenShut
namespace Go.Proofs.YtbphpbkkafgihaaDoor
open Go.RowKit

def opList : List ByteArray := [{ data := #[124, 124] }, { data := #[38, 38] }, { data := #[124] }, { data := #[94] }, { data := #[38] }, { data := #[61, 61] }, { data := #[33, 61] }, { data := #[60] }, { data := #[60, 61] }, { data := #[62] }, { data := #[62, 61] }, { data := #[60, 60] }, { data := #[62, 62] }, { data := #[43] }, { data := #[45] }, { data := #[42] }, { data := #[47] }, { data := #[37] }]
def opAt (k : Nat) : ByteArray := opList.getD k { data := #[] }
/-- Block b holds the eighteen texts. -/
def OpsIn (b : Nat) (w : World) : Prop := b < w.heap.size ∧ ∀ k, k < 18 → w.cell? ⟨b, k, none⟩ = some (.string (opAt k))
theorem OpsIn.on {b : Nat} {w w' : World} (h : OpsIn b w) (hb : Below w.heap.size w w') : OpsIn b w' :=
  ⟨Nat.lt_of_lt_of_le h.1 hb.size, fun k hk => (hb.cell (p := ⟨b, k, none⟩) h.1).trans (h.2 k hk)⟩
theorem OpsIn.cell {b : Nat} {w : World} (h : OpsIn b w) (k : Nat) (hk : k < 18) : w.cell? ⟨b, k, none⟩ = some (.string (opAt k)) := h.2 k hk
theorem opsIn_new (w : World) : OpsIn w.heap.size (w.alloc (.cells (opList.map Value.string).toArray 9)) := by
  refine ⟨by simp, fun k hk => ?_⟩
  have : ∀ k, k < 18 → (opList.map Value.string).toArray[k]? = some (.string (opAt k)) := by
    intro k hk
    have hl : opList.length = 18 := rfl
    simp [opAt, List.getD, hl, hk]
  rw [World.cell?_alloc_new, this k hk]
theorem ops_own {w0 : World} (w : World) (h : Past w0 w) :
    Calls Tryd.prog 18 #[] w fun e w' => e = .returned (.slice (some ⟨w.heap.size, 0, none⟩) 18 18) ∧ OpsIn w.heap.size w' ∧ Below w.heap.size w w' ∧ Past w0 w' := by
  have hn := opsIn_new w
  go_enter Tryd.func18, Tryd.ntmps18
  go_wp2
  go_ret
  exact ⟨rfl, hn, (Below.refl _ _).alloc (Nat.le_refl _) _, h.alloc _⟩
theorem ops_ref {w0 : World} (w : World) (h : Past w0 w) :
    Calls Tryd.prog 19 #[] w fun e w' => e = .returned (.slice (some ⟨w.heap.size, 0, none⟩) 18 18) ∧ OpsIn w.heap.size w' ∧ Below w.heap.size w w' ∧ Past w0 w' := by
  have hn := opsIn_new w
  go_enter Tryd.func19, Tryd.ntmps19
  go_wp2
  go_ret
  exact ⟨rfl, hn, (Below.refl _ _).alloc (Nat.le_refl _) _, h.alloc _⟩
end Go.Proofs.YtbphpbkkafgihaaDoor
