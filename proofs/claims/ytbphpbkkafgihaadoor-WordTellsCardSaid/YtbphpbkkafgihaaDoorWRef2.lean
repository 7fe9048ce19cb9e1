/- What op, and the document's own Level and Text (billhookref01), answer. -/
import Derived.Test.YtbphpbkkafgihaaDoorWLevels
import Derived.Test.YtbphpbkkafgihaaDoorWTxt
import Derived.OpenShut
namespace Go.Proofs.YtbphpbkkafgihaaDoor
open Go.RowKit

def opV (s : ByteArray) (k : Nat) : ByteArray := if k < 180 then opAt (k % 18) else s
set_option maxRecDepth 100000 in
theorem op_any {w0 : World} (s : ByteArray) (k : Nat) (hk : k ≤ 255) (w : World) (h : Past w0 w) :
    Calls Tryd.prog 12 #[.string s, .int .u8 (k : Int)] w fun e w' => e = .returned (.string (opV s k)) ∧ Past w0 w' := by
  by_cases h1 : k < 180
  · have e : opV s k = opAt (k % 18) := by unfold opV; rw [if_pos h1]
    rw [e]; clear e
    have hm : k % 18 < 18 := by omega
    go_enter Tryd.func12, Tryd.ntmps12
    go_wp2_with (go_at_call 19; refine (ops_ref _ h).mono ?_; clear h; rintro e w' ⟨rfl, hops, hb, h⟩; clear hb; have hc := hops.cell (k % 18) hm)
    go_ret
    exact ⟨rfl, h⟩
  · have e : opV s k = s := by unfold opV; rw [if_neg h1]
    rw [e]; clear e
    go_enter Tryd.func12, Tryd.ntmps12
    go_wp2_with (go_at_call 19; refine (ops_ref _ h).mono ?_; clear h; rintro e w' ⟨rfl, hops, hb, h⟩; clear hb)
    go_ret
    exact ⟨rfl, h⟩

/-- Block b holds the eighteen levels. -/
def LvIn (b : Nat) (w : World) : Prop := b < w.heap.size ∧ ∀ k, k < 18 → w.cell? ⟨b, k, none⟩ = some (.int .i64 (levelV (opAt k)))
theorem LvIn.on {b : Nat} {w w' : World} (h : LvIn b w) (hb : Below w.heap.size w w') : LvIn b w' :=
  ⟨Nat.lt_of_lt_of_le h.1 hb.size, fun k hk => (hb.cell (p := ⟨b, k, none⟩) h.1).trans (h.2 k hk)⟩
def lvList : List Int := [1, 2, 3, 4, 5, 6, 6, 7, 7, 7, 7, 8, 8, 9, 9, 10, 10, 10]
theorem lvIn_new (w : World) : LvIn w.heap.size (w.alloc (.cells (lvList.map (Value.int .i64)).toArray 3)) := by
  refine ⟨by simp, fun k hk => ?_⟩
  have e : ∀ k : Fin 18, lvList.getD k.val 0 = levelV (opAt k.val) := by decide +kernel
  have hl : lvList.length = 18 := rfl
  have : (lvList.map (Value.int .i64)).toArray[k]? = some (.int .i64 (lvList.getD k 0)) := by
    simp [List.getD, hl, hk]
  rw [World.cell?_alloc_new, this, e ⟨k, hk⟩]
theorem levelV_nonneg (s : ByteArray) : 0 ≤ levelV s := by
  unfold levelV
  (repeat' split) <;> omega

set_option maxRecDepth 100000 in
theorem rlevel_any {w0 : World} (s : ByteArray) (w : World) (h : Past w0 w) :
    Calls Tryd.prog 21 #[.string s] w fun e w' => e = .returned (.int .i64 (levelV s)) ∧ Past w0 w' := by
  have hn := lvIn_new w
  have hn' : Hid (LvIn w.heap.size (w.alloc (.cells (lvList.map (Value.int .i64)).toArray 3))) := Lib.hid hn
  clear hn
  go_enter Tryd.func21, Tryd.ntmps21
  go_wp2_with (go_at_call 19; refine (ops_ref _ (h.alloc _)).mono ?_; clear h; rintro e w' ⟨rfl, hops, hb, h⟩)
  have hl := hn'.out.on hb
  clear hn' hb
  have hz : ∀ o, (w.alloc o).heap.size = w.heap.size + 1 := fun o => by simp
  rw [hz] at hops
  clear hz
  obtain ⟨b2, hb2⟩ : ∃ b2, b2 = w.heap.size + 1 := ⟨_, rfl⟩
  rw [← hb2] at hops
  simp only [← hb2]
  clear hb2
  obtain ⟨b, hb⟩ : ∃ b, b = w.heap.size := ⟨_, rfl⟩
  rw [← hb] at hl
  simp only [← hb]
  clear hb
  go_loop [5] (fun i => ∃ k : Nat, k ≤ 18 ∧ i = .int .i64 k ∧ thereV s k = false) (fun i => 18 - (intOf i).toNat)
  case atStart => exact ⟨0, by omega, rfl, rfl⟩
  case round =>
    obtain ⟨k, hk, rfl, ht⟩ := hrel
    by_cases hlt : k < 18
    · have hc := hops.cell k hlt
      have hv := hl.2 k hlt
      have HT : Hid (thereV s (k + 1) = ((opAt k).toList == s.toList)) := Lib.hid (by show (thereV s k || ((opAt k).toList == s.toList)) = _; rw [ht, Bool.false_or])
      clear ht
      cases he : (opAt k).toList == s.toList
      · rw [he] at HT
        go_wp2
        go_round
        case rel => exact ⟨k + 1, by omega, by go_num, HT.out⟩
        case measure => simp [intOf]; omega
      · have es : opAt k = s := by
          rw [ByteArray.toList_eq, ByteArray.toList_eq, beq_iff_eq] at he
          generalize opAt k = t at he
          cases s with | mk d1 => cases t with | mk d2 => cases d1; cases d2; simp at he; subst he; rfl
        have HE : Hid (levelV (opAt k) = levelV s) := Lib.hid (by rw [es])
        clear es
        go_wp2
        go_ret
        exact ⟨by show Ending.returned (.int .i64 (levelV (opAt k))) = _; rw [HE.out], h⟩
    · obtain rfl : k = 18 := by omega
      have E0 : Hid (levelV s = 0) := Lib.hid (by
        rw [there_any] at ht
        have := levelV_nonneg s
        simp at ht
        omega)
      clear ht
      go_wp2
      go_ret
      exact ⟨by rw [E0.out]; rfl, h⟩

end Go.Proofs.YtbphpbkkafgihaaDoor
