/- TreeBrackets: the operations and their levels, the two forms of an expression, what is asked for. -/
import Derived.Test.YtkfogoglaiibiaaGreatDoorTLaid
import Derived.Deep.RegionHeld3
import Derived.OpenShut
set_option linter.unusedSimpArgs false
set_option linter.unusedVariables false
namespace Go.Proofs.YtkfogoglaiibiaaGreatDoor
open Go Go.RowKit

def obl : List ByteArray := [{ data := #[124, 124] }, { data := #[38, 38] }, { data := #[124] }, { data := #[94] }, { data := #[38] }, { data := #[61, 61] }, { data := #[33, 61] }, { data := #[60] }, { data := #[60, 61] }, { data := #[62] }, { data := #[62, 61] }, { data := #[60, 60] }, { data := #[62, 62] }, { data := #[43] }, { data := #[45] }, { data := #[42] }, { data := #[47] }, { data := #[37] }]
def ob (k : Nat) : ByteArray := obl.getD k nE
abbrev obC : Array Value := #[.string { data := #[124, 124] }, .string { data := #[38, 38] }, .string { data := #[124] }, .string { data := #[94] }, .string { data := #[38] }, .string { data := #[61, 61] }, .string { data := #[33, 61] }, .string { data := #[60] }, .string { data := #[60, 61] }, .string { data := #[62] }, .string { data := #[62, 61] }, .string { data := #[60, 60] }, .string { data := #[62, 62] }, .string { data := #[43] }, .string { data := #[45] }, .string { data := #[42] }, .string { data := #[47] }, .string { data := #[37] }]
def lvl : List Int := [1, 2, 3, 4, 5, 6, 6, 7, 7, 7, 7, 8, 8, 9, 9, 10, 10, 10]
def lv (k : Nat) : Int := lvl.getD k 0
abbrev lvC : Array Value := #[.int .i64 1, .int .i64 2, .int .i64 3, .int .i64 4, .int .i64 5, .int .i64 6, .int .i64 6, .int .i64 7, .int .i64 7, .int .i64 7, .int .i64 7, .int .i64 8, .int .i64 8, .int .i64 9, .int .i64 9, .int .i64 10, .int .i64 10, .int .i64 10]
theorem obC_is : obC = (obl.map Value.string).toArray := rfl
theorem lvC_is : lvC = (lvl.map (Value.int .i64)).toArray := rfl
theorem obC_at (k : Nat) (h : k < 18) : obC[k]? = some (.string (ob k)) := by
  have hl : k < obl.length := h
  rw [obC_is, List.getElem?_toArray, List.getElem?_map, List.getElem?_eq_getElem hl]
  simp only [Option.map_some, ob, List.getD_eq_getElem?_getD, List.getElem?_eq_getElem hl, Option.getD_some]
theorem lvC_at (k : Nat) (h : k < 18) : lvC[k]? = some (.int .i64 (lv k)) := by
  have hl : k < lvl.length := h
  rw [lvC_is, List.getElem?_toArray, List.getElem?_map, List.getElem?_eq_getElem hl]
  simp only [Option.map_some, lv, List.getD_eq_getElem?_getD, List.getElem?_eq_getElem hl, Option.getD_some]
theorem ob_pos (k : Nat) (h : k < 18) : 0 < levelV (ob k) := by
  have : ∀ k : Fin 18, 0 < levelV (ob k.val) := by decide +kernel
  exact this ⟨k, h⟩
abbrev vx : RE := .var [120]
abbrev vy : RE := .var [121]
abbrev vz : RE := .var [122]
abbrev ol (k : Nat) : List UInt8 := (ob k).data.toList
/-- What is asked for, of the two forms. -/
def wantL (a b : Nat) : List UInt8 := if lv b < lv a then [40, 120, 32] ++ ol b ++ [32, 121, 41, 32] ++ ol a ++ [32, 122] else [120, 32] ++ ol b ++ [32, 121, 32] ++ ol a ++ [32, 122]
def wantR (a b : Nat) : List UInt8 := if lv b ≤ lv a then [120, 32] ++ ol a ++ [32, 40, 121, 32] ++ ol b ++ [32, 122, 41] else [120, 32] ++ ol a ++ [32, 121, 32] ++ ol b ++ [32, 122]
theorem putL_is (a b : Nat) (ha : a < 18) (hb : b < 18) : putR levL (.bin (ol a) (.bin (ol b) vx vy) vz) = wantL a b := by
  have : ∀ a b : Fin 18, putR levL (.bin (ol a.val) (.bin (ol b.val) vx vy) vz) = wantL a.val b.val := by decide +kernel
  exact this ⟨a, ha⟩ ⟨b, hb⟩
theorem putR_is (a b : Nat) (ha : a < 18) (hb : b < 18) : putR levL (.bin (ol a) vx (.bin (ol b) vy vz)) = wantR a b := by
  have : ∀ a b : Fin 18, putR levL (.bin (ol a.val) vx (.bin (ol b.val) vy vz)) = wantR a.val b.val := by decide +kernel
  exact this ⟨a, ha⟩ ⟨b, hb⟩
theorem want_len (a b : Nat) (ha : a < 18) (hb : b < 18) : (wantL a b).length ≤ 30 ∧ (wantR a b).length ≤ 30 := by
  have : ∀ a b : Fin 18, (wantL a.val b.val).length ≤ 30 ∧ (wantR a.val b.val).length ≤ 30 := by decide +kernel
  exact this ⟨a, ha⟩ ⟨b, hb⟩
theorem br1_any (s : ByteArray) (w : World) :
    Calls Tryz.prog 35 #[.string s] w fun e w' => e = .returned (.agg #[.int .i64 1, .string { data := #[] }, .int .i64 0, .string s, .slice none 0 0]) ∧ w' = w.alloc (.cells #[.int .i64 1, .string { data := #[] }, .int .i64 0, .string s, .slice none 0 0] 30) := by
  go_enter Tryz.func35, Tryz.ntmps35
  go_wp2
  exact bodyPost_ret (v := .agg #[.int .i64 1, .string { data := #[] }, .int .i64 0, .string s, .slice none 0 0]) (by simp [results, Tryz.results35, go_sem]) rfl ⟨rfl, rfl⟩
abbrev brI (p q : UInt8) (o : ByteArray) (b1 : Nat) : ET := .mk 4 o 0 nE (some ⟨b1, 0, none⟩) 2 [vrT { data := #[p] }, vrT { data := #[q] }]
abbrev brL (o1 o2 : ByteArray) (b1 b2 : Nat) : ET := .mk 4 o1 0 nE (some ⟨b2, 0, none⟩) 2 [brI 120 121 o2 b1, vrT { data := #[122] }]
abbrev brR (o1 o2 : ByteArray) (b1 b2 : Nat) : ET := .mk 4 o1 0 nE (some ⟨b2, 0, none⟩) 2 [vrT { data := #[120] }, brI 121 122 o2 b1]
abbrev vc (p : UInt8) : List Value := [.int .i64 1, .string nE, .int .i64 0, .string { data := #[p] }, .slice none 0 0]
theorem brI_in {w : World} {p q : UInt8} {o : ByteArray} {b1 : Nat} (h : w.heap[b1]? = some (.cells #[.int .i64 1, .string nE, .int .i64 0, .string { data := #[p] }, .slice none 0 0, .int .i64 1, .string nE, .int .i64 0, .string { data := #[q] }, .slice none 0 0] 30 (0, 0))) : (brI p q o b1).In w 0 := by
  rw [ET.In, EsIn, EsIn, EsIn]
  exact ⟨by decide, by simp, row_block h (Nat.zero_le _) rfl, vr_in _ _, row_block h (Nat.zero_le _) rfl, vr_in _ _, trivial⟩
theorem brL_in {w : World} {o1 o2 : ByteArray} {b1 b2 : Nat} (h1 : w.heap[b1]? = some (.cells #[.int .i64 1, .string nE, .int .i64 0, .string { data := #[120] }, .slice none 0 0, .int .i64 1, .string nE, .int .i64 0, .string { data := #[121] }, .slice none 0 0] 30 (0, 0)))
    (h2 : w.heap[b2]? = some (.cells #[.int .i64 4, .string o2, .int .i64 0, .string nE, .slice (some ⟨b1, 0, none⟩) 2 2, .int .i64 1, .string nE, .int .i64 0, .string { data := #[122] }, .slice none 0 0] 30 (0, 0))) : (brL o1 o2 b1 b2).In w 0 := by
  rw [ET.In, EsIn, EsIn, EsIn]
  exact ⟨by decide, by simp, row_block h2 (Nat.zero_le _) rfl, brI_in h1, row_block h2 (Nat.zero_le _) rfl, vr_in _ _, trivial⟩
theorem brR_in {w : World} {o1 o2 : ByteArray} {b1 b2 : Nat} (h1 : w.heap[b1]? = some (.cells #[.int .i64 1, .string nE, .int .i64 0, .string { data := #[121] }, .slice none 0 0, .int .i64 1, .string nE, .int .i64 0, .string { data := #[122] }, .slice none 0 0] 30 (0, 0)))
    (h2 : w.heap[b2]? = some (.cells #[.int .i64 1, .string nE, .int .i64 0, .string { data := #[120] }, .slice none 0 0, .int .i64 4, .string o2, .int .i64 0, .string nE, .slice (some ⟨b1, 0, none⟩) 2 2] 30 (0, 0))) : (brR o1 o2 b1 b2).In w 0 := by
  rw [ET.In, EsIn, EsIn, EsIn]
  exact ⟨by decide, by simp, row_block h2 (Nat.zero_le _) rfl, vr_in _ _, row_block h2 (Nat.zero_le _) rfl, brI_in h1, trivial⟩
theorem brI_right {p q : UInt8} {o : ByteArray} {b1 : Nat} (ho : 0 < levelV o) (hp : nmB { data := #[p] } = true) (hq : nmB { data := #[q] } = true) : (brI p q o b1).rightB = true := by
  simp [ET.rightB, rightEs, formedC, reckC, namesC, ho, hp, hq]
theorem brL_right {a b b1 b2 : Nat} (ha : a < 18) (hb : b < 18) : (brL (ob a) (ob b) b1 b2).rightB = true := by
  have h1 := brI_right (p := 120) (q := 121) (b1 := b1) (ob_pos b hb) (by kernel_rfl) (by kernel_rfl)
  have h2 : nmB { data := #[122] } = true := by kernel_rfl
  have h3 := ob_pos a ha
  unfold brL
  generalize brI 120 121 (ob b) b1 = T at h1
  simp [ET.rightB, rightEs, formedC, reckC, namesC, h1, h2, h3]
theorem brR_right {a b b1 b2 : Nat} (ha : a < 18) (hb : b < 18) : (brR (ob a) (ob b) b1 b2).rightB = true := by
  have h1 := brI_right (p := 121) (q := 122) (b1 := b1) (ob_pos b hb) (by kernel_rfl) (by kernel_rfl)
  have h2 : nmB { data := #[120] } = true := by kernel_rfl
  have h3 := ob_pos a ha
  unfold brR
  generalize brI 121 122 (ob b) b1 = T at h1
  simp [ET.rightB, rightEs, formedC, reckC, namesC, h1, h2, h3]
theorem ob_size (k : Nat) (h : k < 18) : (ob k).size ≤ 2 := by
  have : ∀ k : Fin 18, (ob k.val).size ≤ 2 := by decide +kernel
  exact this ⟨k, h⟩
theorem cat_data (a b : ByteArray) : (a ++ b).data.toList = a.data.toList ++ b.data.toList := by simp
theorem wantL_yes {a b : Nat} (h : lv b < lv a) : ({ data := (wantL a b).toArray } : ByteArray) = { data := #[40, 120, 32] } ++ ob b ++ { data := #[32, 121, 41, 32] } ++ ob a ++ { data := #[32, 122] } := by
  refine (of_list ?_).symm
  simp only [cat_data, wantL, if_pos h]
theorem wantL_no {a b : Nat} (h : ¬ lv b < lv a) : ({ data := (wantL a b).toArray } : ByteArray) = { data := #[120, 32] } ++ ob b ++ { data := #[32, 121, 32] } ++ ob a ++ { data := #[32, 122] } := by
  refine (of_list ?_).symm
  simp only [cat_data, wantL, if_neg h]
theorem wantR_yes {a b : Nat} (h : lv b ≤ lv a) : ({ data := (wantR a b).toArray } : ByteArray) = { data := #[120, 32] } ++ ob a ++ { data := #[32, 40, 121, 32] } ++ ob b ++ { data := #[32, 122, 41] } := by
  refine (of_list ?_).symm
  simp only [cat_data, wantR, if_pos h]
theorem wantR_no {a b : Nat} (h : ¬ lv b ≤ lv a) : ({ data := (wantR a b).toArray } : ByteArray) = { data := #[120, 32] } ++ ob a ++ { data := #[32, 121, 32] } ++ ob b ++ { data := #[32, 122] } := by
  refine (of_list ?_).symm
  simp only [cat_data, wantR, if_neg h]
theorem kD {w : World} {a : Addr} {v : Value} (h : w.cell? a = some v) : w.drew.cell? a = some v := h
theorem kA {w : World} {a : Addr} {v : Value} (h : w.cell? a = some v) (o : Obj) : (w.alloc o).cell? a = some v := by
  rw [World.cell?_alloc_lt _ _ _ (World.block_lt_of_cell? w a h)]; exact h
end Go.Proofs.YtkfogoglaiibiaaGreatDoor
