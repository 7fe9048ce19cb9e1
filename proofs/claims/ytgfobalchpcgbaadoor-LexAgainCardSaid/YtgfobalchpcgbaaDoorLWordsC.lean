/- What the statements' own words answers: some text of at most 810 bytes. -/
import Derived.Test.YtgfobalchpcgbaaDoorLNames
set_option linter.unusedSimpArgs false
set_option linter.unusedVariables false
namespace Go.Proofs.YtgfobalchpcgbaaDoor
open Go Go.RowKit

def partsL : List (List UInt8) := [[97], [98], [120, 115], [102], [109, 97, 105, 110], [105, 102], [101, 108, 115, 101], [119, 104, 105, 108, 101], [98, 114, 101, 97, 107], [99, 111, 110, 116, 105, 110, 117, 101], [114, 101, 116, 117, 114, 110], [97, 115, 115, 101, 114, 116], [114, 101, 97, 100], [102, 117, 110, 99], [118, 97, 114], [40], [41], [91], [93], [123], [125], [44], [59], [61], [61, 61], [60, 61], [60, 60], [43], [45], [42], [47], [33], [126], [38, 38], [124, 124], [48], [49], [55], [52, 50], [64, 49], [64, 50, 51], [57, 50, 50, 51, 51, 55, 50, 48, 51, 54, 56, 53, 52, 55, 55, 53, 56, 48, 55], [57, 50, 50, 51, 51, 55, 50, 48, 51, 54, 56, 53, 52, 55, 55, 53, 56, 48, 56], [97, 95, 49], [90, 57], [37], [94], [62], [48, 55], [64], [36], [57, 50, 50, 51, 51, 55, 50, 48, 51, 54, 56, 53, 52, 55, 55, 53, 56, 48, 57], [64, 48, 49], [97, 98, 99, 100, 101, 102, 103, 104, 105, 106, 107, 108, 109, 110, 111, 112, 113, 114, 115, 116, 117, 118, 119, 120, 121], [64, 48]]
def part (i : Nat) : ByteArray := bsOf (partsL.getD i [])
theorem part_size (i : Nat) (h : i < 55) : (part i).size ≤ 25 := by
  have : ∀ i : Fin 55, (part i.val).size ≤ 25 := by decide +kernel
  exact this ⟨i, h⟩
def partsV : Array Value := #[.string { data := #[97] }, .string { data := #[98] }, .string { data := #[120, 115] }, .string { data := #[102] }, .string { data := #[109, 97, 105, 110] }, .string { data := #[105, 102] }, .string { data := #[101, 108, 115, 101] }, .string { data := #[119, 104, 105, 108, 101] }, .string { data := #[98, 114, 101, 97, 107] }, .string { data := #[99, 111, 110, 116, 105, 110, 117, 101] }, .string { data := #[114, 101, 116, 117, 114, 110] }, .string { data := #[97, 115, 115, 101, 114, 116] }, .string { data := #[114, 101, 97, 100] }, .string { data := #[102, 117, 110, 99] }, .string { data := #[118, 97, 114] }, .string { data := #[40] }, .string { data := #[41] }, .string { data := #[91] }, .string { data := #[93] }, .string { data := #[123] }, .string { data := #[125] }, .string { data := #[44] }, .string { data := #[59] }, .string { data := #[61] }, .string { data := #[61, 61] }, .string { data := #[60, 61] }, .string { data := #[60, 60] }, .string { data := #[43] }, .string { data := #[45] }, .string { data := #[42] }, .string { data := #[47] }, .string { data := #[33] }, .string { data := #[126] }, .string { data := #[38, 38] }, .string { data := #[124, 124] }, .string { data := #[48] }, .string { data := #[49] }, .string { data := #[55] }, .string { data := #[52, 50] }, .string { data := #[64, 49] }, .string { data := #[64, 50, 51] }, .string { data := #[57, 50, 50, 51, 51, 55, 50, 48, 51, 54, 56, 53, 52, 55, 55, 53, 56, 48, 55] }, .string { data := #[57, 50, 50, 51, 51, 55, 50, 48, 51, 54, 56, 53, 52, 55, 55, 53, 56, 48, 56] }, .string { data := #[97, 95, 49] }, .string { data := #[90, 57] }, .string { data := #[37] }, .string { data := #[94] }, .string { data := #[62] }, .string { data := #[48, 55] }, .string { data := #[64] }, .string { data := #[36] }, .string { data := #[57, 50, 50, 51, 51, 55, 50, 48, 51, 54, 56, 53, 52, 55, 55, 53, 56, 48, 57] }, .string { data := #[64, 48, 49] }, .string { data := #[97, 98, 99, 100, 101, 102, 103, 104, 105, 106, 107, 108, 109, 110, 111, 112, 113, 114, 115, 116, 117, 118, 119, 120, 121] }, .string { data := #[64, 48] }]
theorem parts_get (i : Nat) (h : i < 55) : partsV[i]? = some (.string (part i)) := by
  have : ∀ i : Fin 55, partsV.toList[i.val]? = some (.string (part i.val)) := fun i => by
    have e : partsV.toList = partsL.map fun l => .string (bsOf l) := rfl
    rw [e, List.getElem?_map]
    have hl : i.val < partsL.length := i.2
    rw [List.getElem?_eq_getElem hl]
    unfold part
    rw [List.getD_eq_getElem?_getD, List.getElem?_eq_getElem hl]
    rfl
  rw [← Array.getElem?_toList]
  exact this ⟨i, h⟩
def PartsIn (w : World) (P : Nat) : Prop := P < w.heap.size ∧ ∀ i, i < 55 → w.cell? ⟨P, i, none⟩ = some (.string (part i))
theorem PartsIn.on {w w' : World} {P : Nat} (h : PartsIn w P) (hb : Below w.heap.size w w') : PartsIn w' P :=
  ⟨Nat.lt_of_lt_of_le h.1 hb.size, fun i hi => (hb.cell (p := ⟨P, i, none⟩) h.1).trans (h.2 i hi)⟩
theorem partsIn_new (w : World) : PartsIn (w.alloc (.cells partsV 9)) w.heap.size :=
  ⟨by simp, fun i hi => bk_cell (bk_new _ _) (parts_get i hi)⟩
def WordsPost (w0 : World) (e : Ending) (w' : World) : Prop := ∃ S, e = .returned (.string S) ∧ S.size ≤ 810 ∧ Past w0 w'
set_option maxRecDepth 100000 in
set_option maxHeartbeats 4000000 in
theorem words_some (b off len cap : Nat) (z : List Int) (tight : Bool) {w0 w : World} (hlen : len ≤ 9223372036854775807) (hb : b < w0.heap.size)
    (hc : ∀ i, i < len → w0.cell? ⟨b, off + i, none⟩ = some (.int .u8 (z.getD i 0)) ∧ 0 ≤ z.getD i 0 ∧ z.getD i 0 ≤ 255) (h : Past w0 w) :
    Calls Tryd.prog 9 #[.slice (some ⟨b, off, none⟩) len cap, .bool tight] w (WordsPost w0) := by
  have HC := Lib.hid hc
  have HB := Lib.hid hb
  have HP := Lib.hid h
  have HN := Lib.hid (partsIn_new w)
  unfold partsV at HN
  clear hc hb h
  go_enter Tryd.func9, Tryd.ntmps9
  go_wp2
  go_loopw [6, 7, 8] (fun s i _ wr => ∃ (k : Nat) (S : ByteArray), k ≤ 30 ∧ k ≤ len ∧ i = .int .i64 k ∧ s = .string S ∧ S.size ≤ 27 * k ∧ PartsIn wr w.heap.size ∧ Past w0 wr) (fun _ i _ _ => 31 - (intOf i).toNat)
  case atStart => exact ⟨0, _, by omega, by omega, rfl, rfl, Nat.le_refl 0, HN.out, HP.out.alloc _⟩
  case round =>
    obtain ⟨k, S, hk, hkl, rfl, rfl, hz, hpi, h1⟩ := hrel
    have HPI := Lib.hid hpi
    have H1 := Lib.hid h1
    clear hpi h1
    by_cases hlt : k < 30 ∧ k < len
    · obtain ⟨l1, l2⟩ := hlt
      obtain ⟨c1, c2, c3⟩ := HC.out k l2
      have c1' := (H1.out.cell (p := ⟨b, off + k, none⟩) HB.out).trans c1
      have hbw : b < wr.heap.size := Nat.lt_of_lt_of_le HB.out H1.out.size
      obtain ⟨x, hx⟩ : ∃ x : Int, x = z.getD k 0 := ⟨_, rfl⟩
      rw [← hx] at c1' c2 c3
      clear c1 hx
      obtain ⟨m, hm, hq⟩ : ∃ m : Nat, m < 55 ∧ ((x < 230 ∧ x % 48 = (m : Int) ∧ ((m : Int)) % 55 = (m : Int)) ∨ (¬ x < 230 ∧ x % 55 = (m : Int))) := by
        by_cases h230 : x < 230
        · exact ⟨(x % 48).toNat, by omega, .inl ⟨h230, by omega, by omega⟩⟩
        · exact ⟨(x % 55).toNat, by omega, .inr ⟨h230, by omega⟩⟩
      have pz := part_size m hm
      have q := HPI.out.2 m hm
      have hm4 : x % 4 = 0 ∨ x % 4 = 1 ∨ x % 4 = 2 ∨ x % 4 = 3 := by omega
      have y0 : ({ data := #[32] } : ByteArray).size ≤ 2 := by decide
      have y1 : ({ data := #[9] } : ByteArray).size ≤ 2 := by decide
      have y2 : ({ data := #[10] } : ByteArray).size ≤ 2 := by decide
      have y3 : ({ data := #[32, 13] } : ByteArray).size ≤ 2 := by decide
      cases tight
      · rcases hq with ⟨h230, hq1, hq2⟩ | ⟨h230, hq1⟩
        all_goals
          rcases hm4 with h4 | h4 | h4 | h4
          all_goals
            go_wp2
            go_roundw
            case rel => exact ⟨k + 1, _, by omega, by omega, by go_num, rfl, by rw [ByteArray.size_append, ByteArray.size_append]; omega, HPI.out.on ((Below.refl _ _).alloc (Nat.le_refl _) _), H1.out.alloc _⟩
            case measure => simp [intOf]; omega
      · clear hm4
        rcases hq with ⟨h230, hq1, hq2⟩ | ⟨h230, hq1⟩
        all_goals
          go_wp2
          go_roundw
          case rel => exact ⟨k + 1, _, by omega, by omega, by go_num, rfl, by rw [ByteArray.size_append]; omega, HPI.out, H1.out⟩
          case measure => simp [intOf]; omega
    · have hc : (k < len ∧ ¬ k < 30) ∨ ¬ k < len := by omega
      clear hlt
      rcases hc with ⟨l1, l2⟩ | l1
      all_goals
        go_wp2
        go_ret
        exact ⟨S, rfl, by omega, H1.out⟩
theorem words_none (A : Option Addr) (cap : Nat) (tight : Bool) {w0 w : World} (h : Past w0 w) :
    Calls Tryd.prog 9 #[.slice A 0 cap, .bool tight] w (WordsPost w0) := by
  have HP := Lib.hid h
  clear h
  go_enter Tryd.func9, Tryd.ntmps9
  go_wp2
  go_loopw [6, 7, 8] (fun s i _ wr => i = .int .i64 (0 : Nat) ∧ s = .string { data := #[] } ∧ Past w0 wr) (fun _ i _ _ => 31 - (intOf i).toNat)
  case atStart => exact ⟨rfl, rfl, HP.out.alloc _⟩
  case round =>
    obtain ⟨rfl, rfl, h1⟩ := hrel
    have H1 := Lib.hid h1
    clear h1
    go_wp2
    go_ret
    exact ⟨_, rfl, Nat.zero_le _, H1.out⟩
theorem words_any (A : Option Addr) (len cap : Nat) (z : List Int) (tight : Bool) {w0 w : World} (hr : BytesIn w0 A len z) (h : Past w0 w) :
    Calls Tryd.prog 9 #[.slice A len cap, .bool tight] w (WordsPost w0) := by
  by_cases hp : 0 < len
  · obtain ⟨b, off, rfl, hb, hc⟩ := hr.2 hp
    exact words_some b off len cap z tight hr.1 hb hc h
  · obtain rfl : len = 0 := by omega
    exact words_none A cap tight h
end Go.Proofs.YtgfobalchpcgbaaDoor
