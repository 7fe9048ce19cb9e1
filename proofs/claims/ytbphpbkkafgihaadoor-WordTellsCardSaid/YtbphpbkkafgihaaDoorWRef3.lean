/- What the document's own Text (billhookref01) answers: a number's digits, as strconv tells them. -/
import Derived.Test.YtbphpbkkafgihaaDoorWRef2
namespace Go.Proofs.YtbphpbkkafgihaaDoor
open Go.RowKit

/-- What a round of the document's own Text holds: m is still to be told, d has been told of u. -/
def Told (u m : Nat) (d : ByteArray) : Prop := m ≤ u ∧ ((d.data.toList = [] ∧ m = u) ∨ (d.data.toList ≠ [] ∧ (if m = 0 then [] else Lib.decDigits m) ++ d.data.toList = Lib.decDigits u))
/-- The last digit of m. -/
def digV (m : Nat) : UInt8 := UInt8.ofNat (48 + m % 10)
def emptyV : Value → Nat | .string d => if d.data.toList = [] then 1 else 0 | _ => 0
theorem decDigits_split (m : Nat) : Lib.decDigits m = (if m / 10 = 0 then [] else Lib.decDigits (m / 10)) ++ [digV m] := by
  unfold digV
  rw [Lib.decDigits]
  split
  · rename_i h
    rw [if_pos (by omega), Nat.mod_eq_of_lt h]; rfl
  · rename_i h
    rw [if_neg (by omega)]
theorem cat_list (c : UInt8) (d : ByteArray) : ((ByteArray.mk #[c]) ++ d).data.toList = c :: d.data.toList := by simp
theorem told_step {u m : Nat} {d : ByteArray} (h : Told u m d) (hc : d.data.toList = [] ∨ 0 < m) : Told u (m / 10) ((ByteArray.mk #[digV m]) ++ d) := by
  obtain ⟨h1, h2⟩ := h
  refine ⟨by omega, .inr ⟨by rw [cat_list]; simp, ?_⟩⟩
  rw [cat_list]
  have e := decDigits_split m
  rcases h2 with ⟨h2, rfl⟩ | ⟨h2, h3⟩
  · rw [h2, e]
  · have hp : 0 < m := by rcases hc with hc | hc; exact absurd hc h2; exact hc
    rw [if_neg (by omega), e, List.append_assoc] at h3
    exact h3
theorem digits_len' (u : Nat) : (Lib.decDigits u).length ≤ u / 10 + 1 := by
  induction u using Nat.strongRecOn with
  | ind u ih =>
    rw [Lib.decDigits]
    split
    · simp
    · rename_i h
      have := ih (u / 10) (by omega)
      simp
      omega
theorem Told.size {u m : Nat} {d : ByteArray} (h : Told u m d) : d.size ≤ u / 10 + 1 := by
  have hl : d.size = d.data.toList.length := by simp
  rw [hl]
  rcases h.2 with ⟨e, _⟩ | ⟨_, e⟩
  · rw [e]; simp
  · have := congrArg List.length e
    rw [List.length_append] at this
    have := digits_len' u
    omega
theorem emptyV_cons (c : UInt8) (d : ByteArray) : emptyV (.string ((ByteArray.mk #[c]) ++ d)) = 0 := by
  unfold emptyV; simp
theorem emptyV_ne {d : ByteArray} (h : d.data.toList ≠ []) : emptyV (.string d) = 0 := if_neg h
theorem conv_one (w : World) (m : Nat) : (convert 61 9 (.slice (some ⟨w.heap.size, 0, none⟩) 1 1)).run Tryd.prog (w.alloc (.cells #[.int .u8 (48 + (m : Int) % 10)] 5)) = .ok (.string ⟨#[digV m]⟩) (w.alloc (.cells #[.int .u8 (48 + (m : Int) % 10)] 5)) := by
  refine run_convert_bytes_back _ 61 9 5 ⟨w.heap.size, 0, none⟩ 1 [digV m] Tryd.underlying61 Tryd.underlying5 Tryd.underlying9 ?_
  intro j hj
  simp at hj
  subst hj
  have e : (digV m).toNat = 48 + m % 10 := by unfold digV; simp; omega
  have ha : (Addr.mk w.heap.size 0 none).add 0 = ⟨w.heap.size, 0, none⟩ := rfl
  rw [ha, World.cell?_alloc_new]
  show some (Value.int .u8 (48 + (m : Int) % 10)) = some (.int .u8 ((digV m).toNat : Int))
  rw [e]
  congr 2

set_option maxRecDepth 100000 in
theorem rtext_pos (u : Nat) (hu : u ≤ 9223372036854775807) (w : World) :
    Calls Tryd.prog 23 #[.int .i64 (u : Int)] w fun e w' => e = .returned (.string ⟨(Lib.decDigits u).toArray⟩) ∧ Below w.heap.size w w' := by
  go_enter Tryd.func23, Tryd.ntmps23
  go_wp2
  go_loopw [3, 5] (fun x t wr => ∃ (m : Nat) (d : ByteArray), x = .int .u64 (m : Int) ∧ t = .string d ∧ Told u m d ∧ Below w.heap.size w wr) (fun x t _ => (intOf x).toNat + emptyV t)
  case atStart => exact ⟨u, _, rfl, rfl, ⟨Nat.le_refl _, .inl ⟨rfl, rfl⟩⟩, Below.refl _ _⟩
  case round =>
    obtain ⟨m, d, rfl, rfl, hT, hB⟩ := hrel
    have hTT : Hid (Told u m d) := Lib.hid hT
    have hsz := hT.size
    have hmu := hT.1
    have hcv := conv_one wr m
    have n1 : ¬ (10 : Int) = 0 := by decide
    rcases hT.2 with ⟨he, hm⟩ | ⟨he, hm⟩
    · have hd0 := of_list he
      subst hd0
      clear he hm hT
      go_wp2
      go_roundw
      case rel => exact ⟨m / 10, _, by first | rfl | simp, rfl, told_step hTT.out (.inl rfl), (hB.alloc hB.size _)⟩
      case measure => simp [intOf, emptyV]; omega
    · by_cases h0 : m = 0
      · subst h0
        rw [if_pos rfl, List.nil_append] at hm
        have HM : Hid (d.data.toList = Lib.decDigits u) := Lib.hid hm
        have s1 : d.toList = [] ↔ False := by rw [ByteArray.toList_eq]; exact ⟨fun e => he e, False.elim⟩
        have s2 : d.toList.isEmpty = false := by
          rw [ByteArray.toList_eq]
          cases e : d.data.toList with
          | nil => exact absurd e he
          | cons => rfl
        clear he hm hT
        go_wp2
        go_ret
        exact ⟨by show Ending.returned (.string (ByteArray.mk #[] ++ d)) = _; rw [← HM.out]; rfl, hB⟩
      · have hp : 0 < m := by omega
        have HN : Hid (d.data.toList ≠ []) := Lib.hid he
        have s1 : d.toList = [] ↔ False := by rw [ByteArray.toList_eq]; exact ⟨fun e => he e, False.elim⟩
        have s2 : d.toList.isEmpty = false := by
          rw [ByteArray.toList_eq]
          cases e : d.data.toList with
          | nil => exact absurd e he
          | cons => rfl
        clear he hm hT h0
        go_wp2
        go_roundw
        case rel => exact ⟨m / 10, _, by first | rfl | simp, rfl, told_step hTT.out (.inr hp), (hB.alloc hB.size _)⟩
        case measure => rw [emptyV_cons, emptyV_ne HN.out]; simp [intOf]; omega

set_option maxRecDepth 100000 in
theorem rtext_neg (u : Nat) (h1 : 1 ≤ u) (hu : u ≤ 9223372036854775808) (n : Int) (hn : n = -(u : Int)) (w : World) :
    Calls Tryd.prog 23 #[.int .i64 n] w fun e w' => e = .returned (.string ⟨(45 :: Lib.decDigits u).toArray⟩) ∧ Below w.heap.size w w' := by
  have k1 : n < 0 := by omega
  have k2 : -9223372036854775808 ≤ n := by omega
  have HU : Hid (IntKind.u64.wrap (-IntKind.u64.wrap n) = (u : Int)) := Lib.hid (by rw [IntKind.wrap_u64, IntKind.wrap_u64]; omega)
  clear hn
  go_enter Tryd.func23, Tryd.ntmps23
  go_wp2
  go_loopw [3, 5] (fun x t wr => ∃ (m : Nat) (d : ByteArray), x = .int .u64 (m : Int) ∧ t = .string d ∧ Told u m d ∧ Below w.heap.size w wr) (fun x t _ => (intOf x).toNat + emptyV t)
  case atStart => exact ⟨u, _, by first | rfl | rw [HU.out], rfl, ⟨Nat.le_refl _, .inl ⟨rfl, rfl⟩⟩, Below.refl _ _⟩
  case round =>
    obtain ⟨m, d, rfl, rfl, hT, hB⟩ := hrel
    have hTT : Hid (Told u m d) := Lib.hid hT
    have hsz := hT.size
    have hmu := hT.1
    have hcv := conv_one wr m
    have n1 : ¬ (10 : Int) = 0 := by decide
    rcases hT.2 with ⟨he, hm⟩ | ⟨he, hm⟩
    · have hd0 := of_list he
      subst hd0
      clear he hm hT
      go_wp2
      go_roundw
      case rel => exact ⟨m / 10, _, by first | rfl | simp, rfl, told_step hTT.out (.inl rfl), (hB.alloc hB.size _)⟩
      case measure => simp [intOf, emptyV]; omega
    · by_cases h0 : m = 0
      · subst h0
        rw [if_pos rfl, List.nil_append] at hm
        have HM : Hid (d.data.toList = Lib.decDigits u) := Lib.hid hm
        have s1 : d.toList = [] ↔ False := by rw [ByteArray.toList_eq]; exact ⟨fun e => he e, False.elim⟩
        have s2 : d.toList.isEmpty = false := by
          rw [ByteArray.toList_eq]
          cases e : d.data.toList with
          | nil => exact absurd e he
          | cons => rfl
        clear he hm hT
        go_wp2
        go_ret
        exact ⟨by show Ending.returned (.string (ByteArray.mk #[45] ++ d)) = _; rw [← HM.out]; rfl, hB⟩
      · have hp : 0 < m := by omega
        have HN : Hid (d.data.toList ≠ []) := Lib.hid he
        have s1 : d.toList = [] ↔ False := by rw [ByteArray.toList_eq]; exact ⟨fun e => he e, False.elim⟩
        have s2 : d.toList.isEmpty = false := by
          rw [ByteArray.toList_eq]
          cases e : d.data.toList with
          | nil => exact absurd e he
          | cons => rfl
        clear he hm hT h0
        go_wp2
        go_roundw
        case rel => exact ⟨m / 10, _, by first | rfl | simp, rfl, told_step hTT.out (.inr hp), (hB.alloc hB.size _)⟩
        case measure => rw [emptyV_cons, emptyV_ne HN.out]; simp [intOf]; omega

end Go.Proofs.YtbphpbkkafgihaaDoor
