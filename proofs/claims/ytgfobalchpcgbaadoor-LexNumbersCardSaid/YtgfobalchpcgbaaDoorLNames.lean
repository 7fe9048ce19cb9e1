/- The walk of LexNames: letters and digits that stand together are one word. -/
import Derived.Test.YtgfobalchpcgbaaDoorLEx
import Derived.Test.YtgfobalchpcgbaaDoorLRow
import Derived.Test.YtgfobalchpcgbaaDoorLLaid
import Derived.Laws.IdiomStrings
set_option linter.unusedSimpArgs false
set_option linter.unusedVariables false
namespace Go.Proofs.YtgfobalchpcgbaaDoor
open Go Go.RowKit

/-- Letters and digits, the first one a k. -/
structure Kish (S : ByteArray) (n : Nat) : Prop where
  size : S.size = n + 1
  all : ∀ c ∈ S.data.toList, isPt c = true
  head : S.data.toList.head? = some 107
theorem kish_start : Kish { data := #[107] } 0 := ⟨rfl, by decide, rfl⟩
theorem kish_more {S : ByteArray} {n : Nat} (h : Kish S n) (c : UInt8) (hc : isPt c = true) : Kish (S ++ ⟨#[c]⟩) (n + 1) := by
  have e : (S ++ ⟨#[c]⟩).data.toList = S.data.toList ++ [c] := by simp
  refine ⟨by rw [ByteArray.size_append, h.size]; rfl, fun d hd => ?_, ?_⟩
  · rw [e, List.mem_append, List.mem_singleton] at hd
    rcases hd with hd | rfl
    · exact h.all d hd
    · exact hc
  · rw [e]
    have := h.head
    cases el : S.data.toList with
    | nil => rw [el] at this; simp at this
    | cons a r => rw [el] at this; simpa using this
theorem tw_all {p : UInt8 → Bool} {l : List UInt8} (h : ∀ c ∈ l, p c = true) : l.takeWhile p = l := by
  induction l with
  | nil => rfl
  | cons a r ih => rw [List.takeWhile_cons_of_pos (h a List.mem_cons_self), ih (fun c hc => h c (List.mem_cons_of_mem _ hc))]
theorem kish_key {S : ByteArray} {n : Nat} (h : Kish S n) : isKeyL S.data.toList = false := by
  have := h.head
  cases el : S.data.toList with
  | nil => rw [el] at this; simp at this
  | cons a r =>
    rw [el] at this
    simp only [List.head?_cons, Option.some.injEq] at this
    subst this
    simp [isKeyL, keysL]
theorem kish_lex {S : ByteArray} {n : Nat} (h : Kish S n) : lexP 0 S.data.toList = if 24 < S.size then (none, 0) else (some [⟨1, S.data.toList, 0, 0⟩], S.size) := by
  have hk := kish_key h
  have ht := tw_all h.all
  have hl : S.data.toList.length = S.size := ba_len S
  have := h.head
  cases el : S.data.toList with
  | nil => rw [el] at this; simp at this
  | cons a r =>
    rw [el] at this hk ht hl
    simp only [List.head?_cons, Option.some.injEq] at this
    subst this
    have hw : wordOf (107 :: r) = if 24 < S.size then none else some (1, S.size, 0) := by
      rw [wordOf_letter (by decide), ht, hk, hl]; simp
    by_cases h24 : 24 < S.size
    · rw [if_pos h24] at hw ⊢
      exact lexP_bad 0 r (by decide) hw
    · rw [if_neg h24] at hw ⊢
      rw [lexP_word 0 r (by decide) hw]
      rw [← hl, List.take_length, List.drop_length]
      simp [pre, lexP_nil]
section
variable {w0 w : World}
theorem names_long (S : ByteArray) (n : Nat) (hn : n ≤ 30) (hk : Kish S n) (hz : 24 < S.size) (H : Errs w0) (h : Past w0 w) :
    Calls Tryd.prog 10 #[.string S] w fun e w' => e = .returned (.tuple #[.slice none 0 0, .int .i64 0, .int .i64 2]) ∧ Past w0 w' :=
  (all_err S (by rw [hk.size]; omega) H h (p := 0) (by rw [kish_lex hk, if_pos hz])).mono fun e w' ⟨he, _, hp⟩ => ⟨he, hp⟩
theorem names_word (S : ByteArray) (n : Nat) (hn : n ≤ 30) (hk : Kish S n) (hz : ¬ 24 < S.size) (H : Errs w0) (h : Past w0 w) :
    Calls Tryd.prog 10 #[.string S] w fun e w' => ∃ g cap, e = .returned (.tuple #[.slice (some ⟨g, 0, none⟩) 1 cap, .int .i64 S.size, .int .i64 0]) ∧ w'.cell? ⟨g, 0, none⟩ = some (.int .i64 1) ∧ w'.cell? ⟨g, 1, none⟩ = some (.string S) ∧ Past w0 w' :=
  (all_toks S (by rw [hk.size]; omega) H h (ts := [⟨1, S.data.toList, 0, 0⟩]) (n := S.size) (by rw [kish_lex hk, if_neg hz]) (by simp)).mono fun e w' ⟨g, cap, he, ht, _, _, hp⟩ => ⟨g, cap, he, ht.2 0 _ rfl, ht.2 1 _ rfl, hp⟩
end
theorem conv_byte (w : World) (c : UInt8) : (convert 22 9 (.slice (some ⟨w.heap.size, 0, none⟩) 1 1)).run Tryd.prog (w.alloc (.cells #[.int .u8 (c.toNat : Int)] 5)) = .ok (.string ⟨#[c]⟩) (w.alloc (.cells #[.int .u8 (c.toNat : Int)] 5)) :=
  run_convert_bytes_back _ 22 9 5 ⟨w.heap.size, 0, none⟩ 1 [c] Tryd.underlying22 Tryd.underlying5 Tryd.underlying9 (fun j hj => by
    obtain rfl : j = 0 := by simp at hj; omega
    rw [add_zero']
    exact bk_cell (bk_new _ _) rfl)
set_option maxRecDepth 100000 in
set_option maxHeartbeats 4000000 in
theorem names_some (b off len cap : Nat) (z : List Int) (w0 : World) (hlen : len ≤ 9223372036854775807) (hpos : 0 < len) (hb : b < w0.heap.size)
    (hc : ∀ i, i < len → w0.cell? ⟨b, off + i, none⟩ = some (.int .u8 (z.getD i 0)) ∧ 0 ≤ z.getD i 0 ∧ z.getD i 0 ≤ 255) (H0 : Errs w0) :
    Calls Tryd.prog 4 #[.slice (some ⟨b, off, none⟩) len cap] w0 fun e w' => e = .returned (.bool true) ∧ Past w0 w' := by
  have H := Lib.hid H0
  have HC := Lib.hid hc
  have HB := Lib.hid hb
  have kc := conv_byte
  clear H0 hc hb
  go_enter Tryd.func4, Tryd.ntmps4
  go_wp2_with (go_at_call 8; refine (ex_any H.out _ (Past.refl w0)).mono ?_; rintro e w1 ⟨rfl, h1⟩; have H1 := Lib.hid h1; clear h1)
  go_loopw [4, 5] (fun s i wr => ∃ (k : Nat) (S : ByteArray), k ≤ 30 ∧ k ≤ len ∧ i = .int .i64 k ∧ s = .string S ∧ Kish S k ∧ Past w0 wr) (fun _ i _ => 31 - (intOf i).toNat)
  case atStart => exact ⟨0, _, by omega, by omega, rfl, rfl, kish_start, H1.out⟩
  case round =>
    clear H1
    obtain ⟨k, S, hk, hkl, rfl, rfl, hS, h1⟩ := hrel
    have HS := Lib.hid hS
    have H1 := Lib.hid h1
    clear hS h1
    by_cases hlt : k < 30 ∧ k < len
    · obtain ⟨l1, l2⟩ := hlt
      obtain ⟨c1, c2, c3⟩ := HC.out k l2
      have c1' := (H1.out.cell (p := ⟨b, off + k, none⟩) HB.out).trans c1
      have hz := HS.out.size
      have hm : z.getD k 0 % 10 = 0 ∨ z.getD k 0 % 10 = 1 ∨ z.getD k 0 % 10 = 2 ∨ z.getD k 0 % 10 = 3 ∨ z.getD k 0 % 10 = 4 ∨ z.getD k 0 % 10 = 5 ∨ z.getD k 0 % 10 = 6 ∨ z.getD k 0 % 10 = 7 ∨ z.getD k 0 % 10 = 8 ∨ z.getD k 0 % 10 = 9 := by omega
      obtain ⟨x, hx⟩ : ∃ x : Int, x = z.getD k 0 := ⟨_, rfl⟩
      rw [← hx] at c1' c2 c3 hm
      clear c1 hx
      rcases hm with hm | hm | hm | hm | hm | hm | hm | hm | hm | hm
      all_goals
        go_wp2
        go_roundw
        case rel => exact ⟨k + 1, _, by omega, by omega, by go_num, rfl, kish_more HS.out _ (by decide), H1.out.alloc _⟩
        case measure => simp [intOf]; omega
    · have hz := HS.out.size
      have hkey := kish_key HS.out
      have hsz : 0 < S.size := by omega
      have hl0 : ltI ((S[0]'hsz).toNat : Int) = true := by
        have h1 := HS.out.head
        rw [List.head?_eq_getElem?, List.getElem?_eq_getElem (show 0 < S.data.toList.length by rw [ba_len]; omega), Option.some.injEq] at h1
        have h2 : S[0]'hsz = 107 := h1
        rw [h2]; decide
      have ht : tw isPt S = S.size := by unfold tw; rw [tw_all HS.out.all, ba_len]
      have HN := Lib.hid ht
      clear ht
      have hc : (k < len ∧ ¬ k < 30) ∨ ¬ k < len := by omega
      clear hlt
      by_cases h24 : 24 < S.size
      · clear hl0 hkey
        rcases hc with ⟨l1, l2⟩ | l1
        all_goals
          go_wp2_with (first
            | (go_at_call 10; refine (names_long S _ hk HS.out h24 H.out H1.out).mono ?_; rintro e w2 ⟨rfl, h2⟩)
            | (go_at_call 11; refine (isName_long S h24 _).mono ?_; rintro e w' ⟨rfl, rfl⟩))
          go_ret
          exact ⟨rfl, h2⟩
      · have HL := Lib.hid hl0
        clear hl0
        have HKEY := Lib.hid hkey
        clear hkey
        rcases hc with ⟨l1, l2⟩ | l1
        · exfalso; omega
        · go_wp2_with (first
            | (go_at_call 10; refine (names_word S _ hk HS.out h24 H.out H1.out).mono ?_; rintro e w2 ⟨g, cap, rfl, q0, q1, h2⟩; have H2 := Lib.hid h2; clear h2)
            | (go_at_call 11; refine (isName_word S hsz (by omega) HKEY.out HL.out HN.out _).mono ?_; rintro e w' ⟨rfl, rfl⟩)
            | (go_at_call 12; refine (isKey_any _ _).mono ?_; rintro e w' ⟨rfl, rfl⟩; rw [HKEY.out]))
          go_ret
          exact ⟨rfl, H2.out⟩
set_option maxRecDepth 100000 in
set_option maxHeartbeats 4000000 in
theorem names_none (A : Option Addr) (cap : Nat) (w0 : World) (H0 : Errs w0) :
    Calls Tryd.prog 4 #[.slice A 0 cap] w0 fun e w' => e = .returned (.bool true) ∧ Past w0 w' := by
  have H := Lib.hid H0
  have hS := kish_start
  have hz := hS.size
  have HKEY := Lib.hid (kish_key hS)
  have ht : tw isPt { data := #[107] } = ByteArray.size { data := #[107] } := by decide
  have HN := Lib.hid ht
  have HS := Lib.hid hS
  clear hS H0 ht hz
  go_enter Tryd.func4, Tryd.ntmps4
  go_wp2_with (go_at_call 8; refine (ex_any H.out _ (Past.refl w0)).mono ?_; rintro e w1 ⟨rfl, h1⟩; have H1 := Lib.hid h1; clear h1)
  go_loopw [4, 5] (fun s i wr => i = .int .i64 (0 : Nat) ∧ s = .string { data := #[107] } ∧ Past w0 wr) (fun _ i _ => 31 - (intOf i).toNat)
  case atStart => exact ⟨rfl, rfl, H1.out⟩
  case round =>
    clear H1
    obtain ⟨rfl, rfl, h1⟩ := hrel
    have H1 := Lib.hid h1
    clear h1
    go_wp2_with (first
      | (go_at_call 10; refine (names_word { data := #[107] } 0 (by omega) HS.out (by decide) H.out H1.out).mono ?_; rintro e w2 ⟨g, cap, rfl, q0, q1, h2⟩; have H2 := Lib.hid h2; clear h2)
      | (go_at_call 11; refine (isName_word { data := #[107] } (by decide) (by decide) HKEY.out (by decide) HN.out _).mono ?_; rintro e w' ⟨rfl, rfl⟩)
      | (go_at_call 12; refine (isKey_any _ _).mono ?_; rintro e w' ⟨rfl, rfl⟩; rw [HKEY.out]))
    go_ret
    exact ⟨rfl, H2.out⟩
theorem lexNames_walk (a0 : Option Addr) (len0 cap0 : Nat) (z0 : List Int) (w : World) (H : Errs w) (hr : RowIn .u8 w a0 len0 z0) :
    Calls Tryd.prog 4 #[.slice a0 len0 cap0] w fun e w' => e = .returned (.bool true) ∧ Below w.heap.size w w' := by
  have h0 := bytes_of_row hr
  by_cases hp : 0 < len0
  · obtain ⟨b, off, rfl, hb, hc⟩ := h0.2 hp
    exact names_some b off len0 cap0 z0 w h0.1 hp hb hc H
  · obtain rfl : len0 = 0 := by omega
    exact names_none a0 cap0 w H
end Go.Proofs.YtgfobalchpcgbaaDoor
