/- A statement has the tag that stands ahead of it, none where none does; a tag of 0 is wrong, and so is one that stands ahead of nothing: the walk of ParseTags. (Written by gentag.py.) -/
import Derived.Test.YtgkdoealhbhnmaaGreatDoorPAns
import Derived.Test.YtgkdoealhbhnmaaGreatDoorPTagM
import Derived.Laws.IdiomStrings
set_option linter.unusedSimpArgs false
set_option linter.unusedVariables false
namespace Go.Proofs.YtgkdoealhbhnmaaGreatDoor.Pm
open Go Go.RowKit Go.Proofs.YtgkdoealhbhnmaaGreatDoor
open Go.Lib (hid)
open Go.Lib (decDigits)
open Go.Lib (hid)

def DigSt (N j : Nat) (D : List UInt8) : Prop := ((0 < j ∨ D = []) ∧ decDigits N = decDigits j ++ D) ∨ (j = 0 ∧ D = decDigits N)
theorem dig_start (N : Nat) : DigSt N N [] := .inl ⟨.inr rfl, by simp⟩
theorem dig_step {N j : Nat} {D : List UInt8} (h : decDigits N = decDigits j ++ D) : DigSt N (j / 10) (UInt8.ofNat (48 + j % 10) :: D) := by
  by_cases h10 : j < 10
  · refine .inr ⟨by omega, ?_⟩
    rw [h, dec_one j h10, show j % 10 = j by omega]; rfl
  · refine .inl ⟨.inl (by omega), ?_⟩
    rw [h, dec_more j h10, List.append_assoc]; rfl
theorem dig_live {N j : Nat} {D : List UInt8} (h : DigSt N j D) (hl : 0 < j ∨ D = []) : decDigits N = decDigits j ++ D := by
  rcases h with h | ⟨rfl, rfl⟩
  · exact h.2
  · rcases hl with hl | hl
    · omega
    · exact absurd hl (dec_ne N)
theorem dig_end {N : Nat} {D : List UInt8} (h : DigSt N 0 D) (hd : D ≠ []) : D = decDigits N := by
  rcases h with ⟨h | h, _⟩ | ⟨_, h⟩
  · omega
  · exact absurd h hd
  · exact h
theorem dig_len {N j : Nat} {D : List UInt8} (h : DigSt N j D) (hN : N < 18446744073709551616) : D.length ≤ 20 := by
  have hl := dec_len N hN
  rcases h with ⟨_, h⟩ | ⟨_, h⟩
  · rw [h, List.length_append] at hl; omega
  · rw [h]; exact hl
def dgS (j : Nat) : ByteArray := ⟨#[UInt8.ofNat (48 + j % 10)]⟩
theorem bs_data (l : List UInt8) : (bs l).data.toList = l := rfl
theorem bs_size (l : List UInt8) : (bs l).size = l.length := by show (List.toArray l).size = _; simp
theorem bs_cons (j : Nat) (D : List UInt8) : dgS j ++ bs D = bs (UInt8.ofNat (48 + j % 10) :: D) := by
  apply Lx.ba_ext
  simp [dgS, bs]
theorem bs_empty (D : List UInt8) : (bs D).toList.isEmpty = D.isEmpty := by rw [ByteArray.toList_eq, bs_data]
theorem bs_nil (D : List UInt8) : (bs D).toList = [] ↔ D = [] := by rw [ByteArray.toList_eq, bs_data]
theorem conv_byte (w : World) (c : UInt8) : (convert 25 9 (.slice (some ⟨w.heap.size, 0, none⟩) 1 1)).run Tryz.prog (w.alloc (.cells #[.int .u8 (c.toNat : Int)] 5)) = .ok (.string ⟨#[c]⟩) (w.alloc (.cells #[.int .u8 (c.toNat : Int)] 5)) :=
  run_convert_bytes_back _ 25 9 5 ⟨w.heap.size, 0, none⟩ 1 [c] Tryz.underlying25 Tryz.underlying5 Tryz.underlying9 (fun j hj => by
    obtain rfl : j = 0 := by simp at hj; omega
    rw [add_zero']
    exact bk_cell (bk_new _ _) rfl)
theorem conv_digit (j : Nat) (w : World) : (convert 25 9 (.slice (some ⟨w.heap.size, 0, none⟩) 1 1)).run Tryz.prog (w.alloc (.cells #[.int .u8 (48 + (j : Int) % 10)] 5)) = .ok (.string (dgS j)) (w.alloc (.cells #[.int .u8 (48 + (j : Int) % 10)] 5)) := by
  have h := conv_byte w (UInt8.ofNat (48 + j % 10))
  have e : ((UInt8.ofNat (48 + j % 10)).toNat : Int) = 48 + (j : Int) % 10 := by
    have : (UInt8.ofNat (48 + j % 10)).toNat = 48 + j % 10 := by simp; omega
    omega
  rw [e] at h
  exact h
def noneYet (v : Value) : Nat := match v with | .string b => if b.size = 0 then 1 else 0 | _ => 0
theorem noneYet_bs (D : List UInt8) : noneYet (.string (bs D)) = if D.length = 0 then 1 else 0 := by
  show (if (bs D).size = 0 then 1 else 0) = _
  rw [bs_size]
def sbl : List ByteArray := [{ data := #[97, 32, 61, 32, 49, 59] }, { data := #[120, 91, 48, 93, 32, 61, 32, 50, 59] }, { data := #[97, 32, 61, 32, 114, 101, 97, 100, 40, 41, 59] }, { data := #[97, 32, 61, 32, 102, 40, 49, 44, 32, 97, 41, 59] }, { data := #[105, 102, 32, 40, 97, 41, 32, 123, 32, 125] }, { data := #[119, 104, 105, 108, 101, 32, 40, 97, 41, 32, 123, 32, 125] }, { data := #[98, 114, 101, 97, 107, 59] }, { data := #[99, 111, 110, 116, 105, 110, 117, 101, 59] }, { data := #[114, 101, 116, 117, 114, 110, 32, 49, 59] }, { data := #[97, 115, 115, 101, 114, 116, 40, 97, 41, 59] }]
def sb (k : Nat) : ByteArray := sbl.getD k { data := #[] }
abbrev sbC : Array Value := #[.string { data := #[97, 32, 61, 32, 49, 59] }, .string { data := #[120, 91, 48, 93, 32, 61, 32, 50, 59] }, .string { data := #[97, 32, 61, 32, 114, 101, 97, 100, 40, 41, 59] }, .string { data := #[97, 32, 61, 32, 102, 40, 49, 44, 32, 97, 41, 59] }, .string { data := #[105, 102, 32, 40, 97, 41, 32, 123, 32, 125] }, .string { data := #[119, 104, 105, 108, 101, 32, 40, 97, 41, 32, 123, 32, 125] }, .string { data := #[98, 114, 101, 97, 107, 59] }, .string { data := #[99, 111, 110, 116, 105, 110, 117, 101, 59] }, .string { data := #[114, 101, 116, 117, 114, 110, 32, 49, 59] }, .string { data := #[97, 115, 115, 101, 114, 116, 40, 97, 41, 59] }]
abbrev kdC : Array Value := #[.int .i64 0, .int .i64 1, .int .i64 2, .int .i64 3, .int .i64 4, .int .i64 5, .int .i64 6, .int .i64 7, .int .i64 8, .int .i64 9]
theorem sbC_is : sbC = (sbl.map Value.string).toArray := rfl
theorem sbC_at (k : Nat) (h : k < 10) : sbC[k]? = some (.string (sb k)) := by
  have hl : k < sbl.length := h
  rw [sbC_is, List.getElem?_toArray, List.getElem?_map, List.getElem?_eq_getElem hl]
  simp only [Option.map_some, sb, List.getD_eq_getElem?_getD, List.getElem?_eq_getElem hl, Option.getD_some]
theorem kdC_at (k : Nat) (h : k < 10) : kdC[k]? = some (.int .i64 (k : Nat)) := by
  match k, h with
  | 0, _ => rfl
  | 1, _ => rfl
  | 2, _ => rfl
  | 3, _ => rfl
  | 4, _ => rfl
  | 5, _ => rfl
  | 6, _ => rfl
  | 7, _ => rfl
  | 8, _ => rfl
  | 9, _ => rfl
theorem sb_is (k : Nat) (h : k < 10) : (sb k).data.toList = tgS k ∧ (sb k).size ≤ 20 := by
  have : ∀ k : _root_.Fin 10, (sb k.val).data.toList = tgS k.val ∧ (sb k.val).size ≤ 20 := by decide +kernel
  exact this ⟨k, h⟩
theorem tag_text {D S sb : ByteArray} {d : List UInt8} {k : Nat} (hD : D.data.toList = d) (hS : S.data.toList = tgS k) (h : sb = { data := #[102, 117, 110, 99, 32, 109, 97, 105, 110, 40, 41, 32, 123, 32, 64] } ++ D ++ { data := #[32] } ++ S ++ { data := #[32] } ++ S ++ { data := #[32, 125] }) : sb.data.toList = tgT k d := by
  rw [h]
  simp [tgT, tgB, hD, hS]
theorem tgT_len (k : Nat) (d : List UInt8) (hk : k < 10) : (tgT k d).length ≤ 60 + d.length := by
  have : ∀ k : _root_.Fin 10, (tgB k.val).length ≤ 40 := by decide
  have := this ⟨k, hk⟩
  simp only [tgT, List.length_append, List.length_cons, List.length_nil]
  simp only at this
  omega
theorem len_two {α : Type} : ∀ (l : List α), l.length = 2 → ∃ a b, l = [a, b]
  | [a, b], _ => ⟨a, b, rfl⟩
  | [], h => by cases h
  | [_], h => by cases h
  | _ :: _ :: _ :: _, h => by simp at h
def RS.kd : RS → Int
  | .asg _ _ _ => 0
  | .sto _ _ _ _ => 1
  | .rd _ _ => 2
  | .call _ _ _ _ => 3
  | .ife _ _ _ _ => 4
  | .whl _ _ _ => 5
  | .brk _ => 6
  | .cnt _ => 7
  | .ret _ _ => 8
  | .ass _ _ => 9
theorem kd_rs {S : ST} (h : S.rightB = true) : RS.kd S.rs = S.kind := by
  obtain ⟨k, t, n, f, ea, ec, x, ba, bc, b, la, lc, l⟩ := S
  rw [ST.rightB] at h
  simp only [Bool.and_eq_true] at h
  have h1 := h.1.1.1
  have hk : k = 0 ∨ k = 1 ∨ k = 2 ∨ k = 3 ∨ k = 4 ∨ k = 5 ∨ k = 6 ∨ k = 7 ∨ k = 8 ∨ k = 9 := by
    refine Decidable.byContradiction fun hc => ?_
    simp only [not_or] at hc
    obtain ⟨c0, c1, c2, c3, c4, c5, c6, c7, c8, c9⟩ := hc
    unfold formedS at h1
    rw [if_neg c0, if_neg c1, if_neg c2, if_neg c3, if_neg c4, if_neg c5, if_neg c6, if_neg c7, if_neg c8, if_neg c9] at h1
    split at h1 <;> cases h1
  rcases hk with rfl | rfl | rfl | rfl | rfl | rfl | rfl | rfl | rfl | rfl <;> rw [ST.rs] <;> rfl
theorem tgR_kind (k t : Nat) (hk : k < 10) {S : ST} (h : S.rightB = true) (e : S.rs = tgR k t) : S.kind = (k : Nat) := by
  rw [← kd_rs h, e]
  match k, hk with
  | 0, _ => rfl
  | 1, _ => rfl
  | 2, _ => rfl
  | 3, _ => rfl
  | 4, _ => rfl
  | 5, _ => rfl
  | 6, _ => rfl
  | 7, _ => rfl
  | 8, _ => rfl
  | 9, _ => rfl
theorem two_tags {k t : Nat} (hk : k < 10) {a : Option Addr} {l : List FT} {w : World} {A : Nat} (h1 : l.map FT.rf = [tgF k t]) (h2 : l.all FT.rightB = true) (h3 : FsIn w A a l) : ∃ b o b2 o2 c2, a = some ⟨b, o, none⟩ ∧ l.length = 1 ∧ w.cell? ⟨b, o + 3, none⟩ = some (.slice (some ⟨b2, o2, none⟩) 2 c2) ∧ w.cell? ⟨b2, o2, none⟩ = some (.int .i64 (k : Nat)) ∧ w.cell? ⟨b2, o2 + 1, none⟩ = some (.int .i64 (t : Nat)) ∧ w.cell? ⟨b2, o2 + 7, none⟩ = some (.int .i64 (k : Nat)) ∧ w.cell? ⟨b2, o2 + 7 + 1, none⟩ = some (.int .i64 0) := by
  have hl1 : l.length = 1 := by have := congrArg List.length h1; simpa using this
  obtain ⟨K, rfl⟩ := List.length_eq_one_iff.1 hl1
  simp only [List.map_cons, List.map_nil, List.cons.injEq, and_true] at h1
  simp only [List.all_cons, List.all_nil, Bool.and_true] at h2
  have hb : rss K.body = [tgR k t, tgR k 0] := by
    have : K.rf.body = (tgF k t).body := by rw [h1]
    exact this
  have hbl : K.body.length = 2 := by have := congrArg List.length hb; rw [rss_map, List.length_map] at this; exact this
  obtain ⟨S, S2, hS⟩ := len_two _ hbl
  obtain ⟨b, o, e, -, hc⟩ := h3.row 0 (by simp)
  have hss := (h3.fs 0 (by simp)).ss
  have hc3 := hc 3 (.slice K.ba K.body.length K.bc) rfl
  simp only [List.getElem_cons_zero] at hss
  rw [hS] at hss hb hc3
  rw [SsIn, SsIn] at hss
  obtain ⟨⟨b2, o2, e2, -, hd⟩, hin1, ⟨b2', o2', e2', -, hd2⟩, hin2, -⟩ := hss
  rw [e2] at hc3 e2'
  simp only [Option.some.injEq, Addr.mk.injEq, and_true] at e2'
  obtain ⟨rfl, rfl⟩ := e2'
  simp only [rss, List.cons.injEq, and_true] at hb
  have hrt : S.rightB = true ∧ S2.rightB = true := by
    simp only [FT.rightB, Bool.and_eq_true] at h2
    have h5 := h2.2.2.2
    rw [hS] at h5
    simp only [rightSs, Bool.and_true, Bool.and_eq_true] at h5
    exact h5
  have q1 := tag_of hrt.1 (t := t) (by rw [hb.1, tgR_put k t hk]; exact tag_put _ _)
  have q2 := tag_of hrt.2 (t := 0) (by rw [hb.2, tgR_put k 0 hk]; exact tag_put _ _)
  have p1 := tgR_kind k t hk hrt.1 hb.1
  have p2 := tgR_kind k 0 hk hrt.2 hb.2
  have d0 := hd 0 (.int .i64 S.kind) (by rw [ST.cells_eq]; rfl)
  have d1 := hd 1 (.int .i64 S.tag) (by rw [ST.cells_eq]; rfl)
  have d2 := hd2 0 (.int .i64 S2.kind) (by rw [ST.cells_eq]; rfl)
  have d3 := hd2 1 (.int .i64 S2.tag) (by rw [ST.cells_eq]; rfl)
  rw [p1] at d0
  rw [q1] at d1
  rw [p2] at d2
  rw [q2] at d3
  refine ⟨b, o, b2, o2, K.bc, e, rfl, ?_, ?_, ?_, ?_, ?_⟩
  · rw [show o + 0 * 4 + 3 = o + 3 by omega] at hc3; exact hc3
  · rw [show o2 + 0 * 7 + 0 = o2 by omega] at d0; exact d0
  · rw [show o2 + 0 * 7 + 1 = o2 + 1 by omega] at d1; exact d1
  · rw [show o2 + (0 + 1) * 7 + 0 = o2 + 7 by omega] at d2; exact d2
  · rw [show o2 + (0 + 1) * 7 + 1 = o2 + 7 + 1 by omega] at d3; exact d3
theorem parse_tags {k t : Nat} {w : World} (H : Wo w) (hk : k < 10) (h1 : 1 ≤ t) (h2 : t ≤ 1000000) (sb : ByteArray) (hs : sb.data.toList = tgT k (decDigits t)) : Calls Tryz.prog 13 #[.string sb] w fun e w' => Below w.heap.size w w' ∧ ∃ (b o c b2 o2 c2 : Nat) (z : Int), e = .returned (.tuple #[.agg #[.slice (some ⟨b, o, none⟩) 1 c], .int .i64 z, .int .i64 0]) ∧ w'.cell? ⟨b, o + 3, none⟩ = some (.slice (some ⟨b2, o2, none⟩) 2 c2) ∧ w'.cell? ⟨b2, o2, none⟩ = some (.int .i64 (k : Nat)) ∧ w'.cell? ⟨b2, o2 + 1, none⟩ = some (.int .i64 (t : Nat)) ∧ w'.cell? ⟨b2, o2 + 7, none⟩ = some (.int .i64 (k : Nat)) ∧ w'.cell? ⟨b2, o2 + 7 + 1, none⟩ = some (.int .i64 0) := by
  obtain ⟨m, hm⟩ := tag_good hk h1 h2
  obtain ⟨mo, ev⟩ := hm m (Nat.le_refl _)
  have hz : sb.size ≤ 8192 := by
    show sb.data.toList.length ≤ 8192
    rw [hs]
    have := tgT_len k (decDigits t) hk
    have := dec_len t (by omega)
    omega
  refine (pParse_any m sb hz H.er (by rw [hs]; exact finA_ok ev)).mono ?_
  intro e w' hq
  rw [hs] at hq
  have ev' : parseF m (tgT k (decDigits t)) = .ok [tgF k t] mo := ev
  rw [ev'] at hq
  obtain ⟨hb, v, rfl, a, c, l, rfl, h1, h2, h3, h4⟩ := hq
  obtain ⟨b, o, b2, o2, c2, rfl, hl, g⟩ := two_tags hk h1 h2 h3
  rw [hl]
  exact ⟨hb, b, o, c, b2, o2, c2, _, rfl, g⟩
set_option maxHeartbeats 8000000 in
set_option maxRecDepth 100000 in
theorem tags_go (a0 a1 : Int) (h0 : 0 ≤ a0 ∧ a0 ≤ 4294967295) (h1 : 0 ≤ a1 ∧ a1 ≤ 255) (w : World) (H : Wo w) :
    Calls Tryz.prog 9 #[.int .u32 a0, .int .u8 a1] w fun e w' => e = .returned (.bool true) ∧ Below w.heap.size w w' := by
  obtain ⟨h00, h01⟩ := h0
  obtain ⟨h10, h11⟩ := h1
  obtain ⟨n, hn, en⟩ : ∃ n : Nat, n ≤ 1000001 ∧ a0 % 1000002 = n := ⟨(a0 % 1000002).toNat, by omega, by omega⟩
  obtain ⟨k, hk, ek⟩ : ∃ k : Nat, k < 10 ∧ a1 % 10 = k := ⟨(a1 % 10).toNat, by omega, by omega⟩
  have HO := hid H
  clear H
  have k0 : (0 : Int) ≤ k := by omega
  have k1 : (k : Int) < 10 := by omega
  go_enter Tryz.func9, Tryz.ntmps9
  go_upto_region 5 with (go_at_call 10; refine (ex_any HO.out).mono ?_; rintro e w1 ⟨rfl, hp⟩; have HP1 := hid hp; clear hp)
  have hS := bk_new w1 (.cells sbC 9)
  have cs : (w1.alloc (.cells sbC 9)).cell? ⟨w1.heap.size, k, none⟩ = some (.string (sb k)) := bk_cell hS (sbC_at k hk)
  have HK := hid hk
  have HNN := hid hn
  clear hS hk hn
  go_wp2
  have hK : ((w1.alloc (.cells sbC 9)).alloc (.cells kdC 3)).heap[w1.heap.size + 1]? = some (.cells kdC 3 (0, 0)) := bk_new' _ (by simp)
  have HP2 : Hid (Past w ((w1.alloc (.cells sbC 9)).alloc (.cells kdC 3))) := hid ((HP1.out.alloc _).alloc _)
  clear HP1 cs
  generalize (w1.alloc (.cells sbC 9)).alloc (.cells kdC 3) = w3 at hK HP2 ⊢
  generalize w1.heap.size + 1 = KB at hK ⊢
  have HKB := hid hK
  clear hK
  obtain ⟨hs1, hs2⟩ := sb_is k HK.out
  generalize sb k = Sb at hs1 hs2 ⊢
  have HSb := hid hs1
  clear hs1
  go_loopw [9, 10] (fun s kk wr => ∃ (j : Nat) (D : List UInt8), kk = .int .i64 j ∧ s = .string (bs D) ∧ DigSt n j D ∧ j ≤ n ∧ Past w3 wr) (fun s kk _ => (intOf kk).toNat + noneYet s)
  case atStart => exact ⟨n, [], rfl, rfl, dig_start n, Nat.le_refl _, Past.refl _⟩
  case round =>
    obtain ⟨j, D, rfl, rfl, hdig, hjN, h1⟩ := hrel
    have hj64 : j ≤ 1000001 := by have := HNN.out; omega
    have HD := hid hdig
    have H1 := hid h1
    clear hdig h1
    by_cases hlive : 0 < j ∨ D = []
    · have kc := conv_digit j
      have hd1 : (dgS j).size ≤ 1 := Nat.le_refl 1
      have b1 : 0 ≤ (j : Int) % 10 := by omega
      have b2 : (j : Int) % 10 ≤ 9 := by omega
      have HL := hid hlive
      obtain ⟨S, hS⟩ : ∃ S, S = bs D := ⟨_, rfl⟩
      have hb : S.toList.isEmpty = D.isEmpty := by rw [hS]; exact bs_empty D
      have hz : S.size ≤ 20 := by rw [hS, bs_size]; exact dig_len HD.out (by have := HNN.out; omega)
      have HS := hid hS
      rw [← hS]
      clear hS
      have hcase : (D = [] ∧ S.toList.isEmpty = true ∧ (S.toList = [] ↔ True)) ∨ (D ≠ [] ∧ S.toList.isEmpty = false ∧ (S.toList = [] ↔ False) ∧ 0 < j) := by
        cases D with
        | nil => exact .inl ⟨rfl, hb, by rw [HS.out, bs_nil]; simp⟩
        | cons a r => exact .inr ⟨by simp, hb, by rw [HS.out, bs_nil]; simp, by rcases hlive with h | h <;> simp_all⟩
      clear hb hlive
      rcases hcase with ⟨hd, f1, f2⟩ | ⟨hd, f1, f2, hj⟩
      all_goals
        have HDD := hid hd
        clear hd
        go_wp2
        go_roundw
        case rel => exact ⟨j / 10, _, by go_num, by rw [HS.out, bs_cons], dig_step (dig_live HD.out HL.out), by omega, H1.out.alloc _⟩
        case measure =>
          rw [HS.out, bs_cons, noneYet_bs, noneYet_bs]
          have := HDD.out
          simp only [intOf, List.length_cons, List.length_eq_zero_iff]
          first
            | (rw [if_pos this]; simp; omega)
            | (rw [if_neg this]; simp; omega)
    · obtain rfl : j = 0 := by omega
      have hne : D ≠ [] := fun e => hlive (.inr e)
      obtain rfl := dig_end HD.out hne
      have f1 : (bs (decDigits n)).toList.isEmpty = false := by
        rw [bs_empty]
        cases e : decDigits n with
        | nil => exact absurd e hne
        | cons => rfl
      have f2 : (bs (decDigits n)).toList = [] ↔ False := by rw [bs_nil]; simp [hne]
      clear HD hlive hne
      have hz : (bs (decDigits n)).size ≤ 20 := by rw [bs_size]; exact dec_len n (by have := HNN.out; omega)
      obtain ⟨S, hS⟩ : ∃ S, S = bs (decDigits n) := ⟨_, rfl⟩
      rw [← hS] at f1 f2 hz
      have HS : Hid (S.data.toList = decDigits n ∧ (decDigits n).length ≤ 20) := hid ⟨by rw [hS]; rfl, by rw [← bs_size, ← hS]; exact hz⟩
      rw [← hS]
      clear hS hjN hj64
      have q1 := bk_cell HKB.out (kdC_at k HK.out)
      have Q1 := hid q1
      clear q1
      have k2 : ((k : Int) == k) = true := by simp
      rcases (show n = 0 ∨ n = 1000001 ∨ (1 ≤ n ∧ n ≤ 1000000) by have := HNN.out; omega) with hn | hn | hn
      · have e1 : ((n : Int) == 0) = true := by simp; omega
        have ev : parseF 60 (tgT k (decDigits n)) = .bad 14 3 := by rw [hn, dec_one 0 (by decide)]; exact tgR_zero HK.out
        have EV := hid ev
        clear ev hn
        go_wp2_with (first
          | (go_at_call 13; refine (parse_none (HO.out.on (HP4.out.alloc (.cells #[.slice none 0 0] 24))) 60 _ (l := tgE) rfl (by decide) tgE_bad (by decide)).mono ?_; rintro e w5 ⟨hb5, rfl⟩; have HP5 : Hid (Past w w5) := hid (past_alloc HP4.out hb5); clear hb5)
          | (go_at_call 13; refine (parse_none (HO.out.on (Past.on HP2.out H1.out)) 60 _ (tag_text HS.out.1 HSb.out rfl) (by have := tgT_len k (decDigits n) HK.out; have := HS.out.2; omega) EV.out (by decide)).mono ?_; rintro e w4 ⟨hb4, rfl⟩; have HP4 : Hid (Past w w4) := hid ((Past.on HP2.out H1.out).on hb4); clear hb4))
        go_ret
        exact ⟨rfl, HP5.out.alloc _⟩
      · have e1 : ((n : Int) == 0) = false := by simp; omega
        have e2 : decide ((1000000 : Int) < n) = true := by simp; omega
        have e2' : decide (1000000 < n) = true := by simp; omega
        have ev : parseF 60 (tgT k (decDigits n)) = .bad 14 2 := by
          rw [hn, show decDigits 1000001 = [49, 48, 48, 48, 48, 48, 49] by rw [dec_more 1000001 (by decide), dec_more (1000001 / 10) (by decide), dec_more (1000001 / 10 / 10) (by decide), dec_more (1000001 / 10 / 10 / 10) (by decide), dec_more (1000001 / 10 / 10 / 10 / 10) (by decide), dec_more (1000001 / 10 / 10 / 10 / 10 / 10) (by decide), dec_one (1000001 / 10 / 10 / 10 / 10 / 10 / 10) (by decide)]; rfl]
          exact tgR_big HK.out
        have EV := hid ev
        clear ev hn
        go_wp2_with (first
          | (go_at_call 13; refine (parse_none (HO.out.on (HP4.out.alloc (.cells #[.slice none 0 0] 24))) 60 _ (l := tgE) rfl (by decide) tgE_bad (by decide)).mono ?_; rintro e w5 ⟨hb5, rfl⟩; have HP5 : Hid (Past w w5) := hid (past_alloc HP4.out hb5); clear hb5)
          | (go_at_call 13; refine (parse_none (HO.out.on (Past.on HP2.out H1.out)) 60 _ (tag_text HS.out.1 HSb.out rfl) (by have := tgT_len k (decDigits n) HK.out; have := HS.out.2; omega) EV.out (by decide)).mono ?_; rintro e w4 ⟨hb4, rfl⟩; have HP4 : Hid (Past w w4) := hid ((Past.on HP2.out H1.out).on hb4); clear hb4))
        go_ret
        exact ⟨rfl, HP5.out.alloc _⟩
      · have e1 : ((n : Int) == 0) = false := by simp; omega
        have e2 : decide ((1000000 : Int) < n) = false := by simp; omega
        have e2' : decide (1000000 < n) = false := by simp; omega
        have HP1 := hid hn
        clear hn
        go_wp2_with (first
          | (go_at_call 13; refine (parse_none (HO.out.on (HP4.out.alloc (.cells #[.slice (some ⟨b, o, none⟩) 1 c] 24))) 60 _ (l := tgE) rfl (by decide) tgE_bad (by decide)).mono ?_; rintro e w5 ⟨hb5, rfl⟩; have HP5 : Hid (Past w w5) := hid (past_alloc HP4.out hb5); have p0 : w5.cell? ⟨w4.heap.size, 0, none⟩ = some (.slice (some ⟨b, o, none⟩) 1 c) := bk_cell ((hb5.block w4.heap.size (by simp)).trans (bk_new w4 (.cells #[.slice (some ⟨b, o, none⟩) 1 c] 24))) rfl; have g3 := cellA hb5 G3.out; have g4 := cellA hb5 G4.out; have g5 := cellA hb5 G5.out; have g6 := cellA hb5 G6.out; have g7 := cellA hb5 G7.out; have qk := cellA hb5 QK.out; have l0 := World.block_lt_of_cell? w5 _ p0; have l3 := World.block_lt_of_cell? w5 _ g3; have l4 := World.block_lt_of_cell? w5 _ g4; have lk := World.block_lt_of_cell? w5 _ qk; clear hb5)
          | (go_at_call 13; refine (parse_tags (HO.out.on (Past.on HP2.out H1.out)) HK.out HP1.out.1 HP1.out.2 _ (tag_text HS.out.1 HSb.out rfl)).mono ?_; rintro e w4 ⟨hb4, b, o, c, b2, o2, c2, zz, rfl, g3, g4, g5, g6, g7⟩; have HP4 : Hid (Past w w4) := hid ((Past.on HP2.out H1.out).on hb4); have G3 := hid g3; have G4 := hid g4; have G5 := hid g5; have G6 := hid g6; have G7 := hid g7; have QK := hid (cell0 hb4 (cell0 H1.out Q1.out)); clear hb4 g3 g4 g5 g6 g7))
        go_quiet (fail)
        go_wp2
        go_ret
        exact ⟨rfl, Past.on (HP5.out.alloc _) ⟨rfl, rfl, rfl, Nat.le_refl _, fun _ _ => rfl⟩⟩
end Go.Proofs.YtgkdoealhbhnmaaGreatDoor.Pm
namespace Go.Proofs.YtgkdoealhbhnmaaGreatDoor
open Go Go.RowKit Go.Proofs.YtgkdoealhbhnmaaGreatDoor.Pm
open Go.Lib (hid)
theorem parseTags_walk (a0 a1 : Int) (w0 : (Lit.int .u32 a0).wf = true) (w1 : (Lit.int .u8 a1).wf = true) (w : World) (H : Wo w) :
    Calls Tryz.prog 9 #[.int .u32 a0, .int .u8 a1] w fun e w' => e = .returned (.bool true) ∧ Below w.heap.size w w' := by
  have h0 : 0 ≤ a0 ∧ a0 ≤ 4294967295 := by
    simp only [Lit.wf, IntKind.min, IntKind.max, Bool.and_eq_true] at w0
    exact ⟨of_decide_eq_true w0.1, of_decide_eq_true w0.2⟩
  have h1 : 0 ≤ a1 ∧ a1 ≤ 255 := by
    simp only [Lit.wf, IntKind.min, IntKind.max, Bool.and_eq_true] at w1
    exact ⟨of_decide_eq_true w1.1, of_decide_eq_true w1.2⟩
  exact tags_go a0 a1 h0 h1 w H
end Go.Proofs.YtgkdoealhbhnmaaGreatDoor
