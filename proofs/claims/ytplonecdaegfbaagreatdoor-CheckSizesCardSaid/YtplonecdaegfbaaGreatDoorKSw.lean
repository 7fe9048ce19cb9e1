/- The law of sizes: a program of one Func with n variables. The law of sizes walks. -/
import Derived.Test.YtplonecdaegfbaaGreatDoorKEx
set_option linter.unusedSimpArgs false
set_option linter.unusedVariables false
namespace Go.Proofs.YtplonecdaegfbaaGreatDoor.Ck
open Go Go.RowKit Go.Proofs.YtplonecdaegfbaaGreatDoor Go.Proofs.YtplonecdaegfbaaGreatDoor.Pm

def nmS (i : Nat) : ByteArray := ⟨#[110, UInt8.ofNat (97 + i / 26), UInt8.ofNat (97 + i % 26)]⟩
abbrev mainN : ByteArray := { data := #[109, 97, 105, 110] }
def dcls (n : Nat) (s : Int) : List (ByteArray × Int) := (List.range n).map fun i => (nmS i, s)
def dcellsL (n : Nat) (s : Int) : List Value := (List.range n).flatMap fun i => [.string (nmS i), .int .i64 s]
def bigF (n : Nat) (s : Int) (a : Option Addr) (c : Nat) : FT := { name := mainN, pa := none, pc := 0, params := [], va := a, vc := c, vars := dcls n s, ba := none, bc := 0, body := [] }
theorem dcls_len (n : Nat) (s : Int) : (dcls n s).length = n := by simp [dcls]
theorem dcls_at (n : Nat) (s : Int) (i : Nat) (h : i < (dcls n s).length) : (dcls n s)[i] = (nmS i, s) := by simp [dcls]
theorem flat2 (s : Int) : ∀ n, (dcellsL n s).length = 2 * n ∧ ∀ i, i < n → (dcellsL n s)[2 * i]? = some (.string (nmS i)) ∧ (dcellsL n s)[2 * i + 1]? = some (.int .i64 s) := by
  intro n
  induction n with
  | zero => exact ⟨rfl, fun i h => absurd h (by omega)⟩
  | succ n ih =>
    obtain ⟨h1, h2⟩ := ih
    have e : dcellsL (n + 1) s = dcellsL n s ++ [.string (nmS n), .int .i64 s] := by simp [dcellsL, List.range_succ, List.flatMap_append]
    rw [e]
    refine ⟨by rw [List.length_append, h1]; simp; omega, fun i hi => ?_⟩
    by_cases hin : i < n
    · rw [List.getElem?_append_left (by omega), List.getElem?_append_left (by omega)]
      exact h2 i hin
    · obtain rfl : i = n := by omega
      rw [List.getElem?_append_right (by omega), List.getElem?_append_right (by omega), h1]
      exact ⟨by rw [Nat.sub_self]; rfl, by rw [show 2 * i + 1 - 2 * i = 1 by omega]; rfl⟩
theorem dcells_succ (n : Nat) (s : Int) : dcellsL (n + 1) s = dcellsL n s ++ [.string (nmS n), .int .i64 s] := by simp [dcellsL, List.range_succ, List.flatMap_append]
theorem own_decls {w : World} {B n : Nat} {s : Int} {v : Value} (h : w.ownsRow B 76 2 v n (dcellsL n s)) : ∃ a c, v = .slice a n c ∧ ∀ i, i < n → RowAt w 0 a i 2 #[.string (nmS i), .int .i64 s] := by
  rcases h.2 with ⟨rfl, hn⟩ | ⟨g, cap, cur, rfl, hB, hg, hn, hm, hs, ht⟩
  · exact ⟨none, 0, by rw [hn], fun i hi => by omega⟩
  · refine ⟨some ⟨g, 0, none⟩, cap, rfl, fun i hi => ⟨g, 0, rfl, Nat.zero_le _, ?_⟩⟩
    intro j u hj
    obtain ⟨hl, h2⟩ := flat2 s n
    obtain ⟨h3, h4⟩ := h2 i hi
    match j, hj with
    | 0, hj =>
      simp at hj; subst hj
      have h1 := h.cellAt (2 * i) (by omega)
      rw [show 0 + i * 2 + 0 = 2 * i by omega, h1, h3]
    | 1, hj =>
      simp at hj; subst hj
      have h1 := h.cellAt (2 * i + 1) (by omega)
      rw [show 0 + i * 2 + 1 = 2 * i + 1 by omega, h1, h4]
    | j + 2, hj => simp at hj
theorem nm_ok : (List.range 40).all (fun i => nmB (nmS i)) = true := by kernel_rfl
theorem nm_nodup : ((List.range 40).map nmS).Nodup := by
  have h : (List.range 40).Pairwise (fun i j => nmS i ≠ nmS j) := by
    have h1 : (List.range 40).all (fun i => (List.range 40).all fun j => decide (i = j) || !decide ((nmS i).data.toList = (nmS j).data.toList)) = true := by kernel_rfl
    rw [List.pairwise_iff_getElem]
    intro i j hi hj hij e
    rw [List.getElem_range, List.getElem_range] at e
    simp at hi hj
    simp only [List.all_eq_true, List.mem_range] at h1
    have h2 := h1 i hi j hj
    rw [e] at h2
    simp at h2
    omega
  rw [List.Nodup, List.pairwise_map]
  exact h
theorem chk_big {n : Nat} {s : Int} (hn : n < 40) (h0 : 0 ≤ s) (a : Option Addr) (c : Nat) : chkF [bigF n s a c] = if n ≤ 24 ∧ (s ≤ 64 ∨ n = 0) then (0, -1) else (5, 0) := by
  have hr : (bigF n s a c).rightB = true := by
    simp only [FT.rightB, bigF, Bool.and_eq_true]
    refine ⟨by kernel_rfl, rfl, ?_, by unfold rightSs; rfl⟩
    rw [List.all_eq_true]
    intro d hd
    simp only [dcls, List.mem_map, List.mem_range] at hd
    obtain ⟨i, hi, rfl⟩ := hd
    have := List.all_eq_true.1 nm_ok i (List.mem_range.2 (by omega))
    simp only [declB, this, Bool.true_and, decide_eq_true_eq]
    exact h0
  have hw : wholeF [bigF n s a c] = 0 := by
    have hs : stsV [bigF n s a c] = 0 := by simp [stsV, bigF, cnts]
    have h1 : repB ([bigF n s a c].map (·.name)) = false := rep_iff.2 (by simp)
    have h2 : mainB [bigF n s a c] = true := by simp [mainB, bigF]
    unfold wholeF
    rw [hs, h1, h2, List.all_cons, hr]
    simp
  have hl : largeB (bigF n s a c) = decide (¬ (n ≤ 24 ∧ (s ≤ 64 ∨ n = 0))) := by
    have h1 : (bigF n s a c).params.length + (bigF n s a c).vars.length = n := by show 0 + (dcls n s).length = n; rw [dcls_len]; omega
    have h2 : ((bigF n s a c).vars.any fun d => decide (64 < d.2)) = decide (0 < n ∧ 64 < s) := by
      rw [Bool.eq_iff_iff, List.any_eq_true, decide_eq_true_iff]
      constructor
      · rintro ⟨d, hd, h⟩
        replace hd : d ∈ dcls n s := hd
        simp only [dcls, List.mem_map, List.mem_range] at hd
        obtain ⟨i, hi, rfl⟩ := hd
        exact ⟨by omega, of_decide_eq_true h⟩
      · rintro ⟨h, h'⟩
        refine ⟨(nmS 0, s), ?_, decide_eq_true h'⟩
        show _ ∈ dcls n s
        simp only [dcls, List.mem_map, List.mem_range]
        exact ⟨0, h, rfl⟩
    unfold largeB
    rw [h1, h2, Bool.eq_iff_iff, Bool.or_eq_true, decide_eq_true_iff, decide_eq_true_iff, decide_eq_true_iff]
    omega
  have hd : repB (declared (bigF n s a c)) = false := rep_iff.2 (by
    have : declared (bigF n s a c) = (List.range n).map nmS := by simp [declared, bigF, dcls, List.map_map, Function.comp_def]
    rw [this]
    have h := nm_nodup
    exact h.sublist ((List.range_sublist.2 (by omega)).map _))
  have hb : (bigF n s a c).body = [] := rfl
  unfold chkF progF
  rw [if_pos hw]
  by_cases h : n ≤ 24 ∧ (s ≤ 64 ∨ n = 0)
  · have hf : fnF [bigF n s a c] 0 (bigF n s a c) [] = (0, []) := by
      unfold fnF
      rw [hl, decide_eq_false (fun h' => h' h), hd, hb, chkSs, if_neg (by decide), if_neg (by decide)]
    rw [fnsF, hf, if_pos rfl, fnsF, if_pos h]
  · have hf : fnF [bigF n s a c] 0 (bigF n s a c) [] = (5, []) := by
      unfold fnF
      rw [hl, decide_eq_true h, if_pos rfl]
    rw [fnsF, hf, if_neg (by decide), if_neg h]; rfl
theorem size_big (n : Nat) (s : Int) (a : Option Addr) (c : Nat) : sizeF (bigF n s a c) { data := #[110, 97, 97] } = if n = 0 then none else some s := by
  cases n with
  | zero => rfl
  | succ n =>
    have : (bigF (n + 1) s a c).vars = (nmS 0, s) :: ((List.range n).map (fun i => (nmS (i + 1), s))) := by
      simp only [bigF, dcls, List.range_succ_eq_map, List.map_cons, List.map_map]; rfl
    unfold sizeF
    rw [if_neg (by simp [bigF]), this, sizeV, if_pos (by kernel_rfl), if_neg (by omega)]
theorem bks {w : World} {b k : Nat} {cs : Array Value} {t : TypeId} {fr : Nat × Nat} (u : Value) (h : w.heap[b]? = some (.cells cs t fr)) : (w.setCell ⟨b, k, none⟩ u).heap[b]? = some (.cells (cs.setIfInBounds k u) t fr) := by
  simp [World.setCell, Array.getElem?_modify, h]
theorem conv3 (w : World) (c d : UInt8) : (convert 25 9 (.slice (some ⟨w.heap.size, 0, none⟩) 2 2)).run Tryz.prog (w.alloc (.cells #[.int .u8 (c.toNat : Int), .int .u8 (d.toNat : Int)] 5)) = .ok (.string ⟨#[c, d]⟩) (w.alloc (.cells #[.int .u8 (c.toNat : Int), .int .u8 (d.toNat : Int)] 5)) :=
  run_convert_bytes_back _ 25 9 5 ⟨w.heap.size, 0, none⟩ 2 [c, d] Tryz.underlying25 Tryz.underlying5 Tryz.underlying9 (fun j hj => by
    match j, hj with
    | 0, _ => exact bk_cell (bk_new _ _) rfl
    | 1, _ => exact bk_cell (bk_new _ _) rfl
    | j + 2, hj => exact absurd hj (by simp))
theorem bigF_in {w : World} {B n : Nat} {s : Int} {a : Option Addr} {c : Nat} (hn : n < 40) (h0 : 0 ≤ s ∧ s < 100) (h : w.ownsRow B 76 2 (.slice a n c) n (dcellsL n s)) : (bigF n s a c).In w 0 := by
  obtain ⟨a', c', e, hr⟩ := own_decls h
  cases e
  refine ⟨by simp [bigF], by simp [bigF, dcls_len]; omega, by simp [bigF], fun i hi => by simp [bigF] at hi, fun i hi => ?_, fun i hi => ?_, by show SsIn w 0 none 0 []; rw [SsIn]; trivial⟩
  · have hi' : i < (dcls n s).length := hi
    show RowAt w 0 a i 2 #[.string ((dcls n s)[i]).1, .int .i64 ((dcls n s)[i]).2]
    rw [dcls_at n s i hi']
    exact hr i (by rwa [dcls_len] at hi')
  · have hi' : i < (dcls n s).length := hi
    show -9223372036854775808 ≤ ((dcls n s)[i]).2 ∧ ((dcls n s)[i]).2 ≤ 9223372036854775807
    rw [dcls_at n s i hi']
    omega
end Go.Proofs.YtplonecdaegfbaaGreatDoor.Ck

set_option linter.unusedSimpArgs false
set_option linter.unusedVariables false
namespace Go.Proofs.YtplonecdaegfbaaGreatDoor.Ck
open Go Go.RowKit Go.Proofs.YtplonecdaegfbaaGreatDoor Go.Proofs.YtplonecdaegfbaaGreatDoor.Pm
theorem decl_info : (Tryz.prog.info? 76).map (fun i => (i.zero, i.size, i.bytes)) = some (some (.agg #[.string { data := #[] }, .int .i64 0]), 2, 24) := by kernel_rfl
abbrev gcells (a : Option Addr) (k c : Nat) : Array Value := #[.string mainN, .slice none 0 0, .slice a k c, .slice none 0 0]
def twS (i : Nat) : ByteArray := ⟨#[UInt8.ofNat (97 + i / 26), UInt8.ofNat (97 + i % 26)]⟩
theorem tw_nm (i : Nat) : ({ data := #[110] } : ByteArray) ++ twS i = nmS i := rfl
theorem conv_tw (k : Nat) (hk : k < 40) (w : World) : (convert 25 9 (.slice (some ⟨w.heap.size, 0, none⟩) 2 2)).run Tryz.prog (w.alloc (.cells #[.int .u8 (97 + (k : Int) / 26), .int .u8 (97 + (k : Int) % 26)] 5)) = .ok (.string (twS k)) (w.alloc (.cells #[.int .u8 (97 + (k : Int) / 26), .int .u8 (97 + (k : Int) % 26)] 5)) := by
  have h1 : (97 + (k : Int) / 26) = ((UInt8.ofNat (97 + k / 26)).toNat : Int) := by simp; omega
  have h2 : (97 + (k : Int) % 26) = ((UInt8.ofNat (97 + k % 26)).toNat : Int) := by simp; omega
  rw [h1, h2]
  exact conv3 w _ _
/-- What stays while variables are added: f's block, its row, nothing older. -/
structure SInv (w w1 : World) (s : Int) (k : Nat) (a : Option Addr) (c : Nat) (wr : World) : Prop where
  b : Below w.heap.size w wr
  f : wr.heap[w1.heap.size]? = some (.cells (gcells a k c) 47 (0, 0))
  o : wr.ownsRow (w1.heap.size + 1) 76 2 (.slice a k c) k (dcellsL k s)
  z : w1.heap.size + 1 ≤ wr.heap.size
theorem SInv.mid {w w1 wr w3 : World} {s : Int} {k c : Nat} {a : Option Addr} (h : SInv w w1 s k a c wr) {o1 o2 : Obj} (hg : ((wr.alloc o1).alloc o2).grownBy w3 (Value.slice a k c).ownBlock) : w3.heap[w1.heap.size]? = some (.cells (gcells a k c) 47 (0, 0)) := by
  have hf := ob o2 (ob o1 h.f)
  refine (hg.block _ (lt_blk hf) (fun e => ?_)).trans hf
  have := (h.o.lt _ e.symm).1
  omega
theorem SInv.next {w w1 wr w3 : World} {s : Int} {k c c' : Nat} {a a' : Option Addr} (h : SInv w w1 s k a c wr) (hw : w.heap.size ≤ w1.heap.size) {o1 o2 : Obj} (hg : ((wr.alloc o1).alloc o2).grownBy w3 (Value.slice a k c).ownBlock)
    (hown : w3.ownsRow (w1.heap.size + 1) 76 2 (.slice a' (k + 1) c') (k + 1) (dcellsL k s ++ [.string (({ data := #[110] } : ByteArray) ++ twS k), .int .i64 s])) : SInv w w1 s (k + 1) a' c' (w3.setCell ⟨w1.heap.size, 2, none⟩ (.slice a' (k + 1) c')) := by
  have hz := h.z
  refine ⟨(Below.grown (bal (bal h.b _) _) hg (by have := h.b.size; simp; omega) (fun i hi => Nat.le_trans hw (Nat.le_of_succ_le (h.o.lt i hi).1))).setCell (p := ⟨w1.heap.size, 2, none⟩) hw _, bks _ (h.mid hg), ?_, ?_⟩
  · rw [tw_nm, ← dcells_succ] at hown
    refine hown.kept (row := some w1.heap.size) ⟨rfl, rfl, rfl, by simp [World.setCell], fun i hi hr => Below.heap_setCell _ _ _ _ (fun e => hr (by rw [e]))⟩ (Or.inr fun e => ?_)
    have := (hown.lt _ e).1
    omega
  · have := hg.size
    simp [World.setCell] at this ⊢
    omega
theorem own_slice {w : World} {B z n : Nat} {t : TypeId} {v : Value} {xs : List Value} (h : w.ownsRow B t z v n xs) : ∃ a c, v = .slice a n c := by
  rcases h.2 with ⟨rfl, hn⟩ | ⟨g, cap, cur, rfl, _⟩
  · exact ⟨none, 0, by rw [hn]⟩
  · exact ⟨_, _, rfl⟩
theorem big_fs {w w1 wr : World} {n : Nat} {s : Int} {a : Option Addr} {c : Nat} (hn : n < 40) (h0 : 0 ≤ s ∧ s < 100) (h : SInv w w1 s n a c wr) :
    FsIn (wr.alloc (.cells (gcells a n c) 47)) 0 (some ⟨wr.heap.size, 0, none⟩) [bigF n s a c] := by
  have hv : (bigF n s a c).vars.length = n := dcls_len n s
  refine ⟨by simp, fun i hi => ?_, fun i hi => ?_⟩
  · obtain rfl : i = 0 := by simp at hi; omega
    show RowAt _ 0 _ 0 4 (bigF n s a c).cells
    have e : (bigF n s a c).cells = gcells a n c := by rw [FT.cells, hv]; rfl
    rw [e]
    exact ⟨_, _, rfl, Nat.zero_le _, fun j v hj => by rw [show 0 + 0 * 4 + j = j by omega]; exact bk_cell (nb _ rfl) hj⟩
  · obtain rfl : i = 0 := by simp at hi; omega
    exact bigF_in hn h0 (h.o.alloc _)
theorem big_small {n : Nat} (hn : n < 40) (s : Int) (a : Option Addr) (c : Nat) : Small [bigF n s a c] := by
  refine ⟨by simp [stsV, bigF, cnts], fun i hi => ?_⟩
  obtain rfl : i = 0 := by simp at hi; omega
  show 0 ≤ 1000000000 ∧ (dcls n s).length ≤ 1000000000
  rw [dcls_len]
  omega
theorem big_size {W : World} {n : Nat} {s : Int} {a b : Option Addr} {c : Nat} (h : FsIn W 0 b [bigF n s a c]) (hn : n < 40) :
    Calls Tryz.prog 14 #[.agg #[.string mainN, .slice none 0 0, .slice a n c, .slice none 0 0], .string { data := #[110, 97, 97] }] W fun e w' => e = .returned (if n = 0 then .tuple #[.int .i64 0, .bool false] else .tuple #[.int .i64 s, .bool true]) ∧ Below W.heap.size W w' := by
  have hin : (bigF n s a c).In W 0 := h.fs 0 (by simp)
  have h1 := size_any hin { data := #[110, 97, 97] } W (Past.refl _)
  have hv : (bigF n s a c).vars.length = n := dcls_len n s
  rw [hv] at h1
  unfold szV at h1
  rw [size_big] at h1
  refine h1.mono ?_
  rintro e w' ⟨rfl, hb⟩
  refine ⟨?_, hb⟩
  by_cases hz : n = 0
  · rw [if_pos hz, if_pos hz]; rfl
  · rw [if_neg hz, if_neg hz]; rfl
set_option maxHeartbeats 8000000 in
set_option maxRecDepth 100000 in
theorem sizes_walk (a0 a1 : Int) (h0 : 0 ≤ a0 ∧ a0 ≤ 255) (h1 : 0 ≤ a1 ∧ a1 ≤ 255) (w : World) (H : Wo w) :
    Calls Tryz.prog 7 #[.int .u8 a0, .int .u8 a1] w fun e w' => e = .returned (.bool true) ∧ Below w.heap.size w w' := by
  obtain ⟨ei, hi, hz0, hz1, hz2⟩ := info_parts decl_info
  have HO := Lib.hid H
  obtain ⟨n, hn⟩ : ∃ n : Nat, a0.tmod 40 = n := ⟨(a0 % 40).toNat, by rw [Int.tmod_eq_emod_of_nonneg h0.1]; omega⟩
  obtain ⟨s, hs⟩ : ∃ s : Int, a1.tmod 100 = s := ⟨_, rfl⟩
  have hn40 : n < 40 := by rw [Int.tmod_eq_emod_of_nonneg h0.1] at hn; omega
  have hs0 : 0 ≤ s ∧ s < 100 := by rw [Int.tmod_eq_emod_of_nonneg h1.1] at hs; omega
  have HS0 := Lib.hid hs0
  clear H
  go_enter Tryz.func7, Tryz.ntmps7
  go_wp2_with (go_at_call 8; refine (ex_any HO.out).mono ?_; rintro e w1 ⟨rfl, hb1⟩; have HB1 := Lib.hid hb1; clear hb1)
  go_loopw [9] (fun i wr => ∃ (k : Nat) (a : Option Addr) (c : Nat), k ≤ n ∧ i = .int .i64 k ∧ SInv w w1 s k a c wr) (fun i _ => n - (intOf i).toNat)
  case atStart => exact ⟨0, none, 0, by omega, rfl, bal HB1.out _, nb _ rfl, World.ownsRow_nil _ _ _ _, by simp⟩
  case round =>
    obtain ⟨k, a, c, hk, rfl, hi'⟩ := hrel
    have HI := Lib.hid hi'
    clear hi'
    by_cases hlt : k < n
    · have f2 := bk_cell (k := 2) HI.out.f rfl
      have hlf := lt_blk HI.out.f
      have kc := conv_tw k (by omega)
      go_wp2_with (at_builtin; refine wpList_append_own_at _ rfl _ _ 44 rfl (w1.heap.size + 1) 76 ei _ 2 24 Tryz.underlying44 hi hz0 hz1 hz2 rfl (by decide) _ k _ rfl ((HI.out.o.alloc _).alloc _) ⟨wr.heap.size + 1, 0, none⟩ 1 1 [.string (({ data := #[110] } : ByteArray) ++ twS k), .int .i64 s] rfl rfl (World.news_of_block (nb (.cells #[.string (({ data := #[110] } : ByteArray) ++ twS k), .int .i64 s] 76) (by simp))) (fun u hu => by simp only [List.mem_cons, List.not_mem_nil, or_false] at hu; rcases hu with rfl | rfl <;> rfl) (by unfold maxLen; omega) (by omega) (by have := HI.out.z; simp; omega) ?_; intro v' w3 hown hgrow hnil hat; obtain ⟨a', c', rfl⟩ := own_slice hown; have HO3 := Lib.hid hown; have HG3 := Lib.hid hgrow; have hf3 := HI.out.mid hgrow; have f3 := bk_cell (k := 2) hf3 rfl; have hl3 := lt_blk hf3; have fr3 := fun k => bk_free (k := k) hf3; clear hown hgrow hnil hat hf3)
      go_round
      case rel => exact ⟨k + 1, _, _, by omega, by go_num, HI.out.next HB1.out.size HG3.out HO3.out⟩
      case measure => simp [intOf]; omega
    · obtain rfl : k = n := by omega
      have hfs : FsIn (wr.alloc (.cells (gcells a k c) 47)) 0 (some ⟨wr.heap.size, 0, none⟩) [bigF k s a c] := big_fs hn40 HS0.out HI.out
      have hck := check_any hfs (big_small hn40 s a c) 1 _ (Past.refl _)
      have HZZ := Lib.hid (fun (W : World) (hW : Below (wr.alloc (.cells (gcells a k c) 47)).heap.size (wr.alloc (.cells (gcells a k c) 47)) W) => big_size (hfs.on hW) hn40)
      rw [chk_big hn40 HS0.out.1] at hck
      have f0 := bk_cell (k := 0) HI.out.f rfl
      have f1 := bk_cell (k := 1) HI.out.f rfl
      have f2 := bk_cell (k := 2) HI.out.f rfl
      have f3 := bk_cell (k := 3) HI.out.f rfl
      have hlf := lt_blk HI.out.f
      clear hfs
      by_cases hz : k = 0
      · subst hz
        rw [if_pos rfl] at HZZ
        rw [if_pos (show 0 ≤ 24 ∧ (s ≤ 64 ∨ 0 = 0) by omega)] at hck
        have HC := Lib.hid hck
        clear hck
        go_wp2_with (first
          | (go_at_call 14; refine HZ.out.mono ?_; rintro e w6 ⟨rfl, hb6⟩; have HB6 := Lib.hid hb6; clear hb6)
          | (go_at_call 11; refine HC.out.mono ?_; rintro e w5 ⟨rfl, hb5⟩; have hf5 := bl hb5 (ob (.cells (gcells a 0 c) 47) HI.out.f); have g0 := bk_cell (k := 0) hf5 rfl; have g1 := bk_cell (k := 1) hf5 rfl; have g2 := bk_cell (k := 2) hf5 rfl; have g3 := bk_cell (k := 3) hf5 rfl; have hl5 := lt_blk hf5; have HZ := Lib.hid (HZZ.out w5 hb5); have HB5 : Hid (Below w.heap.size w w5) := Lib.hid (step_on (bal HI.out.b _) hb5); clear hb5 hf5))
        all_goals first | (exfalso; omega) | (go_ret; exact ⟨rfl, step_on HB5.out HB6.out⟩)
      · have hz' : 0 < k := by omega
        rw [if_neg hz] at HZZ
        by_cases h24 : k ≤ 24
        · by_cases h64 : s ≤ 64
          · rw [if_pos ⟨h24, Or.inl h64⟩] at hck
            have HC := Lib.hid hck
            clear hck
            go_wp2_with (first
          | (go_at_call 14; refine HZ.out.mono ?_; rintro e w6 ⟨rfl, hb6⟩; have HB6 := Lib.hid hb6; clear hb6)
          | (go_at_call 11; refine HC.out.mono ?_; rintro e w5 ⟨rfl, hb5⟩; have hf5 := bl hb5 (ob (.cells (gcells a k c) 47) HI.out.f); have g0 := bk_cell (k := 0) hf5 rfl; have g1 := bk_cell (k := 1) hf5 rfl; have g2 := bk_cell (k := 2) hf5 rfl; have g3 := bk_cell (k := 3) hf5 rfl; have hl5 := lt_blk hf5; have HZ := Lib.hid (HZZ.out w5 hb5); have HB5 : Hid (Below w.heap.size w w5) := Lib.hid (step_on (bal HI.out.b _) hb5); clear hb5 hf5))
            all_goals first | (exfalso; omega) | (go_ret; exact ⟨rfl, step_on HB5.out HB6.out⟩)
          · rw [if_neg (show ¬ (k ≤ 24 ∧ (s ≤ 64 ∨ k = 0)) by omega)] at hck
            have HC := Lib.hid hck
            clear hck
            go_wp2_with (first
          | (go_at_call 14; refine HZ.out.mono ?_; rintro e w6 ⟨rfl, hb6⟩; have HB6 := Lib.hid hb6; clear hb6)
          | (go_at_call 11; refine HC.out.mono ?_; rintro e w5 ⟨rfl, hb5⟩; have hf5 := bl hb5 (ob (.cells (gcells a k c) 47) HI.out.f); have g0 := bk_cell (k := 0) hf5 rfl; have g1 := bk_cell (k := 1) hf5 rfl; have g2 := bk_cell (k := 2) hf5 rfl; have g3 := bk_cell (k := 3) hf5 rfl; have hl5 := lt_blk hf5; have HZ := Lib.hid (HZZ.out w5 hb5); have HB5 : Hid (Below w.heap.size w w5) := Lib.hid (step_on (bal HI.out.b _) hb5); clear hb5 hf5))
            all_goals first | (exfalso; omega) | (go_ret; exact ⟨rfl, step_on HB5.out HB6.out⟩)
        · rw [if_neg (show ¬ (k ≤ 24 ∧ (s ≤ 64 ∨ k = 0)) by omega)] at hck
          have HC := Lib.hid hck
          clear hck
          go_wp2_with (first
          | (go_at_call 14; refine HZ.out.mono ?_; rintro e w6 ⟨rfl, hb6⟩; have HB6 := Lib.hid hb6; clear hb6)
          | (go_at_call 11; refine HC.out.mono ?_; rintro e w5 ⟨rfl, hb5⟩; have hf5 := bl hb5 (ob (.cells (gcells a k c) 47) HI.out.f); have g0 := bk_cell (k := 0) hf5 rfl; have g1 := bk_cell (k := 1) hf5 rfl; have g2 := bk_cell (k := 2) hf5 rfl; have g3 := bk_cell (k := 3) hf5 rfl; have hl5 := lt_blk hf5; have HZ := Lib.hid (HZZ.out w5 hb5); have HB5 : Hid (Below w.heap.size w w5) := Lib.hid (step_on (bal HI.out.b _) hb5); clear hb5 hf5))
          all_goals first | (exfalso; omega) | (go_ret; exact ⟨rfl, step_on HB5.out HB6.out⟩)
end Go.Proofs.YtplonecdaegfbaaGreatDoor.Ck
namespace Go.Proofs.YtplonecdaegfbaaGreatDoor
open Go Go.RowKit Go.Proofs.YtplonecdaegfbaaGreatDoor.Pm Go.Proofs.YtplonecdaegfbaaGreatDoor.Ck
theorem checkSizes_walk (a0 a1 : Int) (w0 : (Lit.int .u8 a0).wf = true) (w1 : (Lit.int .u8 a1).wf = true) (w : World) (H : Wo w) :
    Calls Tryz.prog 7 #[.int .u8 a0, .int .u8 a1] w fun e w' => e = .returned (.bool true) ∧ Below w.heap.size w w' := by
  have h0 : 0 ≤ a0 ∧ a0 ≤ 255 := by
    simp only [Lit.wf, IntKind.min, IntKind.max, Bool.and_eq_true] at w0
    exact ⟨of_decide_eq_true w0.1, of_decide_eq_true w0.2⟩
  have h1 : 0 ≤ a1 ∧ a1 ≤ 255 := by
    simp only [Lit.wf, IntKind.min, IntKind.max, Bool.and_eq_true] at w1
    exact ⟨of_decide_eq_true w1.1, of_decide_eq_true w1.2⟩
  exact Ck.sizes_walk a0 a1 h0 h1 w H
end Go.Proofs.YtplonecdaegfbaaGreatDoor
