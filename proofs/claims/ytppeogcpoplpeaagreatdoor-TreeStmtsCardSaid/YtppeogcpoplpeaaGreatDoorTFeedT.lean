/- Statements of the feed: however deep, within a loop or not. -/
import Derived.Test.YtppeogcpoplpeaaGreatDoorTFeedH0
import Derived.Test.YtppeogcpoplpeaaGreatDoorTFeedH1
import Derived.Test.YtppeogcpoplpeaaGreatDoorTFeedH2
import Derived.Test.YtppeogcpoplpeaaGreatDoorTStRight2
set_option linter.unusedSimpArgs false
set_option linter.unusedVariables false
namespace Go.Proofs.YtppeogcpoplpeaaGreatDoor
open Go Go.RowKit

abbrev sevV (S : ST) : Array Value := #[.int .i64 S.kind, .int .i64 S.tag, .string S.name, .string S.func, .slice S.ea S.en S.ec, .slice S.ba S.bn S.bc, .slice S.la S.ln S.lc]
theorem sev_one (S : ST) : ∀ u ∈ (sevV S).toList, u.oneCell' = true := by
  intro u hu
  simp at hu
  rcases hu with rfl | rfl | rfl | rfl | rfl | rfl | rfl <;> rfl
theorem stmt_info : (Tryz.prog.info? 83).map (fun i => (i.zero, i.size, i.bytes)) = some (some (.agg #[.int .i64 0, .int .i64 0, .string { data := #[] }, .string { data := #[] }, .slice none 0 0, .slice none 0 0, .slice none 0 0]), 7, 120) := by kernel_rfl
section
variable {F : FeedC} {B f : Nat}
theorem feedSt_any (D : Nat) (loop : Bool) (dv : Int) (p : Nat) (left tag : Int) (hl : 0 ≤ left) (ht : 0 ≤ tag) (htl : tag + left ≤ 23) (hd : Depth F B f D dv) (w : World) (h : Fd F B f p left tag w) :
    Calls Tryz.prog 93 #[.pointer (some ⟨f, 0, none⟩), .int .i64 dv, .bool loop] w (StPost F B f D w) := by
  cases hm : F.main
  · exact stmt_tag0 D loop dv p left tag hl ht htl hd w h hm
  · by_cases hb : F.nv p < 128
    · exact stmt_tag1 D loop dv p left tag hl ht htl hd w h hm hb
    · exact stmt_tag2 D loop dv p left tag hl ht htl hd w h hm (by omega)
theorem Fd.own {q : Nat} {left tag : Int} {v v' : World} (h : Fd F B f q left tag v) {r : Option Nat} (hg : v.grownBy v' r) (hr : ∀ k, r = some k → B ≤ k) : Fd F B f q left tag v' :=
  h.keep (Nat.le_trans h.size hg.size) fun b hb => hg.block b (Nat.lt_of_lt_of_le hb h.size) (fun e => by have := hr b e.symm; omega)
theorem grown_own {w v v' : World} {n r : Option Nat} (h : w.grownBy v n) (hg : v.grownBy v' r) (hr : ∀ k, r = some k → w.heap.size ≤ k) : w.grownBy v' n :=
  ⟨hg.os.trans h.os, hg.tape.trans h.tape, hg.output.trans h.output, Nat.le_trans h.size hg.size, fun i hi hn => (hg.block i (Nat.lt_of_lt_of_le hi h.size) (fun e => by have := hr i e.symm; omega)).trans (h.block i hi hn)⟩
/-- What a round of the loop keeps. -/
structure Row (F : FeedC) (B f D : Nat) (w : World) (v : Value) (l : List ST) (q : Nat) (left tag : Int) (wr : World) : Prop where
  made : MadeL w.heap.size v l wr
  gl : GL D l
  fd : Fd F B f q left tag wr
  gr : w.grownBy wr (some f)
  b : 0 ≤ left ∧ 0 ≤ tag ∧ tag + left ≤ 24
  hf : f < w.heap.size
  hB : B ≤ w.heap.size
theorem Row.call {D : Nat} {w wr W : World} {v : Value} {l : List ST} {q : Nat} {left tag : Int} {Q : Ending → World → Prop} (loop : Bool) (h : Row F B f D w v l q left tag wr) (hd : Depth F B f D D) (hp : 0 < left) (hW : wr.grownBy W (some f)) (hfd : Fd F B f q (left - 1) tag W)
    (k : ∀ (S : ST) (q' : Nat) (left' tag' : Int) (w2 : World), GS D S → S.In w2 W.heap.size → w.heap.size ≤ W.heap.size → (∀ k, v.ownBlock = some k → k < W.heap.size) → Row F B f D w v l q' left' tag' w2 → Q (.returned (.agg #[.int .i64 S.kind, .int .i64 S.tag, .string S.name, .string S.func, .slice S.ea S.en S.ec, .slice S.ba S.bn S.bc, .slice S.la S.ln S.lc])) w2) :
    Calls Tryz.prog 93 #[.pointer (some ⟨f, 0, none⟩), .int .i64 D, .bool loop] W Q := by
  refine (feedSt_any D loop D q (left - 1) tag (by omega) h.b.2.1 (by have := h.b; omega) hd W hfd).mono ?_
  rintro e w2 ⟨S, q', left', tag', rfl, hS, hin, h2, hg2, b0, b1, b2⟩
  rw [ST.val_eq]
  exact k S q' left' tag' w2 hS hin (Nat.le_trans h.gr.size hW.size) (fun k hk => Nat.lt_of_lt_of_le (h.made.1.lt k hk).2 hW.size) ⟨(h.made.grown hW h.hf).grown hg2 h.hf, h.gl, h2, grown_trans (grown_trans h.gr hW) hg2, ⟨b0, b1, b2⟩, h.hf, h.hB⟩
theorem Row.snoc {D A : Nat} {w w2 w3 : World} {v v' : Value} {l : List ST} {S : ST} {q : Nat} {left tag : Int} (h : Row F B f D w v l q left tag w2) (hS : GS D S) (hin : S.In w2 A) (hA : w.heap.size ≤ A) (hv : ∀ k, v.ownBlock = some k → k < A)
    (hown : w3.ownsRow w.heap.size 83 7 v' (l.length + 1) ((l.flatMap fun S => S.cells.toList) ++ (sevV S).toList)) (hg : (w2.alloc (.cells (sevV S) 83)).grownBy w3 v.ownBlock) (hat : v'.ownBlock = v.ownBlock ∨ v'.ownBlock = some (w2.alloc (.cells (sevV S) 83)).heap.size) : Row F B f D w v' (l ++ [S]) q left tag w3 := by
  have hr : ∀ k, v.ownBlock = some k → w.heap.size ≤ k := fun k hk => (h.made.1.lt k hk).1
  rw [show sevV S = S.cells from (ST.cells_eq S).symm] at hown
  exact ⟨(h.made.alloc _).snoc (hin.on ((Below.refl _ _).alloc (Nat.le_refl _) _)) hA hv hown hg hat, gl_snoc h.gl hS, (h.fd.alloc _).own hg (fun k hk => Nat.le_trans h.hB (hr k hk)), grown_own (grown_alloc h.gr _) hg hr, h.b, h.hf, h.hB⟩
theorem Row.drewN {D : Nat} {w wr : World} {v : Value} {l : List ST} {q : Nat} {left tag : Int} (h : Row F B f D w v l q left tag wr) (n : Nat) : Row F B f D w v l q left tag (wr.drewN n) :=
  ⟨h.made.grown (grown_drewN (grown_refl _ _) n) h.hf, h.gl, h.fd.drewN _, grown_drewN h.gr _, h.b, h.hf, h.hB⟩
theorem Row.post {D m : Nat} {w wr : World} {v : Value} {l : List ST} {q : Nat} {left tag : Int} (h : Row F B f D w v l q left tag wr) (hl : l.length ≤ m) : SsPost F B f D m w (.returned v) wr := by
  obtain ⟨a, c, rfl, hss⟩ := h.made.ss
  exact ⟨l, a, c, q, left, tag, rfl, h.gl, hl, hss, h.fd, h.gr, h.b⟩
set_option maxHeartbeats 4000000 in
set_option maxRecDepth 100000 in
theorem feedSs_of (D : Nat) (hd : Depth F B f D D) : Deeper F B f D := by
  intro m hm loop q left tag h0 h1 h2 w h
  have hR : Row F B f D w (.slice none 0 0) [] q left tag w := ⟨made_nil _ _, gl_nil _, h, grown_refl _ _, ⟨h0, h1, h2⟩, by have := h.lt; have := h.size; omega, h.size⟩
  have HD := Lib.hid hd
  obtain ⟨ei, hi, hz0, hz1, hz2⟩ := info_parts stmt_info
  have HR0 := Lib.hid hR
  clear hR hd h
  go_enter Tryz.func62, Tryz.ntmps62
  go_wp2
  go_loopw [9, 10] (fun v i wr => ∃ (l : List ST) (q : Nat) (left tag : Int), i = .int .i64 l.length ∧ l.length ≤ m ∧ Row F B f D w v l q left tag wr) (fun _ i _ => m - (intOf i).toNat)
  case atStart => exact ⟨[], q, left, tag, rfl, Nat.zero_le _, HR0.out⟩
  case round =>
    clear HR0 h0 h1 h2
    obtain ⟨l, q, left, tag, rfl, hk, hrow⟩ := hrel
    have c0 := hrow.fd.c0
    have c1 := hrow.fd.c1
    have c4 := hrow.fd.c4
    have f4 := hrow.fd.f1 4
    have hb := hrow.b
    have HB := Lib.hid hrow
    obtain ⟨k, hlk⟩ : ∃ k, l.length = k := ⟨_, rfl⟩
    have HL := Lib.hid hlk
    rw [hlk] at hk ⊢
    clear hrow hlk
    by_cases g1 : k < m
    · have e1 : decide (k < m) = true := by simpa using g1
      have e1' : decide ((k : Int) < m) = true := by simp; omega
      by_cases g2 : 0 < left
      · have e2 : decide (0 < left) = true := by simpa using g2
        by_cases g3 : q < F.len
        · have e3 : decide (q < F.len) = true := by simpa using g3
          have e3' : decide ((q : Int) < F.len) = true := by simp; omega
          have wl : IntKind.i64.wrap (left - 1) = left - 1 := IntWalk.i64_in _ (by omega)
          go_wp2
          go_quiet (fail)
          go_wp2_with
            (first
              | (at_builtin; refine wpList_append_own_at _ rfl _ _ 53 rfl w.heap.size 83 ei _ 7 120 Tryz.underlying53 hi hz0 hz1 hz2 rfl (by decide) _ l.length _ rfl (HR2.out.made.1.alloc _) ⟨w2.heap.size, 0, none⟩ 1 1 (sevV S).toList rfl rfl (World.news_of_block (bk_new w2 (.cells (sevV S) 83))) (sev_one S) (by have := HL.out; unfold maxLen; omega) (by have := HL.out; omega) (by have := HR2.out.gr.size; simp; omega) ?_; intro v' w3 hown hgrow hnil hat; have HR3 := Lib.hid (HR2.out.snoc HS.out.1 HS.out.2.1 HS.out.2.2.1 HS.out.2.2.2 hown hgrow hat); clear hown hgrow hnil hat)
              | (go_at_call 93; refine HB.out.call loop HD.out g2 ?_ ?_ ?_; (have h0 := grown_refl wr (some f); (repeat (first | with_reducible exact h0 | with_reducible refine grown_set ?_ _ _ | with_reducible refine grown_drewN ?_ _ | with_reducible refine grown_drew ?_))); (refine Fd.setl (left := left) ?_ _; (repeat (first | with_reducible exact HB.out.fd | with_reducible refine Fd.drewN ?_ _ | with_reducible refine Fd.drew ?_))); intro S q2 left2 tag2 w2 hS hin hA hv hr2; have HR2 := Lib.hid hr2; have HS := Lib.hid (And.intro hS (And.intro hin (And.intro hA hv))); clear hr2 hS hin hA hv))
          go_round
          case rel => exact ⟨l ++ [S], q2, left2, tag2, by rw [List.length_append, HL.out]; go_num, by rw [List.length_append, HL.out]; simp; omega, HR3.out⟩
          case measure => simp [intOf]; omega
        · have e3 : decide (q < F.len) = false := by simpa using g3
          have e3' : decide ((q : Int) < F.len) = false := by simp; omega
          go_wp2
          go_quiet (fail)
          go_wp2
          go_ret
          exact (HB.out.drewN _).post (by rw [HL.out]; exact hk)
      · have e2 : decide (0 < left) = false := by simpa using g2
        go_wp2
        go_quiet (fail)
        go_wp2
        go_ret
        exact (HB.out.drewN _).post (by rw [HL.out]; exact hk)
    · have e1 : decide (k < m) = false := by simpa using g1
      have e1' : decide ((k : Int) < m) = false := by simp; omega
      go_wp2
      go_quiet (fail)
      go_wp2
      go_ret
      exact (HB.out.drewN _).post (by rw [HL.out]; exact hk)
theorem depth_zero : Depth F B f 0 (0 : Nat) := Or.inl ⟨rfl, rfl⟩
theorem feedSs_any : ∀ (D : Nat), D ≤ 9 → Deeper F B f D
  | 0, _ => feedSs_of 0 depth_zero
  | D + 1, h => feedSs_of (D + 1) (Or.inr ⟨D, rfl, by simp, by omega, feedSs_any D (by omega)⟩)
end
end Go.Proofs.YtppeogcpoplpeaaGreatDoor
