/- All statements of a function, one that stands in another one behind that. (Written by genstm.py.) A statement, and all that stand in it. (Written by genstm.py.) All statements of a list. (Written by genstm.py.) -/
import Derived.Test.YtplonecdaegfbaaGreatDoorKAsk
set_option linter.unusedSimpArgs false
set_option linter.unusedVariables false
namespace Go.Proofs.YtplonecdaegfbaaGreatDoor.Ck
open Go Go.RowKit Go.Proofs.YtplonecdaegfbaaGreatDoor

/-- What an answer is: the error, and the tags that were seen where there is none. -/
def Ans (mb : Nat) (w : World) (r : Nat × List Int) (e : Ending) (w' : World) : Prop := e = .returned (.int .i64 (r.1 : Nat)) ∧ Gr mb w w' ∧ ∃ s, Tg mb w' s ∧ (r.1 = 0 → s = r.2)
theorem Tg.quiet {mb : Nat} {w w' : World} {seen : List Int} (h : Tg mb w seen) {n : Nat} {e : Ending} (k : e = .returned (.int .i64 (n : Nat)) ∧ Below w.heap.size w w') : Ans mb w (n, seen) e w' :=
  ⟨k.1, gr_below k.2, seen, h.on k.2, fun _ => rfl⟩
theorem Ans.re {mb : Nat} {w W w' : World} {r r' : Nat × List Int} {e e' : Ending} (h : Ans mb W r e w') (g : Gr mb w W) (he : e' = e) (h1 : r'.1 = r.1) (h2 : r'.1 = 0 → r'.2 = r.2) : Ans mb w r' e' w' := by
  obtain ⟨a1, a2, s, a3, a4⟩ := h
  refine ⟨by rw [he, a1, h1], gr_trans g a2, s, a3, fun h => ?_⟩
  rw [h2 h]; exact a4 (by rw [← h1]; exact h)
def stl (l : List (List Int)) (k : Nat) : List Int := l.getD k []
theorem firstOf_t (m : Nat) (l : List Fv) (code : Nat → Nat) (st : Nat → List Int) (b : Nat) (w : World) (hl : l.length ≤ 100) (hbm : b ≠ m)
    (hent : ∀ k (h : k < l.length), Ent l[k].1)
    (hcell : ∀ k (h : k < l.length), w.cell? ⟨b, k, none⟩ = some l[k].val)
    (hstep : ∀ k (h : k < l.length) W, firstC code k = 0 → Gr m w W → Tg m W (st k) → Calls Tryz.prog l[k].1 l[k].2 W (Ans m W (code k, st (k + 1))))
    (h0 : Tg m w (st 0)) :
    Calls Tryz.prog 35 #[.slice (some ⟨b, 0, none⟩) l.length l.length] w (Ans m w (firstC code l.length, st l.length)) := by
  refine (firstOf_g m l code (fun k W => ∃ s, Tg m W s ∧ (firstC code k = 0 → s = st k)) b w hl hbm hent hcell (fun k h W hz hg ⟨s, hs, he⟩ => ?_) ⟨_, h0, fun _ => rfl⟩).mono ?_
  · rw [he hz] at hs
    refine (hstep k h W hz hg hs).mono ?_
    rintro e w' ⟨h1, h2, s', h3, h4⟩
    exact ⟨h1, h2, s', h3, fun hf => h4 (orE_eq_zero.1 hf).2⟩
  · rintro e w' ⟨h1, h2, k, hk, ⟨s, hs, he⟩, h3⟩
    refine ⟨h1, h2, s, hs, fun hf => ?_⟩
    obtain rfl := h3 hf
    exact he hf
theorem eachS_t {w0 : World} (m : Nat) (a : Option Addr) (c : Nat) (L : List ST) (hl : L.length ≤ 9223372036854775807) (hin : SsIn w0 0 a 0 L) (g : Nat) (lb : Array Value) (eg : Ent g) (code : Nat → Nat) (st : Nat → List Int) (w : World) (hp : Past w0 w) (hm : w0.heap.size ≤ m)
    (hstep : ∀ k (h : k < L.length) W, firstC code k = 0 → Gr m w W → Tg m W (st k) → Calls Tryz.prog g (#[.agg #[.int .i64 L[k].kind, .int .i64 L[k].tag, .string L[k].name, .string L[k].func, .slice L[k].ea L[k].en L[k].ec, .slice L[k].ba L[k].bn L[k].bc, .slice L[k].la L[k].ln L[k].lc]] ++ lb) W (Ans m W (code k, st (k + 1))))
    (h0 : Tg m w (st 0)) :
    Calls Tryz.prog 139 #[.slice a L.length c, .func (.func g) #[] lb] w (Ans m w (firstC code L.length, st L.length)) := by
  have h := eachS_any (w0 := w0) a c L hl hin g lb eg code (fun k W => Gr m w W ∧ ∃ s, Tg m W s ∧ (firstC code k = 0 → s = st k)) (fun k W hW => gr_past hp hW.1 hm) (fun k W o hW => ⟨gr_alloc hW.1 o, hW.2.imp fun s h => ⟨h.1.alloc o, h.2⟩⟩)
    (fun k h W hz ⟨hg, s, hs, he⟩ => by
      rw [he hz] at hs
      rw [ST.val_eq]
      refine (hstep k h W hz hg hs).mono ?_
      rintro e w' ⟨h1, h2, s', h3, h4⟩
      exact ⟨h1, gr_trans hg h2, s', h3, fun hf => h4 (orE_eq_zero.1 hf).2⟩) w ⟨gr_refl _ _, _, h0, fun _ => rfl⟩
  refine h.mono ?_
  rintro e w' ⟨h1, k, hk, ⟨h2, s, hs, he⟩, h3⟩
  refine ⟨h1, h2, s, hs, fun hf => ?_⟩
  obtain rfl := h3 hf
  exact he hf
/-- What stays as it is while statements are gone through. -/
structure Fix (w0 : World) (a : Option Addr) (l : List FT) (c mb i bx bi bf : Nat) (F : FT) : Prop where
  nx : bx ≠ mb
  ni : bi ≠ mb
  nf : bf ≠ mb
  hm : w0.heap.size ≤ mb
  fs : FsIn w0 0 a l
  fin : F.In w0 0
  lt : i < l.length
/-- What lies in memory while statements are gone through. -/
structure Env (w0 : World) (a : Option Addr) (l : List FT) (c mb i bx bi bf : Nat) (F : FT) (w : World) : Prop where
  past : Past w0 w
  x : XBox w bx a l.length c mb
  i : Box w bi (.int .i64 i) 3
  f : FBox w bf F
theorem Env.on {w0 : World} {a : Option Addr} {l : List FT} {c mb i bx bi bf : Nat} {F : FT} {w w' : World} (X : Fix w0 a l c mb i bx bi bf F) (h : Env w0 a l c mb i bx bi bf F w) (g : Gr mb w w') : Env w0 a l c mb i bx bi bf F w' :=
  ⟨gr_past h.past g X.hm, gr_block g X.nx h.x, gr_block g X.ni h.i, gr_block g X.nf h.f⟩
theorem seenF_len (S : ST) (seen : List Int) : (seenF S seen).length ≤ seen.length + 1 := by unfold seenF; split <;> simp
abbrev askV (bx bi bf : Nat) : Value := .func (.func 144) #[] #[.pointer (some ⟨bx, 0, none⟩), .pointer (some ⟨bi, 0, none⟩), .pointer (some ⟨bf, 0, none⟩)]
section
variable {w0 : World} {a : Option Addr} {l : List FT} {c mb i bx bi bf : Nat} {F : FT}
theorem ask_code (S : ST) (looped : Bool) (seen : List Int) : askF l i F S looped seen = firstC (cd [tagF l i S seen, jumpF S looped, targetF F S, calleeF l S, placeEs F (ST.es S)]) 5 := by
  show _ = orE (orE (orE (orE (orE 0 (tagF l i S seen)) (jumpF S looped)) (targetF F S)) (calleeF l S)) (placeEs F (ST.es S))
  rw [orE_zero, orE_assoc, orE_assoc, orE_assoc]; rfl
set_option maxHeartbeats 4000000 in
set_option maxRecDepth 100000 in
theorem ask_any (X : Fix w0 a l c mb i bx bi bf F) (S : ST) (hS : S.In w0 0) (looped : Bool) (seen : List Int) (hl : seen.length ≤ 1000000) (w : World) (hE : Env w0 a l c mb i bx bi bf F w) (hT : Tg mb w seen) :
    Calls Tryz.prog 144 #[.agg #[.int .i64 S.kind, .int .i64 S.tag, .string S.name, .string S.func, .slice S.ea S.en S.ec, .slice S.ba S.bn S.bc, .slice S.la S.ln S.lc], .bool looped, .pointer (some ⟨bx, 0, none⟩), .pointer (some ⟨bi, 0, none⟩), .pointer (some ⟨bf, 0, none⟩)] w (Ans mb w (askF l i F S looped seen, seenF S seen)) := by
  have HE := Lib.hid hE
  have HT := Lib.hid hT
  have HX := Lib.hid X
  have HS := Lib.hid hS
  have HV := Lib.hid (ask_code (l := l) (i := i) (F := F) S looped seen)
  have htag : -9223372036854775808 ≤ S.tag ∧ S.tag ≤ 9223372036854775807 := by revert hS; cases S; intro hS; rw [ST.In] at hS; exact hS.1
  clear hE hT X hS
  go_enter Tryz.func144, Tryz.ntmps144
  go_wp2_with (go_at_call 35; refine (firstOf_t mb [(145, #[.pointer (some ⟨w.heap.size, 0, none⟩), .pointer (some ⟨bx, 0, none⟩), .pointer (some ⟨bi, 0, none⟩)]), (147, #[.pointer (some ⟨w.heap.size, 0, none⟩), .pointer (some ⟨w.heap.size + 1, 0, none⟩)]), (149, #[.pointer (some ⟨bf, 0, none⟩), .pointer (some ⟨w.heap.size, 0, none⟩)]), (151, #[.pointer (some ⟨bx, 0, none⟩), .pointer (some ⟨w.heap.size, 0, none⟩)]), (153, #[.pointer (some ⟨w.heap.size, 0, none⟩), .pointer (some ⟨bf, 0, none⟩)])] (cd [tagF l i S seen, jumpF S looped, targetF F S, calleeF l S, placeEs F (ST.es S)]) (stl [seen, seenF S seen, seenF S seen, seenF S seen, seenF S seen, seenF S seen]) _ _ (by show 5 ≤ 100; decide) ?_ ?_ ?_ ?_ ?_).mono ?_; (have := HT.out.lt; simp; omega); (intro k h; match k, h with | 0, _ => exact enters_of Tryz.func145 (by kernel_rfl) rfl | 1, _ => exact enters_of Tryz.func147 (by kernel_rfl) rfl | 2, _ => exact enters_of Tryz.func149 (by kernel_rfl) rfl | 3, _ => exact enters_of Tryz.func151 (by kernel_rfl) rfl | 4, _ => exact enters_of Tryz.func153 (by kernel_rfl) rfl | k + 5, h => exact absurd h (by simp)); (intro k h; match k, h with | 0, _ => (refine bk_cell (nb _ (by simp)) ?_; rfl) | 1, _ => (refine bk_cell (nb _ (by simp)) ?_; rfl) | 2, _ => (refine bk_cell (nb _ (by simp)) ?_; rfl) | 3, _ => (refine bk_cell (nb _ (by simp)) ?_; rfl) | 4, _ => (refine bk_cell (nb _ (by simp)) ?_; rfl) | k + 5, h => exact absurd h (by simp)); (intro k h W hz hW hT; match k, h with | 0, _ => exact (ask1_any a l c mb i _ _ _ S HX.out.fs.len HX.out.lt htag seen hl W hT (gr_block hW (by have := HT.out.lt; omega) (ob _ (ob _ (nb _ rfl)))) (Env.on HX.out HE.out (gr_trans (gr_alloc (gr_alloc (gr_alloc (gr_refl _ _) _) _) _) hW)).x (Env.on HX.out HE.out (gr_trans (gr_alloc (gr_alloc (gr_alloc (gr_refl _ _) _) _) _) hW)).i).mono fun e w' h => ⟨h.1, h.2.1, _, h.2.2, fun _ => rfl⟩ | 1, _ => exact (ask2_any S looped _ _ W (gr_block hW (by have := HT.out.lt; omega) (ob _ (ob _ (nb _ rfl)))) (gr_block hW (by have := HT.out.lt; omega) (ob _ (nb _ (by simp))))).mono fun e w' h => hT.quiet h | 2, _ => exact (ask3_any HX.out.fin S _ _ W (Env.on HX.out HE.out (gr_trans (gr_alloc (gr_alloc (gr_alloc (gr_refl _ _) _) _) _) hW)).past (Env.on HX.out HE.out (gr_trans (gr_alloc (gr_alloc (gr_alloc (gr_refl _ _) _) _) _) hW)).f (gr_block hW (by have := HT.out.lt; omega) (ob _ (ob _ (nb _ rfl))))).mono fun e w' h => hT.quiet h | 3, _ => exact (ask4_any HX.out.fs c mb S _ _ W (Env.on HX.out HE.out (gr_trans (gr_alloc (gr_alloc (gr_alloc (gr_refl _ _) _) _) _) hW)).past (Env.on HX.out HE.out (gr_trans (gr_alloc (gr_alloc (gr_alloc (gr_refl _ _) _) _) _) hW)).x (gr_block hW (by have := HT.out.lt; omega) (ob _ (ob _ (nb _ rfl))))).mono fun e w' h => hT.quiet h | 4, _ => exact (ask5_any HX.out.fin S HS.out _ _ W (Env.on HX.out HE.out (gr_trans (gr_alloc (gr_alloc (gr_alloc (gr_refl _ _) _) _) _) hW)).past (gr_block hW (by have := HT.out.lt; omega) (ob _ (ob _ (nb _ rfl)))) (Env.on HX.out HE.out (gr_trans (gr_alloc (gr_alloc (gr_alloc (gr_refl _ _) _) _) _) hW)).f).mono fun e w' h => hT.quiet h | k + 5, h => exact absurd h (by simp)); (exact ((HT.out.alloc _).alloc _).alloc _); intro e w2 hA; have HA := Lib.hid hA; obtain ⟨rfl, -⟩ := hA)
  go_ret
  exact HA.out.re (gr_alloc (gr_alloc (gr_alloc (gr_refl _ _) _) _) _) rfl (by rw [HV.out]; rfl) (fun _ => rfl)
theorem then_len {r : Nat × List Int} {f : List Int → Nat × List Int} {A B : Nat} (h : r.2.length ≤ A) (k : ∀ s, (f s).2.length ≤ s.length + B) : (andThen r f).2.length ≤ A + B := by
  unfold andThen
  split
  · have := k r.2; omega
  · omega
theorem chk_len : ∀ (n : Nat) (L : List ST), Szs L < n → ∀ (b : Bool) (s : List Int), (chkSs l i F b L s).2.length ≤ s.length + cnts L := by
  intro n
  induction n with
  | zero => intro L h; omega
  | succ n ih =>
    intro L
    induction L with
    | nil => intro _ b s; rw [chkSs]; simp
    | cons S L ihL =>
      intro hn b s
      rw [Szs] at hn
      have hz := body_sz S
      rw [chkSs, cnts, cnt_parts, chkS_eq]
      have h1 := then_len (r := (askF l i F S b s, seenF S s)) (f := chkSs l i F (within b S) S.body) (A := s.length + 1) (B := cnts S.body) (seenF_len S s) (fun s => ih S.body (by omega) _ s)
      have h2 := then_len h1 (fun s => ih S.els (by omega) (within b S) s)
      have h3 := then_len h2 (fun s => ihL (by omega) b s)
      refine Nat.le_trans h3 (by omega)
theorem stmt_len (b : Bool) (S : ST) (s : List Int) : (chkS l i F b S s).2.length ≤ s.length + S.cnt := by
  have := chk_len (l := l) (i := i) (F := F) _ [S] (Nat.lt_succ_self _) b s
  rw [chkSs, cnts, cnts] at this
  have e : andThen (chkS l i F b S s) (chkSs l i F b []) = chkS l i F b S s := by
    unfold andThen
    split
    · rename_i h; rw [chkSs]; rw [← h]
    · rfl
  rw [e] at this
  simpa using this
def SubOk (w0 : World) (a : Option Addr) (l : List FT) (c mb i bx bi bf : Nat) (F : FT) (ad : Option Addr) (n cp : Nat) (L : List ST) : Prop := ∀ (looped : Bool) (seen : List Int) (w : World), seen.length + cnts L ≤ 1000000 → Env w0 a l c mb i bx bi bf F w → Tg mb w seen →
  Calls Tryz.prog 101 #[.slice ad n cp, .bool looped, askV bx bi bf] w (Ans mb w (chkSs l i F looped L seen))
set_option maxHeartbeats 4000000 in
set_option maxRecDepth 100000 in
theorem sub1_any (X : Fix w0 a l c mb i bx bi bf F) (S : ST) (hS : S.In w0 0) (looped : Bool) (seen : List Int) (hl : seen.length ≤ 1000000) (ba bs bo : Nat) (w : World) (hE : Env w0 a l c mb i bx bi bf F w) (hT : Tg mb w seen) (ha : Box w ba (askV bx bi bf) 164) (hs : SBox w bs S) (hb : Box w bo (.bool looped) 4) :
    Calls Tryz.prog 141 #[.pointer (some ⟨ba, 0, none⟩), .pointer (some ⟨bs, 0, none⟩), .pointer (some ⟨bo, 0, none⟩)] w (Ans mb w (askF l i F S looped seen, seenF S seen)) := by
  have HA := Lib.hid (ask_any X S hS looped seen hl w hE hT)
  obtain ⟨s0, s1, s2, s3, s4, s5, s6, hls⟩ := scells hs
  have a0 := ha.c0
  have hla := ha.lt
  have o0 := hb.c0
  have hlo := hb.lt
  clear X hS hE hT ha hs hb
  go_enter Tryz.func141, Tryz.ntmps141
  go_wp2_with (go_at_call 144; have hx := HA.out; refine hx.mono ?_; clear hx; intro e w2 hA; have HB := Lib.hid hA; obtain ⟨rfl, -⟩ := hA)
  go_ret
  exact HB.out.re (gr_refl _ _) rfl rfl (fun _ => rfl)
set_option maxHeartbeats 4000000 in
set_option maxRecDepth 100000 in
theorem sub2_any (S : ST) (b : Bool) (seen : List Int) (hk : SubOk w0 a l c mb i bx bi bf F S.ba S.bn S.bc S.body) (hl : seen.length + cnts S.body ≤ 1000000) (ba bs bo : Nat) (w : World) (hE : Env w0 a l c mb i bx bi bf F w) (hT : Tg mb w seen) (ha : Box w ba (askV bx bi bf) 164) (hs : SBox w bs S) (hb : Box w bo (.bool b) 4) :
    Calls Tryz.prog 142 #[.pointer (some ⟨bs, 0, none⟩), .pointer (some ⟨bo, 0, none⟩), .pointer (some ⟨ba, 0, none⟩)] w (Ans mb w (chkSs l i F b S.body seen)) := by
  have HA := Lib.hid (hk b seen w hl hE hT)
  obtain ⟨s0, s1, s2, s3, s4, s5, s6, hls⟩ := scells hs
  have a0 := ha.c0
  have hla := ha.lt
  have o0 := hb.c0
  have hlo := hb.lt
  clear hE hT ha hs hb hk hl
  go_enter Tryz.func142, Tryz.ntmps142
  go_wp2_with (go_at_call 101; have hx := HA.out; refine hx.mono ?_; clear hx; intro e w2 hA; have HB := Lib.hid hA; obtain ⟨rfl, -⟩ := hA)
  go_ret
  exact HB.out.re (gr_refl _ _) rfl rfl (fun _ => rfl)
set_option maxHeartbeats 4000000 in
set_option maxRecDepth 100000 in
theorem sub3_any (S : ST) (b : Bool) (seen : List Int) (hk : SubOk w0 a l c mb i bx bi bf F S.la S.ln S.lc S.els) (hl : seen.length + cnts S.els ≤ 1000000) (ba bs bo : Nat) (w : World) (hE : Env w0 a l c mb i bx bi bf F w) (hT : Tg mb w seen) (ha : Box w ba (askV bx bi bf) 164) (hs : SBox w bs S) (hb : Box w bo (.bool b) 4) :
    Calls Tryz.prog 143 #[.pointer (some ⟨bs, 0, none⟩), .pointer (some ⟨bo, 0, none⟩), .pointer (some ⟨ba, 0, none⟩)] w (Ans mb w (chkSs l i F b S.els seen)) := by
  have HA := Lib.hid (hk b seen w hl hE hT)
  obtain ⟨s0, s1, s2, s3, s4, s5, s6, hls⟩ := scells hs
  have a0 := ha.c0
  have hla := ha.lt
  have o0 := hb.c0
  have hlo := hb.lt
  clear hE hT ha hs hb hk hl
  go_enter Tryz.func143, Tryz.ntmps143
  go_wp2_with (go_at_call 101; have hx := HA.out; refine hx.mono ?_; clear hx; intro e w2 hA; have HB := Lib.hid hA; obtain ⟨rfl, -⟩ := hA)
  go_ret
  exact HB.out.re (gr_refl _ _) rfl rfl (fun _ => rfl)
end
end Go.Proofs.YtplonecdaegfbaaGreatDoor.Ck

set_option linter.unusedSimpArgs false
set_option linter.unusedVariables false
namespace Go.Proofs.YtplonecdaegfbaaGreatDoor.Ck
open Go Go.RowKit Go.Proofs.YtplonecdaegfbaaGreatDoor

section
variable {w0 : World} {a : Option Addr} {l : List FT} {c mb i bx bi bf : Nat} {F : FT}
theorem stmt_code (S : ST) (b : Bool) (seen : List Int) (r1 r2 : Nat × List Int) (e1 : chkSs l i F (within b S) S.body (seenF S seen) = r1) (e2 : chkSs l i F (within b S) S.els r1.2 = r2) :
    (chkS l i F b S seen).1 = firstC (cd [askF l i F S b seen, r1.1, r2.1]) 3 ∧ ((chkS l i F b S seen).1 = 0 → (chkS l i F b S seen).2 = r2.2) := by
  rw [chkS_eq]
  show _ = orE (orE (orE 0 (askF l i F S b seen)) r1.1) r2.1 ∧ _
  generalize askF l i F S b seen = q
  unfold andThen
  by_cases h0 : q = 0
  · subst h0
    simp only [if_true, e1, orE_zero]
    by_cases h1 : r1.1 = 0
    · rw [if_pos h1, e2, h1, orE_zero]; exact ⟨rfl, fun _ => rfl⟩
    · rw [if_neg h1, orE_ne h1]; exact ⟨rfl, fun h => absurd h h1⟩
  · simp only [if_neg h0, orE_zero]
    rw [orE_ne h0, orE_ne h0]; exact ⟨rfl, fun h => absurd h h0⟩
set_option maxHeartbeats 4000000 in
set_option maxRecDepth 100000 in
theorem stmt_step (X : Fix w0 a l c mb i bx bi bf F) (S : ST) (hS : S.In w0 0) (k1 : SubOk w0 a l c mb i bx bi bf F S.ba S.bn S.bc S.body) (k2 : SubOk w0 a l c mb i bx bi bf F S.la S.ln S.lc S.els) (looped : Bool) (seen : List Int) (hl : seen.length + S.cnt ≤ 1000000) (ba bo : Nat) (nba : ba ≠ mb) (nbo : bo ≠ mb) (w : World) (hE : Env w0 a l c mb i bx bi bf F w) (hT : Tg mb w seen) (ha : Box w ba (askV bx bi bf) 164) (hb : Box w bo (.bool looped) 4) :
    Calls Tryz.prog 140 #[.agg #[.int .i64 S.kind, .int .i64 S.tag, .string S.name, .string S.func, .slice S.ea S.en S.ec, .slice S.ba S.bn S.bc, .slice S.la S.ln S.lc], .pointer (some ⟨bo, 0, none⟩), .pointer (some ⟨ba, 0, none⟩)] w (Ans mb w (chkS l i F looped S seen)) := by
  obtain ⟨r1, e1⟩ : ∃ r1, chkSs l i F (within looped S) S.body (seenF S seen) = r1 := ⟨_, rfl⟩
  obtain ⟨r2, e2⟩ : ∃ r2, chkSs l i F (within looped S) S.els r1.2 = r2 := ⟨_, rfl⟩
  have HV := Lib.hid (stmt_code S looped seen r1 r2 e1 e2)
  have HLN : Hid (seen.length ≤ 1000000 ∧ (seenF S seen).length + cnts S.body ≤ 1000000 ∧ r1.2.length + cnts S.els ≤ 1000000) := Lib.hid (by
    have h1 := seenF_len S seen
    have h2 := chk_len (l := l) (i := i) (F := F) _ S.body (Nat.lt_succ_self _) (within looped S) (seenF S seen)
    rw [e1] at h2
    have h3 := cnt_parts S
    exact ⟨by omega, by omega, by omega⟩)
  have HE := Lib.hid hE
  have HT := Lib.hid hT
  have HX := Lib.hid X
  have HS := Lib.hid hS
  have HA := Lib.hid ha
  have HO := Lib.hid hb
  have HK1 := Lib.hid k1
  have HK2 := Lib.hid k2
  have HR1 := Lib.hid e1
  have HR2 := Lib.hid e2
  have o0 := hb.c0
  have hlo := hb.lt
  have hla := ha.lt
  clear hE hT X hS ha hb k1 k2 e1 e2 hl
  cases looped
  · by_cases h5 : S.kind = 5
    · have e5 : (S.kind == 5) = true := by simpa using h5
      have HWI : Hid (within false S = true) := Lib.hid (by unfold within; rw [decide_eq_true h5]; rfl)
      rw [HWI.out] at HR1 HR2
      clear h5
      go_enter Tryz.func140, Tryz.ntmps140
      go_wp2_with (go_at_call 35; refine (firstOf_t mb [(141, #[.pointer (some ⟨ba, 0, none⟩), .pointer (some ⟨w.heap.size, 0, none⟩), .pointer (some ⟨bo, 0, none⟩)]), (142, #[.pointer (some ⟨w.heap.size, 0, none⟩), .pointer (some ⟨w.heap.size + 1, 0, none⟩), .pointer (some ⟨ba, 0, none⟩)]), (143, #[.pointer (some ⟨w.heap.size, 0, none⟩), .pointer (some ⟨w.heap.size + 1, 0, none⟩), .pointer (some ⟨ba, 0, none⟩)])] (cd [askF l i F S false seen, r1.1, r2.1]) (stl [seen, seenF S seen, r1.2, r2.2]) _ _ (by show 3 ≤ 100; decide) ?_ ?_ ?_ ?_ ?_).mono ?_; (have := HT.out.lt; simp; omega); (intro k h; match k, h with | 0, _ => exact enters_of Tryz.func141 (by kernel_rfl) rfl | 1, _ => exact enters_of Tryz.func142 (by kernel_rfl) rfl | 2, _ => exact enters_of Tryz.func143 (by kernel_rfl) rfl | k + 3, h => exact absurd h (by simp)); (intro k h; match k, h with | 0, _ => (refine bk_cell (nb _ (by simp)) ?_; rfl) | 1, _ => (refine bk_cell (nb _ (by simp)) ?_; rfl) | 2, _ => (refine bk_cell (nb _ (by simp)) ?_; rfl) | k + 3, h => exact absurd h (by simp)); (intro k h W hz hW hT; match k, h with | 0, _ => exact sub1_any HX.out S HS.out false seen HLN.out.1 ba w.heap.size bo W (Env.on HX.out HE.out (gr_trans (gr_alloc (gr_alloc (gr_alloc (gr_refl _ _) _) _) _) hW)) hT (gr_block hW nba (ob _ (ob _ (ob _ HA.out)))) (gr_block hW (by have := HT.out.lt; omega) (ob _ (ob _ (nb _ rfl)))) (gr_block hW nbo (ob _ (ob _ (ob _ HO.out)))) | 1, _ => (rw [← HR1.out]; exact sub2_any S true (seenF S seen) HK1.out HLN.out.2.1 ba w.heap.size (w.heap.size + 1) W (Env.on HX.out HE.out (gr_trans (gr_alloc (gr_alloc (gr_alloc (gr_refl _ _) _) _) _) hW)) hT (gr_block hW nba (ob _ (ob _ (ob _ HA.out)))) (gr_block hW (by have := HT.out.lt; omega) (ob _ (ob _ (nb _ rfl)))) (gr_block hW (by have := HT.out.lt; omega) (ob _ (nb _ (by simp))))) | 2, _ => (rw [← HR2.out]; exact sub3_any S true r1.2 HK2.out HLN.out.2.2 ba w.heap.size (w.heap.size + 1) W (Env.on HX.out HE.out (gr_trans (gr_alloc (gr_alloc (gr_alloc (gr_refl _ _) _) _) _) hW)) hT (gr_block hW nba (ob _ (ob _ (ob _ HA.out)))) (gr_block hW (by have := HT.out.lt; omega) (ob _ (ob _ (nb _ rfl)))) (gr_block hW (by have := HT.out.lt; omega) (ob _ (nb _ (by simp))))) | k + 3, h => exact absurd h (by simp)); (exact ((HT.out.alloc _).alloc _).alloc _); intro e w2 hA; have HQ := Lib.hid hA; obtain ⟨rfl, -⟩ := hA)
      go_ret
      exact HQ.out.re (gr_alloc (gr_alloc (gr_alloc (gr_refl _ _) _) _) _) rfl HV.out.1 HV.out.2
    · have e5 : (S.kind == 5) = false := by simpa using h5
      have HWI : Hid (within false S = false) := Lib.hid (by unfold within; rw [decide_eq_false h5]; rfl)
      rw [HWI.out] at HR1 HR2
      clear h5
      go_enter Tryz.func140, Tryz.ntmps140
      go_wp2_with (go_at_call 35; refine (firstOf_t mb [(141, #[.pointer (some ⟨ba, 0, none⟩), .pointer (some ⟨w.heap.size, 0, none⟩), .pointer (some ⟨bo, 0, none⟩)]), (142, #[.pointer (some ⟨w.heap.size, 0, none⟩), .pointer (some ⟨w.heap.size + 1, 0, none⟩), .pointer (some ⟨ba, 0, none⟩)]), (143, #[.pointer (some ⟨w.heap.size, 0, none⟩), .pointer (some ⟨w.heap.size + 1, 0, none⟩), .pointer (some ⟨ba, 0, none⟩)])] (cd [askF l i F S false seen, r1.1, r2.1]) (stl [seen, seenF S seen, r1.2, r2.2]) _ _ (by show 3 ≤ 100; decide) ?_ ?_ ?_ ?_ ?_).mono ?_; (have := HT.out.lt; simp; omega); (intro k h; match k, h with | 0, _ => exact enters_of Tryz.func141 (by kernel_rfl) rfl | 1, _ => exact enters_of Tryz.func142 (by kernel_rfl) rfl | 2, _ => exact enters_of Tryz.func143 (by kernel_rfl) rfl | k + 3, h => exact absurd h (by simp)); (intro k h; match k, h with | 0, _ => (refine bk_cell (nb _ (by simp)) ?_; rfl) | 1, _ => (refine bk_cell (nb _ (by simp)) ?_; rfl) | 2, _ => (refine bk_cell (nb _ (by simp)) ?_; rfl) | k + 3, h => exact absurd h (by simp)); (intro k h W hz hW hT; match k, h with | 0, _ => exact sub1_any HX.out S HS.out false seen HLN.out.1 ba w.heap.size bo W (Env.on HX.out HE.out (gr_trans (gr_alloc (gr_alloc (gr_alloc (gr_refl _ _) _) _) _) hW)) hT (gr_block hW nba (ob _ (ob _ (ob _ HA.out)))) (gr_block hW (by have := HT.out.lt; omega) (ob _ (ob _ (nb _ rfl)))) (gr_block hW nbo (ob _ (ob _ (ob _ HO.out)))) | 1, _ => (rw [← HR1.out]; exact sub2_any S false (seenF S seen) HK1.out HLN.out.2.1 ba w.heap.size (w.heap.size + 1) W (Env.on HX.out HE.out (gr_trans (gr_alloc (gr_alloc (gr_alloc (gr_refl _ _) _) _) _) hW)) hT (gr_block hW nba (ob _ (ob _ (ob _ HA.out)))) (gr_block hW (by have := HT.out.lt; omega) (ob _ (ob _ (nb _ rfl)))) (gr_block hW (by have := HT.out.lt; omega) (ob _ (nb _ (by simp))))) | 2, _ => (rw [← HR2.out]; exact sub3_any S false r1.2 HK2.out HLN.out.2.2 ba w.heap.size (w.heap.size + 1) W (Env.on HX.out HE.out (gr_trans (gr_alloc (gr_alloc (gr_alloc (gr_refl _ _) _) _) _) hW)) hT (gr_block hW nba (ob _ (ob _ (ob _ HA.out)))) (gr_block hW (by have := HT.out.lt; omega) (ob _ (ob _ (nb _ rfl)))) (gr_block hW (by have := HT.out.lt; omega) (ob _ (nb _ (by simp))))) | k + 3, h => exact absurd h (by simp)); (exact ((HT.out.alloc _).alloc _).alloc _); intro e w2 hA; have HQ := Lib.hid hA; obtain ⟨rfl, -⟩ := hA)
      go_ret
      exact HQ.out.re (gr_alloc (gr_alloc (gr_alloc (gr_refl _ _) _) _) _) rfl HV.out.1 HV.out.2
  · have HWI : Hid (within true S = true) := Lib.hid rfl
    rw [HWI.out] at HR1 HR2
    go_enter Tryz.func140, Tryz.ntmps140
    go_wp2_with (go_at_call 35; refine (firstOf_t mb [(141, #[.pointer (some ⟨ba, 0, none⟩), .pointer (some ⟨w.heap.size, 0, none⟩), .pointer (some ⟨bo, 0, none⟩)]), (142, #[.pointer (some ⟨w.heap.size, 0, none⟩), .pointer (some ⟨w.heap.size + 1, 0, none⟩), .pointer (some ⟨ba, 0, none⟩)]), (143, #[.pointer (some ⟨w.heap.size, 0, none⟩), .pointer (some ⟨w.heap.size + 1, 0, none⟩), .pointer (some ⟨ba, 0, none⟩)])] (cd [askF l i F S true seen, r1.1, r2.1]) (stl [seen, seenF S seen, r1.2, r2.2]) _ _ (by show 3 ≤ 100; decide) ?_ ?_ ?_ ?_ ?_).mono ?_; (have := HT.out.lt; simp; omega); (intro k h; match k, h with | 0, _ => exact enters_of Tryz.func141 (by kernel_rfl) rfl | 1, _ => exact enters_of Tryz.func142 (by kernel_rfl) rfl | 2, _ => exact enters_of Tryz.func143 (by kernel_rfl) rfl | k + 3, h => exact absurd h (by simp)); (intro k h; match k, h with | 0, _ => (refine bk_cell (nb _ (by simp)) ?_; rfl) | 1, _ => (refine bk_cell (nb _ (by simp)) ?_; rfl) | 2, _ => (refine bk_cell (nb _ (by simp)) ?_; rfl) | k + 3, h => exact absurd h (by simp)); (intro k h W hz hW hT; match k, h with | 0, _ => exact sub1_any HX.out S HS.out true seen HLN.out.1 ba w.heap.size bo W (Env.on HX.out HE.out (gr_trans (gr_alloc (gr_alloc (gr_alloc (gr_refl _ _) _) _) _) hW)) hT (gr_block hW nba (ob _ (ob _ (ob _ HA.out)))) (gr_block hW (by have := HT.out.lt; omega) (ob _ (ob _ (nb _ rfl)))) (gr_block hW nbo (ob _ (ob _ (ob _ HO.out)))) | 1, _ => (rw [← HR1.out]; exact sub2_any S true (seenF S seen) HK1.out HLN.out.2.1 ba w.heap.size (w.heap.size + 1) W (Env.on HX.out HE.out (gr_trans (gr_alloc (gr_alloc (gr_alloc (gr_refl _ _) _) _) _) hW)) hT (gr_block hW nba (ob _ (ob _ (ob _ HA.out)))) (gr_block hW (by have := HT.out.lt; omega) (ob _ (ob _ (nb _ rfl)))) (gr_block hW (by have := HT.out.lt; omega) (ob _ (nb _ (by simp))))) | 2, _ => (rw [← HR2.out]; exact sub3_any S true r1.2 HK2.out HLN.out.2.2 ba w.heap.size (w.heap.size + 1) W (Env.on HX.out HE.out (gr_trans (gr_alloc (gr_alloc (gr_alloc (gr_refl _ _) _) _) _) hW)) hT (gr_block hW nba (ob _ (ob _ (ob _ HA.out)))) (gr_block hW (by have := HT.out.lt; omega) (ob _ (ob _ (nb _ rfl)))) (gr_block hW (by have := HT.out.lt; omega) (ob _ (nb _ (by simp))))) | k + 3, h => exact absurd h (by simp)); (exact ((HT.out.alloc _).alloc _).alloc _); intro e w2 hA; have HQ := Lib.hid hA; obtain ⟨rfl, -⟩ := hA)
    go_ret
    exact HQ.out.re (gr_alloc (gr_alloc (gr_alloc (gr_refl _ _) _) _) _) rfl HV.out.1 HV.out.2
end
end Go.Proofs.YtplonecdaegfbaaGreatDoor.Ck

set_option linter.unusedSimpArgs false
set_option linter.unusedVariables false
namespace Go.Proofs.YtplonecdaegfbaaGreatDoor.Ck
open Go Go.RowKit Go.Proofs.YtplonecdaegfbaaGreatDoor

section
variable {w0 : World} {a : Option Addr} {l : List FT} {c mb i bx bi bf : Nat} {F : FT}
/- All of a list. -/
theorem chkSs_snoc (b : Bool) (S : ST) : ∀ (A : List ST) (s : List Int), chkSs l i F b (A ++ [S]) s = andThen (chkSs l i F b A s) (chkS l i F b S)
  | [], s => by
    rw [List.nil_append, chkSs, chkSs]
    show andThen _ (chkSs l i F b []) = chkS l i F b S s
    unfold andThen
    split
    · rename_i h; rw [chkSs, ← h]
    · rfl
  | T :: A, s => by
    rw [List.cons_append, chkSs, chkSs]
    have ih := fun s => chkSs_snoc b S A s
    unfold andThen
    split
    · rw [ih]; rfl
    · rfl
def stK (l : List FT) (i : Nat) (F : FT) (b : Bool) (L : List ST) (s : List Int) (k : Nat) : List Int := (chkSs l i F b (L.take k) s).2
def cdK (l : List FT) (i : Nat) (F : FT) (b : Bool) (L : List ST) (s : List Int) (k : Nat) : Nat := match L[k]? with
  | some S => (chkS l i F b S (stK l i F b L s k)).1
  | none => 0
theorem cdK_at (b : Bool) (L : List ST) (s : List Int) (k : Nat) (h : k < L.length) : cdK l i F b L s k = (chkS l i F b L[k] (stK l i F b L s k)).1 := by
  unfold cdK; rw [List.getElem?_eq_getElem h]
theorem first_take (b : Bool) (L : List ST) (s : List Int) : ∀ k, k ≤ L.length → firstC (cdK l i F b L s) k = (chkSs l i F b (L.take k) s).1 := by
  intro k
  induction k with
  | zero => intro _; rw [List.take_zero, chkSs]; rfl
  | succ k ih =>
    intro h
    rw [firstC, ih (by omega), cdK_at b L s k (by omega), List.take_succ_eq_append_getElem (by omega), chkSs_snoc]
    unfold andThen stK orE
    split <;> rfl
theorem st_succ (b : Bool) (L : List ST) (s : List Int) (k : Nat) (h : k < L.length) (hz : firstC (cdK l i F b L s) k = 0) : stK l i F b L s (k + 1) = (chkS l i F b L[k] (stK l i F b L s k)).2 := by
  rw [first_take b L s k (by omega)] at hz
  unfold stK
  rw [List.take_succ_eq_append_getElem h, chkSs_snoc]
  unfold andThen
  rw [if_pos hz]
theorem cnts_take (L : List ST) (k : Nat) (h : k < L.length) : cnts (L.take k) + L[k].cnt ≤ cnts L := by
  induction L generalizing k with
  | nil => simp at h
  | cons S L ih =>
    cases k with
    | zero => rw [List.take_zero, cnts, cnts]; simp
    | succ k =>
      have := ih k (by simpa using h)
      rw [List.take_succ_cons, cnts, cnts, List.getElem_cons_succ]
      omega
theorem stmts_list (X : Fix w0 a l c mb i bx bi bf F) (ad : Option Addr) (cp : Nat) (L : List ST) (hL : SsIn w0 0 ad 0 L) (hLl : L.length ≤ 9223372036854775807)
    (hK : ∀ k (h : k < L.length), SubOk w0 a l c mb i bx bi bf F L[k].ba L[k].bn L[k].bc L[k].body ∧ SubOk w0 a l c mb i bx bi bf F L[k].la L[k].ln L[k].lc L[k].els)
    (looped : Bool) (seen : List Int) (hl : seen.length + cnts L ≤ 1000000) (ba bo : Nat) (nba : ba ≠ mb) (nbo : bo ≠ mb) (w : World) (hE : Env w0 a l c mb i bx bi bf F w) (hT : Tg mb w seen) (ha : Box w ba (askV bx bi bf) 164) (hb : Box w bo (.bool looped) 4) :
    Calls Tryz.prog 139 #[.slice ad L.length cp, .func (.func 140) #[] #[.pointer (some ⟨bo, 0, none⟩), .pointer (some ⟨ba, 0, none⟩)]] w (Ans mb w (chkSs l i F looped L seen)) := by
  have h := eachS_t mb ad cp L hLl hL 140 #[.pointer (some ⟨bo, 0, none⟩), .pointer (some ⟨ba, 0, none⟩)] (enters_of Tryz.func140 (by kernel_rfl) rfl) (cdK l i F looped L seen) (stK l i F looped L seen) w hE.past X.hm
    (fun k h W hz hg hTW => by
      have hlen : (stK l i F looped L seen k).length + L[k].cnt ≤ 1000000 := by
        have h1 := chk_len (l := l) (i := i) (F := F) _ (L.take k) (Nat.lt_succ_self _) looped seen
        have h2 := cnts_take L k h
        unfold stK
        omega
      have hstep := stmt_step X L[k] (hL.nth k h).2 (hK k h).1 (hK k h).2 looped (stK l i F looped L seen k) hlen ba bo nba nbo W (hE.on X hg) hTW (gr_block hg nba ha) (gr_block hg nbo hb)
      refine hstep.mono ?_
      intro e w' hA
      exact hA.re (gr_refl _ _) rfl (cdK_at looped L seen k h) (fun _ => st_succ looped L seen k h hz)) (by unfold stK; rw [List.take_zero, chkSs]; exact hT)
  refine h.mono ?_
  intro e w' hA
  refine hA.re (gr_refl _ _) rfl ?_ ?_
  · rw [first_take looped L seen L.length (Nat.le_refl _), List.take_length]
  · intro _; unfold stK; rw [List.take_length]
set_option maxHeartbeats 4000000 in
set_option maxRecDepth 100000 in
theorem stmts_any (X : Fix w0 a l c mb i bx bi bf F) : ∀ (m : Nat) (ad : Option Addr) (cp : Nat) (L : List ST), Szs L < m → L.length ≤ 9223372036854775807 → SsIn w0 0 ad 0 L → SubOk w0 a l c mb i bx bi bf F ad L.length cp L := by
  intro m
  induction m with
  | zero => intro ad cp L hm; omega
  | succ m ih =>
    intro ad cp L hm hl hL looped seen w hlen hE hT
    have hK : ∀ k (h : k < L.length), SubOk w0 a l c mb i bx bi bf F L[k].ba L[k].bn L[k].bc L[k].body ∧ SubOk w0 a l c mb i bx bi bf F L[k].la L[k].ln L[k].lc L[k].els := fun k h => by
      have h1 := in_body (hL.nth k h).2
      have h2 := in_els (hL.nth k h).2
      have h3 := body_sz L[k]
      have h4 := Szs_nth h
      rw [bn_is, ln_is]
      exact ⟨ih _ _ _ (by omega) h1.2 h1.1, ih _ _ _ (by omega) h2.2 h2.1⟩
    have hX := fun W hEW hTW haW hbW => stmts_list X ad cp L hL hl hK looped seen hlen (w.heap.size + 1) w.heap.size (by have := hT.lt; omega) (by have := hT.lt; omega) W hEW hTW haW hbW
    have HH := Lib.hid hX
    have HE := Lib.hid hE
    have HT := Lib.hid hT
    have HX := Lib.hid X
    clear hX hE hT hK ih hL hm hlen
    go_enter Tryz.func101, Tryz.ntmps101
    go_wp2_with (go_at_call 139; refine (HH.out _ ?_ ?_ ?_ ?_).mono ?_; (exact HE.out.on HX.out (gr_alloc (gr_alloc (gr_refl _ _) _) _)); (exact (HT.out.alloc _).alloc _); (exact nb _ (by simp)); (exact ob _ (nb _ rfl)); intro e w2 hA; have HQ := Lib.hid hA; obtain ⟨rfl, -⟩ := hA)
    go_ret
    exact HQ.out.re (gr_alloc (gr_alloc (gr_refl _ _) _) _) rfl rfl (fun _ => rfl)
end
end Go.Proofs.YtplonecdaegfbaaGreatDoor.Ck
