/- What is wrong with a call of a function that there is: a statement that draws its order. (Written by gencall2.py.) What is asked of each statement: its tag, whether it may jump, what it sets, what it calls, the names in its expressions. (Written by genask2.py.) -/
import Derived.Test.YtplonecdaegfbaaGreatDoorKTags
import Derived.Deep.RegionHeld3
set_option linter.unusedSimpArgs false
set_option linter.unusedVariables false
namespace Go.Proofs.YtplonecdaegfbaaGreatDoor.Ck
open Go Go.RowKit Go.Proofs.YtplonecdaegfbaaGreatDoor

theorem scells {w : World} {b : Nat} {S : ST} (h : SBox w b S) : w.cell? ⟨b, 0, none⟩ = some (.int .i64 S.kind) ∧ w.cell? ⟨b, 1, none⟩ = some (.int .i64 S.tag) ∧ w.cell? ⟨b, 2, none⟩ = some (.string S.name) ∧ w.cell? ⟨b, 3, none⟩ = some (.string S.func) ∧ w.cell? ⟨b, 4, none⟩ = some (.slice S.ea S.en S.ec) ∧ w.cell? ⟨b, 5, none⟩ = some (.slice S.ba S.bn S.bc) ∧ w.cell? ⟨b, 6, none⟩ = some (.slice S.la S.ln S.lc) ∧ b < w.heap.size :=
  ⟨bk_cell h rfl, bk_cell h rfl, bk_cell h rfl, bk_cell h rfl, bk_cell h rfl, bk_cell h rfl, bk_cell h rfl, lt_blk h⟩
theorem xcells {w : World} {b n c mb : Nat} {a : Option Addr} (h : XBox w b a n c mb) : w.cell? ⟨b, 0, none⟩ = some (.slice a n c) ∧ w.cell? ⟨b, 1, none⟩ = some (.map (some mb)) ∧ b < w.heap.size :=
  ⟨bk_cell h rfl, bk_cell h rfl, lt_blk h⟩
theorem opAt {ops : Array Oper} {i : Nat} {o : Oper} (h : ops.toList[i]? = some o) : ops[i]? = some o := by simpa using h
set_option maxHeartbeats 8000000 in
set_option maxRecDepth 100000 in
theorem callee2_any {w0 : World} {a : Option Addr} {l : List FT} (hin : FsIn w0 0 a l) (c mb bi bx bs : Nat) (S : ST) (k : Nat) (hk : k < l.length) (hk2 : findN l S.func = k) (w : World) (hp0 : Past w0 w) (hib : Box w bi (.int .i64 k) 3) (hx : XBox w bx a l.length c mb) (hs : SBox w bs S) :
    Calls Tryz.prog 193 #[.pointer (some ⟨bi, 0, none⟩), .pointer (some ⟨bx, 0, none⟩), .pointer (some ⟨bs, 0, none⟩)] w fun e w' => e = .returned (.int .i64 (call2 l S : Nat)) ∧ Below w.heap.size w w' := by
  obtain ⟨s0, s1, s2, s3, s4, s5, s6, hls⟩ := scells hs
  obtain ⟨x0, x1, hlx⟩ := xcells hx
  have i0 := hib.c0
  have hli := hib.lt
  have hn := hin.len
  have hrow := hin.row k hk
  obtain ⟨kb, ko, rfl, -⟩ := hrow
  have hrow := hin.row k hk
  rw [F.cells_is] at hrow
  obtain ⟨r0, r1, r2, r3, hkb⟩ := row_cells4 hrow hp0
  obtain ⟨pn, hpn⟩ : ∃ pn, l[k].params.length = pn := ⟨_, rfl⟩
  have hgd : ((l.map fun F => F.params.length).getD k 0) = pn := by rw [← hpn, List.getD_eq_getElem?_getD, List.getElem?_map, List.getElem?_eq_getElem hk]; rfl
  rw [hpn] at r1
  have HC : Hid (∀ W, Past w W → (W.cell? ⟨bi, 0, none⟩ = some (.int .i64 k) ∧ W.cell? ⟨bx, 0, none⟩ = some (.slice (some ⟨kb, ko, none⟩) l.length c) ∧ W.cell? ⟨bx, 1, none⟩ = some (.map (some mb)) ∧ W.cell? ⟨kb, ko + k * 4 + 1, none⟩ = some (.slice l[k].pa pn l[k].pc) ∧ W.cell? ⟨bs, 4, none⟩ = some (.slice S.ea S.en S.ec))) := Lib.hid (fun W hW => by
    have hb : Below w.heap.size w W := hW
    exact ⟨(hb.cell (p := ⟨bi, 0, none⟩) hli).trans i0, (hb.cell (p := ⟨bx, 0, none⟩) hlx).trans x0, (hb.cell (p := ⟨bx, 1, none⟩) hlx).trans x1, (hb.cell (p := ⟨kb, ko + k * 4 + 1, none⟩) hkb).trans r1, (hb.cell (p := ⟨bs, 4, none⟩) hls).trans s4⟩)
  have HL := Lib.hid (fun W => last_any (some ⟨kb, ko, none⟩) l.length c mb hn W)
  have hp : Hid (Past w w.drew) := Lib.hid ((Below.refl w.heap.size w).drew)
  by_cases hkl : k + 1 = l.length
  · have HV : Hid (call2 l S = 10) := Lib.hid (by unfold call2; rw [hk2, if_pos (Or.inl hkl)])
    have e1 : ((k : Int) == (l.length : Int) - 1) = true := by simp; omega
    clear hp0 hin hib hx hs hrow hgd hpn hkl r0 r1 r2 r3 s0 s1 s2 s3 s4 s5 s6 x0 x1 i0
    go_enter Tryz.func193, Tryz.ntmps193
    go_wp2
    refine wp_region_noPanic ?_
    refine wp_region_held_drew (S := fun w' => w'.cell? ⟨bi, 0, none⟩ = some (.int .i64 k) ∧ w'.cell? ⟨bx, 0, none⟩ = some (.slice (some ⟨kb, ko, none⟩) l.length c) ∧ w'.cell? ⟨bx, 1, none⟩ = some (.map (some mb)) ∧ w'.cell? ⟨kb, ko + k * 4 + 1, none⟩ = some (.slice l[k].pa pn l[k].pc) ∧ w'.cell? ⟨bs, 4, none⟩ = some (.slice S.ea S.en S.ec)) (by kernel_rfl) ?_ (fun hHeld => ?_)
    · with_reducible exact HC.out _ hp.out
    refine wpAnyH_take (i := 0) (v := ?_) (opAt rfl) (by kernel_rfl) (by kernel_rfl) (by kernel_rfl) (fun _ _ _ h => h) (Or.inl ⟨by rfl, ?_⟩) (by assumption) ?_
    rotate_left
    · intro w' hSw; (try dsimp only at hSw); go_simp; (try with_reducible rfl)
    try simp only [Act.put, List.setIfInBounds_toArray, List.set_cons_zero, List.set_cons_succ]
    refine wpAnyH_take (i := 1) (v := ?_) (opAt rfl) (by kernel_rfl) (by kernel_rfl) (by kernel_rfl) (fun _ _ _ h => h) (Or.inl ⟨by rfl, ?_⟩) (by assumption) ?_
    rotate_left
    · intro w' hSw; (try dsimp only at hSw); go_simp; (try with_reducible rfl)
    try simp only [Act.put, List.setIfInBounds_toArray, List.set_cons_zero, List.set_cons_succ]
    refine wpAnyH_ready (rs := [2]) (by kernel_rfl) (by simp) ?_
    refine AllReadyH.cons (opAt rfl) (fun K hK => ?_) AllReadyH.nil
    go_simp
    go_at_call 95; ((with_reducible refine (HL.out _).mono ?_); rintro e wk ⟨rfl, hb⟩); have hq := Lib.hid (hp.out.on hb); clear hp hb; have hp := hq; clear hq
    (try go_wp2_with fail)
    refine hK.out _ _ (HC.out _ hp.out) (fun hHeld2 => ?_)
    clear hK K hHeld
    have hHeld := hHeld2
    clear hHeld2
    try simp only [Act.put, List.setIfInBounds_toArray, List.set_cons_zero, List.set_cons_succ]
    refine wpAnyH_take (i := 3) (v := ?_) (opAt rfl) (by kernel_rfl) (by kernel_rfl) (by kernel_rfl) (fun _ _ _ h => h) (Or.inl ⟨by rfl, ?_⟩) (by assumption) ?_
    rotate_left
    · intro w' hSw; (try dsimp only at hSw); go_simp; (try with_reducible rfl)
    try simp only [Act.put, List.setIfInBounds_toArray, List.set_cons_zero, List.set_cons_succ]
    refine wpAnyH_take (i := 4) (v := ?_) (opAt rfl) (by kernel_rfl) (by kernel_rfl) (by kernel_rfl) (fun _ _ _ h => h) (Or.inl ⟨by rfl, ?_⟩) (by assumption) ?_
    rotate_left
    · intro w' hSw; (try dsimp only at hSw); go_simp; (try with_reducible rfl)
    try simp only [Act.put, List.setIfInBounds_toArray, List.set_cons_zero, List.set_cons_succ]
    refine wpAnyH_take (i := 5) (v := undef) (opAt rfl) (by kernel_rfl) (by kernel_rfl) (by kernel_rfl) (fun _ _ _ h => h) (Or.inr ⟨by rfl, rfl⟩) (by assumption) ?_
    try simp only [Act.put, List.setIfInBounds_toArray, List.set_cons_zero, List.set_cons_succ]
    refine wpAnyH_take (i := 6) (v := undef) (opAt rfl) (by kernel_rfl) (by kernel_rfl) (by kernel_rfl) (fun _ _ _ h => h) (Or.inr ⟨by rfl, rfl⟩) (by assumption) ?_
    try simp only [Act.put, List.setIfInBounds_toArray, List.set_cons_zero, List.set_cons_succ]
    refine wpAnyH_take (i := 7) (v := undef) (opAt rfl) (by kernel_rfl) (by kernel_rfl) (by kernel_rfl) (fun _ _ _ h => h) (Or.inr ⟨by rfl, rfl⟩) (by assumption) ?_
    try simp only [Act.put, List.setIfInBounds_toArray, List.set_cons_zero, List.set_cons_succ]
    refine wpAnyH_take (i := 8) (v := undef) (opAt rfl) (by kernel_rfl) (by kernel_rfl) (by kernel_rfl) (fun _ _ _ h => h) (Or.inr ⟨by rfl, rfl⟩) (by assumption) ?_
    try simp only [Act.put, List.setIfInBounds_toArray, List.set_cons_zero, List.set_cons_succ]
    refine wpAnyH_take (i := 9) (v := undef) (opAt rfl) (by kernel_rfl) (by kernel_rfl) (by kernel_rfl) (fun _ _ _ h => h) (Or.inr ⟨by rfl, rfl⟩) (by assumption) ?_
    try simp only [Act.put, List.setIfInBounds_toArray, List.set_cons_zero, List.set_cons_succ]
    refine wpAnyH_take (i := 10) (v := undef) (opAt rfl) (by kernel_rfl) (by kernel_rfl) (by kernel_rfl) (fun _ _ _ h => h) (Or.inr ⟨by rfl, rfl⟩) (by assumption) ?_
    try simp only [Act.put, List.setIfInBounds_toArray, List.set_cons_zero, List.set_cons_succ]
    refine wpAnyH_take (i := 11) (v := undef) (opAt rfl) (by kernel_rfl) (by kernel_rfl) (by kernel_rfl) (fun _ _ _ h => h) (Or.inr ⟨by rfl, rfl⟩) (by assumption) ?_
    try simp only [Act.put, List.setIfInBounds_toArray, List.set_cons_zero, List.set_cons_succ]
    refine wpAnyH_take (i := 12) (v := undef) (opAt rfl) (by kernel_rfl) (by kernel_rfl) (by kernel_rfl) (fun _ _ _ h => h) (Or.inr ⟨by rfl, rfl⟩) (by assumption) ?_
    try simp only [Act.put, List.setIfInBounds_toArray, List.set_cons_zero, List.set_cons_succ]
    refine wpAnyH_take (i := 13) (v := undef) (opAt rfl) (by kernel_rfl) (by kernel_rfl) (by kernel_rfl) (fun _ _ _ h => h) (Or.inr ⟨by rfl, rfl⟩) (by assumption) ?_
    try simp only [Act.put, List.setIfInBounds_toArray, List.set_cons_zero, List.set_cons_succ]
    refine wpAnyH_take (i := 14) (v := undef) (opAt rfl) (by kernel_rfl) (by kernel_rfl) (by kernel_rfl) (fun _ _ _ h => h) (Or.inr ⟨by rfl, rfl⟩) (by assumption) ?_
    try simp only [Act.put, List.setIfInBounds_toArray, List.set_cons_zero, List.set_cons_succ]
    refine wpAnyH_take (i := 15) (v := undef) (opAt rfl) (by kernel_rfl) (by kernel_rfl) (by kernel_rfl) (fun _ _ _ h => h) (Or.inr ⟨by rfl, rfl⟩) (by assumption) ?_
    try simp only [Act.put, List.setIfInBounds_toArray, List.set_cons_zero, List.set_cons_succ]
    refine wpAnyH_take (i := 16) (v := undef) (opAt rfl) (by kernel_rfl) (by kernel_rfl) (by kernel_rfl) (fun _ _ _ h => h) (Or.inr ⟨by rfl, rfl⟩) (by assumption) ?_
    try simp only [Act.put, List.setIfInBounds_toArray, List.set_cons_zero, List.set_cons_succ]
    refine wpAnyH_take (i := 17) (v := ?_) (opAt rfl) (by kernel_rfl) (by kernel_rfl) (by kernel_rfl) (fun _ _ _ h => h) (Or.inl ⟨by rfl, ?_⟩) (by assumption) ?_
    rotate_left
    · intro w' hSw; (try dsimp only at hSw); go_simp; (try with_reducible rfl)
    try simp only [Act.put, List.setIfInBounds_toArray, List.set_cons_zero, List.set_cons_succ]
    refine wpAnyH_ready (rs := [18]) (by kernel_rfl) (by simp) ?_
    refine AllReadyH.cons (opAt rfl) (fun K hK => ?_) AllReadyH.nil
    go_simp
    go_at_call 38; ((with_reducible refine (when_any _ _ _).mono ?_); rintro e wk ⟨rfl, rfl⟩)
    (try go_wp2_with fail)
    refine hK.out _ _ (HC.out _ hp.out) (fun hHeld2 => ?_)
    clear hK K hHeld
    have hHeld := hHeld2
    clear hHeld2
    try simp only [Act.put, List.setIfInBounds_toArray, List.set_cons_zero, List.set_cons_succ]
    refine wpAnyH_take (i := 19) (v := ?_) (opAt rfl) (by kernel_rfl) (by kernel_rfl) (by kernel_rfl) (fun _ _ _ h => h) (Or.inl ⟨by rfl, ?_⟩) (by assumption) ?_
    rotate_left
    · intro w' hSw; (try dsimp only at hSw); go_simp; (try with_reducible rfl)
    try simp only [Act.put, List.setIfInBounds_toArray, List.set_cons_zero, List.set_cons_succ]
    refine wpAnyH_done (by kernel_rfl) ?_ _
    refine NoPanic.normal ?_
    go_wp2
    go_ret
    exact ⟨by rw [HV.out]; rfl, hp.out⟩
  · have e1 : ((k : Int) == (l.length : Int) - 1) = false := by simp; omega
    by_cases hpe : pn = S.en
    · have HV : Hid (call2 l S = 0) := Lib.hid (by unfold call2; rw [hk2, hgd, if_neg (by omega)])
      have e2 : ((pn : Int) != (S.en : Int)) = false := by simp; omega
      have e3 : (pn != S.en) = false := by simp; omega
      clear hpe
      clear hp0 hin hib hx hs hrow hgd hpn hkl r0 r1 r2 r3 s0 s1 s2 s3 s4 s5 s6 x0 x1 i0
      go_enter Tryz.func193, Tryz.ntmps193
      go_wp2
      refine wp_region_noPanic ?_
      refine wp_region_held_drew (S := fun w' => w'.cell? ⟨bi, 0, none⟩ = some (.int .i64 k) ∧ w'.cell? ⟨bx, 0, none⟩ = some (.slice (some ⟨kb, ko, none⟩) l.length c) ∧ w'.cell? ⟨bx, 1, none⟩ = some (.map (some mb)) ∧ w'.cell? ⟨kb, ko + k * 4 + 1, none⟩ = some (.slice l[k].pa pn l[k].pc) ∧ w'.cell? ⟨bs, 4, none⟩ = some (.slice S.ea S.en S.ec)) (by kernel_rfl) ?_ (fun hHeld => ?_)
      · with_reducible exact HC.out _ hp.out
      refine wpAnyH_take (i := 0) (v := ?_) (opAt rfl) (by kernel_rfl) (by kernel_rfl) (by kernel_rfl) (fun _ _ _ h => h) (Or.inl ⟨by rfl, ?_⟩) (by assumption) ?_
      rotate_left
      · intro w' hSw; (try dsimp only at hSw); go_simp; (try with_reducible rfl)
      try simp only [Act.put, List.setIfInBounds_toArray, List.set_cons_zero, List.set_cons_succ]
      refine wpAnyH_take (i := 1) (v := ?_) (opAt rfl) (by kernel_rfl) (by kernel_rfl) (by kernel_rfl) (fun _ _ _ h => h) (Or.inl ⟨by rfl, ?_⟩) (by assumption) ?_
      rotate_left
      · intro w' hSw; (try dsimp only at hSw); go_simp; (try with_reducible rfl)
      try simp only [Act.put, List.setIfInBounds_toArray, List.set_cons_zero, List.set_cons_succ]
      refine wpAnyH_ready (rs := [2]) (by kernel_rfl) (by simp) ?_
      refine AllReadyH.cons (opAt rfl) (fun K hK => ?_) AllReadyH.nil
      go_simp
      go_at_call 95; ((with_reducible refine (HL.out _).mono ?_); rintro e wk ⟨rfl, hb⟩); have hq := Lib.hid (hp.out.on hb); clear hp hb; have hp := hq; clear hq
      (try go_wp2_with fail)
      refine hK.out _ _ (HC.out _ hp.out) (fun hHeld2 => ?_)
      clear hK K hHeld
      have hHeld := hHeld2
      clear hHeld2
      try simp only [Act.put, List.setIfInBounds_toArray, List.set_cons_zero, List.set_cons_succ]
      refine wpAnyH_take (i := 3) (v := ?_) (opAt rfl) (by kernel_rfl) (by kernel_rfl) (by kernel_rfl) (fun _ _ _ h => h) (Or.inl ⟨by rfl, ?_⟩) (by assumption) ?_
      rotate_left
      · intro w' hSw; (try dsimp only at hSw); go_simp; (try with_reducible rfl)
      try simp only [Act.put, List.setIfInBounds_toArray, List.set_cons_zero, List.set_cons_succ]
      refine wpAnyH_take (i := 4) (v := ?_) (opAt rfl) (by kernel_rfl) (by kernel_rfl) (by kernel_rfl) (fun _ _ _ h => h) (Or.inl ⟨by rfl, ?_⟩) (by assumption) ?_
      rotate_left
      · intro w' hSw; (try dsimp only at hSw); go_simp; (try with_reducible rfl)
      try simp only [Act.put, List.setIfInBounds_toArray, List.set_cons_zero, List.set_cons_succ]
      refine wpAnyH_take (i := 5) (v := ?_) (opAt rfl) (by kernel_rfl) (by kernel_rfl) (by kernel_rfl) (fun _ _ _ h => h) (Or.inl ⟨by rfl, ?_⟩) (by assumption) ?_
      rotate_left
      · intro w' hSw; (try dsimp only at hSw); go_simp; (try with_reducible rfl)
      try simp only [Act.put, List.setIfInBounds_toArray, List.set_cons_zero, List.set_cons_succ]
      refine wpAnyH_take (i := 6) (v := ?_) (opAt rfl) (by kernel_rfl) (by kernel_rfl) (by kernel_rfl) (fun _ _ _ h => h) (Or.inl ⟨by rfl, ?_⟩) (by assumption) ?_
      rotate_left
      · intro w' hSw; (try dsimp only at hSw); go_simp; (try with_reducible rfl)
      try simp only [Act.put, List.setIfInBounds_toArray, List.set_cons_zero, List.set_cons_succ]
      refine wpAnyH_take (i := 7) (v := ?_) (opAt rfl) (by kernel_rfl) (by kernel_rfl) (by kernel_rfl) (fun _ _ _ h => h) (Or.inl ⟨by rfl, ?_⟩) (by assumption) ?_
      rotate_left
      · intro w' hSw; (try dsimp only at hSw); go_simp; (try with_reducible rfl)
      try simp only [Act.put, List.setIfInBounds_toArray, List.set_cons_zero, List.set_cons_succ]
      refine wpAnyH_take (i := 8) (v := ?_) (opAt rfl) (by kernel_rfl) (by kernel_rfl) (by kernel_rfl) (fun _ _ _ h => h) (Or.inl ⟨by rfl, ?_⟩) (by assumption) ?_
      rotate_left
      · intro w' hSw; (try dsimp only at hSw); go_simp; (try with_reducible rfl)
      try simp only [Act.put, List.setIfInBounds_toArray, List.set_cons_zero, List.set_cons_succ]
      refine wpAnyH_take (i := 9) (v := ?_) (opAt rfl) (by kernel_rfl) (by kernel_rfl) (by kernel_rfl) (fun _ _ _ h => h) (Or.inl ⟨by rfl, ?_⟩) (by assumption) ?_
      rotate_left
      · intro w' hSw; (try dsimp only at hSw); go_simp; (try with_reducible rfl)
      try simp only [Act.put, List.setIfInBounds_toArray, List.set_cons_zero, List.set_cons_succ]
      refine wpAnyH_take (i := 10) (v := ?_) (opAt rfl) (by kernel_rfl) (by kernel_rfl) (by kernel_rfl) (fun _ _ _ h => h) (Or.inl ⟨by rfl, ?_⟩) (by assumption) ?_
      rotate_left
      · intro w' hSw; (try dsimp only at hSw); go_simp; (try with_reducible rfl)
      try simp only [Act.put, List.setIfInBounds_toArray, List.set_cons_zero, List.set_cons_succ]
      refine wpAnyH_take (i := 11) (v := ?_) (opAt rfl) (by kernel_rfl) (by kernel_rfl) (by kernel_rfl) (fun _ _ _ h => h) (Or.inl ⟨by rfl, ?_⟩) (by assumption) ?_
      rotate_left
      · intro w' hSw; (try dsimp only at hSw); go_simp; (try with_reducible rfl)
      try simp only [Act.put, List.setIfInBounds_toArray, List.set_cons_zero, List.set_cons_succ]
      refine wpAnyH_take (i := 12) (v := ?_) (opAt rfl) (by kernel_rfl) (by kernel_rfl) (by kernel_rfl) (fun _ _ _ h => h) (Or.inl ⟨by rfl, ?_⟩) (by assumption) ?_
      rotate_left
      · intro w' hSw; (try dsimp only at hSw); go_simp; (try with_reducible rfl)
      try simp only [Act.put, List.setIfInBounds_toArray, List.set_cons_zero, List.set_cons_succ]
      refine wpAnyH_take (i := 13) (v := ?_) (opAt rfl) (by kernel_rfl) (by kernel_rfl) (by kernel_rfl) (fun _ _ _ h => h) (Or.inl ⟨by rfl, ?_⟩) (by assumption) ?_
      rotate_left
      · intro w' hSw; (try dsimp only at hSw); go_simp; (try with_reducible rfl)
      try simp only [Act.put, List.setIfInBounds_toArray, List.set_cons_zero, List.set_cons_succ]
      refine wpAnyH_take (i := 14) (v := ?_) (opAt rfl) (by kernel_rfl) (by kernel_rfl) (by kernel_rfl) (fun _ _ _ h => h) (Or.inl ⟨by rfl, ?_⟩) (by assumption) ?_
      rotate_left
      · intro w' hSw; (try dsimp only at hSw); go_simp; (try with_reducible rfl)
      try simp only [Act.put, List.setIfInBounds_toArray, List.set_cons_zero, List.set_cons_succ]
      refine wpAnyH_take (i := 15) (v := ?_) (opAt rfl) (by kernel_rfl) (by kernel_rfl) (by kernel_rfl) (fun _ _ _ h => h) (Or.inl ⟨by rfl, ?_⟩) (by assumption) ?_
      rotate_left
      · intro w' hSw; (try dsimp only at hSw); go_simp; (try with_reducible rfl)
      try simp only [Act.put, List.setIfInBounds_toArray, List.set_cons_zero, List.set_cons_succ]
      refine wpAnyH_take (i := 16) (v := ?_) (opAt rfl) (by kernel_rfl) (by kernel_rfl) (by kernel_rfl) (fun _ _ _ h => h) (Or.inl ⟨by rfl, ?_⟩) (by assumption) ?_
      rotate_left
      · intro w' hSw; (try dsimp only at hSw); go_simp; (try with_reducible rfl)
      try simp only [Act.put, List.setIfInBounds_toArray, List.set_cons_zero, List.set_cons_succ]
      refine wpAnyH_take (i := 17) (v := ?_) (opAt rfl) (by kernel_rfl) (by kernel_rfl) (by kernel_rfl) (fun _ _ _ h => h) (Or.inl ⟨by rfl, ?_⟩) (by assumption) ?_
      rotate_left
      · intro w' hSw; (try dsimp only at hSw); go_simp; (try with_reducible rfl)
      try simp only [Act.put, List.setIfInBounds_toArray, List.set_cons_zero, List.set_cons_succ]
      refine wpAnyH_ready (rs := [18]) (by kernel_rfl) (by simp) ?_
      refine AllReadyH.cons (opAt rfl) (fun K hK => ?_) AllReadyH.nil
      go_simp
      go_at_call 38; ((with_reducible refine (when_any _ _ _).mono ?_); rintro e wk ⟨rfl, rfl⟩)
      (try go_wp2_with fail)
      refine hK.out _ _ (HC.out _ hp.out) (fun hHeld2 => ?_)
      clear hK K hHeld
      have hHeld := hHeld2
      clear hHeld2
      try simp only [Act.put, List.setIfInBounds_toArray, List.set_cons_zero, List.set_cons_succ]
      refine wpAnyH_take (i := 19) (v := ?_) (opAt rfl) (by kernel_rfl) (by kernel_rfl) (by kernel_rfl) (fun _ _ _ h => h) (Or.inl ⟨by rfl, ?_⟩) (by assumption) ?_
      rotate_left
      · intro w' hSw; (try dsimp only at hSw); go_simp; (try with_reducible rfl)
      try simp only [Act.put, List.setIfInBounds_toArray, List.set_cons_zero, List.set_cons_succ]
      refine wpAnyH_done (by kernel_rfl) ?_ _
      refine NoPanic.normal ?_
      go_wp2
      go_ret
      exact ⟨by rw [HV.out]; rfl, hp.out⟩
    · have HV : Hid (call2 l S = 10) := Lib.hid (by unfold call2; rw [hk2, hgd, if_pos (Or.inr hpe)])
      have e2 : ((pn : Int) != (S.en : Int)) = true := by simp; omega
      have e3 : (pn != S.en) = true := by simpa using hpe
      clear hpe
      clear hp0 hin hib hx hs hrow hgd hpn hkl r0 r1 r2 r3 s0 s1 s2 s3 s4 s5 s6 x0 x1 i0
      go_enter Tryz.func193, Tryz.ntmps193
      go_wp2
      refine wp_region_noPanic ?_
      refine wp_region_held_drew (S := fun w' => w'.cell? ⟨bi, 0, none⟩ = some (.int .i64 k) ∧ w'.cell? ⟨bx, 0, none⟩ = some (.slice (some ⟨kb, ko, none⟩) l.length c) ∧ w'.cell? ⟨bx, 1, none⟩ = some (.map (some mb)) ∧ w'.cell? ⟨kb, ko + k * 4 + 1, none⟩ = some (.slice l[k].pa pn l[k].pc) ∧ w'.cell? ⟨bs, 4, none⟩ = some (.slice S.ea S.en S.ec)) (by kernel_rfl) ?_ (fun hHeld => ?_)
      · with_reducible exact HC.out _ hp.out
      refine wpAnyH_take (i := 0) (v := ?_) (opAt rfl) (by kernel_rfl) (by kernel_rfl) (by kernel_rfl) (fun _ _ _ h => h) (Or.inl ⟨by rfl, ?_⟩) (by assumption) ?_
      rotate_left
      · intro w' hSw; (try dsimp only at hSw); go_simp; (try with_reducible rfl)
      try simp only [Act.put, List.setIfInBounds_toArray, List.set_cons_zero, List.set_cons_succ]
      refine wpAnyH_take (i := 1) (v := ?_) (opAt rfl) (by kernel_rfl) (by kernel_rfl) (by kernel_rfl) (fun _ _ _ h => h) (Or.inl ⟨by rfl, ?_⟩) (by assumption) ?_
      rotate_left
      · intro w' hSw; (try dsimp only at hSw); go_simp; (try with_reducible rfl)
      try simp only [Act.put, List.setIfInBounds_toArray, List.set_cons_zero, List.set_cons_succ]
      refine wpAnyH_ready (rs := [2]) (by kernel_rfl) (by simp) ?_
      refine AllReadyH.cons (opAt rfl) (fun K hK => ?_) AllReadyH.nil
      go_simp
      go_at_call 95; ((with_reducible refine (HL.out _).mono ?_); rintro e wk ⟨rfl, hb⟩); have hq := Lib.hid (hp.out.on hb); clear hp hb; have hp := hq; clear hq
      (try go_wp2_with fail)
      refine hK.out _ _ (HC.out _ hp.out) (fun hHeld2 => ?_)
      clear hK K hHeld
      have hHeld := hHeld2
      clear hHeld2
      try simp only [Act.put, List.setIfInBounds_toArray, List.set_cons_zero, List.set_cons_succ]
      refine wpAnyH_take (i := 3) (v := ?_) (opAt rfl) (by kernel_rfl) (by kernel_rfl) (by kernel_rfl) (fun _ _ _ h => h) (Or.inl ⟨by rfl, ?_⟩) (by assumption) ?_
      rotate_left
      · intro w' hSw; (try dsimp only at hSw); go_simp; (try with_reducible rfl)
      try simp only [Act.put, List.setIfInBounds_toArray, List.set_cons_zero, List.set_cons_succ]
      refine wpAnyH_take (i := 4) (v := ?_) (opAt rfl) (by kernel_rfl) (by kernel_rfl) (by kernel_rfl) (fun _ _ _ h => h) (Or.inl ⟨by rfl, ?_⟩) (by assumption) ?_
      rotate_left
      · intro w' hSw; (try dsimp only at hSw); go_simp; (try with_reducible rfl)
      try simp only [Act.put, List.setIfInBounds_toArray, List.set_cons_zero, List.set_cons_succ]
      refine wpAnyH_take (i := 5) (v := ?_) (opAt rfl) (by kernel_rfl) (by kernel_rfl) (by kernel_rfl) (fun _ _ _ h => h) (Or.inl ⟨by rfl, ?_⟩) (by assumption) ?_
      rotate_left
      · intro w' hSw; (try dsimp only at hSw); go_simp; (try with_reducible rfl)
      try simp only [Act.put, List.setIfInBounds_toArray, List.set_cons_zero, List.set_cons_succ]
      refine wpAnyH_take (i := 6) (v := ?_) (opAt rfl) (by kernel_rfl) (by kernel_rfl) (by kernel_rfl) (fun _ _ _ h => h) (Or.inl ⟨by rfl, ?_⟩) (by assumption) ?_
      rotate_left
      · intro w' hSw; (try dsimp only at hSw); go_simp; (try with_reducible rfl)
      try simp only [Act.put, List.setIfInBounds_toArray, List.set_cons_zero, List.set_cons_succ]
      refine wpAnyH_take (i := 7) (v := ?_) (opAt rfl) (by kernel_rfl) (by kernel_rfl) (by kernel_rfl) (fun _ _ _ h => h) (Or.inl ⟨by rfl, ?_⟩) (by assumption) ?_
      rotate_left
      · intro w' hSw; (try dsimp only at hSw); go_simp; (try with_reducible rfl)
      try simp only [Act.put, List.setIfInBounds_toArray, List.set_cons_zero, List.set_cons_succ]
      refine wpAnyH_take (i := 8) (v := ?_) (opAt rfl) (by kernel_rfl) (by kernel_rfl) (by kernel_rfl) (fun _ _ _ h => h) (Or.inl ⟨by rfl, ?_⟩) (by assumption) ?_
      rotate_left
      · intro w' hSw; (try dsimp only at hSw); go_simp; (try with_reducible rfl)
      try simp only [Act.put, List.setIfInBounds_toArray, List.set_cons_zero, List.set_cons_succ]
      refine wpAnyH_take (i := 9) (v := ?_) (opAt rfl) (by kernel_rfl) (by kernel_rfl) (by kernel_rfl) (fun _ _ _ h => h) (Or.inl ⟨by rfl, ?_⟩) (by assumption) ?_
      rotate_left
      · intro w' hSw; (try dsimp only at hSw); go_simp; (try with_reducible rfl)
      try simp only [Act.put, List.setIfInBounds_toArray, List.set_cons_zero, List.set_cons_succ]
      refine wpAnyH_take (i := 10) (v := ?_) (opAt rfl) (by kernel_rfl) (by kernel_rfl) (by kernel_rfl) (fun _ _ _ h => h) (Or.inl ⟨by rfl, ?_⟩) (by assumption) ?_
      rotate_left
      · intro w' hSw; (try dsimp only at hSw); go_simp; (try with_reducible rfl)
      try simp only [Act.put, List.setIfInBounds_toArray, List.set_cons_zero, List.set_cons_succ]
      refine wpAnyH_take (i := 11) (v := ?_) (opAt rfl) (by kernel_rfl) (by kernel_rfl) (by kernel_rfl) (fun _ _ _ h => h) (Or.inl ⟨by rfl, ?_⟩) (by assumption) ?_
      rotate_left
      · intro w' hSw; (try dsimp only at hSw); go_simp; (try with_reducible rfl)
      try simp only [Act.put, List.setIfInBounds_toArray, List.set_cons_zero, List.set_cons_succ]
      refine wpAnyH_take (i := 12) (v := ?_) (opAt rfl) (by kernel_rfl) (by kernel_rfl) (by kernel_rfl) (fun _ _ _ h => h) (Or.inl ⟨by rfl, ?_⟩) (by assumption) ?_
      rotate_left
      · intro w' hSw; (try dsimp only at hSw); go_simp; (try with_reducible rfl)
      try simp only [Act.put, List.setIfInBounds_toArray, List.set_cons_zero, List.set_cons_succ]
      refine wpAnyH_take (i := 13) (v := ?_) (opAt rfl) (by kernel_rfl) (by kernel_rfl) (by kernel_rfl) (fun _ _ _ h => h) (Or.inl ⟨by rfl, ?_⟩) (by assumption) ?_
      rotate_left
      · intro w' hSw; (try dsimp only at hSw); go_simp; (try with_reducible rfl)
      try simp only [Act.put, List.setIfInBounds_toArray, List.set_cons_zero, List.set_cons_succ]
      refine wpAnyH_take (i := 14) (v := ?_) (opAt rfl) (by kernel_rfl) (by kernel_rfl) (by kernel_rfl) (fun _ _ _ h => h) (Or.inl ⟨by rfl, ?_⟩) (by assumption) ?_
      rotate_left
      · intro w' hSw; (try dsimp only at hSw); go_simp; (try with_reducible rfl)
      try simp only [Act.put, List.setIfInBounds_toArray, List.set_cons_zero, List.set_cons_succ]
      refine wpAnyH_take (i := 15) (v := ?_) (opAt rfl) (by kernel_rfl) (by kernel_rfl) (by kernel_rfl) (fun _ _ _ h => h) (Or.inl ⟨by rfl, ?_⟩) (by assumption) ?_
      rotate_left
      · intro w' hSw; (try dsimp only at hSw); go_simp; (try with_reducible rfl)
      try simp only [Act.put, List.setIfInBounds_toArray, List.set_cons_zero, List.set_cons_succ]
      refine wpAnyH_take (i := 16) (v := ?_) (opAt rfl) (by kernel_rfl) (by kernel_rfl) (by kernel_rfl) (fun _ _ _ h => h) (Or.inl ⟨by rfl, ?_⟩) (by assumption) ?_
      rotate_left
      · intro w' hSw; (try dsimp only at hSw); go_simp; (try with_reducible rfl)
      try simp only [Act.put, List.setIfInBounds_toArray, List.set_cons_zero, List.set_cons_succ]
      refine wpAnyH_take (i := 17) (v := ?_) (opAt rfl) (by kernel_rfl) (by kernel_rfl) (by kernel_rfl) (fun _ _ _ h => h) (Or.inl ⟨by rfl, ?_⟩) (by assumption) ?_
      rotate_left
      · intro w' hSw; (try dsimp only at hSw); go_simp; (try with_reducible rfl)
      try simp only [Act.put, List.setIfInBounds_toArray, List.set_cons_zero, List.set_cons_succ]
      refine wpAnyH_ready (rs := [18]) (by kernel_rfl) (by simp) ?_
      refine AllReadyH.cons (opAt rfl) (fun K hK => ?_) AllReadyH.nil
      go_simp
      go_at_call 38; ((with_reducible refine (when_any _ _ _).mono ?_); rintro e wk ⟨rfl, rfl⟩)
      (try go_wp2_with fail)
      refine hK.out _ _ (HC.out _ hp.out) (fun hHeld2 => ?_)
      clear hK K hHeld
      have hHeld := hHeld2
      clear hHeld2
      try simp only [Act.put, List.setIfInBounds_toArray, List.set_cons_zero, List.set_cons_succ]
      refine wpAnyH_take (i := 19) (v := ?_) (opAt rfl) (by kernel_rfl) (by kernel_rfl) (by kernel_rfl) (fun _ _ _ h => h) (Or.inl ⟨by rfl, ?_⟩) (by assumption) ?_
      rotate_left
      · intro w' hSw; (try dsimp only at hSw); go_simp; (try with_reducible rfl)
      try simp only [Act.put, List.setIfInBounds_toArray, List.set_cons_zero, List.set_cons_succ]
      refine wpAnyH_done (by kernel_rfl) ?_ _
      refine NoPanic.normal ?_
      go_wp2
      go_ret
      exact ⟨by rw [HV.out]; rfl, hp.out⟩
end Go.Proofs.YtplonecdaegfbaaGreatDoor.Ck

set_option linter.unusedSimpArgs false
set_option linter.unusedVariables false
namespace Go.Proofs.YtplonecdaegfbaaGreatDoor.Ck
open Go Go.RowKit Go.Proofs.YtplonecdaegfbaaGreatDoor

theorem fcells {w : World} {b : Nat} {F : FT} (h : FBox w b F) : w.cell? ⟨b, 0, none⟩ = some (.string F.name) ∧ w.cell? ⟨b, 1, none⟩ = some (.slice F.pa F.params.length F.pc) ∧ w.cell? ⟨b, 2, none⟩ = some (.slice F.va F.vars.length F.vc) ∧ w.cell? ⟨b, 3, none⟩ = some (.slice F.ba F.body.length F.bc) ∧ b < w.heap.size :=
  ⟨bk_cell h rfl, bk_cell h rfl, bk_cell h rfl, bk_cell h rfl, lt_blk h⟩
theorem when9 (b : Bool) : (if b then (9 : Int) else 0) = ((if b then 9 else 0 : Nat) : Int) := by cases b <;> rfl
set_option maxHeartbeats 4000000 in
set_option maxRecDepth 100000 in
theorem ask1_any (a : Option Addr) (l : List FT) (c mb i bs bx bi : Nat) (S : ST) (hn : l.length ≤ 9223372036854775807) (hi : i < l.length) (ht : -9223372036854775808 ≤ S.tag ∧ S.tag ≤ 9223372036854775807) (seen : List Int) (hl : seen.length ≤ 1000000) (w : World) (hT : Tg mb w seen) (hs : SBox w bs S) (hx : XBox w bx a l.length c mb) (hib : Box w bi (.int .i64 i) 3) :
    Calls Tryz.prog 145 #[.pointer (some ⟨bs, 0, none⟩), .pointer (some ⟨bx, 0, none⟩), .pointer (some ⟨bi, 0, none⟩)] w fun e w' => e = .returned (.int .i64 (tagF l i S seen : Nat)) ∧ Gr mb w w' ∧ Tg mb w' (seenF S seen) := by
  obtain ⟨s0, s1, s2, s3, s4, s5, s6, hls⟩ := scells hs
  obtain ⟨x0, x1, hlx⟩ := xcells hx
  have i0 := hib.c0
  have hli := hib.lt
  have HM := Lib.hid (mayTag_any a l.length c mb hn i hi S.tag ht seen hl w hT)
  have HT := Lib.hid hT
  clear hT hs hx hib hl
  by_cases h0 : 0 < S.tag
  · have e0 : decide (0 < S.tag) = true := by simpa using h0
    have HS : Hid (seenF S seen = S.tag :: seen) := Lib.hid (by unfold seenF; rw [if_pos h0])
    obtain ⟨q, hq⟩ : ∃ q, decide (i + 1 = l.length ∧ S.tag ∉ seen) = q := ⟨_, rfl⟩
    have HV : Hid (tagF l i S seen = if q then 0 else 9) := Lib.hid (by
      unfold tagF
      rw [if_pos h0, ← hq]
      by_cases h : i + 1 = l.length ∧ S.tag ∉ seen
      · rw [if_pos h, decide_eq_true h]; rfl
      · rw [if_neg h, decide_eq_false h]; rfl)
    rw [hq] at HM
    clear hq h0
    cases q
    all_goals
      go_enter Tryz.func145, Tryz.ntmps145
      go_wp2_with (first | (go_at_call 38; refine (when_any _ _ _).mono ?_; rintro e w' ⟨rfl, rfl⟩) | (go_at_call 146; have hx := HM.out; refine hx.mono ?_; clear hx; rintro e w1 ⟨rfl, hg, ht1⟩; have HG := Lib.hid hg; have HT1 := Lib.hid ht1; clear hg ht1))
      go_ret
      exact ⟨by rw [HV.out]; rfl, HG.out, by rw [HS.out]; exact HT1.out⟩
  · have e0 : decide (0 < S.tag) = false := by simpa using h0
    have HS : Hid (seenF S seen = seen) := Lib.hid (by unfold seenF; rw [if_neg h0])
    have HV : Hid (tagF l i S seen = 0) := Lib.hid (by unfold tagF; rw [if_neg h0])
    clear h0
    go_enter Tryz.func145, Tryz.ntmps145
    go_wp2_with (go_at_call 38; refine (when_any _ _ _).mono ?_; rintro e w' ⟨rfl, rfl⟩)
    go_ret
    exact ⟨by rw [HV.out]; rfl, gr_refl _ _, by rw [HS.out]; exact HT.out⟩
set_option maxHeartbeats 4000000 in
set_option maxRecDepth 100000 in
theorem jumps_any (S : ST) (w : World) : Calls Tryz.prog 148 #[.agg #[.int .i64 S.kind, .int .i64 S.tag, .string S.name, .string S.func, .slice S.ea S.en S.ec, .slice S.ba S.bn S.bc, .slice S.la S.ln S.lc]] w fun e w' => e = .returned (.bool (decide (S.kind = 6 ∨ S.kind = 7))) ∧ Below w.heap.size w w' := by
  by_cases h6 : S.kind = 6
  · have e6 : (S.kind == 6) = true := by simpa using h6
    rw [decide_eq_true (Or.inl h6)]
    clear h6
    go_enter Tryz.func148, Tryz.ntmps148
    go_wp2
    go_ret
    exact ⟨rfl, bal (bre w) _⟩
  · have e6 : (S.kind == 6) = false := by simpa using h6
    by_cases h7 : S.kind = 7
    · have e7 : (S.kind == 7) = true := by simpa using h7
      rw [decide_eq_true (Or.inr h7)]
      clear h6 h7
      go_enter Tryz.func148, Tryz.ntmps148
      go_wp2
      go_ret
      exact ⟨rfl, bal (bre w) _⟩
    · have e7 : (S.kind == 7) = false := by simpa using h7
      rw [decide_eq_false (by omega)]
      clear h6 h7
      go_enter Tryz.func148, Tryz.ntmps148
      go_wp2
      go_ret
      exact ⟨rfl, bal (bre w) _⟩
set_option maxHeartbeats 4000000 in
set_option maxRecDepth 100000 in
theorem ask2_any (S : ST) (looped : Bool) (bs bo : Nat) (w : World) (hs : SBox w bs S) (hb : Box w bo (.bool looped) 4) :
    Calls Tryz.prog 147 #[.pointer (some ⟨bs, 0, none⟩), .pointer (some ⟨bo, 0, none⟩)] w fun e w' => e = .returned (.int .i64 (jumpF S looped : Nat)) ∧ Below w.heap.size w w' := by
  obtain ⟨s0, s1, s2, s3, s4, s5, s6, hls⟩ := scells hs
  have HB := Lib.hid hb
  have l0 := hb.c0
  have hll := hb.lt
  have HJ := Lib.hid (jumps_any S w)
  obtain ⟨q, hq⟩ : ∃ q, decide (S.kind = 6 ∨ S.kind = 7) = q := ⟨_, rfl⟩
  have HV : Hid (jumpF S looped = if q && !looped then 8 else 0) := Lib.hid (by
    unfold jumpF
    rw [← hq]
    by_cases h : S.kind = 6 ∨ S.kind = 7 <;> cases looped <;> simp [h])
  rw [hq] at HJ
  clear hs hb hq
  cases q
  all_goals cases looped
  all_goals
    go_enter Tryz.func147, Tryz.ntmps147
    go_wp2_with (first | (go_at_call 38; refine (when_any _ _ _).mono ?_; rintro e w' ⟨rfl, rfl⟩) | (go_at_call 148; have hx := HJ.out; refine hx.mono ?_; clear hx; rintro e w1 ⟨rfl, hb1⟩; have l1 := Box.c0 (bl hb1 HB.out); have hl1 := Box.lt (bl hb1 HB.out); have HB1 := Lib.hid hb1; clear hb1))
    go_ret
    exact ⟨by rw [HV.out]; rfl, HB1.out⟩
set_option maxHeartbeats 4000000 in
set_option maxRecDepth 100000 in
theorem target_any {w0 : World} {F : FT} (hin : F.In w0 0) (S : ST) (w : World) (hp : Past w0 w) :
    Calls Tryz.prog 150 #[.agg #[.string F.name, .slice F.pa F.params.length F.pc, .slice F.va F.vars.length F.vc, .slice F.ba F.body.length F.bc], .agg #[.int .i64 S.kind, .int .i64 S.tag, .string S.name, .string S.func, .slice S.ea S.en S.ec, .slice S.ba S.bn S.bc, .slice S.la S.ln S.lc]] w fun e w' => e = .returned (.int .i64 (targetF F S : Nat)) ∧ Below w.heap.size w w' := by
  have HP := Lib.hid hp
  obtain ⟨q, hq⟩ : ∃ q, decide (S.kind = 1) = q := ⟨_, rfl⟩
  have hq2 : (S.kind == 1) = q := by rw [← hq]; rfl
  have HN := Lib.hid (fun (W : World) (hW : Past w0 W) => named_any hin S.name q W hW)
  by_cases h0 : S.name.data.toList = []
  · have HV : Hid (targetF F S = 0) := Lib.hid (by unfold targetF; rw [if_pos h0])
    have e1 : S.name.toList = [] := by rw [ByteArray.toList_eq]; exact h0
    clear hp hin h0 hq
    go_enter Tryz.func150, Tryz.ntmps150
    go_wp2
    go_ret
    exact ⟨by rw [HV.out]; rfl, bal (bal (bre w) _) _⟩
  · have HV : Hid (targetF F S = namedF F S.name q) := Lib.hid (by unfold targetF; rw [if_neg h0, hq])
    have e1 : S.name.toList.isEmpty = false := by rw [ByteArray.toList_eq]; simpa using h0
    clear hp hin h0 hq
    go_enter Tryz.func150, Tryz.ntmps150
    go_wp2_with (go_at_call 42; refine (HN.out _ ?_).mono ?_; (exact (HP.out.alloc _).alloc _); rintro e w1 ⟨rfl, hb1⟩; have HB1 := Lib.hid hb1; clear hb1)
    go_ret
    exact ⟨by rw [HV.out]; rfl, step_on (bal (bal (bre w) _) _) HB1.out⟩
set_option maxHeartbeats 4000000 in
set_option maxRecDepth 100000 in
theorem ask3_any {w0 : World} {F : FT} (hin : F.In w0 0) (S : ST) (bf bs : Nat) (w : World) (hp : Past w0 w) (hf : FBox w bf F) (hs : SBox w bs S) :
    Calls Tryz.prog 149 #[.pointer (some ⟨bf, 0, none⟩), .pointer (some ⟨bs, 0, none⟩)] w fun e w' => e = .returned (.int .i64 (targetF F S : Nat)) ∧ Below w.heap.size w w' := by
  obtain ⟨s0, s1, s2, s3, s4, s5, s6, hls⟩ := scells hs
  obtain ⟨f0, f1, f2, f3, hlf⟩ := fcells hf
  have HX := Lib.hid (target_any hin S w hp)
  clear hp hin hf hs
  go_enter Tryz.func149, Tryz.ntmps149
  go_wp2_with (go_at_call 150; have hx := HX.out; refine hx.mono ?_; clear hx; rintro e w1 ⟨rfl, hb1⟩)
  go_ret
  exact ⟨rfl, hb1⟩
set_option maxHeartbeats 4000000 in
set_option maxRecDepth 100000 in
theorem callee_any {w0 : World} {a : Option Addr} {l : List FT} (hin : FsIn w0 0 a l) (c mb : Nat) (S : ST) (w : World) (hp : Past w0 w) :
    Calls Tryz.prog 152 #[.agg #[.slice a l.length c, .map (some mb)], .agg #[.int .i64 S.kind, .int .i64 S.tag, .string S.name, .string S.func, .slice S.ea S.en S.ec, .slice S.ba S.bn S.bc, .slice S.la S.ln S.lc]] w fun e w' => e = .returned (.int .i64 (calleeF l S : Nat)) ∧ Below w.heap.size w w' := by
  have HP := Lib.hid hp
  have HI := Lib.hid hin
  by_cases h3 : S.kind = 3
  · have e3 : (S.kind != 3) = false := by simpa using h3
    have HF := Lib.hid (fun (W : World) (hW : Past w0 W) => find_any hin c S.func W hW)
    have HV := Lib.hid (callee_code l S h3)
    have HD := Lib.hid (findV_lt l S.func)
    obtain ⟨v, hv⟩ : ∃ v, findV l S.func = v := ⟨_, rfl⟩
    rw [hv] at HF HV HD
    clear hp hin h3 hv
    go_enter Tryz.func152, Tryz.ntmps152
    go_wp2_with (first
      | (go_at_call 35; refine (firstOf_q [(192, #[.pointer (some ⟨w1.heap.size, 0, none⟩)]), (193, #[.pointer (some ⟨w1.heap.size, 0, none⟩), .pointer (some ⟨w.heap.size, 0, none⟩), .pointer (some ⟨w.heap.size + 1, 0, none⟩)])] (cd [ng v, call2 l S]) _ _ (by show 2 ≤ 100; decide) (by simp) ?_ ?_ ?_).mono ?_; (intro k h; match k, h with | 0, _ => exact enters_of Tryz.func192 (by kernel_rfl) rfl | 1, _ => exact enters_of Tryz.func193 (by kernel_rfl) rfl | k + 2, h => exact absurd h (by simp)); (intro k h; match k, h with | 0, _ => (refine bk_cell (nb _ (by simp)) ?_; rfl) | 1, _ => (refine bk_cell (nb _ (by simp)) ?_; rfl) | k + 2, h => exact absurd h (by simp)); (intro k h W hz hW; match k, h with | 0, _ => exact (callee1_any _ v W (bl hW (ob _ (nb _ rfl)))).mono fun e w' h => ⟨h.1, h.2 ▸ Below.refl _ _⟩ | 1, _ => (have hv0 : ¬ v < 0 := (fun h => by simp [firstC, cd, orE, ng, h] at hz); rcases HD.out with ⟨h, -⟩ | ⟨h1, h2, h3⟩; (exact absurd h hv0); (exact callee2_any HI.out c mb _ _ _ S (findN l S.func) h3 rfl W (Past.on (((HP.out.alloc _).alloc _).on HB1.out |>.alloc _ |>.alloc _) hW) (by rw [← h2]; exact bl hW (ob _ (nb _ rfl))) (bl hW (ob _ (ob _ HX1.out))) (bl hW (ob _ (ob _ HS1.out))))) | k + 2, h => exact absurd h (by simp)); rintro e w2 ⟨rfl, hb2⟩; have HB2 := Lib.hid hb2; clear hb2)
      | (go_at_call 19; refine (HF.out _ ?_).mono ?_; (exact (HP.out.alloc _).alloc _); rintro e w1 ⟨rfl, hb1⟩; have HX1 : Hid (XBox w1 w.heap.size a l.length c mb) := Lib.hid (bl hb1 (ob _ (nb _ rfl))); have HS1 : Hid (SBox w1 (w.heap.size + 1) S) := Lib.hid (bl hb1 (nb _ (by simp))); have HB1 := Lib.hid hb1; clear hb1))
    go_ret
    have h1 : Below w.heap.size w w1 := step_on (bal (bal (bre w) _) _) HB1.out
    exact ⟨by rw [HV.out]; rfl, step_on h1 (step_on (bal (bal (bre w1) _) _) HB2.out)⟩
  · have e3 : (S.kind != 3) = true := by simpa using h3
    have HV : Hid (calleeF l S = 0) := Lib.hid (by unfold calleeF; rw [if_pos h3])
    clear hp hin h3
    go_enter Tryz.func152, Tryz.ntmps152
    go_wp2
    go_ret
    exact ⟨by rw [HV.out]; rfl, bal (bal (bre w) _) _⟩
set_option maxHeartbeats 4000000 in
set_option maxRecDepth 100000 in
theorem ask4_any {w0 : World} {a : Option Addr} {l : List FT} (hin : FsIn w0 0 a l) (c mb : Nat) (S : ST) (bx bs : Nat) (w : World) (hp : Past w0 w) (hx : XBox w bx a l.length c mb) (hs : SBox w bs S) :
    Calls Tryz.prog 151 #[.pointer (some ⟨bx, 0, none⟩), .pointer (some ⟨bs, 0, none⟩)] w fun e w' => e = .returned (.int .i64 (calleeF l S : Nat)) ∧ Below w.heap.size w w' := by
  obtain ⟨s0, s1, s2, s3, s4, s5, s6, hls⟩ := scells hs
  obtain ⟨x0, x1, hlx⟩ := xcells hx
  have HX := Lib.hid (callee_any hin c mb S w hp)
  clear hp hin hx hs
  go_enter Tryz.func151, Tryz.ntmps151
  go_wp2_with (go_at_call 152; have hx := HX.out; refine hx.mono ?_; clear hx; rintro e w1 ⟨rfl, hb1⟩)
  go_ret
  exact ⟨rfl, hb1⟩
theorem en_is (S : ST) : S.en = (ST.es S).length := by cases S; rfl
theorem in_es {w : World} {B : Nat} {S : ST} (h : S.In w B) : EsIn w B S.ea 0 (ST.es S) ∧ (ST.es S).length ≤ 9223372036854775807 := by
  cases S; rw [ST.In] at h; exact ⟨h.2.2.1, h.2.1.1⟩
set_option maxHeartbeats 4000000 in
set_option maxRecDepth 100000 in
theorem ask5_any {w0 : World} {F : FT} (hin : F.In w0 0) (S : ST) (hS : S.In w0 0) (bs bf : Nat) (w : World) (hp : Past w0 w) (hs : SBox w bs S) (hf : FBox w bf F) :
    Calls Tryz.prog 153 #[.pointer (some ⟨bs, 0, none⟩), .pointer (some ⟨bf, 0, none⟩)] w fun e w' => e = .returned (.int .i64 (placeEs F (ST.es S) : Nat)) ∧ Below w.heap.size w w' := by
  have h := in_es hS
  have hx := places_any hin bf (szs (ST.es S) + 1) S.ea S.ec (ST.es S) (by omega) h.2 h.1 w hp hf
  rw [← en_is] at hx
  have HX := Lib.hid hx
  obtain ⟨s0, s1, s2, s3, s4, s5, s6, hls⟩ := scells hs
  clear hx hp hin hs hf hS h
  go_enter Tryz.func153, Tryz.ntmps153
  go_wp2_with (go_at_call 154; have hx := HX.out; refine hx.mono ?_; clear hx; rintro e w1 ⟨rfl, hb1⟩)
  go_ret
  exact ⟨rfl, hb1⟩
end Go.Proofs.YtplonecdaegfbaaGreatDoor.Ck
