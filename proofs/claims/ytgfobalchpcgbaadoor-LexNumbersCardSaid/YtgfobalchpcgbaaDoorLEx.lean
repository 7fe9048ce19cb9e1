/- The chapter's examples hold, whatever the memory, as long as strconv's two errors are errors. -/
import Derived.Test.YtgfobalchpcgbaaDoorLAll
set_option linter.unusedSimpArgs false
set_option linter.unusedVariables false
namespace Go.Proofs.YtgfobalchpcgbaaDoor
open Go Go.RowKit

/-- Block g holds the words ts. -/
def TokIn (w : World) (g : Nat) (ts : List Tok) : Prop := g < w.heap.size ∧ ∀ j u, (toksV ts)[j]? = some u → w.cell? ⟨g, j, none⟩ = some u
theorem TokIn.on {w w' : World} {g : Nat} {ts : List Tok} (h : TokIn w g ts) (hb : Below w.heap.size w w') : TokIn w' g ts :=
  ⟨Nat.lt_of_lt_of_le h.1 hb.size, fun j u hu => (hb.cell (p := ⟨g, j, none⟩) h.1).trans (h.2 j u hu)⟩
theorem tokIn_of_row {w : World} {b n : Nat} {v : Value} {ts : List Tok} (h : w.ownsRow b 31 4 v n (toksV ts)) (hn : 0 < n) : ∃ g cap, v = .slice (some ⟨g, 0, none⟩) n cap ∧ b ≤ g ∧ TokIn w g ts := by
  rcases h.2 with ⟨_, h0⟩ | ⟨g, cap, cur, rfl, hg, hh, h1, h2, h3, h4⟩
  · omega
  · refine ⟨g, cap, rfl, hg, lt_of_block hh, fun j u hu => bk_cell hh ?_⟩
    have hj : j < n * 4 := by
      have := (List.getElem?_eq_some_iff.1 hu).1
      have hl := h.1
      omega
    rw [← h4, List.getElem?_take_of_lt hj] at hu
    simpa using hu
theorem toksV_get : ∀ (ts : List Tok) (i c : Nat), i < ts.length → c < 4 → (toksV ts)[4 * i + c]? = (tokCells (ts.getD i ⟨0, [], 0, 0⟩))[c]? := by
  intro ts
  induction ts with
  | nil => intro i c h; simp at h
  | cons t ts ih =>
    intro i c hi hc
    have e : toksV (t :: ts) = tokCells t ++ toksV ts := by simp [toksV]
    have hl : (tokCells t).length = 4 := rfl
    rw [e]
    cases i with
    | zero => rw [List.getElem?_append_left (by omega)]; simp
    | succ i =>
      rw [List.getElem?_append_right (by omega), hl, show 4 * (i + 1) + c - 4 = 4 * i + c by omega, ih i c (by simpa using hi) hc]
      simp
section
variable {w : World} {g : Nat} {ts : List Tok}
theorem TokIn.kind (h : TokIn w g ts) (i : Nat) (hi : i < ts.length) : w.cell? ⟨g, 4 * i + 0, none⟩ = some (.int .i64 (ts.getD i ⟨0, [], 0, 0⟩).kind) := h.2 _ _ (by rw [toksV_get ts i 0 hi (by omega)]; rfl)
theorem TokIn.text (h : TokIn w g ts) (i : Nat) (hi : i < ts.length) : w.cell? ⟨g, 4 * i + 1, none⟩ = some (.string (bsOf (ts.getD i ⟨0, [], 0, 0⟩).text)) := h.2 _ _ (by rw [toksV_get ts i 1 hi (by omega)]; rfl)
theorem TokIn.num (h : TokIn w g ts) (i : Nat) (hi : i < ts.length) : w.cell? ⟨g, 4 * i + 2, none⟩ = some (.int .u64 (ts.getD i ⟨0, [], 0, 0⟩).n) := h.2 _ _ (by rw [toksV_get ts i 2 hi (by omega)]; rfl)
theorem TokIn.pos (h : TokIn w g ts) (i : Nat) (hi : i < ts.length) : w.cell? ⟨g, 4 * i + 3, none⟩ = some (.int .i64 (ts.getD i ⟨0, [], 0, 0⟩).at') := h.2 _ _ (by rw [toksV_get ts i 3 hi (by omega)]; rfl)
end
section
variable {w0 w : World}
theorem all_toks (s : ByteArray) (hs : s.size ≤ 8192) (H : Errs w0) (h : Past w0 w) {ts : List Tok} {n : Nat} (hx : lexP 0 s.data.toList = (some ts, n)) (hne : 0 < ts.length) :
    Calls Tryd.prog 10 #[.string s] w fun e w' => ∃ g cap, e = .returned (.tuple #[.slice (some ⟨g, 0, none⟩) ts.length cap, .int .i64 s.size, .int .i64 0]) ∧ TokIn w' g ts ∧ Below w.heap.size w w' ∧ w.heap.size ≤ g ∧ Past w0 w' :=
  (all_any s hs w (H.on h)).mono fun e w' hp => by
    unfold AllPost at hp
    rw [hx] at hp
    obtain ⟨hb, v, he, ho⟩ := hp
    obtain ⟨g, cap, rfl, hg, ht⟩ := tokIn_of_row ho hne
    exact ⟨g, cap, he, ht, hb, hg, h.on hb⟩
theorem all_nil (s : ByteArray) (hs : s.size ≤ 8192) (H : Errs w0) (h : Past w0 w) {n : Nat} (hx : lexP 0 s.data.toList = (some [], n)) :
    Calls Tryd.prog 10 #[.string s] w fun e w' => ∃ A c, e = .returned (.tuple #[.slice A 0 c, .int .i64 s.size, .int .i64 0]) ∧ Below w.heap.size w w' ∧ Past w0 w' :=
  (all_any s hs w (H.on h)).mono fun e w' hp => by
    unfold AllPost at hp
    rw [hx] at hp
    obtain ⟨hb, v, he, ho⟩ := hp
    rcases ho.2 with ⟨rfl, _⟩ | ⟨g, cap, cur, rfl, _, hh, h1, _⟩
    · exact ⟨none, 0, he, hb, h.on hb⟩
    · exact ⟨_, _, he, hb, h.on hb⟩
theorem all_err (s : ByteArray) (hs : s.size ≤ 8192) (H : Errs w0) (h : Past w0 w) {p : Nat} (hx : lexP 0 s.data.toList = (none, p)) :
    Calls Tryd.prog 10 #[.string s] w fun e w' => e = .returned (.tuple #[.slice none 0 0, .int .i64 p, .int .i64 2]) ∧ Below w.heap.size w w' ∧ Past w0 w' :=
  (all_any s hs w (H.on h)).mono fun e w' hp => by
    unfold AllPost at hp
    rw [hx] at hp
    exact ⟨hp.2, hp.1, h.on hp.1⟩

theorem isName_long (s : ByteArray) (h : 24 < s.size) (w : World) : Calls Tryd.prog 11 #[.string s] w fun e w' => e = .returned (.bool false) ∧ w = w' := by
  have hl : s.toList.length = s.size := by rw [ByteArray.toList_eq]; simp
  have h1 : s.toList.isEmpty = false := by
    cases e : s.toList with
    | nil => rw [e] at hl; simp at hl; omega
    | cons => rfl
  have h2 : (s.toList = []) ↔ False := by
    constructor
    · intro e; rw [e] at h1; cases h1
    · exact False.elim
  clear hl
  go_enter Tryd.func11, Tryd.ntmps11
  go_wp2
  go_ret
  exact ⟨rfl, rfl⟩
theorem isName_key (s : ByteArray) (h0 : 0 < s.size) (h24 : s.size ≤ 24) (hk : isKeyL s.data.toList = true) (w : World) : Calls Tryd.prog 11 #[.string s] w fun e w' => e = .returned (.bool false) ∧ w = w' := by
  have hl : s.toList.length = s.size := by rw [ByteArray.toList_eq]; simp
  have h1 : s.toList.isEmpty = false := by
    cases e : s.toList with
    | nil => rw [e] at hl; simp at hl; omega
    | cons => rfl
  have h2 : (s.toList = []) ↔ False := by
    constructor
    · intro e; rw [e] at h1; cases h1
    · exact False.elim
  clear hl
  go_enter Tryd.func11, Tryd.ntmps11
  go_wp2_with (go_at_call 12; refine (isKey_any _ _).mono ?_; rintro e w' ⟨rfl, rfl⟩)
  go_ret
  exact ⟨rfl, rfl⟩
theorem isName_word (s : ByteArray) (h0 : 0 < s.size) (h24 : s.size ≤ 24) (hk : isKeyL s.data.toList = false) (hf : ltI ((s[0]'h0).toNat : Int) = true) (he : tw isPt s = s.size) (w : World) : Calls Tryd.prog 11 #[.string s] w fun e w' => e = .returned (.bool true) ∧ w = w' := by
  have hl : s.toList.length = s.size := by rw [ByteArray.toList_eq]; simp
  have h1 : s.toList.isEmpty = false := by
    cases e : s.toList with
    | nil => rw [e] at hl; simp at hl; omega
    | cons => rfl
  have h2 : (s.toList = []) ↔ False := by
    constructor
    · intro e; rw [e] at h1; cases h1
    · exact False.elim
  clear hl
  have HE := Lib.hid he
  clear he
  go_enter Tryd.func11, Tryd.ntmps11
  go_wp2_with (first
    | (go_at_call 12; refine (isKey_any _ _).mono ?_; rintro e w' ⟨rfl, rfl⟩)
    | (go_at_call 19; refine (isLetter_any _ _).mono ?_; rintro e w' ⟨rfl, rfl⟩)
    | (go_at_call 20; refine (extent_pt' _ (by omega) _).mono ?_; rintro e w' ⟨rfl, rfl⟩; rw [HE.out]))
  go_ret
  exact ⟨by simp, rfl⟩
theorem isName_not (s : ByteArray) (h0 : 0 < s.size) (h24 : s.size ≤ 24) (hk : isKeyL s.data.toList = false) (hf : ltI ((s[0]'h0).toNat : Int) = false) (w : World) : Calls Tryd.prog 11 #[.string s] w fun e w' => e = .returned (.bool false) ∧ w = w' := by
  have hl : s.toList.length = s.size := by rw [ByteArray.toList_eq]; simp
  have h1 : s.toList.isEmpty = false := by
    cases e : s.toList with
    | nil => rw [e] at hl; simp at hl; omega
    | cons => rfl
  have h2 : (s.toList = []) ↔ False := by
    constructor
    · intro e; rw [e] at h1; cases h1
    · exact False.elim
  clear hl
  go_enter Tryd.func11, Tryd.ntmps11
  go_wp2_with (first
    | (go_at_call 12; refine (isKey_any _ _).mono ?_; rintro e w' ⟨rfl, rfl⟩)
    | (go_at_call 19; refine (isLetter_any _ _).mono ?_; rintro e w' ⟨rfl, rfl⟩))
  all_goals first
    | (exfalso; omega)
    | (go_ret; exact ⟨rfl, rfl⟩)

def exToks : List Tok := [⟨1, [97], 0, 1⟩, ⟨4, [60, 61], 0, 2⟩, ⟨2, [49], 1, 4⟩, ⟨3, [64, 55], 7, 6⟩, ⟨5, [119, 104, 105, 108, 101], 0, 9⟩, ⟨4, [60, 60], 0, 14⟩]
theorem ex_lex1 : lexP 0 [32, 97, 60, 61, 49, 32, 64, 55, 32, 119, 104, 105, 108, 101, 60, 60] = (some exToks, 16) := by decide +kernel
theorem ex_lex2 : lexP 0 [97, 32, 48, 55] = (none, 2) := by decide +kernel
theorem ex_lex3 : lexP 0 [97, 32, 36] = (none, 2) := by decide +kernel
theorem ex_all1 (H : Errs w0) (h : Past w0 w) : Calls Tryd.prog 10 #[.string { data := #[32, 97, 60, 61, 49, 32, 64, 55, 32, 119, 104, 105, 108, 101, 60, 60] }] w fun e w' => ∃ g cap, e = .returned (.tuple #[.slice (some ⟨g, 0, none⟩) 6 cap, .int .i64 16, .int .i64 0]) ∧ TokIn w' g exToks ∧ Past w0 w' :=
  (all_toks { data := #[32, 97, 60, 61, 49, 32, 64, 55, 32, 119, 104, 105, 108, 101, 60, 60] } (by decide) H h ex_lex1 (by decide)).mono fun e w' ⟨g, cap, he, ht, _, _, hp⟩ => ⟨g, cap, by rw [he]; rfl, ht, hp⟩
theorem ex_all2 (H : Errs w0) (h : Past w0 w) : Calls Tryd.prog 10 #[.string { data := #[97, 32, 48, 55] }] w fun e w' => e = .returned (.tuple #[.slice none 0 0, .int .i64 2, .int .i64 2]) ∧ Below w.heap.size w w' ∧ Past w0 w' :=
  (all_err { data := #[97, 32, 48, 55] } (by decide) H h ex_lex2).mono fun e w' ⟨he, r⟩ => ⟨by rw [he]; rfl, r⟩
theorem ex_all3 (H : Errs w0) (h : Past w0 w) : Calls Tryd.prog 10 #[.string { data := #[97, 32, 36] }] w fun e w' => e = .returned (.tuple #[.slice none 0 0, .int .i64 2, .int .i64 2]) ∧ Below w.heap.size w w' ∧ Past w0 w' :=
  (all_err { data := #[97, 32, 36] } (by decide) H h ex_lex3).mono fun e w' ⟨he, r⟩ => ⟨by rw [he]; rfl, r⟩
theorem ex_name1 (w : World) : Calls Tryd.prog 11 #[.string { data := #[114, 101, 97, 100] }] w fun e w' => e = .returned (.bool false) ∧ w = w' := isName_key _ (by decide) (by decide) (by decide) w
theorem ex_name2 (w : World) : Calls Tryd.prog 11 #[.string { data := #[95, 120, 57] }] w fun e w' => e = .returned (.bool true) ∧ w = w' := isName_word { data := #[95, 120, 57] } (by decide) (by decide) (by decide) (by decide) (by decide) w
theorem ex_name3 (w : World) : Calls Tryd.prog 11 #[.string { data := #[57, 120] }] w fun e w' => e = .returned (.bool false) ∧ w = w' := isName_not { data := #[57, 120] } (by decide) (by decide) (by decide) (by decide) w
theorem ex_key (w : World) : Calls Tryd.prog 12 #[.string { data := #[114, 101, 97, 100] }] w fun e w' => e = .returned (.bool true) ∧ w = w' := isKey_any { data := #[114, 101, 97, 100] } w
theorem ex_facts {g : Nat} (h : TokIn w g exToks) : w.cell? ⟨g, 0, none⟩ = some (.int .i64 1) ∧ w.cell? ⟨g, 3, none⟩ = some (.int .i64 1) ∧ w.cell? ⟨g, 5, none⟩ = some (.string { data := #[60, 61] }) ∧ w.cell? ⟨g, 10, none⟩ = some (.int .u64 1) ∧
    w.cell? ⟨g, 12, none⟩ = some (.int .i64 3) ∧ w.cell? ⟨g, 14, none⟩ = some (.int .u64 7) ∧ w.cell? ⟨g, 16, none⟩ = some (.int .i64 5) ∧ w.cell? ⟨g, 21, none⟩ = some (.string { data := #[60, 60] }) :=
  ⟨h.2 0 _ rfl, h.2 3 _ rfl, h.2 5 _ rfl, h.2 10 _ rfl, h.2 12 _ rfl, h.2 14 _ rfl, h.2 16 _ rfl, h.2 21 _ rfl⟩
set_option maxRecDepth 100000 in
set_option maxHeartbeats 2000000 in
theorem ex_any (H0 : Errs w0) (w : World) (h : Past w0 w) :
    Calls Tryd.prog 8 #[] w fun e w' => e = .returned (.bool true) ∧ Past w0 w' := by
  have H : Hid (Errs w0) := Lib.hid H0
  have HP := Lib.hid h
  clear H0 h
  go_enter Tryd.func8, Tryd.ntmps8
  go_wp2_with (first
    | (go_at_call 10; ((with_reducible refine (ex_all1 H.out HP.out).mono ?_); rintro e w1 ⟨g, cap, rfl, ht, h1⟩; have HT := Lib.hid ht; have H1 := Lib.hid h1; clear ht h1))
    | (go_at_call 10; ((with_reducible refine (ex_all2 H.out H1.out).mono ?_); rintro e w2 ⟨rfl, hb, h2⟩; have HT2 := Lib.hid (HT.out.on hb); have H2 := Lib.hid h2; clear hb h2))
    | (go_at_call 10; ((with_reducible refine (ex_all3 H.out H2.out).mono ?_); rintro e w3 ⟨rfl, hb, h3⟩; obtain ⟨p0, p1, p2, p3, p4, p5, p6, p7⟩ := ex_facts (HT2.out.on hb); have H3 := Lib.hid h3; clear hb h3))
    | (go_at_call 12; refine (ex_key _).mono ?_; rintro e w' ⟨rfl, rfl⟩)
    | (go_at_call 11; ((with_reducible refine (ex_name1 _).mono ?_); rintro e w' ⟨rfl, rfl⟩))
    | (go_at_call 11; ((with_reducible refine (ex_name2 _).mono ?_); rintro e w' ⟨rfl, rfl⟩))
    | (go_at_call 11; ((with_reducible refine (ex_name3 _).mono ?_); rintro e w' ⟨rfl, rfl⟩)))
  go_ret
  exact ⟨rfl, H3.out⟩
end
end Go.Proofs.YtgfobalchpcgbaaDoor
