/- Two right trees are the same just if they are the same plain data; what is put of them is alike just so. No walk stands in this text. -/
import Derived.Test.YtgkdoealhbhnmaaGreatDoorTSame4
set_option linter.unusedSimpArgs false
set_option linter.unusedVariables false
namespace Go.Proofs.YtgkdoealhbhnmaaGreatDoor
open Go Go.RowKit

theorem beq_txt (s t : ByteArray) : (s.toList == t.toList) = true ↔ s.data.toList = t.data.toList := by
  rw [ByteArray.toList_eq, ByteArray.toList_eq]; simp
theorem txt_inj {s t : ByteArray} (h : s.data.toList = t.data.toList) : s = t := by
  rw [of_list h]
theorem sameE_iff : ∀ (m : Nat) (T U : ET), T.sz ≤ m → T.rightB = true → U.rightB = true → (sameE T U = true ↔ T.re = U.re) := by
  intro m
  induction m with
  | zero => intro T U hm; obtain ⟨k, o, n, m, a, c, l⟩ := T; simp [ET.sz] at hm
  | succ m ih =>
    intro T U hm h h'
    rcases right_cases h with ⟨n, a, c, rfl⟩ | ⟨s, a, c, hs, rfl⟩ | ⟨s, a, c, e, hs, he, rfl⟩ | ⟨o, a, c, e, ho, he, rfl⟩ | ⟨o, a, c, e, f, ho, he, hf, rfl⟩
    · rcases right_cases h' with ⟨n', a', c', rfl⟩ | ⟨s', a', c', hs', rfl⟩ | ⟨s', a', c', e', hs', he', rfl⟩ | ⟨o', a', c', e', ho', he', rfl⟩ | ⟨o', a', c', e', f', ho', he', hf', rfl⟩
      · simp [sameE, sameEs, ET.re]
      all_goals simp [sameE, sameEs, ET.re]
    · rcases right_cases h' with ⟨n', a', c', rfl⟩ | ⟨s', a', c', hs', rfl⟩ | ⟨s', a', c', e', hs', he', rfl⟩ | ⟨o', a', c', e', ho', he', rfl⟩ | ⟨o', a', c', e', f', ho', he', hf', rfl⟩
      · simp [sameE, sameEs, ET.re]
      · simp only [sameE, sameEs, ET.re, Bool.and_eq_true, beq_txt]; simp
      all_goals simp [sameE, sameEs, ET.re]
    · simp [ET.sz, szs] at hm
      rcases right_cases h' with ⟨n', a', c', rfl⟩ | ⟨s', a', c', hs', rfl⟩ | ⟨s', a', c', e', hs', he', rfl⟩ | ⟨o', a', c', e', ho', he', rfl⟩ | ⟨o', a', c', e', f', ho', he', hf', rfl⟩
      · simp [sameE, sameEs, ET.re]
      · simp [sameE, sameEs, ET.re]
      · simp only [sameE, sameEs, ET.re, Bool.and_eq_true, beq_txt, ih e e' (by omega) he he']; simp
      all_goals simp [sameE, sameEs, ET.re]
    · simp [ET.sz, szs] at hm
      rcases right_cases h' with ⟨n', a', c', rfl⟩ | ⟨s', a', c', hs', rfl⟩ | ⟨s', a', c', e', hs', he', rfl⟩ | ⟨o', a', c', e', ho', he', rfl⟩ | ⟨o', a', c', e', f', ho', he', hf', rfl⟩
      · simp [sameE, sameEs, ET.re]
      · simp [sameE, sameEs, ET.re]
      · simp [sameE, sameEs, ET.re]
      · obtain ⟨x, -, rfl⟩ := unB_is ho
        obtain ⟨x', -, rfl⟩ := unB_is ho'
        simp only [sameE, sameEs, ET.re, Bool.and_eq_true, beq_txt, ih e e' (by omega) he he']; simp
      · simp [sameE, sameEs, ET.re]
    · simp [ET.sz, szs] at hm
      rcases right_cases h' with ⟨n', a', c', rfl⟩ | ⟨s', a', c', hs', rfl⟩ | ⟨s', a', c', e', hs', he', rfl⟩ | ⟨o', a', c', e', ho', he', rfl⟩ | ⟨o', a', c', e', f', ho', he', hf', rfl⟩
      · simp [sameE, sameEs, ET.re]
      · simp [sameE, sameEs, ET.re]
      · simp [sameE, sameEs, ET.re]
      · simp [sameE, sameEs, ET.re]
      · simp only [sameE, sameEs, ET.re, Bool.and_eq_true, beq_txt, ih e e' (by omega) he he', ih f f' (by omega) hf hf']; simp
theorem sameEs_iff : ∀ (l m : List ET), rightEs l = true → rightEs m = true → (sameEs l m = true ↔ res l = res m)
  | [], [], _, _ => by simp [sameEs, res]
  | [], U :: m, _, _ => by simp [sameEs, res]
  | T :: l, [], _, _ => by simp [sameEs, res]
  | T :: l, U :: m, h, h' => by
    simp only [rightEs, Bool.and_eq_true] at h h'
    have := sameEs_iff l m h.2 h'.2
    simp only [sameEs, Bool.and_eq_true, sameE_iff _ T U (Nat.le_refl _) h.1 h'.1, this, res, List.map_cons, List.cons.injEq]
theorem tag_iff {t t' : Int} (h : 0 ≤ t) (h' : 0 ≤ t') : ((t == t') = true) ↔ t.toNat = t'.toNat := by rw [beq_iff_eq]; omega
theorem rss_nil : rss [] = [] := by rw [rss]
theorem rss_cons (S : ST) (l : List ST) : rss (S :: l) = S.rs :: rss l := by rw [rss]
theorem sameS_iff : ∀ (m : Nat) (S U : ST), S.sz ≤ m → S.rightB = true → U.rightB = true → (sameS S U = true ↔ S.rs = U.rs) := by
  intro m
  induction m with
  | zero => intro S U hm; obtain ⟨k, t, n, f, ea, ec, e, ba, bc, b, la, lc, l⟩ := S; simp [ST.sz] at hm
  | succ m ih =>
    intro S U hm h h'
    have list : ∀ (l l' : List ST), Szs l ≤ m → rightSs l = true → rightSs l' = true → (sameSs l l' = true ↔ rss l = rss l') := by
      intro l
      induction l with
      | nil =>
        intro l' _ _ _
        cases l' with
        | nil => simp [sameSs, rss_nil]
        | cons U l' => simp [sameSs, rss_nil, rss_cons]
      | cons S l ihl =>
        intro l' hz hr hr'
        cases l' with
        | nil => simp [sameSs, rss_nil, rss_cons]
        | cons U l' =>
          simp only [rightSs, Bool.and_eq_true] at hr hr'
          simp only [Szs] at hz
          simp only [sameSs, Bool.and_eq_true, ih S U (by omega) hr.1 hr'.1, ihl l' (by omega) hr.2 hr'.2, rss_cons, List.cons.injEq]
    obtain ⟨t, ht0, ht1, hc⟩ := rightS_cases h
    obtain ⟨t', ht0', ht1', hc'⟩ := rightS_cases h'
    have ht := tag_iff ht0 ht0'
    rcases hc with ⟨n, ea, ec, e, ba, bc, la, lc, hn, he, rfl⟩ | ⟨n, ea, ec, e, e2, ba, bc, la, lc, hn, he, he2, rfl⟩ | ⟨n, ea, ec, ba, bc, la, lc, hn, rfl⟩ | ⟨n, f, ea, ec, e, ba, bc, la, lc, hn, hf, he, rfl⟩ | ⟨ea, ec, e, ba, bc, b, la, lc, l, he, hb, hl, rfl⟩ | ⟨ea, ec, e, ba, bc, b, la, lc, he, hb, rfl⟩ | ⟨ea, ec, ba, bc, la, lc, rfl⟩ | ⟨ea, ec, ba, bc, la, lc, rfl⟩ | ⟨ea, ec, e, ba, bc, la, lc, he, rfl⟩ | ⟨ea, ec, e, ba, bc, la, lc, he, rfl⟩
    all_goals
      rcases hc' with ⟨n', ea', ec', e', ba', bc', la', lc', hn', he', rfl⟩ | ⟨n', ea', ec', e', e2', ba', bc', la', lc', hn', he', he2', rfl⟩ | ⟨n', ea', ec', ba', bc', la', lc', hn', rfl⟩ | ⟨n', f', ea', ec', e', ba', bc', la', lc', hn', hf', he', rfl⟩ | ⟨ea', ec', e', ba', bc', b', la', lc', l', he', hb', hl', rfl⟩ | ⟨ea', ec', e', ba', bc', b', la', lc', he', hb', rfl⟩ | ⟨ea', ec', ba', bc', la', lc', rfl⟩ | ⟨ea', ec', ba', bc', la', lc', rfl⟩ | ⟨ea', ec', e', ba', bc', la', lc', he', rfl⟩ | ⟨ea', ec', e', ba', bc', la', lc', he', rfl⟩
    all_goals try (simp [sameS, ST.rs]; done)
    all_goals simp only [ST.sz, szs, Szs] at hm
    · simp only [sameS, sameEs, sameSs, ST.rs, nthR, Bool.and_eq_true, beq_txt, ht, sameE_iff _ e e' (Nat.le_refl _) he he']; simp [and_assoc]
    · simp only [sameS, sameEs, sameSs, ST.rs, nthR, Bool.and_eq_true, beq_txt, ht, sameE_iff _ e e' (Nat.le_refl _) he he', sameE_iff _ e2 e2' (Nat.le_refl _) he2 he2']; simp [and_assoc]
    · simp only [sameS, sameEs, sameSs, ST.rs, nthR, Bool.and_eq_true, beq_txt, ht]; simp [and_assoc]
    · simp only [sameS, sameSs, ST.rs, nthR, Bool.and_eq_true, beq_txt, ht, sameEs_iff e e' he he']; simp [and_assoc]
    · simp only [sameS, sameEs, ST.rs, nthR, Bool.and_eq_true, beq_txt, ht, sameE_iff _ e e' (Nat.le_refl _) he he', list b b' (by omega) hb hb', list l l' (by omega) hl hl']; simp [and_assoc]
    · simp only [sameS, sameEs, sameSs, ST.rs, nthR, Bool.and_eq_true, beq_txt, ht, sameE_iff _ e e' (Nat.le_refl _) he he', list b b' (by omega) hb hb']; simp [and_assoc]
    · simp only [sameS, sameEs, sameSs, ST.rs, nthR, Bool.and_eq_true, beq_txt, ht]; simp [and_assoc]
    · simp only [sameS, sameEs, sameSs, ST.rs, nthR, Bool.and_eq_true, beq_txt, ht]; simp [and_assoc]
    · simp only [sameS, sameEs, sameSs, ST.rs, nthR, Bool.and_eq_true, beq_txt, ht, sameE_iff _ e e' (Nat.le_refl _) he he']; simp [and_assoc]
    · simp only [sameS, sameEs, sameSs, ST.rs, nthR, Bool.and_eq_true, beq_txt, ht, sameE_iff _ e e' (Nat.le_refl _) he he']; simp [and_assoc]
theorem sameSs_iff : ∀ (l l' : List ST), rightSs l = true → rightSs l' = true → (sameSs l l' = true ↔ rss l = rss l')
  | [], [], _, _ => by simp [sameSs, rss_nil]
  | [], U :: m, _, _ => by simp [sameSs, rss_nil, rss_cons]
  | S :: l, [], _, _ => by simp [sameSs, rss_nil, rss_cons]
  | S :: l, U :: m, h, h' => by
    simp only [rightSs, Bool.and_eq_true] at h h'
    simp only [sameSs, Bool.and_eq_true, sameS_iff _ S U (Nat.le_refl _) h.1 h'.1, sameSs_iff l m h.2 h'.2, rss_cons, List.cons.injEq]
theorem names_iff : ∀ (l m : List ByteArray), (decide (l = m) = true) ↔ l.map (fun s => s.data.toList) = m.map (fun s => s.data.toList)
  | [], [] => by simp
  | [], t :: m => by simp
  | s :: l, [] => by simp
  | s :: l, t :: m => by
    have := names_iff l m
    rw [decide_eq_true_iff] at this ⊢
    simp only [List.cons.injEq, List.map_cons, this]
    exact ⟨fun h => ⟨by rw [h.1], h.2⟩, fun h => ⟨txt_inj h.1, h.2⟩⟩
theorem ba_beq (s t : ByteArray) : (s == t) = true ↔ s = t := by
  obtain ⟨a⟩ := s
  obtain ⟨b⟩ := t
  show (a == b) = true ↔ _
  simp
theorem sameD_iff (d e : ByteArray × Int) (h : 0 ≤ d.2) (h' : 0 ≤ e.2) : sameD d e = true ↔ (d.1.data.toList, d.2.toNat) = (e.1.data.toList, e.2.toNat) := by
  unfold sameD
  rw [Bool.and_eq_true, ba_beq, beq_iff_eq, Prod.mk.injEq]
  constructor
  · rintro ⟨h1, h2⟩; exact ⟨by rw [h1], by rw [h2]⟩
  · rintro ⟨h1, h2⟩; exact ⟨txt_inj h1, by omega⟩
theorem sameDs_iff : ∀ (l m : List (ByteArray × Int)), l.all declB = true → m.all declB = true → (sameDs l m = true ↔ l.map (fun d => (d.1.data.toList, d.2.toNat)) = m.map (fun d => (d.1.data.toList, d.2.toNat)))
  | [], [], _, _ => by simp [sameDs]
  | [], e :: m, _, _ => by simp [sameDs]
  | d :: l, [], _, _ => by simp [sameDs]
  | d :: l, e :: m, h, h' => by
    simp only [List.all_cons, Bool.and_eq_true, declB, decide_eq_true_eq] at h h'
    have h1 := h.1.2
    have h2 := h'.1.2
    have := sameDs_iff l m (by simpa [declB] using h.2) (by simpa [declB] using h'.2)
    rw [sameDs, Bool.and_eq_true, sameD_iff d e h1 h2, this, List.map_cons, List.map_cons, List.cons.injEq]
theorem sameF_iff (F G : FT) (h : F.rightB = true) (h' : G.rightB = true) : sameF F G = true ↔ F.rf = G.rf := by
  simp only [FT.rightB, Bool.and_eq_true] at h h'
  unfold sameF FT.rf
  rw [Bool.and_eq_true, Bool.and_eq_true, Bool.and_eq_true, beq_txt, names_iff, sameDs_iff _ _ h.2.2.1 h'.2.2.1, sameSs_iff _ _ h.2.2.2 h'.2.2.2, RF.mk.injEq]
theorem sameFs_iff : ∀ (l m : List FT), l.all FT.rightB = true → m.all FT.rightB = true → (sameFs l m = true ↔ l.map FT.rf = m.map FT.rf)
  | [], [], _, _ => by simp [sameFs]
  | [], G :: m, _, _ => by simp [sameFs]
  | F :: l, [], _, _ => by simp [sameFs]
  | F :: l, G :: m, h, h' => by
    simp only [List.all_cons, Bool.and_eq_true] at h h'
    rw [sameFs, Bool.and_eq_true, sameF_iff F G h.1 h'.1, sameFs_iff l m h.2 h'.2, List.map_cons, List.map_cons, List.cons.injEq]
end Go.Proofs.YtgkdoealhbhnmaaGreatDoor
