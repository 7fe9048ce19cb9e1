/- How many lines the text of a right program has; how many braces end what stands in it. -/
import Derived.Test.YtppeogcpoplpeaaGreatDoorTSameM
import Derived.Test.YtppeogcpoplpeaaGreatDoorTCount
set_option linter.unusedSimpArgs false
set_option linter.unusedVariables false
namespace Go.Proofs.YtppeogcpoplpeaaGreatDoor
open Go Go.RowKit
open Go.Lib (decDigits itoa)

/-- So many lines end in a text. -/
def nl (l : List UInt8) : Nat := l.count 10
theorem nl_app (a b : List UInt8) : nl (a ++ b) = nl a + nl b := List.count_append ..
theorem nl_nil : nl [] = 0 := rfl
theorem nl_ten (l : List UInt8) : nl (10 :: l) = nl l + 1 := by unfold nl; simp
theorem nl_cons {c : UInt8} (h : c ≠ 10) (l : List UInt8) : nl (c :: l) = nl l := by unfold nl; rw [List.count_cons_of_ne h]
theorem nl_zero {l : List UInt8} (h : ∀ c ∈ l, c ≠ 10) : nl l = 0 := List.count_eq_zero.2 fun h' => h _ h' rfl
theorem pt_ten {c : UInt8} (h : isPt c = true) : c ≠ 10 := fun e => by subst e; exact absurd h (by decide)
theorem dg_ten {c : UInt8} (h : isDg c = true) : c ≠ 10 := fun e => by subst e; exact absurd h (by decide)
theorem nl_name {s : List UInt8} (h : nameOk s = true) : nl s = 0 := by
  simp only [nameOk, Bool.and_eq_true, List.all_eq_true] at h
  exact nl_zero fun c hc => pt_ten (h.2 c hc)
theorem nl_dec (u : Nat) : nl (decDigits u) = 0 := nl_zero fun c hc => dg_ten (dec_all u c hc)
theorem nl_itoa (n : Int) : nl (itoa n) = 0 := by
  unfold itoa
  split
  · rw [nl_cons (by decide), nl_dec]
  · rw [nl_dec]
theorem nl_ops {o : List UInt8} (h : ops18.contains o = true) : nl o = 0 := by
  have h2 : ∀ x ∈ ops18, nl x = 0 := by decide
  exact h2 o (by simpa using h)
theorem nl_br (b : Bool) {l : List UInt8} (h : nl l = 0) : nl (inBr b l) = 0 := by
  unfold inBr
  split
  · rw [nl_cons (by decide), nl_app, h]; rfl
  · exact h
theorem nl_putR (lev : List UInt8 → Int) : ∀ r : RE, r.wf = true → nl (putR lev r) = 0
  | .num n, _ => by rw [putR, nl_itoa]
  | .var s, h => by rw [RE.wf] at h; rw [putR, nl_name h]
  | .idx s e, h => by
    simp only [RE.wf, Bool.and_eq_true] at h
    rw [putR, nl_app, nl_name h.1, nl_cons (by decide), nl_app, nl_putR lev e h.2]; rfl
  | .un c e, h => by
    simp only [RE.wf, Bool.and_eq_true, Bool.or_eq_true, beq_iff_eq] at h
    rw [putR, nl_cons (fun e => by subst e; exact absurd h.1 (by decide)), nl_br _ (nl_putR lev e h.2)]
  | .bin o a b, h => by
    simp only [RE.wf, Bool.and_eq_true] at h
    rw [putR, nl_app, nl_br _ (nl_putR lev a h.1.2), nl_cons (by decide), nl_app, nl_ops h.1.1, nl_cons (by decide), nl_br _ (nl_putR lev b h.2)]
theorem nl_commas {α : Type} (f : α → List UInt8) : ∀ l : List α, (∀ a ∈ l, nl (f a) = 0) → nl (commas [44, 32] f l) = 0
  | [], _ => rfl
  | [a], h => by rw [commas_one]; exact h a (by simp)
  | a :: b :: l, h => by
    rw [commas_two, nl_app, h a (by simp), nl_app, nl_commas f (b :: l) fun x hx => h x (List.mem_cons_of_mem _ hx)]; rfl
theorem nl_tabs (d : Nat) : nl (tabsT d) = 0 := nl_zero fun c hc => by
  rw [tabsT] at hc
  rw [List.eq_of_mem_replicate hc]; decide
theorem nl_tag (t : Nat) : nl (tagT t) = 0 := by
  unfold tagT
  split
  · rfl
  · rw [nl_cons (by decide), nl_app, nl_dec]; rfl
mutual
/-- The lines that a statement takes. -/
def linesR : RS → Nat
  | .asg .. => 1
  | .sto .. => 1
  | .rd .. => 1
  | .call .. => 1
  | .ife _ _ b l => 2 + linesL b + (if l.isEmpty then 0 else 1 + linesL l)
  | .whl _ _ b => 2 + linesL b
  | .brk .. => 1
  | .cnt .. => 1
  | .ret .. => 1
  | .ass .. => 1
def linesL : List RS → Nat
  | [] => 0
  | s :: l => linesR s + linesL l
end
mutual
theorem nl_putB (lev : List UInt8 → Int) (d : Nat) : ∀ s : RS, s.wf = true → nl (putB lev d s) + 1 = linesR s
  | .asg t x e, h => by
    simp only [RS.wf, Bool.and_eq_true] at h
    simp only [putB, linesR, nl_app, nl_name h.1.2, nl_putR lev e h.2, nl_cons (show (32 : UInt8) ≠ 10 by decide), nl_cons (show (61 : UInt8) ≠ 10 by decide), nl_cons (show (59 : UInt8) ≠ 10 by decide), nl_nil]
  | .sto t x i e, h => by
    simp only [RS.wf, Bool.and_eq_true] at h
    simp only [putB, linesR, nl_app, nl_name h.1.1.2, nl_putR lev i h.1.2, nl_putR lev e h.2, nl_cons (show (32 : UInt8) ≠ 10 by decide), nl_cons (show (61 : UInt8) ≠ 10 by decide), nl_cons (show (59 : UInt8) ≠ 10 by decide), nl_cons (show (91 : UInt8) ≠ 10 by decide), nl_cons (show (93 : UInt8) ≠ 10 by decide), nl_nil]
  | .rd t x, h => by
    simp only [RS.wf, Bool.and_eq_true] at h
    simp only [putB, linesR, nl_app, nl_name h.2]; rfl
  | .call t x f l, h => by
    simp only [RS.wf, Bool.and_eq_true, List.all_eq_true] at h
    simp only [putB, linesR, nl_app, nl_name h.1.1.2, nl_name h.1.2, putA, nl_commas _ l fun a ha => nl_putR lev a (h.2 a ha), nl_cons (show (32 : UInt8) ≠ 10 by decide), nl_cons (show (61 : UInt8) ≠ 10 by decide), nl_cons (show (59 : UInt8) ≠ 10 by decide), nl_cons (show (40 : UInt8) ≠ 10 by decide), nl_cons (show (41 : UInt8) ≠ 10 by decide), nl_nil]
  | .ife t c b l, h => by
    simp only [RS.wf, Bool.and_eq_true] at h
    have e1 := nl_putL lev (d + 1) b h.1.2
    have e2 := nl_putL lev (d + 1) l h.2
    have e3 := nl_putR lev c h.1.1.2
    simp only [putB, linesR, nl_app, e1, e3, nl_tabs, nl_cons (show (32 : UInt8) ≠ 10 by decide), nl_cons (show (105 : UInt8) ≠ 10 by decide), nl_cons (show (102 : UInt8) ≠ 10 by decide), nl_cons (show (40 : UInt8) ≠ 10 by decide), nl_cons (show (41 : UInt8) ≠ 10 by decide), nl_cons (show (123 : UInt8) ≠ 10 by decide), nl_cons (show (125 : UInt8) ≠ 10 by decide), nl_ten, nl_nil]
    split
    · simp only [nl_nil]; omega
    · simp only [nl_app, e2, nl_tabs, nl_cons (show (32 : UInt8) ≠ 10 by decide), nl_cons (show (123 : UInt8) ≠ 10 by decide), nl_cons (show (125 : UInt8) ≠ 10 by decide), nl_ten, nl_nil, show nl [101, 108, 115, 101] = 0 from rfl]; omega
  | .whl t c b, h => by
    simp only [RS.wf, Bool.and_eq_true] at h
    have e1 := nl_putL lev (d + 1) b h.2
    have e3 := nl_putR lev c h.1.2
    simp only [putB, linesR, nl_app, e1, e3, nl_tabs, nl_cons (show (32 : UInt8) ≠ 10 by decide), nl_cons (show (40 : UInt8) ≠ 10 by decide), nl_cons (show (41 : UInt8) ≠ 10 by decide), nl_cons (show (123 : UInt8) ≠ 10 by decide), nl_cons (show (125 : UInt8) ≠ 10 by decide), nl_ten, nl_nil, show nl [119, 104, 105, 108, 101] = 0 from rfl]; omega
  | .brk t, h => by rw [putB]; rfl
  | .cnt t, h => by rw [putB]; rfl
  | .ret t e, h => by
    simp only [RS.wf, Bool.and_eq_true] at h
    simp only [putB, linesR, nl_app, nl_putR lev e h.2, nl_cons (show (32 : UInt8) ≠ 10 by decide), nl_cons (show (59 : UInt8) ≠ 10 by decide), nl_nil, show nl [114, 101, 116, 117, 114, 110] = 0 from rfl]
  | .ass t e, h => by
    simp only [RS.wf, Bool.and_eq_true] at h
    simp only [putB, linesR, nl_app, nl_putR lev e h.2, nl_cons (show (40 : UInt8) ≠ 10 by decide), nl_cons (show (41 : UInt8) ≠ 10 by decide), nl_cons (show (59 : UInt8) ≠ 10 by decide), nl_nil, show nl [97, 115, 115, 101, 114, 116] = 0 from rfl]
theorem nl_putL (lev : List UInt8 → Int) (d : Nat) : ∀ l : List RS, wfSs l = true → nl (putL lev d l) = linesL l
  | [], _ => by rw [putL, linesL]; rfl
  | s :: l, h => by
    rw [wfSs, Bool.and_eq_true] at h
    have e1 := nl_putB lev d s h.1
    have e2 := nl_putL lev d l h.2
    rw [putL, linesL, nl_app, nl_tabs, nl_app, nl_tag, nl_app, nl_ten, e2]; omega
end
mutual
/-- So many braces end what stands there. -/
def ST.ends : ST → Nat
  | .mk k _ _ _ _ _ _ _ _ b _ _ l => (if k = 4 ∨ k = 5 then 1 else 0) + ((if k = 4 ∧ 0 < l.length then 1 else 0) + (endsS b + endsS l))
def endsS : List ST → Nat
  | [] => 0
  | S :: l => S.ends + endsS l
end
theorem lines_is : ∀ (m : Nat) (l : List ST), Szs l ≤ m → rightSs l = true → linesL (rss l) = cnts l + endsS l := by
  intro m
  induction m with
  | zero =>
    intro l hm _
    cases l with
    | nil => rw [rss_nil, linesL, cnts, endsS]
    | cons S l => obtain ⟨k, t, n, f, ea, ec, e, ba, bc, b, la, lc, l'⟩ := S; simp [Szs, ST.sz] at hm
  | succ m ih =>
    intro l
    induction l with
    | nil => intro _ _; rw [rss_nil, linesL, cnts, endsS]
    | cons S l ihl =>
      intro hm h
      rw [rightSs, Bool.and_eq_true] at h
      rw [Szs] at hm
      have hl := ihl (by omega) h.2
      rw [rss_cons, linesL, cnts, endsS, hl]
      suffices hS : linesR S.rs = S.cnt + S.ends by omega
      have h1 := h.1
      obtain ⟨t, ht0, ht1, hc⟩ := rightS_cases h1
      rcases hc with ⟨n, ea, ec, e, ba, bc, la, lc, hn, he, rfl⟩ | ⟨n, ea, ec, e, e2, ba, bc, la, lc, hn, he, he2, rfl⟩ | ⟨n, ea, ec, ba, bc, la, lc, hn, rfl⟩ | ⟨n, f, ea, ec, e, ba, bc, la, lc, hn, hf, he, rfl⟩ | ⟨ea, ec, e, ba, bc, b, la, lc, l', he, hb, hl', rfl⟩ | ⟨ea, ec, e, ba, bc, b, la, lc, he, hb, rfl⟩ | ⟨ea, ec, ba, bc, la, lc, rfl⟩ | ⟨ea, ec, ba, bc, la, lc, rfl⟩ | ⟨ea, ec, e, ba, bc, la, lc, he, rfl⟩ | ⟨ea, ec, e, ba, bc, la, lc, he, rfl⟩
      · simp [ST.rs, linesR, ST.cnt, ST.ends, cnts, endsS]
      · simp [ST.rs, linesR, ST.cnt, ST.ends, cnts, endsS]
      · simp [ST.rs, linesR, ST.cnt, ST.ends, cnts, endsS]
      · simp [ST.rs, linesR, ST.cnt, ST.ends, cnts, endsS]
      · simp only [ST.sz] at hm
        have e1 := ih b (by omega) hb
        have e2 := ih l' (by omega) hl'
        cases l' with
        | nil =>
          simp [ST.rs, linesR, ST.cnt, ST.ends, cnts, endsS, rss_nil, e1]; omega
        | cons S' l' =>
          simp only [rss_cons] at e2
          simp [ST.rs, linesR, ST.cnt, ST.ends, rss_cons, e1, e2]; omega
      · simp only [ST.sz] at hm
        have e1 := ih b (by omega) hb
        simp [ST.rs, linesR, ST.cnt, ST.ends, cnts, endsS, e1]; omega
      · simp [ST.rs, linesR, ST.cnt, ST.ends, cnts, endsS]
      · simp [ST.rs, linesR, ST.cnt, ST.ends, cnts, endsS]
      · simp [ST.rs, linesR, ST.cnt, ST.ends, cnts, endsS]
      · simp [ST.rs, linesR, ST.cnt, ST.ends, cnts, endsS]
/-- The lines of a function that has variables. -/
theorem nl_func {w : World} {B : Nat} {F : FT} (h : F.rightB = true) (hin : F.In w B) (hv : F.vars ≠ []) : nl F.text = 3 + (cnts F.body + endsS F.body) := by
  have hw := rightF_wf h hin
  simp only [FT.rightB, Bool.and_eq_true] at h
  simp only [RF.wf, Bool.and_eq_true, List.all_eq_true] at hw
  obtain ⟨⟨⟨w1, w2⟩, w3⟩, w4⟩ := hw
  have e1 := nl_putL levL 1 _ w4
  have e2 := lines_is _ F.body (Nat.le_refl _) h.2.2.2
  have e3 : nl (putV F.rf.vars) = 1 := by
    have hne : F.rf.vars.isEmpty = false := by
      cases hv' : F.vars with
      | nil => exact absurd hv' hv
      | cons d l => simp [FT.rf, hv']
    unfold putV
    rw [hne]
    simp only [Bool.false_eq_true, if_false, nl_app, nl_cons (show (9 : UInt8) ≠ 10 by decide), nl_cons (show (32 : UInt8) ≠ 10 by decide)]
    rw [nl_commas _ _ fun d hd => ?_]
    · rfl
    · have := w3 d hd
      unfold putD
      rw [nl_app, nl_name this.1]
      split
      · rfl
      · rw [nl_cons (by decide), nl_app, nl_dec]; rfl
  unfold FT.text putF
  simp only [nl_app, nl_name w1, nl_commas (fun s => s) _ fun s hs => nl_name (w2 s hs), e1, e3, nl_cons (show (32 : UInt8) ≠ 10 by decide), nl_cons (show (40 : UInt8) ≠ 10 by decide), nl_cons (show (41 : UInt8) ≠ 10 by decide), nl_cons (show (123 : UInt8) ≠ 10 by decide), nl_ten, show nl [102, 117, 110, 99] = 0 from rfl, show nl [125, 10] = 1 from rfl]
  show _ = 3 + (cnts F.body + endsS F.body)
  have e4 : linesL F.rf.body = cnts F.body + endsS F.body := e2
  omega
theorem nl_prog {w : World} {B : Nat} : ∀ (l : List FT), l.all FT.rightB = true → (∀ F ∈ l, F.In w B ∧ F.vars ≠ []) → nl (progT l) = (l.map fun F => 3 + (cnts F.body + endsS F.body)).sum
  | [], _, _ => rfl
  | F :: l, h, hl => by
    simp only [List.all_cons, Bool.and_eq_true] at h
    have e1 := nl_func h.1 (hl F (by simp)).1 (hl F (by simp)).2
    have e2 := nl_prog l h.2 fun G hG => hl G (List.mem_cons_of_mem _ hG)
    rw [progT, List.flatMap_cons, nl_app, e1, List.map_cons, List.sum_cons, ← e2]; rfl
end Go.Proofs.YtppeogcpoplpeaaGreatDoor
