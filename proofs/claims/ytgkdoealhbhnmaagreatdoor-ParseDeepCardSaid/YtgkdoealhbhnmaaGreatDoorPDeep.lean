/- So many open ones as there may be are parsed, one more is too deep: the walk of ParseDeep. (Written by gendeep.py.) -/
import Derived.Test.YtgkdoealhbhnmaaGreatDoorPDeepM
import Derived.Test.YtgkdoealhbhnmaaGreatDoorPLaid
set_option linter.unusedSimpArgs false
set_option linter.unusedVariables false
namespace Go.Proofs.YtgkdoealhbhnmaaGreatDoor.Pm
open Go Go.RowKit Go.Proofs.YtgkdoealhbhnmaaGreatDoor
open Go.Lib (hid)

theorem bs_app (a b : List UInt8) : bs a ++ bs b = bs (a ++ b) := by
  apply Lx.ba_ext
  simp [bs]
theorem past2 {w0 w : World} (h : Past w0 w) (a b : Obj) : Past w0 ((w.alloc a).alloc b) := (h.alloc a).alloc b
theorem expr_bad {w : World} (H : Wo w) (m : Nat) (sb : ByteArray) {l : List UInt8} {p n : Nat} (hs : sb.data.toList = l) (hl : l.length ≤ 8192) (ev : exprF m l = .bad p n) (hn : n ≠ 99) : Calls Tryz.prog 18 #[.string sb] w fun e w' => e = .returned (.tuple #[zE, .int .i64 (p : Nat), .int .i64 (n : Nat)]) ∧ Below w.heap.size w w' := by
  subst hs
  refine (pExpr_any m sb hl H.er (finA_bad ev hn)).mono ?_
  intro e w' hq
  rw [ev] at hq
  exact ⟨hq.2, hq.1⟩
set_option maxHeartbeats 4000000 in
set_option maxRecDepth 100000 in
theorem deep_walk0 (a0 a1 : Int) (h0 : 0 ≤ a0 ∧ a0 ≤ 255) (h1 : 0 ≤ a1 ∧ a1 ≤ 255) (hk : a1 % 5 = 0) (w : World) (H : Wo w) :
    Calls Tryz.prog 5 #[.int .u8 a0, .int .u8 a1] w fun e w' => e = .returned (.bool true) ∧ Below w.heap.size w w' := by
  obtain ⟨n, hn, hn60⟩ : ∃ n : Nat, a0 % 60 = (n : Int) ∧ n < 60 := ⟨(a0 % 60).toNat, by omega, by omega⟩
  have hO := hid H
  have HN := hid hn60
  have HD : Hid (∀ sb : ByteArray, sb = (bs (rep n [40]) ++ { data := #[97] }) ++ bs (rep n [41]) → sb.data.toList = dt n 0 ∧ sb.size ≤ 8192) := hid (by
    intro sb hsb
    have e : sb.data.toList = dt n 0 := by rw [hsb]; simp [dt, opn, sht, bs]
    refine ⟨e, ?_⟩
    have e2 : sb.size = sb.data.toList.length := rfl
    rw [e2, e]
    unfold dt
    simp only [List.length_append, List.length_cons, rep_len]
    simp [opn, sht]
    omega)
  clear H
  by_cases h40 : n ≤ 40
  · obtain ⟨r, p, ev, ep⟩ := deep_ok h40 (k := 0) (by decide)
    have EV := hid ev
    have EP := hid ep
    have h40' : (n : Int) ≤ 40 := by omega
    clear ev ep h40
    go_enter Tryz.func5, Tryz.ntmps5
    go_wp2_with (go_at_call 10; refine (ex_any hO.out).mono ?_; rintro e w1 ⟨rfl, hp⟩; have HP1 := hid hp; clear hp)
    go_loop [9, 10, 11] (fun s t i => ∃ j : Nat, j ≤ n ∧ s = .string (bs (rep j [40])) ∧ t = .string (bs (rep j [41])) ∧ i = .int .i64 j) (fun _ _ i => n - (intOf i).toNat)
    case atStart => exact ⟨0, Nat.zero_le _, rfl, rfl, rfl⟩
    case round =>
      obtain ⟨j, hj, rfl, rfl, rfl⟩ := hrel
      have z1 : (bs (rep j [40])).size ≤ 1000 := by show (rep j [40]).toArray.size ≤ _; rw [List.size_toArray, rep_len]; simp; omega
      have z2 : (bs (rep j [41])).size ≤ 1000 := by show (rep j [41]).toArray.size ≤ _; rw [List.size_toArray, rep_len]; simp <;> omega
      by_cases hlt : j < n
      · go_wp2
        go_round
        case rel => exact ⟨j + 1, by omega, by rw [rep, ← bs_app]; rfl, by rw [rep, ← bs_app]; rfl, by go_num⟩
        case measure => simp [intOf]; omega
      · obtain rfl : j = n := by omega
        go_wp2_with (first
          | (go_at_call 15; refine (nest_fine (hO.out.on HP3.out) 130 _ (HD.out _ rfl).1 (by rw [← (HD.out _ rfl).1]; exact (HD.out _ rfl).2) EV.out EP.out).mono ?_; rintro e w4 ⟨rfl, hb⟩; have HP4 := hid (HP3.out.on hb); clear hb)
          | (go_at_call 18; refine (expr_fine (hO.out.on (past2 HP1.out _ _)) 130 _ (HD.out _ rfl).1 (by rw [← (HD.out _ rfl).1]; exact (HD.out _ rfl).2) EV.out).mono ?_; rintro e w2 ⟨hb, T, rfl, hT⟩; have HP3 := hid ((Past.on (past2 HP1.out _ _) hb).alloc (.cells #[.int .i64 T.kind, .string T.op, .int .i64 T.n, .string T.name, .slice T.kaddr T.kids.length T.kcap] 43)); clear hb hT))
        go_ret
        exact ⟨rfl, HP4.out⟩
  · have ev := deep_bad (n := n) (by omega) hn60 (k := 0) (by decide)
    have EV : Hid (exprF 130 (dt n 0) = .bad 40 4) := hid ev
    have h40' : ¬ (n : Int) ≤ 40 := by omega
    clear ev h40
    go_enter Tryz.func5, Tryz.ntmps5
    go_wp2_with (go_at_call 10; refine (ex_any hO.out).mono ?_; rintro e w1 ⟨rfl, hp⟩; have HP1 := hid hp; clear hp)
    go_loop [9, 10, 11] (fun s t i => ∃ j : Nat, j ≤ n ∧ s = .string (bs (rep j [40])) ∧ t = .string (bs (rep j [41])) ∧ i = .int .i64 j) (fun _ _ i => n - (intOf i).toNat)
    case atStart => exact ⟨0, Nat.zero_le _, rfl, rfl, rfl⟩
    case round =>
      obtain ⟨j, hj, rfl, rfl, rfl⟩ := hrel
      have z1 : (bs (rep j [40])).size ≤ 1000 := by show (rep j [40]).toArray.size ≤ _; rw [List.size_toArray, rep_len]; simp; omega
      have z2 : (bs (rep j [41])).size ≤ 1000 := by show (rep j [41]).toArray.size ≤ _; rw [List.size_toArray, rep_len]; simp <;> omega
      by_cases hlt : j < n
      · go_wp2
        go_round
        case rel => exact ⟨j + 1, by omega, by rw [rep, ← bs_app]; rfl, by rw [rep, ← bs_app]; rfl, by go_num⟩
        case measure => simp [intOf]; omega
      · obtain rfl : j = n := by omega
        go_wp2_with (go_at_call 18; refine (expr_bad (hO.out.on (past2 HP1.out _ _)) 130 _ (HD.out _ rfl).1 (by rw [← (HD.out _ rfl).1]; exact (HD.out _ rfl).2) EV.out (by decide)).mono ?_; rintro e w2 ⟨rfl, hb⟩; have HP3 := hid ((Past.on (past2 HP1.out _ _) hb).alloc oE); clear hb)
        go_ret
        exact ⟨rfl, HP3.out⟩
set_option maxHeartbeats 4000000 in
set_option maxRecDepth 100000 in
theorem deep_walk1 (a0 a1 : Int) (h0 : 0 ≤ a0 ∧ a0 ≤ 255) (h1 : 0 ≤ a1 ∧ a1 ≤ 255) (hk : a1 % 5 = 1) (w : World) (H : Wo w) :
    Calls Tryz.prog 5 #[.int .u8 a0, .int .u8 a1] w fun e w' => e = .returned (.bool true) ∧ Below w.heap.size w w' := by
  obtain ⟨n, hn, hn60⟩ : ∃ n : Nat, a0 % 60 = (n : Int) ∧ n < 60 := ⟨(a0 % 60).toNat, by omega, by omega⟩
  have hO := hid H
  have HN := hid hn60
  have HD : Hid (∀ sb : ByteArray, sb = (bs (rep n [45]) ++ { data := #[97] }) ++ bs (rep n []) → sb.data.toList = dt n 1 ∧ sb.size ≤ 8192) := hid (by
    intro sb hsb
    have e : sb.data.toList = dt n 1 := by rw [hsb]; simp [dt, opn, sht, bs]
    refine ⟨e, ?_⟩
    have e2 : sb.size = sb.data.toList.length := rfl
    rw [e2, e]
    unfold dt
    simp only [List.length_append, List.length_cons, rep_len]
    simp [opn, sht]
    omega)
  clear H
  by_cases h40 : n ≤ 40
  · obtain ⟨r, p, ev, ep⟩ := deep_ok h40 (k := 1) (by decide)
    have EV := hid ev
    have EP := hid ep
    have h40' : (n : Int) ≤ 40 := by omega
    clear ev ep h40
    go_enter Tryz.func5, Tryz.ntmps5
    go_wp2_with (go_at_call 10; refine (ex_any hO.out).mono ?_; rintro e w1 ⟨rfl, hp⟩; have HP1 := hid hp; clear hp)
    go_loop [9, 10, 11] (fun s t i => ∃ j : Nat, j ≤ n ∧ s = .string (bs (rep j [45])) ∧ t = .string (bs (rep j [])) ∧ i = .int .i64 j) (fun _ _ i => n - (intOf i).toNat)
    case atStart => exact ⟨0, Nat.zero_le _, rfl, rfl, rfl⟩
    case round =>
      obtain ⟨j, hj, rfl, rfl, rfl⟩ := hrel
      have z1 : (bs (rep j [45])).size ≤ 1000 := by show (rep j [45]).toArray.size ≤ _; rw [List.size_toArray, rep_len]; simp; omega
      have z2 : (bs (rep j [])).size ≤ 1000 := by show (rep j []).toArray.size ≤ _; rw [List.size_toArray, rep_len]; simp <;> omega
      by_cases hlt : j < n
      · go_wp2
        go_round
        case rel => exact ⟨j + 1, by omega, by rw [rep, ← bs_app]; rfl, by rw [rep, ← bs_app]; rfl, by go_num⟩
        case measure => simp [intOf]; omega
      · obtain rfl : j = n := by omega
        go_wp2_with (first
          | (go_at_call 15; refine (nest_fine (hO.out.on HP3.out) 130 _ (HD.out _ rfl).1 (by rw [← (HD.out _ rfl).1]; exact (HD.out _ rfl).2) EV.out EP.out).mono ?_; rintro e w4 ⟨rfl, hb⟩; have HP4 := hid (HP3.out.on hb); clear hb)
          | (go_at_call 18; refine (expr_fine (hO.out.on (past2 HP1.out _ _)) 130 _ (HD.out _ rfl).1 (by rw [← (HD.out _ rfl).1]; exact (HD.out _ rfl).2) EV.out).mono ?_; rintro e w2 ⟨hb, T, rfl, hT⟩; have HP3 := hid ((Past.on (past2 HP1.out _ _) hb).alloc (.cells #[.int .i64 T.kind, .string T.op, .int .i64 T.n, .string T.name, .slice T.kaddr T.kids.length T.kcap] 43)); clear hb hT))
        go_ret
        exact ⟨rfl, HP4.out⟩
  · have ev := deep_bad (n := n) (by omega) hn60 (k := 1) (by decide)
    have EV : Hid (exprF 130 (dt n 1) = .bad 40 4) := hid ev
    have h40' : ¬ (n : Int) ≤ 40 := by omega
    clear ev h40
    go_enter Tryz.func5, Tryz.ntmps5
    go_wp2_with (go_at_call 10; refine (ex_any hO.out).mono ?_; rintro e w1 ⟨rfl, hp⟩; have HP1 := hid hp; clear hp)
    go_loop [9, 10, 11] (fun s t i => ∃ j : Nat, j ≤ n ∧ s = .string (bs (rep j [45])) ∧ t = .string (bs (rep j [])) ∧ i = .int .i64 j) (fun _ _ i => n - (intOf i).toNat)
    case atStart => exact ⟨0, Nat.zero_le _, rfl, rfl, rfl⟩
    case round =>
      obtain ⟨j, hj, rfl, rfl, rfl⟩ := hrel
      have z1 : (bs (rep j [45])).size ≤ 1000 := by show (rep j [45]).toArray.size ≤ _; rw [List.size_toArray, rep_len]; simp; omega
      have z2 : (bs (rep j [])).size ≤ 1000 := by show (rep j []).toArray.size ≤ _; rw [List.size_toArray, rep_len]; simp <;> omega
      by_cases hlt : j < n
      · go_wp2
        go_round
        case rel => exact ⟨j + 1, by omega, by rw [rep, ← bs_app]; rfl, by rw [rep, ← bs_app]; rfl, by go_num⟩
        case measure => simp [intOf]; omega
      · obtain rfl : j = n := by omega
        go_wp2_with (go_at_call 18; refine (expr_bad (hO.out.on (past2 HP1.out _ _)) 130 _ (HD.out _ rfl).1 (by rw [← (HD.out _ rfl).1]; exact (HD.out _ rfl).2) EV.out (by decide)).mono ?_; rintro e w2 ⟨rfl, hb⟩; have HP3 := hid ((Past.on (past2 HP1.out _ _) hb).alloc oE); clear hb)
        go_ret
        exact ⟨rfl, HP3.out⟩
set_option maxHeartbeats 4000000 in
set_option maxRecDepth 100000 in
theorem deep_walk2 (a0 a1 : Int) (h0 : 0 ≤ a0 ∧ a0 ≤ 255) (h1 : 0 ≤ a1 ∧ a1 ≤ 255) (hk : a1 % 5 = 2) (w : World) (H : Wo w) :
    Calls Tryz.prog 5 #[.int .u8 a0, .int .u8 a1] w fun e w' => e = .returned (.bool true) ∧ Below w.heap.size w w' := by
  obtain ⟨n, hn, hn60⟩ : ∃ n : Nat, a0 % 60 = (n : Int) ∧ n < 60 := ⟨(a0 % 60).toNat, by omega, by omega⟩
  have hO := hid H
  have HN := hid hn60
  have HD : Hid (∀ sb : ByteArray, sb = (bs (rep n [126]) ++ { data := #[97] }) ++ bs (rep n []) → sb.data.toList = dt n 2 ∧ sb.size ≤ 8192) := hid (by
    intro sb hsb
    have e : sb.data.toList = dt n 2 := by rw [hsb]; simp [dt, opn, sht, bs]
    refine ⟨e, ?_⟩
    have e2 : sb.size = sb.data.toList.length := rfl
    rw [e2, e]
    unfold dt
    simp only [List.length_append, List.length_cons, rep_len]
    simp [opn, sht]
    omega)
  clear H
  by_cases h40 : n ≤ 40
  · obtain ⟨r, p, ev, ep⟩ := deep_ok h40 (k := 2) (by decide)
    have EV := hid ev
    have EP := hid ep
    have h40' : (n : Int) ≤ 40 := by omega
    clear ev ep h40
    go_enter Tryz.func5, Tryz.ntmps5
    go_wp2_with (go_at_call 10; refine (ex_any hO.out).mono ?_; rintro e w1 ⟨rfl, hp⟩; have HP1 := hid hp; clear hp)
    go_loop [9, 10, 11] (fun s t i => ∃ j : Nat, j ≤ n ∧ s = .string (bs (rep j [126])) ∧ t = .string (bs (rep j [])) ∧ i = .int .i64 j) (fun _ _ i => n - (intOf i).toNat)
    case atStart => exact ⟨0, Nat.zero_le _, rfl, rfl, rfl⟩
    case round =>
      obtain ⟨j, hj, rfl, rfl, rfl⟩ := hrel
      have z1 : (bs (rep j [126])).size ≤ 1000 := by show (rep j [126]).toArray.size ≤ _; rw [List.size_toArray, rep_len]; simp; omega
      have z2 : (bs (rep j [])).size ≤ 1000 := by show (rep j []).toArray.size ≤ _; rw [List.size_toArray, rep_len]; simp <;> omega
      by_cases hlt : j < n
      · go_wp2
        go_round
        case rel => exact ⟨j + 1, by omega, by rw [rep, ← bs_app]; rfl, by rw [rep, ← bs_app]; rfl, by go_num⟩
        case measure => simp [intOf]; omega
      · obtain rfl : j = n := by omega
        go_wp2_with (first
          | (go_at_call 15; refine (nest_fine (hO.out.on HP3.out) 130 _ (HD.out _ rfl).1 (by rw [← (HD.out _ rfl).1]; exact (HD.out _ rfl).2) EV.out EP.out).mono ?_; rintro e w4 ⟨rfl, hb⟩; have HP4 := hid (HP3.out.on hb); clear hb)
          | (go_at_call 18; refine (expr_fine (hO.out.on (past2 HP1.out _ _)) 130 _ (HD.out _ rfl).1 (by rw [← (HD.out _ rfl).1]; exact (HD.out _ rfl).2) EV.out).mono ?_; rintro e w2 ⟨hb, T, rfl, hT⟩; have HP3 := hid ((Past.on (past2 HP1.out _ _) hb).alloc (.cells #[.int .i64 T.kind, .string T.op, .int .i64 T.n, .string T.name, .slice T.kaddr T.kids.length T.kcap] 43)); clear hb hT))
        go_ret
        exact ⟨rfl, HP4.out⟩
  · have ev := deep_bad (n := n) (by omega) hn60 (k := 2) (by decide)
    have EV : Hid (exprF 130 (dt n 2) = .bad 40 4) := hid ev
    have h40' : ¬ (n : Int) ≤ 40 := by omega
    clear ev h40
    go_enter Tryz.func5, Tryz.ntmps5
    go_wp2_with (go_at_call 10; refine (ex_any hO.out).mono ?_; rintro e w1 ⟨rfl, hp⟩; have HP1 := hid hp; clear hp)
    go_loop [9, 10, 11] (fun s t i => ∃ j : Nat, j ≤ n ∧ s = .string (bs (rep j [126])) ∧ t = .string (bs (rep j [])) ∧ i = .int .i64 j) (fun _ _ i => n - (intOf i).toNat)
    case atStart => exact ⟨0, Nat.zero_le _, rfl, rfl, rfl⟩
    case round =>
      obtain ⟨j, hj, rfl, rfl, rfl⟩ := hrel
      have z1 : (bs (rep j [126])).size ≤ 1000 := by show (rep j [126]).toArray.size ≤ _; rw [List.size_toArray, rep_len]; simp; omega
      have z2 : (bs (rep j [])).size ≤ 1000 := by show (rep j []).toArray.size ≤ _; rw [List.size_toArray, rep_len]; simp <;> omega
      by_cases hlt : j < n
      · go_wp2
        go_round
        case rel => exact ⟨j + 1, by omega, by rw [rep, ← bs_app]; rfl, by rw [rep, ← bs_app]; rfl, by go_num⟩
        case measure => simp [intOf]; omega
      · obtain rfl : j = n := by omega
        go_wp2_with (go_at_call 18; refine (expr_bad (hO.out.on (past2 HP1.out _ _)) 130 _ (HD.out _ rfl).1 (by rw [← (HD.out _ rfl).1]; exact (HD.out _ rfl).2) EV.out (by decide)).mono ?_; rintro e w2 ⟨rfl, hb⟩; have HP3 := hid ((Past.on (past2 HP1.out _ _) hb).alloc oE); clear hb)
        go_ret
        exact ⟨rfl, HP3.out⟩
set_option maxHeartbeats 4000000 in
set_option maxRecDepth 100000 in
theorem deep_walk3 (a0 a1 : Int) (h0 : 0 ≤ a0 ∧ a0 ≤ 255) (h1 : 0 ≤ a1 ∧ a1 ≤ 255) (hk : a1 % 5 = 3) (w : World) (H : Wo w) :
    Calls Tryz.prog 5 #[.int .u8 a0, .int .u8 a1] w fun e w' => e = .returned (.bool true) ∧ Below w.heap.size w w' := by
  obtain ⟨n, hn, hn60⟩ : ∃ n : Nat, a0 % 60 = (n : Int) ∧ n < 60 := ⟨(a0 % 60).toNat, by omega, by omega⟩
  have hO := hid H
  have HN := hid hn60
  have HD : Hid (∀ sb : ByteArray, sb = (bs (rep n [33]) ++ { data := #[97] }) ++ bs (rep n []) → sb.data.toList = dt n 3 ∧ sb.size ≤ 8192) := hid (by
    intro sb hsb
    have e : sb.data.toList = dt n 3 := by rw [hsb]; simp [dt, opn, sht, bs]
    refine ⟨e, ?_⟩
    have e2 : sb.size = sb.data.toList.length := rfl
    rw [e2, e]
    unfold dt
    simp only [List.length_append, List.length_cons, rep_len]
    simp [opn, sht]
    omega)
  clear H
  by_cases h40 : n ≤ 40
  · obtain ⟨r, p, ev, ep⟩ := deep_ok h40 (k := 3) (by decide)
    have EV := hid ev
    have EP := hid ep
    have h40' : (n : Int) ≤ 40 := by omega
    clear ev ep h40
    go_enter Tryz.func5, Tryz.ntmps5
    go_wp2_with (go_at_call 10; refine (ex_any hO.out).mono ?_; rintro e w1 ⟨rfl, hp⟩; have HP1 := hid hp; clear hp)
    go_loop [9, 10, 11] (fun s t i => ∃ j : Nat, j ≤ n ∧ s = .string (bs (rep j [33])) ∧ t = .string (bs (rep j [])) ∧ i = .int .i64 j) (fun _ _ i => n - (intOf i).toNat)
    case atStart => exact ⟨0, Nat.zero_le _, rfl, rfl, rfl⟩
    case round =>
      obtain ⟨j, hj, rfl, rfl, rfl⟩ := hrel
      have z1 : (bs (rep j [33])).size ≤ 1000 := by show (rep j [33]).toArray.size ≤ _; rw [List.size_toArray, rep_len]; simp; omega
      have z2 : (bs (rep j [])).size ≤ 1000 := by show (rep j []).toArray.size ≤ _; rw [List.size_toArray, rep_len]; simp <;> omega
      by_cases hlt : j < n
      · go_wp2
        go_round
        case rel => exact ⟨j + 1, by omega, by rw [rep, ← bs_app]; rfl, by rw [rep, ← bs_app]; rfl, by go_num⟩
        case measure => simp [intOf]; omega
      · obtain rfl : j = n := by omega
        go_wp2_with (first
          | (go_at_call 15; refine (nest_fine (hO.out.on HP3.out) 130 _ (HD.out _ rfl).1 (by rw [← (HD.out _ rfl).1]; exact (HD.out _ rfl).2) EV.out EP.out).mono ?_; rintro e w4 ⟨rfl, hb⟩; have HP4 := hid (HP3.out.on hb); clear hb)
          | (go_at_call 18; refine (expr_fine (hO.out.on (past2 HP1.out _ _)) 130 _ (HD.out _ rfl).1 (by rw [← (HD.out _ rfl).1]; exact (HD.out _ rfl).2) EV.out).mono ?_; rintro e w2 ⟨hb, T, rfl, hT⟩; have HP3 := hid ((Past.on (past2 HP1.out _ _) hb).alloc (.cells #[.int .i64 T.kind, .string T.op, .int .i64 T.n, .string T.name, .slice T.kaddr T.kids.length T.kcap] 43)); clear hb hT))
        go_ret
        exact ⟨rfl, HP4.out⟩
  · have ev := deep_bad (n := n) (by omega) hn60 (k := 3) (by decide)
    have EV : Hid (exprF 130 (dt n 3) = .bad 40 4) := hid ev
    have h40' : ¬ (n : Int) ≤ 40 := by omega
    clear ev h40
    go_enter Tryz.func5, Tryz.ntmps5
    go_wp2_with (go_at_call 10; refine (ex_any hO.out).mono ?_; rintro e w1 ⟨rfl, hp⟩; have HP1 := hid hp; clear hp)
    go_loop [9, 10, 11] (fun s t i => ∃ j : Nat, j ≤ n ∧ s = .string (bs (rep j [33])) ∧ t = .string (bs (rep j [])) ∧ i = .int .i64 j) (fun _ _ i => n - (intOf i).toNat)
    case atStart => exact ⟨0, Nat.zero_le _, rfl, rfl, rfl⟩
    case round =>
      obtain ⟨j, hj, rfl, rfl, rfl⟩ := hrel
      have z1 : (bs (rep j [33])).size ≤ 1000 := by show (rep j [33]).toArray.size ≤ _; rw [List.size_toArray, rep_len]; simp; omega
      have z2 : (bs (rep j [])).size ≤ 1000 := by show (rep j []).toArray.size ≤ _; rw [List.size_toArray, rep_len]; simp <;> omega
      by_cases hlt : j < n
      · go_wp2
        go_round
        case rel => exact ⟨j + 1, by omega, by rw [rep, ← bs_app]; rfl, by rw [rep, ← bs_app]; rfl, by go_num⟩
        case measure => simp [intOf]; omega
      · obtain rfl : j = n := by omega
        go_wp2_with (go_at_call 18; refine (expr_bad (hO.out.on (past2 HP1.out _ _)) 130 _ (HD.out _ rfl).1 (by rw [← (HD.out _ rfl).1]; exact (HD.out _ rfl).2) EV.out (by decide)).mono ?_; rintro e w2 ⟨rfl, hb⟩; have HP3 := hid ((Past.on (past2 HP1.out _ _) hb).alloc oE); clear hb)
        go_ret
        exact ⟨rfl, HP3.out⟩
set_option maxHeartbeats 4000000 in
set_option maxRecDepth 100000 in
theorem deep_walk4 (a0 a1 : Int) (h0 : 0 ≤ a0 ∧ a0 ≤ 255) (h1 : 0 ≤ a1 ∧ a1 ≤ 255) (hk : a1 % 5 = 4) (w : World) (H : Wo w) :
    Calls Tryz.prog 5 #[.int .u8 a0, .int .u8 a1] w fun e w' => e = .returned (.bool true) ∧ Below w.heap.size w w' := by
  obtain ⟨n, hn, hn60⟩ : ∃ n : Nat, a0 % 60 = (n : Int) ∧ n < 60 := ⟨(a0 % 60).toNat, by omega, by omega⟩
  have hO := hid H
  have HN := hid hn60
  have HD : Hid (∀ sb : ByteArray, sb = (bs (rep n [120, 115, 91]) ++ { data := #[97] }) ++ bs (rep n [93]) → sb.data.toList = dt n 4 ∧ sb.size ≤ 8192) := hid (by
    intro sb hsb
    have e : sb.data.toList = dt n 4 := by rw [hsb]; simp [dt, opn, sht, bs]
    refine ⟨e, ?_⟩
    have e2 : sb.size = sb.data.toList.length := rfl
    rw [e2, e]
    unfold dt
    simp only [List.length_append, List.length_cons, rep_len]
    simp [opn, sht]
    omega)
  clear H
  by_cases h40 : n ≤ 40
  · obtain ⟨r, p, ev, ep⟩ := deep_ok h40 (k := 4) (by decide)
    have EV := hid ev
    have EP := hid ep
    have h40' : (n : Int) ≤ 40 := by omega
    clear ev ep h40
    go_enter Tryz.func5, Tryz.ntmps5
    go_wp2_with (go_at_call 10; refine (ex_any hO.out).mono ?_; rintro e w1 ⟨rfl, hp⟩; have HP1 := hid hp; clear hp)
    go_loop [9, 10, 11] (fun s t i => ∃ j : Nat, j ≤ n ∧ s = .string (bs (rep j [120, 115, 91])) ∧ t = .string (bs (rep j [93])) ∧ i = .int .i64 j) (fun _ _ i => n - (intOf i).toNat)
    case atStart => exact ⟨0, Nat.zero_le _, rfl, rfl, rfl⟩
    case round =>
      obtain ⟨j, hj, rfl, rfl, rfl⟩ := hrel
      have z1 : (bs (rep j [120, 115, 91])).size ≤ 1000 := by show (rep j [120, 115, 91]).toArray.size ≤ _; rw [List.size_toArray, rep_len]; simp; omega
      have z2 : (bs (rep j [93])).size ≤ 1000 := by show (rep j [93]).toArray.size ≤ _; rw [List.size_toArray, rep_len]; simp <;> omega
      by_cases hlt : j < n
      · go_wp2
        go_round
        case rel => exact ⟨j + 1, by omega, by rw [rep, ← bs_app]; rfl, by rw [rep, ← bs_app]; rfl, by go_num⟩
        case measure => simp [intOf]; omega
      · obtain rfl : j = n := by omega
        go_wp2_with (first
          | (go_at_call 15; refine (nest_fine (hO.out.on HP3.out) 130 _ (HD.out _ rfl).1 (by rw [← (HD.out _ rfl).1]; exact (HD.out _ rfl).2) EV.out EP.out).mono ?_; rintro e w4 ⟨rfl, hb⟩; have HP4 := hid (HP3.out.on hb); clear hb)
          | (go_at_call 18; refine (expr_fine (hO.out.on (past2 HP1.out _ _)) 130 _ (HD.out _ rfl).1 (by rw [← (HD.out _ rfl).1]; exact (HD.out _ rfl).2) EV.out).mono ?_; rintro e w2 ⟨hb, T, rfl, hT⟩; have HP3 := hid ((Past.on (past2 HP1.out _ _) hb).alloc (.cells #[.int .i64 T.kind, .string T.op, .int .i64 T.n, .string T.name, .slice T.kaddr T.kids.length T.kcap] 43)); clear hb hT))
        go_ret
        exact ⟨rfl, HP4.out⟩
  · have ev := deep_bad (n := n) (by omega) hn60 (k := 4) (by decide)
    have EV : Hid (exprF 130 (dt n 4) = .bad 122 4) := hid ev
    have h40' : ¬ (n : Int) ≤ 40 := by omega
    clear ev h40
    go_enter Tryz.func5, Tryz.ntmps5
    go_wp2_with (go_at_call 10; refine (ex_any hO.out).mono ?_; rintro e w1 ⟨rfl, hp⟩; have HP1 := hid hp; clear hp)
    go_loop [9, 10, 11] (fun s t i => ∃ j : Nat, j ≤ n ∧ s = .string (bs (rep j [120, 115, 91])) ∧ t = .string (bs (rep j [93])) ∧ i = .int .i64 j) (fun _ _ i => n - (intOf i).toNat)
    case atStart => exact ⟨0, Nat.zero_le _, rfl, rfl, rfl⟩
    case round =>
      obtain ⟨j, hj, rfl, rfl, rfl⟩ := hrel
      have z1 : (bs (rep j [120, 115, 91])).size ≤ 1000 := by show (rep j [120, 115, 91]).toArray.size ≤ _; rw [List.size_toArray, rep_len]; simp; omega
      have z2 : (bs (rep j [93])).size ≤ 1000 := by show (rep j [93]).toArray.size ≤ _; rw [List.size_toArray, rep_len]; simp <;> omega
      by_cases hlt : j < n
      · go_wp2
        go_round
        case rel => exact ⟨j + 1, by omega, by rw [rep, ← bs_app]; rfl, by rw [rep, ← bs_app]; rfl, by go_num⟩
        case measure => simp [intOf]; omega
      · obtain rfl : j = n := by omega
        go_wp2_with (go_at_call 18; refine (expr_bad (hO.out.on (past2 HP1.out _ _)) 130 _ (HD.out _ rfl).1 (by rw [← (HD.out _ rfl).1]; exact (HD.out _ rfl).2) EV.out (by decide)).mono ?_; rintro e w2 ⟨rfl, hb⟩; have HP3 := hid ((Past.on (past2 HP1.out _ _) hb).alloc oE); clear hb)
        go_ret
        exact ⟨rfl, HP3.out⟩
end Go.Proofs.YtgkdoealhbhnmaaGreatDoor.Pm
namespace Go.Proofs.YtgkdoealhbhnmaaGreatDoor
open Go Go.RowKit Go.Proofs.YtgkdoealhbhnmaaGreatDoor.Pm
open Go.Lib (hid)
theorem parseDeep_walk (a0 a1 : Int) (w0 : (Lit.int .u8 a0).wf = true) (w1 : (Lit.int .u8 a1).wf = true) (w : World) (H : Wo w) :
    Calls Tryz.prog 5 #[.int .u8 a0, .int .u8 a1] w fun e w' => e = .returned (.bool true) ∧ Below w.heap.size w w' := by
  have h0 : 0 ≤ a0 ∧ a0 ≤ 255 := by
    simp only [Lit.wf, IntKind.min, IntKind.max, Bool.and_eq_true] at w0
    exact ⟨of_decide_eq_true w0.1, of_decide_eq_true w0.2⟩
  have h1 : 0 ≤ a1 ∧ a1 ≤ 255 := by
    simp only [Lit.wf, IntKind.min, IntKind.max, Bool.and_eq_true] at w1
    exact ⟨of_decide_eq_true w1.1, of_decide_eq_true w1.2⟩
  have : a1 % 5 = 0 ∨ a1 % 5 = 1 ∨ a1 % 5 = 2 ∨ a1 % 5 = 3 ∨ a1 % 5 = 4 := by omega
  rcases this with h | h | h | h | h
  · exact deep_walk0 a0 a1 h0 h1 h w H
  · exact deep_walk1 a0 a1 h0 h1 h w H
  · exact deep_walk2 a0 a1 h0 h1 h w H
  · exact deep_walk3 a0 a1 h0 h1 h w H
  · exact deep_walk4 a0 a1 h0 h1 h w H
end Go.Proofs.YtgkdoealhbhnmaaGreatDoor
