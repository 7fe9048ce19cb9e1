/- The chapter's examples hold: billhooklaw01.examples answers true, whatever the memory, as long as strconv's table of powers is as its text lays it. -/
import Derived.Test.YtbphpbkkafgihaaDoorWNear
import Derived.Lib.Hide
namespace Go.Proofs.YtbphpbkkafgihaaDoor
open Go.RowKit

/-- Since w0 nothing that was there has turned. -/
def Past (w0 w : World) : Prop := Below w0.heap.size w0 w
theorem Past.refl (w : World) : Past w w := Below.refl _ _
theorem Past.on {w0 w w' : World} (h : Past w0 w) (hb : Below w.heap.size w w') : Past w0 w' := Below.trans h (hb.mono h.size)
theorem Past.alloc {w0 w : World} (h : Past w0 w) (o : Obj) : Past w0 (w.alloc o) := Below.alloc h h.size o
/-- The table of powers, at w0 and whenever nothing that was there has turned. -/
def Pow (w0 : World) : Prop := Lib.TabBelow Tryd.prog w0.heap.size w0 "internal/strconv.uint64pow10" .u64 Lib.pow10Tab

theorem bin_on {w0 : World} (s : ByteArray) (a b : Int) (w : World) (h : Past w0 w) :
    Calls Tryd.prog 14 #[.string s, .int .i64 a, .int .i64 b] w fun e w' => e = .returned (.tuple #[.int .i64 (binV s a b), .int .i64 (binT s b)]) ∧ Past w0 w' :=
  (bin_any s a b w).mono fun _ _ ⟨he, hb⟩ => ⟨he, h.on hb⟩
theorem do_on {w0 : World} (s : ByteArray) (a b : Int) (w : World) (h : Past w0 w) :
    Calls Tryd.prog 24 #[.string s, .int .i64 a, .int .i64 b] w fun e w' => e = .returned (.int .i64 (binV s a b)) ∧ Past w0 w' :=
  (do_any s a b w).mono fun _ _ ⟨he, hb⟩ => ⟨he, h.on hb⟩
theorem un_on {w0 : World} (s : ByteArray) (a : Int) (ha : -9223372036854775808 ≤ a ∧ a ≤ 9223372036854775807) (w : World) (h : Past w0 w) :
    Calls Tryd.prog 16 #[.string s, .int .i64 a] w fun e w' => e = .returned (.tuple #[.int .i64 (unV s a), .bool (unB s)]) ∧ Past w0 w' :=
  (un_any s a ha w).mono fun _ _ ⟨he, hb⟩ => ⟨he, h.on hb⟩
theorem level_on {w0 : World} (s : ByteArray) (w : World) (h : Past w0 w) :
    Calls Tryd.prog 20 #[.string s] w fun e w' => e = .returned (.int .i64 (levelV s)) ∧ Past w0 w' :=
  (level_any s w).mono fun _ _ ⟨he, hb⟩ => ⟨he, h.on hb⟩
theorem near_on {w0 : World} (n k : Int) (hk : 0 ≤ k ∧ k ≤ 255) (w : World) (h : Past w0 w) :
    Calls Tryd.prog 13 #[.int .i64 n, .int .u8 k] w fun e w' => e = .returned (.int .i64 (nearV n k)) ∧ Past w0 w' :=
  (near_any n k hk w).mono fun _ _ ⟨he, hb⟩ => ⟨he, h.on hb⟩
def txt (n : Int) : ByteArray := ⟨(Lib.itoa n).toArray⟩
theorem text_on {w0 : World} (n : Int) (h0 : -9223372036854775808 ≤ n) (h1 : n ≤ 9223372036854775807) (w : World) (h : Past w0 w) (H : Pow w0) :
    Calls Tryd.prog 22 #[.int .i64 n] w fun e w' => e = .returned (.string (txt n)) ∧ Past w0 w' := by
  have ht : Hid (Lib.TabIs Tryd.prog w "internal/strconv.uint64pow10" .u64 Lib.pow10Tab) := Lib.hid (H w h)
  go_enter Tryd.func22, Tryd.ntmps22
  go_wp2_with (go_at_call 28; refine (Tryd.strconv_FormatInt_10 _ (by assumption) (by assumption) _ ht.out).mono ?_; rintro e w' ⟨rfl, k, os, rfl⟩)
  go_ret
  exact ⟨rfl, h.on (Lib.below_grow _ _ (Nat.le_refl _) _ _)⟩

set_option maxHeartbeats 2000000 in
theorem ex_any (w0 : World) (H0 : Pow w0) (w : World) (h : Past w0 w) :
    Calls Tryd.prog 11 #[] w fun e w' => e = .returned (.bool true) ∧ Past w0 w' := by
  have H : Hid (Pow w0) := Lib.hid H0
  clear H0
  have e1 : binV { data := #[47] } (-7) 2 = -3 := by kernel_rfl
  have e2 : binT { data := #[47] } 2 = 0 := by kernel_rfl
  have e3 : binV { data := #[47] } 1 0 = 0 := by kernel_rfl
  have e4 : binT { data := #[47] } 0 = 1 := by kernel_rfl
  have e5 : binV { data := #[60, 60] } 1 63 = -9223372036854775808 := by kernel_rfl
  have e6 : binT { data := #[60, 60] } 63 = 0 := by kernel_rfl
  have e7 : binT { data := #[62, 62] } 64 = 2 := by kernel_rfl
  have e8 : binV { data := #[47] } (-9223372036854775808) (-1) = -9223372036854775808 := by kernel_rfl
  have e9 : unV { data := #[33] } 0 = 1 := by kernel_rfl
  have e10 : unB { data := #[33] } = true := by kernel_rfl
  have e11 : unB { data := #[43] } = false := by kernel_rfl
  have e12 : levelV { data := #[42] } = 10 := by kernel_rfl
  have e13 : levelV { data := #[63] } = 0 := by kernel_rfl
  have e14 : txt (-9223372036854775808) = { data := #[45, 57, 50, 50, 51, 51, 55, 50, 48, 51, 54, 56, 53, 52, 55, 55, 53, 56, 48, 56] } := by kernel_rfl
  go_enter Tryd.func11, Tryd.ntmps11
  go_wp2_with (first
    | (go_at_call 14; refine (bin_on _ _ _ _ (by first | exact h | exact h.alloc _)).mono ?_; clear h; rintro e w ⟨rfl, h⟩)
    | (go_at_call 16; refine (un_on _ _ (by decide) _ (by first | exact h | exact h.alloc _)).mono ?_; clear h; rintro e w ⟨rfl, h⟩)
    | (go_at_call 20; refine (level_on _ _ (by first | exact h | exact h.alloc _)).mono ?_; clear h; rintro e w ⟨rfl, h⟩)
    | (go_at_call 22; refine (text_on _ (by decide) (by decide) _ (by first | exact h | exact h.alloc _) H.out).mono ?_; clear h; rintro e w ⟨rfl, h⟩)
    | (go_at_call 18; go_in))
  go_ret
  exact ⟨rfl, h⟩
end Go.Proofs.YtbphpbkkafgihaaDoor
