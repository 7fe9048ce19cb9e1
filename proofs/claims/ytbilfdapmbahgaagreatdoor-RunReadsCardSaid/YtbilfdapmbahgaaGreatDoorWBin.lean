/- What word.Binary answers of each operation, and of any other text; what do answers. -/
import Derived.Test.YtbilfdapmbahgaaGreatDoorWFind
import Derived.Test.YtbilfdapmbahgaaGreatDoorProg
import Derived.WalkSpells
import Derived.WalkLawsBesides
import Derived.Laws.EntriesVeiled
set_option linter.unusedSimpArgs false
set_option linter.unusedVariables false
set_option maxHeartbeats 8000000
set_option maxRecDepth 100000
namespace Go.Proofs.YtbilfdapmbahgaaGreatDoor
open Go.RowKit
theorem zaw (b:Bool) (w:World):Calls Tryz.prog 322 #[.bool b] w fun e w'=>e=.returned (.int .i64 (bit b))∧w'=w:=by
 cases b
 all_goals
  go_enter Tryz.func322,Tryz.ntmps322
  go_wp2
  go_ret
  exact⟨rfl,rfl⟩
theorem zbi (b:Int) (w:World):Calls Tryz.prog 323 #[.int .i64 b] w fun e w'=>e=.returned (.int .i64 0)∧w'=w:=by
 go_enter Tryz.func323,Tryz.ntmps323
 go_wp2
 go_ret
 exact⟨rfl,rfl⟩
theorem zd4 (b:Int) (w:World):Calls Tryz.prog 325 #[.int .i64 b] w fun e w'=>e=.returned (.int .i64 (if b=0 then 1 else 0))∧w'=w:=by
 by_cases hb:b=0
 ·subst hb
  go_enter Tryz.func325,Tryz.ntmps325
  go_wp2
  go_ret
  exact⟨rfl,rfl⟩
 ·rw[if_neg hb]
  have hb':(b==0)=false:=by simpa using hb
  clear hb
  go_enter Tryz.func325,Tryz.ntmps325
  go_wp2
  go_ret
  exact⟨rfl,rfl⟩
theorem zdj (b:Int) (w:World):Calls Tryz.prog 324 #[.int .i64 b] w fun e w'=>e=.returned (.int .i64 (if 0≤b∧b≤63 then 0 else 2))∧w'=w:=by
 by_cases hb:0≤b∧b≤63
 ·rw[if_pos hb]
  obtain⟨h1,h2⟩:=hb
  go_enter Tryz.func324,Tryz.ntmps324
  go_wp2
  go_ret
  exact⟨rfl,rfl⟩
 ·rw[if_neg hb]
  by_cases h1:b < 0
  ·clear hb
   go_enter Tryz.func324,Tryz.ntmps324
   go_wp2
   go_ret
   exact⟨rfl,rfl⟩
  ·have h2:63 < b:=by omega
   have h3:0≤b:=by omega
   clear hb h1
   go_enter Tryz.func324,Tryz.ntmps324
   go_wp2
   go_ret
   exact⟨rfl,rfl⟩
theorem m_either (a b:Int) (w:World):Calls Tryz.prog 284 #[.int .i64 a,.int .i64 b] w fun e w'=>e=.returned (.int .i64 (bit (a != 0||b != 0)))∧w'=w:=by
 by_cases ha:a=0
 ·subst ha
  have e:(bit ((0:Int) != 0||b != 0))=(bit (b != 0)):=by simp[bit]
  rw[e];clear e
  go_enter Tryz.func284,Tryz.ntmps284
  go_wp2_with (go_at_call 322;refine(zaw _ _).mono ?_;rintro e w' ⟨rfl,rfl⟩)
  go_ret
  exact⟨rfl,rfl⟩
 ·have ha':(a==0)=false:=by simpa using ha
  have ha2:(a != 0)=true:=by simpa using ha
  rw[ha2]
  clear ha
  rw[Bool.true_or]
  go_enter Tryz.func284,Tryz.ntmps284
  go_wp2_with (go_at_call 322;refine(zaw _ _).mono ?_;rintro e w' ⟨rfl,rfl⟩)
  go_ret
  exact⟨rfl,rfl⟩
theorem m_both (a b:Int) (w:World):Calls Tryz.prog 285 #[.int .i64 a,.int .i64 b] w fun e w'=>e=.returned (.int .i64 (bit (a != 0&&b != 0)))∧w'=w:=by
 by_cases ha:a=0
 ·subst ha
  have e:(bit ((0:Int) != 0&&b != 0))=(bit false):=by simp[bit]
  rw[e];clear e
  go_enter Tryz.func285,Tryz.ntmps285
  go_wp2_with (go_at_call 322;refine(zaw _ _).mono ?_;rintro e w' ⟨rfl,rfl⟩)
  go_ret
  exact⟨rfl,rfl⟩
 ·have ha':(a==0)=false:=by simpa using ha
  have ha2:(a != 0)=true:=by simpa using ha
  rw[ha2]
  clear ha
  rw[Bool.true_and]
  go_enter Tryz.func285,Tryz.ntmps285
  go_wp2_with (go_at_call 322;refine(zaw _ _).mono ?_;rintro e w' ⟨rfl,rfl⟩)
  go_ret
  exact⟨rfl,rfl⟩
theorem m_bitOr (a b:Int) (w:World):Calls Tryz.prog 286 #[.int .i64 a,.int .i64 b] w fun e w'=>e=.returned (.int .i64 (bits .or .i64 a b))∧w'=w:=by
 go_enter Tryz.func286,Tryz.ntmps286
 go_wp2_with (go_at_call 322;refine(zaw _ _).mono ?_;rintro e w' ⟨rfl,rfl⟩)
 go_ret
 exact⟨rfl,rfl⟩
theorem m_bitXor (a b:Int) (w:World):Calls Tryz.prog 287 #[.int .i64 a,.int .i64 b] w fun e w'=>e=.returned (.int .i64 (bits .xor .i64 a b))∧w'=w:=by
 go_enter Tryz.func287,Tryz.ntmps287
 go_wp2_with (go_at_call 322;refine(zaw _ _).mono ?_;rintro e w' ⟨rfl,rfl⟩)
 go_ret
 exact⟨rfl,rfl⟩
theorem m_bitAnd (a b:Int) (w:World):Calls Tryz.prog 288 #[.int .i64 a,.int .i64 b] w fun e w'=>e=.returned (.int .i64 (bits .and .i64 a b))∧w'=w:=by
 go_enter Tryz.func288,Tryz.ntmps288
 go_wp2_with (go_at_call 322;refine(zaw _ _).mono ?_;rintro e w' ⟨rfl,rfl⟩)
 go_ret
 exact⟨rfl,rfl⟩
theorem m_equal (a b:Int) (w:World):Calls Tryz.prog 289 #[.int .i64 a,.int .i64 b] w fun e w'=>e=.returned (.int .i64 (bit (a==b)))∧w'=w:=by
 go_enter Tryz.func289,Tryz.ntmps289
 go_wp2_with (go_at_call 322;refine(zaw _ _).mono ?_;rintro e w' ⟨rfl,rfl⟩)
 go_ret
 exact⟨rfl,rfl⟩
theorem m_unequal (a b:Int) (w:World):Calls Tryz.prog 290 #[.int .i64 a,.int .i64 b] w fun e w'=>e=.returned (.int .i64 (bit (a != b)))∧w'=w:=by
 go_enter Tryz.func290,Tryz.ntmps290
 go_wp2_with (go_at_call 322;refine(zaw _ _).mono ?_;rintro e w' ⟨rfl,rfl⟩)
 go_ret
 exact⟨rfl,rfl⟩
theorem m_less (a b:Int) (w:World):Calls Tryz.prog 291 #[.int .i64 a,.int .i64 b] w fun e w'=>e=.returned (.int .i64 (bit (decide (a < b))))∧w'=w:=by
 go_enter Tryz.func291,Tryz.ntmps291
 go_wp2_with (go_at_call 322;refine(zaw _ _).mono ?_;rintro e w' ⟨rfl,rfl⟩)
 go_ret
 exact⟨rfl,rfl⟩
theorem m_atMost (a b:Int) (w:World):Calls Tryz.prog 292 #[.int .i64 a,.int .i64 b] w fun e w'=>e=.returned (.int .i64 (bit (decide (a≤b))))∧w'=w:=by
 go_enter Tryz.func292,Tryz.ntmps292
 go_wp2_with (go_at_call 322;refine(zaw _ _).mono ?_;rintro e w' ⟨rfl,rfl⟩)
 go_ret
 exact⟨rfl,rfl⟩
theorem m_more (a b:Int) (w:World):Calls Tryz.prog 293 #[.int .i64 a,.int .i64 b] w fun e w'=>e=.returned (.int .i64 (bit (decide (b < a))))∧w'=w:=by
 go_enter Tryz.func293,Tryz.ntmps293
 go_wp2_with (go_at_call 322;refine(zaw _ _).mono ?_;rintro e w' ⟨rfl,rfl⟩)
 go_ret
 exact⟨rfl,rfl⟩
theorem m_atLeast (a b:Int) (w:World):Calls Tryz.prog 294 #[.int .i64 a,.int .i64 b] w fun e w'=>e=.returned (.int .i64 (bit (decide (b≤a))))∧w'=w:=by
 go_enter Tryz.func294,Tryz.ntmps294
 go_wp2_with (go_at_call 322;refine(zaw _ _).mono ?_;rintro e w' ⟨rfl,rfl⟩)
 go_ret
 exact⟨rfl,rfl⟩
theorem m_left (a b:Int) (h1:0≤b) (h2:b≤63) (w:World):Calls Tryz.prog 296 #[.int .i64 a,.int .i64 b] w fun e w'=>e=.returned (.int .i64 (wrap64 (a*2 ^ b.toNat)))∧w'=w:=by
 go_enter Tryz.func296,Tryz.ntmps296
 go_wp2_with (go_at_call 322;refine(zaw _ _).mono ?_;rintro e w' ⟨rfl,rfl⟩)
 go_ret
 exact⟨rfl,rfl⟩
theorem m_right (a b:Int) (h1:0≤b) (h2:b≤63) (w:World):Calls Tryz.prog 297 #[.int .i64 a,.int .i64 b] w fun e w'=>e=.returned (.int .i64 (a / 2 ^ b.toNat))∧w'=w:=by
 go_enter Tryz.func297,Tryz.ntmps297
 go_wp2_with (go_at_call 322;refine(zaw _ _).mono ?_;rintro e w' ⟨rfl,rfl⟩)
 go_ret
 exact⟨rfl,rfl⟩
theorem m_plus (a b:Int) (w:World):Calls Tryz.prog 298 #[.int .i64 a,.int .i64 b] w fun e w'=>e=.returned (.int .i64 (wrap64 (a+b)))∧w'=w:=by
 go_enter Tryz.func298,Tryz.ntmps298
 go_wp2_with (go_at_call 322;refine(zaw _ _).mono ?_;rintro e w' ⟨rfl,rfl⟩)
 go_ret
 exact⟨rfl,rfl⟩
theorem m_minus (a b:Int) (w:World):Calls Tryz.prog 299 #[.int .i64 a,.int .i64 b] w fun e w'=>e=.returned (.int .i64 (wrap64 (a - b)))∧w'=w:=by
 go_enter Tryz.func299,Tryz.ntmps299
 go_wp2_with (go_at_call 322;refine(zaw _ _).mono ?_;rintro e w' ⟨rfl,rfl⟩)
 go_ret
 exact⟨rfl,rfl⟩
theorem m_times (a b:Int) (w:World):Calls Tryz.prog 300 #[.int .i64 a,.int .i64 b] w fun e w'=>e=.returned (.int .i64 (wrap64 (a*b)))∧w'=w:=by
 go_enter Tryz.func300,Tryz.ntmps300
 go_wp2_with (go_at_call 322;refine(zaw _ _).mono ?_;rintro e w' ⟨rfl,rfl⟩)
 go_ret
 exact⟨rfl,rfl⟩
theorem m_quotient (a b:Int) (hb:¬b=0) (w:World):Calls Tryz.prog 302 #[.int .i64 a,.int .i64 b] w fun e w'=>e=.returned (.int .i64 (wrap64 (a.tdiv b)))∧w'=w:=by
 go_enter Tryz.func302,Tryz.ntmps302
 go_wp2_with (go_at_call 322;refine(zaw _ _).mono ?_;rintro e w' ⟨rfl,rfl⟩)
 go_ret
 exact⟨rfl,rfl⟩
theorem m_rest (a b:Int) (hb:¬b=0) (w:World):Calls Tryz.prog 303 #[.int .i64 a,.int .i64 b] w fun e w'=>e=.returned (.int .i64 (a.tmod b))∧w'=w:=by
 go_enter Tryz.func303,Tryz.ntmps303
 go_wp2_with (go_at_call 322;refine(zaw _ _).mono ?_;rintro e w' ⟨rfl,rfl⟩)
 go_ret
 exact⟨rfl,rfl⟩
end Go.Proofs.YtbilfdapmbahgaaGreatDoor

namespace Go.Proofs.YtbilfdapmbahgaaGreatDoor
open Go.RowKit
theorem bin_either (a b:Int) (w:World):
  Calls Tryz.prog 351 #[.string {data:=#[124,124]},.int .i64 a,.int .i64 b] w fun e w'=>e=.returned (.tuple #[.int .i64 (binV {data:=#[124,124]} a b),.int .i64 (binT {data:=#[124,124]} b)])∧Below w.heap.size w w':=by
 rw[binV_either,show binT {data:=#[124,124]} b=0 from rfl]
 go_enter Tryz.func351,Tryz.ntmps351
 go_wp2_with (first | (go_at_call 246;refine(zeg _).mono ?_;rintro e w' ⟨rfl,rfl⟩) | (go_at_call 323;refine(zbi _ _).mono ?_;rintro e w' ⟨rfl,rfl⟩) | (go_at_call 284;refine(m_either _ _ _).mono ?_;rintro e w' ⟨rfl,rfl⟩))
 go_ret2
 exact⟨rfl,((((Below.refl _ _).alloc (Nat.le_refl _) _).alloc (by simp) _).alloc (by simp;omega) _)⟩
theorem bin_both (a b:Int) (w:World):
  Calls Tryz.prog 351 #[.string {data:=#[38,38]},.int .i64 a,.int .i64 b] w fun e w'=>e=.returned (.tuple #[.int .i64 (binV {data:=#[38,38]} a b),.int .i64 (binT {data:=#[38,38]} b)])∧Below w.heap.size w w':=by
 rw[binV_both,show binT {data:=#[38,38]} b=0 from rfl]
 go_enter Tryz.func351,Tryz.ntmps351
 go_wp2_with (first | (go_at_call 246;refine(find_both _).mono ?_;rintro e w' ⟨rfl,rfl⟩) | (go_at_call 323;refine(zbi _ _).mono ?_;rintro e w' ⟨rfl,rfl⟩) | (go_at_call 285;refine(m_both _ _ _).mono ?_;rintro e w' ⟨rfl,rfl⟩))
 go_ret2
 exact⟨rfl,((((Below.refl _ _).alloc (Nat.le_refl _) _).alloc (by simp) _).alloc (by simp;omega) _)⟩
theorem bin_bitOr (a b:Int) (w:World):
  Calls Tryz.prog 351 #[.string {data:=#[124]},.int .i64 a,.int .i64 b] w fun e w'=>e=.returned (.tuple #[.int .i64 (binV {data:=#[124]} a b),.int .i64 (binT {data:=#[124]} b)])∧Below w.heap.size w w':=by
 rw[binV_bitOr,show binT {data:=#[124]} b=0 from rfl]
 go_enter Tryz.func351,Tryz.ntmps351
 go_wp2_with (first | (go_at_call 246;refine(find_bitOr _).mono ?_;rintro e w' ⟨rfl,rfl⟩) | (go_at_call 323;refine(zbi _ _).mono ?_;rintro e w' ⟨rfl,rfl⟩) | (go_at_call 286;refine(m_bitOr _ _ _).mono ?_;rintro e w' ⟨rfl,rfl⟩))
 go_ret2
 exact⟨rfl,((((Below.refl _ _).alloc (Nat.le_refl _) _).alloc (by simp) _).alloc (by simp;omega) _)⟩
theorem bin_bitXor (a b:Int) (w:World):
  Calls Tryz.prog 351 #[.string {data:=#[94]},.int .i64 a,.int .i64 b] w fun e w'=>e=.returned (.tuple #[.int .i64 (binV {data:=#[94]} a b),.int .i64 (binT {data:=#[94]} b)])∧Below w.heap.size w w':=by
 rw[binV_bitXor,show binT {data:=#[94]} b=0 from rfl]
 go_enter Tryz.func351,Tryz.ntmps351
 go_wp2_with (first | (go_at_call 246;refine(zeh _).mono ?_;rintro e w' ⟨rfl,rfl⟩) | (go_at_call 323;refine(zbi _ _).mono ?_;rintro e w' ⟨rfl,rfl⟩) | (go_at_call 287;refine(m_bitXor _ _ _).mono ?_;rintro e w' ⟨rfl,rfl⟩))
 go_ret2
 exact⟨rfl,((((Below.refl _ _).alloc (Nat.le_refl _) _).alloc (by simp) _).alloc (by simp;omega) _)⟩
theorem bin_bitAnd (a b:Int) (w:World):
  Calls Tryz.prog 351 #[.string {data:=#[38]},.int .i64 a,.int .i64 b] w fun e w'=>e=.returned (.tuple #[.int .i64 (binV {data:=#[38]} a b),.int .i64 (binT {data:=#[38]} b)])∧Below w.heap.size w w':=by
 rw[binV_bitAnd,show binT {data:=#[38]} b=0 from rfl]
 go_enter Tryz.func351,Tryz.ntmps351
 go_wp2_with (first | (go_at_call 246;refine(zei _).mono ?_;rintro e w' ⟨rfl,rfl⟩) | (go_at_call 323;refine(zbi _ _).mono ?_;rintro e w' ⟨rfl,rfl⟩) | (go_at_call 288;refine(m_bitAnd _ _ _).mono ?_;rintro e w' ⟨rfl,rfl⟩))
 go_ret2
 exact⟨rfl,((((Below.refl _ _).alloc (Nat.le_refl _) _).alloc (by simp) _).alloc (by simp;omega) _)⟩
theorem bin_equal (a b:Int) (w:World):
  Calls Tryz.prog 351 #[.string {data:=#[61,61]},.int .i64 a,.int .i64 b] w fun e w'=>e=.returned (.tuple #[.int .i64 (binV {data:=#[61,61]} a b),.int .i64 (binT {data:=#[61,61]} b)])∧Below w.heap.size w w':=by
 rw[binV_equal,show binT {data:=#[61,61]} b=0 from rfl]
 go_enter Tryz.func351,Tryz.ntmps351
 go_wp2_with (first | (go_at_call 246;refine(find_equal _).mono ?_;rintro e w' ⟨rfl,rfl⟩) | (go_at_call 323;refine(zbi _ _).mono ?_;rintro e w' ⟨rfl,rfl⟩) | (go_at_call 289;refine(m_equal _ _ _).mono ?_;rintro e w' ⟨rfl,rfl⟩))
 go_ret2
 exact⟨rfl,((((Below.refl _ _).alloc (Nat.le_refl _) _).alloc (by simp) _).alloc (by simp;omega) _)⟩
theorem bin_unequal (a b:Int) (w:World):
  Calls Tryz.prog 351 #[.string {data:=#[33,61]},.int .i64 a,.int .i64 b] w fun e w'=>e=.returned (.tuple #[.int .i64 (binV {data:=#[33,61]} a b),.int .i64 (binT {data:=#[33,61]} b)])∧Below w.heap.size w w':=by
 rw[binV_unequal,show binT {data:=#[33,61]} b=0 from rfl]
 go_enter Tryz.func351,Tryz.ntmps351
 go_wp2_with (first | (go_at_call 246;refine(zdp _).mono ?_;rintro e w' ⟨rfl,rfl⟩) | (go_at_call 323;refine(zbi _ _).mono ?_;rintro e w' ⟨rfl,rfl⟩) | (go_at_call 290;refine(m_unequal _ _ _).mono ?_;rintro e w' ⟨rfl,rfl⟩))
 go_ret2
 exact⟨rfl,((((Below.refl _ _).alloc (Nat.le_refl _) _).alloc (by simp) _).alloc (by simp;omega) _)⟩
theorem bin_less (a b:Int) (w:World):
  Calls Tryz.prog 351 #[.string {data:=#[60]},.int .i64 a,.int .i64 b] w fun e w'=>e=.returned (.tuple #[.int .i64 (binV {data:=#[60]} a b),.int .i64 (binT {data:=#[60]} b)])∧Below w.heap.size w w':=by
 rw[binV_less,show binT {data:=#[60]} b=0 from rfl]
 go_enter Tryz.func351,Tryz.ntmps351
 go_wp2_with (first | (go_at_call 246;refine(find_less _).mono ?_;rintro e w' ⟨rfl,rfl⟩) | (go_at_call 323;refine(zbi _ _).mono ?_;rintro e w' ⟨rfl,rfl⟩) | (go_at_call 291;refine(m_less _ _ _).mono ?_;rintro e w' ⟨rfl,rfl⟩))
 go_ret2
 exact⟨rfl,((((Below.refl _ _).alloc (Nat.le_refl _) _).alloc (by simp) _).alloc (by simp;omega) _)⟩
theorem bin_atMost (a b:Int) (w:World):
  Calls Tryz.prog 351 #[.string {data:=#[60,61]},.int .i64 a,.int .i64 b] w fun e w'=>e=.returned (.tuple #[.int .i64 (binV {data:=#[60,61]} a b),.int .i64 (binT {data:=#[60,61]} b)])∧Below w.heap.size w w':=by
 rw[binV_atMost,show binT {data:=#[60,61]} b=0 from rfl]
 go_enter Tryz.func351,Tryz.ntmps351
 go_wp2_with (first | (go_at_call 246;refine(zej _).mono ?_;rintro e w' ⟨rfl,rfl⟩) | (go_at_call 323;refine(zbi _ _).mono ?_;rintro e w' ⟨rfl,rfl⟩) | (go_at_call 292;refine(m_atMost _ _ _).mono ?_;rintro e w' ⟨rfl,rfl⟩))
 go_ret2
 exact⟨rfl,((((Below.refl _ _).alloc (Nat.le_refl _) _).alloc (by simp) _).alloc (by simp;omega) _)⟩
theorem bin_more (a b:Int) (w:World):
  Calls Tryz.prog 351 #[.string {data:=#[62]},.int .i64 a,.int .i64 b] w fun e w'=>e=.returned (.tuple #[.int .i64 (binV {data:=#[62]} a b),.int .i64 (binT {data:=#[62]} b)])∧Below w.heap.size w w':=by
 rw[binV_more,show binT {data:=#[62]} b=0 from rfl]
 go_enter Tryz.func351,Tryz.ntmps351
 go_wp2_with (first | (go_at_call 246;refine(find_more _).mono ?_;rintro e w' ⟨rfl,rfl⟩) | (go_at_call 323;refine(zbi _ _).mono ?_;rintro e w' ⟨rfl,rfl⟩) | (go_at_call 293;refine(m_more _ _ _).mono ?_;rintro e w' ⟨rfl,rfl⟩))
 go_ret2
 exact⟨rfl,((((Below.refl _ _).alloc (Nat.le_refl _) _).alloc (by simp) _).alloc (by simp;omega) _)⟩
theorem bin_atLeast (a b:Int) (w:World):
  Calls Tryz.prog 351 #[.string {data:=#[62,61]},.int .i64 a,.int .i64 b] w fun e w'=>e=.returned (.tuple #[.int .i64 (binV {data:=#[62,61]} a b),.int .i64 (binT {data:=#[62,61]} b)])∧Below w.heap.size w w':=by
 rw[binV_atLeast,show binT {data:=#[62,61]} b=0 from rfl]
 go_enter Tryz.func351,Tryz.ntmps351
 go_wp2_with (first | (go_at_call 246;refine(zdq _).mono ?_;rintro e w' ⟨rfl,rfl⟩) | (go_at_call 323;refine(zbi _ _).mono ?_;rintro e w' ⟨rfl,rfl⟩) | (go_at_call 294;refine(m_atLeast _ _ _).mono ?_;rintro e w' ⟨rfl,rfl⟩))
 go_ret2
 exact⟨rfl,((((Below.refl _ _).alloc (Nat.le_refl _) _).alloc (by simp) _).alloc (by simp;omega) _)⟩
theorem bin_left (a b:Int) (w:World):
  Calls Tryz.prog 351 #[.string {data:=#[60,60]},.int .i64 a,.int .i64 b] w fun e w'=>e=.returned (.tuple #[.int .i64 (binV {data:=#[60,60]} a b),.int .i64 (binT {data:=#[60,60]} b)])∧Below w.heap.size w w':=by
 rw[binV_left,binT_left]
 by_cases hb:0≤b∧b≤63
 ·rw[if_pos hb,if_pos hb]
  have ht:∀W,Calls Tryz.prog 324 #[.int .i64 b] W fun e w'=>e=.returned (.int .i64 0)∧w'=W:=fun W=>by have:=zdj b W;rwa [if_pos hb] at this
  have hm:∀W,Calls Tryz.prog 296 #[.int .i64 a,.int .i64 b] W fun e w'=>e=.returned (.int .i64 (wrap64 (a*2 ^ b.toNat)))∧w'=W:=fun W=>m_left a b hb.1 hb.2 W
  clear hb
  go_enter Tryz.func351,Tryz.ntmps351
  go_wp2_with (first | (go_at_call 246;refine(zeL _).mono ?_;rintro e w' ⟨rfl,rfl⟩) | (go_at_call 324;refine(ht _).mono ?_;rintro e w' ⟨rfl,rfl⟩) | (go_at_call 296;refine(hm _).mono ?_;rintro e w' ⟨rfl,rfl⟩))
  go_ret2
  exact⟨rfl,((((Below.refl _ _).alloc (Nat.le_refl _) _).alloc (by simp) _).alloc (by simp;omega) _)⟩
 ·rw[if_neg hb,if_neg hb]
  have ht:∀W,Calls Tryz.prog 324 #[.int .i64 b] W fun e w'=>e=.returned (.int .i64 2)∧w'=W:=fun W=>by have:=zdj b W;rwa [if_neg hb] at this
  clear hb
  go_enter Tryz.func351,Tryz.ntmps351
  go_wp2_with (first | (go_at_call 246;refine(zeL _).mono ?_;rintro e w' ⟨rfl,rfl⟩) | (go_at_call 324;refine(ht _).mono ?_;rintro e w' ⟨rfl,rfl⟩) | (go_at_call 296;refine(m_left _ _ (by assumption) (by assumption) _).mono ?_;rintro e w' ⟨rfl,rfl⟩))
  go_ret2
  exact⟨rfl,((((Below.refl _ _).alloc (Nat.le_refl _) _).alloc (by simp) _).alloc (by simp;omega) _)⟩
theorem bin_right (a b:Int) (w:World):
  Calls Tryz.prog 351 #[.string {data:=#[62,62]},.int .i64 a,.int .i64 b] w fun e w'=>e=.returned (.tuple #[.int .i64 (binV {data:=#[62,62]} a b),.int .i64 (binT {data:=#[62,62]} b)])∧Below w.heap.size w w':=by
 rw[binV_right,binT_right]
 by_cases hb:0≤b∧b≤63
 ·rw[if_pos hb,if_pos hb]
  have ht:∀W,Calls Tryz.prog 324 #[.int .i64 b] W fun e w'=>e=.returned (.int .i64 0)∧w'=W:=fun W=>by have:=zdj b W;rwa [if_pos hb] at this
  have hm:∀W,Calls Tryz.prog 297 #[.int .i64 a,.int .i64 b] W fun e w'=>e=.returned (.int .i64 (a / 2 ^ b.toNat))∧w'=W:=fun W=>m_right a b hb.1 hb.2 W
  clear hb
  go_enter Tryz.func351,Tryz.ntmps351
  go_wp2_with (first | (go_at_call 246;refine(zdT _).mono ?_;rintro e w' ⟨rfl,rfl⟩) | (go_at_call 324;refine(ht _).mono ?_;rintro e w' ⟨rfl,rfl⟩) | (go_at_call 297;refine(hm _).mono ?_;rintro e w' ⟨rfl,rfl⟩))
  go_ret2
  exact⟨rfl,((((Below.refl _ _).alloc (Nat.le_refl _) _).alloc (by simp) _).alloc (by simp;omega) _)⟩
 ·rw[if_neg hb,if_neg hb]
  have ht:∀W,Calls Tryz.prog 324 #[.int .i64 b] W fun e w'=>e=.returned (.int .i64 2)∧w'=W:=fun W=>by have:=zdj b W;rwa [if_neg hb] at this
  clear hb
  go_enter Tryz.func351,Tryz.ntmps351
  go_wp2_with (first | (go_at_call 246;refine(zdT _).mono ?_;rintro e w' ⟨rfl,rfl⟩) | (go_at_call 324;refine(ht _).mono ?_;rintro e w' ⟨rfl,rfl⟩) | (go_at_call 297;refine(m_left _ _ (by assumption) (by assumption) _).mono ?_;rintro e w' ⟨rfl,rfl⟩))
  go_ret2
  exact⟨rfl,((((Below.refl _ _).alloc (Nat.le_refl _) _).alloc (by simp) _).alloc (by simp;omega) _)⟩
theorem bin_plus (a b:Int) (w:World):
  Calls Tryz.prog 351 #[.string {data:=#[43]},.int .i64 a,.int .i64 b] w fun e w'=>e=.returned (.tuple #[.int .i64 (binV {data:=#[43]} a b),.int .i64 (binT {data:=#[43]} b)])∧Below w.heap.size w w':=by
 rw[binV_plus,show binT {data:=#[43]} b=0 from rfl]
 go_enter Tryz.func351,Tryz.ntmps351
 go_wp2_with (first | (go_at_call 246;refine(find_plus _).mono ?_;rintro e w' ⟨rfl,rfl⟩) | (go_at_call 323;refine(zbi _ _).mono ?_;rintro e w' ⟨rfl,rfl⟩) | (go_at_call 298;refine(m_plus _ _ _).mono ?_;rintro e w' ⟨rfl,rfl⟩))
 go_ret2
 exact⟨rfl,((((Below.refl _ _).alloc (Nat.le_refl _) _).alloc (by simp) _).alloc (by simp;omega) _)⟩
theorem bin_minus (a b:Int) (w:World):
  Calls Tryz.prog 351 #[.string {data:=#[45]},.int .i64 a,.int .i64 b] w fun e w'=>e=.returned (.tuple #[.int .i64 (binV {data:=#[45]} a b),.int .i64 (binT {data:=#[45]} b)])∧Below w.heap.size w w':=by
 rw[binV_minus,show binT {data:=#[45]} b=0 from rfl]
 go_enter Tryz.func351,Tryz.ntmps351
 go_wp2_with (first | (go_at_call 246;refine(find_minus _).mono ?_;rintro e w' ⟨rfl,rfl⟩) | (go_at_call 323;refine(zbi _ _).mono ?_;rintro e w' ⟨rfl,rfl⟩) | (go_at_call 299;refine(m_minus _ _ _).mono ?_;rintro e w' ⟨rfl,rfl⟩))
 go_ret2
 exact⟨rfl,((((Below.refl _ _).alloc (Nat.le_refl _) _).alloc (by simp) _).alloc (by simp;omega) _)⟩
theorem bin_times (a b:Int) (w:World):
  Calls Tryz.prog 351 #[.string {data:=#[42]},.int .i64 a,.int .i64 b] w fun e w'=>e=.returned (.tuple #[.int .i64 (binV {data:=#[42]} a b),.int .i64 (binT {data:=#[42]} b)])∧Below w.heap.size w w':=by
 rw[binV_times,show binT {data:=#[42]} b=0 from rfl]
 go_enter Tryz.func351,Tryz.ntmps351
 go_wp2_with (first | (go_at_call 246;refine(find_times _).mono ?_;rintro e w' ⟨rfl,rfl⟩) | (go_at_call 323;refine(zbi _ _).mono ?_;rintro e w' ⟨rfl,rfl⟩) | (go_at_call 300;refine(m_times _ _ _).mono ?_;rintro e w' ⟨rfl,rfl⟩))
 go_ret2
 exact⟨rfl,((((Below.refl _ _).alloc (Nat.le_refl _) _).alloc (by simp) _).alloc (by simp;omega) _)⟩
theorem bin_quotient (a b:Int) (w:World):
  Calls Tryz.prog 351 #[.string {data:=#[47]},.int .i64 a,.int .i64 b] w fun e w'=>e=.returned (.tuple #[.int .i64 (binV {data:=#[47]} a b),.int .i64 (binT {data:=#[47]} b)])∧Below w.heap.size w w':=by
 rw[binV_quotient,binT_quotient]
 by_cases hb:b=0
 ·subst hb
  rw[if_pos rfl,if_pos rfl]
  go_enter Tryz.func351,Tryz.ntmps351
  go_wp2_with (first | (go_at_call 246;refine(zb6 _).mono ?_;rintro e w' ⟨rfl,rfl⟩) | (go_at_call 325;refine(zd4 _ _).mono ?_;rintro e w' ⟨rfl,rfl⟩) | (go_at_call 302;refine(m_quotient _ _ (by assumption) _).mono ?_;rintro e w' ⟨rfl,rfl⟩))
  go_ret2
  exact⟨rfl,((((Below.refl _ _).alloc (Nat.le_refl _) _).alloc (by simp) _).alloc (by simp;omega) _)⟩
 ·rw[if_neg hb,if_neg hb]
  have ht:∀W,Calls Tryz.prog 325 #[.int .i64 b] W fun e w'=>e=.returned (.int .i64 0)∧w'=W:=fun W=>by have:=zd4 b W;rwa [if_neg hb] at this
  have hm:∀W,Calls Tryz.prog 302 #[.int .i64 a,.int .i64 b] W fun e w'=>e=.returned (.int .i64 (wrap64 (a.tdiv b)))∧w'=W:=fun W=>m_quotient a b hb W
  clear hb
  go_enter Tryz.func351,Tryz.ntmps351
  go_wp2_with (first | (go_at_call 246;refine(zb6 _).mono ?_;rintro e w' ⟨rfl,rfl⟩) | (go_at_call 325;refine(ht _).mono ?_;rintro e w' ⟨rfl,rfl⟩) | (go_at_call 302;refine(hm _).mono ?_;rintro e w' ⟨rfl,rfl⟩))
  go_ret2
  exact⟨rfl,((((Below.refl _ _).alloc (Nat.le_refl _) _).alloc (by simp) _).alloc (by simp;omega) _)⟩
theorem bin_rest (a b:Int) (w:World):
  Calls Tryz.prog 351 #[.string {data:=#[37]},.int .i64 a,.int .i64 b] w fun e w'=>e=.returned (.tuple #[.int .i64 (binV {data:=#[37]} a b),.int .i64 (binT {data:=#[37]} b)])∧Below w.heap.size w w':=by
 rw[binV_rest,binT_rest]
 by_cases hb:b=0
 ·subst hb
  rw[if_pos rfl,if_pos rfl]
  go_enter Tryz.func351,Tryz.ntmps351
  go_wp2_with (first | (go_at_call 246;refine(zeM _).mono ?_;rintro e w' ⟨rfl,rfl⟩) | (go_at_call 325;refine(zd4 _ _).mono ?_;rintro e w' ⟨rfl,rfl⟩) | (go_at_call 303;refine(m_rest _ _ (by assumption) _).mono ?_;rintro e w' ⟨rfl,rfl⟩))
  go_ret2
  exact⟨rfl,((((Below.refl _ _).alloc (Nat.le_refl _) _).alloc (by simp) _).alloc (by simp;omega) _)⟩
 ·rw[if_neg hb,if_neg hb]
  have ht:∀W,Calls Tryz.prog 325 #[.int .i64 b] W fun e w'=>e=.returned (.int .i64 0)∧w'=W:=fun W=>by have:=zd4 b W;rwa [if_neg hb] at this
  have hm:∀W,Calls Tryz.prog 303 #[.int .i64 a,.int .i64 b] W fun e w'=>e=.returned (.int .i64 (a.tmod b))∧w'=W:=fun W=>m_rest a b hb W
  clear hb
  go_enter Tryz.func351,Tryz.ntmps351
  go_wp2_with (first | (go_at_call 246;refine(zeM _).mono ?_;rintro e w' ⟨rfl,rfl⟩) | (go_at_call 325;refine(ht _).mono ?_;rintro e w' ⟨rfl,rfl⟩) | (go_at_call 303;refine(hm _).mono ?_;rintro e w' ⟨rfl,rfl⟩))
  go_ret2
  exact⟨rfl,((((Below.refl _ _).alloc (Nat.le_refl _) _).alloc (by simp) _).alloc (by simp;omega) _)⟩
theorem zeN (s:ByteArray) (w:World)
  (h0:(s.toList==[124,124])=false)
  (h1:(s.toList==[38,38])=false)
  (h2:(s.toList==[124])=false)
  (h3:(s.toList==[94])=false)
  (h4:(s.toList==[38])=false)
  (h5:(s.toList==[61,61])=false)
  (h6:(s.toList==[33,61])=false)
  (h7:(s.toList==[60])=false)
  (h8:(s.toList==[60,61])=false)
  (h9:(s.toList==[62])=false)
  (h10:(s.toList==[62,61])=false)
  (h11:(s.toList==[60,60])=false)
  (h12:(s.toList==[62,62])=false)
  (h13:(s.toList==[43])=false)
  (h14:(s.toList==[45])=false)
  (h15:(s.toList==[42])=false)
  (h16:(s.toList==[47])=false)
  (h17:(s.toList==[37])=false)
  : Calls Tryz.prog 246 #[.string s] w fun e w'=>e=.returned (.tuple #[.agg #[.int .i64 0,.nilFunc,.nilFunc],.bool false])∧w'=w.alloc (.cells #[.int .i64 0,.nilFunc,.nilFunc] 316):=by
 go_enter Tryz.func246,Tryz.ntmps246
 go_wp2
 exact bodyPost_ret (v:=.tuple #[.agg #[.int .i64 0,.nilFunc,.nilFunc],.bool false]) (by simp[results,Tryz.results246,go_sem]) rfl ⟨rfl,rfl⟩
end Go.Proofs.YtbilfdapmbahgaaGreatDoor
