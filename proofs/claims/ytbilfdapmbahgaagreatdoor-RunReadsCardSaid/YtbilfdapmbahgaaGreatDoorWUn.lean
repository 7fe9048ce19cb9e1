/- What word.Unary answers of any text. -/
import Derived.Test.YtbilfdapmbahgaaGreatDoorWBin
set_option linter.unusedSimpArgs false
set_option linter.unusedVariables false
set_option maxHeartbeats 8000000
set_option maxRecDepth 100000
namespace Go.Proofs.YtbilfdapmbahgaaGreatDoor
open Go.RowKit
theorem bin_none (s:ByteArray) (a b:Int) (w:World)
  (h0:¬s.data.toList=[124,124])
  (h1:¬s.data.toList=[38,38])
  (h2:¬s.data.toList=[124])
  (h3:¬s.data.toList=[94])
  (h4:¬s.data.toList=[38])
  (h5:¬s.data.toList=[61,61])
  (h6:¬s.data.toList=[33,61])
  (h7:¬s.data.toList=[60])
  (h8:¬s.data.toList=[60,61])
  (h9:¬s.data.toList=[62])
  (h10:¬s.data.toList=[62,61])
  (h11:¬s.data.toList=[60,60])
  (h12:¬s.data.toList=[62,62])
  (h13:¬s.data.toList=[43])
  (h14:¬s.data.toList=[45])
  (h15:¬s.data.toList=[42])
  (h16:¬s.data.toList=[47])
  (h17:¬s.data.toList=[37])
  : Calls Tryz.prog 351 #[.string s,.int .i64 a,.int .i64 b] w fun e w'=>e=.returned (.tuple #[.int .i64 (binV s a b),.int .i64 (binT s b)])∧Below w.heap.size w w':=by
 have hv:binV s a b=0:=by unfold binV;simp only[if_neg h0,if_neg h1,if_neg h2,if_neg h3,if_neg h4,if_neg h5,if_neg h6,if_neg h7,if_neg h8,if_neg h9,if_neg h10,if_neg h11,if_neg h12,if_neg h13,if_neg h14,if_neg h15,if_neg h16,if_neg h17]
 have ht:binT s b=0:=by unfold binT;simp only[if_neg h11,if_neg h12,if_neg h16,if_neg h17]
 rw[hv,ht]
 have hf:∀W,Calls Tryz.prog 246 #[.string s] W fun e w'=>e=.returned (.tuple #[.agg #[.int .i64 0,.nilFunc,.nilFunc],.bool false])∧w'=W.alloc (.cells #[.int .i64 0,.nilFunc,.nilFunc] 316):=
  fun W=>zeN s W (zal h0) (zal h1) (zal h2) (zal h3) (zal h4) (zal h5) (zal h6) (zal h7) (zal h8) (zal h9) (zal h10) (zal h11) (zal h12) (zal h13) (zal h14) (zal h15) (zal h16) (zal h17)
 clear h0 h1 h2 h3 h4 h5 h6 h7 h8 h9 h10 h11 h12 h13 h14 h15 h16 h17 hv ht
 go_enter Tryz.func351,Tryz.ntmps351
 go_wp2_with (go_at_call 246;refine(hf _).mono ?_;rintro e w' ⟨rfl,rfl⟩)
 go_ret2
 exact⟨rfl,(((Below.refl _ _).alloc (Nat.le_refl _) _).alloc (by simp) _)⟩
theorem bin_any (s:ByteArray) (a b:Int) (w:World):
  Calls Tryz.prog 351 #[.string s,.int .i64 a,.int .i64 b] w fun e w'=>e=.returned (.tuple #[.int .i64 (binV s a b),.int .i64 (binT s b)])∧Below w.heap.size w w':=by
 by_cases h0:s.data.toList=[124,124]
 ·obtain rfl:=zap h0
  exact bin_either a b w
 by_cases h1:s.data.toList=[38,38]
 ·obtain rfl:=zap h1
  exact bin_both a b w
 by_cases h2:s.data.toList=[124]
 ·obtain rfl:=zap h2
  exact bin_bitOr a b w
 by_cases h3:s.data.toList=[94]
 ·obtain rfl:=zap h3
  exact bin_bitXor a b w
 by_cases h4:s.data.toList=[38]
 ·obtain rfl:=zap h4
  exact bin_bitAnd a b w
 by_cases h5:s.data.toList=[61,61]
 ·obtain rfl:=zap h5
  exact bin_equal a b w
 by_cases h6:s.data.toList=[33,61]
 ·obtain rfl:=zap h6
  exact bin_unequal a b w
 by_cases h7:s.data.toList=[60]
 ·obtain rfl:=zap h7
  exact bin_less a b w
 by_cases h8:s.data.toList=[60,61]
 ·obtain rfl:=zap h8
  exact bin_atMost a b w
 by_cases h9:s.data.toList=[62]
 ·obtain rfl:=zap h9
  exact bin_more a b w
 by_cases h10:s.data.toList=[62,61]
 ·obtain rfl:=zap h10
  exact bin_atLeast a b w
 by_cases h11:s.data.toList=[60,60]
 ·obtain rfl:=zap h11
  exact bin_left a b w
 by_cases h12:s.data.toList=[62,62]
 ·obtain rfl:=zap h12
  exact bin_right a b w
 by_cases h13:s.data.toList=[43]
 ·obtain rfl:=zap h13
  exact bin_plus a b w
 by_cases h14:s.data.toList=[45]
 ·obtain rfl:=zap h14
  exact bin_minus a b w
 by_cases h15:s.data.toList=[42]
 ·obtain rfl:=zap h15
  exact bin_times a b w
 by_cases h16:s.data.toList=[47]
 ·obtain rfl:=zap h16
  exact bin_quotient a b w
 by_cases h17:s.data.toList=[37]
 ·obtain rfl:=zap h17
  exact bin_rest a b w
 exact bin_none s a b w h0 h1 h2 h3 h4 h5 h6 h7 h8 h9 h10 h11 h12 h13 h14 h15 h16 h17
theorem level_none (s:ByteArray) (w:World)
  (h0:¬s.data.toList=[124,124])
  (h1:¬s.data.toList=[38,38])
  (h2:¬s.data.toList=[124])
  (h3:¬s.data.toList=[94])
  (h4:¬s.data.toList=[38])
  (h5:¬s.data.toList=[61,61])
  (h6:¬s.data.toList=[33,61])
  (h7:¬s.data.toList=[60])
  (h8:¬s.data.toList=[60,61])
  (h9:¬s.data.toList=[62])
  (h10:¬s.data.toList=[62,61])
  (h11:¬s.data.toList=[60,60])
  (h12:¬s.data.toList=[62,62])
  (h13:¬s.data.toList=[43])
  (h14:¬s.data.toList=[45])
  (h15:¬s.data.toList=[42])
  (h16:¬s.data.toList=[47])
  (h17:¬s.data.toList=[37])
  : Calls Tryz.prog 210 #[.string s] w fun e w'=>e=.returned (.int .i64 (zas s))∧Below w.heap.size w w':=by
 have hv:zas s=0:=by unfold zas;simp only[if_neg h0,if_neg h1,if_neg h2,if_neg h3,if_neg h4,if_neg h5,if_neg h6,if_neg h7,if_neg h8,if_neg h9,if_neg h10,if_neg h11,if_neg h12,if_neg h13,if_neg h14,if_neg h15,if_neg h16,if_neg h17]
 rw[hv]
 have hf:∀W,Calls Tryz.prog 246 #[.string s] W fun e w'=>e=.returned (.tuple #[.agg #[.int .i64 0,.nilFunc,.nilFunc],.bool false])∧w'=W.alloc (.cells #[.int .i64 0,.nilFunc,.nilFunc] 316):=
  fun W=>zeN s W (zal h0) (zal h1) (zal h2) (zal h3) (zal h4) (zal h5) (zal h6) (zal h7) (zal h8) (zal h9) (zal h10) (zal h11) (zal h12) (zal h13) (zal h14) (zal h15) (zal h16) (zal h17)
 clear h0 h1 h2 h3 h4 h5 h6 h7 h8 h9 h10 h11 h12 h13 h14 h15 h16 h17 hv
 go_enter Tryz.func210,Tryz.ntmps210
 go_wp2_with (go_at_call 246;refine(hf _).mono ?_;rintro e w' ⟨rfl,rfl⟩)
 go_ret
 exact⟨rfl,(((Below.refl _ _).alloc (Nat.le_refl _) _).alloc (by simp) _)⟩
theorem zdt (w:World):Calls Tryz.prog 210 #[.string {data:=#[124,124]}] w fun e w'=>e=.returned (.int .i64 (zas {data:=#[124,124]}))∧Below w.heap.size w w':=by
 rw[zeH]
 go_enter Tryz.func210,Tryz.ntmps210
 go_wp2_with (go_at_call 246;refine(zeg _).mono ?_;rintro e w' ⟨rfl,rfl⟩)
 go_ret
 exact⟨rfl,((((Below.refl _ _).alloc (Nat.le_refl _) _).alloc (by simp) _).alloc (by simp;omega) _)⟩
theorem level_both (w:World):Calls Tryz.prog 210 #[.string {data:=#[38,38]}] w fun e w'=>e=.returned (.int .i64 (zas {data:=#[38,38]}))∧Below w.heap.size w w':=by
 rw[levelV_both]
 go_enter Tryz.func210,Tryz.ntmps210
 go_wp2_with (go_at_call 246;refine(find_both _).mono ?_;rintro e w' ⟨rfl,rfl⟩)
 go_ret
 exact⟨rfl,((((Below.refl _ _).alloc (Nat.le_refl _) _).alloc (by simp) _).alloc (by simp;omega) _)⟩
theorem zem (w:World):Calls Tryz.prog 210 #[.string {data:=#[124]}] w fun e w'=>e=.returned (.int .i64 (zas {data:=#[124]}))∧Below w.heap.size w w':=by
 rw[levelV_bitOr]
 go_enter Tryz.func210,Tryz.ntmps210
 go_wp2_with (go_at_call 246;refine(find_bitOr _).mono ?_;rintro e w' ⟨rfl,rfl⟩)
 go_ret
 exact⟨rfl,((((Below.refl _ _).alloc (Nat.le_refl _) _).alloc (by simp) _).alloc (by simp;omega) _)⟩
theorem zdu (w:World):Calls Tryz.prog 210 #[.string {data:=#[94]}] w fun e w'=>e=.returned (.int .i64 (zas {data:=#[94]}))∧Below w.heap.size w w':=by
 rw[zeI]
 go_enter Tryz.func210,Tryz.ntmps210
 go_wp2_with (go_at_call 246;refine(zeh _).mono ?_;rintro e w' ⟨rfl,rfl⟩)
 go_ret
 exact⟨rfl,((((Below.refl _ _).alloc (Nat.le_refl _) _).alloc (by simp) _).alloc (by simp;omega) _)⟩
theorem zdv (w:World):Calls Tryz.prog 210 #[.string {data:=#[38]}] w fun e w'=>e=.returned (.int .i64 (zas {data:=#[38]}))∧Below w.heap.size w w':=by
 rw[zeJ]
 go_enter Tryz.func210,Tryz.ntmps210
 go_wp2_with (go_at_call 246;refine(zei _).mono ?_;rintro e w' ⟨rfl,rfl⟩)
 go_ret
 exact⟨rfl,((((Below.refl _ _).alloc (Nat.le_refl _) _).alloc (by simp) _).alloc (by simp;omega) _)⟩
theorem zen (w:World):Calls Tryz.prog 210 #[.string {data:=#[61,61]}] w fun e w'=>e=.returned (.int .i64 (zas {data:=#[61,61]}))∧Below w.heap.size w w':=by
 rw[levelV_equal]
 go_enter Tryz.func210,Tryz.ntmps210
 go_wp2_with (go_at_call 246;refine(find_equal _).mono ?_;rintro e w' ⟨rfl,rfl⟩)
 go_ret
 exact⟨rfl,((((Below.refl _ _).alloc (Nat.le_refl _) _).alloc (by simp) _).alloc (by simp;omega) _)⟩
theorem zc6 (w:World):Calls Tryz.prog 210 #[.string {data:=#[33,61]}] w fun e w'=>e=.returned (.int .i64 (zas {data:=#[33,61]}))∧Below w.heap.size w w':=by
 rw[zd9]
 go_enter Tryz.func210,Tryz.ntmps210
 go_wp2_with (go_at_call 246;refine(zdp _).mono ?_;rintro e w' ⟨rfl,rfl⟩)
 go_ret
 exact⟨rfl,((((Below.refl _ _).alloc (Nat.le_refl _) _).alloc (by simp) _).alloc (by simp;omega) _)⟩
theorem level_less (w:World):Calls Tryz.prog 210 #[.string {data:=#[60]}] w fun e w'=>e=.returned (.int .i64 (zas {data:=#[60]}))∧Below w.heap.size w w':=by
 rw[levelV_less]
 go_enter Tryz.func210,Tryz.ntmps210
 go_wp2_with (go_at_call 246;refine(find_less _).mono ?_;rintro e w' ⟨rfl,rfl⟩)
 go_ret
 exact⟨rfl,((((Below.refl _ _).alloc (Nat.le_refl _) _).alloc (by simp) _).alloc (by simp;omega) _)⟩
theorem zdw (w:World):Calls Tryz.prog 210 #[.string {data:=#[60,61]}] w fun e w'=>e=.returned (.int .i64 (zas {data:=#[60,61]}))∧Below w.heap.size w w':=by
 rw[zeK]
 go_enter Tryz.func210,Tryz.ntmps210
 go_wp2_with (go_at_call 246;refine(zej _).mono ?_;rintro e w' ⟨rfl,rfl⟩)
 go_ret
 exact⟨rfl,((((Below.refl _ _).alloc (Nat.le_refl _) _).alloc (by simp) _).alloc (by simp;omega) _)⟩
theorem level_more (w:World):Calls Tryz.prog 210 #[.string {data:=#[62]}] w fun e w'=>e=.returned (.int .i64 (zas {data:=#[62]}))∧Below w.heap.size w w':=by
 rw[levelV_more]
 go_enter Tryz.func210,Tryz.ntmps210
 go_wp2_with (go_at_call 246;refine(find_more _).mono ?_;rintro e w' ⟨rfl,rfl⟩)
 go_ret
 exact⟨rfl,((((Below.refl _ _).alloc (Nat.le_refl _) _).alloc (by simp) _).alloc (by simp;omega) _)⟩
theorem zc7 (w:World):Calls Tryz.prog 210 #[.string {data:=#[62,61]}] w fun e w'=>e=.returned (.int .i64 (zas {data:=#[62,61]}))∧Below w.heap.size w w':=by
 rw[zea]
 go_enter Tryz.func210,Tryz.ntmps210
 go_wp2_with (go_at_call 246;refine(zdq _).mono ?_;rintro e w' ⟨rfl,rfl⟩)
 go_ret
 exact⟨rfl,((((Below.refl _ _).alloc (Nat.le_refl _) _).alloc (by simp) _).alloc (by simp;omega) _)⟩
theorem level_left (w:World):Calls Tryz.prog 210 #[.string {data:=#[60,60]}] w fun e w'=>e=.returned (.int .i64 (zas {data:=#[60,60]}))∧Below w.heap.size w w':=by
 rw[levelV_left]
 go_enter Tryz.func210,Tryz.ntmps210
 go_wp2_with (go_at_call 246;refine(zeL _).mono ?_;rintro e w' ⟨rfl,rfl⟩)
 go_ret
 exact⟨rfl,((((Below.refl _ _).alloc (Nat.le_refl _) _).alloc (by simp) _).alloc (by simp;omega) _)⟩
theorem zeo (w:World):Calls Tryz.prog 210 #[.string {data:=#[62,62]}] w fun e w'=>e=.returned (.int .i64 (zas {data:=#[62,62]}))∧Below w.heap.size w w':=by
 rw[levelV_right]
 go_enter Tryz.func210,Tryz.ntmps210
 go_wp2_with (go_at_call 246;refine(zdT _).mono ?_;rintro e w' ⟨rfl,rfl⟩)
 go_ret
 exact⟨rfl,((((Below.refl _ _).alloc (Nat.le_refl _) _).alloc (by simp) _).alloc (by simp;omega) _)⟩
theorem level_plus (w:World):Calls Tryz.prog 210 #[.string {data:=#[43]}] w fun e w'=>e=.returned (.int .i64 (zas {data:=#[43]}))∧Below w.heap.size w w':=by
 rw[levelV_plus]
 go_enter Tryz.func210,Tryz.ntmps210
 go_wp2_with (go_at_call 246;refine(find_plus _).mono ?_;rintro e w' ⟨rfl,rfl⟩)
 go_ret
 exact⟨rfl,((((Below.refl _ _).alloc (Nat.le_refl _) _).alloc (by simp) _).alloc (by simp;omega) _)⟩
theorem zep (w:World):Calls Tryz.prog 210 #[.string {data:=#[45]}] w fun e w'=>e=.returned (.int .i64 (zas {data:=#[45]}))∧Below w.heap.size w w':=by
 rw[levelV_minus]
 go_enter Tryz.func210,Tryz.ntmps210
 go_wp2_with (go_at_call 246;refine(find_minus _).mono ?_;rintro e w' ⟨rfl,rfl⟩)
 go_ret
 exact⟨rfl,((((Below.refl _ _).alloc (Nat.le_refl _) _).alloc (by simp) _).alloc (by simp;omega) _)⟩
theorem zeq (w:World):Calls Tryz.prog 210 #[.string {data:=#[42]}] w fun e w'=>e=.returned (.int .i64 (zas {data:=#[42]}))∧Below w.heap.size w w':=by
 rw[levelV_times]
 go_enter Tryz.func210,Tryz.ntmps210
 go_wp2_with (go_at_call 246;refine(find_times _).mono ?_;rintro e w' ⟨rfl,rfl⟩)
 go_ret
 exact⟨rfl,((((Below.refl _ _).alloc (Nat.le_refl _) _).alloc (by simp) _).alloc (by simp;omega) _)⟩
theorem zcH (w:World):Calls Tryz.prog 210 #[.string {data:=#[47]}] w fun e w'=>e=.returned (.int .i64 (zas {data:=#[47]}))∧Below w.heap.size w w':=by
 rw[zdo]
 go_enter Tryz.func210,Tryz.ntmps210
 go_wp2_with (go_at_call 246;refine(zb6 _).mono ?_;rintro e w' ⟨rfl,rfl⟩)
 go_ret
 exact⟨rfl,((((Below.refl _ _).alloc (Nat.le_refl _) _).alloc (by simp) _).alloc (by simp;omega) _)⟩
theorem level_rest (w:World):Calls Tryz.prog 210 #[.string {data:=#[37]}] w fun e w'=>e=.returned (.int .i64 (zas {data:=#[37]}))∧Below w.heap.size w w':=by
 rw[levelV_rest]
 go_enter Tryz.func210,Tryz.ntmps210
 go_wp2_with (go_at_call 246;refine(zeM _).mono ?_;rintro e w' ⟨rfl,rfl⟩)
 go_ret
 exact⟨rfl,((((Below.refl _ _).alloc (Nat.le_refl _) _).alloc (by simp) _).alloc (by simp;omega) _)⟩
theorem zcV (s:ByteArray) (w:World):Calls Tryz.prog 210 #[.string s] w fun e w'=>e=.returned (.int .i64 (zas s))∧Below w.heap.size w w':=by
 by_cases h0:s.data.toList=[124,124]
 ·obtain rfl:=zap h0
  exact zdt w
 by_cases h1:s.data.toList=[38,38]
 ·obtain rfl:=zap h1
  exact level_both w
 by_cases h2:s.data.toList=[124]
 ·obtain rfl:=zap h2
  exact zem w
 by_cases h3:s.data.toList=[94]
 ·obtain rfl:=zap h3
  exact zdu w
 by_cases h4:s.data.toList=[38]
 ·obtain rfl:=zap h4
  exact zdv w
 by_cases h5:s.data.toList=[61,61]
 ·obtain rfl:=zap h5
  exact zen w
 by_cases h6:s.data.toList=[33,61]
 ·obtain rfl:=zap h6
  exact zc6 w
 by_cases h7:s.data.toList=[60]
 ·obtain rfl:=zap h7
  exact level_less w
 by_cases h8:s.data.toList=[60,61]
 ·obtain rfl:=zap h8
  exact zdw w
 by_cases h9:s.data.toList=[62]
 ·obtain rfl:=zap h9
  exact level_more w
 by_cases h10:s.data.toList=[62,61]
 ·obtain rfl:=zap h10
  exact zc7 w
 by_cases h11:s.data.toList=[60,60]
 ·obtain rfl:=zap h11
  exact level_left w
 by_cases h12:s.data.toList=[62,62]
 ·obtain rfl:=zap h12
  exact zeo w
 by_cases h13:s.data.toList=[43]
 ·obtain rfl:=zap h13
  exact level_plus w
 by_cases h14:s.data.toList=[45]
 ·obtain rfl:=zap h14
  exact zep w
 by_cases h15:s.data.toList=[42]
 ·obtain rfl:=zap h15
  exact zeq w
 by_cases h16:s.data.toList=[47]
 ·obtain rfl:=zap h16
  exact zcH w
 by_cases h17:s.data.toList=[37]
 ·obtain rfl:=zap h17
  exact level_rest w
 exact level_none s w h0 h1 h2 h3 h4 h5 h6 h7 h8 h9 h10 h11 h12 h13 h14 h15 h16 h17
end Go.Proofs.YtbilfdapmbahgaaGreatDoor

namespace Go.Proofs.YtbilfdapmbahgaaGreatDoor
open Go.RowKit
theorem m_negative (a:Int) (_h:-9223372036854775808≤a∧a≤9223372036854775807) (w:World):Calls Tryz.prog 280 #[.int .i64 a] w fun e w'=>e=.returned (.int .i64 (wrap64 (-a)))∧w'=w:=by
 clear _h
 go_enter Tryz.func280,Tryz.ntmps280
 go_wp2_with (go_at_call 322;refine(zaw _ _).mono ?_;rintro e w' ⟨rfl,rfl⟩)
 go_ret
 exact⟨rfl,rfl⟩
theorem zcG (w:World):
  Calls Tryz.prog 245 #[.string {data:=#[45]}] w fun e w'=>e=.returned (.tuple #[.agg #[.func (.func 280) #[] #[]],.bool true])∧w'=w.alloc (.cells #[.func (.func 280) #[] #[]] 309):=by
 go_enter Tryz.func245,Tryz.ntmps245
 go_wp2
 exact bodyPost_ret (v:=.tuple #[.agg #[.func (.func 280) #[] #[]],.bool true]) (by simp[results,Tryz.results245,go_sem]) rfl ⟨rfl,rfl⟩
theorem zel (a:Int) (h:-9223372036854775808≤a∧a≤9223372036854775807) (w:World):
  Calls Tryz.prog 208 #[.string {data:=#[45]},.int .i64 a] w fun e w'=>e=.returned (.tuple #[.int .i64 (unV {data:=#[45]} a),.bool (unB {data:=#[45]})])∧Below w.heap.size w w':=by
 rw[show unV {data:=#[45]} a=wrap64 (-a) from rfl,show unB {data:=#[45]}=true from rfl]
 have hm:∀W,Calls Tryz.prog 280 #[.int .i64 a] W fun e w'=>e=.returned (.int .i64 (wrap64 (-a)))∧w'=W:=fun W=>m_negative a h W
 clear h
 go_enter Tryz.func208,Tryz.ntmps208
 go_wp2_with (first | (go_at_call 245;refine(zcG _).mono ?_;rintro e w' ⟨rfl,rfl⟩) | (go_at_call 280;refine(hm _).mono ?_;rintro e w' ⟨rfl,rfl⟩))
 go_ret2
 exact⟨rfl,(((Below.refl _ _).alloc (Nat.le_refl _) _).alloc (by simp) _)⟩
theorem m_turned (a:Int) (h:-9223372036854775808≤a∧a≤9223372036854775807) (w:World):Calls Tryz.prog 281 #[.int .i64 a] w fun e w'=>e=.returned (.int .i64 (-a - 1))∧w'=w:=by
 rw[←bits_not a h]
 go_enter Tryz.func281,Tryz.ntmps281
 go_wp2_with (go_at_call 322;refine(zaw _ _).mono ?_;rintro e w' ⟨rfl,rfl⟩)
 go_ret
 exact⟨rfl,rfl⟩
theorem zds (w:World):
  Calls Tryz.prog 245 #[.string {data:=#[126]}] w fun e w'=>e=.returned (.tuple #[.agg #[.func (.func 281) #[] #[]],.bool true])∧w'=w.alloc (.cells #[.func (.func 281) #[] #[]] 309):=by
 go_enter Tryz.func245,Tryz.ntmps245
 go_wp2
 exact bodyPost_ret (v:=.tuple #[.agg #[.func (.func 281) #[] #[]],.bool true]) (by simp[results,Tryz.results245,go_sem]) rfl ⟨rfl,rfl⟩
theorem un_turned (a:Int) (h:-9223372036854775808≤a∧a≤9223372036854775807) (w:World):
  Calls Tryz.prog 208 #[.string {data:=#[126]},.int .i64 a] w fun e w'=>e=.returned (.tuple #[.int .i64 (unV {data:=#[126]} a),.bool (unB {data:=#[126]})])∧Below w.heap.size w w':=by
 rw[show unV {data:=#[126]} a=-a - 1 from rfl,show unB {data:=#[126]}=true from rfl]
 have hm:∀W,Calls Tryz.prog 281 #[.int .i64 a] W fun e w'=>e=.returned (.int .i64 (-a - 1))∧w'=W:=fun W=>m_turned a h W
 clear h
 go_enter Tryz.func208,Tryz.ntmps208
 go_wp2_with (first | (go_at_call 245;refine(zds _).mono ?_;rintro e w' ⟨rfl,rfl⟩) | (go_at_call 281;refine(hm _).mono ?_;rintro e w' ⟨rfl,rfl⟩))
 go_ret2
 exact⟨rfl,(((Below.refl _ _).alloc (Nat.le_refl _) _).alloc (by simp) _)⟩
theorem m_not (a:Int) (_h:-9223372036854775808≤a∧a≤9223372036854775807) (w:World):Calls Tryz.prog 282 #[.int .i64 a] w fun e w'=>e=.returned (.int .i64 (bit (a==0)))∧w'=w:=by
 clear _h
 go_enter Tryz.func282,Tryz.ntmps282
 go_wp2_with (go_at_call 322;refine(zaw _ _).mono ?_;rintro e w' ⟨rfl,rfl⟩)
 go_ret
 exact⟨rfl,rfl⟩
theorem findU_not (w:World):
  Calls Tryz.prog 245 #[.string {data:=#[33]}] w fun e w'=>e=.returned (.tuple #[.agg #[.func (.func 282) #[] #[]],.bool true])∧w'=w.alloc (.cells #[.func (.func 282) #[] #[]] 309):=by
 go_enter Tryz.func245,Tryz.ntmps245
 go_wp2
 exact bodyPost_ret (v:=.tuple #[.agg #[.func (.func 282) #[] #[]],.bool true]) (by simp[results,Tryz.results245,go_sem]) rfl ⟨rfl,rfl⟩
theorem un_not (a:Int) (h:-9223372036854775808≤a∧a≤9223372036854775807) (w:World):
  Calls Tryz.prog 208 #[.string {data:=#[33]},.int .i64 a] w fun e w'=>e=.returned (.tuple #[.int .i64 (unV {data:=#[33]} a),.bool (unB {data:=#[33]})])∧Below w.heap.size w w':=by
 rw[show unV {data:=#[33]} a=bit (a==0) from rfl,show unB {data:=#[33]}=true from rfl]
 have hm:∀W,Calls Tryz.prog 282 #[.int .i64 a] W fun e w'=>e=.returned (.int .i64 (bit (a==0)))∧w'=W:=fun W=>m_not a h W
 clear h
 go_enter Tryz.func208,Tryz.ntmps208
 go_wp2_with (first | (go_at_call 245;refine(findU_not _).mono ?_;rintro e w' ⟨rfl,rfl⟩) | (go_at_call 282;refine(hm _).mono ?_;rintro e w' ⟨rfl,rfl⟩))
 go_ret2
 exact⟨rfl,(((Below.refl _ _).alloc (Nat.le_refl _) _).alloc (by simp) _)⟩
theorem un_none (s:ByteArray) (a:Int) (w:World)
  (h0:¬s.data.toList=[45])
  (h1:¬s.data.toList=[126])
  (h2:¬s.data.toList=[33])
  : Calls Tryz.prog 208 #[.string s,.int .i64 a] w fun e w'=>e=.returned (.tuple #[.int .i64 (unV s a),.bool (unB s)])∧Below w.heap.size w w':=by
 have hv:unV s a=0:=by unfold unV;simp only[if_neg h0,if_neg h1,if_neg h2]
 have ht:unB s=false:=by unfold unB;simp[h0,h1,h2]
 rw[hv,ht]
 have g0:=zal h0
 have g1:=zal h1
 have g2:=zal h2
 clear h0 h1 h2 hv ht
 have hf:∀W,Calls Tryz.prog 245 #[.string s] W fun e w'=>e=.returned (.tuple #[.agg #[.nilFunc],.bool false])∧w'=W.alloc (.cells #[.nilFunc] 309):=by
  intro W
  go_enter Tryz.func245,Tryz.ntmps245
  go_wp2
  exact bodyPost_ret (v:=.tuple #[.agg #[.nilFunc],.bool false]) (by simp[results,Tryz.results245,go_sem]) rfl ⟨rfl,rfl⟩
 go_enter Tryz.func208,Tryz.ntmps208
 go_wp2_with (go_at_call 245;refine(hf _).mono ?_;rintro e w' ⟨rfl,rfl⟩)
 go_ret2
 exact⟨rfl,(((Below.refl _ _).alloc (Nat.le_refl _) _).alloc (by simp) _)⟩
theorem un_any (s:ByteArray) (a:Int) (h:-9223372036854775808≤a∧a≤9223372036854775807) (w:World):
  Calls Tryz.prog 208 #[.string s,.int .i64 a] w fun e w'=>e=.returned (.tuple #[.int .i64 (unV s a),.bool (unB s)])∧Below w.heap.size w w':=by
 by_cases h0:s.data.toList=[45]
 ·obtain rfl:=zap h0
  exact zel a h w
 by_cases h1:s.data.toList=[126]
 ·obtain rfl:=zap h1
  exact un_turned a h w
 by_cases h2:s.data.toList=[33]
 ·obtain rfl:=zap h2
  exact un_not a h w
 exact un_none s a w h0 h1 h2
end Go.Proofs.YtbilfdapmbahgaaGreatDoor
