/- What word.find answers: for each of the eighteen texts its operation, for any other text none; the world is then as it was but for new blocks. -/
import Derived.Test.YtljbbhhiiiepcaaGreatDoorProg
import Derived.WalkKit
import Derived.PlainAid
import Derived.Laws.BitsAllLaws
import Derived.WalkSpells
import Derived.WalkLawsBesides
import Derived.Laws.EntriesVeiled
set_option linter.unusedSimpArgs false
set_option linter.unusedVariables false
set_option maxHeartbeats 8000000
set_option maxRecDepth 100000
namespace Go.Proofs.YtljbbhhiiiepcaaGreatDoor
open Go.RowKit
def bit (b:Bool):Int:=if b then 1 else 0
def zar (s:ByteArray):Int:=
 if s.data.toList=[124,124] then 1 else
 if s.data.toList=[38,38] then 2 else
 if s.data.toList=[124] then 3 else
 if s.data.toList=[94] then 4 else
 if s.data.toList=[38] then 5 else
 if s.data.toList=[61,61] then 6 else
 if s.data.toList=[33,61] then 6 else
 if s.data.toList=[60] then 7 else
 if s.data.toList=[60,61] then 7 else
 if s.data.toList=[62] then 7 else
 if s.data.toList=[62,61] then 7 else
 if s.data.toList=[60,60] then 8 else
 if s.data.toList=[62,62] then 8 else
 if s.data.toList=[43] then 9 else
 if s.data.toList=[45] then 9 else
 if s.data.toList=[42] then 10 else
 if s.data.toList=[47] then 10 else
 if s.data.toList=[37] then 10 else
 0
def unV (s:ByteArray) (a:Int):Int:=
 if s.data.toList=[45] then wrap64 (-a) else
 if s.data.toList=[126] then -a - 1 else
 if s.data.toList=[33] then bit (a==0) else
 0
def unB (s:ByteArray):Bool:=s.data.toList==[45]||s.data.toList==[126]||s.data.toList==[33]
theorem zaY {s:ByteArray} {l:List UInt8} (h:s.data.toList=l):s={data:=l.toArray}:=by
 cases s with | mk d=>cases d with | mk l'=>simp at h;subst h;rfl
theorem zaT {s:ByteArray} {l:List UInt8} (h:¬s.data.toList=l):(s.toList==l)=false:=by
 rw[ByteArray.toList_eq];simpa using h
theorem levelV_either:zar {data:=#[124,124]}=1:=rfl
theorem levelV_both:zar {data:=#[38,38]}=2:=rfl
theorem levelV_bitOr:zar {data:=#[124]}=3:=rfl
theorem levelV_bitXor:zar {data:=#[94]}=4:=rfl
theorem levelV_bitAnd:zar {data:=#[38]}=5:=rfl
theorem levelV_equal:zar {data:=#[61,61]}=6:=rfl
theorem levelV_unequal:zar {data:=#[33,61]}=6:=rfl
theorem levelV_less:zar {data:=#[60]}=7:=rfl
theorem levelV_atMost:zar {data:=#[60,61]}=7:=rfl
theorem levelV_more:zar {data:=#[62]}=7:=rfl
theorem levelV_atLeast:zar {data:=#[62,61]}=7:=rfl
theorem levelV_left:zar {data:=#[60,60]}=8:=rfl
theorem levelV_right:zar {data:=#[62,62]}=8:=rfl
theorem levelV_plus:zar {data:=#[43]}=9:=rfl
theorem levelV_minus:zar {data:=#[45]}=9:=rfl
theorem levelV_times:zar {data:=#[42]}=10:=rfl
theorem levelV_quotient:zar {data:=#[47]}=10:=rfl
theorem levelV_rest:zar {data:=#[37]}=10:=rfl
end Go.Proofs.YtljbbhhiiiepcaaGreatDoor
namespace Go.Proofs.YtljbbhhiiiepcaaGreatDoor
open Go.RowKit
theorem i64_wrap (n:Int):IntKind.i64.wrap n=wrap64 n:=IntWalk.i64_left n
theorem ofInt_nat (x:Int):(BitVec.ofInt 64 x).toNat=(x % 18446744073709551616).toNat:=by
 rw[BitVec.toNat_ofInt];rfl
theorem bits_not (a:Int) (h:-9223372036854775808≤a∧a≤9223372036854775807):bits .xor .i64 (-1) a=-a - 1:=by
 show IntKind.i64.wrap ((BitVec.ofInt 64 (-1) ^^^ BitVec.ofInt 64 a).toNat:Int)=_
 have h1:BitVec.ofInt 64 (-1)=BitVec.allOnes 64:=by decide
 rw[h1,BitVec.allOnes_xor,BitVec.toNat_not,ofInt_nat,i64_wrap]
 unfold wrap64
 omega
end Go.Proofs.YtljbbhhiiiepcaaGreatDoor

namespace Go.Proofs.YtljbbhhiiiepcaaGreatDoor
open Go.RowKit
abbrev zbe (l:Int) (t m:Nat):Value:=.agg #[.int .i64 l,.func (.func t) #[] #[],.func (.func m) #[] #[]]
abbrev zbh (l:Int) (t m:Nat):Obj:=.cells #[.int .i64 l,.func (.func t) #[] #[],.func (.func m) #[] #[]] 253
theorem za5 (l:Int) (m:Nat) (w:World):
  Calls Tryz.prog 238 #[.int .i64 l,.func (.func m) #[] #[]] w fun e w'=>e=.returned (zbe l 273 m)∧w'=w.alloc (zbh l 273 m):=by
 go_enter Tryz.func238,Tryz.ntmps238
 go_wp2
 exact bodyPost_ret (v:=zbe l 273 m) (by simp[results,Tryz.results238,go_sem]) rfl ⟨rfl,rfl⟩
theorem shift_any (l:Int) (m:Nat) (w:World):
  Calls Tryz.prog 250 #[.int .i64 l,.func (.func m) #[] #[]] w fun e w'=>e=.returned (zbe l 274 m)∧w'=w.alloc (zbh l 274 m):=by
 go_enter Tryz.func250,Tryz.ntmps250
 go_wp2
 exact bodyPost_ret (v:=zbe l 274 m) (by simp[results,Tryz.results250,go_sem]) rfl ⟨rfl,rfl⟩
theorem division_any (l:Int) (m:Nat) (w:World):
  Calls Tryz.prog 256 #[.int .i64 l,.func (.func m) #[] #[]] w fun e w'=>e=.returned (zbe l 275 m)∧w'=w.alloc (zbh l 275 m):=by
 go_enter Tryz.func256,Tryz.ntmps256
 go_wp2
 exact bodyPost_ret (v:=zbe l 275 m) (by simp[results,Tryz.results256,go_sem]) rfl ⟨rfl,rfl⟩
theorem find_either (w:World):
  Calls Tryz.prog 221 #[.string {data:=#[124,124]}] w fun e w'=>e=.returned (.tuple #[zbe 1 273 239,.bool true])∧w'=(w.alloc (zbh 1 273 239)).alloc (zbh 1 273 239):=by
 go_enter Tryz.func221,Tryz.ntmps221
 go_wp2_with (go_at_call 238;refine(za5 _ _ _).mono ?_;rintro e w' ⟨rfl,rfl⟩)
 exact bodyPost_ret (v:=.tuple #[zbe 1 273 239,.bool true]) (by simp[results,Tryz.results221,go_sem]) rfl ⟨rfl,rfl⟩
theorem find_both (w:World):
  Calls Tryz.prog 221 #[.string {data:=#[38,38]}] w fun e w'=>e=.returned (.tuple #[zbe 2 273 240,.bool true])∧w'=(w.alloc (zbh 2 273 240)).alloc (zbh 2 273 240):=by
 go_enter Tryz.func221,Tryz.ntmps221
 go_wp2_with (go_at_call 238;refine(za5 _ _ _).mono ?_;rintro e w' ⟨rfl,rfl⟩)
 exact bodyPost_ret (v:=.tuple #[zbe 2 273 240,.bool true]) (by simp[results,Tryz.results221,go_sem]) rfl ⟨rfl,rfl⟩
theorem find_bitOr (w:World):
  Calls Tryz.prog 221 #[.string {data:=#[124]}] w fun e w'=>e=.returned (.tuple #[zbe 3 273 241,.bool true])∧w'=(w.alloc (zbh 3 273 241)).alloc (zbh 3 273 241):=by
 go_enter Tryz.func221,Tryz.ntmps221
 go_wp2_with (go_at_call 238;refine(za5 _ _ _).mono ?_;rintro e w' ⟨rfl,rfl⟩)
 exact bodyPost_ret (v:=.tuple #[zbe 3 273 241,.bool true]) (by simp[results,Tryz.results221,go_sem]) rfl ⟨rfl,rfl⟩
theorem find_bitXor (w:World):
  Calls Tryz.prog 221 #[.string {data:=#[94]}] w fun e w'=>e=.returned (.tuple #[zbe 4 273 242,.bool true])∧w'=(w.alloc (zbh 4 273 242)).alloc (zbh 4 273 242):=by
 go_enter Tryz.func221,Tryz.ntmps221
 go_wp2_with (go_at_call 238;refine(za5 _ _ _).mono ?_;rintro e w' ⟨rfl,rfl⟩)
 exact bodyPost_ret (v:=.tuple #[zbe 4 273 242,.bool true]) (by simp[results,Tryz.results221,go_sem]) rfl ⟨rfl,rfl⟩
theorem find_bitAnd (w:World):
  Calls Tryz.prog 221 #[.string {data:=#[38]}] w fun e w'=>e=.returned (.tuple #[zbe 5 273 243,.bool true])∧w'=(w.alloc (zbh 5 273 243)).alloc (zbh 5 273 243):=by
 go_enter Tryz.func221,Tryz.ntmps221
 go_wp2_with (go_at_call 238;refine(za5 _ _ _).mono ?_;rintro e w' ⟨rfl,rfl⟩)
 exact bodyPost_ret (v:=.tuple #[zbe 5 273 243,.bool true]) (by simp[results,Tryz.results221,go_sem]) rfl ⟨rfl,rfl⟩
theorem find_equal (w:World):
  Calls Tryz.prog 221 #[.string {data:=#[61,61]}] w fun e w'=>e=.returned (.tuple #[zbe 6 273 244,.bool true])∧w'=(w.alloc (zbh 6 273 244)).alloc (zbh 6 273 244):=by
 go_enter Tryz.func221,Tryz.ntmps221
 go_wp2_with (go_at_call 238;refine(za5 _ _ _).mono ?_;rintro e w' ⟨rfl,rfl⟩)
 exact bodyPost_ret (v:=.tuple #[zbe 6 273 244,.bool true]) (by simp[results,Tryz.results221,go_sem]) rfl ⟨rfl,rfl⟩
theorem find_unequal (w:World):
  Calls Tryz.prog 221 #[.string {data:=#[33,61]}] w fun e w'=>e=.returned (.tuple #[zbe 6 273 245,.bool true])∧w'=(w.alloc (zbh 6 273 245)).alloc (zbh 6 273 245):=by
 go_enter Tryz.func221,Tryz.ntmps221
 go_wp2_with (go_at_call 238;refine(za5 _ _ _).mono ?_;rintro e w' ⟨rfl,rfl⟩)
 exact bodyPost_ret (v:=.tuple #[zbe 6 273 245,.bool true]) (by simp[results,Tryz.results221,go_sem]) rfl ⟨rfl,rfl⟩
theorem find_less (w:World):
  Calls Tryz.prog 221 #[.string {data:=#[60]}] w fun e w'=>e=.returned (.tuple #[zbe 7 273 246,.bool true])∧w'=(w.alloc (zbh 7 273 246)).alloc (zbh 7 273 246):=by
 go_enter Tryz.func221,Tryz.ntmps221
 go_wp2_with (go_at_call 238;refine(za5 _ _ _).mono ?_;rintro e w' ⟨rfl,rfl⟩)
 exact bodyPost_ret (v:=.tuple #[zbe 7 273 246,.bool true]) (by simp[results,Tryz.results221,go_sem]) rfl ⟨rfl,rfl⟩
theorem find_atMost (w:World):
  Calls Tryz.prog 221 #[.string {data:=#[60,61]}] w fun e w'=>e=.returned (.tuple #[zbe 7 273 247,.bool true])∧w'=(w.alloc (zbh 7 273 247)).alloc (zbh 7 273 247):=by
 go_enter Tryz.func221,Tryz.ntmps221
 go_wp2_with (go_at_call 238;refine(za5 _ _ _).mono ?_;rintro e w' ⟨rfl,rfl⟩)
 exact bodyPost_ret (v:=.tuple #[zbe 7 273 247,.bool true]) (by simp[results,Tryz.results221,go_sem]) rfl ⟨rfl,rfl⟩
theorem find_more (w:World):
  Calls Tryz.prog 221 #[.string {data:=#[62]}] w fun e w'=>e=.returned (.tuple #[zbe 7 273 248,.bool true])∧w'=(w.alloc (zbh 7 273 248)).alloc (zbh 7 273 248):=by
 go_enter Tryz.func221,Tryz.ntmps221
 go_wp2_with (go_at_call 238;refine(za5 _ _ _).mono ?_;rintro e w' ⟨rfl,rfl⟩)
 exact bodyPost_ret (v:=.tuple #[zbe 7 273 248,.bool true]) (by simp[results,Tryz.results221,go_sem]) rfl ⟨rfl,rfl⟩
theorem find_atLeast (w:World):
  Calls Tryz.prog 221 #[.string {data:=#[62,61]}] w fun e w'=>e=.returned (.tuple #[zbe 7 273 249,.bool true])∧w'=(w.alloc (zbh 7 273 249)).alloc (zbh 7 273 249):=by
 go_enter Tryz.func221,Tryz.ntmps221
 go_wp2_with (go_at_call 238;refine(za5 _ _ _).mono ?_;rintro e w' ⟨rfl,rfl⟩)
 exact bodyPost_ret (v:=.tuple #[zbe 7 273 249,.bool true]) (by simp[results,Tryz.results221,go_sem]) rfl ⟨rfl,rfl⟩
theorem find_left (w:World):
  Calls Tryz.prog 221 #[.string {data:=#[60,60]}] w fun e w'=>e=.returned (.tuple #[zbe 8 274 251,.bool true])∧w'=(w.alloc (zbh 8 274 251)).alloc (zbh 8 274 251):=by
 go_enter Tryz.func221,Tryz.ntmps221
 go_wp2_with (go_at_call 250;refine(shift_any _ _ _).mono ?_;rintro e w' ⟨rfl,rfl⟩)
 exact bodyPost_ret (v:=.tuple #[zbe 8 274 251,.bool true]) (by simp[results,Tryz.results221,go_sem]) rfl ⟨rfl,rfl⟩
theorem find_right (w:World):
  Calls Tryz.prog 221 #[.string {data:=#[62,62]}] w fun e w'=>e=.returned (.tuple #[zbe 8 274 252,.bool true])∧w'=(w.alloc (zbh 8 274 252)).alloc (zbh 8 274 252):=by
 go_enter Tryz.func221,Tryz.ntmps221
 go_wp2_with (go_at_call 250;refine(shift_any _ _ _).mono ?_;rintro e w' ⟨rfl,rfl⟩)
 exact bodyPost_ret (v:=.tuple #[zbe 8 274 252,.bool true]) (by simp[results,Tryz.results221,go_sem]) rfl ⟨rfl,rfl⟩
theorem find_plus (w:World):
  Calls Tryz.prog 221 #[.string {data:=#[43]}] w fun e w'=>e=.returned (.tuple #[zbe 9 273 253,.bool true])∧w'=(w.alloc (zbh 9 273 253)).alloc (zbh 9 273 253):=by
 go_enter Tryz.func221,Tryz.ntmps221
 go_wp2_with (go_at_call 238;refine(za5 _ _ _).mono ?_;rintro e w' ⟨rfl,rfl⟩)
 exact bodyPost_ret (v:=.tuple #[zbe 9 273 253,.bool true]) (by simp[results,Tryz.results221,go_sem]) rfl ⟨rfl,rfl⟩
theorem find_minus (w:World):
  Calls Tryz.prog 221 #[.string {data:=#[45]}] w fun e w'=>e=.returned (.tuple #[zbe 9 273 254,.bool true])∧w'=(w.alloc (zbh 9 273 254)).alloc (zbh 9 273 254):=by
 go_enter Tryz.func221,Tryz.ntmps221
 go_wp2_with (go_at_call 238;refine(za5 _ _ _).mono ?_;rintro e w' ⟨rfl,rfl⟩)
 exact bodyPost_ret (v:=.tuple #[zbe 9 273 254,.bool true]) (by simp[results,Tryz.results221,go_sem]) rfl ⟨rfl,rfl⟩
theorem find_times (w:World):
  Calls Tryz.prog 221 #[.string {data:=#[42]}] w fun e w'=>e=.returned (.tuple #[zbe 10 273 255,.bool true])∧w'=(w.alloc (zbh 10 273 255)).alloc (zbh 10 273 255):=by
 go_enter Tryz.func221,Tryz.ntmps221
 go_wp2_with (go_at_call 238;refine(za5 _ _ _).mono ?_;rintro e w' ⟨rfl,rfl⟩)
 exact bodyPost_ret (v:=.tuple #[zbe 10 273 255,.bool true]) (by simp[results,Tryz.results221,go_sem]) rfl ⟨rfl,rfl⟩
theorem find_quotient (w:World):
  Calls Tryz.prog 221 #[.string {data:=#[47]}] w fun e w'=>e=.returned (.tuple #[zbe 10 275 257,.bool true])∧w'=(w.alloc (zbh 10 275 257)).alloc (zbh 10 275 257):=by
 go_enter Tryz.func221,Tryz.ntmps221
 go_wp2_with (go_at_call 256;refine(division_any _ _ _).mono ?_;rintro e w' ⟨rfl,rfl⟩)
 exact bodyPost_ret (v:=.tuple #[zbe 10 275 257,.bool true]) (by simp[results,Tryz.results221,go_sem]) rfl ⟨rfl,rfl⟩
theorem find_rest (w:World):
  Calls Tryz.prog 221 #[.string {data:=#[37]}] w fun e w'=>e=.returned (.tuple #[zbe 10 275 258,.bool true])∧w'=(w.alloc (zbh 10 275 258)).alloc (zbh 10 275 258):=by
 go_enter Tryz.func221,Tryz.ntmps221
 go_wp2_with (go_at_call 256;refine(division_any _ _ _).mono ?_;rintro e w' ⟨rfl,rfl⟩)
 exact bodyPost_ret (v:=.tuple #[zbe 10 275 258,.bool true]) (by simp[results,Tryz.results221,go_sem]) rfl ⟨rfl,rfl⟩
end Go.Proofs.YtljbbhhiiiepcaaGreatDoor
