/- What word.find answers: for each of the eighteen texts its operation, for any other text none; the world is then as it was but for new blocks. -/
import Derived.Test.YtagnmppdhfmgdaaGreatDoorProg
import Derived.WalkKit
import Derived.PlainAid
import Derived.Laws.BitsAllLaws
import Derived.WalkSpells
import Derived.WalkLawsBesides
import Derived.Laws.EntriesVeiled
set_option linter.unusedSimpArgs false
set_option linter.unusedVariables false
set_option maxHeartbeats 8000000
set_option maxRecDepth 100000
namespace Go.Proofs.YtagnmppdhfmgdaaGreatDoor
open Go.RowKit
def bit (b:Bool):Int:=if b then 1 else 0
def zaq (s:ByteArray):Int:=
 if s.data.toList=[124,124] then 1 else
 if s.data.toList=[38,38] then 2 else
 if s.data.toList=[124] then 3 else
 if s.data.toList=[94] then 4 else
 if s.data.toList=[38] then 5 else
 if s.data.toList=[61,61] then 6 else
 if s.data.toList=[33,61] then 6 else
 if s.data.toList=[60] then 7 else
 if s.data.toList=[60,61] then 7 else
 if s.data.toList=[62] then 7 else
 if s.data.toList=[62,61] then 7 else
 if s.data.toList=[60,60] then 8 else
 if s.data.toList=[62,62] then 8 else
 if s.data.toList=[43] then 9 else
 if s.data.toList=[45] then 9 else
 if s.data.toList=[42] then 10 else
 if s.data.toList=[47] then 10 else
 if s.data.toList=[37] then 10 else
 0
def unV (s:ByteArray) (a:Int):Int:=
 if s.data.toList=[45] then wrap64 (-a) else
 if s.data.toList=[126] then -a - 1 else
 if s.data.toList=[33] then bit (a==0) else
 0
def unB (s:ByteArray):Bool:=s.data.toList==[45]||s.data.toList==[126]||s.data.toList==[33]
theorem zaW {s:ByteArray} {l:List UInt8} (h:s.data.toList=l):s={data:=l.toArray}:=by
 cases s with | mk d=>cases d with | mk l'=>simp at h;subst h;rfl
theorem zaP {s:ByteArray} {l:List UInt8} (h:¬s.data.toList=l):(s.toList==l)=false:=by
 rw[ByteArray.toList_eq];simpa using h
theorem levelV_either:zaq {data:=#[124,124]}=1:=rfl
theorem levelV_both:zaq {data:=#[38,38]}=2:=rfl
theorem levelV_bitOr:zaq {data:=#[124]}=3:=rfl
theorem levelV_bitXor:zaq {data:=#[94]}=4:=rfl
theorem levelV_bitAnd:zaq {data:=#[38]}=5:=rfl
theorem levelV_equal:zaq {data:=#[61,61]}=6:=rfl
theorem levelV_unequal:zaq {data:=#[33,61]}=6:=rfl
theorem levelV_less:zaq {data:=#[60]}=7:=rfl
theorem levelV_atMost:zaq {data:=#[60,61]}=7:=rfl
theorem levelV_more:zaq {data:=#[62]}=7:=rfl
theorem levelV_atLeast:zaq {data:=#[62,61]}=7:=rfl
theorem levelV_left:zaq {data:=#[60,60]}=8:=rfl
theorem levelV_right:zaq {data:=#[62,62]}=8:=rfl
theorem levelV_plus:zaq {data:=#[43]}=9:=rfl
theorem levelV_minus:zaq {data:=#[45]}=9:=rfl
theorem levelV_times:zaq {data:=#[42]}=10:=rfl
theorem levelV_quotient:zaq {data:=#[47]}=10:=rfl
theorem levelV_rest:zaq {data:=#[37]}=10:=rfl
end Go.Proofs.YtagnmppdhfmgdaaGreatDoor
namespace Go.Proofs.YtagnmppdhfmgdaaGreatDoor
open Go.RowKit
theorem i64_wrap (n:Int):IntKind.i64.wrap n=wrap64 n:=IntWalk.i64_left n
theorem ofInt_nat (x:Int):(BitVec.ofInt 64 x).toNat=(x % 18446744073709551616).toNat:=by
 rw[BitVec.toNat_ofInt];rfl
theorem bits_not (a:Int) (h:-9223372036854775808≤a∧a≤9223372036854775807):bits .xor .i64 (-1) a=-a - 1:=by
 show IntKind.i64.wrap ((BitVec.ofInt 64 (-1) ^^^ BitVec.ofInt 64 a).toNat:Int)=_
 have h1:BitVec.ofInt 64 (-1)=BitVec.allOnes 64:=by decide
 rw[h1,BitVec.allOnes_xor,BitVec.toNat_not,ofInt_nat,i64_wrap]
 unfold wrap64
 omega
end Go.Proofs.YtagnmppdhfmgdaaGreatDoor

namespace Go.Proofs.YtagnmppdhfmgdaaGreatDoor
open Go.RowKit
abbrev zbb (l:Int) (t m:Nat):Value:=.agg #[.int .i64 l,.func (.func t) #[] #[],.func (.func m) #[] #[]]
abbrev zbd (l:Int) (t m:Nat):Obj:=.cells #[.int .i64 l,.func (.func t) #[] #[],.func (.func m) #[] #[]] 209
theorem za2 (l:Int) (m:Nat) (w:World):
  Calls Tryz.prog 160 #[.int .i64 l,.func (.func m) #[] #[]] w fun e w'=>e=.returned (zbb l 186 m)∧w'=w.alloc (zbd l 186 m):=by
 go_enter Tryz.func160,Tryz.ntmps160
 go_wp2
 exact bodyPost_ret (v:=zbb l 186 m) (by simp[results,Tryz.results160,go_sem]) rfl ⟨rfl,rfl⟩
theorem shift_any (l:Int) (m:Nat) (w:World):
  Calls Tryz.prog 172 #[.int .i64 l,.func (.func m) #[] #[]] w fun e w'=>e=.returned (zbb l 188 m)∧w'=w.alloc (zbd l 188 m):=by
 go_enter Tryz.func172,Tryz.ntmps172
 go_wp2
 exact bodyPost_ret (v:=zbb l 188 m) (by simp[results,Tryz.results172,go_sem]) rfl ⟨rfl,rfl⟩
theorem division_any (l:Int) (m:Nat) (w:World):
  Calls Tryz.prog 178 #[.int .i64 l,.func (.func m) #[] #[]] w fun e w'=>e=.returned (zbb l 189 m)∧w'=w.alloc (zbd l 189 m):=by
 go_enter Tryz.func178,Tryz.ntmps178
 go_wp2
 exact bodyPost_ret (v:=zbb l 189 m) (by simp[results,Tryz.results178,go_sem]) rfl ⟨rfl,rfl⟩
theorem find_either (w:World):
  Calls Tryz.prog 157 #[.string {data:=#[124,124]}] w fun e w'=>e=.returned (.tuple #[zbb 1 186 161,.bool true])∧w'=(w.alloc (zbd 1 186 161)).alloc (zbd 1 186 161):=by
 go_enter Tryz.func157,Tryz.ntmps157
 go_wp2_with (go_at_call 160;refine(za2 _ _ _).mono ?_;rintro e w' ⟨rfl,rfl⟩)
 exact bodyPost_ret (v:=.tuple #[zbb 1 186 161,.bool true]) (by simp[results,Tryz.results157,go_sem]) rfl ⟨rfl,rfl⟩
theorem find_both (w:World):
  Calls Tryz.prog 157 #[.string {data:=#[38,38]}] w fun e w'=>e=.returned (.tuple #[zbb 2 186 162,.bool true])∧w'=(w.alloc (zbd 2 186 162)).alloc (zbd 2 186 162):=by
 go_enter Tryz.func157,Tryz.ntmps157
 go_wp2_with (go_at_call 160;refine(za2 _ _ _).mono ?_;rintro e w' ⟨rfl,rfl⟩)
 exact bodyPost_ret (v:=.tuple #[zbb 2 186 162,.bool true]) (by simp[results,Tryz.results157,go_sem]) rfl ⟨rfl,rfl⟩
theorem find_bitOr (w:World):
  Calls Tryz.prog 157 #[.string {data:=#[124]}] w fun e w'=>e=.returned (.tuple #[zbb 3 186 163,.bool true])∧w'=(w.alloc (zbd 3 186 163)).alloc (zbd 3 186 163):=by
 go_enter Tryz.func157,Tryz.ntmps157
 go_wp2_with (go_at_call 160;refine(za2 _ _ _).mono ?_;rintro e w' ⟨rfl,rfl⟩)
 exact bodyPost_ret (v:=.tuple #[zbb 3 186 163,.bool true]) (by simp[results,Tryz.results157,go_sem]) rfl ⟨rfl,rfl⟩
theorem find_bitXor (w:World):
  Calls Tryz.prog 157 #[.string {data:=#[94]}] w fun e w'=>e=.returned (.tuple #[zbb 4 186 164,.bool true])∧w'=(w.alloc (zbd 4 186 164)).alloc (zbd 4 186 164):=by
 go_enter Tryz.func157,Tryz.ntmps157
 go_wp2_with (go_at_call 160;refine(za2 _ _ _).mono ?_;rintro e w' ⟨rfl,rfl⟩)
 exact bodyPost_ret (v:=.tuple #[zbb 4 186 164,.bool true]) (by simp[results,Tryz.results157,go_sem]) rfl ⟨rfl,rfl⟩
theorem find_bitAnd (w:World):
  Calls Tryz.prog 157 #[.string {data:=#[38]}] w fun e w'=>e=.returned (.tuple #[zbb 5 186 165,.bool true])∧w'=(w.alloc (zbd 5 186 165)).alloc (zbd 5 186 165):=by
 go_enter Tryz.func157,Tryz.ntmps157
 go_wp2_with (go_at_call 160;refine(za2 _ _ _).mono ?_;rintro e w' ⟨rfl,rfl⟩)
 exact bodyPost_ret (v:=.tuple #[zbb 5 186 165,.bool true]) (by simp[results,Tryz.results157,go_sem]) rfl ⟨rfl,rfl⟩
theorem find_equal (w:World):
  Calls Tryz.prog 157 #[.string {data:=#[61,61]}] w fun e w'=>e=.returned (.tuple #[zbb 6 186 166,.bool true])∧w'=(w.alloc (zbd 6 186 166)).alloc (zbd 6 186 166):=by
 go_enter Tryz.func157,Tryz.ntmps157
 go_wp2_with (go_at_call 160;refine(za2 _ _ _).mono ?_;rintro e w' ⟨rfl,rfl⟩)
 exact bodyPost_ret (v:=.tuple #[zbb 6 186 166,.bool true]) (by simp[results,Tryz.results157,go_sem]) rfl ⟨rfl,rfl⟩
theorem find_unequal (w:World):
  Calls Tryz.prog 157 #[.string {data:=#[33,61]}] w fun e w'=>e=.returned (.tuple #[zbb 6 186 167,.bool true])∧w'=(w.alloc (zbd 6 186 167)).alloc (zbd 6 186 167):=by
 go_enter Tryz.func157,Tryz.ntmps157
 go_wp2_with (go_at_call 160;refine(za2 _ _ _).mono ?_;rintro e w' ⟨rfl,rfl⟩)
 exact bodyPost_ret (v:=.tuple #[zbb 6 186 167,.bool true]) (by simp[results,Tryz.results157,go_sem]) rfl ⟨rfl,rfl⟩
theorem find_less (w:World):
  Calls Tryz.prog 157 #[.string {data:=#[60]}] w fun e w'=>e=.returned (.tuple #[zbb 7 186 168,.bool true])∧w'=(w.alloc (zbd 7 186 168)).alloc (zbd 7 186 168):=by
 go_enter Tryz.func157,Tryz.ntmps157
 go_wp2_with (go_at_call 160;refine(za2 _ _ _).mono ?_;rintro e w' ⟨rfl,rfl⟩)
 exact bodyPost_ret (v:=.tuple #[zbb 7 186 168,.bool true]) (by simp[results,Tryz.results157,go_sem]) rfl ⟨rfl,rfl⟩
theorem find_atMost (w:World):
  Calls Tryz.prog 157 #[.string {data:=#[60,61]}] w fun e w'=>e=.returned (.tuple #[zbb 7 186 169,.bool true])∧w'=(w.alloc (zbd 7 186 169)).alloc (zbd 7 186 169):=by
 go_enter Tryz.func157,Tryz.ntmps157
 go_wp2_with (go_at_call 160;refine(za2 _ _ _).mono ?_;rintro e w' ⟨rfl,rfl⟩)
 exact bodyPost_ret (v:=.tuple #[zbb 7 186 169,.bool true]) (by simp[results,Tryz.results157,go_sem]) rfl ⟨rfl,rfl⟩
theorem find_more (w:World):
  Calls Tryz.prog 157 #[.string {data:=#[62]}] w fun e w'=>e=.returned (.tuple #[zbb 7 186 170,.bool true])∧w'=(w.alloc (zbd 7 186 170)).alloc (zbd 7 186 170):=by
 go_enter Tryz.func157,Tryz.ntmps157
 go_wp2_with (go_at_call 160;refine(za2 _ _ _).mono ?_;rintro e w' ⟨rfl,rfl⟩)
 exact bodyPost_ret (v:=.tuple #[zbb 7 186 170,.bool true]) (by simp[results,Tryz.results157,go_sem]) rfl ⟨rfl,rfl⟩
theorem find_atLeast (w:World):
  Calls Tryz.prog 157 #[.string {data:=#[62,61]}] w fun e w'=>e=.returned (.tuple #[zbb 7 186 171,.bool true])∧w'=(w.alloc (zbd 7 186 171)).alloc (zbd 7 186 171):=by
 go_enter Tryz.func157,Tryz.ntmps157
 go_wp2_with (go_at_call 160;refine(za2 _ _ _).mono ?_;rintro e w' ⟨rfl,rfl⟩)
 exact bodyPost_ret (v:=.tuple #[zbb 7 186 171,.bool true]) (by simp[results,Tryz.results157,go_sem]) rfl ⟨rfl,rfl⟩
theorem find_left (w:World):
  Calls Tryz.prog 157 #[.string {data:=#[60,60]}] w fun e w'=>e=.returned (.tuple #[zbb 8 188 173,.bool true])∧w'=(w.alloc (zbd 8 188 173)).alloc (zbd 8 188 173):=by
 go_enter Tryz.func157,Tryz.ntmps157
 go_wp2_with (go_at_call 172;refine(shift_any _ _ _).mono ?_;rintro e w' ⟨rfl,rfl⟩)
 exact bodyPost_ret (v:=.tuple #[zbb 8 188 173,.bool true]) (by simp[results,Tryz.results157,go_sem]) rfl ⟨rfl,rfl⟩
theorem find_right (w:World):
  Calls Tryz.prog 157 #[.string {data:=#[62,62]}] w fun e w'=>e=.returned (.tuple #[zbb 8 188 174,.bool true])∧w'=(w.alloc (zbd 8 188 174)).alloc (zbd 8 188 174):=by
 go_enter Tryz.func157,Tryz.ntmps157
 go_wp2_with (go_at_call 172;refine(shift_any _ _ _).mono ?_;rintro e w' ⟨rfl,rfl⟩)
 exact bodyPost_ret (v:=.tuple #[zbb 8 188 174,.bool true]) (by simp[results,Tryz.results157,go_sem]) rfl ⟨rfl,rfl⟩
theorem find_plus (w:World):
  Calls Tryz.prog 157 #[.string {data:=#[43]}] w fun e w'=>e=.returned (.tuple #[zbb 9 186 175,.bool true])∧w'=(w.alloc (zbd 9 186 175)).alloc (zbd 9 186 175):=by
 go_enter Tryz.func157,Tryz.ntmps157
 go_wp2_with (go_at_call 160;refine(za2 _ _ _).mono ?_;rintro e w' ⟨rfl,rfl⟩)
 exact bodyPost_ret (v:=.tuple #[zbb 9 186 175,.bool true]) (by simp[results,Tryz.results157,go_sem]) rfl ⟨rfl,rfl⟩
theorem find_minus (w:World):
  Calls Tryz.prog 157 #[.string {data:=#[45]}] w fun e w'=>e=.returned (.tuple #[zbb 9 186 176,.bool true])∧w'=(w.alloc (zbd 9 186 176)).alloc (zbd 9 186 176):=by
 go_enter Tryz.func157,Tryz.ntmps157
 go_wp2_with (go_at_call 160;refine(za2 _ _ _).mono ?_;rintro e w' ⟨rfl,rfl⟩)
 exact bodyPost_ret (v:=.tuple #[zbb 9 186 176,.bool true]) (by simp[results,Tryz.results157,go_sem]) rfl ⟨rfl,rfl⟩
theorem find_times (w:World):
  Calls Tryz.prog 157 #[.string {data:=#[42]}] w fun e w'=>e=.returned (.tuple #[zbb 10 186 177,.bool true])∧w'=(w.alloc (zbd 10 186 177)).alloc (zbd 10 186 177):=by
 go_enter Tryz.func157,Tryz.ntmps157
 go_wp2_with (go_at_call 160;refine(za2 _ _ _).mono ?_;rintro e w' ⟨rfl,rfl⟩)
 exact bodyPost_ret (v:=.tuple #[zbb 10 186 177,.bool true]) (by simp[results,Tryz.results157,go_sem]) rfl ⟨rfl,rfl⟩
theorem find_quotient (w:World):
  Calls Tryz.prog 157 #[.string {data:=#[47]}] w fun e w'=>e=.returned (.tuple #[zbb 10 189 179,.bool true])∧w'=(w.alloc (zbd 10 189 179)).alloc (zbd 10 189 179):=by
 go_enter Tryz.func157,Tryz.ntmps157
 go_wp2_with (go_at_call 178;refine(division_any _ _ _).mono ?_;rintro e w' ⟨rfl,rfl⟩)
 exact bodyPost_ret (v:=.tuple #[zbb 10 189 179,.bool true]) (by simp[results,Tryz.results157,go_sem]) rfl ⟨rfl,rfl⟩
theorem find_rest (w:World):
  Calls Tryz.prog 157 #[.string {data:=#[37]}] w fun e w'=>e=.returned (.tuple #[zbb 10 189 180,.bool true])∧w'=(w.alloc (zbd 10 189 180)).alloc (zbd 10 189 180):=by
 go_enter Tryz.func157,Tryz.ntmps157
 go_wp2_with (go_at_call 178;refine(division_any _ _ _).mono ?_;rintro e w' ⟨rfl,rfl⟩)
 exact bodyPost_ret (v:=.tuple #[zbb 10 189 180,.bool true]) (by simp[results,Tryz.results157,go_sem]) rfl ⟨rfl,rfl⟩
end Go.Proofs.YtagnmppdhfmgdaaGreatDoor
