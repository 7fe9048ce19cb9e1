/- What word.find answers: for each of the eighteen texts its operation, for any other text none; the world is then as it was but for new blocks. -/
import Derived.Test.YtbilfdapmbahgaaGreatDoorProg
import Derived.WalkKit
import Derived.PlainAid
import Derived.Laws.BitsAllLaws
import Derived.WalkSpells
import Derived.WalkLawsBesides
import Derived.Laws.EntriesVeiled
set_option linter.unusedSimpArgs false
set_option linter.unusedVariables false
set_option maxHeartbeats 8000000
set_option maxRecDepth 100000
namespace Go.Proofs.YtbilfdapmbahgaaGreatDoor
open Go.RowKit
def bit (b:Bool):Int:=if b then 1 else 0
def binV (s:ByteArray) (a b:Int):Int:=
 if s.data.toList=[124,124] then bit (a != 0||b != 0) else
 if s.data.toList=[38,38] then bit (a != 0&&b != 0) else
 if s.data.toList=[124] then bits .or .i64 a b else
 if s.data.toList=[94] then bits .xor .i64 a b else
 if s.data.toList=[38] then bits .and .i64 a b else
 if s.data.toList=[61,61] then bit (a==b) else
 if s.data.toList=[33,61] then bit (a != b) else
 if s.data.toList=[60] then bit (decide (a < b)) else
 if s.data.toList=[60,61] then bit (decide (a≤b)) else
 if s.data.toList=[62] then bit (decide (b < a)) else
 if s.data.toList=[62,61] then bit (decide (b≤a)) else
 if s.data.toList=[60,60] then (if 0≤b∧b≤63 then wrap64 (a*2 ^ b.toNat) else 0) else
 if s.data.toList=[62,62] then (if 0≤b∧b≤63 then a / 2 ^ b.toNat else 0) else
 if s.data.toList=[43] then wrap64 (a+b) else
 if s.data.toList=[45] then wrap64 (a - b) else
 if s.data.toList=[42] then wrap64 (a*b) else
 if s.data.toList=[47] then (if b=0 then 0 else wrap64 (a.tdiv b)) else
 if s.data.toList=[37] then (if b=0 then 0 else a.tmod b) else
 0
def binT (s:ByteArray) (b:Int):Int:=
 if s.data.toList=[60,60] then (if 0≤b∧b≤63 then 0 else 2) else
 if s.data.toList=[62,62] then (if 0≤b∧b≤63 then 0 else 2) else
 if s.data.toList=[47] then (if b=0 then 1 else 0) else
 if s.data.toList=[37] then (if b=0 then 1 else 0) else
 0
def zas (s:ByteArray):Int:=
 if s.data.toList=[124,124] then 1 else
 if s.data.toList=[38,38] then 2 else
 if s.data.toList=[124] then 3 else
 if s.data.toList=[94] then 4 else
 if s.data.toList=[38] then 5 else
 if s.data.toList=[61,61] then 6 else
 if s.data.toList=[33,61] then 6 else
 if s.data.toList=[60] then 7 else
 if s.data.toList=[60,61] then 7 else
 if s.data.toList=[62] then 7 else
 if s.data.toList=[62,61] then 7 else
 if s.data.toList=[60,60] then 8 else
 if s.data.toList=[62,62] then 8 else
 if s.data.toList=[43] then 9 else
 if s.data.toList=[45] then 9 else
 if s.data.toList=[42] then 10 else
 if s.data.toList=[47] then 10 else
 if s.data.toList=[37] then 10 else
 0
def unV (s:ByteArray) (a:Int):Int:=
 if s.data.toList=[45] then wrap64 (-a) else
 if s.data.toList=[126] then -a - 1 else
 if s.data.toList=[33] then bit (a==0) else
 0
def unB (s:ByteArray):Bool:=s.data.toList==[45]||s.data.toList==[126]||s.data.toList==[33]
theorem zap {s:ByteArray} {l:List UInt8} (h:s.data.toList=l):s={data:=l.toArray}:=by
 cases s with | mk d=>cases d with | mk l'=>simp at h;subst h;rfl
theorem zal {s:ByteArray} {l:List UInt8} (h:¬s.data.toList=l):(s.toList==l)=false:=by
 rw[ByteArray.toList_eq];simpa using h
theorem binV_either (a b:Int):binV {data:=#[124,124]} a b=bit (a != 0||b != 0):=rfl
theorem zeH:zas {data:=#[124,124]}=1:=rfl
theorem binV_both (a b:Int):binV {data:=#[38,38]} a b=bit (a != 0&&b != 0):=rfl
theorem levelV_both:zas {data:=#[38,38]}=2:=rfl
theorem binV_bitOr (a b:Int):binV {data:=#[124]} a b=bits .or .i64 a b:=rfl
theorem levelV_bitOr:zas {data:=#[124]}=3:=rfl
theorem binV_bitXor (a b:Int):binV {data:=#[94]} a b=bits .xor .i64 a b:=rfl
theorem zeI:zas {data:=#[94]}=4:=rfl
theorem binV_bitAnd (a b:Int):binV {data:=#[38]} a b=bits .and .i64 a b:=rfl
theorem zeJ:zas {data:=#[38]}=5:=rfl
theorem binV_equal (a b:Int):binV {data:=#[61,61]} a b=bit (a==b):=rfl
theorem levelV_equal:zas {data:=#[61,61]}=6:=rfl
theorem binV_unequal (a b:Int):binV {data:=#[33,61]} a b=bit (a != b):=rfl
theorem zd9:zas {data:=#[33,61]}=6:=rfl
theorem binV_less (a b:Int):binV {data:=#[60]} a b=bit (decide (a < b)):=rfl
theorem levelV_less:zas {data:=#[60]}=7:=rfl
theorem binV_atMost (a b:Int):binV {data:=#[60,61]} a b=bit (decide (a≤b)):=rfl
theorem zeK:zas {data:=#[60,61]}=7:=rfl
theorem binV_more (a b:Int):binV {data:=#[62]} a b=bit (decide (b < a)):=rfl
theorem levelV_more:zas {data:=#[62]}=7:=rfl
theorem binV_atLeast (a b:Int):binV {data:=#[62,61]} a b=bit (decide (b≤a)):=rfl
theorem zea:zas {data:=#[62,61]}=7:=rfl
theorem binV_left (a b:Int):binV {data:=#[60,60]} a b=(if 0≤b∧b≤63 then wrap64 (a*2 ^ b.toNat) else 0):=rfl
theorem binT_left (b:Int):binT {data:=#[60,60]} b=(if 0≤b∧b≤63 then 0 else 2):=rfl
theorem levelV_left:zas {data:=#[60,60]}=8:=rfl
theorem binV_right (a b:Int):binV {data:=#[62,62]} a b=(if 0≤b∧b≤63 then a / 2 ^ b.toNat else 0):=rfl
theorem binT_right (b:Int):binT {data:=#[62,62]} b=(if 0≤b∧b≤63 then 0 else 2):=rfl
theorem levelV_right:zas {data:=#[62,62]}=8:=rfl
theorem binV_plus (a b:Int):binV {data:=#[43]} a b=wrap64 (a+b):=rfl
theorem levelV_plus:zas {data:=#[43]}=9:=rfl
theorem binV_minus (a b:Int):binV {data:=#[45]} a b=wrap64 (a - b):=rfl
theorem levelV_minus:zas {data:=#[45]}=9:=rfl
theorem binV_times (a b:Int):binV {data:=#[42]} a b=wrap64 (a*b):=rfl
theorem levelV_times:zas {data:=#[42]}=10:=rfl
theorem binV_quotient (a b:Int):binV {data:=#[47]} a b=(if b=0 then 0 else wrap64 (a.tdiv b)):=rfl
theorem binT_quotient (b:Int):binT {data:=#[47]} b=(if b=0 then 1 else 0):=rfl
theorem zdo:zas {data:=#[47]}=10:=rfl
theorem binV_rest (a b:Int):binV {data:=#[37]} a b=(if b=0 then 0 else a.tmod b):=rfl
theorem binT_rest (b:Int):binT {data:=#[37]} b=(if b=0 then 1 else 0):=rfl
theorem levelV_rest:zas {data:=#[37]}=10:=rfl
end Go.Proofs.YtbilfdapmbahgaaGreatDoor
namespace Go.Proofs.YtbilfdapmbahgaaGreatDoor
open Go.RowKit
theorem i64_wrap (n:Int):IntKind.i64.wrap n=wrap64 n:=IntWalk.i64_left n
theorem ofInt_nat (x:Int):(BitVec.ofInt 64 x).toNat=(x % 18446744073709551616).toNat:=by
 rw[BitVec.toNat_ofInt];rfl
theorem bits_not (a:Int) (h:-9223372036854775808≤a∧a≤9223372036854775807):bits .xor .i64 (-1) a=-a - 1:=by
 show IntKind.i64.wrap ((BitVec.ofInt 64 (-1) ^^^ BitVec.ofInt 64 a).toNat:Int)=_
 have h1:BitVec.ofInt 64 (-1)=BitVec.allOnes 64:=by decide
 rw[h1,BitVec.allOnes_xor,BitVec.toNat_not,ofInt_nat,i64_wrap]
 unfold wrap64
 omega
end Go.Proofs.YtbilfdapmbahgaaGreatDoor

namespace Go.Proofs.YtbilfdapmbahgaaGreatDoor
open Go.RowKit
abbrev za7 (l:Int) (t m:Nat):Value:=.agg #[.int .i64 l,.func (.func t) #[] #[],.func (.func m) #[] #[]]
abbrev za9 (l:Int) (t m:Nat):Obj:=.cells #[.int .i64 l,.func (.func t) #[] #[],.func (.func m) #[] #[]] 316
theorem zaY (l:Int) (m:Nat) (w:World):
  Calls Tryz.prog 283 #[.int .i64 l,.func (.func m) #[] #[]] w fun e w'=>e=.returned (za7 l 323 m)∧w'=w.alloc (za9 l 323 m):=by
 go_enter Tryz.func283,Tryz.ntmps283
 go_wp2
 exact bodyPost_ret (v:=za7 l 323 m) (by simp[results,Tryz.results283,go_sem]) rfl ⟨rfl,rfl⟩
theorem shift_any (l:Int) (m:Nat) (w:World):
  Calls Tryz.prog 295 #[.int .i64 l,.func (.func m) #[] #[]] w fun e w'=>e=.returned (za7 l 324 m)∧w'=w.alloc (za9 l 324 m):=by
 go_enter Tryz.func295,Tryz.ntmps295
 go_wp2
 exact bodyPost_ret (v:=za7 l 324 m) (by simp[results,Tryz.results295,go_sem]) rfl ⟨rfl,rfl⟩
theorem division_any (l:Int) (m:Nat) (w:World):
  Calls Tryz.prog 301 #[.int .i64 l,.func (.func m) #[] #[]] w fun e w'=>e=.returned (za7 l 325 m)∧w'=w.alloc (za9 l 325 m):=by
 go_enter Tryz.func301,Tryz.ntmps301
 go_wp2
 exact bodyPost_ret (v:=za7 l 325 m) (by simp[results,Tryz.results301,go_sem]) rfl ⟨rfl,rfl⟩
theorem zeg (w:World):
  Calls Tryz.prog 246 #[.string {data:=#[124,124]}] w fun e w'=>e=.returned (.tuple #[za7 1 323 284,.bool true])∧w'=(w.alloc (za9 1 323 284)).alloc (za9 1 323 284):=by
 go_enter Tryz.func246,Tryz.ntmps246
 go_wp2_with (go_at_call 283;refine(zaY _ _ _).mono ?_;rintro e w' ⟨rfl,rfl⟩)
 exact bodyPost_ret (v:=.tuple #[za7 1 323 284,.bool true]) (by simp[results,Tryz.results246,go_sem]) rfl ⟨rfl,rfl⟩
theorem find_both (w:World):
  Calls Tryz.prog 246 #[.string {data:=#[38,38]}] w fun e w'=>e=.returned (.tuple #[za7 2 323 285,.bool true])∧w'=(w.alloc (za9 2 323 285)).alloc (za9 2 323 285):=by
 go_enter Tryz.func246,Tryz.ntmps246
 go_wp2_with (go_at_call 283;refine(zaY _ _ _).mono ?_;rintro e w' ⟨rfl,rfl⟩)
 exact bodyPost_ret (v:=.tuple #[za7 2 323 285,.bool true]) (by simp[results,Tryz.results246,go_sem]) rfl ⟨rfl,rfl⟩
theorem find_bitOr (w:World):
  Calls Tryz.prog 246 #[.string {data:=#[124]}] w fun e w'=>e=.returned (.tuple #[za7 3 323 286,.bool true])∧w'=(w.alloc (za9 3 323 286)).alloc (za9 3 323 286):=by
 go_enter Tryz.func246,Tryz.ntmps246
 go_wp2_with (go_at_call 283;refine(zaY _ _ _).mono ?_;rintro e w' ⟨rfl,rfl⟩)
 exact bodyPost_ret (v:=.tuple #[za7 3 323 286,.bool true]) (by simp[results,Tryz.results246,go_sem]) rfl ⟨rfl,rfl⟩
theorem zeh (w:World):
  Calls Tryz.prog 246 #[.string {data:=#[94]}] w fun e w'=>e=.returned (.tuple #[za7 4 323 287,.bool true])∧w'=(w.alloc (za9 4 323 287)).alloc (za9 4 323 287):=by
 go_enter Tryz.func246,Tryz.ntmps246
 go_wp2_with (go_at_call 283;refine(zaY _ _ _).mono ?_;rintro e w' ⟨rfl,rfl⟩)
 exact bodyPost_ret (v:=.tuple #[za7 4 323 287,.bool true]) (by simp[results,Tryz.results246,go_sem]) rfl ⟨rfl,rfl⟩
theorem zei (w:World):
  Calls Tryz.prog 246 #[.string {data:=#[38]}] w fun e w'=>e=.returned (.tuple #[za7 5 323 288,.bool true])∧w'=(w.alloc (za9 5 323 288)).alloc (za9 5 323 288):=by
 go_enter Tryz.func246,Tryz.ntmps246
 go_wp2_with (go_at_call 283;refine(zaY _ _ _).mono ?_;rintro e w' ⟨rfl,rfl⟩)
 exact bodyPost_ret (v:=.tuple #[za7 5 323 288,.bool true]) (by simp[results,Tryz.results246,go_sem]) rfl ⟨rfl,rfl⟩
theorem find_equal (w:World):
  Calls Tryz.prog 246 #[.string {data:=#[61,61]}] w fun e w'=>e=.returned (.tuple #[za7 6 323 289,.bool true])∧w'=(w.alloc (za9 6 323 289)).alloc (za9 6 323 289):=by
 go_enter Tryz.func246,Tryz.ntmps246
 go_wp2_with (go_at_call 283;refine(zaY _ _ _).mono ?_;rintro e w' ⟨rfl,rfl⟩)
 exact bodyPost_ret (v:=.tuple #[za7 6 323 289,.bool true]) (by simp[results,Tryz.results246,go_sem]) rfl ⟨rfl,rfl⟩
theorem zdp (w:World):
  Calls Tryz.prog 246 #[.string {data:=#[33,61]}] w fun e w'=>e=.returned (.tuple #[za7 6 323 290,.bool true])∧w'=(w.alloc (za9 6 323 290)).alloc (za9 6 323 290):=by
 go_enter Tryz.func246,Tryz.ntmps246
 go_wp2_with (go_at_call 283;refine(zaY _ _ _).mono ?_;rintro e w' ⟨rfl,rfl⟩)
 exact bodyPost_ret (v:=.tuple #[za7 6 323 290,.bool true]) (by simp[results,Tryz.results246,go_sem]) rfl ⟨rfl,rfl⟩
theorem find_less (w:World):
  Calls Tryz.prog 246 #[.string {data:=#[60]}] w fun e w'=>e=.returned (.tuple #[za7 7 323 291,.bool true])∧w'=(w.alloc (za9 7 323 291)).alloc (za9 7 323 291):=by
 go_enter Tryz.func246,Tryz.ntmps246
 go_wp2_with (go_at_call 283;refine(zaY _ _ _).mono ?_;rintro e w' ⟨rfl,rfl⟩)
 exact bodyPost_ret (v:=.tuple #[za7 7 323 291,.bool true]) (by simp[results,Tryz.results246,go_sem]) rfl ⟨rfl,rfl⟩
theorem zej (w:World):
  Calls Tryz.prog 246 #[.string {data:=#[60,61]}] w fun e w'=>e=.returned (.tuple #[za7 7 323 292,.bool true])∧w'=(w.alloc (za9 7 323 292)).alloc (za9 7 323 292):=by
 go_enter Tryz.func246,Tryz.ntmps246
 go_wp2_with (go_at_call 283;refine(zaY _ _ _).mono ?_;rintro e w' ⟨rfl,rfl⟩)
 exact bodyPost_ret (v:=.tuple #[za7 7 323 292,.bool true]) (by simp[results,Tryz.results246,go_sem]) rfl ⟨rfl,rfl⟩
theorem find_more (w:World):
  Calls Tryz.prog 246 #[.string {data:=#[62]}] w fun e w'=>e=.returned (.tuple #[za7 7 323 293,.bool true])∧w'=(w.alloc (za9 7 323 293)).alloc (za9 7 323 293):=by
 go_enter Tryz.func246,Tryz.ntmps246
 go_wp2_with (go_at_call 283;refine(zaY _ _ _).mono ?_;rintro e w' ⟨rfl,rfl⟩)
 exact bodyPost_ret (v:=.tuple #[za7 7 323 293,.bool true]) (by simp[results,Tryz.results246,go_sem]) rfl ⟨rfl,rfl⟩
theorem zdq (w:World):
  Calls Tryz.prog 246 #[.string {data:=#[62,61]}] w fun e w'=>e=.returned (.tuple #[za7 7 323 294,.bool true])∧w'=(w.alloc (za9 7 323 294)).alloc (za9 7 323 294):=by
 go_enter Tryz.func246,Tryz.ntmps246
 go_wp2_with (go_at_call 283;refine(zaY _ _ _).mono ?_;rintro e w' ⟨rfl,rfl⟩)
 exact bodyPost_ret (v:=.tuple #[za7 7 323 294,.bool true]) (by simp[results,Tryz.results246,go_sem]) rfl ⟨rfl,rfl⟩
theorem zeL (w:World):
  Calls Tryz.prog 246 #[.string {data:=#[60,60]}] w fun e w'=>e=.returned (.tuple #[za7 8 324 296,.bool true])∧w'=(w.alloc (za9 8 324 296)).alloc (za9 8 324 296):=by
 go_enter Tryz.func246,Tryz.ntmps246
 go_wp2_with (go_at_call 295;refine(shift_any _ _ _).mono ?_;rintro e w' ⟨rfl,rfl⟩)
 exact bodyPost_ret (v:=.tuple #[za7 8 324 296,.bool true]) (by simp[results,Tryz.results246,go_sem]) rfl ⟨rfl,rfl⟩
theorem zdT (w:World):
  Calls Tryz.prog 246 #[.string {data:=#[62,62]}] w fun e w'=>e=.returned (.tuple #[za7 8 324 297,.bool true])∧w'=(w.alloc (za9 8 324 297)).alloc (za9 8 324 297):=by
 go_enter Tryz.func246,Tryz.ntmps246
 go_wp2_with (go_at_call 295;refine(shift_any _ _ _).mono ?_;rintro e w' ⟨rfl,rfl⟩)
 exact bodyPost_ret (v:=.tuple #[za7 8 324 297,.bool true]) (by simp[results,Tryz.results246,go_sem]) rfl ⟨rfl,rfl⟩
theorem find_plus (w:World):
  Calls Tryz.prog 246 #[.string {data:=#[43]}] w fun e w'=>e=.returned (.tuple #[za7 9 323 298,.bool true])∧w'=(w.alloc (za9 9 323 298)).alloc (za9 9 323 298):=by
 go_enter Tryz.func246,Tryz.ntmps246
 go_wp2_with (go_at_call 283;refine(zaY _ _ _).mono ?_;rintro e w' ⟨rfl,rfl⟩)
 exact bodyPost_ret (v:=.tuple #[za7 9 323 298,.bool true]) (by simp[results,Tryz.results246,go_sem]) rfl ⟨rfl,rfl⟩
theorem find_minus (w:World):
  Calls Tryz.prog 246 #[.string {data:=#[45]}] w fun e w'=>e=.returned (.tuple #[za7 9 323 299,.bool true])∧w'=(w.alloc (za9 9 323 299)).alloc (za9 9 323 299):=by
 go_enter Tryz.func246,Tryz.ntmps246
 go_wp2_with (go_at_call 283;refine(zaY _ _ _).mono ?_;rintro e w' ⟨rfl,rfl⟩)
 exact bodyPost_ret (v:=.tuple #[za7 9 323 299,.bool true]) (by simp[results,Tryz.results246,go_sem]) rfl ⟨rfl,rfl⟩
theorem find_times (w:World):
  Calls Tryz.prog 246 #[.string {data:=#[42]}] w fun e w'=>e=.returned (.tuple #[za7 10 323 300,.bool true])∧w'=(w.alloc (za9 10 323 300)).alloc (za9 10 323 300):=by
 go_enter Tryz.func246,Tryz.ntmps246
 go_wp2_with (go_at_call 283;refine(zaY _ _ _).mono ?_;rintro e w' ⟨rfl,rfl⟩)
 exact bodyPost_ret (v:=.tuple #[za7 10 323 300,.bool true]) (by simp[results,Tryz.results246,go_sem]) rfl ⟨rfl,rfl⟩
theorem zb6 (w:World):
  Calls Tryz.prog 246 #[.string {data:=#[47]}] w fun e w'=>e=.returned (.tuple #[za7 10 325 302,.bool true])∧w'=(w.alloc (za9 10 325 302)).alloc (za9 10 325 302):=by
 go_enter Tryz.func246,Tryz.ntmps246
 go_wp2_with (go_at_call 301;refine(division_any _ _ _).mono ?_;rintro e w' ⟨rfl,rfl⟩)
 exact bodyPost_ret (v:=.tuple #[za7 10 325 302,.bool true]) (by simp[results,Tryz.results246,go_sem]) rfl ⟨rfl,rfl⟩
theorem zeM (w:World):
  Calls Tryz.prog 246 #[.string {data:=#[37]}] w fun e w'=>e=.returned (.tuple #[za7 10 325 303,.bool true])∧w'=(w.alloc (za9 10 325 303)).alloc (za9 10 325 303):=by
 go_enter Tryz.func246,Tryz.ntmps246
 go_wp2_with (go_at_call 301;refine(division_any _ _ _).mono ?_;rintro e w' ⟨rfl,rfl⟩)
 exact bodyPost_ret (v:=.tuple #[za7 10 325 303,.bool true]) (by simp[results,Tryz.results246,go_sem]) rfl ⟨rfl,rfl⟩
end Go.Proofs.YtbilfdapmbahgaaGreatDoor
