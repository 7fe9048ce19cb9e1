/- What word.find answers: for each of the eighteen texts its operation, for any other text none; the world is then as it was but for new blocks. -/
import Derived.Test.YtagnmppdhfmgdaaGreatDoorProg
import Derived.WalkKit
import Derived.WalkSpells
import Derived.WalkLawsBesides
import Derived.Laws.EntriesVeiled
set_option linter.unusedSimpArgs false
set_option linter.unusedVariables false
set_option maxHeartbeats 8000000
set_option maxRecDepth 100000
namespace Go.Proofs.YtagnmppdhfmgdaaGreatDoor
open Go.RowKit
abbrev za7 (l:Int) (t m:Nat):Value:=.agg #[.int .i64 l,.func (.func t) #[] #[],.func (.func m) #[] #[]]
abbrev za9 (l:Int) (t m:Nat):Obj:=.cells #[.int .i64 l,.func (.func t) #[] #[],.func (.func m) #[] #[]] 209
theorem zaY (l:Int) (m:Nat) (w:World):
  Calls Tryz.prog 160 #[.int .i64 l,.func (.func m) #[] #[]] w fun e w'=>e=.returned (za7 l 186 m)∧w'=w.alloc (za9 l 186 m):=by
 go_enter Tryz.func160,Tryz.ntmps160
 go_wp2
 exact bodyPost_ret (v:=za7 l 186 m) (by simp[results,Tryz.results160,go_sem]) rfl ⟨rfl,rfl⟩
theorem shift_any (l:Int) (m:Nat) (w:World):
  Calls Tryz.prog 172 #[.int .i64 l,.func (.func m) #[] #[]] w fun e w'=>e=.returned (za7 l 188 m)∧w'=w.alloc (za9 l 188 m):=by
 go_enter Tryz.func172,Tryz.ntmps172
 go_wp2
 exact bodyPost_ret (v:=za7 l 188 m) (by simp[results,Tryz.results172,go_sem]) rfl ⟨rfl,rfl⟩
theorem division_any (l:Int) (m:Nat) (w:World):
  Calls Tryz.prog 178 #[.int .i64 l,.func (.func m) #[] #[]] w fun e w'=>e=.returned (za7 l 189 m)∧w'=w.alloc (za9 l 189 m):=by
 go_enter Tryz.func178,Tryz.ntmps178
 go_wp2
 exact bodyPost_ret (v:=za7 l 189 m) (by simp[results,Tryz.results178,go_sem]) rfl ⟨rfl,rfl⟩
theorem find_either (w:World):
  Calls Tryz.prog 157 #[.string {data:=#[124,124]}] w fun e w'=>e=.returned (.tuple #[za7 1 186 161,.bool true])∧w'=(w.alloc (za9 1 186 161)).alloc (za9 1 186 161):=by
 go_enter Tryz.func157,Tryz.ntmps157
 go_wp2_with (go_at_call 160;refine(zaY _ _ _).mono ?_;rintro e w' ⟨rfl,rfl⟩)
 exact bodyPost_ret (v:=.tuple #[za7 1 186 161,.bool true]) (by simp[results,Tryz.results157,go_sem]) rfl ⟨rfl,rfl⟩
theorem find_both (w:World):
  Calls Tryz.prog 157 #[.string {data:=#[38,38]}] w fun e w'=>e=.returned (.tuple #[za7 2 186 162,.bool true])∧w'=(w.alloc (za9 2 186 162)).alloc (za9 2 186 162):=by
 go_enter Tryz.func157,Tryz.ntmps157
 go_wp2_with (go_at_call 160;refine(zaY _ _ _).mono ?_;rintro e w' ⟨rfl,rfl⟩)
 exact bodyPost_ret (v:=.tuple #[za7 2 186 162,.bool true]) (by simp[results,Tryz.results157,go_sem]) rfl ⟨rfl,rfl⟩
theorem find_bitOr (w:World):
  Calls Tryz.prog 157 #[.string {data:=#[124]}] w fun e w'=>e=.returned (.tuple #[za7 3 186 163,.bool true])∧w'=(w.alloc (za9 3 186 163)).alloc (za9 3 186 163):=by
 go_enter Tryz.func157,Tryz.ntmps157
 go_wp2_with (go_at_call 160;refine(zaY _ _ _).mono ?_;rintro e w' ⟨rfl,rfl⟩)
 exact bodyPost_ret (v:=.tuple #[za7 3 186 163,.bool true]) (by simp[results,Tryz.results157,go_sem]) rfl ⟨rfl,rfl⟩
theorem find_bitXor (w:World):
  Calls Tryz.prog 157 #[.string {data:=#[94]}] w fun e w'=>e=.returned (.tuple #[za7 4 186 164,.bool true])∧w'=(w.alloc (za9 4 186 164)).alloc (za9 4 186 164):=by
 go_enter Tryz.func157,Tryz.ntmps157
 go_wp2_with (go_at_call 160;refine(zaY _ _ _).mono ?_;rintro e w' ⟨rfl,rfl⟩)
 exact bodyPost_ret (v:=.tuple #[za7 4 186 164,.bool true]) (by simp[results,Tryz.results157,go_sem]) rfl ⟨rfl,rfl⟩
theorem find_bitAnd (w:World):
  Calls Tryz.prog 157 #[.string {data:=#[38]}] w fun e w'=>e=.returned (.tuple #[za7 5 186 165,.bool true])∧w'=(w.alloc (za9 5 186 165)).alloc (za9 5 186 165):=by
 go_enter Tryz.func157,Tryz.ntmps157
 go_wp2_with (go_at_call 160;refine(zaY _ _ _).mono ?_;rintro e w' ⟨rfl,rfl⟩)
 exact bodyPost_ret (v:=.tuple #[za7 5 186 165,.bool true]) (by simp[results,Tryz.results157,go_sem]) rfl ⟨rfl,rfl⟩
theorem find_equal (w:World):
  Calls Tryz.prog 157 #[.string {data:=#[61,61]}] w fun e w'=>e=.returned (.tuple #[za7 6 186 166,.bool true])∧w'=(w.alloc (za9 6 186 166)).alloc (za9 6 186 166):=by
 go_enter Tryz.func157,Tryz.ntmps157
 go_wp2_with (go_at_call 160;refine(zaY _ _ _).mono ?_;rintro e w' ⟨rfl,rfl⟩)
 exact bodyPost_ret (v:=.tuple #[za7 6 186 166,.bool true]) (by simp[results,Tryz.results157,go_sem]) rfl ⟨rfl,rfl⟩
theorem find_unequal (w:World):
  Calls Tryz.prog 157 #[.string {data:=#[33,61]}] w fun e w'=>e=.returned (.tuple #[za7 6 186 167,.bool true])∧w'=(w.alloc (za9 6 186 167)).alloc (za9 6 186 167):=by
 go_enter Tryz.func157,Tryz.ntmps157
 go_wp2_with (go_at_call 160;refine(zaY _ _ _).mono ?_;rintro e w' ⟨rfl,rfl⟩)
 exact bodyPost_ret (v:=.tuple #[za7 6 186 167,.bool true]) (by simp[results,Tryz.results157,go_sem]) rfl ⟨rfl,rfl⟩
theorem find_less (w:World):
  Calls Tryz.prog 157 #[.string {data:=#[60]}] w fun e w'=>e=.returned (.tuple #[za7 7 186 168,.bool true])∧w'=(w.alloc (za9 7 186 168)).alloc (za9 7 186 168):=by
 go_enter Tryz.func157,Tryz.ntmps157
 go_wp2_with (go_at_call 160;refine(zaY _ _ _).mono ?_;rintro e w' ⟨rfl,rfl⟩)
 exact bodyPost_ret (v:=.tuple #[za7 7 186 168,.bool true]) (by simp[results,Tryz.results157,go_sem]) rfl ⟨rfl,rfl⟩
theorem find_atMost (w:World):
  Calls Tryz.prog 157 #[.string {data:=#[60,61]}] w fun e w'=>e=.returned (.tuple #[za7 7 186 169,.bool true])∧w'=(w.alloc (za9 7 186 169)).alloc (za9 7 186 169):=by
 go_enter Tryz.func157,Tryz.ntmps157
 go_wp2_with (go_at_call 160;refine(zaY _ _ _).mono ?_;rintro e w' ⟨rfl,rfl⟩)
 exact bodyPost_ret (v:=.tuple #[za7 7 186 169,.bool true]) (by simp[results,Tryz.results157,go_sem]) rfl ⟨rfl,rfl⟩
theorem find_more (w:World):
  Calls Tryz.prog 157 #[.string {data:=#[62]}] w fun e w'=>e=.returned (.tuple #[za7 7 186 170,.bool true])∧w'=(w.alloc (za9 7 186 170)).alloc (za9 7 186 170):=by
 go_enter Tryz.func157,Tryz.ntmps157
 go_wp2_with (go_at_call 160;refine(zaY _ _ _).mono ?_;rintro e w' ⟨rfl,rfl⟩)
 exact bodyPost_ret (v:=.tuple #[za7 7 186 170,.bool true]) (by simp[results,Tryz.results157,go_sem]) rfl ⟨rfl,rfl⟩
theorem find_atLeast (w:World):
  Calls Tryz.prog 157 #[.string {data:=#[62,61]}] w fun e w'=>e=.returned (.tuple #[za7 7 186 171,.bool true])∧w'=(w.alloc (za9 7 186 171)).alloc (za9 7 186 171):=by
 go_enter Tryz.func157,Tryz.ntmps157
 go_wp2_with (go_at_call 160;refine(zaY _ _ _).mono ?_;rintro e w' ⟨rfl,rfl⟩)
 exact bodyPost_ret (v:=.tuple #[za7 7 186 171,.bool true]) (by simp[results,Tryz.results157,go_sem]) rfl ⟨rfl,rfl⟩
theorem find_left (w:World):
  Calls Tryz.prog 157 #[.string {data:=#[60,60]}] w fun e w'=>e=.returned (.tuple #[za7 8 188 173,.bool true])∧w'=(w.alloc (za9 8 188 173)).alloc (za9 8 188 173):=by
 go_enter Tryz.func157,Tryz.ntmps157
 go_wp2_with (go_at_call 172;refine(shift_any _ _ _).mono ?_;rintro e w' ⟨rfl,rfl⟩)
 exact bodyPost_ret (v:=.tuple #[za7 8 188 173,.bool true]) (by simp[results,Tryz.results157,go_sem]) rfl ⟨rfl,rfl⟩
theorem find_right (w:World):
  Calls Tryz.prog 157 #[.string {data:=#[62,62]}] w fun e w'=>e=.returned (.tuple #[za7 8 188 174,.bool true])∧w'=(w.alloc (za9 8 188 174)).alloc (za9 8 188 174):=by
 go_enter Tryz.func157,Tryz.ntmps157
 go_wp2_with (go_at_call 172;refine(shift_any _ _ _).mono ?_;rintro e w' ⟨rfl,rfl⟩)
 exact bodyPost_ret (v:=.tuple #[za7 8 188 174,.bool true]) (by simp[results,Tryz.results157,go_sem]) rfl ⟨rfl,rfl⟩
theorem find_plus (w:World):
  Calls Tryz.prog 157 #[.string {data:=#[43]}] w fun e w'=>e=.returned (.tuple #[za7 9 186 175,.bool true])∧w'=(w.alloc (za9 9 186 175)).alloc (za9 9 186 175):=by
 go_enter Tryz.func157,Tryz.ntmps157
 go_wp2_with (go_at_call 160;refine(zaY _ _ _).mono ?_;rintro e w' ⟨rfl,rfl⟩)
 exact bodyPost_ret (v:=.tuple #[za7 9 186 175,.bool true]) (by simp[results,Tryz.results157,go_sem]) rfl ⟨rfl,rfl⟩
theorem find_minus (w:World):
  Calls Tryz.prog 157 #[.string {data:=#[45]}] w fun e w'=>e=.returned (.tuple #[za7 9 186 176,.bool true])∧w'=(w.alloc (za9 9 186 176)).alloc (za9 9 186 176):=by
 go_enter Tryz.func157,Tryz.ntmps157
 go_wp2_with (go_at_call 160;refine(zaY _ _ _).mono ?_;rintro e w' ⟨rfl,rfl⟩)
 exact bodyPost_ret (v:=.tuple #[za7 9 186 176,.bool true]) (by simp[results,Tryz.results157,go_sem]) rfl ⟨rfl,rfl⟩
theorem find_times (w:World):
  Calls Tryz.prog 157 #[.string {data:=#[42]}] w fun e w'=>e=.returned (.tuple #[za7 10 186 177,.bool true])∧w'=(w.alloc (za9 10 186 177)).alloc (za9 10 186 177):=by
 go_enter Tryz.func157,Tryz.ntmps157
 go_wp2_with (go_at_call 160;refine(zaY _ _ _).mono ?_;rintro e w' ⟨rfl,rfl⟩)
 exact bodyPost_ret (v:=.tuple #[za7 10 186 177,.bool true]) (by simp[results,Tryz.results157,go_sem]) rfl ⟨rfl,rfl⟩
theorem find_quotient (w:World):
  Calls Tryz.prog 157 #[.string {data:=#[47]}] w fun e w'=>e=.returned (.tuple #[za7 10 189 179,.bool true])∧w'=(w.alloc (za9 10 189 179)).alloc (za9 10 189 179):=by
 go_enter Tryz.func157,Tryz.ntmps157
 go_wp2_with (go_at_call 178;refine(division_any _ _ _).mono ?_;rintro e w' ⟨rfl,rfl⟩)
 exact bodyPost_ret (v:=.tuple #[za7 10 189 179,.bool true]) (by simp[results,Tryz.results157,go_sem]) rfl ⟨rfl,rfl⟩
theorem find_rest (w:World):
  Calls Tryz.prog 157 #[.string {data:=#[37]}] w fun e w'=>e=.returned (.tuple #[za7 10 189 180,.bool true])∧w'=(w.alloc (za9 10 189 180)).alloc (za9 10 189 180):=by
 go_enter Tryz.func157,Tryz.ntmps157
 go_wp2_with (go_at_call 178;refine(division_any _ _ _).mono ?_;rintro e w' ⟨rfl,rfl⟩)
 exact bodyPost_ret (v:=.tuple #[za7 10 189 180,.bool true]) (by simp[results,Tryz.results157,go_sem]) rfl ⟨rfl,rfl⟩
end Go.Proofs.YtagnmppdhfmgdaaGreatDoor
