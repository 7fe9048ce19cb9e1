/- What lex.IsName answers of any text (as wip/lex proves it at its own seat; what tree calls of lex). -/
import Derived.Test.YtagnmppdhfmgdaaGreatDoorTText
import Derived.Test.YtagnmppdhfmgdaaGreatDoorWFind
import Derived.BigGuardPart
import Derived.Lib.Hide
set_option linter.unusedSimpArgs false
set_option linter.unusedVariables false
set_option maxHeartbeats 8000000
set_option maxRecDepth 100000
namespace Go.Proofs.YtagnmppdhfmgdaaGreatDoor
open Go Go.RowKit
open Go.Lib (hid)
def spI (x:Int):Bool:=x==32||x==9||x==10||x==13
def ltI (x:Int):Bool:=(decide (97≤x)&&decide (x≤122))||(decide (65≤x)&&decide (x≤90))||x==95
def dgI (x:Int):Bool:=decide (48≤x)&&decide (x≤57)
def ptI (x:Int):Bool:=ltI x||dgI x
theorem zbX (n m:Nat):((n:Int)==(m:Int))=(n==m):=by rw[Bool.eq_iff_iff,beq_iff_eq,beq_iff_eq];omega
theorem zbH (n m:Nat):decide ((n:Int)≤(m:Int))=decide (n≤m):=by rw[Bool.eq_iff_iff,decide_eq_true_iff,decide_eq_true_iff];omega
theorem spI_nat (c:UInt8):spI (c.toNat:Int)=isSp c:=by
 unfold spI isSp
 rw[←zbX _ 32,←zbX _ 9,←zbX _ 10,←zbX _ 13];rfl
theorem ltI_nat (c:UInt8):ltI (c.toNat:Int)=isLt c:=by
 unfold ltI isLt
 rw[←zbX _ 95,←zbH 97,←zbH _ 122,←zbH 65,←zbH _ 90];rfl
theorem zdy (c:UInt8):dgI (c.toNat:Int)=isDg c:=by
 unfold dgI isDg
 rw[←zbH 48,←zbH _ 57];rfl
theorem ptI_nat (c:UInt8):ptI (c.toNat:Int)=isPt c:=by unfold ptI isPt;rw[ltI_nat,zdy]
theorem spI_iff (x:Int):spI x=true↔(x=32∨x=9∨x=10∨x=13):=by simp[spI,or_assoc]
theorem ltI_iff (x:Int):ltI x=true↔(97≤x∧x≤122∨65≤x∧x≤90∨x=95):=by simp[ltI,or_assoc]
theorem dgI_iff (x:Int):dgI x=true↔(48≤x∧x≤57):=by simp[dgI]
theorem zbL {a b:Bool} (h:a=b):Ending.returned (.bool a)=.returned (.bool b):=by rw[h]
theorem zbI (x:Int) (w:World):Calls Tryz.prog 104 #[.int .u8 x] w fun e w'=>e=.returned (.bool (dgI x))∧w=w':=by
 go_enter Tryz.func104,Tryz.ntmps104
 go_wp2
 all_goals
  go_ret
  refine⟨zbL ?_,rfl⟩
  rw[Bool.eq_iff_iff,dgI_iff];simp<;>omega
theorem zcf (x:Int) (w:World):Calls Tryz.prog 101 #[.int .u8 x] w fun e w'=>e=.returned (.bool (ltI x))∧w=w':=by
 go_enter Tryz.func101,Tryz.ntmps101
 go_wp2
 all_goals
  go_ret
  refine⟨zbL ?_,rfl⟩
  rw[Bool.eq_iff_iff,ltI_iff];simp<;>omega
theorem zcw (x:Int) (w:World):Calls Tryz.prog 102 #[.int .u8 x] w fun e w'=>e=.returned (.bool (ptI x))∧w=w':=by
 cases h1:ltI x
 all_goals
  go_enter Tryz.func102,Tryz.ntmps102
  go_wp2_with (first
   | (go_at_call 101;refine(zcf _ _).mono ?_;rintro e w' ⟨rfl,rfl⟩)
   | (go_at_call 104;refine(zbI _ _).mono ?_;rintro e w' ⟨rfl,rfl⟩))
  go_ret
  refine⟨zbL ?_,rfl⟩
  simp[ptI,h1]
def keyB (l:List UInt8):Bool:=l==[102,117,110,99]||l==[118,97,114]||l==[105,102]||l==[101,108,115,101]||l==[119,104,105,108,101]||l==[98,114,101,97,107]||l==[99,111,110,116,105,110,117,101]||l==[114,101,116,117,114,110]||l==[97,115,115,101,114,116]||l==[114,101,97,100]
theorem keyB_is (s:ByteArray):keyB s.toList=zbu s.data.toList:=by
 rw[ByteArray.toList_eq]
 unfold keyB zbu keysL
 simp only[List.contains_cons,List.contains_nil,Bool.or_false,Bool.or_assoc]
theorem zdH (s:ByteArray) (w:World):Calls Tryz.prog 103 #[.string s] w fun e w'=>e=.returned (.bool (zbu s.data.toList))∧w=w':=by
 rw[←keyB_is]
 go_enter Tryz.func103,Tryz.ntmps103
 go_wp2
 all_goals
  go_ret
  refine⟨zbL ?_,rfl⟩
  simp_all [keyB]
def twI (p:UInt8→Bool) (s:ByteArray):Int:=((s.data.toList.takeWhile p).length:Nat)
theorem twI_bd (p:UInt8→Bool) (s:ByteArray):0≤twI p s∧twI p s≤s.size:=by
 have h:=(List.takeWhile_prefix p (l:=s.data.toList)).length_le
 have e:s.data.toList.length=s.size:=by simp
 unfold twI;omega
def SoFar (p:UInt8→Bool) (s:ByteArray) (k:Nat):Prop:=(s.data.toList.takeWhile p).length=k+((s.data.toList.drop k).takeWhile p).length
theorem zcx (p:UInt8→Bool) (s:ByteArray):SoFar p s 0:=by unfold SoFar;simp
theorem zcy {p:UInt8→Bool} {s:ByteArray} {k:Nat} (h:SoFar p s k) (hk:k < s.size) (hp:p s[k]=true):SoFar p s (k+1):=by
 have hk':k < s.data.toList.length:=by simpa using hk
 unfold SoFar at h ⊢
 rw[List.drop_eq_getElem_cons hk',List.takeWhile_cons_of_pos (by exact hp)] at h
 rw[h,List.length_cons];omega
theorem zcz {p:UInt8→Bool} {s:ByteArray} {k:Nat} (h:SoFar p s k) (hk:k < s.size) (hp:p s[k]=false):twI p s=(k:Int):=by
 have hk':k < s.data.toList.length:=by simpa using hk
 have hp':p (s.data.toList[k])=false:=hp
 unfold SoFar at h
 rw[List.drop_eq_getElem_cons hk',List.takeWhile_cons_of_neg (by rw[hp'];simp)] at h
 unfold twI;rw[h];simp
theorem zcY {p:UInt8→Bool} {s:ByteArray} (h:SoFar p s s.size):twI p s=(s.size:Int):=by
 unfold SoFar at h
 rw[List.drop_of_length_le (by simp)] at h
 unfold twI;rw[h];simp
theorem extent_pt (s:ByteArray) (hs:s.size≤9223372036854775807) (w:World):
  Calls Tryz.prog 87 #[.string s,.func (.func 102) #[] #[]] w fun e w'=>e=.returned (.int .i64 (twI isPt s))∧w=w':=by
 go_enter Tryz.func87,Tryz.ntmps87
 go_wp2
 go_loop [8] (fun i=>∃k:Nat,k≤s.size∧i=.int .i64 k∧SoFar isPt s k) (fun i=>s.size - (intOf i).toNat)
 case atStart=>exact⟨0,Nat.zero_le _,rfl,zcx _ _⟩
 case round =>
  obtain⟨k,hk,rfl,hso⟩:=hrel
  by_cases hlt:k < s.size
  ·cases hp:isPt s[k]
   ·have hq:ptI (s[k].toNat:Int)=false:=by rw[ptI_nat];exact hp
    have hz:=hid (zcz hso hlt hp)
    clear hp hso
    go_wp2_with (go_at_call 102;refine(zcw _ _).mono ?_;rintro e w' ⟨rfl,rfl⟩)
    go_ret
    exact⟨by rw[hz.out];rfl,rfl⟩
   ·have hq:ptI (s[k].toNat:Int)=true:=by rw[ptI_nat];exact hp
    have hz:=hid (zcy hso hlt hp)
    clear hp hso
    go_wp2_with (go_at_call 102;refine(zcw _ _).mono ?_;rintro e w' ⟨rfl,rfl⟩)
    go_round
    case rel=>exact⟨k+1,by omega,by go_num,hz.out⟩
    case measure=>simp[intOf];omega
  ·obtain rfl:k=s.size:=by omega
   have hz:=hid (zcY hso)
   clear hso
   go_wp2
   go_ret
   exact⟨by rw[hz.out];rfl,rfl⟩
def tw (p:UInt8→Bool) (s:ByteArray):Nat:=(s.data.toList.takeWhile p).length
theorem zdi (s:ByteArray) (hs:s.size≤9223372036854775807) (w:World):
  Calls Tryz.prog 87 #[.string s,.func (.func 102) #[] #[]] w fun e w'=>e=.returned (.int .i64 ((tw isPt s:Nat):Int))∧w=w':=extent_pt s hs w
def nmB (s:ByteArray):Bool:=zaR s.data.toList
end Go.Proofs.YtagnmppdhfmgdaaGreatDoor
namespace Go.Proofs.YtagnmppdhfmgdaaGreatDoor
open Go.RowKit
open Go.Lib (hid)
theorem truth_any (b:Bool) (w:World):Calls Tryz.prog 187 #[.bool b] w fun e w'=>e=.returned (.int .i64 (bit b))∧w'=w:=by
 cases b
 all_goals
  go_enter Tryz.func187,Tryz.ntmps187
  go_wp2
  go_ret
  exact⟨rfl,rfl⟩
theorem m_negative (a:Int) (_h:-9223372036854775808≤a∧a≤9223372036854775807) (w:World):Calls Tryz.prog 195 #[.int .i64 a] w fun e w'=>e=.returned (.int .i64 (wrap64 (-a)))∧w'=w:=by
 clear _h
 go_enter Tryz.func195,Tryz.ntmps195
 go_wp2_with (go_at_call 187;refine(truth_any _ _).mono ?_;rintro e w' ⟨rfl,rfl⟩)
 go_ret
 exact⟨rfl,rfl⟩
theorem findU_negative (w:World):
  Calls Tryz.prog 185 #[.string {data:=#[45]}] w fun e w'=>e=.returned (.tuple #[.agg #[.func (.func 195) #[] #[]],.bool true])∧w'=w.alloc (.cells #[.func (.func 195) #[] #[]] 224):=by
 go_enter Tryz.func185,Tryz.ntmps185
 go_wp2
 exact bodyPost_ret (v:=.tuple #[.agg #[.func (.func 195) #[] #[]],.bool true]) (by simp[results,Tryz.results185,go_sem]) rfl ⟨rfl,rfl⟩
theorem un_negative (a:Int) (h:-9223372036854775808≤a∧a≤9223372036854775807) (w:World):
  Calls Tryz.prog 159 #[.string {data:=#[45]},.int .i64 a] w fun e w'=>e=.returned (.tuple #[.int .i64 (unV {data:=#[45]} a),.bool (unB {data:=#[45]})])∧Below w.heap.size w w':=by
 rw[show unV {data:=#[45]} a=wrap64 (-a) from rfl,show unB {data:=#[45]}=true from rfl]
 have hm:∀W,Calls Tryz.prog 195 #[.int .i64 a] W fun e w'=>e=.returned (.int .i64 (wrap64 (-a)))∧w'=W:=fun W=>m_negative a h W
 clear h
 go_enter Tryz.func159,Tryz.ntmps159
 go_wp2_with (first | (go_at_call 185;refine(findU_negative _).mono ?_;rintro e w' ⟨rfl,rfl⟩) | (go_at_call 195;refine(hm _).mono ?_;rintro e w' ⟨rfl,rfl⟩))
 go_ret2
 exact⟨rfl,(((Below.refl _ _).alloc (Nat.le_refl _) _).alloc (by simp) _)⟩
theorem m_turned (a:Int) (h:-9223372036854775808≤a∧a≤9223372036854775807) (w:World):Calls Tryz.prog 196 #[.int .i64 a] w fun e w'=>e=.returned (.int .i64 (-a - 1))∧w'=w:=by
 rw[←bits_not a h]
 go_enter Tryz.func196,Tryz.ntmps196
 go_wp2_with (go_at_call 187;refine(truth_any _ _).mono ?_;rintro e w' ⟨rfl,rfl⟩)
 go_ret
 exact⟨rfl,rfl⟩
theorem findU_turned (w:World):
  Calls Tryz.prog 185 #[.string {data:=#[126]}] w fun e w'=>e=.returned (.tuple #[.agg #[.func (.func 196) #[] #[]],.bool true])∧w'=w.alloc (.cells #[.func (.func 196) #[] #[]] 224):=by
 go_enter Tryz.func185,Tryz.ntmps185
 go_wp2
 exact bodyPost_ret (v:=.tuple #[.agg #[.func (.func 196) #[] #[]],.bool true]) (by simp[results,Tryz.results185,go_sem]) rfl ⟨rfl,rfl⟩
theorem un_turned (a:Int) (h:-9223372036854775808≤a∧a≤9223372036854775807) (w:World):
  Calls Tryz.prog 159 #[.string {data:=#[126]},.int .i64 a] w fun e w'=>e=.returned (.tuple #[.int .i64 (unV {data:=#[126]} a),.bool (unB {data:=#[126]})])∧Below w.heap.size w w':=by
 rw[show unV {data:=#[126]} a=-a - 1 from rfl,show unB {data:=#[126]}=true from rfl]
 have hm:∀W,Calls Tryz.prog 196 #[.int .i64 a] W fun e w'=>e=.returned (.int .i64 (-a - 1))∧w'=W:=fun W=>m_turned a h W
 clear h
 go_enter Tryz.func159,Tryz.ntmps159
 go_wp2_with (first | (go_at_call 185;refine(findU_turned _).mono ?_;rintro e w' ⟨rfl,rfl⟩) | (go_at_call 196;refine(hm _).mono ?_;rintro e w' ⟨rfl,rfl⟩))
 go_ret2
 exact⟨rfl,(((Below.refl _ _).alloc (Nat.le_refl _) _).alloc (by simp) _)⟩
theorem m_not (a:Int) (_h:-9223372036854775808≤a∧a≤9223372036854775807) (w:World):Calls Tryz.prog 197 #[.int .i64 a] w fun e w'=>e=.returned (.int .i64 (bit (a==0)))∧w'=w:=by
 clear _h
 go_enter Tryz.func197,Tryz.ntmps197
 go_wp2_with (go_at_call 187;refine(truth_any _ _).mono ?_;rintro e w' ⟨rfl,rfl⟩)
 go_ret
 exact⟨rfl,rfl⟩
theorem findU_not (w:World):
  Calls Tryz.prog 185 #[.string {data:=#[33]}] w fun e w'=>e=.returned (.tuple #[.agg #[.func (.func 197) #[] #[]],.bool true])∧w'=w.alloc (.cells #[.func (.func 197) #[] #[]] 224):=by
 go_enter Tryz.func185,Tryz.ntmps185
 go_wp2
 exact bodyPost_ret (v:=.tuple #[.agg #[.func (.func 197) #[] #[]],.bool true]) (by simp[results,Tryz.results185,go_sem]) rfl ⟨rfl,rfl⟩
theorem un_not (a:Int) (h:-9223372036854775808≤a∧a≤9223372036854775807) (w:World):
  Calls Tryz.prog 159 #[.string {data:=#[33]},.int .i64 a] w fun e w'=>e=.returned (.tuple #[.int .i64 (unV {data:=#[33]} a),.bool (unB {data:=#[33]})])∧Below w.heap.size w w':=by
 rw[show unV {data:=#[33]} a=bit (a==0) from rfl,show unB {data:=#[33]}=true from rfl]
 have hm:∀W,Calls Tryz.prog 197 #[.int .i64 a] W fun e w'=>e=.returned (.int .i64 (bit (a==0)))∧w'=W:=fun W=>m_not a h W
 clear h
 go_enter Tryz.func159,Tryz.ntmps159
 go_wp2_with (first | (go_at_call 185;refine(findU_not _).mono ?_;rintro e w' ⟨rfl,rfl⟩) | (go_at_call 197;refine(hm _).mono ?_;rintro e w' ⟨rfl,rfl⟩))
 go_ret2
 exact⟨rfl,(((Below.refl _ _).alloc (Nat.le_refl _) _).alloc (by simp) _)⟩
theorem un_none (s:ByteArray) (a:Int) (w:World)
  (h0:¬s.data.toList=[45])
  (h1:¬s.data.toList=[126])
  (h2:¬s.data.toList=[33])
  : Calls Tryz.prog 159 #[.string s,.int .i64 a] w fun e w'=>e=.returned (.tuple #[.int .i64 (unV s a),.bool (unB s)])∧Below w.heap.size w w':=by
 have hv:unV s a=0:=by unfold unV;simp only[if_neg h0,if_neg h1,if_neg h2]
 have ht:unB s=false:=by unfold unB;simp[h0,h1,h2]
 rw[hv,ht]
 have g0:=zaP h0
 have g1:=zaP h1
 have g2:=zaP h2
 clear h0 h1 h2 hv ht
 have hf:∀W,Calls Tryz.prog 185 #[.string s] W fun e w'=>e=.returned (.tuple #[.agg #[.nilFunc],.bool false])∧w'=W.alloc (.cells #[.nilFunc] 224):=by
  intro W
  go_enter Tryz.func185,Tryz.ntmps185
  go_wp2
  exact bodyPost_ret (v:=.tuple #[.agg #[.nilFunc],.bool false]) (by simp[results,Tryz.results185,go_sem]) rfl ⟨rfl,rfl⟩
 go_enter Tryz.func159,Tryz.ntmps159
 go_wp2_with (go_at_call 185;refine(hf _).mono ?_;rintro e w' ⟨rfl,rfl⟩)
 go_ret2
 exact⟨rfl,(((Below.refl _ _).alloc (Nat.le_refl _) _).alloc (by simp) _)⟩
theorem un_any (s:ByteArray) (a:Int) (h:-9223372036854775808≤a∧a≤9223372036854775807) (w:World):
  Calls Tryz.prog 159 #[.string s,.int .i64 a] w fun e w'=>e=.returned (.tuple #[.int .i64 (unV s a),.bool (unB s)])∧Below w.heap.size w w':=by
 by_cases h0:s.data.toList=[45]
 ·obtain rfl:=zaW h0
  exact un_negative a h w
 by_cases h1:s.data.toList=[126]
 ·obtain rfl:=zaW h1
  exact un_turned a h w
 by_cases h2:s.data.toList=[33]
 ·obtain rfl:=zaW h2
  exact un_not a h w
 exact un_none s a w h0 h1 h2
theorem find_none (s:ByteArray) (w:World)
  (h0:(s.toList==[124,124])=false)
  (h1:(s.toList==[38,38])=false)
  (h2:(s.toList==[124])=false)
  (h3:(s.toList==[94])=false)
  (h4:(s.toList==[38])=false)
  (h5:(s.toList==[61,61])=false)
  (h6:(s.toList==[33,61])=false)
  (h7:(s.toList==[60])=false)
  (h8:(s.toList==[60,61])=false)
  (h9:(s.toList==[62])=false)
  (h10:(s.toList==[62,61])=false)
  (h11:(s.toList==[60,60])=false)
  (h12:(s.toList==[62,62])=false)
  (h13:(s.toList==[43])=false)
  (h14:(s.toList==[45])=false)
  (h15:(s.toList==[42])=false)
  (h16:(s.toList==[47])=false)
  (h17:(s.toList==[37])=false)
  : Calls Tryz.prog 157 #[.string s] w fun e w'=>e=.returned (.tuple #[.agg #[.int .i64 0,.nilFunc,.nilFunc],.bool false])∧w'=w.alloc (.cells #[.int .i64 0,.nilFunc,.nilFunc] 209):=by
 go_enter Tryz.func157,Tryz.ntmps157
 go_wp2
 exact bodyPost_ret (v:=.tuple #[.agg #[.int .i64 0,.nilFunc,.nilFunc],.bool false]) (by simp[results,Tryz.results157,go_sem]) rfl ⟨rfl,rfl⟩
theorem level_none (s:ByteArray) (w:World)
  (h0:¬s.data.toList=[124,124])
  (h1:¬s.data.toList=[38,38])
  (h2:¬s.data.toList=[124])
  (h3:¬s.data.toList=[94])
  (h4:¬s.data.toList=[38])
  (h5:¬s.data.toList=[61,61])
  (h6:¬s.data.toList=[33,61])
  (h7:¬s.data.toList=[60])
  (h8:¬s.data.toList=[60,61])
  (h9:¬s.data.toList=[62])
  (h10:¬s.data.toList=[62,61])
  (h11:¬s.data.toList=[60,60])
  (h12:¬s.data.toList=[62,62])
  (h13:¬s.data.toList=[43])
  (h14:¬s.data.toList=[45])
  (h15:¬s.data.toList=[42])
  (h16:¬s.data.toList=[47])
  (h17:¬s.data.toList=[37])
  : Calls Tryz.prog 148 #[.string s] w fun e w'=>e=.returned (.int .i64 (zaq s))∧Below w.heap.size w w':=by
 have hv:zaq s=0:=by unfold zaq;simp only[if_neg h0,if_neg h1,if_neg h2,if_neg h3,if_neg h4,if_neg h5,if_neg h6,if_neg h7,if_neg h8,if_neg h9,if_neg h10,if_neg h11,if_neg h12,if_neg h13,if_neg h14,if_neg h15,if_neg h16,if_neg h17]
 rw[hv]
 have hf:∀W,Calls Tryz.prog 157 #[.string s] W fun e w'=>e=.returned (.tuple #[.agg #[.int .i64 0,.nilFunc,.nilFunc],.bool false])∧w'=W.alloc (.cells #[.int .i64 0,.nilFunc,.nilFunc] 209):=
  fun W=>find_none s W (zaP h0) (zaP h1) (zaP h2) (zaP h3) (zaP h4) (zaP h5) (zaP h6) (zaP h7) (zaP h8) (zaP h9) (zaP h10) (zaP h11) (zaP h12) (zaP h13) (zaP h14) (zaP h15) (zaP h16) (zaP h17)
 clear h0 h1 h2 h3 h4 h5 h6 h7 h8 h9 h10 h11 h12 h13 h14 h15 h16 h17 hv
 go_enter Tryz.func148,Tryz.ntmps148
 go_wp2_with (go_at_call 157;refine(hf _).mono ?_;rintro e w' ⟨rfl,rfl⟩)
 go_ret
 exact⟨rfl,(((Below.refl _ _).alloc (Nat.le_refl _) _).alloc (by simp) _)⟩
theorem level_either (w:World):Calls Tryz.prog 148 #[.string {data:=#[124,124]}] w fun e w'=>e=.returned (.int .i64 (zaq {data:=#[124,124]}))∧Below w.heap.size w w':=by
 rw[levelV_either]
 go_enter Tryz.func148,Tryz.ntmps148
 go_wp2_with (go_at_call 157;refine(find_either _).mono ?_;rintro e w' ⟨rfl,rfl⟩)
 go_ret
 exact⟨rfl,((((Below.refl _ _).alloc (Nat.le_refl _) _).alloc (by simp) _).alloc (by simp;omega) _)⟩
theorem level_both (w:World):Calls Tryz.prog 148 #[.string {data:=#[38,38]}] w fun e w'=>e=.returned (.int .i64 (zaq {data:=#[38,38]}))∧Below w.heap.size w w':=by
 rw[levelV_both]
 go_enter Tryz.func148,Tryz.ntmps148
 go_wp2_with (go_at_call 157;refine(find_both _).mono ?_;rintro e w' ⟨rfl,rfl⟩)
 go_ret
 exact⟨rfl,((((Below.refl _ _).alloc (Nat.le_refl _) _).alloc (by simp) _).alloc (by simp;omega) _)⟩
theorem level_bitOr (w:World):Calls Tryz.prog 148 #[.string {data:=#[124]}] w fun e w'=>e=.returned (.int .i64 (zaq {data:=#[124]}))∧Below w.heap.size w w':=by
 rw[levelV_bitOr]
 go_enter Tryz.func148,Tryz.ntmps148
 go_wp2_with (go_at_call 157;refine(find_bitOr _).mono ?_;rintro e w' ⟨rfl,rfl⟩)
 go_ret
 exact⟨rfl,((((Below.refl _ _).alloc (Nat.le_refl _) _).alloc (by simp) _).alloc (by simp;omega) _)⟩
theorem level_bitXor (w:World):Calls Tryz.prog 148 #[.string {data:=#[94]}] w fun e w'=>e=.returned (.int .i64 (zaq {data:=#[94]}))∧Below w.heap.size w w':=by
 rw[levelV_bitXor]
 go_enter Tryz.func148,Tryz.ntmps148
 go_wp2_with (go_at_call 157;refine(find_bitXor _).mono ?_;rintro e w' ⟨rfl,rfl⟩)
 go_ret
 exact⟨rfl,((((Below.refl _ _).alloc (Nat.le_refl _) _).alloc (by simp) _).alloc (by simp;omega) _)⟩
theorem level_bitAnd (w:World):Calls Tryz.prog 148 #[.string {data:=#[38]}] w fun e w'=>e=.returned (.int .i64 (zaq {data:=#[38]}))∧Below w.heap.size w w':=by
 rw[levelV_bitAnd]
 go_enter Tryz.func148,Tryz.ntmps148
 go_wp2_with (go_at_call 157;refine(find_bitAnd _).mono ?_;rintro e w' ⟨rfl,rfl⟩)
 go_ret
 exact⟨rfl,((((Below.refl _ _).alloc (Nat.le_refl _) _).alloc (by simp) _).alloc (by simp;omega) _)⟩
theorem level_equal (w:World):Calls Tryz.prog 148 #[.string {data:=#[61,61]}] w fun e w'=>e=.returned (.int .i64 (zaq {data:=#[61,61]}))∧Below w.heap.size w w':=by
 rw[levelV_equal]
 go_enter Tryz.func148,Tryz.ntmps148
 go_wp2_with (go_at_call 157;refine(find_equal _).mono ?_;rintro e w' ⟨rfl,rfl⟩)
 go_ret
 exact⟨rfl,((((Below.refl _ _).alloc (Nat.le_refl _) _).alloc (by simp) _).alloc (by simp;omega) _)⟩
theorem level_unequal (w:World):Calls Tryz.prog 148 #[.string {data:=#[33,61]}] w fun e w'=>e=.returned (.int .i64 (zaq {data:=#[33,61]}))∧Below w.heap.size w w':=by
 rw[levelV_unequal]
 go_enter Tryz.func148,Tryz.ntmps148
 go_wp2_with (go_at_call 157;refine(find_unequal _).mono ?_;rintro e w' ⟨rfl,rfl⟩)
 go_ret
 exact⟨rfl,((((Below.refl _ _).alloc (Nat.le_refl _) _).alloc (by simp) _).alloc (by simp;omega) _)⟩
theorem level_less (w:World):Calls Tryz.prog 148 #[.string {data:=#[60]}] w fun e w'=>e=.returned (.int .i64 (zaq {data:=#[60]}))∧Below w.heap.size w w':=by
 rw[levelV_less]
 go_enter Tryz.func148,Tryz.ntmps148
 go_wp2_with (go_at_call 157;refine(find_less _).mono ?_;rintro e w' ⟨rfl,rfl⟩)
 go_ret
 exact⟨rfl,((((Below.refl _ _).alloc (Nat.le_refl _) _).alloc (by simp) _).alloc (by simp;omega) _)⟩
theorem level_atMost (w:World):Calls Tryz.prog 148 #[.string {data:=#[60,61]}] w fun e w'=>e=.returned (.int .i64 (zaq {data:=#[60,61]}))∧Below w.heap.size w w':=by
 rw[levelV_atMost]
 go_enter Tryz.func148,Tryz.ntmps148
 go_wp2_with (go_at_call 157;refine(find_atMost _).mono ?_;rintro e w' ⟨rfl,rfl⟩)
 go_ret
 exact⟨rfl,((((Below.refl _ _).alloc (Nat.le_refl _) _).alloc (by simp) _).alloc (by simp;omega) _)⟩
theorem level_more (w:World):Calls Tryz.prog 148 #[.string {data:=#[62]}] w fun e w'=>e=.returned (.int .i64 (zaq {data:=#[62]}))∧Below w.heap.size w w':=by
 rw[levelV_more]
 go_enter Tryz.func148,Tryz.ntmps148
 go_wp2_with (go_at_call 157;refine(find_more _).mono ?_;rintro e w' ⟨rfl,rfl⟩)
 go_ret
 exact⟨rfl,((((Below.refl _ _).alloc (Nat.le_refl _) _).alloc (by simp) _).alloc (by simp;omega) _)⟩
theorem level_atLeast (w:World):Calls Tryz.prog 148 #[.string {data:=#[62,61]}] w fun e w'=>e=.returned (.int .i64 (zaq {data:=#[62,61]}))∧Below w.heap.size w w':=by
 rw[levelV_atLeast]
 go_enter Tryz.func148,Tryz.ntmps148
 go_wp2_with (go_at_call 157;refine(find_atLeast _).mono ?_;rintro e w' ⟨rfl,rfl⟩)
 go_ret
 exact⟨rfl,((((Below.refl _ _).alloc (Nat.le_refl _) _).alloc (by simp) _).alloc (by simp;omega) _)⟩
theorem level_left (w:World):Calls Tryz.prog 148 #[.string {data:=#[60,60]}] w fun e w'=>e=.returned (.int .i64 (zaq {data:=#[60,60]}))∧Below w.heap.size w w':=by
 rw[levelV_left]
 go_enter Tryz.func148,Tryz.ntmps148
 go_wp2_with (go_at_call 157;refine(find_left _).mono ?_;rintro e w' ⟨rfl,rfl⟩)
 go_ret
 exact⟨rfl,((((Below.refl _ _).alloc (Nat.le_refl _) _).alloc (by simp) _).alloc (by simp;omega) _)⟩
theorem level_right (w:World):Calls Tryz.prog 148 #[.string {data:=#[62,62]}] w fun e w'=>e=.returned (.int .i64 (zaq {data:=#[62,62]}))∧Below w.heap.size w w':=by
 rw[levelV_right]
 go_enter Tryz.func148,Tryz.ntmps148
 go_wp2_with (go_at_call 157;refine(find_right _).mono ?_;rintro e w' ⟨rfl,rfl⟩)
 go_ret
 exact⟨rfl,((((Below.refl _ _).alloc (Nat.le_refl _) _).alloc (by simp) _).alloc (by simp;omega) _)⟩
theorem level_plus (w:World):Calls Tryz.prog 148 #[.string {data:=#[43]}] w fun e w'=>e=.returned (.int .i64 (zaq {data:=#[43]}))∧Below w.heap.size w w':=by
 rw[levelV_plus]
 go_enter Tryz.func148,Tryz.ntmps148
 go_wp2_with (go_at_call 157;refine(find_plus _).mono ?_;rintro e w' ⟨rfl,rfl⟩)
 go_ret
 exact⟨rfl,((((Below.refl _ _).alloc (Nat.le_refl _) _).alloc (by simp) _).alloc (by simp;omega) _)⟩
theorem level_minus (w:World):Calls Tryz.prog 148 #[.string {data:=#[45]}] w fun e w'=>e=.returned (.int .i64 (zaq {data:=#[45]}))∧Below w.heap.size w w':=by
 rw[levelV_minus]
 go_enter Tryz.func148,Tryz.ntmps148
 go_wp2_with (go_at_call 157;refine(find_minus _).mono ?_;rintro e w' ⟨rfl,rfl⟩)
 go_ret
 exact⟨rfl,((((Below.refl _ _).alloc (Nat.le_refl _) _).alloc (by simp) _).alloc (by simp;omega) _)⟩
theorem level_times (w:World):Calls Tryz.prog 148 #[.string {data:=#[42]}] w fun e w'=>e=.returned (.int .i64 (zaq {data:=#[42]}))∧Below w.heap.size w w':=by
 rw[levelV_times]
 go_enter Tryz.func148,Tryz.ntmps148
 go_wp2_with (go_at_call 157;refine(find_times _).mono ?_;rintro e w' ⟨rfl,rfl⟩)
 go_ret
 exact⟨rfl,((((Below.refl _ _).alloc (Nat.le_refl _) _).alloc (by simp) _).alloc (by simp;omega) _)⟩
theorem level_quotient (w:World):Calls Tryz.prog 148 #[.string {data:=#[47]}] w fun e w'=>e=.returned (.int .i64 (zaq {data:=#[47]}))∧Below w.heap.size w w':=by
 rw[levelV_quotient]
 go_enter Tryz.func148,Tryz.ntmps148
 go_wp2_with (go_at_call 157;refine(find_quotient _).mono ?_;rintro e w' ⟨rfl,rfl⟩)
 go_ret
 exact⟨rfl,((((Below.refl _ _).alloc (Nat.le_refl _) _).alloc (by simp) _).alloc (by simp;omega) _)⟩
theorem level_rest (w:World):Calls Tryz.prog 148 #[.string {data:=#[37]}] w fun e w'=>e=.returned (.int .i64 (zaq {data:=#[37]}))∧Below w.heap.size w w':=by
 rw[levelV_rest]
 go_enter Tryz.func148,Tryz.ntmps148
 go_wp2_with (go_at_call 157;refine(find_rest _).mono ?_;rintro e w' ⟨rfl,rfl⟩)
 go_ret
 exact⟨rfl,((((Below.refl _ _).alloc (Nat.le_refl _) _).alloc (by simp) _).alloc (by simp;omega) _)⟩
theorem level_any (s:ByteArray) (w:World):Calls Tryz.prog 148 #[.string s] w fun e w'=>e=.returned (.int .i64 (zaq s))∧Below w.heap.size w w':=by
 by_cases h0:s.data.toList=[124,124]
 ·obtain rfl:=zaW h0
  exact level_either w
 by_cases h1:s.data.toList=[38,38]
 ·obtain rfl:=zaW h1
  exact level_both w
 by_cases h2:s.data.toList=[124]
 ·obtain rfl:=zaW h2
  exact level_bitOr w
 by_cases h3:s.data.toList=[94]
 ·obtain rfl:=zaW h3
  exact level_bitXor w
 by_cases h4:s.data.toList=[38]
 ·obtain rfl:=zaW h4
  exact level_bitAnd w
 by_cases h5:s.data.toList=[61,61]
 ·obtain rfl:=zaW h5
  exact level_equal w
 by_cases h6:s.data.toList=[33,61]
 ·obtain rfl:=zaW h6
  exact level_unequal w
 by_cases h7:s.data.toList=[60]
 ·obtain rfl:=zaW h7
  exact level_less w
 by_cases h8:s.data.toList=[60,61]
 ·obtain rfl:=zaW h8
  exact level_atMost w
 by_cases h9:s.data.toList=[62]
 ·obtain rfl:=zaW h9
  exact level_more w
 by_cases h10:s.data.toList=[62,61]
 ·obtain rfl:=zaW h10
  exact level_atLeast w
 by_cases h11:s.data.toList=[60,60]
 ·obtain rfl:=zaW h11
  exact level_left w
 by_cases h12:s.data.toList=[62,62]
 ·obtain rfl:=zaW h12
  exact level_right w
 by_cases h13:s.data.toList=[43]
 ·obtain rfl:=zaW h13
  exact level_plus w
 by_cases h14:s.data.toList=[45]
 ·obtain rfl:=zaW h14
  exact level_minus w
 by_cases h15:s.data.toList=[42]
 ·obtain rfl:=zaW h15
  exact level_times w
 by_cases h16:s.data.toList=[47]
 ·obtain rfl:=zaW h16
  exact level_quotient w
 by_cases h17:s.data.toList=[37]
 ·obtain rfl:=zaW h17
  exact level_rest w
 exact level_none s w h0 h1 h2 h3 h4 h5 h6 h7 h8 h9 h10 h11 h12 h13 h14 h15 h16 h17
end Go.Proofs.YtagnmppdhfmgdaaGreatDoor
