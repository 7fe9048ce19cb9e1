/- What lex.IsName answers of any text (as wip/lex proves it at its own seat; what tree calls of lex). -/
import Derived.Test.YtljbbhhiiiepcaaGreatDoorTText
import Derived.Test.YtljbbhhiiiepcaaGreatDoorWFind
import Derived.BigGuardPart
import Derived.Lib.Hide
set_option linter.unusedSimpArgs false
set_option linter.unusedVariables false
set_option maxHeartbeats 8000000
set_option maxRecDepth 100000
namespace Go.Proofs.YtljbbhhiiiepcaaGreatDoor
open Go Go.RowKit
open Go.Lib (hid)
def spI (x:Int):Bool:=x==32||x==9||x==10||x==13
def ltI (x:Int):Bool:=(decide (97≤x)&&decide (x≤122))||(decide (65≤x)&&decide (x≤90))||x==95
def dgI (x:Int):Bool:=decide (48≤x)&&decide (x≤57)
def ptI (x:Int):Bool:=ltI x||dgI x
theorem zbQ (n m:Nat):((n:Int)==(m:Int))=(n==m):=by rw[Bool.eq_iff_iff,beq_iff_eq,beq_iff_eq];omega
theorem zbR (n m:Nat):decide ((n:Int)≤(m:Int))=decide (n≤m):=by rw[Bool.eq_iff_iff,decide_eq_true_iff,decide_eq_true_iff];omega
theorem spI_nat (c:UInt8):spI (c.toNat:Int)=isSp c:=by
 unfold spI isSp
 rw[←zbQ _ 32,←zbQ _ 9,←zbQ _ 10,←zbQ _ 13];rfl
theorem ltI_nat (c:UInt8):ltI (c.toNat:Int)=isLt c:=by
 unfold ltI isLt
 rw[←zbQ _ 95,←zbR 97,←zbR _ 122,←zbR 65,←zbR _ 90];rfl
theorem zdR (c:UInt8):dgI (c.toNat:Int)=isDg c:=by
 unfold dgI isDg
 rw[←zbR 48,←zbR _ 57];rfl
theorem ptI_nat (c:UInt8):ptI (c.toNat:Int)=isPt c:=by unfold ptI isPt;rw[ltI_nat,zdR]
theorem spI_iff (x:Int):spI x=true↔(x=32∨x=9∨x=10∨x=13):=by simp[spI,or_assoc]
theorem ltI_iff (x:Int):ltI x=true↔(97≤x∧x≤122∨65≤x∧x≤90∨x=95):=by simp[ltI,or_assoc]
theorem dgI_iff (x:Int):dgI x=true↔(48≤x∧x≤57):=by simp[dgI]
theorem zbD {a b:Bool} (h:a=b):Ending.returned (.bool a)=.returned (.bool b):=by rw[h]
theorem zbS (x:Int) (w:World):Calls Tryz.prog 157 #[.int .u8 x] w fun e w'=>e=.returned (.bool (dgI x))∧w=w':=by
 go_enter Tryz.func157,Tryz.ntmps157
 go_wp2
 all_goals
  go_ret
  refine⟨zbD ?_,rfl⟩
  rw[Bool.eq_iff_iff,dgI_iff];simp<;>omega
theorem zbq (x:Int) (w:World):Calls Tryz.prog 106 #[.int .u8 x] w fun e w'=>e=.returned (.bool (ltI x))∧w=w':=by
 go_enter Tryz.func106,Tryz.ntmps106
 go_wp2
 all_goals
  go_ret
  refine⟨zbD ?_,rfl⟩
  rw[Bool.eq_iff_iff,ltI_iff];simp<;>omega
theorem zcI (x:Int) (w:World):Calls Tryz.prog 108 #[.int .u8 x] w fun e w'=>e=.returned (.bool (ptI x))∧w=w':=by
 cases h1:ltI x
 all_goals
  go_enter Tryz.func108,Tryz.ntmps108
  go_wp2_with (first
   | (go_at_call 106;refine(zbq _ _).mono ?_;rintro e w' ⟨rfl,rfl⟩)
   | (go_at_call 157;refine(zbS _ _).mono ?_;rintro e w' ⟨rfl,rfl⟩))
  go_ret
  refine⟨zbD ?_,rfl⟩
  simp[ptI,h1]
def keyB (l:List UInt8):Bool:=l==[102,117,110,99]||l==[118,97,114]||l==[105,102]||l==[101,108,115,101]||l==[119,104,105,108,101]||l==[98,114,101,97,107]||l==[99,111,110,116,105,110,117,101]||l==[114,101,116,117,114,110]||l==[97,115,115,101,114,116]||l==[114,101,97,100]
theorem keyB_is (s:ByteArray):keyB s.toList=zbn s.data.toList:=by
 rw[ByteArray.toList_eq]
 unfold keyB zbn keysL
 simp only[List.contains_cons,List.contains_nil,Bool.or_false,Bool.or_assoc]
theorem zbY (s:ByteArray) (w:World):Calls Tryz.prog 105 #[.string s] w fun e w'=>e=.returned (.bool (zbn s.data.toList))∧w=w':=by
 rw[←keyB_is]
 go_enter Tryz.func105,Tryz.ntmps105
 go_wp2
 all_goals
  go_ret
  refine⟨zbD ?_,rfl⟩
  simp_all [keyB]
def twI (p:UInt8→Bool) (s:ByteArray):Int:=((s.data.toList.takeWhile p).length:Nat)
theorem twI_bd (p:UInt8→Bool) (s:ByteArray):0≤twI p s∧twI p s≤s.size:=by
 have h:=(List.takeWhile_prefix p (l:=s.data.toList)).length_le
 have e:s.data.toList.length=s.size:=by simp
 unfold twI;omega
def SoFar (p:UInt8→Bool) (s:ByteArray) (k:Nat):Prop:=(s.data.toList.takeWhile p).length=k+((s.data.toList.drop k).takeWhile p).length
theorem zcJ (p:UInt8→Bool) (s:ByteArray):SoFar p s 0:=by unfold SoFar;simp
theorem zcK {p:UInt8→Bool} {s:ByteArray} {k:Nat} (h:SoFar p s k) (hk:k < s.size) (hp:p s[k]=true):SoFar p s (k+1):=by
 have hk':k < s.data.toList.length:=by simpa using hk
 unfold SoFar at h ⊢
 rw[List.drop_eq_getElem_cons hk',List.takeWhile_cons_of_pos (by exact hp)] at h
 rw[h,List.length_cons];omega
theorem zcL {p:UInt8→Bool} {s:ByteArray} {k:Nat} (h:SoFar p s k) (hk:k < s.size) (hp:p s[k]=false):twI p s=(k:Int):=by
 have hk':k < s.data.toList.length:=by simpa using hk
 have hp':p (s.data.toList[k])=false:=hp
 unfold SoFar at h
 rw[List.drop_eq_getElem_cons hk',List.takeWhile_cons_of_neg (by rw[hp'];simp)] at h
 unfold twI;rw[h];simp
theorem zdf {p:UInt8→Bool} {s:ByteArray} (h:SoFar p s s.size):twI p s=(s.size:Int):=by
 unfold SoFar at h
 rw[List.drop_of_length_le (by simp)] at h
 unfold twI;rw[h];simp
theorem extent_pt (s:ByteArray) (hs:s.size≤9223372036854775807) (w:World):
  Calls Tryz.prog 107 #[.string s,.func (.func 108) #[] #[]] w fun e w'=>e=.returned (.int .i64 (twI isPt s))∧w=w':=by
 go_enter Tryz.func107,Tryz.ntmps107
 go_wp2
 go_loop [8] (fun i=>∃k:Nat,k≤s.size∧i=.int .i64 k∧SoFar isPt s k) (fun i=>s.size - (intOf i).toNat)
 case atStart=>exact⟨0,Nat.zero_le _,rfl,zcJ _ _⟩
 case round =>
  obtain⟨k,hk,rfl,hso⟩:=hrel
  by_cases hlt:k < s.size
  ·cases hp:isPt s[k]
   ·have hq:ptI (s[k].toNat:Int)=false:=by rw[ptI_nat];exact hp
    have hz:=hid (zcL hso hlt hp)
    clear hp hso
    go_wp2_with (go_at_call 108;refine(zcI _ _).mono ?_;rintro e w' ⟨rfl,rfl⟩)
    go_ret
    exact⟨by rw[hz.out];rfl,rfl⟩
   ·have hq:ptI (s[k].toNat:Int)=true:=by rw[ptI_nat];exact hp
    have hz:=hid (zcK hso hlt hp)
    clear hp hso
    go_wp2_with (go_at_call 108;refine(zcI _ _).mono ?_;rintro e w' ⟨rfl,rfl⟩)
    go_round
    case rel=>exact⟨k+1,by omega,by go_num,hz.out⟩
    case measure=>simp[intOf];omega
  ·obtain rfl:k=s.size:=by omega
   have hz:=hid (zdf hso)
   clear hso
   go_wp2
   go_ret
   exact⟨by rw[hz.out];rfl,rfl⟩
def tw (p:UInt8→Bool) (s:ByteArray):Nat:=(s.data.toList.takeWhile p).length
theorem zcf (s:ByteArray) (hs:s.size≤9223372036854775807) (w:World):
  Calls Tryz.prog 107 #[.string s,.func (.func 108) #[] #[]] w fun e w'=>e=.returned (.int .i64 ((tw isPt s:Nat):Int))∧w=w':=extent_pt s hs w
theorem isName_long (s:ByteArray) (h:24 < s.size) (w:World):Calls Tryz.prog 70 #[.string s] w fun e w'=>e=.returned (.bool false)∧w=w':=by
 have hl:s.toList.length=s.size:=by rw[ByteArray.toList_eq];simp
 have h1:s.toList.isEmpty=false:=by
  cases e:s.toList with
  | nil=>rw[e] at hl;simp at hl;omega
  | cons=>rfl
 have h2:(s.toList=[])↔False:=by
  constructor
  ·intro e;rw[e] at h1;cases h1
  ·exact False.elim
 clear hl
 go_enter Tryz.func70,Tryz.ntmps70
 go_wp2
 go_ret
 exact⟨rfl,rfl⟩
theorem isName_key (s:ByteArray) (h0:0 < s.size) (h24:s.size≤24) (hk:zbn s.data.toList=true) (w:World):Calls Tryz.prog 70 #[.string s] w fun e w'=>e=.returned (.bool false)∧w=w':=by
 have hl:s.toList.length=s.size:=by rw[ByteArray.toList_eq];simp
 have h1:s.toList.isEmpty=false:=by
  cases e:s.toList with
  | nil=>rw[e] at hl;simp at hl;omega
  | cons=>rfl
 have h2:(s.toList=[])↔False:=by
  constructor
  ·intro e;rw[e] at h1;cases h1
  ·exact False.elim
 clear hl
 go_enter Tryz.func70,Tryz.ntmps70
 go_wp2_with (go_at_call 105;refine(zbY _ _).mono ?_;rintro e w' ⟨rfl,rfl⟩)
 go_ret
 exact⟨rfl,rfl⟩
theorem isName_word (s:ByteArray) (h0:0 < s.size) (h24:s.size≤24) (hk:zbn s.data.toList=false) (hf:ltI ((s[0]'h0).toNat:Int)=true) (he:tw isPt s=s.size) (w:World):Calls Tryz.prog 70 #[.string s] w fun e w'=>e=.returned (.bool true)∧w=w':=by
 have hl:s.toList.length=s.size:=by rw[ByteArray.toList_eq];simp
 have h1:s.toList.isEmpty=false:=by
  cases e:s.toList with
  | nil=>rw[e] at hl;simp at hl;omega
  | cons=>rfl
 have h2:(s.toList=[])↔False:=by
  constructor
  ·intro e;rw[e] at h1;cases h1
  ·exact False.elim
 clear hl
 have HE:=hid he
 clear he
 go_enter Tryz.func70,Tryz.ntmps70
 go_wp2_with (first
  | (go_at_call 105;refine(zbY _ _).mono ?_;rintro e w' ⟨rfl,rfl⟩)
  | (go_at_call 106;refine(zbq _ _).mono ?_;rintro e w' ⟨rfl,rfl⟩)
  | (go_at_call 107;refine(zcf _ (by omega) _).mono ?_;rintro e w' ⟨rfl,rfl⟩;rw[HE.out]))
 go_ret
 exact⟨by simp,rfl⟩
theorem isName_not (s:ByteArray) (h0:0 < s.size) (h24:s.size≤24) (hk:zbn s.data.toList=false) (hf:ltI ((s[0]'h0).toNat:Int)=false) (w:World):Calls Tryz.prog 70 #[.string s] w fun e w'=>e=.returned (.bool false)∧w=w':=by
 have hl:s.toList.length=s.size:=by rw[ByteArray.toList_eq];simp
 have h1:s.toList.isEmpty=false:=by
  cases e:s.toList with
  | nil=>rw[e] at hl;simp at hl;omega
  | cons=>rfl
 have h2:(s.toList=[])↔False:=by
  constructor
  ·intro e;rw[e] at h1;cases h1
  ·exact False.elim
 clear hl
 go_enter Tryz.func70,Tryz.ntmps70
 go_wp2_with (first
  | (go_at_call 105;refine(zbY _ _).mono ?_;rintro e w' ⟨rfl,rfl⟩)
  | (go_at_call 106;refine(zbq _ _).mono ?_;rintro e w' ⟨rfl,rfl⟩))
 all_goals first
  | (exfalso;omega)
  | (go_ret;exact⟨rfl,rfl⟩)
theorem isName_empty (s:ByteArray) (h0:s.size=0) (w:World):Calls Tryz.prog 70 #[.string s] w fun e w'=>e=.returned (.bool false)∧w=w':=by
 obtain rfl:s={data:=#[]}:=by
  obtain⟨⟨l⟩⟩:=s
  cases l with
  | nil=>rfl
  | cons=>simp[ByteArray.size] at h0
 go_enter Tryz.func70,Tryz.ntmps70
 go_wp2
 go_ret
 exact⟨rfl,rfl⟩
def nmB (s:ByteArray):Bool:=zaK s.data.toList
theorem tw_all (l:List UInt8) (p:UInt8→Bool):((l.takeWhile p).length=l.length)↔l.all p=true:=by
 induction l with
 | nil=>simp
 | cons c r ih =>
  cases h:p c with
  | true=>rw[List.takeWhile_cons_of_pos h];simp[h,ih]
  | false=>rw[List.takeWhile_cons_of_neg (by simp[h])];simp[h]
theorem isName_part (s:ByteArray) (h0:0 < s.size) (h24:s.size≤24) (hk:zbn s.data.toList=false) (hf:ltI ((s[0]'h0).toNat:Int)=true) (he:¬tw isPt s=s.size) (w:World):Calls Tryz.prog 70 #[.string s] w fun e w'=>e=.returned (.bool false)∧w=w':=by
 have hl:s.toList.length=s.size:=by rw[ByteArray.toList_eq];simp
 have h1:s.toList.isEmpty=false:=by
  cases e:s.toList with
  | nil=>rw[e] at hl;simp at hl;omega
  | cons=>rfl
 have h2:(s.toList=[])↔False:=by
  constructor
  ·intro e;rw[e] at h1;cases h1
  ·exact False.elim
 clear hl
 have HE:=hid (show(((tw isPt s:Nat):Int)==((s.size:Nat):Int))=false by rw[zbQ];exact beq_eq_false_iff_ne.2 he)
 clear he
 go_enter Tryz.func70,Tryz.ntmps70
 go_wp2_with (first
  | (go_at_call 105;refine(zbY _ _).mono ?_;rintro e w' ⟨rfl,rfl⟩)
  | (go_at_call 106;refine(zbq _ _).mono ?_;rintro e w' ⟨rfl,rfl⟩)
  | (go_at_call 107;refine(zcf _ (by omega) _).mono ?_;rintro e w' ⟨rfl,rfl⟩))
 all_goals
  go_ret
  refine⟨zbD ?_,rfl⟩
  first
   | rfl
   | (have:=HE.out;simp;exact beq_eq_false_iff_ne.1 this)
theorem zbT (s:ByteArray) (w:World):Calls Tryz.prog 70 #[.string s] w fun e w'=>e=.returned (.bool (nmB s))∧w=w':=by
 have hz:s.data.toList.length=s.size:=Array.length_toList
 by_cases h0:s.size=0
 ·have e:nmB s=false:=by unfold nmB zaK;rw[hz,h0];rfl
  rw[e];exact isName_empty s h0 w
 have h0':0 < s.size:=by omega
 by_cases h24:24 < s.size
 ·have e:nmB s=false:=by unfold nmB zaK;rw[hz,decide_eq_false (show ¬s.size≤24 by omega)];simp
  rw[e];exact isName_long s h24 w
 cases hk:zbn s.data.toList with
 | true =>
  have e:nmB s=false:=by unfold nmB zaK;rw[hk];simp
  rw[e];exact isName_key s h0' (by omega) hk w
 | false =>
  have hh:s.data.toList.head?.any isLt=ltI ((s[0]'h0').toNat:Int):=by
   rw[ltI_nat]
   obtain⟨⟨l⟩⟩:=s
   cases l with
   | nil=>simp[ByteArray.size] at h0
   | cons c r=>rfl
  cases hf:ltI ((s[0]'h0').toNat:Int) with
  | false =>
   have e:nmB s=false:=by unfold nmB zaK;rw[hh,hf];simp
   rw[e];exact isName_not s h0' (by omega) hk hf w
  | true =>
   have ht:=tw_all s.data.toList isPt
   rw[hz] at ht
   by_cases he:tw isPt s=s.size
   ·have e:nmB s=true:=by
     unfold nmB zaK
     rw[hh,hf,hk,hz,ht.1 he,decide_eq_true h0',decide_eq_true (show s.size≤24 by omega)];rfl
    rw[e];exact isName_word s h0' (by omega) hk hf he w
   ·have e:nmB s=false:=by
     unfold nmB zaK
     cases ha:s.data.toList.all isPt with
     | true=>exact absurd (ht.2 ha) he
     | false=>simp
    rw[e];exact isName_part s h0' (by omega) hk hf he w
end Go.Proofs.YtljbbhhiiiepcaaGreatDoor
namespace Go.Proofs.YtljbbhhiiiepcaaGreatDoor
open Go.RowKit
open Go.Lib (hid)
theorem truth_any (b:Bool) (w:World):Calls Tryz.prog 272 #[.bool b] w fun e w'=>e=.returned (.int .i64 (bit b))∧w'=w:=by
 cases b
 all_goals
  go_enter Tryz.func272,Tryz.ntmps272
  go_wp2
  go_ret
  exact⟨rfl,rfl⟩
theorem m_negative (a:Int) (_h:-9223372036854775808≤a∧a≤9223372036854775807) (w:World):Calls Tryz.prog 235 #[.int .i64 a] w fun e w'=>e=.returned (.int .i64 (wrap64 (-a)))∧w'=w:=by
 clear _h
 go_enter Tryz.func235,Tryz.ntmps235
 go_wp2_with (go_at_call 272;refine(truth_any _ _).mono ?_;rintro e w' ⟨rfl,rfl⟩)
 go_ret
 exact⟨rfl,rfl⟩
theorem findU_negative (w:World):
  Calls Tryz.prog 220 #[.string {data:=#[45]}] w fun e w'=>e=.returned (.tuple #[.agg #[.func (.func 235) #[] #[]],.bool true])∧w'=w.alloc (.cells #[.func (.func 235) #[] #[]] 246):=by
 go_enter Tryz.func220,Tryz.ntmps220
 go_wp2
 exact bodyPost_ret (v:=.tuple #[.agg #[.func (.func 235) #[] #[]],.bool true]) (by simp[results,Tryz.results220,go_sem]) rfl ⟨rfl,rfl⟩
theorem un_negative (a:Int) (h:-9223372036854775808≤a∧a≤9223372036854775807) (w:World):
  Calls Tryz.prog 200 #[.string {data:=#[45]},.int .i64 a] w fun e w'=>e=.returned (.tuple #[.int .i64 (unV {data:=#[45]} a),.bool (unB {data:=#[45]})])∧Below w.heap.size w w':=by
 rw[show unV {data:=#[45]} a=wrap64 (-a) from rfl,show unB {data:=#[45]}=true from rfl]
 have hm:∀W,Calls Tryz.prog 235 #[.int .i64 a] W fun e w'=>e=.returned (.int .i64 (wrap64 (-a)))∧w'=W:=fun W=>m_negative a h W
 clear h
 go_enter Tryz.func200,Tryz.ntmps200
 go_wp2_with (first | (go_at_call 220;refine(findU_negative _).mono ?_;rintro e w' ⟨rfl,rfl⟩) | (go_at_call 235;refine(hm _).mono ?_;rintro e w' ⟨rfl,rfl⟩))
 go_ret2
 exact⟨rfl,(((Below.refl _ _).alloc (Nat.le_refl _) _).alloc (by simp) _)⟩
theorem m_turned (a:Int) (h:-9223372036854775808≤a∧a≤9223372036854775807) (w:World):Calls Tryz.prog 236 #[.int .i64 a] w fun e w'=>e=.returned (.int .i64 (-a - 1))∧w'=w:=by
 rw[←bits_not a h]
 go_enter Tryz.func236,Tryz.ntmps236
 go_wp2_with (go_at_call 272;refine(truth_any _ _).mono ?_;rintro e w' ⟨rfl,rfl⟩)
 go_ret
 exact⟨rfl,rfl⟩
theorem findU_turned (w:World):
  Calls Tryz.prog 220 #[.string {data:=#[126]}] w fun e w'=>e=.returned (.tuple #[.agg #[.func (.func 236) #[] #[]],.bool true])∧w'=w.alloc (.cells #[.func (.func 236) #[] #[]] 246):=by
 go_enter Tryz.func220,Tryz.ntmps220
 go_wp2
 exact bodyPost_ret (v:=.tuple #[.agg #[.func (.func 236) #[] #[]],.bool true]) (by simp[results,Tryz.results220,go_sem]) rfl ⟨rfl,rfl⟩
theorem un_turned (a:Int) (h:-9223372036854775808≤a∧a≤9223372036854775807) (w:World):
  Calls Tryz.prog 200 #[.string {data:=#[126]},.int .i64 a] w fun e w'=>e=.returned (.tuple #[.int .i64 (unV {data:=#[126]} a),.bool (unB {data:=#[126]})])∧Below w.heap.size w w':=by
 rw[show unV {data:=#[126]} a=-a - 1 from rfl,show unB {data:=#[126]}=true from rfl]
 have hm:∀W,Calls Tryz.prog 236 #[.int .i64 a] W fun e w'=>e=.returned (.int .i64 (-a - 1))∧w'=W:=fun W=>m_turned a h W
 clear h
 go_enter Tryz.func200,Tryz.ntmps200
 go_wp2_with (first | (go_at_call 220;refine(findU_turned _).mono ?_;rintro e w' ⟨rfl,rfl⟩) | (go_at_call 236;refine(hm _).mono ?_;rintro e w' ⟨rfl,rfl⟩))
 go_ret2
 exact⟨rfl,(((Below.refl _ _).alloc (Nat.le_refl _) _).alloc (by simp) _)⟩
theorem m_not (a:Int) (_h:-9223372036854775808≤a∧a≤9223372036854775807) (w:World):Calls Tryz.prog 237 #[.int .i64 a] w fun e w'=>e=.returned (.int .i64 (bit (a==0)))∧w'=w:=by
 clear _h
 go_enter Tryz.func237,Tryz.ntmps237
 go_wp2_with (go_at_call 272;refine(truth_any _ _).mono ?_;rintro e w' ⟨rfl,rfl⟩)
 go_ret
 exact⟨rfl,rfl⟩
theorem findU_not (w:World):
  Calls Tryz.prog 220 #[.string {data:=#[33]}] w fun e w'=>e=.returned (.tuple #[.agg #[.func (.func 237) #[] #[]],.bool true])∧w'=w.alloc (.cells #[.func (.func 237) #[] #[]] 246):=by
 go_enter Tryz.func220,Tryz.ntmps220
 go_wp2
 exact bodyPost_ret (v:=.tuple #[.agg #[.func (.func 237) #[] #[]],.bool true]) (by simp[results,Tryz.results220,go_sem]) rfl ⟨rfl,rfl⟩
theorem un_not (a:Int) (h:-9223372036854775808≤a∧a≤9223372036854775807) (w:World):
  Calls Tryz.prog 200 #[.string {data:=#[33]},.int .i64 a] w fun e w'=>e=.returned (.tuple #[.int .i64 (unV {data:=#[33]} a),.bool (unB {data:=#[33]})])∧Below w.heap.size w w':=by
 rw[show unV {data:=#[33]} a=bit (a==0) from rfl,show unB {data:=#[33]}=true from rfl]
 have hm:∀W,Calls Tryz.prog 237 #[.int .i64 a] W fun e w'=>e=.returned (.int .i64 (bit (a==0)))∧w'=W:=fun W=>m_not a h W
 clear h
 go_enter Tryz.func200,Tryz.ntmps200
 go_wp2_with (first | (go_at_call 220;refine(findU_not _).mono ?_;rintro e w' ⟨rfl,rfl⟩) | (go_at_call 237;refine(hm _).mono ?_;rintro e w' ⟨rfl,rfl⟩))
 go_ret2
 exact⟨rfl,(((Below.refl _ _).alloc (Nat.le_refl _) _).alloc (by simp) _)⟩
theorem un_none (s:ByteArray) (a:Int) (w:World)
  (h0:¬s.data.toList=[45])
  (h1:¬s.data.toList=[126])
  (h2:¬s.data.toList=[33])
  : Calls Tryz.prog 200 #[.string s,.int .i64 a] w fun e w'=>e=.returned (.tuple #[.int .i64 (unV s a),.bool (unB s)])∧Below w.heap.size w w':=by
 have hv:unV s a=0:=by unfold unV;simp only[if_neg h0,if_neg h1,if_neg h2]
 have ht:unB s=false:=by unfold unB;simp[h0,h1,h2]
 rw[hv,ht]
 have g0:=zaT h0
 have g1:=zaT h1
 have g2:=zaT h2
 clear h0 h1 h2 hv ht
 have hf:∀W,Calls Tryz.prog 220 #[.string s] W fun e w'=>e=.returned (.tuple #[.agg #[.nilFunc],.bool false])∧w'=W.alloc (.cells #[.nilFunc] 246):=by
  intro W
  go_enter Tryz.func220,Tryz.ntmps220
  go_wp2
  exact bodyPost_ret (v:=.tuple #[.agg #[.nilFunc],.bool false]) (by simp[results,Tryz.results220,go_sem]) rfl ⟨rfl,rfl⟩
 go_enter Tryz.func200,Tryz.ntmps200
 go_wp2_with (go_at_call 220;refine(hf _).mono ?_;rintro e w' ⟨rfl,rfl⟩)
 go_ret2
 exact⟨rfl,(((Below.refl _ _).alloc (Nat.le_refl _) _).alloc (by simp) _)⟩
theorem un_any (s:ByteArray) (a:Int) (h:-9223372036854775808≤a∧a≤9223372036854775807) (w:World):
  Calls Tryz.prog 200 #[.string s,.int .i64 a] w fun e w'=>e=.returned (.tuple #[.int .i64 (unV s a),.bool (unB s)])∧Below w.heap.size w w':=by
 by_cases h0:s.data.toList=[45]
 ·obtain rfl:=zaY h0
  exact un_negative a h w
 by_cases h1:s.data.toList=[126]
 ·obtain rfl:=zaY h1
  exact un_turned a h w
 by_cases h2:s.data.toList=[33]
 ·obtain rfl:=zaY h2
  exact un_not a h w
 exact un_none s a w h0 h1 h2
theorem find_none (s:ByteArray) (w:World)
  (h0:(s.toList==[124,124])=false)
  (h1:(s.toList==[38,38])=false)
  (h2:(s.toList==[124])=false)
  (h3:(s.toList==[94])=false)
  (h4:(s.toList==[38])=false)
  (h5:(s.toList==[61,61])=false)
  (h6:(s.toList==[33,61])=false)
  (h7:(s.toList==[60])=false)
  (h8:(s.toList==[60,61])=false)
  (h9:(s.toList==[62])=false)
  (h10:(s.toList==[62,61])=false)
  (h11:(s.toList==[60,60])=false)
  (h12:(s.toList==[62,62])=false)
  (h13:(s.toList==[43])=false)
  (h14:(s.toList==[45])=false)
  (h15:(s.toList==[42])=false)
  (h16:(s.toList==[47])=false)
  (h17:(s.toList==[37])=false)
  : Calls Tryz.prog 221 #[.string s] w fun e w'=>e=.returned (.tuple #[.agg #[.int .i64 0,.nilFunc,.nilFunc],.bool false])∧w'=w.alloc (.cells #[.int .i64 0,.nilFunc,.nilFunc] 253):=by
 go_enter Tryz.func221,Tryz.ntmps221
 go_wp2
 exact bodyPost_ret (v:=.tuple #[.agg #[.int .i64 0,.nilFunc,.nilFunc],.bool false]) (by simp[results,Tryz.results221,go_sem]) rfl ⟨rfl,rfl⟩
theorem level_none (s:ByteArray) (w:World)
  (h0:¬s.data.toList=[124,124])
  (h1:¬s.data.toList=[38,38])
  (h2:¬s.data.toList=[124])
  (h3:¬s.data.toList=[94])
  (h4:¬s.data.toList=[38])
  (h5:¬s.data.toList=[61,61])
  (h6:¬s.data.toList=[33,61])
  (h7:¬s.data.toList=[60])
  (h8:¬s.data.toList=[60,61])
  (h9:¬s.data.toList=[62])
  (h10:¬s.data.toList=[62,61])
  (h11:¬s.data.toList=[60,60])
  (h12:¬s.data.toList=[62,62])
  (h13:¬s.data.toList=[43])
  (h14:¬s.data.toList=[45])
  (h15:¬s.data.toList=[42])
  (h16:¬s.data.toList=[47])
  (h17:¬s.data.toList=[37])
  : Calls Tryz.prog 202 #[.string s] w fun e w'=>e=.returned (.int .i64 (zar s))∧Below w.heap.size w w':=by
 have hv:zar s=0:=by unfold zar;simp only[if_neg h0,if_neg h1,if_neg h2,if_neg h3,if_neg h4,if_neg h5,if_neg h6,if_neg h7,if_neg h8,if_neg h9,if_neg h10,if_neg h11,if_neg h12,if_neg h13,if_neg h14,if_neg h15,if_neg h16,if_neg h17]
 rw[hv]
 have hf:∀W,Calls Tryz.prog 221 #[.string s] W fun e w'=>e=.returned (.tuple #[.agg #[.int .i64 0,.nilFunc,.nilFunc],.bool false])∧w'=W.alloc (.cells #[.int .i64 0,.nilFunc,.nilFunc] 253):=
  fun W=>find_none s W (zaT h0) (zaT h1) (zaT h2) (zaT h3) (zaT h4) (zaT h5) (zaT h6) (zaT h7) (zaT h8) (zaT h9) (zaT h10) (zaT h11) (zaT h12) (zaT h13) (zaT h14) (zaT h15) (zaT h16) (zaT h17)
 clear h0 h1 h2 h3 h4 h5 h6 h7 h8 h9 h10 h11 h12 h13 h14 h15 h16 h17 hv
 go_enter Tryz.func202,Tryz.ntmps202
 go_wp2_with (go_at_call 221;refine(hf _).mono ?_;rintro e w' ⟨rfl,rfl⟩)
 go_ret
 exact⟨rfl,(((Below.refl _ _).alloc (Nat.le_refl _) _).alloc (by simp) _)⟩
theorem level_either (w:World):Calls Tryz.prog 202 #[.string {data:=#[124,124]}] w fun e w'=>e=.returned (.int .i64 (zar {data:=#[124,124]}))∧Below w.heap.size w w':=by
 rw[levelV_either]
 go_enter Tryz.func202,Tryz.ntmps202
 go_wp2_with (go_at_call 221;refine(find_either _).mono ?_;rintro e w' ⟨rfl,rfl⟩)
 go_ret
 exact⟨rfl,((((Below.refl _ _).alloc (Nat.le_refl _) _).alloc (by simp) _).alloc (by simp;omega) _)⟩
theorem level_both (w:World):Calls Tryz.prog 202 #[.string {data:=#[38,38]}] w fun e w'=>e=.returned (.int .i64 (zar {data:=#[38,38]}))∧Below w.heap.size w w':=by
 rw[levelV_both]
 go_enter Tryz.func202,Tryz.ntmps202
 go_wp2_with (go_at_call 221;refine(find_both _).mono ?_;rintro e w' ⟨rfl,rfl⟩)
 go_ret
 exact⟨rfl,((((Below.refl _ _).alloc (Nat.le_refl _) _).alloc (by simp) _).alloc (by simp;omega) _)⟩
theorem level_bitOr (w:World):Calls Tryz.prog 202 #[.string {data:=#[124]}] w fun e w'=>e=.returned (.int .i64 (zar {data:=#[124]}))∧Below w.heap.size w w':=by
 rw[levelV_bitOr]
 go_enter Tryz.func202,Tryz.ntmps202
 go_wp2_with (go_at_call 221;refine(find_bitOr _).mono ?_;rintro e w' ⟨rfl,rfl⟩)
 go_ret
 exact⟨rfl,((((Below.refl _ _).alloc (Nat.le_refl _) _).alloc (by simp) _).alloc (by simp;omega) _)⟩
theorem level_bitXor (w:World):Calls Tryz.prog 202 #[.string {data:=#[94]}] w fun e w'=>e=.returned (.int .i64 (zar {data:=#[94]}))∧Below w.heap.size w w':=by
 rw[levelV_bitXor]
 go_enter Tryz.func202,Tryz.ntmps202
 go_wp2_with (go_at_call 221;refine(find_bitXor _).mono ?_;rintro e w' ⟨rfl,rfl⟩)
 go_ret
 exact⟨rfl,((((Below.refl _ _).alloc (Nat.le_refl _) _).alloc (by simp) _).alloc (by simp;omega) _)⟩
theorem level_bitAnd (w:World):Calls Tryz.prog 202 #[.string {data:=#[38]}] w fun e w'=>e=.returned (.int .i64 (zar {data:=#[38]}))∧Below w.heap.size w w':=by
 rw[levelV_bitAnd]
 go_enter Tryz.func202,Tryz.ntmps202
 go_wp2_with (go_at_call 221;refine(find_bitAnd _).mono ?_;rintro e w' ⟨rfl,rfl⟩)
 go_ret
 exact⟨rfl,((((Below.refl _ _).alloc (Nat.le_refl _) _).alloc (by simp) _).alloc (by simp;omega) _)⟩
theorem level_equal (w:World):Calls Tryz.prog 202 #[.string {data:=#[61,61]}] w fun e w'=>e=.returned (.int .i64 (zar {data:=#[61,61]}))∧Below w.heap.size w w':=by
 rw[levelV_equal]
 go_enter Tryz.func202,Tryz.ntmps202
 go_wp2_with (go_at_call 221;refine(find_equal _).mono ?_;rintro e w' ⟨rfl,rfl⟩)
 go_ret
 exact⟨rfl,((((Below.refl _ _).alloc (Nat.le_refl _) _).alloc (by simp) _).alloc (by simp;omega) _)⟩
theorem level_unequal (w:World):Calls Tryz.prog 202 #[.string {data:=#[33,61]}] w fun e w'=>e=.returned (.int .i64 (zar {data:=#[33,61]}))∧Below w.heap.size w w':=by
 rw[levelV_unequal]
 go_enter Tryz.func202,Tryz.ntmps202
 go_wp2_with (go_at_call 221;refine(find_unequal _).mono ?_;rintro e w' ⟨rfl,rfl⟩)
 go_ret
 exact⟨rfl,((((Below.refl _ _).alloc (Nat.le_refl _) _).alloc (by simp) _).alloc (by simp;omega) _)⟩
theorem level_less (w:World):Calls Tryz.prog 202 #[.string {data:=#[60]}] w fun e w'=>e=.returned (.int .i64 (zar {data:=#[60]}))∧Below w.heap.size w w':=by
 rw[levelV_less]
 go_enter Tryz.func202,Tryz.ntmps202
 go_wp2_with (go_at_call 221;refine(find_less _).mono ?_;rintro e w' ⟨rfl,rfl⟩)
 go_ret
 exact⟨rfl,((((Below.refl _ _).alloc (Nat.le_refl _) _).alloc (by simp) _).alloc (by simp;omega) _)⟩
theorem level_atMost (w:World):Calls Tryz.prog 202 #[.string {data:=#[60,61]}] w fun e w'=>e=.returned (.int .i64 (zar {data:=#[60,61]}))∧Below w.heap.size w w':=by
 rw[levelV_atMost]
 go_enter Tryz.func202,Tryz.ntmps202
 go_wp2_with (go_at_call 221;refine(find_atMost _).mono ?_;rintro e w' ⟨rfl,rfl⟩)
 go_ret
 exact⟨rfl,((((Below.refl _ _).alloc (Nat.le_refl _) _).alloc (by simp) _).alloc (by simp;omega) _)⟩
theorem level_more (w:World):Calls Tryz.prog 202 #[.string {data:=#[62]}] w fun e w'=>e=.returned (.int .i64 (zar {data:=#[62]}))∧Below w.heap.size w w':=by
 rw[levelV_more]
 go_enter Tryz.func202,Tryz.ntmps202
 go_wp2_with (go_at_call 221;refine(find_more _).mono ?_;rintro e w' ⟨rfl,rfl⟩)
 go_ret
 exact⟨rfl,((((Below.refl _ _).alloc (Nat.le_refl _) _).alloc (by simp) _).alloc (by simp;omega) _)⟩
theorem level_atLeast (w:World):Calls Tryz.prog 202 #[.string {data:=#[62,61]}] w fun e w'=>e=.returned (.int .i64 (zar {data:=#[62,61]}))∧Below w.heap.size w w':=by
 rw[levelV_atLeast]
 go_enter Tryz.func202,Tryz.ntmps202
 go_wp2_with (go_at_call 221;refine(find_atLeast _).mono ?_;rintro e w' ⟨rfl,rfl⟩)
 go_ret
 exact⟨rfl,((((Below.refl _ _).alloc (Nat.le_refl _) _).alloc (by simp) _).alloc (by simp;omega) _)⟩
theorem level_left (w:World):Calls Tryz.prog 202 #[.string {data:=#[60,60]}] w fun e w'=>e=.returned (.int .i64 (zar {data:=#[60,60]}))∧Below w.heap.size w w':=by
 rw[levelV_left]
 go_enter Tryz.func202,Tryz.ntmps202
 go_wp2_with (go_at_call 221;refine(find_left _).mono ?_;rintro e w' ⟨rfl,rfl⟩)
 go_ret
 exact⟨rfl,((((Below.refl _ _).alloc (Nat.le_refl _) _).alloc (by simp) _).alloc (by simp;omega) _)⟩
theorem level_right (w:World):Calls Tryz.prog 202 #[.string {data:=#[62,62]}] w fun e w'=>e=.returned (.int .i64 (zar {data:=#[62,62]}))∧Below w.heap.size w w':=by
 rw[levelV_right]
 go_enter Tryz.func202,Tryz.ntmps202
 go_wp2_with (go_at_call 221;refine(find_right _).mono ?_;rintro e w' ⟨rfl,rfl⟩)
 go_ret
 exact⟨rfl,((((Below.refl _ _).alloc (Nat.le_refl _) _).alloc (by simp) _).alloc (by simp;omega) _)⟩
theorem level_plus (w:World):Calls Tryz.prog 202 #[.string {data:=#[43]}] w fun e w'=>e=.returned (.int .i64 (zar {data:=#[43]}))∧Below w.heap.size w w':=by
 rw[levelV_plus]
 go_enter Tryz.func202,Tryz.ntmps202
 go_wp2_with (go_at_call 221;refine(find_plus _).mono ?_;rintro e w' ⟨rfl,rfl⟩)
 go_ret
 exact⟨rfl,((((Below.refl _ _).alloc (Nat.le_refl _) _).alloc (by simp) _).alloc (by simp;omega) _)⟩
theorem level_minus (w:World):Calls Tryz.prog 202 #[.string {data:=#[45]}] w fun e w'=>e=.returned (.int .i64 (zar {data:=#[45]}))∧Below w.heap.size w w':=by
 rw[levelV_minus]
 go_enter Tryz.func202,Tryz.ntmps202
 go_wp2_with (go_at_call 221;refine(find_minus _).mono ?_;rintro e w' ⟨rfl,rfl⟩)
 go_ret
 exact⟨rfl,((((Below.refl _ _).alloc (Nat.le_refl _) _).alloc (by simp) _).alloc (by simp;omega) _)⟩
theorem level_times (w:World):Calls Tryz.prog 202 #[.string {data:=#[42]}] w fun e w'=>e=.returned (.int .i64 (zar {data:=#[42]}))∧Below w.heap.size w w':=by
 rw[levelV_times]
 go_enter Tryz.func202,Tryz.ntmps202
 go_wp2_with (go_at_call 221;refine(find_times _).mono ?_;rintro e w' ⟨rfl,rfl⟩)
 go_ret
 exact⟨rfl,((((Below.refl _ _).alloc (Nat.le_refl _) _).alloc (by simp) _).alloc (by simp;omega) _)⟩
theorem level_quotient (w:World):Calls Tryz.prog 202 #[.string {data:=#[47]}] w fun e w'=>e=.returned (.int .i64 (zar {data:=#[47]}))∧Below w.heap.size w w':=by
 rw[levelV_quotient]
 go_enter Tryz.func202,Tryz.ntmps202
 go_wp2_with (go_at_call 221;refine(find_quotient _).mono ?_;rintro e w' ⟨rfl,rfl⟩)
 go_ret
 exact⟨rfl,((((Below.refl _ _).alloc (Nat.le_refl _) _).alloc (by simp) _).alloc (by simp;omega) _)⟩
theorem level_rest (w:World):Calls Tryz.prog 202 #[.string {data:=#[37]}] w fun e w'=>e=.returned (.int .i64 (zar {data:=#[37]}))∧Below w.heap.size w w':=by
 rw[levelV_rest]
 go_enter Tryz.func202,Tryz.ntmps202
 go_wp2_with (go_at_call 221;refine(find_rest _).mono ?_;rintro e w' ⟨rfl,rfl⟩)
 go_ret
 exact⟨rfl,((((Below.refl _ _).alloc (Nat.le_refl _) _).alloc (by simp) _).alloc (by simp;omega) _)⟩
theorem zcl (s:ByteArray) (w:World):Calls Tryz.prog 202 #[.string s] w fun e w'=>e=.returned (.int .i64 (zar s))∧Below w.heap.size w w':=by
 by_cases h0:s.data.toList=[124,124]
 ·obtain rfl:=zaY h0
  exact level_either w
 by_cases h1:s.data.toList=[38,38]
 ·obtain rfl:=zaY h1
  exact level_both w
 by_cases h2:s.data.toList=[124]
 ·obtain rfl:=zaY h2
  exact level_bitOr w
 by_cases h3:s.data.toList=[94]
 ·obtain rfl:=zaY h3
  exact level_bitXor w
 by_cases h4:s.data.toList=[38]
 ·obtain rfl:=zaY h4
  exact level_bitAnd w
 by_cases h5:s.data.toList=[61,61]
 ·obtain rfl:=zaY h5
  exact level_equal w
 by_cases h6:s.data.toList=[33,61]
 ·obtain rfl:=zaY h6
  exact level_unequal w
 by_cases h7:s.data.toList=[60]
 ·obtain rfl:=zaY h7
  exact level_less w
 by_cases h8:s.data.toList=[60,61]
 ·obtain rfl:=zaY h8
  exact level_atMost w
 by_cases h9:s.data.toList=[62]
 ·obtain rfl:=zaY h9
  exact level_more w
 by_cases h10:s.data.toList=[62,61]
 ·obtain rfl:=zaY h10
  exact level_atLeast w
 by_cases h11:s.data.toList=[60,60]
 ·obtain rfl:=zaY h11
  exact level_left w
 by_cases h12:s.data.toList=[62,62]
 ·obtain rfl:=zaY h12
  exact level_right w
 by_cases h13:s.data.toList=[43]
 ·obtain rfl:=zaY h13
  exact level_plus w
 by_cases h14:s.data.toList=[45]
 ·obtain rfl:=zaY h14
  exact level_minus w
 by_cases h15:s.data.toList=[42]
 ·obtain rfl:=zaY h15
  exact level_times w
 by_cases h16:s.data.toList=[47]
 ·obtain rfl:=zaY h16
  exact level_quotient w
 by_cases h17:s.data.toList=[37]
 ·obtain rfl:=zaY h17
  exact level_rest w
 exact level_none s w h0 h1 h2 h3 h4 h5 h6 h7 h8 h9 h10 h11 h12 h13 h14 h15 h16 h17
end Go.Proofs.YtljbbhhiiiepcaaGreatDoor
