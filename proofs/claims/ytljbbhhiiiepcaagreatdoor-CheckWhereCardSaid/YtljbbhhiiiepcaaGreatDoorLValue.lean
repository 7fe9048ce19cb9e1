/- What lex asks of bytes: space, letters, digits; how many such stand at the beginning; keys and names. -/
import Derived.Test.YtljbbhhiiiepcaaGreatDoorLDigits
import Derived.Test.YtljbbhhiiiepcaaGreatDoorLShelf
import Derived.Test.YtljbbhhiiiepcaaGreatDoorProg
import Derived.WalkKit
import Derived.WalkSpells
import Derived.WalkLawsBesides
import Derived.Laws.EntriesVeiled
import Derived.BigGuardPart
import Derived.Lib.Hide
import Derived.OneCell
import Derived.Laws.OwnMore
import Derived.Laws.Rows
import Derived.Deep.QuietTactic
import Derived.BigQuiet
import Derived.Deep.RegionWith
import Derived.BigRegion
import Derived.Lib.IndexBytes
import Derived.IntWalk
import Derived.LaidLaws
set_option linter.unusedSimpArgs false
set_option linter.unusedVariables false
set_option maxHeartbeats 8000000
set_option maxRecDepth 100000
namespace Go.Proofs.YtljbbhhiiiepcaaGreatDoor.Lx
open Go Go.RowKit
open Go.Lib (hid)
def spI (x:Int):Bool:=x==32||x==9||x==10||x==13
def ltI (x:Int):Bool:=(decide (97≤x)&&decide (x≤122))||(decide (65≤x)&&decide (x≤90))||x==95
def dgI (x:Int):Bool:=decide (48≤x)&&decide (x≤57)
def ptI (x:Int):Bool:=ltI x||dgI x
theorem zbQ (n m:Nat):((n:Int)==(m:Int))=(n==m):=by rw[Bool.eq_iff_iff,beq_iff_eq,beq_iff_eq];omega
theorem zbR (n m:Nat):decide ((n:Int)≤(m:Int))=decide (n≤m):=by rw[Bool.eq_iff_iff,decide_eq_true_iff,decide_eq_true_iff];omega
theorem spI_nat (c:UInt8):spI (c.toNat:Int)=isSp c:=by
 unfold spI isSp
 rw[←zbQ _ 32,←zbQ _ 9,←zbQ _ 10,←zbQ _ 13];rfl
theorem ltI_nat (c:UInt8):ltI (c.toNat:Int)=isLt c:=by
 unfold ltI isLt
 rw[←zbQ _ 95,←zbR 97,←zbR _ 122,←zbR 65,←zbR _ 90];rfl
theorem zdR (c:UInt8):dgI (c.toNat:Int)=isDg c:=by
 unfold dgI isDg
 rw[←zbR 48,←zbR _ 57];rfl
theorem ptI_nat (c:UInt8):ptI (c.toNat:Int)=isPt c:=by unfold ptI isPt;rw[ltI_nat,zdR]
theorem spI_iff (x:Int):spI x=true↔(x=32∨x=9∨x=10∨x=13):=by simp[spI,or_assoc]
theorem ltI_iff (x:Int):ltI x=true↔(97≤x∧x≤122∨65≤x∧x≤90∨x=95):=by simp[ltI,or_assoc]
theorem dgI_iff (x:Int):dgI x=true↔(48≤x∧x≤57):=by simp[dgI]
theorem zbD {a b:Bool} (h:a=b):Ending.returned (.bool a)=.returned (.bool b):=by rw[h]
theorem isSpace_any (x:Int) (w:World):Calls Tryz.prog 172 #[.int .u8 x] w fun e w'=>e=.returned (.bool (spI x))∧w=w':=by
 go_enter Tryz.func172,Tryz.ntmps172
 go_wp2
 all_goals
  go_ret
  refine⟨zbD ?_,rfl⟩
  rw[Bool.eq_iff_iff,spI_iff];simp<;>omega
theorem zbS (x:Int) (w:World):Calls Tryz.prog 157 #[.int .u8 x] w fun e w'=>e=.returned (.bool (dgI x))∧w=w':=by
 go_enter Tryz.func157,Tryz.ntmps157
 go_wp2
 all_goals
  go_ret
  refine⟨zbD ?_,rfl⟩
  rw[Bool.eq_iff_iff,dgI_iff];simp<;>omega
theorem zbq (x:Int) (w:World):Calls Tryz.prog 106 #[.int .u8 x] w fun e w'=>e=.returned (.bool (ltI x))∧w=w':=by
 go_enter Tryz.func106,Tryz.ntmps106
 go_wp2
 all_goals
  go_ret
  refine⟨zbD ?_,rfl⟩
  rw[Bool.eq_iff_iff,ltI_iff];simp<;>omega
theorem zcI (x:Int) (w:World):Calls Tryz.prog 108 #[.int .u8 x] w fun e w'=>e=.returned (.bool (ptI x))∧w=w':=by
 cases h1:ltI x
 all_goals
  go_enter Tryz.func108,Tryz.ntmps108
  go_wp2_with (first
   | (go_at_call 106;refine(zbq _ _).mono ?_;rintro e w' ⟨rfl,rfl⟩)
   | (go_at_call 157;refine(zbS _ _).mono ?_;rintro e w' ⟨rfl,rfl⟩))
  go_ret
  refine⟨zbD ?_,rfl⟩
  simp[ptI,h1]
def keyB (l:List UInt8):Bool:=l==[102,117,110,99]||l==[118,97,114]||l==[105,102]||l==[101,108,115,101]||l==[119,104,105,108,101]||l==[98,114,101,97,107]||l==[99,111,110,116,105,110,117,101]||l==[114,101,116,117,114,110]||l==[97,115,115,101,114,116]||l==[114,101,97,100]
theorem keyB_is (s:ByteArray):keyB s.toList=zbn s.data.toList:=by
 rw[ByteArray.toList_eq]
 unfold keyB zbn keysL
 simp only[List.contains_cons,List.contains_nil,Bool.or_false,Bool.or_assoc]
theorem zbY (s:ByteArray) (w:World):Calls Tryz.prog 105 #[.string s] w fun e w'=>e=.returned (.bool (zbn s.data.toList))∧w=w':=by
 rw[←keyB_is]
 go_enter Tryz.func105,Tryz.ntmps105
 go_wp2
 all_goals
  go_ret
  refine⟨zbD ?_,rfl⟩
  simp_all [keyB]
end Go.Proofs.YtljbbhhiiiepcaaGreatDoor.Lx
namespace Go.Proofs.YtljbbhhiiiepcaaGreatDoor.Lx
open Go Go.RowKit
open Go.Lib (hid)
def twI (p:UInt8→Bool) (s:ByteArray):Int:=((s.data.toList.takeWhile p).length:Nat)
theorem twI_bd (p:UInt8→Bool) (s:ByteArray):0≤twI p s∧twI p s≤s.size:=by
 have h:=(List.takeWhile_prefix p (l:=s.data.toList)).length_le
 have e:s.data.toList.length=s.size:=by simp
 unfold twI;omega
def SoFar (p:UInt8→Bool) (s:ByteArray) (k:Nat):Prop:=(s.data.toList.takeWhile p).length=k+((s.data.toList.drop k).takeWhile p).length
theorem zcJ (p:UInt8→Bool) (s:ByteArray):SoFar p s 0:=by unfold SoFar;simp
theorem zcK {p:UInt8→Bool} {s:ByteArray} {k:Nat} (h:SoFar p s k) (hk:k < s.size) (hp:p s[k]=true):SoFar p s (k+1):=by
 have hk':k < s.data.toList.length:=by simpa using hk
 unfold SoFar at h ⊢
 rw[List.drop_eq_getElem_cons hk',List.takeWhile_cons_of_pos (by exact hp)] at h
 rw[h,List.length_cons];omega
theorem zcL {p:UInt8→Bool} {s:ByteArray} {k:Nat} (h:SoFar p s k) (hk:k < s.size) (hp:p s[k]=false):twI p s=(k:Int):=by
 have hk':k < s.data.toList.length:=by simpa using hk
 have hp':p (s.data.toList[k])=false:=hp
 unfold SoFar at h
 rw[List.drop_eq_getElem_cons hk',List.takeWhile_cons_of_neg (by rw[hp'];simp)] at h
 unfold twI;rw[h];simp
theorem zdf {p:UInt8→Bool} {s:ByteArray} (h:SoFar p s s.size):twI p s=(s.size:Int):=by
 unfold SoFar at h
 rw[List.drop_of_length_le (by simp)] at h
 unfold twI;rw[h];simp
theorem extent_sp (s:ByteArray) (hs:s.size≤9223372036854775807) (w:World):
  Calls Tryz.prog 107 #[.string s,.func (.func 172) #[] #[]] w fun e w'=>e=.returned (.int .i64 (twI isSp s))∧w=w':=by
 go_enter Tryz.func107,Tryz.ntmps107
 go_wp2
 go_loop [8] (fun i=>∃k:Nat,k≤s.size∧i=.int .i64 k∧SoFar isSp s k) (fun i=>s.size - (intOf i).toNat)
 case atStart=>exact⟨0,Nat.zero_le _,rfl,zcJ _ _⟩
 case round =>
  obtain⟨k,hk,rfl,hso⟩:=hrel
  by_cases hlt:k < s.size
  ·cases hp:isSp s[k]
   ·have hq:spI (s[k].toNat:Int)=false:=by rw[spI_nat];exact hp
    have hz:=hid (zcL hso hlt hp)
    clear hp hso
    go_wp2_with (go_at_call 172;refine(isSpace_any _ _).mono ?_;rintro e w' ⟨rfl,rfl⟩)
    go_ret
    exact⟨by rw[hz.out];rfl,rfl⟩
   ·have hq:spI (s[k].toNat:Int)=true:=by rw[spI_nat];exact hp
    have hz:=hid (zcK hso hlt hp)
    clear hp hso
    go_wp2_with (go_at_call 172;refine(isSpace_any _ _).mono ?_;rintro e w' ⟨rfl,rfl⟩)
    go_round
    case rel=>exact⟨k+1,by omega,by go_num,hz.out⟩
    case measure=>simp[intOf];omega
  ·obtain rfl:k=s.size:=by omega
   have hz:=hid (zdf hso)
   clear hso
   go_wp2
   go_ret
   exact⟨by rw[hz.out];rfl,rfl⟩
theorem extent_dg (s:ByteArray) (hs:s.size≤9223372036854775807) (w:World):
  Calls Tryz.prog 107 #[.string s,.func (.func 157) #[] #[]] w fun e w'=>e=.returned (.int .i64 (twI isDg s))∧w=w':=by
 go_enter Tryz.func107,Tryz.ntmps107
 go_wp2
 go_loop [8] (fun i=>∃k:Nat,k≤s.size∧i=.int .i64 k∧SoFar isDg s k) (fun i=>s.size - (intOf i).toNat)
 case atStart=>exact⟨0,Nat.zero_le _,rfl,zcJ _ _⟩
 case round =>
  obtain⟨k,hk,rfl,hso⟩:=hrel
  by_cases hlt:k < s.size
  ·cases hp:isDg s[k]
   ·have hq:dgI (s[k].toNat:Int)=false:=by rw[zdR];exact hp
    have hz:=hid (zcL hso hlt hp)
    clear hp hso
    go_wp2_with (go_at_call 157;refine(zbS _ _).mono ?_;rintro e w' ⟨rfl,rfl⟩)
    go_ret
    exact⟨by rw[hz.out];rfl,rfl⟩
   ·have hq:dgI (s[k].toNat:Int)=true:=by rw[zdR];exact hp
    have hz:=hid (zcK hso hlt hp)
    clear hp hso
    go_wp2_with (go_at_call 157;refine(zbS _ _).mono ?_;rintro e w' ⟨rfl,rfl⟩)
    go_round
    case rel=>exact⟨k+1,by omega,by go_num,hz.out⟩
    case measure=>simp[intOf];omega
  ·obtain rfl:k=s.size:=by omega
   have hz:=hid (zdf hso)
   clear hso
   go_wp2
   go_ret
   exact⟨by rw[hz.out];rfl,rfl⟩
theorem extent_pt (s:ByteArray) (hs:s.size≤9223372036854775807) (w:World):
  Calls Tryz.prog 107 #[.string s,.func (.func 108) #[] #[]] w fun e w'=>e=.returned (.int .i64 (twI isPt s))∧w=w':=by
 go_enter Tryz.func107,Tryz.ntmps107
 go_wp2
 go_loop [8] (fun i=>∃k:Nat,k≤s.size∧i=.int .i64 k∧SoFar isPt s k) (fun i=>s.size - (intOf i).toNat)
 case atStart=>exact⟨0,Nat.zero_le _,rfl,zcJ _ _⟩
 case round =>
  obtain⟨k,hk,rfl,hso⟩:=hrel
  by_cases hlt:k < s.size
  ·cases hp:isPt s[k]
   ·have hq:ptI (s[k].toNat:Int)=false:=by rw[ptI_nat];exact hp
    have hz:=hid (zcL hso hlt hp)
    clear hp hso
    go_wp2_with (go_at_call 108;refine(zcI _ _).mono ?_;rintro e w' ⟨rfl,rfl⟩)
    go_ret
    exact⟨by rw[hz.out];rfl,rfl⟩
   ·have hq:ptI (s[k].toNat:Int)=true:=by rw[ptI_nat];exact hp
    have hz:=hid (zcK hso hlt hp)
    clear hp hso
    go_wp2_with (go_at_call 108;refine(zcI _ _).mono ?_;rintro e w' ⟨rfl,rfl⟩)
    go_round
    case rel=>exact⟨k+1,by omega,by go_num,hz.out⟩
    case measure=>simp[intOf];omega
  ·obtain rfl:k=s.size:=by omega
   have hz:=hid (zdf hso)
   clear hso
   go_wp2
   go_ret
   exact⟨by rw[hz.out];rfl,rfl⟩
end Go.Proofs.YtljbbhhiiiepcaaGreatDoor.Lx
namespace Go.Proofs.YtljbbhhiiiepcaaGreatDoor.Lx
open Go Go.RowKit
open Go.Lib (hid)
def Past (w0 w:World):Prop:=Below w0.heap.size w0 w
theorem Past.refl (w:World):Past w w:=Below.refl _ _
theorem Past.on {w0 w w':World} (h:Past w0 w) (hb:Below w.heap.size w w'):Past w0 w':=Below.trans h (hb.mono h.size)
theorem Past.alloc {w0 w:World} (h:Past w0 w) (o:Obj):Past w0 (w.alloc o):=Below.alloc h h.size o
theorem Past.drew {w0 w:World} (h:Past w0 w):Past w0 w.drew:=Below.drew h
theorem zab {w:World} {b k:Nat} {cs:Array Value} {t:TypeId} {fr:Nat×Nat} {v:Value} (h:w.heap[b]?=some (.cells cs t fr)) (hk:cs[k]?=some v):w.cell? ⟨b,k,none⟩=some v:=by simp[World.cell?,h,hk]
theorem zac {w:World} {b k:Nat} {cs:Array Value} {t:TypeId} (h:w.heap[b]?=some (.cells cs t (0,0))):w.frozen? ⟨b,k,none⟩=false:=by simp[World.frozen?,h]
theorem zaH {w:World} {b k:Nat} {cs:Array Value} {t:TypeId} {fr:Nat×Nat} (u:Value) (h:w.heap[b]?=some (.cells cs t fr)):(w.setCell ⟨b,k,none⟩ u).heap[b]?=some (.cells (cs.setIfInBounds k u) t fr):=by
 simp[World.setCell,Array.getElem?_modify,h]
theorem zaj (w:World) (o:Obj):(w.alloc o).heap[w.heap.size]?=some o:=heap_alloc_new w o
theorem zao {w:World} {n:Nat} (o:Obj) (h:w.heap.size=n):(w.alloc o).heap[n]?=some o:=by subst h;exact zaj w o
theorem add_zero' (b j:Nat):(⟨b,0,none⟩:Addr).add j=⟨b,j,none⟩:=by unfold Addr.add;split<;>simp_all
theorem zai {w:World} {b:Nat} {x:Obj} (o:Obj) (h:w.heap[b]?=some x):(w.alloc o).heap[b]?=some x:=(Below.heap_alloc w o b (lt_of_block h)).trans h
def sgAt (k:Nat):ByteArray:=⟨(zaX.getD k []).toArray⟩
def opsV:List Value:=(zaX.take 18).map fun l=>.string ⟨l.toArray⟩
def signV:List Value:=zaX.map fun l=>.string ⟨l.toArray⟩
theorem tInfoS:(Tryz.prog.info? 9).map (fun i=>(i.zero,i.size,i.bytes))=some (some (.string ⟨#[]⟩),1,16):=by kernel_rfl
theorem ops_row (base:Nat) (w:World) (hb:base≤w.heap.size):
  Calls Tryz.prog 203 #[] w fun e w'=>e=.returned (.slice (some ⟨w.heap.size,0,none⟩) 18 18)∧w'.ownsRow base 9 1 (.slice (some ⟨w.heap.size,0,none⟩) 18 18) 18 opsV∧Below w.heap.size w w'∧base < w'.heap.size:=by
 have ho:=World.ownsRow_lit (base:=base) (e:=9) (size:=1) w opsV.toArray 18 hb (by decide) rfl
 go_enter Tryz.func203,Tryz.ntmps203
 go_wp2
 go_ret
 exact⟨rfl,ho,(Below.refl _ _).alloc (Nat.le_refl _) _,by simp;omega⟩
def SignsAt (w:World) (e:Ending) (w':World):Prop:=
 ∃g cap,e=.returned (.slice (some ⟨g,0,none⟩) 29 cap)∧w.heap.size≤g∧g < w'.heap.size∧(∀k,k < 29→w'.cell? ⟨g,k,none⟩=some (.string (sgAt k)))∧Below w.heap.size w w'
theorem signs_of_row {w w':World} {v:Value} (h:w'.ownsRow w.heap.size 9 1 v 29 signV) (hb:Below w.heap.size w w'):SignsAt w (.returned v) w':=by
 rcases h.2 with ⟨_,h0⟩ | ⟨g,cap,cur,rfl,hg,hh,hn,hm,hsz,ht⟩
 ·cases h0
 ·refine⟨g,cap,rfl,hg,lt_of_block hh,fun k hk=>zab hh ?_,hb⟩
  have:cur.toList[k]?=some (.string (sgAt k)):=by
   have h1:(cur.toList.take 29)[k]?=some (.string (sgAt k)):=by
    rw[ht]
    have:∀k:Fin 29,signV[k.val]?=some (.string (sgAt k.val)):=fun k=>by
     simp only[signV,List.getElem?_map,sgAt,List.getD_eq_getElem?_getD]
     have hl:k.val < zaX.length:=k.2
     rw[List.getElem?_eq_getElem hl]
     rfl
    exact this ⟨k,hk⟩
   rwa [List.getElem?_take_of_lt hk] at h1
  simpa using this
theorem signs_any (w:World):Calls Tryz.prog 162 #[] w (SignsAt w):=by
 obtain⟨i0,hi,hz0,hz1,hz2⟩:=info_parts tInfoS
 go_enter Tryz.func162,Tryz.ntmps162
 go_wp2_with (first
  | (go_at_call 203;refine(ops_row w.heap.size w (Nat.le_refl _)).mono ?_;rintro e w1 ⟨rfl,hown,hb,hlt⟩)
  | (at_builtin;refine wpList_append_own _ rfl _ _ 32 rfl w.heap.size 9 i0 (.string ⟨#[]⟩) 1 16 Tryz.underlying32 hi hz0 hz1 hz2 rfl (by decide) _ _ _ rfl (hown.alloc _) ⟨w1.heap.size,0,none⟩ 11 11 ((zaX.drop 18).map fun l=>.string ⟨l.toArray⟩) rfl rfl ?c1 ?c2 ?c3 ?c4 ?c5 ?_))
 case c1 =>
  intro j u hu
  rw[add_zero']
  exact zab (zaj _ _) (by rw[←Array.getElem?_toList];exact hu)
 case c2=>decide
 case c3=>decide
 case c4=>decide
 case c5=>simp;omega
 intro v' w2 hown2 hg _
 clear hown
 have hb2:Below w.heap.size w w2:=by
  refine((hb.alloc hb.size _).grown hg (by simp;omega) (fun k hk=>?_))
  simp only[Value.ownBlock,Option.some.injEq] at hk
  omega
 have H:=hid (signs_of_row hown2 hb2)
 clear hown2 hb2 hg
 go_wp2
 go_ret
 exact H.out
def me (R:Nat):Value:=.pointer (some ⟨R,0,none⟩)
abbrev mv (f R:Nat):Value:=.func (.func f) #[me R] #[]
abbrev rdCells (s:ByteArray) (p:Int) (SH SG cap:Nat):Array Value:=#[.string s,.int .i64 p,.slice (some ⟨SH,0,none⟩) 4 4,.slice (some ⟨SG,0,none⟩) 29 cap]
abbrev shCells (R:Nat):Array Value:=#[mv 163 R,mv 164 R,mv 165 R,mv 166 R,mv 167 R,mv 168 R,mv 169 R,mv 170 R]
structure Reader (w:World) (R:Nat) (s:ByteArray) (p:Int) (SH SG cap:Nat):Prop where
 blk:w.heap[R]?=some (.cells (rdCells s p SH SG cap) 180 (0,0))
 shp:w.heap[SH]?=some (.cells (shCells R) 208 (0,0))
 sgn:∀k,k < 29→w.cell? ⟨SG,k,none⟩=some (.string (sgAt k))
 ne1:SH≠R
 ne2:SG≠R
 lt:SG < w.heap.size
section
variable {w w':World} {R:Nat} {s:ByteArray} {p:Int} {SH SG cap:Nat}
theorem Reader.on (h:Reader w R s p SH SG cap) (hb:Below w.heap.size w w'):Reader w' R s p SH SG cap:=
 ⟨(hb.block _ (lt_of_block h.blk)).trans h.blk,(hb.block _ (lt_of_block h.shp)).trans h.shp,fun k hk=>(hb.cell (p:=⟨SG,k,none⟩) h.lt).trans (h.sgn k hk),h.ne1,h.ne2,Nat.lt_of_lt_of_le h.lt hb.size⟩
theorem Reader.set (h:Reader w R s p SH SG cap) (q:Int):Reader (w.setCell ⟨R,1,none⟩ (.int .i64 q)) R s q SH SG cap:=
 ⟨zaH _ h.blk,(Below.heap_setCell _ _ _ _ h.ne1).trans h.shp,fun k hk=>by
  rw[World.cell?_of_block (w:=w) (Below.heap_setCell _ _ _ _ h.ne2)]
  exact h.sgn k hk,h.ne1,h.ne2,by simpa[World.setCell] using h.lt⟩
theorem Reader.drew (h:Reader w R s p SH SG cap):Reader w.drew R s p SH SG cap:=h.on ((Below.refl _ _).drew)
theorem Reader.drewN (h:Reader w R s p SH SG cap) (n:Nat):Reader (w.drewN n) R s p SH SG cap:=⟨h.blk,h.shp,h.sgn,h.ne1,h.ne2,h.lt⟩
theorem Reader.c0 (h:Reader w R s p SH SG cap):w.cell? ⟨R,0,none⟩=some (.string s):=zab h.blk rfl
theorem Reader.c1 (h:Reader w R s p SH SG cap):w.cell? ⟨R,1,none⟩=some (.int .i64 p):=zab h.blk rfl
theorem Reader.c2 (h:Reader w R s p SH SG cap):w.cell? ⟨R,2,none⟩=some (.slice (some ⟨SH,0,none⟩) 4 4):=zab h.blk rfl
theorem Reader.c3 (h:Reader w R s p SH SG cap):w.cell? ⟨R,3,none⟩=some (.slice (some ⟨SG,0,none⟩) 29 cap):=zab h.blk rfl
theorem Reader.f1 (h:Reader w R s p SH SG cap):w.frozen? ⟨R,1,none⟩=false:=zac h.blk
end
def MadeReader (s:ByteArray) (w:World) (e:Ending) (w':World):Prop:=
 ∃R SH SG cap,e=.returned (me R)∧w.heap.size≤R∧Reader w' R s 0 SH SG cap∧Below w.heap.size w w'
theorem newReader_any (s:ByteArray) (w:World):Calls Tryz.prog 112 #[.string s] w (MadeReader s w):=by
 go_enter Tryz.func112,Tryz.ntmps112
 go_wp2_with (go_at_call 162;refine(signs_any _).mono ?_;rintro e w1 ⟨g,cap,rfl,hg,hlt,hcells,hb⟩)
 go_ret
 refine⟨w1.heap.size,w1.heap.size+1,g,cap,rfl,hb.size,⟨zai _ (zaj _ _),zao _ (by simp),fun k hk=>?_,by omega,by omega,by simp;omega⟩,(hb.alloc hb.size _).alloc (by have:=hb.size;simp;omega) _⟩
 rw[World.cell?_of_block (Below.heap_alloc _ _ _ (by simp;omega)),World.cell?_of_block (Below.heap_alloc _ _ _ (by omega))]
 exact hcells k hk
def rest (s:ByteArray) (k:Nat):ByteArray:=⟨(s.data.toList.drop k).toArray⟩
theorem ba_ext {a b:ByteArray} (h:a.data.toList=b.data.toList):a=b:=by
 cases a;cases b;congr 1;exact Array.toList_inj.1 h
theorem rest_is (s:ByteArray) (k:Nat):s.extract k s.size=rest s k:=by
 apply ba_ext
 rw[Lib.extract_to_end]
 rfl
theorem zbE (s:ByteArray) (k:Nat):(rest s k).size=s.size - k:=by
 show(s.data.toList.drop k).toArray.size=_
 simp
section
variable {w0 w:World} {R:Nat} {s:ByteArray} {k:Nat} {SH SG cap:Nat}
theorem zca (hr:Reader w R s k SH SG cap) (hk:k≤s.size):
  Calls Tryz.prog 171 #[me R] w fun e w'=>e=.returned (.string (rest s k))∧∃n,w'=w.drewN n:=by
 have c0:=hr.c0
 have c1:=hr.c1
 have hx:=rest_is s k
 unfold me
 go_enter Tryz.func171,Tryz.ntmps171
 go_wp2
 go_quiet (fail)
 go_wp2
 go_ret
 exact⟨rfl,_,rfl⟩
theorem zdg (hr:Reader w R s k SH SG cap):
  Calls Tryz.prog 114 #[me R] w fun e w'=>e=.returned (.bool ((k:Int)==s.size))∧∃n,w'=w.drewN n:=by
 have c0:=hr.c0
 have c1:=hr.c1
 unfold me
 go_enter Tryz.func114,Tryz.ntmps114
 go_wp2
 go_quiet (fail)
 go_wp2
 go_ret
 exact⟨rfl,_,rfl⟩
theorem passSpace_any (hr:Reader w R s k SH SG cap) (hk:k≤s.size) (hs:s.size≤9223372036854775807):
  Calls Tryz.prog 113 #[me R] w fun e w'=>e=.returned (.tuple #[])∧∃n,w'=(w.setCell ⟨R,1,none⟩ (.int .i64 ((k:Int)+twI isSp (rest s k)))).drewN n:=by
 have c0:=hr.c0
 have c1:=hr.c1
 have f1:=hr.f1
 have hb:=twI_bd isSp (rest s k)
 have hz:=zbE s k
 have b0:0≤twI isSp (rest s k):=hb.1
 have b1:(k:Int)+twI isSp (rest s k)≤9223372036854775807:=by omega
 have HR:=hid hr
 have HK:=hid hk
 have HS:=hid hs
 have HZ:=hid hz
 have HW:Hid (IntKind.i64.wrap ((k:Int)+twI isSp (rest s k))=(k:Int)+twI isSp (rest s k)):=hid (IntWalk.i64_in _ (by omega))
 clear hr hk hs hz hb
 unfold me
 go_enter Tryz.func113,Tryz.ntmps113
 go_wp2
 go_region_with (first
  | (go_at_call 171;refine(zca (by first | exact HR.out | exact HR.out.drew | exact HR.out.drew.drew) HK.out).mono ?_;rintro e w' ⟨rfl,n,rfl⟩)
  | (go_at_call 107;refine(extent_sp _ (by have:=HZ.out;have:=HS.out;omega) _).mono ?_;rintro e w' ⟨rfl,rfl⟩))
 all_goals
  go_end0
  refine⟨rfl,1+n,?_⟩
  rw[HW.out]
  rfl
theorem pass_any (kd:Int) (t:ByteArray) (n at':Int) (hr:Reader w R s k SH SG cap) (hk:k+t.size≤9223372036854775807):
  Calls Tryz.prog 116 #[me R,.agg #[.int .i64 kd,.string t,.int .u64 n,.int .i64 at']] w fun e w'=>e=.returned (.tuple #[])∧∃o n,w'=((w.setCell ⟨R,1,none⟩ (.int .i64 ((k:Int)+t.size))).alloc o).drewN n:=by
 have hlt:=lt_of_block hr.blk
 have c1:=(hr.on ((Below.refl _ _).alloc (Nat.le_refl _) (.cells #[.int .i64 kd,.string t,.int .u64 n,.int .i64 at'] 175))).c1
 have f1:=(hr.on ((Below.refl _ _).alloc (Nat.le_refl _) (.cells #[.int .i64 kd,.string t,.int .u64 n,.int .i64 at'] 175))).f1
 clear hr
 unfold me
 go_enter Tryz.func116,Tryz.ntmps116
 go_wp2
 go_region
 all_goals
  go_end0
  exact⟨rfl,_,1,rfl⟩
end
end Go.Proofs.YtljbbhhiiiepcaaGreatDoor.Lx
namespace Go.Proofs.YtljbbhhiiiepcaaGreatDoor.Lx
open Go Go.RowKit
open Go.Lib (hid)
structure Errs (w0:World):Prop where
 syn:∃tp p,w0.var? Tryz.prog "strconv.ErrSyntax"=some #[.iface tp p]
 rng:∃tp p,w0.var? Tryz.prog "strconv.ErrRange"=some #[.iface tp p]
theorem var_on {w0 w:World} {n:String} {cs:Array Value} (h:w0.var? Tryz.prog n=some cs) (hp:Past w0 w):w.var? Tryz.prog n=some cs:=by
 unfold World.var? at h ⊢
 cases hg:Tryz.prog.globalNamed n with
 | none=>simp[hg] at h
 | some g =>
  simp only[hg,Option.bind_some] at h ⊢
  have hlt:g < w0.heap.size:=by
   rcases Nat.lt_or_ge g w0.heap.size with h' | h'
   ·exact h'
   ·simp[Array.getElem?_eq_none h'] at h
  rw[hp.block g hlt]
  exact h
theorem Errs.on {w0 w:World} (h:Errs w0) (hp:Past w0 w):Errs w:=
 ⟨h.syn.imp fun _ x=>x.imp fun _ y=>var_on y hp,h.rng.imp fun _ x=>x.imp fun _ y=>var_on y hp⟩
section
variable {w:World} {R:Nat} {s:ByteArray} {k:Nat} {SH SG cap:Nat}
theorem zbZ (hr:Reader w R s k SH SG cap) (hk:k < s.size):
  Calls Tryz.prog 163 #[me R] w fun e w'=>e=.returned (.bool (ltI (s[k].toNat:Int)))∧∃n,w'=w.drewN n:=by
 have c0:=hr.c0
 have c1:=hr.c1
 clear hr
 unfold me
 go_enter Tryz.func163,Tryz.ntmps163
 go_wp2
 go_quiet ((go_at_call 106;exact Calls.quiet_of_same ((zbq _ _).mono fun _ _ ⟨a,b⟩=>⟨a,b.symm⟩)))
 go_wp2
 go_ret
 exact⟨rfl,_,rfl⟩
theorem zcW (hr:Reader w R s k SH SG cap) (hk:k < s.size):
  Calls Tryz.prog 165 #[me R] w fun e w'=>e=.returned (.bool (dgI (s[k].toNat:Int)))∧∃n,w'=w.drewN n:=by
 have c0:=hr.c0
 have c1:=hr.c1
 clear hr
 unfold me
 go_enter Tryz.func165,Tryz.ntmps165
 go_wp2
 go_quiet ((go_at_call 157;exact Calls.quiet_of_same ((zbS _ _).mono fun _ _ ⟨a,b⟩=>⟨a,b.symm⟩)))
 go_wp2
 go_ret
 exact⟨rfl,_,rfl⟩
theorem atTag_any (hr:Reader w R s k SH SG cap) (hk:k < s.size):
  Calls Tryz.prog 167 #[me R] w fun e w'=>e=.returned (.bool ((s[k].toNat:Int)==64))∧∃n,w'=w.drewN n:=by
 have c0:=hr.c0
 have c1:=hr.c1
 clear hr
 unfold me
 go_enter Tryz.func167,Tryz.ntmps167
 go_wp2
 go_quiet (fail)
 go_wp2
 go_ret
 exact⟨rfl,_,rfl⟩
def zbA (l:List UInt8) (i:Nat):ByteArray:=⟨((zaX.take i).foldl (zcH l) []).toArray⟩
theorem best_succ (l:List UInt8) (i:Nat) (h:i < 29):(zbA l (i+1))=if ((zbA l i).size < (sgAt i).size∧Lib.hasPrefix l (sgAt i).data.toList=true) then sgAt i else zbA l i:=by
 have hl:i < zaX.length:=h
 have e:zaX.take (i+1)=zaX.take i++[zaX.getD i []]:=by
  rw[List.take_succ_eq_append_getElem hl,List.getD_eq_getElem?_getD,List.getElem?_eq_getElem hl];rfl
 have hz:∀l:List UInt8,(ByteArray.mk l.toArray).size=l.length:=fun l=>by show l.toArray.size=_;simp
 unfold zbA
 rw[e,List.foldl_append]
 show ByteArray.mk (List.toArray (zcH l _ (zaX.getD i [])))=_
 unfold zcH sgAt
 rw[hz,hz]
 split
 all_goals
  rfl
theorem best_end (l:List UInt8):(zbA l 29).data.toList=zaB l:=by
 unfold zbA zaB
 rw[List.take_of_length_le (by decide)]
theorem best_size (l:List UInt8) (i:Nat):(zbA l i).size≤2:=by
 induction i with
 | zero=>show(0:Nat)≤2;omega
 | succ i ih =>
  by_cases h:i < 29
  ·rw[best_succ l i h]
   split
   ·have:∀i:Fin 29,(sgAt i.val).size≤2:=by decide +kernel
    exact this ⟨i,h⟩
   ·exact ih
  ·have e:zbA l (i+1)=zbA l i:=by
    unfold zbA
    rw[List.take_of_length_le (show zaX.length≤i+1 from by show 29≤i+1;omega),List.take_of_length_le (show zaX.length≤i from by show 29≤i;omega)]
   rw[e];exact ih
theorem sg_size (i:Nat) (h:i < 29):(sgAt i).size≤2:=by
 have:∀i:Fin 29,(sgAt i.val).size≤2:=by decide +kernel
 exact this ⟨i,h⟩
theorem zdS (hr:Reader w R s k SH SG cap) (hk:k≤s.size):
  Calls Tryz.prog 205 #[me R] w fun e w'=>e=.returned (.string (zbA (rest s k).data.toList 29))∧∃n,w'=w.drewN n:=by
 have HR:=hid hr
 have HK:=hid hk
 have c3:=hr.c3
 clear hr hk
 unfold me
 go_enter Tryz.func205,Tryz.ntmps205
 go_wp2
 go_loopw [3,11] (fun b i wr=>∃j:Nat,j≤29∧i=.int .i64 j∧b=.string (zbA (rest s k).data.toList j)∧∃n,wr=w.drewN n) (fun _ i _=>29 - (intOf i).toNat)
 case atStart=>exact⟨0,by omega,rfl,rfl,0,rfl⟩
 case round =>
  obtain⟨j,hj,rfl,rfl,m,rfl⟩:=hrel
  by_cases hlt:j < 29
  ·have hc:=(HR.out.drewN m).sgn j hlt
   have HB:=hid (best_succ (rest s k).data.toList j hlt)
   have z1:=best_size (rest s k).data.toList j
   have z2:=sg_size j hlt
   by_cases hs:(zbA (rest s k).data.toList j).size < (sgAt j).size
   ·cases hp:Lib.hasPrefix (rest s k).data.toList (sgAt j).data.toList
    all_goals
     go_wp2_with (first
      | (go_at_call 171;refine(zca (HR.out.drewN m) HK.out).mono ?_;rintro e w' ⟨rfl,n,rfl⟩)
      | (go_at_call 223;refine(Tryz.strings_HasPrefix _ _ _).mono ?_;rintro e w' ⟨rfl,rfl⟩))
     go_roundw
     case rel=>exact⟨j+1,by omega,by go_num,by rw[HB.out];simp[hs,hp],_,rfl⟩
     case measure=>simp[intOf];omega
   ·go_wp2
    go_roundw
    case rel=>exact⟨j+1,by omega,by go_num,by rw[HB.out];simp[hs],_,rfl⟩
    case measure=>simp[intOf];omega
  ·obtain rfl:j=29:=by omega
   go_wp2
   go_ret
   exact⟨rfl,_,rfl⟩
end
end Go.Proofs.YtljbbhhiiiepcaaGreatDoor.Lx
namespace Go.Proofs.YtljbbhhiiiepcaaGreatDoor.Lx
open Go Go.RowKit
open Go.Lib (hid)
def valN (most:Nat) (l:List UInt8):Int:=((zbC most l).getD 0:Nat)
def valB (most:Nat) (l:List UInt8):Bool:=(zbC most l).isSome
def Parsed (u:Int) (w:World) (e:Ending) (w':World):Prop:=e=.returned (.tuple #[.int .u64 u,.nilIface])∧Below w.heap.size w w'
def Unparsed (w:World) (e:Ending) (w':World):Prop:=∃(v:Int) (a:Value),e=.returned (.tuple #[.int .u64 v,.iface 277 a])∧Below w.heap.size w w'
theorem zd2 (s:ByteArray):s.data.toList.length=s.size:=by simp
section
variable {w:World}
theorem zcX (s:ByteArray) (hz:s.size≤281474976710656) (u:Nat) (h:Lib.parseUintB 64 s.data.toList=.ok u):
  Calls Tryz.prog 222 #[.string s,.int .i64 10,.int .i64 64] w (Parsed u w):=
 (Tryz.strconv_ParseUint_10_at64_ok s (by omega) u h w).mono fun e w' ⟨he,hw⟩=>⟨he,by
  rcases hw with rfl | rfl
  ·exact Below.refl _ _
  ·exact Lib.bytesWorld_below _ _ _⟩
theorem parse_no (s:ByteArray) (hz:s.size≤281474976710656) (h:∀u,Lib.parseUintB 64 s.data.toList≠.ok u) (H:Errs w):
  Calls Tryz.prog 222 #[.string s,.int .i64 10,.int .i64 64] w (Unparsed w):=by
 obtain⟨⟨t1,p1,h1⟩,⟨t2,p2,h2⟩⟩:=H
 rcases e:Lib.parseUintB 64 s.data.toList with u | _ | _
 ·exact absurd e (h u)
 ·exact(Any.strconv_ParseUint_10_at64_syntax_var Tryz.laysPu14 s hz e t1 p1 w h1).mono fun e w' ⟨N,he,_,_,hb⟩=>⟨_,_,he,hb⟩
 ·exact(Any.strconv_ParseUint_10_at64_range_var Tryz.laysPu14 s hz e t2 p2 w h2).mono fun e w' ⟨N,he,_,_,hb⟩=>⟨_,_,he,hb⟩
def Valued (most:Nat) (l:List UInt8) (w:World) (e:Ending) (w':World):Prop:=e=.returned (.tuple #[.int .u64 (valN most l),.bool (valB most l)])∧Below w.heap.size w w'
theorem zck {most:Nat} {l:List UInt8} {w':World} (h:zbC most l=none) (hb:Below w.heap.size w w'):Valued most l w (.returned (.tuple #[.int .u64 0,.bool false])) w':=by
 unfold Valued valN valB;rw[h];exact⟨rfl,hb⟩
theorem valued_some {most u:Nat} {l:List UInt8} {w':World} (h:zbC most l=some u) (hb:Below w.heap.size w w'):Valued most l w (.returned (.tuple #[.int .u64 u,.bool true])) w':=by
 unfold Valued valN valB;rw[h];exact⟨rfl,hb⟩
theorem head_byte (s:ByteArray) (h:1 < s.size):s.data.toList.head?=some (s[0]'(by omega)):=by
 have:0 < s.data.toList.length:=by simp;omega
 rw[List.head?_eq_getElem?,List.getElem?_eq_getElem this]
 rfl
theorem value_any (s:ByteArray) (M:Int) (most:Nat) (hM:M=(most:Int)) (hz:s.size≤281474976710656) (H:Errs w):
  Calls Tryz.prog 204 #[.string s,.int .u64 M] w (Valued most s.data.toList w):=by
 have HH:=hid H
 have HZ:=hid hz
 by_cases h0:1 < s.size∧s.data.toList.head?=some 48
 ·have HN:Hid (zbC most s.data.toList=none):=hid (by unfold zbC;rw[if_pos (by rw[zd2];exact h0)])
  obtain⟨h1,h2⟩:=h0
  have h3:((s[0]'(by omega)).toNat:Int)=48:=by
   rw[head_byte s h1,Option.some.injEq] at h2
   rw[h2];rfl
  have h4:(((s[0]'(by omega)).toNat:Int)==48)=true:=by rw[h3];rfl
  clear h2 h3
  go_enter Tryz.func204,Tryz.ntmps204
  go_wp2
  all_goals first | (exfalso;omega) | (go_ret2;exact zck HN.out (Below.refl _ _))
 ·have hc:¬1 < s.size∨(1 < s.size∧∀h:1 < s.size,(((s[0]'(by omega)).toNat:Int)==48)=false):=by
   by_cases h1:1 < s.size
   ·refine .inr ⟨h1,fun h=>?_⟩
    have h2:¬s.data.toList.head?=some 48:=fun e=>h0 ⟨h1,e⟩
    rw[head_byte s h1,Option.some.injEq] at h2
    simp only[beq_eq_false_iff_ne,ne_eq]
    intro e
    exact h2 (UInt8.toNat_inj.1 (by have:(48:UInt8).toNat=48:=rfl;omega))
   ·exact .inl h1
  have e0:zbC most s.data.toList=match Lib.parseUintB 64 s.data.toList with | .ok u=>if most < u then none else some u | _=>none:=by
   unfold zbC;rw[if_neg (by rw[zd2];exact h0)];cases Lib.parseUintB 64 s.data.toList<;>rfl
  clear h0
  by_cases hp:∃u,Lib.parseUintB 64 s.data.toList=.ok u
  ·obtain⟨u,hp⟩:=hp
   rw[hp] at e0
   simp only at e0
   have HP:=hid hp
   clear hp
   by_cases hm:M < (u:Int)
   ·have HN:Hid (zbC most s.data.toList=none):=hid (by rw[e0,if_pos (by omega)])
    clear e0 hM
    rcases hc with hc | ⟨hc,hd⟩
    ·go_enter Tryz.func204,Tryz.ntmps204
     go_wp2_with (go_at_call 222;refine(zcX s HZ.out u HP.out).mono ?_;rintro e w' ⟨rfl,hb⟩)
     all_goals first | (exfalso;omega) | (go_ret2;exact zck HN.out hb)
    ·have hd':=hd hc
     clear hd
     go_enter Tryz.func204,Tryz.ntmps204
     go_wp2_with (go_at_call 222;refine(zcX s HZ.out u HP.out).mono ?_;rintro e w' ⟨rfl,hb⟩)
     all_goals first | (exfalso;omega) | (go_ret2;exact zck HN.out hb)
   ·have HN:Hid (zbC most s.data.toList=some u):=hid (by rw[e0,if_neg (by omega)])
    clear e0 hM
    rcases hc with hc | ⟨hc,hd⟩
    ·go_enter Tryz.func204,Tryz.ntmps204
     go_wp2_with (go_at_call 222;refine(zcX s HZ.out u HP.out).mono ?_;rintro e w' ⟨rfl,hb⟩)
     all_goals first | (exfalso;omega) | (go_ret2;exact valued_some HN.out hb)
    ·have hd':=hd hc
     clear hd
     go_enter Tryz.func204,Tryz.ntmps204
     go_wp2_with (go_at_call 222;refine(zcX s HZ.out u HP.out).mono ?_;rintro e w' ⟨rfl,hb⟩)
     all_goals first | (exfalso;omega) | (go_ret2;exact valued_some HN.out hb)
  ·have hp':∀u,Lib.parseUintB 64 s.data.toList≠.ok u:=fun u e=>hp ⟨u,e⟩
   have HP:=hid hp'
   have HN:Hid (zbC most s.data.toList=none):=hid (by
    rw[e0]
    rcases e:Lib.parseUintB 64 s.data.toList with u | _ | _
    ·exact absurd e (hp' u)
    ·rfl
    ·rfl)
   clear hp hp' e0 hM
   rcases hc with hc | ⟨hc,hd⟩
   ·go_enter Tryz.func204,Tryz.ntmps204
    go_wp2_with (go_at_call 222;refine(parse_no s HZ.out HP.out HH.out).mono ?_;rintro e w' ⟨v,a,rfl,hb⟩)
    all_goals first | (exfalso;omega) | (go_ret2;exact zck HN.out hb)
   ·have hd':=hd hc
    clear hd
    go_enter Tryz.func204,Tryz.ntmps204
    go_wp2_with (go_at_call 222;refine(parse_no s HZ.out HP.out HH.out).mono ?_;rintro e w' ⟨v,a,rfl,hb⟩)
    all_goals first | (exfalso;omega) | (go_ret2;exact zck HN.out hb)
end
end Go.Proofs.YtljbbhhiiiepcaaGreatDoor.Lx
