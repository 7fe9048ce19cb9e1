/- What the writer writes of a right expression. -/
import Derived.Test.YtljbbhhiiiepcaaGreatDoorLShelf
import Derived.Test.YtljbbhhiiiepcaaGreatDoorTHeap
import Derived.Deep.QuietTactic
import Derived.BigQuiet
import Derived.Deep.RegionWith
import Derived.BigRegion
import Derived.Lib.AppendIntMem
import Derived.Deep.DeepCutAuto
set_option linter.unusedSimpArgs false
set_option linter.unusedVariables false
set_option maxHeartbeats 8000000
set_option maxRecDepth 100000
namespace Go.Proofs.YtljbbhhiiiepcaaGreatDoor
open Go Go.RowKit
open Go.Lib (hid)
def Past (w0 w:World):Prop:=Below w0.heap.size w0 w
theorem Past.refl (w:World):Past w w:=Below.refl _ _
theorem Past.on {w0 w w':World} (h:Past w0 w) (hb:Below w.heap.size w w'):Past w0 w':=Below.trans h (hb.mono h.size)
theorem Past.alloc {w0 w:World} (h:Past w0 w) (o:Obj):Past w0 (w.alloc o):=Below.alloc h h.size o
theorem Past.drew {w0 w:World} (h:Past w0 w):Past w0 w.drew:=Below.drew h
theorem Past.went {w0 w w':World} {B b:Nat} {bs:List UInt8} {k:Int} (h:Past w0 w) (hB:w0.heap.size≤B) (g:Went B b bs k w w'):Past w0 w':=Below.trans h (g.below.mono hB)
def Pow (w0:World):Prop:=Lib.TabBelow Tryz.prog w0.heap.size w0 "internal/strconv.uint64pow10" .u64 Lib.pow10Tab
def txt (n:Int):ByteArray:=⟨(Lib.itoa n).toArray⟩
theorem zdk {w0:World} (H:Pow w0) (n:Int) (hn:-9223372036854775808≤n∧n≤9223372036854775807) (w:World) (h:Past w0 w):
  Calls Tryz.prog 215 #[.int .i64 n] w fun e w'=>e=.returned (.string (txt n))∧Below w.heap.size w w':=by
 have ht:Hid (Lib.TabIs Tryz.prog w "internal/strconv.uint64pow10" .u64 Lib.pow10Tab):=hid (H w h)
 obtain⟨h0,h1⟩:=hn
 go_enter Tryz.func215,Tryz.ntmps215
 go_wp2_with (go_at_call 232;refine(Tryz.strconv_FormatInt_10 _ (by assumption) (by assumption) _ ht.out).mono ?_;rintro e w' ⟨rfl,k,os,rfl⟩)
 go_ret
 exact⟨rfl,Lib.below_grow _ _ (Nat.le_refl _) _ _⟩
theorem Wr.on {B b:Nat} {bs:List UInt8} {k:Int} {w w':World} (h:Wr B b bs k w) (hb:Below w.heap.size w w'):Went B b bs k w w':=by
 have hlt:=h.lt
 obtain⟨hB,p,v,hp,hbk,ho,hne⟩:=h
 refine⟨⟨hB,p,v,hp,(hb.block b hlt).trans hbk,?_,hne⟩,hb.mono (by omega),fun q o _ hq _=>(hb.block q (lt_of_block hq)).trans hq⟩
 exact ho.kept (row:=none) ⟨hb.os,hb.tape,hb.output,hb.size,fun k hk _=>hb.block k hk⟩ (by cases hv:v.ownBlock<;>simp)
abbrev ptrW (b:Nat):Value:=.pointer (some ⟨b,0,none⟩)
def ExprDoes (w0:World) (f:FuncId) (T:Value) (txt:List UInt8):Prop:=
 ∀(B b:Nat) (bs:List UInt8) (k:Int) (w:World),w0.heap.size≤B→Wr B b bs k w→Past w0 w→bs.length+txt.length≤140737488355328 →
  Calls Tryz.prog f #[ptrW b,T] w fun e w'=>e=.returned (.tuple #[])∧Went B b (bs++txt) k w w'
theorem Keeps.box {b:Nat} {w w':World} (h:Keeps b w w') {q:Nat} {cs:Array Value} {t:TypeId} {fr:Nat×Nat} (hq:w.heap[q]?=some (.cells cs t fr)) (hne:q≠b) (ht:t≠5):w'.heap[q]?=some (.cells cs t fr):=
 h q _ hne hq (fun c f e=>by simp only[Obj.cells.injEq] at e;exact ht e.2.1)
theorem zao {w:World} {n:Nat} (o:Obj) (h:w.heap.size=n):(w.alloc o).heap[n]?=some o:=by subst h;exact zaj w o
theorem zbp {w:World} {b:Nat} {t:TypeId} {fr:Nat×Nat} {v0 v1 v2 v3 v4:Value} (h:w.heap[b]?=some (.cells #[v0,v1,v2,v3,v4] t fr)):
  w.cell? ⟨b,0,none⟩=some v0∧w.cell? ⟨b,1,none⟩=some v1∧w.cell? ⟨b,2,none⟩=some v2∧w.cell? ⟨b,3,none⟩=some v3∧w.cell? ⟨b,4,none⟩=some v4:=
 ⟨zab h rfl,zab h rfl,zab h rfl,zab h rfl,zab h rfl⟩
theorem za7 (s:ByteArray):catB [s]=s.data.toList:=by simp[catB]
theorem zbv {w0:World} {kk:Int} {oo:ByteArray} {nn:Int} {mm:ByteArray} {vv:Value} {tx:List UInt8} (HX:ExprDoes w0 218 (.agg #[.int .i64 kk,.string oo,.int .i64 nn,.string mm,vv]) tx)
  (s1 s2:ByteArray) (B b:Nat) (bs:List UInt8) (k:Int) (w:World) (hB:w0.heap.size≤B) (h:Wr B b bs k w) (hp:Past w0 w) (hlen:bs.length+(s1.size+tx.length+s2.size)≤140737488355328):
  Calls Tryz.prog 216 #[ptrW b,.string s1,.agg #[.int .i64 kk,.string oo,.int .i64 nn,.string mm,vv],.string s2] w fun e w'=>e=.returned (.tuple #[])∧Went B b (bs++(s1.data.toList++(tx++s2.data.toList))) k w w':=by
 have z1:s1.data.toList.length=s1.size:=Array.length_toList
 have z2:s2.data.toList.length=s2.size:=Array.length_toList
 have L1:Hid (bs.length+(catB [s1]).length≤140737488355328):=hid (by rw[za7,z1];omega)
 have L2:Hid ((bs++catB [s1]).length+tx.length≤140737488355328):=hid (by rw[List.length_append,za7,z1];omega)
 have L3:Hid (((bs++catB [s1])++tx).length+(catB [s2]).length≤140737488355328):=hid (by rw[List.length_append,List.length_append,za7,za7,z1,z2];omega)
 have HW:=hid h
 have HP:=hid hp
 have HB:=hid hB
 have hlt:=hid h.lt
 have HX':=hid HX
 clear h hp hB hlen z1 z2 HX
 go_enter Tryz.func216,Tryz.ntmps216
 go_wp2_with (first
  | (go_at_call 124;have hx:=zaF (G2.out.wr.alloc (.cells #[.string s2] 9)) w2.heap.size 1 [s2] _ (zaj _ _) rfl (by simp) L3.out;refine hx.mono ?_;clear hx;rintro e w3 ⟨rfl,g3⟩;have G3:=hid ((G2.out.alloc _).trans g3);clear g3)
  | (go_at_call 218;have hx:=HX'.out B b _ k _ HB.out G1.out.wr (HP.out.went HB.out G1.out) L2.out;refine hx.mono ?_;clear hx;rintro e w2 ⟨rfl,g2⟩;have G2:=hid (G1.out.trans g2);clear g2)
  | (go_at_call 124;refine(zaF ((HW.out.alloc _).alloc _) (w.heap.size+1) 1 [s1] _ (zao _ (by simp)) rfl (by simp) L1.out).mono ?_;rintro e w1 ⟨rfl,g1⟩;have G1:=hid (((HW.out.went.alloc _).alloc _).trans g1);have hbox:=g1.keeps.box (zai _ (zaj w _)) (Nat.ne_of_gt hlt.out) (by decide);obtain⟨c0,c1,c2,c3,c4⟩:=zbp hbox;clear g1 hbox))
 go_end0
 refine⟨rfl,?_⟩
 have:=G3.out
 rw[za7,za7,List.append_assoc,List.append_assoc] at this
 exact this
end Go.Proofs.YtljbbhhiiiepcaaGreatDoor
namespace Go.Proofs.YtljbbhhiiiepcaaGreatDoor
open Go Go.RowKit
open Go.Lib (hid)
theorem Went.drew {B b:Nat} {bs:List UInt8} {k:Int} {w w1:World} (h:Went B b bs k w w1):Went B b bs k w w1.drew:=⟨h.wr.drew,h.below.drew,h.keeps.drew⟩
theorem box5 {w w':World} {q:Nat} {t:TypeId} {fr:Nat×Nat} {v0 v1 v2 v3 v4:Value} (hq:w.heap[q]?=some (.cells #[v0,v1,v2,v3,v4] t fr)) (hb:Below w.heap.size w w'):
  w'.cell? ⟨q,0,none⟩=some v0∧w'.cell? ⟨q,1,none⟩=some v1∧w'.cell? ⟨q,2,none⟩=some v2∧w'.cell? ⟨q,3,none⟩=some v3∧w'.cell? ⟨q,4,none⟩=some v4:=
 zbp ((hb.block q (lt_of_block hq)).trans hq)
theorem below_any (k:Int) (o:ByteArray) (n:Int) (m:ByteArray) (v:Value) (lv:Int) (w:World):
  Calls Tryz.prog 271 #[.agg #[.int .i64 k,.string o,.int .i64 n,.string m,v],.int .i64 lv] w fun e w'=>e=.returned (.bool (k==4&&decide (zar o < lv)))∧Below w.heap.size w w':=by
 by_cases hk:k=4
 ·subst hk
  go_enter Tryz.func271,Tryz.ntmps271
  go_wp2_with (go_at_call 202;refine(zcl _ _).mono ?_;rintro e w1 ⟨rfl,hb⟩)
  go_ret
  exact⟨by simp,((Below.refl _ _).alloc (Nat.le_refl _) _).trans (hb.mono (by simp))⟩
 ·have hk':(k==4)=false:=by simpa using hk
  go_enter Tryz.func271,Tryz.ntmps271
  go_wp2_with fail
  go_ret
  exact⟨by simp[hk'],(Below.refl _ _).alloc (Nat.le_refl _) _⟩
theorem operand_of {w0:World} {kk:Int} {oo:ByteArray} {nn:Int} {mm:ByteArray} {vv:Value} {tx:List UInt8} (HX:ExprDoes w0 218 (.agg #[.int .i64 kk,.string oo,.int .i64 nn,.string mm,vv]) tx) (br:Bool)
  (B b:Nat) (bs:List UInt8) (k:Int) (w:World) (hB:w0.heap.size≤B) (h:Wr B b bs k w) (hp:Past w0 w) (hlen:bs.length+(inBr br tx).length≤140737488355328):
  Calls Tryz.prog 270 #[ptrW b,.agg #[.int .i64 kk,.string oo,.int .i64 nn,.string mm,vv],.bool br] w fun e w'=>e=.returned (.tuple #[])∧Went B b (bs++inBr br tx) k w w':=by
 have HW:=hid h
 have HP:=hid hp
 have HB:=hid hB
 cases br with
 | true =>
  have L:=hid hlen
  have HA:=hid (zbv HX {data:=#[40]} {data:=#[41]} B b bs k)
  clear h hp hB hlen HX
  go_enter Tryz.func270,Tryz.ntmps270
  go_wp2_with (go_at_call 216;have hx:=HA.out _ HB.out (HW.out.alloc (.cells #[.int .i64 kk,.string oo,.int .i64 nn,.string mm,vv] 68)) (HP.out.alloc _) (by have:=L.out;simp[inBr,ByteArray.size] at this ⊢;omega);refine hx.mono ?_;clear hx;rintro e w2 ⟨rfl,g2⟩;have G2:=hid ((HW.out.went.alloc _).trans g2);clear g2)
  go_end0
  exact⟨rfl,G2.out⟩
 | false =>
  have L:=hid hlen
  have HX':=hid HX
  clear h hp hB hlen HX
  go_enter Tryz.func270,Tryz.ntmps270
  go_wp2_with (go_at_call 218;have hx:=HX'.out B b bs k _ HB.out (HW.out.alloc (.cells #[.int .i64 kk,.string oo,.int .i64 nn,.string mm,vv] 68)) (HP.out.alloc _) L.out;refine hx.mono ?_;clear hx;rintro e w2 ⟨rfl,g2⟩;have G2:=hid ((HW.out.went.alloc _).trans g2);clear g2)
  go_end0
  exact⟨rfl,G2.out⟩
def brB (s:ByteArray) (k n:Int):Bool:=k==4||(s.toList==[45]&&k==0&&decide (0≤n))
theorem unary_of {w0:World} {kk:Int} {oo:ByteArray} {nn:Int} {mm:ByteArray} {vv:Value} {tx:List UInt8} (HX:ExprDoes w0 218 (.agg #[.int .i64 kk,.string oo,.int .i64 nn,.string mm,vv]) tx) (s:ByteArray)
  (B b:Nat) (bs:List UInt8) (k:Int) (w:World) (hB:w0.heap.size≤B) (h:Wr B b bs k w) (hp:Past w0 w) (hlen:bs.length+(s.size+(inBr (brB s kk nn) tx).length)≤140737488355328):
  Calls Tryz.prog 233 #[ptrW b,.string s,.agg #[.int .i64 kk,.string oo,.int .i64 nn,.string mm,vv]] w fun e w'=>e=.returned (.tuple #[])∧Went B b (bs++(s.data.toList++inBr (brB s kk nn) tx)) k w w':=by
 have z1:s.data.toList.length=s.size:=Array.length_toList
 have L1:Hid (bs.length+(catB [s]).length≤140737488355328):=hid (by rw[za7,z1];omega)
 have L2:Hid ((bs++catB [s]).length+(inBr (brB s kk nn) tx).length≤140737488355328):=hid (by rw[List.length_append,za7,z1];omega)
 have HW:=hid h
 have HP:=hid hp
 have HB:=hid hB
 have hlt:=hid h.lt
 clear h hp hB hlen z1
 have key:brB s kk nn=true∧(kk=4∨(¬kk=4∧(s.toList==[45])=true∧kk=0∧decide (0≤nn)=true))∨brB s kk nn=false∧¬kk=4∧((s.toList==[45])=false∨((s.toList==[45])=true∧(¬kk=0∨(kk=0∧decide (0≤nn)=false)))):=by
  unfold brB
  by_cases h4:kk=4
  ·left;simp[h4]
  ·have h4':(kk==4)=false:=by simpa using h4
   cases hs:(s.toList==[45]) with
   | false=>right;simp[h4',h4]
   | true =>
    by_cases h0:kk=0
    ·by_cases hn:0≤nn
     ·left;simp[h4',h0,hn]
     ·right;simp[h0,hn]
    ·right;simp[h4,h0]
 generalize brB s kk nn=br at key L2 ⊢
 have HO:=hid (operand_of HX br B b (bs++catB [s]) k)
 clear HX
 rcases key with ⟨rfl,(rfl | ⟨h1,h2,rfl,h4⟩)⟩ | ⟨rfl,h1,(h2 | ⟨h2,(h3 | ⟨rfl,h4⟩)⟩)⟩
 all_goals
  go_enter Tryz.func233,Tryz.ntmps233
  go_wp2_with (first
   | (go_at_call 270;have hx:=HO.out _ HB.out G1.out.wr (HP.out.went HB.out G1.out) L2.out;refine hx.mono ?_;clear hx;rintro e w2 ⟨rfl,g2⟩;have G2:=hid (G1.out.trans g2);clear g2)
   | (go_at_call 124;refine(zaF ((HW.out.alloc _).alloc _) (w.heap.size+1) 1 [s] _ (zao _ (by simp)) rfl (by simp) L1.out).mono ?_;rintro e w1 ⟨rfl,g1⟩;have G1:=hid (((HW.out.went.alloc _).alloc _).trans g1);have hbox:=g1.keeps.box (zai _ (zaj w _)) (Nat.ne_of_gt hlt.out) (by decide);obtain⟨c0,c1,c2,c3,c4⟩:=zbp hbox;clear g1 hbox))
  go_end0
  refine⟨rfl,?_⟩
  have:=G2.out
  rw[za7,List.append_assoc] at this
  exact this
theorem brB_un (c:UInt8) {T:ET} (h:T.rightB=true):brB {data:=#[c]} T.kind T.n=unBr c T.re:=by
 have e:({data:=#[c]}:ByteArray).toList=[c]:=by rw[ByteArray.toList_eq]
 have e2:(([c]:List UInt8)==[45])=(c==45):=by simp
 rcases zc0 h with ⟨n,a,c,rfl⟩ | ⟨s,a,c,hs,rfl⟩ | ⟨s,a,c,f,hs,he,rfl⟩ | ⟨o,a,c,f,ho,he,rfl⟩ | ⟨o,a,c,f,g,ho,he,hf,rfl⟩
 ·simp[brB,unBr,ET.kind,ET.n,ET.re,RE.isBin,RE.pos,e];rfl
 ·simp[brB,unBr,ET.kind,ET.n,ET.re,RE.isBin,RE.pos]
 ·simp[brB,unBr,ET.kind,ET.n,ET.re,RE.isBin,RE.pos]
 ·simp[brB,unBr,ET.kind,ET.n,ET.re,RE.isBin,RE.pos]
 ·simp[brB,unBr,ET.kind,ET.n,ET.re,RE.isBin,RE.pos]
theorem lower_is {T:ET} (h:T.rightB=true) (lv:Int):(T.kind==4&&decide (zar T.op < lv))=T.re.lower levL lv:=by
 rcases zc0 h with ⟨n,a,c,rfl⟩ | ⟨s,a,c,hs,rfl⟩ | ⟨s,a,c,f,hs,he,rfl⟩ | ⟨o,a,c,f,ho,he,rfl⟩ | ⟨o,a,c,f,g,ho,he,hf,rfl⟩
 ·simp[ET.kind,ET.re,RE.lower]
 ·simp[ET.kind,ET.re,RE.lower]
 ·simp[ET.kind,ET.re,RE.lower]
 ·simp[ET.kind,ET.re,RE.lower]
 ·simp[ET.kind,ET.op,ET.re,RE.lower,levL_is];rfl
theorem levelV_le (o:ByteArray):0≤zar o∧zar o≤10:=by
 unfold zar
 repeat' split
 all_goals omega
theorem binary_of {w0:World} {k1:Int} {o1:ByteArray} {n1:Int} {m1:ByteArray} {v1:Value} {t1:List UInt8} (H1:ExprDoes w0 218 (.agg #[.int .i64 k1,.string o1,.int .i64 n1,.string m1,v1]) t1)
  {k2:Int} {o2:ByteArray} {n2:Int} {m2:ByteArray} {v2:Value} {t2:List UInt8} (H2:ExprDoes w0 218 (.agg #[.int .i64 k2,.string o2,.int .i64 n2,.string m2,v2]) t2) (s:ByteArray) (br1 br2:Bool)
  (hb1:(k1==4&&decide (zar o1 < zar s))=br1) (hb2:(k2==4&&decide (zar o2 < zar s+1))=br2)
  (B b:Nat) (bs:List UInt8) (k:Int) (w:World) (hB:w0.heap.size≤B) (h:Wr B b bs k w) (hp:Past w0 w) (hlen:bs.length+((inBr br1 t1).length+(s.size+2+(inBr br2 t2).length))≤140737488355328):
  Calls Tryz.prog 234 #[ptrW b,.string s,.agg #[.int .i64 k1,.string o1,.int .i64 n1,.string m1,v1],.agg #[.int .i64 k2,.string o2,.int .i64 n2,.string m2,v2]] w fun e w'=>e=.returned (.tuple #[])∧Went B b (bs++(inBr br1 t1++32 :: (s.data.toList++32 :: inBr br2 t2))) k w w':=by
 have z1:s.data.toList.length=s.size:=Array.length_toList
 obtain⟨hl0,hl1⟩:=levelV_le s
 have ec:catB [{data:=#[32]},s,{data:=#[32]}]=32 :: (s.data.toList++[32]):=by simp[catB]
 have L1:Hid (bs.length+(inBr br1 t1).length≤140737488355328):=hid (by omega)
 have L2:Hid ((bs++inBr br1 t1).length+(catB [{data:=#[32]},s,{data:=#[32]}]).length≤140737488355328):=hid (by rw[List.length_append,ec];simp only[List.length_cons,List.length_append,List.length_nil];omega)
 have L3:Hid (((bs++inBr br1 t1)++catB [{data:=#[32]},s,{data:=#[32]}]).length+(inBr br2 t2).length≤140737488355328):=hid (by rw[List.length_append,List.length_append,ec];simp only[List.length_cons,List.length_append,List.length_nil];omega)
 have EC:=hid ec
 have HW:=hid h
 have HP:=hid hp
 have HB:=hid hB
 have hlt:=hid h.lt
 have HO1:=hid (fun bs=>operand_of H1 br1 B b bs k)
 have HO2:=hid (fun bs=>operand_of H2 br2 B b bs k)
 have HB1:Hid (∀W,Calls Tryz.prog 271 #[.agg #[.int .i64 k1,.string o1,.int .i64 n1,.string m1,v1],.int .i64 (zar s)] W fun e w'=>e=.returned (.bool br1)∧Below W.heap.size W w'):=hid fun W=>by rw[←hb1];exact below_any k1 o1 n1 m1 v1 _ W
 have HB2:Hid (∀W,Calls Tryz.prog 271 #[.agg #[.int .i64 k2,.string o2,.int .i64 n2,.string m2,v2],.int .i64 (zar s+1)] W fun e w'=>e=.returned (.bool br2)∧Below W.heap.size W w'):=hid fun W=>by rw[←hb2];exact below_any k2 o2 n2 m2 v2 _ W
 generalize hlv:zar s=lv at hl0 hl1 HB1 HB2
 have HLV:=hid hlv
 have e1:lv+1=lv+1:=rfl
 have e2:IntKind.i64.wrap (lv+1)=lv+1:=by rw[IntKind.wrap_i64];omega
 clear h hp hB hlen z1 H1 H2 hb1 hb2 ec hlv
 go_enter Tryz.func234,Tryz.ntmps234
 go_upto_region 2 with (go_at_call 202;refine(zcl _ _).mono ?_;rintro e w1 ⟨rfl,hb⟩;rw[HLV.out];have G0:=hid (((HW.out.went.alloc _).alloc _).trans (((HW.out.alloc _).alloc _).on hb));have X1:=hid ((hb.block w.heap.size (by simp;omega)).trans (zai _ (zaj w (.cells #[.int .i64 k1,.string o1,.int .i64 n1,.string m1,v1] 68))));have X2:=hid ((hb.block (w.heap.size+1) (by simp)).trans (zao (.cells #[.int .i64 k2,.string o2,.int .i64 n2,.string m2,v2] 68) (by simp)));obtain⟨c0,c1,c2,c3,c4⟩:=zbp X1.out;clear hb)
 go_cut [15] (fun _ wx=>Went B b (bs++inBr br1 t1) k w wx∧wx.heap[w.heap.size+1]?=some (.cells #[.int .i64 k2,.string o2,.int .i64 n2,.string m2,v2] 68 (0,0)))
 case first =>
  go_region_with (first
   | (go_at_call 270;have hx:=HO1.out bs _ HB.out G1.out.wr (HP.out.went HB.out G1.out) L1.out;refine hx.mono ?_;clear hx;rintro e w3 ⟨rfl,g3⟩;have G3:=hid (G1.out.trans g3);have X3:=hid (g3.keeps.box X21.out (by have:=hlt.out;omega) (by decide));clear g3)
   | (go_at_call 271;refine(HB1.out _).mono ?_;rintro e w2 ⟨rfl,hb⟩;have G1:=hid (G0.out.drew.trans (G0.out.drew.wr.on hb));have X21:=hid ((hb.block _ (lt_of_block X2.out)).trans X2.out);obtain⟨d0,d1,d2,d3,d4⟩:=box5 (w:=w1.drew) X1.out hb;clear hb))
  all_goals (go_wp2_with fail;go_meet;exact⟨G3.out,X3.out⟩)
 case rest =>
  obtain⟨g3,x3⟩:=hcut
  have G3:=hid g3
  have X3:=hid x3
  clear g3 x3 c0 c1 c2 c3 c4 G0 X1 X2
  go_upto_region 4 with (go_at_call 124;have hx:=zaF (G3.out.wr.alloc (.cells #[.string {data:=#[32]},.string s,.string {data:=#[32]}] 9)) wc.heap.size 3 [{data:=#[32]},s,{data:=#[32]}] _ (zaj _ _) rfl (by simp) L2.out;refine hx.mono ?_;clear hx;rintro e w4 ⟨rfl,g4⟩;have G4:=hid ((G3.out.alloc _).trans g4);have X4:=hid (g4.keeps.box (zai _ X3.out) (by have:=hlt.out;omega) (by decide));obtain⟨c0,c1,c2,c3,c4⟩:=zbp X4.out;clear g4)
  go_region_with (first
   | (go_at_call 270;have hx:=HO2.out _ _ HB.out G5.out.wr (HP.out.went HB.out G5.out) L3.out;refine hx.mono ?_;clear hx;rintro e w6 ⟨rfl,g6⟩;have G6:=hid (G5.out.trans g6);clear g6)
   | (go_at_call 271;refine(HB2.out _).mono ?_;rintro e w5 ⟨rfl,hb⟩;have G5:=hid (G4.out.drew.trans (G4.out.drew.wr.on hb));obtain⟨d0,d1,d2,d3,d4⟩:=box5 (w:=w4.drew) X4.out hb;clear hb))
  all_goals
   go_wp2_with fail
   go_end0
   refine⟨rfl,?_⟩
   have:=G6.out
   rw[EC.out] at this
   simpa only [List.append_assoc,List.cons_append,List.nil_append] using this
end Go.Proofs.YtljbbhhiiiepcaaGreatDoor
namespace Go.Proofs.YtljbbhhiiiepcaaGreatDoor
open Go Go.RowKit
open Go.Lib (hid)
structure Cells5 (w:World) (b o:Nat) (v0 v1 v2 v3 v4:Value):Prop where
 c0:w.cell? ⟨b,o,none⟩=some v0
 c1:w.cell? ⟨b,o+1,none⟩=some v1
 c2:w.cell? ⟨b,o+2,none⟩=some v2
 c3:w.cell? ⟨b,o+3,none⟩=some v3
 c4:w.cell? ⟨b,o+4,none⟩=some v4
 lt:b < w.heap.size
theorem zdl {w:World} {b o:Nat} {v:Value} (h:w.cell? ⟨b,o,none⟩=some v):b < w.heap.size:=by
 rcases Nat.lt_or_ge b w.heap.size with h' | h'
 ·exact h'
 ·simp[World.cell?,Array.getElem?_eq_none h'] at h
theorem za1 {w0 w:World} {B b o i:Nat} {v0 v1 v2 v3 v4:Value} (h:RowAt w0 B (some ⟨b,o,none⟩) i 5 #[v0,v1,v2,v3,v4]) (hp:Past w0 w):Cells5 w b (o+i*5) v0 v1 v2 v3 v4:=by
 obtain⟨b',o',e,-,hc⟩:=h
 simp only[Option.some.injEq,Addr.mk.injEq,and_true] at e
 obtain⟨rfl,rfl⟩:=e
 have k:=zaP hp (B:=0)
 have h0:=k _ _ (Nat.zero_le _) (hc 0 v0 rfl)
 exact⟨h0,k _ _ (Nat.zero_le _) (hc 1 v1 rfl),k _ _ (Nat.zero_le _) (hc 2 v2 rfl),k _ _ (Nat.zero_le _) (hc 3 v3 rfl),k _ _ (Nat.zero_le _) (hc 4 v4 rfl),zdl h0⟩
theorem expr_num {w0:World} (H:Pow w0) (n:Int) (hn:-9223372036854775808≤n∧n≤9223372036854775807) (o m:ByteArray) (v:Value):ExprDoes w0 218 (.agg #[.int .i64 0,.string o,.int .i64 n,.string m,v]) (Lib.itoa n):=by
 intro B b bs k w hB h hp hlen
 have L1:Hid (bs.length+(catB [txt n]).length≤140737488355328):=hid (by rw[za7];exact hlen)
 have HW:=hid h
 have HP:=hid hp
 have HT:=hid (fun W=>zdk H n hn W)
 clear h hp hB hlen H hn
 go_enter Tryz.func218,Tryz.ntmps218
 go_wp2_with (first
  | (go_at_call 124;have hx:=zaF (G1.out.wr.alloc (.cells #[.string (txt n)] 9)) w1.heap.size 1 [txt n] _ (zaj _ _) rfl (by simp) L1.out;refine hx.mono ?_;clear hx;rintro e w2 ⟨rfl,g2⟩;have G2:=hid ((G1.out.alloc _).trans g2);clear g2)
  | (go_at_call 215;refine(HT.out _ (HP.out.alloc _)).mono ?_;rintro e w1 ⟨rfl,hb⟩;have G1:=hid ((HW.out.went.alloc _).trans ((HW.out.alloc _).on hb));clear hb))
 go_end0
 refine⟨rfl,?_⟩
 have:=G2.out
 rw[za7] at this
 exact this
theorem expr_var {w0:World} (o m:ByteArray) (n:Int) (v:Value):ExprDoes w0 218 (.agg #[.int .i64 1,.string o,.int .i64 n,.string m,v]) m.data.toList:=by
 intro B b bs k w hB h hp hlen
 have L1:Hid (bs.length+(catB [m]).length≤140737488355328):=hid (by rw[za7];exact hlen)
 have HW:=hid h
 clear h hp hB hlen
 go_enter Tryz.func218,Tryz.ntmps218
 go_wp2_with (go_at_call 124;refine(zaF ((HW.out.alloc _).alloc _) (w.heap.size+1) 1 [m] _ (zao _ (by simp)) rfl (by simp) L1.out).mono ?_;rintro e w1 ⟨rfl,g1⟩;have G1:=hid (((HW.out.went.alloc _).alloc _).trans g1);clear g1)
 go_end0
 refine⟨rfl,?_⟩
 have:=G1.out
 rw[za7] at this
 exact this
theorem expr_idx {w0:World} {k1:Int} {o1:ByteArray} {n1:Int} {m1:ByteArray} {v1:Value} {t1:List UInt8} (H1:ExprDoes w0 218 (.agg #[.int .i64 k1,.string o1,.int .i64 n1,.string m1,v1]) t1)
  (kb ko cap:Nat) (hr:RowAt w0 0 (some ⟨kb,ko,none⟩) 0 5 #[.int .i64 k1,.string o1,.int .i64 n1,.string m1,v1]) (o m:ByteArray) (n:Int):
  ExprDoes w0 218 (.agg #[.int .i64 2,.string o,.int .i64 n,.string m,.slice (some ⟨kb,ko,none⟩) 1 cap]) (m.data.toList++91 :: (t1++[93])):=by
 intro B b bs k w hB h hp hlen
 obtain⟨r0,r1,r2,r3,r4,hkb⟩:=za1 hr hp
 simp only[Nat.zero_mul,Nat.add_zero] at r0 r1 r2 r3 r4
 have hz:m.data.toList.length=m.size:=Array.length_toList
 have hzm:m.size≤140737488355328:=by
  simp only[List.length_append,List.length_cons,List.length_nil] at hlen
  omega
 have L1:Hid (bs.length+((m++{data:=#[91]}:ByteArray).size+t1.length+({data:=#[93]}:ByteArray).size)≤140737488355328):=hid (by
  rw[ByteArray.size_append]
  show bs.length+(m.size+1+t1.length+1)≤_
  simp only[List.length_append,List.length_cons,List.length_nil] at hlen
  omega)
 have HW:=hid h
 have HP:=hid hp
 have HB:=hid hB
 have HA:=hid (zbv H1 (m++{data:=#[91]}) {data:=#[93]} B b bs k)
 clear h hp hB hlen H1 hr hz
 go_enter Tryz.func218,Tryz.ntmps218
 go_wp2
 go_region_with (go_at_call 216;have hx:=HA.out _ HB.out (HW.out.went.alloc (.cells #[.int .i64 2,.string o,.int .i64 n,.string m,.slice (some ⟨kb,ko,none⟩) 1 cap] 68)).drew.wr (HP.out.alloc _).drew L1.out;refine hx.mono ?_;clear hx;rintro e w2 ⟨rfl,g2⟩;have G2:=hid ((HW.out.went.alloc _).drew.trans g2);clear g2)
 all_goals
  go_wp2_with fail
  go_end0
  refine⟨rfl,?_⟩
  have:=G2.out
  rw[ByteArray.data_append,Array.toList_append] at this
  simpa only [List.append_assoc,List.cons_append,List.nil_append] using this
theorem expr_un {w0:World} {k1:Int} {o1:ByteArray} {n1:Int} {m1:ByteArray} {v1:Value} {t1:List UInt8} (H1:ExprDoes w0 218 (.agg #[.int .i64 k1,.string o1,.int .i64 n1,.string m1,v1]) t1)
  (kb ko cap:Nat) (hr:RowAt w0 0 (some ⟨kb,ko,none⟩) 0 5 #[.int .i64 k1,.string o1,.int .i64 n1,.string m1,v1]) (o m:ByteArray) (n:Int) (br:Bool) (hbr:brB o k1 n1=br):
  ExprDoes w0 218 (.agg #[.int .i64 3,.string o,.int .i64 n,.string m,.slice (some ⟨kb,ko,none⟩) 1 cap]) (o.data.toList++inBr br t1):=by
 intro B b bs k w hB h hp hlen
 obtain⟨r0,r1,r2,r3,r4,hkb⟩:=za1 hr hp
 simp only[Nat.zero_mul,Nat.add_zero] at r0 r1 r2 r3 r4
 have hz:o.data.toList.length=o.size:=Array.length_toList
 have L1:Hid (bs.length+(o.size+(inBr (brB o k1 n1) t1).length)≤140737488355328):=hid (by
  rw[List.length_append,hz] at hlen
  rw[hbr];omega)
 have HW:=hid h
 have HP:=hid hp
 have HB:=hid hB
 have HA:=hid (unary_of H1 o B b bs k)
 have HBR:=hid hbr
 clear h hp hB hlen H1 hr hz hbr
 go_enter Tryz.func218,Tryz.ntmps218
 go_wp2
 go_region_with (go_at_call 233;have hx:=HA.out _ HB.out (HW.out.went.alloc (.cells #[.int .i64 3,.string o,.int .i64 n,.string m,.slice (some ⟨kb,ko,none⟩) 1 cap] 68)).drew.wr (HP.out.alloc _).drew L1.out;refine hx.mono ?_;clear hx;rintro e w2 ⟨rfl,g2⟩;have G2:=hid ((HW.out.went.alloc _).drew.trans g2);clear g2)
 all_goals
  go_wp2_with fail
  go_end0
  refine⟨rfl,?_⟩
  have:=G2.out
  rw[HBR.out] at this
  exact this
theorem expr_bin {w0:World} {k1:Int} {o1:ByteArray} {n1:Int} {m1:ByteArray} {v1:Value} {t1:List UInt8} (H1:ExprDoes w0 218 (.agg #[.int .i64 k1,.string o1,.int .i64 n1,.string m1,v1]) t1)
  {k2:Int} {o2:ByteArray} {n2:Int} {m2:ByteArray} {v2:Value} {t2:List UInt8} (H2:ExprDoes w0 218 (.agg #[.int .i64 k2,.string o2,.int .i64 n2,.string m2,v2]) t2)
  (kb ko cap:Nat) (hr1:RowAt w0 0 (some ⟨kb,ko,none⟩) 0 5 #[.int .i64 k1,.string o1,.int .i64 n1,.string m1,v1]) (hr2:RowAt w0 0 (some ⟨kb,ko,none⟩) 1 5 #[.int .i64 k2,.string o2,.int .i64 n2,.string m2,v2]) (o m:ByteArray) (n:Int) (br1 br2:Bool)
  (hb1:(k1==4&&decide (zar o1 < zar o))=br1) (hb2:(k2==4&&decide (zar o2 < zar o+1))=br2):
  ExprDoes w0 218 (.agg #[.int .i64 4,.string o,.int .i64 n,.string m,.slice (some ⟨kb,ko,none⟩) 2 cap]) (inBr br1 t1++32 :: (o.data.toList++32 :: inBr br2 t2)):=by
 intro B b bs k w hB h hp hlen
 obtain⟨r0,r1,r2,r3,r4,hkb⟩:=za1 hr1 hp
 obtain⟨s0,s1,s2,s3,s4,-⟩:=za1 hr2 hp
 simp only[Nat.zero_mul,Nat.add_zero] at r0 r1 r2 r3 r4
 simp only[Nat.one_mul] at s0 s1 s2 s3 s4
 have hz:o.data.toList.length=o.size:=Array.length_toList
 have L1:Hid (bs.length+((inBr br1 t1).length+(o.size+2+(inBr br2 t2).length))≤140737488355328):=hid (by
  simp only[List.length_append,List.length_cons] at hlen
  omega)
 have HW:=hid h
 have HP:=hid hp
 have HB:=hid hB
 have HA:=hid (binary_of H1 H2 o br1 br2 hb1 hb2 B b bs k)
 clear h hp hB hlen H1 H2 hr1 hr2 hz hb1 hb2
 go_enter Tryz.func218,Tryz.ntmps218
 go_wp2
 go_region_with (go_at_call 234;have hx:=HA.out _ HB.out (HW.out.went.alloc (.cells #[.int .i64 4,.string o,.int .i64 n,.string m,.slice (some ⟨kb,ko,none⟩) 2 cap] 68)).drew.wr (HP.out.alloc _).drew L1.out;refine hx.mono ?_;clear hx;rintro e w2 ⟨rfl,g2⟩;have G2:=hid ((HW.out.went.alloc _).drew.trans g2);clear g2)
 all_goals
  go_wp2_with fail
  go_end0
  exact⟨rfl,G2.out⟩
end Go.Proofs.YtljbbhhiiiepcaaGreatDoor
namespace Go.Proofs.YtljbbhhiiiepcaaGreatDoor
open Go Go.RowKit
open Go.Lib (hid)
theorem ET.cells_is (T:ET):T.cells=#[.int .i64 T.kind,.string T.op,.int .i64 T.n,.string T.name,.slice T.kaddr T.kids.length T.kcap]:=by cases T;rfl
theorem ET.val_is (T:ET):T.val=.agg #[.int .i64 T.kind,.string T.op,.int .i64 T.n,.string T.name,.slice T.kaddr T.kids.length T.kcap]:=by cases T;rfl
theorem zbf {w0:World} (H:Pow w0):∀(m:Nat) (T:ET),T.sz≤m→T.rightB=true→T.In w0 0→ExprDoes w0 218 T.val (putR levL T.re):=by
 intro m
 induction m with
 | zero=>intro T hm;obtain⟨k,o,n,m,a,c,l⟩:=T;simp[ET.sz] at hm
 | succ m ih =>
  intro T hm h hin
  rcases zc0 h with ⟨n,a,c,rfl⟩ | ⟨s,a,c,hs,rfl⟩ | ⟨s,a,c,e,hs,he,rfl⟩ | ⟨o,a,c,e,ho,he,rfl⟩ | ⟨o,a,c,e,f,ho,he,hf,rfl⟩
  ·rw[ET.In] at hin
   exact expr_num H n hin.1 _ _ _
  ·exact expr_var _ _ _ _
  ·simp only[ET.In,EsIn] at hin
   simp[ET.sz,szs] at hm
   obtain⟨kb,ko,rfl,-⟩:=hin.2.2.1
   have H1:=ih e (by omega) he hin.2.2.2.1
   rw[ET.val_is] at H1
   have hr:=hin.2.2.1
   rw[ET.cells_is] at hr
   have:=expr_idx (k1:=e.kind) (o1:=e.op) (n1:=e.n) (m1:=e.name) (v1:=.slice e.kaddr e.kids.length e.kcap) H1 kb ko c hr {data:=#[]} s 0
   exact this
  ·simp only[ET.In,EsIn] at hin
   simp[ET.sz,szs] at hm
   obtain⟨kb,ko,rfl,-⟩:=hin.2.2.1
   have H1:=ih e (by omega) he hin.2.2.2.1
   rw[ET.val_is] at H1
   have hr:=hin.2.2.1
   rw[ET.cells_is] at hr
   obtain⟨c',hc,rfl⟩:=unB_is ho
   have:=expr_un (k1:=e.kind) (o1:=e.op) (n1:=e.n) (m1:=e.name) (v1:=.slice e.kaddr e.kids.length e.kcap) H1 kb ko c hr {data:=#[c']} {data:=#[]} 0 _ (brB_un c' he)
   exact this
  ·simp only[ET.In,EsIn] at hin
   simp[ET.sz,szs] at hm
   obtain⟨kb,ko,rfl,-⟩:=hin.2.2.1
   have H1:=ih e (by omega) he hin.2.2.2.1
   rw[ET.val_is] at H1
   have H2:=ih f (by omega) hf hin.2.2.2.2.2.1
   rw[ET.val_is] at H2
   have hr:=hin.2.2.1
   rw[ET.cells_is] at hr
   have hr2:=hin.2.2.2.2.1
   rw[ET.cells_is] at hr2
   have:=expr_bin (k1:=e.kind) (o1:=e.op) (n1:=e.n) (m1:=e.name) (v1:=.slice e.kaddr e.kids.length e.kcap) H1 (k2:=f.kind) (o2:=f.op) (n2:=f.n) (m2:=f.name) (v2:=.slice f.kaddr f.kids.length f.kcap) H2 kb ko c hr hr2 o {data:=#[]} 0 _ _ (lower_is he _) (lower_is hf _)
   simp only[ET.re,putR,levL_is]
   exact this
end Go.Proofs.YtljbbhhiiiepcaaGreatDoor
