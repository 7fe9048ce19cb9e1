/- What tags answers of statements: how many have one. -/
import Derived.Test.YtljbbhhiiiepcaaGreatDoorKCrit
import Derived.Test.YtljbbhhiiiepcaaGreatDoorPLaid
import Derived.Test.YtljbbhhiiiepcaaGreatDoorKCode
import Derived.Test.YtljbbhhiiiepcaaGreatDoorTFeedE2
import Derived.Test.YtljbbhhiiiepcaaGreatDoorTPutP2
set_option linter.unusedSimpArgs false
set_option linter.unusedVariables false
set_option maxHeartbeats 8000000
set_option maxRecDepth 100000
namespace Go.Proofs.YtljbbhhiiiepcaaGreatDoor.Ck
open Go Go.RowKit Go.Proofs.YtljbbhhiiiepcaaGreatDoor Go.Proofs.YtljbbhhiiiepcaaGreatDoor.Pm
/- Right trees: what is asked of them as of plain data. -/
def tg9R (tag:Int) (seen:List Nat):Nat:=if tag < 1∨tag.toNat∉seen then 9 else 0
def varsR (F:RF) (vars:List Nm):Nat:=match vars with
 | []=>0
 | a :: l=>orE (zdw F a false) (varsR F l)
def lastR (l:List RF) (vars:List Nm):Nat:=match l.getLast? with
 | some F=>varsR F vars
 | none=>0
def critR (l:List RF) (tag:Int) (vars:List Nm):Nat:=orE (orE (orE 0 (zdc l).1.1) (tg9R tag (zdc l).1.2)) (lastR l vars)
theorem vars_rf {F:FT} (h:F.rightB=true) (vars:List ByteArray):varsF F vars=varsR F.rf (vars.map fun s=>s.data.toList):=by
 induction vars with
 | nil=>rfl
 | cons a l ih=>rw[varsF,List.map_cons,varsR,named_rf h,ih]
theorem crit_rf {l:List FT} (h:l.all FT.rightB=true) (tag:Int) (vars:List ByteArray):critF l tag vars=critR (l.map FT.rf) tag (vars.map fun s=>s.data.toList):=by
 have hp:=(prog_rf h).1
 unfold critF critR
 rw[hp.1,←hp.2.1]
 congr 1
 ·congr 1
  unfold tg9 tg9R
  by_cases h1:tag < 1
  ·rw[if_pos (Or.inl h1),if_pos (Or.inl h1)]
  ·have e:(tag.toNat∈natS (zb5 l).1.2)=(tag∈(zb5 l).1.2):=propext (mem_natS (by omega) hp.2.2)
   simp only[e]
 ·unfold lastC lastR
  rw[List.getLast?_map]
  cases hl:l.getLast? with
  | none=>rfl
  | some F =>
   exact vars_rf (List.all_eq_true.1 h F (List.mem_of_getLast? hl)) vars
def zdz (p:List RF):Bool:=decide (stsR p≤4611686018427387904)&&p.all fun F=>decide (F.params.length≤1000000000∧F.vars.length≤1000000000)
theorem small_rf {l:List FT} (h:l.all FT.rightB=true) (hs:zdz (l.map FT.rf)=true):Small l:=by
 unfold zdz at hs
 rw[Bool.and_eq_true,decide_eq_true_eq,List.all_eq_true] at hs
 refine⟨by rw[sts_rf h];exact hs.1,fun k hk=>?_⟩
 have:=of_decide_eq_true (hs.2 l[k].rf (List.mem_map.2 ⟨_,List.getElem_mem hk,rfl⟩))
 simpa[FT.rf] using this
def pOf (t:List UInt8):List RF:=match zbN 100 t with
 | .ok p _=>p
 | .bad _ _=>[]
def mOf (t:List UInt8):Nat:=match zbN 100 t with
 | .ok _ n=>n
 | .bad _ _=>0
def tG:List UInt8:=[102,117,110,99,32,102,40,97,41,32,123,32,114,101,116,117,114,110,32,97,59,32,125,32,102,117,110,99,32,109,97,105,110,40,41,32,123,32,118,97,114,32,120,44,32,121,91,50,93,59,32,64,49,32,120,32,61,32,102,40,51,41,59,32,119,104,105,108,101,32,40,120,41,32,123,32,98,114,101,97,107,59,32,125,32,125]
def tB:Nat→List UInt8
 | 0=>[102,117,110,99,32,109,97,105,110,40,41,32,123,32,120,32,61,32,49,59,32,125]
 | 1=>[102,117,110,99,32,109,97,105,110,40,41,32,123,32,118,97,114,32,120,91,50,93,59,32,120,32,61,32,49,59,32,125]
 | 2=>[102,117,110,99,32,109,97,105,110,40,41,32,123,32,98,114,101,97,107,59,32,125]
 | 3=>[102,117,110,99,32,102,40,41,32,123,32,64,49,32,114,101,116,117,114,110,32,48,59,32,125,32,102,117,110,99,32,109,97,105,110,40,41,32,123,32,125]
 | 4=>[102,117,110,99,32,102,40,97,41,32,123,32,114,101,116,117,114,110,32,97,59,32,125,32,102,117,110,99,32,109,97,105,110,40,41,32,123,32,118,97,114,32,120,59,32,120,32,61,32,102,40,41,59,32,125]
 | 5=>[102,117,110,99,32,102,40,41,32,123,32,114,101,116,117,114,110,32,48,59,32,125]
 | _=>[102,117,110,99,32,109,97,105,110,40,41,32,123,32,118,97,114,32,120,59,32,64,49,32,120,32,61,32,49,59,32,64,49,32,120,32,61,32,50,59,32,125]
def wB:Nat→Nat
 | 0=>6
 | 1=>7
 | 2=>8
 | 3=>9
 | 4=>10
 | 5=>10
 | _=>9
theorem evG:zbN 100 tG=.ok (pOf tG) (mOf tG):=by kernel_rfl
theorem lenG:(pOf tG).length=2:=by kernel_rfl
theorem chkG:((zdc (pOf tG)).1.1,(zdc (pOf tG)).2)=(0,-1):=by kernel_rfl
theorem smG:zdz (pOf tG)=true:=by kernel_rfl
theorem cr1:critR (pOf tG) 1 [[120]]=0:=by kernel_rfl
theorem cr2:critR (pOf tG) 2 []=9:=by kernel_rfl
theorem cr3:critR (pOf tG) 1 [[121]]=7:=by kernel_rfl
theorem cr4:critR (pOf tG) 1 [[122]]=6:=by kernel_rfl
theorem fdG:findR (pOf tG) [109,97,105,110]=1:=by kernel_rfl
theorem szG:((pOf tG)[1]?.map fun F=>sizeR F [121])=some (some 2):=by kernel_rfl
theorem evB0:zbN 100 (tB 0)=.ok (pOf (tB 0)) (mOf (tB 0))∧(zdc (pOf (tB 0))).1.1=wB 0∧zdz (pOf (tB 0))=true:=⟨by kernel_rfl,by kernel_rfl,by kernel_rfl⟩
theorem evB1:zbN 100 (tB 1)=.ok (pOf (tB 1)) (mOf (tB 1))∧(zdc (pOf (tB 1))).1.1=wB 1∧zdz (pOf (tB 1))=true:=⟨by kernel_rfl,by kernel_rfl,by kernel_rfl⟩
theorem evB2:zbN 100 (tB 2)=.ok (pOf (tB 2)) (mOf (tB 2))∧(zdc (pOf (tB 2))).1.1=wB 2∧zdz (pOf (tB 2))=true:=⟨by kernel_rfl,by kernel_rfl,by kernel_rfl⟩
theorem evB3:zbN 100 (tB 3)=.ok (pOf (tB 3)) (mOf (tB 3))∧(zdc (pOf (tB 3))).1.1=wB 3∧zdz (pOf (tB 3))=true:=⟨by kernel_rfl,by kernel_rfl,by kernel_rfl⟩
theorem evB4:zbN 100 (tB 4)=.ok (pOf (tB 4)) (mOf (tB 4))∧(zdc (pOf (tB 4))).1.1=wB 4∧zdz (pOf (tB 4))=true:=⟨by kernel_rfl,by kernel_rfl,by kernel_rfl⟩
theorem evB5:zbN 100 (tB 5)=.ok (pOf (tB 5)) (mOf (tB 5))∧(zdc (pOf (tB 5))).1.1=wB 5∧zdz (pOf (tB 5))=true:=⟨by kernel_rfl,by kernel_rfl,by kernel_rfl⟩
theorem evB6:zbN 100 (tB 6)=.ok (pOf (tB 6)) (mOf (tB 6))∧(zdc (pOf (tB 6))).1.1=wB 6∧zdz (pOf (tB 6))=true:=⟨by kernel_rfl,by kernel_rfl,by kernel_rfl⟩
theorem evB (k:Nat) (h:k < 7):zbN 100 (tB k)=.ok (pOf (tB k)) (mOf (tB k))∧(zdc (pOf (tB k))).1.1=wB k∧zdz (pOf (tB k))=true:=by
 match k,h with
 | 0,_=>exact evB0
 | 1,_=>exact evB1
 | 2,_=>exact evB2
 | 3,_=>exact evB3
 | 4,_=>exact evB4
 | 5,_=>exact evB5
 | 6,_=>exact evB6
 | k+7,h=>exact absurd h (by omega)
theorem lenB (k:Nat):(tB k).length≤8192:=by
 unfold tB;split<;>decide
theorem zcV {w:World} (H:Wo w) (sb:ByteArray) {t:List UInt8} {p:List RF} {mo:Nat} (hs:sb.data.toList=t) (hl:t.length≤8192) (ev:zbN 100 t=.ok p mo):
  Calls Tryz.prog 23 #[.string sb] w fun e w'=>Below w.heap.size w w'∧∃a c l,e=.returned (.tuple #[.agg #[.slice a l.length c],.int .i64 (t.length:Nat),.int .i64 0])∧l.map FT.rf=p∧l.all FT.rightB=true∧FsIn w' 0 a l:=by
 subst hs
 refine(pParse_any 100 sb hl H.er (finA_ok ev)).mono ?_
 intro e w' hq
 rw[ev] at hq
 obtain⟨hb,v,rfl,a,c,l,rfl,h1,h2,h3,-⟩:=hq
 exact⟨hb,a,c,l,rfl,h1,h2,h3.mono (Nat.zero_le _)⟩
structure GoodP (w0:World) (a:Option Addr) (c:Nat):Prop where
 chk:∀W,Past w0 W→Calls Tryz.prog 11 #[.agg #[.slice a 2 c]] W fun e w'=>e=.returned (.tuple #[.int .i64 0,.int .i64 (-1)])∧Below W.heap.size W w'
 cr1:∀W b,Past w0 W→W.heap[b]?=some (.cells #[.string {data:=#[120]}] 9 (0,0))→Calls Tryz.prog 17 #[.agg #[.slice a 2 c],.int .i64 1,.slice (some ⟨b,0,none⟩) 1 1] W fun e w'=>e=.returned (.int .i64 0)∧Below W.heap.size W w'
 cr2:∀W,Past w0 W→Calls Tryz.prog 17 #[.agg #[.slice a 2 c],.int .i64 2,.slice none 0 0] W fun e w'=>e=.returned (.int .i64 9)∧Below W.heap.size W w'
 cr3:∀W b,Past w0 W→W.heap[b]?=some (.cells #[.string {data:=#[121]}] 9 (0,0))→Calls Tryz.prog 17 #[.agg #[.slice a 2 c],.int .i64 1,.slice (some ⟨b,0,none⟩) 1 1] W fun e w'=>e=.returned (.int .i64 7)∧Below W.heap.size W w'
 cr4:∀W b,Past w0 W→W.heap[b]?=some (.cells #[.string {data:=#[122]}] 9 (0,0))→Calls Tryz.prog 17 #[.agg #[.slice a 2 c],.int .i64 1,.slice (some ⟨b,0,none⟩) 1 1] W fun e w'=>e=.returned (.int .i64 6)∧Below W.heap.size W w'
 fd:∀W,Past w0 W→Calls Tryz.prog 19 #[.agg #[.slice a 2 c],.string {data:=#[109,97,105,110]}] W fun e w'=>e=.returned (.int .i64 1)∧Below W.heap.size W w'
 sz:∃kb ko v0 v1 v2 v3,a=some ⟨kb,ko,none⟩∧(∀W,Past w0 W→W.cell? ⟨kb,ko+4,none⟩=some v0∧W.cell? ⟨kb,ko+5,none⟩=some v1∧W.cell? ⟨kb,ko+6,none⟩=some v2∧W.cell? ⟨kb,ko+7,none⟩=some v3∧kb < W.heap.size)∧∀W,Past w0 W→Calls Tryz.prog 14 #[.agg #[v0,v1,v2,v3],.string {data:=#[121]}] W fun e w'=>e=.returned (.tuple #[.int .i64 2,.bool true])∧Below W.heap.size W w'
theorem one_str {w:World} {b:Nat} {s:ByteArray} (h:w.heap[b]?=some (.cells #[.string s] 9 (0,0))):StrsIn w 0 (some ⟨b,0,none⟩) [s]:=fun i hi=>⟨b,0,rfl,Nat.zero_le _,by
 have:i=0:=by simpa using hi
 subst this
 exact zab h rfl⟩
theorem good_p {w0:World} {a:Option Addr} {c:Nat} {l:List FT} (h1:l.map FT.rf=pOf tG) (h2:l.all FT.rightB=true) (h3:FsIn w0 0 a l):l.length=2∧GoodP w0 a c:=by
 have hl:l.length=2:=by have:=congrArg List.length h1;rw[List.length_map,lenG] at this;exact this
 have hsm:Small l:=small_rf h2 (by rw[h1];exact smG)
 have hcr:∀(tag:Int) (vars:List ByteArray) (va:Option Addr) (vc:Nat) (v:Nat) (W:World),critR (pOf tG) tag (vars.map fun s=>s.data.toList)=v→(-9223372036854775808≤tag∧tag≤9223372036854775807)→vars.length≤10→Past w0 W→StrsIn W 0 va vars→Calls Tryz.prog 17 #[.agg #[.slice a 2 c],.int .i64 tag,.slice va vars.length vc] W fun e w'=>e=.returned (.int .i64 (v:Nat))∧Below W.heap.size W w':=by
  intro tag vars va vc v W hv ht hvl hW hS
  have h:=crit_any (w0:=W) (h3.on hW) hsm c tag ht va vc vars (by omega) hS W (Past.refl _)
  rw[crit_rf h2,h1,hv,hl] at h
  exact h
 refine⟨hl,⟨fun W hW=>?_,fun W b hW hb=>?_,fun W hW=>?_,fun W b hW hb=>?_,fun W b hW hb=>?_,fun W hW=>?_,?_⟩⟩
 ·have h:=zcL h3 hsm c W hW
  rw[chk_rf h2,h1,chkG,hl] at h
  exact h
 ·exact hcr 1 [{data:=#[120]}] _ 1 0 W cr1 (by decide) (by decide) hW (one_str hb)
 ·exact hcr 2 [] none 0 9 W cr2 (by decide) (by decide) hW (fun i hi=>absurd hi (by simp))
 ·exact hcr 1 [{data:=#[121]}] _ 1 7 W cr3 (by decide) (by decide) hW (one_str hb)
 ·exact hcr 1 [{data:=#[122]}] _ 1 6 W cr4 (by decide) (by decide) hW (one_str hb)
 ·have h:=find_any h3 c {data:=#[109,97,105,110]} W hW
  have e:zeg l {data:=#[109,97,105,110]}=1:=by
   unfold zeg
   rw[find_rf,h1,show(({data:=#[109,97,105,110]}:ByteArray).data.toList)=[109,97,105,110] from rfl,fdG,hl];rfl
  rw[e,hl] at h
  exact h
 ·have hk:1 < l.length:=by omega
  obtain⟨kb,ko,e,-⟩:=h3.row 1 hk
  have hrow:=h3.row 1 hk
  rw[e,F.cells_is] at hrow
  refine⟨kb,ko,.string l[1].name,.slice l[1].pa l[1].params.length l[1].pc,.slice l[1].va l[1].vars.length l[1].vc,.slice l[1].ba l[1].body.length l[1].bc,e,fun W hW=>?_,fun W hW=>?_⟩
  ·obtain⟨r0,r1,r2,r3,r4⟩:=zbf hrow hW
   exact⟨r0,r1,r2,r3,r4⟩
  ·have h:=size_any (h3.fs 1 hk) {data:=#[121]} W hW
   have er:l[1].rightB=true:=List.all_eq_true.1 h2 _ (List.getElem_mem hk)
   have es:zdv l[1] {data:=#[121]}=some 2:=by
    have g:=szG
    rw[←h1,List.getElem?_map,List.getElem?_eq_getElem hk] at g
    simp only[Option.map_some,Option.some.injEq] at g
    have hsz:=size_rf er {data:=#[121]}
    rw[hsz]
    show(sizeR l[1].rf [121]).map Int.ofNat=some 2
    rw[g];rfl
   unfold szV at h
   rw[es] at h
   exact h
theorem bad_p {w0:World} {a:Option Addr} {c k:Nat} {l:List FT} (hk:k < 7) (h1:l.map FT.rf=pOf (tB k)) (h2:l.all FT.rightB=true) (h3:FsIn w0 0 a l):∃wh:Int,∀W,Past w0 W→Calls Tryz.prog 11 #[.agg #[.slice a l.length c]] W fun e w'=>e=.returned (.tuple #[.int .i64 (wB k:Nat),.int .i64 wh])∧Below W.heap.size W w':=by
 have hsm:Small l:=small_rf h2 (by rw[h1];exact(evB k hk).2.2)
 refine⟨(zdc (pOf (tB k))).2,fun W hW=>?_⟩
 have h:=zcL h3 hsm c W hW
 rw[chk_rf h2,h1,(evB k hk).2.1] at h
 exact h
theorem none_p (c:Nat) (W:World):Calls Tryz.prog 11 #[.agg #[.slice none 0 0]] W fun e w'=>e=.returned (.tuple #[.int .i64 5,.int .i64 (-1)])∧Below W.heap.size W w':=by
 have h:=zcL (w0:=W) (a:=none) (l:=[]) ⟨by simp,fun i hi=>absurd hi (by simp),fun i hi=>absurd hi (by simp)⟩ ⟨by rw[stsV];omega,fun k hk=>absurd hk (by simp)⟩ 0 W (Past.refl _)
 exact h
end Go.Proofs.YtljbbhhiiiepcaaGreatDoor.Ck

namespace Go.Proofs.YtljbbhhiiiepcaaGreatDoor.Ck
open Go Go.RowKit Go.Proofs.YtljbbhhiiiepcaaGreatDoor Go.Proofs.YtljbbhhiiiepcaaGreatDoor.Pm
open Go.Lib (hid)
theorem lcell {W:World} {b:Nat} (h:W.heap[b]?=some (.cells #[.string {data:=#[102,117,110,99,32,109,97,105,110,40,41,32,123,32,120,32,61,32,49,59,32,125]},.string {data:=#[102,117,110,99,32,109,97,105,110,40,41,32,123,32,118,97,114,32,120,91,50,93,59,32,120,32,61,32,49,59,32,125]},.string {data:=#[102,117,110,99,32,109,97,105,110,40,41,32,123,32,98,114,101,97,107,59,32,125]},.string {data:=#[102,117,110,99,32,102,40,41,32,123,32,64,49,32,114,101,116,117,114,110,32,48,59,32,125,32,102,117,110,99,32,109,97,105,110,40,41,32,123,32,125]},.string {data:=#[102,117,110,99,32,102,40,97,41,32,123,32,114,101,116,117,114,110,32,97,59,32,125,32,102,117,110,99,32,109,97,105,110,40,41,32,123,32,118,97,114,32,120,59,32,120,32,61,32,102,40,41,59,32,125]},.string {data:=#[102,117,110,99,32,102,40,41,32,123,32,114,101,116,117,114,110,32,48,59,32,125]},.string {data:=#[102,117,110,99,32,109,97,105,110,40,41,32,123,32,118,97,114,32,120,59,32,64,49,32,120,32,61,32,49,59,32,64,49,32,120,32,61,32,50,59,32,125]}] 9 (0,0))) (k:Nat) (hk:k < 7):W.cell? ⟨b,k,none⟩=some (.string {data:=(tB k).toArray}):=by
 match k,hk with
 | 0,_=>exact zab h rfl
 | 1,_=>exact zab h rfl
 | 2,_=>exact zab h rfl
 | 3,_=>exact zab h rfl
 | 4,_=>exact zab h rfl
 | 5,_=>exact zab h rfl
 | 6,_=>exact zab h rfl
 | k+7,h=>exact absurd h (by omega)
theorem wcell {W:World} {b:Nat} {t:TypeId} (h:W.heap[b]?=some (.cells #[.int .i64 6,.int .i64 7,.int .i64 8,.int .i64 9,.int .i64 10,.int .i64 10,.int .i64 9] t (0,0))) (k:Nat) (hk:k < 7):W.cell? ⟨b,k,none⟩=some (.int .i64 (wB k:Nat)):=by
 match k,hk with
 | 0,_=>exact zab h rfl
 | 1,_=>exact zab h rfl
 | 2,_=>exact zab h rfl
 | 3,_=>exact zab h rfl
 | 4,_=>exact zab h rfl
 | 5,_=>exact zab h rfl
 | 6,_=>exact zab h rfl
 | k+7,h=>exact absurd h (by omega)
structure LInv (w w1 w3:World) (a:Option Addr) (c:Nat) (wr:World):Prop where
 b:Below w.heap.size w wr
 p:Past w1 wr
 g:PBox wr w1.heap.size a 2 c
 l:wr.heap[w3.heap.size]?=some (.cells #[.string {data:=#[102,117,110,99,32,109,97,105,110,40,41,32,123,32,120,32,61,32,49,59,32,125]},.string {data:=#[102,117,110,99,32,109,97,105,110,40,41,32,123,32,118,97,114,32,120,91,50,93,59,32,120,32,61,32,49,59,32,125]},.string {data:=#[102,117,110,99,32,109,97,105,110,40,41,32,123,32,98,114,101,97,107,59,32,125]},.string {data:=#[102,117,110,99,32,102,40,41,32,123,32,64,49,32,114,101,116,117,114,110,32,48,59,32,125,32,102,117,110,99,32,109,97,105,110,40,41,32,123,32,125]},.string {data:=#[102,117,110,99,32,102,40,97,41,32,123,32,114,101,116,117,114,110,32,97,59,32,125,32,102,117,110,99,32,109,97,105,110,40,41,32,123,32,118,97,114,32,120,59,32,120,32,61,32,102,40,41,59,32,125]},.string {data:=#[102,117,110,99,32,102,40,41,32,123,32,114,101,116,117,114,110,32,48,59,32,125]},.string {data:=#[102,117,110,99,32,109,97,105,110,40,41,32,123,32,118,97,114,32,120,59,32,64,49,32,120,32,61,32,49,59,32,64,49,32,120,32,61,32,50,59,32,125]}] 9 (0,0))
 m:wr.heap[w3.heap.size+1]?=some (.cells #[.int .i64 6,.int .i64 7,.int .i64 8,.int .i64 9,.int .i64 10,.int .i64 10,.int .i64 9] 33 (0,0))
theorem LInv.on {w w1 w3 wr W:World} {a:Option Addr} {c:Nat} (h:LInv w w1 w3 a c wr) (hb:Below wr.heap.size wr W):LInv w w1 w3 a c W:=
 ⟨zal h.b hb,h.p.on hb,bl hb h.g,bl hb h.l,bl hb h.m⟩
theorem ex_any {w:World} (H:Wo w):Calls Tryz.prog 8 #[] w fun e w'=>e=.returned (.bool true)∧Below w.heap.size w w':=by
 have HO:=hid H
 clear H
 go_enter Tryz.func8,Tryz.ntmps8
 go_wp2_with (first
  | (go_at_call 11;(refine(none_p 0 _).mono ?_);(rintro e w3 ⟨rfl,hb3⟩);have HB3:=hid hb3;clear hb3)
  | (go_at_call 11;(refine(HG.out.chk _ ?_).mono ?_);(exact Below.alloc (Below.refl _ _) (Nat.le_refl _) _);(rintro e w2 ⟨rfl,hb2⟩);have HB2:=hid hb2;clear hb2)
  | (go_at_call 23;(refine(zcV HO.out _ (t:=tG) (by rfl) (by decide) evG).mono ?_);(rintro e w1 ⟨hb1,a,c,l,rfl,h1,h2,h3⟩);obtain⟨hl,hg⟩:=good_p (c:=c) h1 h2 h3;rw[hl];obtain⟨kb,ko,v0,v1,v2,v3,rfl,hz1,hz2⟩:=hg.sz;have HZ1:=hid hz1;have HZ2:=hid hz2;have HG:=hid hg;have HB1:=hid hb1;clear hl hg h1 h2 h3 hb1 hz1 hz2))
 have HI0:Hid (LInv w w1 w3 (some ⟨kb,ko,none⟩) c ((w3.alloc (.cells #[.string {data:=#[102,117,110,99,32,109,97,105,110,40,41,32,123,32,120,32,61,32,49,59,32,125]},.string {data:=#[102,117,110,99,32,109,97,105,110,40,41,32,123,32,118,97,114,32,120,91,50,93,59,32,120,32,61,32,49,59,32,125]},.string {data:=#[102,117,110,99,32,109,97,105,110,40,41,32,123,32,98,114,101,97,107,59,32,125]},.string {data:=#[102,117,110,99,32,102,40,41,32,123,32,64,49,32,114,101,116,117,114,110,32,48,59,32,125,32,102,117,110,99,32,109,97,105,110,40,41,32,123,32,125]},.string {data:=#[102,117,110,99,32,102,40,97,41,32,123,32,114,101,116,117,114,110,32,97,59,32,125,32,102,117,110,99,32,109,97,105,110,40,41,32,123,32,118,97,114,32,120,59,32,120,32,61,32,102,40,41,59,32,125]},.string {data:=#[102,117,110,99,32,102,40,41,32,123,32,114,101,116,117,114,110,32,48,59,32,125]},.string {data:=#[102,117,110,99,32,109,97,105,110,40,41,32,123,32,118,97,114,32,120,59,32,64,49,32,120,32,61,32,49,59,32,64,49,32,120,32,61,32,50,59,32,125]}] 9)).alloc (.cells #[.int .i64 6,.int .i64 7,.int .i64 8,.int .i64 9,.int .i64 10,.int .i64 10,.int .i64 9] 33))):=hid (by
  have hb2:Below w1.heap.size w1 w2:=zal (bal (bre w1) _) HB2.out
  have hb3:Below w1.heap.size w1 w3:=zal hb2 HB3.out
  refine⟨bal (bal (zal HB1.out hb3) _) _,bal (bal hb3 _) _,ob _ (ob _ (bl HB3.out (bl HB2.out (nb _ rfl)))),ob _ (nb _ rfl),nb _ (by simp)⟩)
 clear HB1 HB2 HB3
 go_loopw [10,11,12,13,14,15] (fun i _ _ _ _ _ wr=>∃k:Nat,k≤7∧i=.int .i64 k∧LInv w w1 w3 (some ⟨kb,ko,none⟩) c wr) (fun i _ _ _ _ _ _=>7 - (intOf i).toNat)
 case atStart=>exact⟨0,by omega,rfl,HI0.out⟩
 case round =>
  clear HI0
  obtain⟨k,hk,rfl,hi⟩:=hrel
  have HI:=hid hi
  clear hi
  by_cases hlt:k < 7
  ·have r0:=lcell HI.out.l k hlt
   have r1:=wcell HI.out.m k hlt
   have hl0:=zcR HI.out.l
   have hl1:=zcR HI.out.m
   have EV:=hid (evB k hlt)
   obtain⟨v,hv⟩:∃v,wB k=v:=⟨_,rfl⟩
   have HV:=hid hv
   rw[hv] at r1
   clear hv
   go_wp2_with (first
    | (go_at_call 11;(refine(HK.out _ ?_).mono ?_);(exact Below.alloc (Below.refl _ _) (Nat.le_refl _) _);(rintro e w5 ⟨rfl,hb5⟩);have r5:=wcell (HI4.out.on (zal (bal (bre w4) _) hb5)).m k hlt;rw[HV.out] at r5;have hl5:=zcR (HI4.out.on (zal (bal (bre w4) _) hb5)).m;have HI5:=hid (HI4.out.on (zal (bal (bre w4) _) hb5));clear hb5)
    | (go_at_call 23;(refine(zcV (HO.out.on HI.out.b) _ (t:=tB k) rfl (lenB k) EV.out.1).mono ?_);(rintro e w4 ⟨hb4,a4,c4,l4,rfl,h1,h2,h3⟩);obtain⟨wh,hk4⟩:=bad_p (c:=c4) hlt h1 h2 h3;rw[HV.out] at hk4;obtain⟨n4,hn4⟩:∃n4,l4.length=n4:=⟨_,rfl⟩;rw[hn4] at hk4 ⊢;have HK:=hid hk4;have HI4:=hid (HI.out.on hb4);clear hk4 hb4 h1 h2 h3 hn4))
   go_round
   case rel=>exact⟨k+1,by omega,by go_num,HI5.out⟩
   case measure=>simp[intOf];omega
  ·obtain rfl:k=7:=by omega
   have g0:=zab (k:=0) HI.out.g rfl
   have hlg:=zcR HI.out.g
   obtain⟨s0,s1,s2,s3,hls⟩:=HZ1.out _ HI.out.p
   have HIP:=hid HI.out.p
   have HGW:=hid HI.out.g
   have HIB:=hid HI.out.b
   clear HI
   go_wp2_with (first
    | (go_at_call 19;(refine(HG.out.fd _ HP5.out).mono ?_);(rintro e w10 ⟨rfl,hb6⟩);have HP6:=hid (HP5.out.on hb6);have HB6:=hid (zal HB5.out hb6);clear hb6)
    | (go_at_call 17;(refine(HG.out.cr4 _ _ (Past.alloc HP4.out _) (nb _ rfl)).mono ?_);(rintro e w9 ⟨rfl,hb5⟩);have g5:=zab (k:=0) (bl hb5 (ob _ HG4.out)) rfl;have HP5:=hid ((HP4.out.alloc _).on hb5);have HB5:=hid (zal (bal HB4.out _) hb5);clear hb5)
    | (go_at_call 17;(refine(HG.out.cr3 _ _ (Past.alloc HP3.out _) (nb _ rfl)).mono ?_);(rintro e w8 ⟨rfl,hb4⟩);have hg4:=bl hb4 (ob _ HG3.out);have g4:=zab (k:=0) hg4 rfl;have HG4:=hid hg4;have HP4:=hid ((HP3.out.alloc _).on hb4);have HB4:=hid (zal (bal HB3.out _) hb4);clear hb4 hg4)
    | (go_at_call 17;(refine(HG.out.cr2 _ HP2.out).mono ?_);(rintro e w7 ⟨rfl,hb3⟩);have hg3:=bl hb3 HG2.out;have g3:=zab (k:=0) hg3 rfl;have HG3:=hid hg3;have HP3:=hid (HP2.out.on hb3);have HB3:=hid (zal HB2.out hb3);clear hb3 hg3)
    | (go_at_call 17;(refine(HG.out.cr1 _ _ (Past.alloc HP1.out _) (nb _ rfl)).mono ?_);(rintro e w6 ⟨rfl,hb2⟩);have hg2:=bl hb2 (ob _ HG1.out);have g2:=zab (k:=0) hg2 rfl;have HG2:=hid hg2;have HP2:=hid ((HP1.out.alloc _).on hb2);have HB2:=hid (zal (bal HB1.out _) hb2);clear hb2 hg2)
    | (go_at_call 14;(refine(HZ2.out _ HIP.out).mono ?_);(rintro e w5 ⟨rfl,hb1⟩);have hg1:=bl hb1 HGW.out;have g1:=zab (k:=0) hg1 rfl;have HG1:=hid hg1;have HP1:=hid (HIP.out.on hb1);have HB1:=hid (zal HIB.out hb1);clear hb1 hg1))
   go_ret
   exact⟨rfl,HB6.out⟩
end Go.Proofs.YtljbbhhiiiepcaaGreatDoor.Ck

namespace Go.Proofs.YtljbbhhiiiepcaaGreatDoor.Ck
open Go Go.RowKit Go.Proofs.YtljbbhhiiiepcaaGreatDoor
section
variable (p1 v1 b1 p2 v2 b2 p3 v3 b3:Option Addr) (c1 d1 e1 c2 d2 e2 c3 d3 e3:Nat) (l1 l2 l3:List ST)
theorem crit_made {t u:Int} (hp:zb5 (zbm p1 v1 b1 p2 v2 b2 p3 v3 b3 c1 d1 e1 c2 d2 e2 c3 d3 e3 l1 l2 l3)=((0,(upTo t u).reverse),-1)) (k:Int) (L:List ByteArray):
  critF (zbm p1 v1 b1 p2 v2 b2 p3 v3 b3 c1 d1 e1 c2 d2 e2 c3 d3 e3 l1 l2 l3) k L=orE (tg9 k (upTo t u).reverse) (lastC (zbm p1 v1 b1 p2 v2 b2 p3 v3 b3 c1 d1 e1 c2 d2 e2 c3 d3 e3 l1 l2 l3) L):=by
 unfold critF;rw[hp];rfl
theorem tg9_made {t u k:Int} (ht:0≤t):tg9 k (upTo t u).reverse=if t < k∧k≤u then 0 else 9:=by
 unfold tg9
 by_cases h:t < k∧k≤u
 ·rw[if_pos h,if_neg (fun h'=>by rcases h' with h' | h';omega;exact h' (List.mem_reverse.2 (mem_upTo.2 h)))]
 ·rw[if_neg h,if_pos (Or.inr (fun h'=>h (mem_upTo.1 (List.mem_reverse.1 h'))))]
end
end Go.Proofs.YtljbbhhiiiepcaaGreatDoor.Ck

namespace Go.Proofs.YtljbbhhiiiepcaaGreatDoor.Ck
open Go Go.RowKit Go.Proofs.YtljbbhhiiiepcaaGreatDoor
open Go.Lib (hid)
abbrev tgN (l:List ST):Nat:=(tgSs l).length
theorem zek (S:ST):(tgS S).length=(if 0 < S.tag then 1 else 0)+(tgN S.body+tgN S.els):=by
 obtain⟨k,t,n,f,ea,ec,e,ba,bc,b,la,lc,l⟩:=S
 show(tgS (.mk k t n f ea ec e ba bc b la lc l)).length=(if 0 < t then 1 else 0)+((tgSs b).length+(tgSs l).length)
 rw[tgS,List.length_append,List.length_append]
 split<;>rfl
theorem tgN_take {l:List ST} {n:Nat} (hn:n < l.length):tgN (l.take (n+1))=tgN (l.take n)+(tgS l[n]).length:=by
 induction l generalizing n with
 | nil=>simp at hn
 | cons S l ih =>
  cases n with
  | zero=>simp[tgN,tgSs]
  | succ n =>
   have:=ih (n:=n) (by simpa using hn)
   simp only[tgN,List.take_succ_cons,tgSs,List.getElem_cons_succ,List.length_append] at this ⊢
   omega
theorem tgN_take_le (l:List ST):∀n,tgN (l.take n)≤tgN l:=by
 induction l with
 | nil=>intro n;simp[tgN,tgSs]
 | cons S l ih =>
  intro n
  cases n with
  | zero=>simp[tgN,tgSs]
  | succ n=>have:=ih n;simp only[tgN,List.take_succ_cons,tgSs,List.length_append] at this ⊢;omega
theorem tags_any {w0:World}:∀(m:Nat) (a:Option Addr) (c:Nat) (l:List ST),Szs l < m→l.length≤9223372036854775807→tgN l≤1000000→SsIn w0 0 a 0 l→∀w,Past w0 w →
  Calls Tryz.prog 26 #[.slice a l.length c] w fun e w'=>e=.returned (.int .i64 (tgN l:Nat))∧Below w.heap.size w w':=by
 intro m
 induction m with
 | zero=>intro a c l hm;omega
 | succ m ih =>
  intro a c l hm hl hE hin w hp
  have hle:∀(n:Nat) (hn:n < l.length),tgN l[n].body+tgN l[n].els≤1000000∧tgN (l.take n)+(tgS l[n]).length≤1000000:=fun n hn=>by
   have h1:=tgN_take hn
   have h2:=tgN_take_le l (n+1)
   have h3:=zek l[n]
   omega
  have HC:Hid (∀(n:Nat) (hn:n < l.length) (W:World),Past w0 W→Calls Tryz.prog 26 #[.slice l[n].ba l[n].bn l[n].bc] W fun e w'=>e=.returned (.int .i64 (tgN l[n].body:Nat))∧Below W.heap.size W w'):=hid fun n hn W hW=>by
   have h1:=in_body (hin.nth n hn).2
   rw[bn_is]
   exact ih l[n].ba l[n].bc l[n].body (by have:=zc7 l[n];have:=zcZ hn;omega) h1.2 (by have:=hle n hn;omega) h1.1 W hW
  have HD:Hid (∀(n:Nat) (hn:n < l.length) (W:World),Past w0 W→Calls Tryz.prog 26 #[.slice l[n].la l[n].ln l[n].lc] W fun e w'=>e=.returned (.int .i64 (tgN l[n].els:Nat))∧Below W.heap.size W w'):=hid fun n hn W hW=>by
   have h1:=in_els (hin.nth n hn).2
   rw[ln_is]
   exact ih l[n].la l[n].lc l[n].els (by have:=zc7 l[n];have:=zcZ hn;omega) h1.2 (by have:=hle n hn;omega) h1.1 W hW
  have HI:=hid hin
  have HP:=hid hp
  have HLE:=hid hle
  clear hin hp ih hm hle hE
  go_enter Tryz.func26,Tryz.ntmps26
  go_wp2
  go_loopw [3,4] (fun v i wr=>∃n:Nat,n≤l.length∧i=.int .i64 n∧v=.int .i64 ((tgN (l.take n):Nat):Int)∧Below w.heap.size w wr) (fun _ i _=>l.length - (intOf i).toNat)
  case atStart=>exact⟨0,Nat.zero_le _,rfl,rfl,Below.refl _ _⟩
  case round =>
   obtain⟨n,hn,rfl,rfl,hb⟩:=hrel
   have HB:=hid hb
   clear hb
   by_cases hlt:n < l.length
   ·obtain⟨hrow,-⟩:=HI.out.nth n hlt
    have hrow':=hrow
    obtain⟨kb,ko,rfl,-⟩:=hrow'
    rw[ST.cells_eq,Nat.zero_add] at hrow
    have HROW:=hid hrow
    obtain⟨r0,r1,r2,r3,r4,r5,r6,hkb⟩:=zbs hrow (HP.out.on HB.out)
    have hc1:=HC.out n hlt
    have hc2:=HD.out n hlt
    have hu:=tgN_take hlt
    rw[zek] at hu
    have hle:=(HLE.out n hlt).2
    rw[zek] at hle
    obtain⟨x,hx⟩:∃x:Int,((tgN (l.take n):Nat):Int)=x:=⟨_,rfl⟩
    obtain⟨v1,hv1⟩:∃v1:Int,((tgN l[n].body:Nat):Int)=v1:=⟨_,rfl⟩
    obtain⟨v2,hv2⟩:∃v2:Int,((tgN l[n].els:Nat):Int)=v2:=⟨_,rfl⟩
    have b0:0≤x:=by omega
    have b1:0≤v1:=by omega
    have b2:0≤v2:=by omega
    have b3:x+v1+v2≤1000000:=by omega
    have HU:Hid (((tgN (l.take (n+1)):Nat):Int)=(if 0 < l[n].tag then 1 else 0)+(x+(v1+v2))):=hid (by
     rw[hu,←hx,←hv1,←hv2]
     split<;>simp<;>omega)
    rw[hv1] at hc1
    rw[hv2] at hc2
    rw[hx]
    have HC1:=hid hc1
    have HC2:=hid hc2
    have HKB:=hid hkb
    clear hc1 hc2 hrow hu hx hv1 hv2 HC HD hle
    have key:∀(y:Int),0≤y→y≤x+2→IntKind.i64.wrap (y+v1)=y+v1∧IntKind.i64.wrap (y+v1+v2)=y+v1+v2:=fun y h1 h2=>⟨IntWalk.i64_in _ (by omega),IntWalk.i64_in _ (by omega)⟩
    have KEY:=hid key
    clear key
    obtain⟨tg,htg⟩:∃tg,l[n].tag=tg:=⟨_,rfl⟩
    rw[htg] at HU HROW r1
    clear htg
    rcases Decidable.em (0 < tg) with h4 | h4
    ·have d1:decide (0 < tg)=true:=decide_eq_true h4
     obtain⟨e1,e2⟩:=KEY.out (x+1) (by omega) (by omega)
     have HU':Hid (((tgN (l.take (n+1)):Nat):Int)=x+1+v1+v2):=hid (by rw[HU.out,if_pos h4];omega)
     go_wp2
     have hp:Hid (Past w0 wr.drew):=hid ((HP.out.on HB.out).drew)
     have hbel:Hid (Below w.heap.size w wr.drew):=hid (Below.drew HB.out)
     go_region_held3 (fun w'=>w'.cell? ⟨kb,ko+n*7+5,none⟩=some (.slice l[n].ba l[n].bn l[n].bc)∧w'.cell? ⟨kb,ko+n*7+6,none⟩=some (.slice l[n].la l[n].ln l[n].lc)) ((refine⟨?_,?_⟩<;>(first | with_reducible assumption | (with_reducible refine cellD ?_;with_reducible assumption))))
      (first
       | (go_at_call 26;((with_reducible refine(HC1.out _ hp.out).mono ?_);rintro e wk ⟨rfl,hb⟩);have hq:=hid (hp.out.on hb);have hq2:=hid (zal hbel.out hb);clear hp hb hbel;have hp:=hq;have hbel:=hq2;clear hq hq2;obtain⟨r0,r1,r2,r3,r4,r5,r6,hkb⟩:=zbs HROW.out hp.out)
       | (go_at_call 26;((with_reducible refine(HC2.out _ hp.out).mono ?_);rintro e wk ⟨rfl,hb⟩);have hq:=hid (hp.out.on hb);have hq2:=hid (zal hbel.out hb);clear hp hb hbel;have hp:=hq;have hbel:=hq2;clear hq hq2;obtain⟨r0,r1,r2,r3,r4,r5,r6,hkb⟩:=zbs HROW.out hp.out))
     go_wp2
     go_roundw
     case rel=>exact⟨n+1,by omega,by go_num,by rw[HU'.out],hbel.out⟩
     case measure=>simp[intOf];omega
    ·have d1:decide (0 < tg)=false:=decide_eq_false h4
     obtain⟨e1,e2⟩:=KEY.out x (by omega) (by omega)
     have HU':Hid (((tgN (l.take (n+1)):Nat):Int)=x+v1+v2):=hid (by rw[HU.out,if_neg h4];omega)
     go_wp2
     have hp:Hid (Past w0 wr.drew):=hid ((HP.out.on HB.out).drew)
     have hbel:Hid (Below w.heap.size w wr.drew):=hid (Below.drew HB.out)
     go_region_held3 (fun w'=>w'.cell? ⟨kb,ko+n*7+5,none⟩=some (.slice l[n].ba l[n].bn l[n].bc)∧w'.cell? ⟨kb,ko+n*7+6,none⟩=some (.slice l[n].la l[n].ln l[n].lc)) ((refine⟨?_,?_⟩<;>(first | with_reducible assumption | (with_reducible refine cellD ?_;with_reducible assumption))))
      (first
       | (go_at_call 26;((with_reducible refine(HC1.out _ hp.out).mono ?_);rintro e wk ⟨rfl,hb⟩);have hq:=hid (hp.out.on hb);have hq2:=hid (zal hbel.out hb);clear hp hb hbel;have hp:=hq;have hbel:=hq2;clear hq hq2;obtain⟨r0,r1,r2,r3,r4,r5,r6,hkb⟩:=zbs HROW.out hp.out)
       | (go_at_call 26;((with_reducible refine(HC2.out _ hp.out).mono ?_);rintro e wk ⟨rfl,hb⟩);have hq:=hid (hp.out.on hb);have hq2:=hid (zal hbel.out hb);clear hp hb hbel;have hp:=hq;have hbel:=hq2;clear hq hq2;obtain⟨r0,r1,r2,r3,r4,r5,r6,hkb⟩:=zbs HROW.out hp.out))
     go_wp2
     go_roundw
     case rel=>exact⟨n+1,by omega,by go_num,by rw[HU'.out],hbel.out⟩
     case measure=>simp[intOf];omega
   ·obtain rfl:n=l.length:=by omega
    have HE:Hid (((tgN (l.take l.length):Nat):Int)=((tgN l:Nat):Int)):=hid (by rw[List.take_length])
    rw[HE.out]
    go_wp2
    go_ret
    exact⟨rfl,HB.out⟩
end Go.Proofs.YtljbbhhiiiepcaaGreatDoor.Ck
