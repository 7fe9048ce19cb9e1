/- Where a name's number is kept, and what is got and set there: the walks of place, load, store, Get, Set, At, Put. -/
import Derived.Test.YtbilfdapmbahgaaGreatDoorPParse
import Derived.Test.YtbilfdapmbahgaaGreatDoorKModel
import Derived.Test.YtbilfdapmbahgaaGreatDoorKCrit
import Derived.Test.YtbilfdapmbahgaaGreatDoorKWhole4
import Derived.Test.YtbilfdapmbahgaaGreatDoorTRight2
import Derived.Stop.LaidErr
import Derived.OpenShut
import Derived.Lib.SmallJoins
import Derived.Deep.RegionHeld3
import Derived.Deep.AppendLies
import Derived.OwnWalk
import Derived.Deep.RegionLaw
import Derived.Maps.AppendAt
import Derived.Maps.Own
import Derived.Maps.OwnOps
import Derived.Maps.OwnSet
import Derived.Maps.Views
import Derived.Deep.QuietTactic
import Derived.BigQuiet
import Derived.Deep.RegionWith
import Derived.BigRegion
import Derived.Lib.AppendIntMem
import Derived.Deep.DeepCutAuto
import Derived.StringKeys
set_option linter.unusedSimpArgs false
set_option linter.unusedVariables false
set_option maxHeartbeats 8000000
set_option maxRecDepth 100000
namespace Go.Proofs.YtbilfdapmbahgaaGreatDoor.Pm
open Go Go.RowKit Go.Proofs.YtbilfdapmbahgaaGreatDoor
structure Wo (w:World):Prop where
 er:Lx.Errs w
 pw:Pow w
theorem Wo.on {w w':World} (h:Wo w) (hp:Past w w'):Wo w':=⟨h.er.on (show Lx.Past w w' from hp),h.pw.on hp⟩
section
variable {w0 w:World}
end
end Go.Proofs.YtbilfdapmbahgaaGreatDoor.Pm
namespace Go.Proofs.YtbilfdapmbahgaaGreatDoor.Pm
open Go Go.RowKit Go.Proofs.YtbilfdapmbahgaaGreatDoor
theorem gSyn:Tryz.prog.globalNamed "strconv.ErrSyntax"=some 0:=by kernel_rfl
theorem gRng:Tryz.prog.globalNamed "strconv.ErrRange"=some 1:=by kernel_rfl
theorem gSynT:(Tryz.prog.globals[0]?).map (·.type)=some 320:=by kernel_rfl
theorem gRngT:(Tryz.prog.globals[1]?).map (·.type)=some 320:=by kernel_rfl
theorem starErr: "*"++ "errors.errorString"= "*errors.errorString":=by decide
theorem row_err (u:TypeId) (h:Tryz.prog.typeName? 3 u=some "*errors.errorString"):u=366:=
 typeName_ptr_named (nm:= "errors.errorString") (by rw[starErr];kernel_rfl) (by kernel_rfl) (by decide) u (by rw[starErr];exact h)
theorem errs_facts {x y z:String×DataW Unit} {W:World}
  (h:laidMet Tryz.prog [x,y,z,("strconv.ErrRange",.iface "*errors.errorString" (.ptr (.agg [.lit (.string [118,97,108,117,101,32,111,117,116,32,111,102,32,114,97,110,103,101])]))),("strconv.ErrSyntax",.iface "*errors.errorString" (.ptr (.agg [.lit (.string [105,110,118,97,108,105,100,32,115,121,110,116,97,120])])))] W):Lx.Errs W:=by
 have h3:=h.tail.tail.tail
 obtain⟨a1,s1,hv1,_⟩:=laid_sentinel h3 gRng gRngT Tryz.underlying320 row_err Tryz.underlying366 Tryz.underlying368 rfl rfl Tryz.underlying9 (by kernel_rfl) (by kernel_rfl)
 obtain⟨a2,s2,hv2,_⟩:=laid_sentinel h3.tail gSyn gSynT Tryz.underlying320 row_err Tryz.underlying366 Tryz.underlying368 rfl rfl Tryz.underlying9 (by kernel_rfl) (by kernel_rfl)
 exact⟨⟨_,_,hv2⟩,⟨_,_,hv1⟩⟩
theorem wo_facts {x y:String×DataW Unit} {W:World} (h:laidMet Tryz.prog [x,y,("internal/strconv.uint64pow10",(Lib.tabData .u64 Lib.pow10Tab:DataW Unit)),("strconv.ErrRange",.iface "*errors.errorString" (.ptr (.agg [.lit (.string [118,97,108,117,101,32,111,117,116,32,111,102,32,114,97,110,103,101])]))),("strconv.ErrSyntax",.iface "*errors.errorString" (.ptr (.agg [.lit (.string [105,110,118,97,108,105,100,32,115,121,110,116,97,120])])))] W):Wo W:=
 ⟨errs_facts h,laid_facts h⟩
end Go.Proofs.YtbilfdapmbahgaaGreatDoor.Pm

namespace Go.Proofs.YtbilfdapmbahgaaGreatDoor.Ck
open Go Go.RowKit Go.Proofs.YtbilfdapmbahgaaGreatDoor Go.Proofs.YtbilfdapmbahgaaGreatDoor.Pm
/- Right trees: what is asked of them as of plain data. -/
def tg9R (tag:Int) (seen:List Nat):Nat:=if tag < 1∨tag.toNat∉seen then 9 else 0
def varsR (F:RF) (vars:List Nm):Nat:=match vars with
 | []=>0
 | a :: l=>orE (zdy F a false) (varsR F l)
def lastR (l:List RF) (vars:List Nm):Nat:=match l.getLast? with
 | some F=>varsR F vars
 | none=>0
def critR (l:List RF) (tag:Int) (vars:List Nm):Nat:=orE (orE (orE 0 (progR l).1.1) (tg9R tag (progR l).1.2)) (lastR l vars)
theorem vars_rf {F:FT} (h:F.rightB=true) (vars:List ByteArray):varsF F vars=varsR F.rf (vars.map fun s=>s.data.toList):=by
 induction vars with
 | nil=>rfl
 | cons a l ih=>rw[varsF,List.map_cons,varsR,named_rf h,ih]
theorem crit_rf {l:List FT} (h:l.all FT.rightB=true) (tag:Int) (vars:List ByteArray):critF l tag vars=critR (l.map FT.rf) tag (vars.map fun s=>s.data.toList):=by
 have hp:=(prog_rf h).1
 unfold critF critR
 rw[hp.1,←hp.2.1]
 congr 1
 ·congr 1
  unfold tg9 tg9R
  by_cases h1:tag < 1
  ·rw[if_pos (Or.inl h1),if_pos (Or.inl h1)]
  ·have e:(tag.toNat∈natS (zcq l).1.2)=(tag∈(zcq l).1.2):=propext (mem_natS (by omega) hp.2.2)
   simp only[e]
 ·unfold lastC lastR
  rw[List.getLast?_map]
  cases hl:l.getLast? with
  | none=>rfl
  | some F =>
   exact vars_rf (List.all_eq_true.1 h F (List.mem_of_getLast? hl)) vars
def ze2 (p:List RF):Bool:=decide (stsR p≤4611686018427387904)&&p.all fun F=>decide (F.params.length≤1000000000∧F.vars.length≤1000000000)
theorem zdi {l:List FT} (h:l.all FT.rightB=true) (hs:ze2 (l.map FT.rf)=true):Small l:=by
 unfold ze2 at hs
 rw[Bool.and_eq_true,decide_eq_true_eq,List.all_eq_true] at hs
 refine⟨by rw[sts_rf h];exact hs.1,fun k hk=>?_⟩
 have:=of_decide_eq_true (hs.2 l[k].rf (List.mem_map.2 ⟨_,List.getElem_mem hk,rfl⟩))
 simpa[FT.rf] using this
def pOf (t:List UInt8):List RF:=match zc0 100 t with
 | .ok p _=>p
 | .bad _ _=>[]
def mOf (t:List UInt8):Nat:=match zc0 100 t with
 | .ok _ n=>n
 | .bad _ _=>0
def wB:Nat→Nat
 | 0=>6
 | 1=>7
 | 2=>8
 | 3=>9
 | 4=>10
 | 5=>10
 | _=>9
theorem zdf {w:World} (H:Wo w) (sb:ByteArray) {t:List UInt8} {p:List RF} {mo:Nat} (hs:sb.data.toList=t) (hl:t.length≤8192) (ev:zc0 100 t=.ok p mo):
  Calls Tryz.prog 28 #[.string sb] w fun e w'=>Below w.heap.size w w'∧∃a c l,e=.returned (.tuple #[.agg #[.slice a l.length c],.int .i64 (t.length:Nat),.int .i64 0])∧l.map FT.rf=p∧l.all FT.rightB=true∧FsIn w' 0 a l:=by
 subst hs
 refine(pParse_any 100 sb hl H.er (finA_ok ev)).mono ?_
 intro e w' hq
 rw[ev] at hq
 obtain⟨hb,v,rfl,a,c,l,rfl,h1,h2,h3,-⟩:=hq
 exact⟨hb,a,c,l,rfl,h1,h2,h3.mono (Nat.zero_le _)⟩
end Go.Proofs.YtbilfdapmbahgaaGreatDoor.Ck

namespace Go.Proofs.YtbilfdapmbahgaaGreatDoor.Ck
open Go Go.RowKit Go.Proofs.YtbilfdapmbahgaaGreatDoor
mutual
theorem cntS_n:∀s:RS,cntS s=1+nB s
 | .asg _ _ _=>by rw[cntS,nB]<;>simp
 | .sto _ _ _ _=>by rw[cntS,nB]<;>simp
 | .rd _ _=>by rw[cntS,nB]<;>simp
 | .call _ _ _ _=>by rw[cntS,nB]<;>simp
 | .ife _ _ b l=>by rw[cntS,nB,cntSs_n b,cntSs_n l]
 | .whl _ _ b=>by rw[cntS,nB,cntSs_n b]
 | .brk _=>by rw[cntS,nB]<;>simp
 | .cnt _=>by rw[cntS,nB]<;>simp
 | .ret _ _=>by rw[cntS,nB]<;>simp
 | .ass _ _=>by rw[cntS,nB]<;>simp
theorem cntSs_n:∀l:List RS,cntSs l=nSs l
 | []=>by rw[cntSs,nSs]
 | s :: l=>by rw[cntSs,nSs,cntS_n s,cntSs_n l]
end
theorem cnts_n {l:List ST} (h:zam l=true):cnts l=nSs (rss l):=by
 rw[cnt_rf _ l (Nat.lt_succ_self _) h,cntSs_n]
end Go.Proofs.YtbilfdapmbahgaaGreatDoor.Ck

namespace Go.Proofs.YtbilfdapmbahgaaGreatDoor.Ck
open Go Go.RowKit Go.Proofs.YtbilfdapmbahgaaGreatDoor
abbrev wA:ByteArray:={data:=#[97]}
section
variable (p1 v1 b1 p2 v2 b2 p3 v3 b3:Option Addr) (c1 d1 e1 c2 d2 e2 c3 d3 e3:Nat) (l1 l2 l3:List ST)
variable {l1 l2 l3}
variable (l1 l2 l3)
variable {l1 l2 l3}
end
abbrev contS:ST:=.mk 7 0 ⟨#[]⟩ ⟨#[]⟩ none 0 [] none 0 [] none 0 []
def wr (x:Bool) (l:List ST):List ST:=if x then l++[contS] else l
section
variable (p1 v1 b1 p2 v2 b2 p3 v3 b3:Option Addr) (c1 d1 e1 c2 d2 e2 c3 d3 e3:Nat) {l1 l2 l3:List ST}
theorem tag_none {l:List FT} {i:Nat} {S:ST} {seen:List Int} (h:S.tag=0):tagF l i S seen=0:=by unfold tagF;rw[if_neg (by omega)]
end
end Go.Proofs.YtbilfdapmbahgaaGreatDoor.Ck

namespace Go.Proofs.YtbilfdapmbahgaaGreatDoor.Ev
open Go Go.RowKit Go.Proofs.YtbilfdapmbahgaaGreatDoor
abbrev in64 (n:Int):Prop:=-9223372036854775808≤n∧n≤9223372036854775807
structure PC where
 name:List UInt8
 arr:Bool
 v:List Int
deriving DecidableEq
def zbs (s:List UInt8):List PC→Option Nat
 | []=>none
 | c :: l=>if c.name=s then some 0 else (zbs s l).map (·+1)
theorem idxOf_lt {s:List UInt8}:∀{L:List PC} {k:Nat},zbs s L=some k→∃c,L[k]?=some c∧c.name=s
 | [],k,h=>by cases h
 | c :: l,k,h=>by
  rw[zbs] at h
  split at h
  ·rename_i e
   cases h
   exact⟨c,rfl,e⟩
  ·cases hi:zbs s l with
   | none=>rw[hi] at h;cases h
   | some j =>
    rw[hi] at h
    cases h
    obtain⟨d,hd,e⟩:=idxOf_lt hi
    exact⟨d,hd,e⟩
theorem idxOf_snoc (s:List UInt8) (c:PC):∀L:List PC,zbs s (L++[c])=match zbs s L with | some k=>some k | none=>if c.name=s then some L.length else none
 | []=>by simp[zbs]
 | d :: L=>by
  rw[List.cons_append,zbs,zbs,idxOf_snoc s c L]
  by_cases e:d.name=s
  ·simp[e]
  ·rw[if_neg e,if_neg e]
   cases zbs s L with
   | some k=>simp
   | none =>
    by_cases e2:c.name=s
    ·simp[e2]
    ·simp[e2]
def slot (L:List PC) (s:List UInt8) (arr:Bool) (i:Int):Option (Nat×Nat):=
 match zbs s L with
 | none=>none
 | some k=>match L[k]? with
  | none=>none
  | some c=>if c.arr=arr∧0≤i∧i < (c.v.length:Nat) then some (k,i.toNat) else none
theorem slot_is {L:List PC} {s:List UInt8} {arr:Bool} {i:Int} {k j:Nat} (h:slot L s arr i=some (k,j)):zbs s L=some k∧i=(j:Nat)∧∃c,L[k]?=some c∧c.arr=arr∧j < c.v.length:=by
 unfold slot at h
 split at h
 ·cases h
 ·rename_i k' hk
  split at h
  ·cases h
  ·rename_i c hc
   split at h
   ·rename_i hi
    simp only[Option.some.injEq,Prod.mk.injEq] at h
    obtain⟨rfl,rfl⟩:=h
    exact⟨hk,by omega,c,hc,hi.1,by omega⟩
   ·cases h
def getV (L:List PC) (s:List UInt8) (arr:Bool) (i:Int):Option Int:=
 match slot L s arr i with
 | none=>none
 | some p=>match L[p.1]? with
  | none=>none
  | some c=>c.v[p.2]?
def setAt (L:List PC) (k j:Nat) (n:Int):List PC:=L.modify k fun c=>⟨c.name,c.arr,c.v.set j n⟩
def setV (L:List PC) (s:List UInt8) (arr:Bool) (i n:Int):List PC:=
 match slot L s arr i with
 | none=>L
 | some p=>setAt L p.1 p.2 n
theorem getV_some {L:List PC} {s:List UInt8} {arr:Bool} {i:Int} {k j:Nat} (h:slot L s arr i=some (k,j)):∃c x,L[k]?=some c∧c.v[j]?=some x∧getV L s arr i=some x:=by
 obtain⟨-,-,c,hc,-,hj⟩:=slot_is h
 refine⟨c,c.v[j],hc,List.getElem?_eq_getElem hj,?_⟩
 unfold getV
 rw[h]
 simp only[hc,List.getElem?_eq_getElem hj]
theorem getV_none {L:List PC} {s:List UInt8} {arr:Bool} {i:Int} (h:slot L s arr i=none):getV L s arr i=none:=by
 unfold getV
 rw[h]
theorem setAt_get (L:List PC) (k j:Nat) (n:Int) (m:Nat):(setAt L k j n)[m]?=if k=m then (L[m]?).map (fun c=>⟨c.name,c.arr,c.v.set j n⟩) else L[m]?:=by
 unfold setAt
 rw[List.getElem?_modify]
 split
 ·rfl
 ·simp
theorem idxOf_setAt (s:List UInt8) (j:Nat) (n:Int):∀(L:List PC) (k:Nat),zbs s (setAt L k j n)=zbs s L
 | [],k=>by simp[setAt,zbs]
 | c :: l,0=>by simp[setAt,zbs]
 | c :: l,k+1=>by
  have:=idxOf_setAt s j n l k
  unfold setAt at this ⊢
  rw[List.modify_succ_cons,zbs,zbs,this]
def valR:Option Int→Int×Int
 | some x=>(x,0)
 | none=>(0,3)
def idxR (L:List PC) (s:List UInt8) (r:Int×Int):Int×Int:=if r.2=0 then valR (getV L s true r.1) else (0,r.2)
def unR (o:ByteArray) (r:Int×Int):Int×Int:=if r.2=0 then (unV o r.1,0) else (0,r.2)
def oneV (o:Option Int):Int:=match o with | some x=>x | none=>0
def zcn (o:ByteArray) (a:Int):Option Int:=if o.data.toList=[38,38]∧a=0 then some 0 else if o.data.toList=[124,124]∧a≠0 then some 1 else none
def binR (o:ByteArray) (r q:Int×Int):Int×Int:=
 if r.2=0 then (match zcn o r.1 with | some x=>(x,0) | none=>if q.2=0 then (binV o r.1 q.1,binT o q.1) else (0,q.2)) else (0,r.2)
def evE (L:List PC):RE→Int×Int
 | .num n=>(n,0)
 | .var s=>(oneV (getV L s false 0),0)
 | .idx s e=>idxR L s (evE L e)
 | .un c e=>unR ⟨#[c]⟩ (evE L e)
 | .bin o a b=>binR ⟨o.toArray⟩ (evE L a) (evE L b)
def Nums (L:List PC):Prop:=∀c∈L,(∀x∈c.v,in64 x)∧c.v.length≤64
theorem Nums.get {L:List PC} (h:Nums L) {k:Nat} {c:PC} (hc:L[k]?=some c):(∀x∈c.v,in64 x)∧c.v.length≤64:=h c (List.mem_of_getElem? hc)
theorem Nums.getV {L:List PC} (h:Nums L) {s:List UInt8} {arr:Bool} {i x:Int} (hx:getV L s arr i=some x):in64 x:=by
 cases hs:slot L s arr i with
 | none=>rw[getV_none hs] at hx;cases hx
 | some p =>
  obtain⟨k,j⟩:=p
  obtain⟨c,y,hc,hy,e⟩:=getV_some hs
  rw[e] at hx
  cases hx
  exact(h.get hc).1 _ (List.mem_of_getElem? hy)
theorem Nums.setAt {L:List PC} (h:Nums L) (k j:Nat) {n:Int} (hn:in64 n):Nums (setAt L k j n):=by
 intro c hc
 obtain⟨m,hm⟩:=List.mem_iff_getElem?.1 hc
 rw[setAt_get] at hm
 split at hm
 ·cases hL:L[m]? with
  | none=>rw[hL] at hm;cases hm
  | some d =>
   rw[hL] at hm
   simp only[Option.map_some,Option.some.injEq] at hm
   subst hm
   have:=h.get hL
   refine⟨fun x hx=>?_,by simpa using this.2⟩
   rcases List.mem_or_eq_of_mem_set hx with hx | rfl
   ·exact this.1 x hx
   ·exact hn
 ·exact h.get hm
theorem Nums.setV {L:List PC} (h:Nums L) (s:List UInt8) (arr:Bool) (i:Int) {n:Int} (hn:in64 n):Nums (setV L s arr i n):=by
 unfold Ev.setV
 split
 ·exact h
 ·exact h.setAt _ _ hn
end Go.Proofs.YtbilfdapmbahgaaGreatDoor.Ev

namespace Go.Proofs.YtbilfdapmbahgaaGreatDoor.Ev
open Go Go.RowKit Go.Proofs.YtbilfdapmbahgaaGreatDoor
theorem keyS:Go.Maps.Keyed Tryz.prog 9:=Go.Maps.string_keyed Tryz.underlying9
theorem zeroI (w:World):(zeroValue 3).run Tryz.prog w=.ok (.int .i64 0) w:=by kernel_rfl
def numB (o:Option Nat):Int:=match o with | some k=>(k:Nat) | none=>0
def MapIn (M:Nat) (L:List PC) (w:World):Prop:=∃D:DataW Unit,w.ownsMap Tryz.prog 9 (plainElem Tryz.prog 3) M L.length D∧Go.Maps.IsMap D∧∀(s:List UInt8) z,D.atKey (.string s) z=match zbs s L with | some k=>.lit (.int .i64 (k:Nat)) | none=>z
theorem own_ne {w:World} {B n sz b:Nat} {e t:TypeId} {v:Value} {xs:List Value} {cs:Array Value} {fr:Nat×Nat} (h:w.ownsRow B e sz v n xs) (hb:w.heap[b]?=some (.cells cs t fr)) (ht:t≠e):v.ownBlock≠some b:=by
 rcases h.2 with ⟨rfl,_⟩ | ⟨g,cap,cur,rfl,_,hg,_⟩
 ·simp[Value.ownBlock]
 ·intro h
  simp only[Value.ownBlock,Option.some.injEq] at h
  subst h
  rw[hg] at hb
  simp only[Option.some.injEq,Obj.cells.injEq] at hb
  exact ht hb.2.1.symm
theorem MapIn.on {M:Nat} {L:List PC} {w w':World} (h:MapIn M L w) (hb:Below w.heap.size w w'):MapIn M L w':=by
 obtain⟨D,h1,h2,h3⟩:=h
 exact⟨D,h1.kept (row:=none) ⟨hb.os,hb.tape,hb.output,hb.size,fun k hk _=>hb.block k hk⟩ (by simp),h2,h3⟩
theorem MapIn.set {M:Nat} {L:List PC} {w:World} (h:MapIn M L w) {b:Nat} (hb:M≠b) (j:Nat) (u:Value):MapIn M L (w.setCell ⟨b,j,none⟩ u):=by
 obtain⟨D,h1,h2,h3⟩:=h
 exact⟨D,h1.setCell (a:=⟨b,j,none⟩) hb u,h2,h3⟩
theorem MapIn.ne {M:Nat} {L:List PC} {w:World} (h:MapIn M L w) {b:Nat} {cs:Array Value} {t:TypeId} {fr:Nat×Nat} (hb:w.heap[b]?=some (.cells cs t fr)):M≠b:=by
 obtain⟨D,⟨es,clock,h1,-⟩,-,-⟩:=h
 rintro rfl
 rw[h1] at hb
 cases hb
theorem map_new (w:World):MapIn w.heap.size [] (w.alloc (.map #[] 0)):=
 ⟨.map [],World.ownsMap_made _ _ _ _,Go.Maps.isMap_empty,fun t z=>rfl⟩
theorem MapIn.lt {M:Nat} {L:List PC} {w:World} (h:MapIn M L w):M < w.heap.size:=by
 obtain⟨D,h1,-⟩:=h;exact h1.lt
theorem i64_wf {k:Nat} (h:k≤1000000):(Lit.int .i64 (k:Nat)).wf=true:=WalkArith.wf_i64 (by omega)
theorem MapIn.look {M:Nat} {L:List PC} {w:World} (h:MapIn M L w) (s:ByteArray) (hs:s.size≤maxLen):
  (Instr.lookup 154 (.map (some M)) (.string s) true).run Tryz.prog w=.ok (.tuple #[.int .i64 (numB (zbs s.data.toList L)),.bool (zbs s.data.toList L).isSome]) w:=by
 obtain⟨D,h1,h2,h3⟩:=h
 obtain⟨v,ps,hrun,hv⟩:=h1.look_ok keyS Tryz.underlying154 (zeroI _) (plainElem_int Tryz.underlying3 (show(Lit.int .i64 0).wf=true by decide)) (Go.WideMaps.keyOf_string_mk Tryz.underlying9 hs)
 obtain⟨c,rfl,hc,-⟩:=plainElem_int_inv Tryz.underlying3 hv
 have hc1:=congrArg Prod.fst hc
 simp only at hc1
 rw[h3] at hc1
 cases hi:zbs s.data.toList L with
 | none =>
  rw[hi] at hc1
  have hh:Go.Maps.has D (.string s.data.toList)=false:=Go.Maps.has_false_of_atKey (fun z=>by rw[h3,hi])
  simp only[DataW.lit.injEq,Lit.int.injEq,true_and] at hc1
  rw[hrun,hh,←hc1]
  rfl
 | some k =>
  rw[hi] at hc1
  have hh:Go.Maps.has D (.string s.data.toList)=true:=Go.Maps.has_true_of_atKey (y:=.lit (.int .i64 (k:Nat))) (fun z=>by rw[h3,hi])
  simp only[DataW.lit.injEq,Lit.int.injEq,true_and] at hc1
  rw[hrun,hh,←hc1]
  rfl
theorem MapIn.same {M:Nat} {L:List PC} {w:World} (h:MapIn M L w) {c:PC} (hi:zbs c.name L≠none):MapIn M (L++[c]) w:=by
 obtain⟨D,⟨es,clock,h0,hF,hle,hD⟩,h2,h3⟩:=h
 refine⟨D,⟨es,clock,h0,hF,by rw[List.length_append];omega,hD⟩,h2,fun s z=>?_⟩
 rw[h3,idxOf_snoc]
 cases hs:zbs s L with
 | some k=>rfl
 | none =>
  have:c.name≠s:=by rintro rfl;exact hi hs
  simp[this]
theorem MapIn.add {M:Nat} {L:List PC} {w:World} (h:MapIn M L w) (hl:L.length≤1000000) {c:PC} {s:ByteArray} (hs:s.size≤maxLen) (hn:s.data.toList=c.name) (hi:zbs c.name L=none):
  ∃w',(Instr.mapUpdate 154 (.map (some M)) (.string s) (.int .i64 (L.length:Nat))).run Tryz.prog w=.ok () w'∧MapIn M (L++[c]) w'∧w.grownBy w' (some M):=by
 obtain⟨D,h1,h2,h3⟩:=h
 obtain⟨w',hrun,hown,hg⟩:=h1.update keyS Tryz.underlying154 (by unfold maxLen;omega) (Go.WideMaps.keyOf_string_mk Tryz.underlying9 hs) (plainElem_int Tryz.underlying3 (i64_wf hl))
 refine⟨w',hrun,⟨_,by rw[List.length_append];exact hown,h2.put _ _,fun t z=>?_⟩,hg⟩
 rw[idxOf_snoc]
 by_cases e:c.name=t
 ·subst e
  rw[hn,Go.Maps.atKey_put_same h2 (show Go.WideAt.IsKeyLit (Lit.string c.name) from trivial),hi]
  simp
 ·rw[Go.Maps.atKey_put_other (by rw[hn];simpa using fun h=>e h.symm),h3]
  cases zbs t L with
  | some k=>rfl
  | none=>simp[e]
def zbc (blk:Nat→Nat):Nat→List PC→List Value
 | _,[]=>[]
 | k,c :: l=>.string ⟨c.name.toArray⟩ :: .bool c.arr :: .slice (some ⟨blk k,0,none⟩) c.v.length c.v.length :: zbc blk (k+1) l
theorem rowOf_len (blk:Nat→Nat):∀(l:List PC) (k:Nat),(zbc blk k l).length=l.length*3
 | [],k=>rfl
 | c :: l,k=>by simp only[zbc,List.length_cons,rowOf_len blk l];omega
theorem rowOf_at (blk:Nat→Nat):∀(l:List PC) (k m:Nat) (c:PC),l[m]?=some c→(zbc blk k l)[m*3]?=some (.string ⟨c.name.toArray⟩)∧(zbc blk k l)[m*3+1]?=some (.bool c.arr)∧(zbc blk k l)[m*3+2]?=some (.slice (some ⟨blk (k+m),0,none⟩) c.v.length c.v.length)
 | c :: l,k,0,d,h=>by cases h;exact⟨rfl,rfl,rfl⟩
 | c :: l,k,m+1,d,h=>by
  have:=rowOf_at blk l (k+1) m d h
  rw[show(m+1)*3=m*3+1+1+1 by omega]
  simp only[zbc,List.getElem?_cons_succ]
  rw[show k+(m+1)=k+1+m by omega]
  exact this
theorem rowOf_snoc (blk:Nat→Nat) (c:PC):∀(l:List PC) (k:Nat),zbc blk k (l++[c])=zbc blk k l++[.string ⟨c.name.toArray⟩,.bool c.arr,.slice (some ⟨blk (k+l.length),0,none⟩) c.v.length c.v.length]
 | [],k=>rfl
 | d :: l,k=>by
  rw[List.cons_append,zbc,zbc,rowOf_snoc blk c l,List.length_cons,show k+1+l.length=k+(l.length+1) by omega]
  rfl
theorem rowOf_blk {blk blk':Nat→Nat}:∀(l:List PC) (k:Nat),(∀m,k≤m→m < k+l.length→blk m=blk' m)→zbc blk k l=zbc blk' k l
 | [],k,_=>rfl
 | c :: l,k,h=>by
  rw[zbc,zbc,h k (Nat.le_refl _) (by simp),rowOf_blk l (k+1) (fun m h1 h2=>h m (by omega) (by rw[List.length_cons];omega))]
theorem rowOf_set (blk:Nat→Nat) (j:Nat) (n:Int):∀(l:List PC) (k m:Nat),zbc blk m (setAt l k j n)=zbc blk m l
 | [],k,m=>by simp[setAt,zbc]
 | c :: l,0,m=>by simp[setAt,zbc]
 | c :: l,k+1,m=>by
  have:=rowOf_set blk j n l k (m+1)
  unfold setAt at this ⊢
  rw[List.modify_succ_cons,zbc,zbc,this]
def numV (v:List Int):Array Value:=(v.map (Value.int .i64)).toArray
theorem numV_at {v:List Int} {j:Nat} {x:Int} (h:v[j]?=some x):(numV v)[j]?=some (.int .i64 x):=by
 unfold numV
 rw[List.getElem?_toArray,List.getElem?_map,h]
 rfl
theorem numV_set (v:List Int) (j:Nat) (n:Int):(numV v).setIfInBounds j (.int .i64 n)=numV (v.set j n):=by
 unfold numV
 rw[List.setIfInBounds_toArray,List.map_set]
structure EnvIn (B E:Nat) (blk:Nat→Nat) (L:List PC) (w:World):Prop where
 cel:∃v M,w.heap[E]?=some (.cells #[v,.map (some M)] 156 (0,0))∧(B≤E∧B≤M)∧w.ownsRow B 76 3 v L.length (zbc blk 0 L)∧MapIn M L w
 bl:∀k c,L[k]?=some c→B≤blk k∧w.heap[blk k]?=some (.cells (numV c.v) 2 (0,0))
 inj:∀k m,k < L.length→m < L.length→blk k=blk m→k=m
 nums:Nums L
theorem EnvIn.on {B E:Nat} {blk:Nat→Nat} {L:List PC} {w w':World} (h:EnvIn B E blk L w) (hb:Below w.heap.size w w'):EnvIn B E blk L w':=by
 obtain⟨⟨v,M,h1,h0,h2,h3⟩,h4,h5,h6⟩:=h
 refine⟨⟨v,M,(hb.block E (lt_of_block h1)).trans h1,h0,?_,h3.on hb⟩,fun k c hk=>?_,h5,h6⟩
 ·exact h2.kept (row:=none) ⟨hb.os,hb.tape,hb.output,hb.size,fun k hk _=>hb.block k hk⟩ (Classical.em _)
 ·have:=h4 k c hk
  exact⟨this.1,(hb.block _ (lt_of_block this.2)).trans this.2⟩
theorem EnvIn.alloc {B E:Nat} {blk:Nat→Nat} {L:List PC} {w:World} (h:EnvIn B E blk L w) (o:Obj):EnvIn B E blk L (w.alloc o):=h.on ((Below.refl _ _).alloc (Nat.le_refl _) _)
theorem EnvIn.drew {B E:Nat} {blk:Nat→Nat} {L:List PC} {w:World} (h:EnvIn B E blk L w):EnvIn B E blk L w.drew:=h.on (Below.refl _ _).drew
theorem EnvIn.past {B E:Nat} {blk:Nat→Nat} {L:List PC} {w w':World} (h:EnvIn B E blk L w) (hp:Past w w'):EnvIn B E blk L w':=h.on hp
theorem EnvIn.lt {B E:Nat} {blk:Nat→Nat} {L:List PC} {w:World} (h:EnvIn B E blk L w):E < w.heap.size:=by
 obtain⟨⟨v,M,h1,-⟩,-⟩:=h
 exact lt_of_block h1
theorem EnvIn.row {B E:Nat} {blk:Nat→Nat} {L:List PC} {w:World} (h:EnvIn B E blk L w) {k:Nat} {c:PC} (hc:L[k]?=some c):∃g cap M,w.heap[E]?=some (.cells #[.slice (some ⟨g,0,none⟩) L.length cap,.map (some M)] 156 (0,0))∧MapIn M L w ∧
  w.cell? ⟨g,k*3,none⟩=some (.string ⟨c.name.toArray⟩)∧w.cell? ⟨g,k*3+1,none⟩=some (.bool c.arr)∧w.cell? ⟨g,k*3+2,none⟩=some (.slice (some ⟨blk k,0,none⟩) c.v.length c.v.length)∧g < w.heap.size∧L.length≤maxLen:=by
 obtain⟨⟨v,M,h1,h0,h2,h3⟩,-⟩:=h
 have hlt:k < L.length:=(List.getElem?_eq_some_iff.1 hc).1
 rcases h2.2 with ⟨rfl,hz⟩ | ⟨g,cap,cur,rfl,hg,hb,hle,hml,hsz,htk⟩
 ·omega
 ·obtain⟨r0,r1,r2⟩:=rowOf_at blk L 0 k c hc
  rw[Nat.zero_add] at r2
  have a0:=h2.cells (g:=g) rfl _ _ r0
  have a1:=h2.cells (g:=g) rfl _ _ r1
  have a2:=h2.cells (g:=g) rfl _ _ r2
  rw[zci] at a0 a1 a2
  exact⟨g,cap,M,h1,h3,a0,a1,a2,lt_of_block hb,by omega⟩
theorem EnvIn.set {B E:Nat} {blk:Nat→Nat} {L:List PC} {w:World} (h:EnvIn B E blk L w) {k j:Nat} {c:PC} (hc:L[k]?=some c) {n:Int} (hn:in64 n):EnvIn B E blk (setAt L k j n) (w.setCell ⟨blk k,j,none⟩ (.int .i64 n)):=by
 obtain⟨⟨v,M,h1,h0,h2,h3⟩,h4,h5,h6⟩:=h
 have hk:=h4 k c hc
 have hlen:(setAt L k j n).length=L.length:=by simp[setAt]
 have hE:E≠blk k:=by
  intro e
  rw[e,hk.2] at h1
  simp only[Option.some.injEq,Obj.cells.injEq] at h1
  exact absurd h1.2.1 (by decide)
 have hne:v.ownBlock≠some (blk k):=own_ne h2 hk.2 (by decide)
 refine⟨⟨v,M,(Below.heap_setCell _ _ _ _ hE).trans h1,h0,?_,?_⟩,fun m d hd=>?_,fun a b ha hb=>h5 a b (by omega) (by omega),h6.setAt _ _ hn⟩
 ·rw[hlen,rowOf_set]
  exact h2.kept (row:=some (blk k)) ⟨rfl,rfl,rfl,by simp[World.setCell],fun q _ hq=>Below.heap_setCell _ _ _ _ (fun e=>hq (by simp[e]))⟩ (Or.inr hne)
 ·have:=h3.set (h3.ne hk.2) j (.int .i64 n)
  obtain⟨D,g1,g2,g3⟩:=this
  exact⟨D,by rw[hlen];exact g1,g2,fun s z=>by rw[g3,idxOf_setAt]⟩
 ·rw[setAt_get] at hd
  by_cases e:k=m
  ·subst e
   rw[if_pos rfl,hc] at hd
   simp only[Option.map_some,Option.some.injEq] at hd
   subst hd
   exact⟨hk.1,by rw[zat _ hk.2,numV_set]⟩
  ·rw[if_neg e] at hd
   have hm:=h4 m d hd
   refine⟨hm.1,(Below.heap_setCell _ _ _ _ ?_).trans hm.2⟩
   intro e2
   exact e (h5 k m (List.getElem?_eq_some_iff.1 hc).1 (List.getElem?_eq_some_iff.1 hd).1 e2.symm)
def zdN (blk:Nat→Nat) (L:List PC) (s:List UInt8) (arr:Bool) (i:Int):Option Addr:=(slot L s arr i).map fun p=>⟨blk p.1,p.2,none⟩
end Go.Proofs.YtbilfdapmbahgaaGreatDoor.Ev

namespace Go.Proofs.YtbilfdapmbahgaaGreatDoor.Ev
open Go Go.RowKit Go.Proofs.YtbilfdapmbahgaaGreatDoor
open Go.Lib (hid)
theorem place_none {blk:Nat→Nat} {L:List PC} {s:List UInt8} {arr:Bool} {i:Int} {k:Nat} {c:PC} (hi:zbs s L=some k) (hc:L[k]?=some c) (h:¬(c.arr=arr∧0≤i∧i < (c.v.length:Nat))):zdN blk L s arr i=none:=by
 unfold zdN slot;rw[hi];simp only[hc];rw[if_neg h];rfl
theorem place_some {blk:Nat→Nat} {L:List PC} {s:List UInt8} {arr:Bool} {j k:Nat} {c:PC} (hi:zbs s L=some k) (hc:L[k]?=some c) (ha:c.arr=arr) (h:j < c.v.length):zdN blk L s arr (j:Nat)=some ⟨blk k,j,none⟩:=by
 unfold zdN slot;rw[hi];simp only[hc];rw[if_pos ⟨ha,by omega,by omega⟩];rfl
theorem zcX {B E:Nat} {blk:Nat→Nat} {L:List PC} {w:World} (h:EnvIn B E blk L w) (s:ByteArray) (hs:s.size≤maxLen) (arr:Bool) (i:Int):
  Calls Tryz.prog 91 #[.pointer (some ⟨E,0,none⟩),.string s,.bool arr,.int .i64 i] w fun e w'=>e=.returned (.pointer (zdN blk L s.data.toList arr i))∧w'=w:=by
 cases hi:zbs s.data.toList L with
 | none =>
  obtain⟨⟨v,M,h1,h0,h2,h3⟩,-⟩:=h
  have hk:=h3.look s hs
  rw[hi] at hk
  simp only[numB,Option.isSome_none] at hk
  have c0:=zab (k:=0) h1 rfl
  have c1:=zab (k:=1) h1 rfl
  have HR:Hid (zdN blk L s.data.toList arr i=none):=hid (by unfold zdN slot;rw[hi];rfl)
  clear h1 h2 h3 h0 hi
  go_enter Tryz.func91,Tryz.ntmps91
  go_wp2
  go_ret
  exact⟨by rw[HR.out];rfl,rfl⟩
 | some k =>
  obtain⟨c,hc,-⟩:=idxOf_lt hi
  obtain⟨g,cap,M,h1,h3,d0,d1,d2,hg,hml⟩:=h.row hc
  have hkl:k < L.length:=(List.getElem?_eq_some_iff.1 hc).1
  have hk:=h3.look s hs
  rw[hi] at hk
  simp only[numB,Option.isSome_some] at hk
  have c0:=zab (k:=0) h1 rfl
  have c1:=zab (k:=1) h1 rfl
  have hlt:=lt_of_block h1
  have hcl:=(h.nums.get hc).2
  have hb:=(h.bl k c hc).2
  have hbl:=lt_of_block hb
  have HN:=hid (fun hh=>place_none (blk:=blk) (arr:=arr) (i:=i) hi hc hh)
  have HS:=hid (fun(j:Nat) hh=>place_some (blk:=blk) (arr:=arr) (j:=j) hi hc hh)
  generalize c.arr=x at d1 HN HS
  generalize c.v.length=n at d2 hcl HN HS
  generalize L.length=l0 at c0 hkl hml
  clear h1 h3 hi hc h d0 hb
  by_cases ha:x=arr
  ·subst ha
   by_cases h0:i < 0
   ·have HR:=hid (HN.out (by omega))
    have e0:decide (i < 0)=true:=by simpa using h0
    clear HN HS h0
    go_enter Tryz.func91,Tryz.ntmps91
    go_wp2
    go_ret
    exact⟨by rw[HR.out];rfl,rfl⟩
   ·obtain⟨j,rfl⟩:∃j:Nat,i=j:=⟨i.toNat,by omega⟩
    have e0:decide ((j:Int) < 0)=false:=by simp
    by_cases h1:j < n
    ·have HR:=hid (HS.out j rfl h1)
     have e1:decide ((n:Int)≤(j:Int))=false:=by simpa using h1
     clear HN HS h0
     go_enter Tryz.func91,Tryz.ntmps91
     go_wp2
     go_ret
     exact⟨by rw[HR.out];rfl,rfl⟩
    ·have HR:=hid (HN.out (by omega))
     have e1:n≤j:=by omega
     clear HN HS h0 h1
     go_enter Tryz.func91,Tryz.ntmps91
     go_wp2
     go_ret
     exact⟨by rw[HR.out];rfl,rfl⟩
  ·have HR:=hid (HN.out (fun hh=>ha hh.1))
   have e0:(x==arr)=false:=by simpa using ha
   clear HN HS ha
   go_enter Tryz.func91,Tryz.ntmps91
   go_wp2
   go_ret
   exact⟨by rw[HR.out];rfl,rfl⟩
theorem load_none (w:World):Calls Tryz.prog 90 #[.pointer none] w fun e w'=>e=.returned (.tuple #[.int .i64 0,.bool false])∧w'=w:=by
 go_enter Tryz.func90,Tryz.ntmps90
 go_wp2
 go_ret2
 exact⟨rfl,rfl⟩
theorem load_some (b j:Nat) (n:Int) (w:World) (hc:w.cell? ⟨b,j,none⟩=some (.int .i64 n)):Calls Tryz.prog 90 #[.pointer (some ⟨b,j,none⟩)] w fun e w'=>e=.returned (.tuple #[.int .i64 n,.bool true])∧w'=w:=by
 go_enter Tryz.func90,Tryz.ntmps90
 go_wp2
 go_ret2
 exact⟨rfl,rfl⟩
theorem store_none (n:Int) (w:World):Calls Tryz.prog 237 #[.pointer none,.int .i64 n] w fun e w'=>e=.returned (.bool false)∧w'=w:=by
 go_enter Tryz.func237,Tryz.ntmps237
 go_wp2
 go_ret
 exact⟨rfl,rfl⟩
theorem store_some (b j:Nat) (n m:Int) (w:World) (hc:w.cell? ⟨b,j,none⟩=some (.int .i64 m)) (hb:b < w.heap.size) (hf:w.frozen? ⟨b,j,none⟩=false):Calls Tryz.prog 237 #[.pointer (some ⟨b,j,none⟩),.int .i64 n] w fun e w'=>e=.returned (.bool true)∧w'=w.setCell ⟨b,j,none⟩ (.int .i64 n):=by
 go_enter Tryz.func237,Tryz.ntmps237
 go_wp2
 go_ret
 exact⟨rfl,rfl⟩
def zeA (o:Option Int):Value:=match o with
 | some x=>.tuple #[.int .i64 x,.bool true]
 | none=>.tuple #[.int .i64 0,.bool false]
theorem load_any {B E:Nat} {blk:Nat→Nat} {L:List PC} {w:World} (h:EnvIn B E blk L w) (s:List UInt8) (arr:Bool) (i:Int):
  Calls Tryz.prog 90 #[.pointer (zdN blk L s arr i)] w fun e w'=>e=.returned (zeA (getV L s arr i))∧w'=w:=by
 unfold zdN
 cases hs:slot L s arr i with
 | none =>
  rw[getV_none hs]
  exact load_none w
 | some p =>
  obtain⟨k,j⟩:=p
  obtain⟨c,x,hc,hx,e⟩:=getV_some hs
  rw[e]
  exact load_some (blk k) j x w (zab (h.bl k c hc).2 (numV_at hx))
def SetIn (B E:Nat) (blk:Nat→Nat) (L:List PC) (s:List UInt8) (arr:Bool) (i n:Int) (w:World) (e:Ending) (w':World):Prop:=
 e=.returned (.bool (slot L s arr i).isSome)∧EnvIn B E blk (setV L s arr i n) w'∧Below B w w'∧w'.heap.size=w.heap.size∧((slot L s arr i=none∧w'=w)∨∃k j,slot L s arr i=some (k,j)∧w'=w.setCell ⟨blk k,j,none⟩ (.int .i64 n))
theorem zeY {B E:Nat} {blk:Nat→Nat} {L:List PC} {w:World} (h:EnvIn B E blk L w) (s:List UInt8) (arr:Bool) (i:Int) {n:Int} (hn:in64 n):
  Calls Tryz.prog 237 #[.pointer (zdN blk L s arr i),.int .i64 n] w (SetIn B E blk L s arr i n w):=by
 unfold zdN SetIn
 cases hs:slot L s arr i with
 | none =>
  refine(store_none n w).mono ?_
  rintro e w' ⟨rfl,rfl⟩
  refine⟨rfl,?_,Below.refl _ _,rfl,.inl ⟨rfl,rfl⟩⟩
  unfold setV
  rw[hs]
  exact h
 | some p =>
  obtain⟨k,j⟩:=p
  obtain⟨c,x,hc,hx,e⟩:=getV_some hs
  have hb:=h.bl k c hc
  refine(store_some (blk k) j n x w (zab hb.2 (numV_at hx)) (lt_of_block hb.2) (zaf hb.2)).mono ?_
  rintro e w' ⟨rfl,rfl⟩
  refine⟨rfl,?_,(Below.refl B w).setCell (p:=⟨blk k,j,none⟩) hb.1 _,by simp[World.setCell],.inr ⟨k,j,rfl,rfl⟩⟩
  unfold setV
  rw[hs]
  exact h.set hc hn
theorem get_any {B E:Nat} {blk:Nat→Nat} {L:List PC} {w:World} (h:EnvIn B E blk L w) (s:ByteArray) (hs:s.size≤maxLen):
  Calls Tryz.prog 55 #[.pointer (some ⟨E,0,none⟩),.string s] w fun e w'=>e=.returned (zeA (getV L s.data.toList false 0))∧w'=w:=by
 have HP:=hid (zcX h s hs false 0)
 have HL:=hid (load_any h s.data.toList false 0)
 cases hg:getV L s.data.toList false 0
 all_goals
  rw[hg] at HL
  unfold zeA at HL ⊢
  clear hg h
  go_enter Tryz.func55,Tryz.ntmps55
  go_wp2_with (first
   | (go_at_call 90;refine HL.out.mono ?_;rintro e w1 ⟨rfl,rfl⟩)
   | (go_at_call 91;refine HP.out.mono ?_;rintro e w1 ⟨rfl,rfl⟩))
  go_ret2
  exact⟨rfl,rfl⟩
theorem at_any {B E:Nat} {blk:Nat→Nat} {L:List PC} {w:World} (h:EnvIn B E blk L w) (s:ByteArray) (hs:s.size≤maxLen) (i:Int):
  Calls Tryz.prog 349 #[.pointer (some ⟨E,0,none⟩),.string s,.int .i64 i] w fun e w'=>e=.returned (zeA (getV L s.data.toList true i))∧w'=w:=by
 have HP:=hid (zcX h s hs true i)
 have HL:=hid (load_any h s.data.toList true i)
 cases hg:getV L s.data.toList true i
 all_goals
  rw[hg] at HL
  unfold zeA at HL ⊢
  clear hg h
  go_enter Tryz.func349,Tryz.ntmps349
  go_wp2_with (first
   | (go_at_call 90;refine HL.out.mono ?_;rintro e w1 ⟨rfl,rfl⟩)
   | (go_at_call 91;refine HP.out.mono ?_;rintro e w1 ⟨rfl,rfl⟩))
  go_ret2
  exact⟨rfl,rfl⟩
theorem set_any {B E:Nat} {blk:Nat→Nat} {L:List PC} {w:World} (h:EnvIn B E blk L w) (s:ByteArray) (hs:s.size≤maxLen) {n:Int} (hn:in64 n):
  Calls Tryz.prog 196 #[.pointer (some ⟨E,0,none⟩),.string s,.int .i64 n] w (SetIn B E blk L s.data.toList false 0 n w):=by
 have HP:=hid (zcX h s hs false 0)
 have HL:=hid (zeY h s.data.toList false 0 hn)
 clear h
 go_enter Tryz.func196,Tryz.ntmps196
 go_wp2_with (first
  | (go_at_call 237;refine HL.out.mono ?_;rintro e w1 ⟨rfl,hq⟩;have HQ:=hid hq;clear hq)
  | (go_at_call 91;refine HP.out.mono ?_;rintro e w1 ⟨rfl,rfl⟩))
 go_ret
 exact⟨rfl,HQ.out⟩
theorem put_any' {B E:Nat} {blk:Nat→Nat} {L:List PC} {w:World} (h:EnvIn B E blk L w) (s:ByteArray) (hs:s.size≤maxLen) (i:Int) {n:Int} (hn:in64 n):
  Calls Tryz.prog 198 #[.pointer (some ⟨E,0,none⟩),.string s,.int .i64 i,.int .i64 n] w (SetIn B E blk L s.data.toList true i n w):=by
 have HP:=hid (zcX h s hs true i)
 have HL:=hid (zeY h s.data.toList true i hn)
 clear h
 go_enter Tryz.func198,Tryz.ntmps198
 go_wp2_with (first
  | (go_at_call 237;refine HL.out.mono ?_;rintro e w1 ⟨rfl,hq⟩;have HQ:=hid hq;clear hq)
  | (go_at_call 91;refine HP.out.mono ?_;rintro e w1 ⟨rfl,rfl⟩))
 go_ret
 exact⟨rfl,HQ.out⟩
end Go.Proofs.YtbilfdapmbahgaaGreatDoor.Ev
