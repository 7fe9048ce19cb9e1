/- A search of a graph, step by step. -/
import Derived.Test.YtagnmppdhfmgdaaGreatDoorFMath
import Derived.Test.YtagnmppdhfmgdaaGreatDoorFEdges
import Derived.Test.YtagnmppdhfmgdaaGreatDoorPLaid
import Derived.Test.YtagnmppdhfmgdaaGreatDoorLValue
import Derived.Test.YtagnmppdhfmgdaaGreatDoorPUps
import Derived.Test.YtagnmppdhfmgdaaGreatDoorFBackL
import Derived.Test.YtagnmppdhfmgdaaGreatDoorTCodeP
import Derived.Handy
import Derived.OpenShut
import Derived.Stop.LaidErr
import Derived.Defers
import Derived.Recover
import Derived.OwnWalk
import Derived.Laws.AppendOwnNone
set_option linter.unusedSimpArgs false
set_option linter.unusedVariables false
set_option maxHeartbeats 8000000
set_option maxRecDepth 100000
namespace Go.Proofs.YtagnmppdhfmgdaaGreatDoor.Fl
open Go Go.RowKit Go.Proofs.YtagnmppdhfmgdaaGreatDoor
structure PN where
 k:Int
 par:Int
 fol:Int
 brk:Int
 agn:Int
 oth:Int
 bn:Nat
 ln:Nat
def NR.pn (n:NR):PN:=⟨n.S.kind,n.par,n.fol,n.brk,n.agn,n.oth,n.S.bn,n.S.ln⟩
mutual
def cR:RS→Nat
 | .ife _ _ b l=>1+(cRs b+cRs l)
 | .whl _ _ b=>1+cRs b
 | _=>1
def cRs:List RS→Nat
 | []=>0
 | s :: r=>cR s+cRs r
end
mutual
def layR (p:Nat) (par fol brk agn:Int):RS→List PN
 | .ife _ _ b l=>⟨4,par,fol,brk,agn,((p+1+cRs b:Nat):Int),b.length,l.length⟩ :: (layRs (p+1) p fol brk agn b++layRs (p+1+cRs b) p fol brk agn l)
 | .whl _ _ b=>⟨5,par,fol,brk,agn,((p+1+cRs b:Nat):Int),b.length,0⟩ :: layRs (p+1) p p fol p b
 | .asg _ _ _=>[⟨0,par,fol,brk,agn,((p+1:Nat):Int),0,0⟩]
 | .sto _ _ _ _=>[⟨1,par,fol,brk,agn,((p+1:Nat):Int),0,0⟩]
 | .rd _ _=>[⟨2,par,fol,brk,agn,((p+1:Nat):Int),0,0⟩]
 | .call _ _ _ _=>[⟨3,par,fol,brk,agn,((p+1:Nat):Int),0,0⟩]
 | .brk _=>[⟨6,par,fol,brk,agn,((p+1:Nat):Int),0,0⟩]
 | .cnt _=>[⟨7,par,fol,brk,agn,((p+1:Nat):Int),0,0⟩]
 | .ret _ _=>[⟨8,par,fol,brk,agn,((p+1:Nat):Int),0,0⟩]
 | .ass _ _=>[⟨9,par,fol,brk,agn,((p+1:Nat):Int),0,0⟩]
def layRs (p:Nat) (par fol brk agn:Int):List RS→List PN
 | []=>[]
 | s :: r=>layR p par (if r.isEmpty then fol else ((p+cR s:Nat):Int)) brk agn s++layRs (p+cR s) par fol brk agn r
end
theorem rs_kinds {S:ST} (h:S.rightB=true):
  (S.kind=4∧∃t c,S.rs=.ife t c (rss S.body) (rss S.els))∨(S.kind=5∧S.els=[]∧∃t c,S.rs=.whl t c (rss S.body)) ∨
  (S.kind≠4∧S.kind≠5∧S.body=[]∧S.els=[]∧cR S.rs=1∧∀p par fol brk agn,layR p par fol brk agn S.rs=[⟨S.kind,par,fol,brk,agn,((p+1:Nat):Int),0,0⟩]):=by
 obtain⟨t',_,_,h2⟩:=rightS_cases h
 rcases h2 with ⟨n,ea,ec,e,ba,bc,la,lc,_,_,rfl⟩ | ⟨n,ea,ec,e,e2,ba,bc,la,lc,_,_,_,rfl⟩ | ⟨n,ea,ec,ba,bc,la,lc,_,rfl⟩ | ⟨n,f,ea,ec,e,ba,bc,la,lc,_,_,_,rfl⟩ | ⟨ea,ec,e,ba,bc,b,la,lc,l,_,_,_,rfl⟩ | ⟨ea,ec,e,ba,bc,b,la,lc,_,_,rfl⟩ | ⟨ea,ec,ba,bc,la,lc,rfl⟩ | ⟨ea,ec,ba,bc,la,lc,rfl⟩ | ⟨ea,ec,e,ba,bc,la,lc,_,rfl⟩ | ⟨ea,ec,e,ba,bc,la,lc,_,rfl⟩
 ·exact .inr (.inr ⟨by show(0:Int)≠4;decide,by show(0:Int)≠5;decide,rfl,rfl,by rw[ST.rs];rfl,fun p par fol brk agn=>by rw[ST.rs];rfl⟩)
 ·exact .inr (.inr ⟨by show(1:Int)≠4;decide,by show(1:Int)≠5;decide,rfl,rfl,by rw[ST.rs];rfl,fun p par fol brk agn=>by rw[ST.rs];rfl⟩)
 ·exact .inr (.inr ⟨by show(2:Int)≠4;decide,by show(2:Int)≠5;decide,rfl,rfl,by rw[ST.rs];rfl,fun p par fol brk agn=>by rw[ST.rs];rfl⟩)
 ·exact .inr (.inr ⟨by show(3:Int)≠4;decide,by show(3:Int)≠5;decide,rfl,rfl,by rw[ST.rs];rfl,fun p par fol brk agn=>by rw[ST.rs];rfl⟩)
 ·exact .inl ⟨rfl,_,_,by rw[ST.rs];rfl⟩
 ·exact .inr (.inl ⟨rfl,rfl,_,_,by rw[ST.rs];rfl⟩)
 ·exact .inr (.inr ⟨by show(6:Int)≠4;decide,by show(6:Int)≠5;decide,rfl,rfl,by rw[ST.rs];rfl,fun p par fol brk agn=>by rw[ST.rs];rfl⟩)
 ·exact .inr (.inr ⟨by show(7:Int)≠4;decide,by show(7:Int)≠5;decide,rfl,rfl,by rw[ST.rs];rfl,fun p par fol brk agn=>by rw[ST.rs];rfl⟩)
 ·exact .inr (.inr ⟨by show(8:Int)≠4;decide,by show(8:Int)≠5;decide,rfl,rfl,by rw[ST.rs];rfl,fun p par fol brk agn=>by rw[ST.rs];rfl⟩)
 ·exact .inr (.inr ⟨by show(9:Int)≠4;decide,by show(9:Int)≠5;decide,rfl,rfl,by rw[ST.rs];rfl,fun p par fol brk agn=>by rw[ST.rs];rfl⟩)
theorem rss_len (l:List ST):(rss l).length=l.length:=by rw[rss_map,List.length_map]
theorem cR_is:∀(m:Nat) (l:List ST),Szs l < m→zak l=true→cRs (rss l)=cnts l∧∀S∈l,cR S.rs=S.cnt:=by
 intro m
 induction m with
 | zero=>intro l h;omega
 | succ m ih =>
  intro l
  induction l with
  | nil=>intro _ _;exact⟨by rw[rss,cRs,cnts],fun S hS=>by cases hS⟩
  | cons S r ihr =>
   intro hm hr
   rw[Szs] at hm
   have hz:=zb9 S
   rw[zak,Bool.and_eq_true] at hr
   have hp:=zdz hr.1
   have hS:cR S.rs=S.cnt:=by
    rw[zbA]
    rcases rs_kinds hr.1 with ⟨_,t,c,e⟩ | ⟨_,e0,t,c,e⟩ | ⟨_,_,e1,e2,e3,_⟩
    ·rw[e,cR,(ih S.body (by omega) hp.1).1,(ih S.els (by omega) hp.2.1).1]
    ·rw[e,cR,(ih S.body (by omega) hp.1).1,e0,cnts,Nat.add_zero]
    ·rw[e3,e1,e2,cnts]
   have h2:=ihr (by omega) hr.2
   refine⟨by rw[rss,cRs,cnts,hS,h2.1],fun T hT=>?_⟩
   rcases List.mem_cons.1 hT with rfl | hT
   ·exact hS
   ·exact h2.2 T hT
theorem lay_pn:∀(m:Nat) (l:List ST),Szs l < m→zak l=true→∀(p:Nat) (par fol brk agn:Int),(lay p par fol brk agn l).map NR.pn=layRs p par fol brk agn (rss l):=by
 intro m
 induction m with
 | zero=>intro l h;omega
 | succ m ih =>
  intro l
  induction l with
  | nil=>intro _ _ p par fol brk agn;rw[lay,rss,layRs];rfl
  | cons S r ihr =>
   intro hm hr p par fol brk agn
   have hcr:=cR_is _ (S :: r) (Nat.lt_succ_self _) hr
   rw[Szs] at hm
   have hz:=zb9 S
   rw[zak,Bool.and_eq_true] at hr
   have hp:=zdz hr.1
   have hcb:=(cR_is _ S.body (Nat.lt_succ_self _) hp.1).1
   have hS:=hcr.2 S List.mem_cons_self
   rw[lay,rss,layRs,List.map_append,ihr (by omega) hr.2,hS]
   congr 1
   have hfl:(if (rss r).isEmpty=true then fol else ((p+S.cnt:Nat):Int))=(if r=[] then fol else ((p+S.cnt:Nat):Int)):=by
    cases r with
    | nil=>rw[rss];rfl
    | cons T r=>rw[rss];rfl
   rw[hfl]
   generalize (if r=[] then fol else ((p+S.cnt:Nat):Int))=fl
   generalize (if r=[] then (-1:Int) else ((p+S.cnt:Nat):Int))=bh
   rw[zcb,List.map_cons,List.map_append,ih S.body (by omega) hp.1,ih S.els (by omega) hp.2.1]
   rcases rs_kinds hr.1 with ⟨hk,t,c,e⟩ | ⟨hk,e0,t,c,e⟩ | ⟨h4,h5,e1,e2,e3,e4⟩
   ·rw[e,layR,hcb,if_neg (by omega),if_neg (by omega),if_neg (by omega)]
    show NR.pn _ :: _=_
    unfold NR.pn
    simp only[hk,rss_len,bn_is,ln_is]
   ·rw[e,layR,hcb,if_pos hk,if_pos hk,if_pos hk,e0,rss,layRs,List.append_nil]
    show NR.pn _ :: _=_
    unfold NR.pn
    simp only[hk,rss_len,bn_is,ln_is,e0,List.length_nil]
   ·rw[e4,e1,e2,rss,layRs,layRs,cnts]
    show[NR.pn _]=_
    unfold NR.pn
    simp only[bn_is,ln_is,e1,e2,List.length_nil,Nat.add_zero]
def nextP (x:Int) (i:Nat) (n:PN):List Int:=
 if n.k=4 then [if n.bn=0 then n.fol else (i:Int)+1,if n.ln=0 then n.fol else n.oth]
 else if n.k=5 then [if n.bn=0 then (i:Int) else (i:Int)+1,n.fol]
 else if n.k=6 then [n.brk] else if n.k=7 then [n.agn] else if n.k=8 then [x] else [n.fol]
def othP (n:PN):Int:=if n.k=6∨n.k=7∨n.k=8 then n.fol else -1
def nodesP (l:List RS):List PN:=layRs 0 (-1) (cRs l:Nat) (cRs l:Nat) (cRs l:Nat) l
def nextsP (l:List RS):List (List Int):=(nodesP l).mapIdx (nextP (cRs l:Nat))++[[]]
def othersP (l:List RS):List Int:=(nodesP l).map othP++[-1]
def insP (l:List RS):List Int:=(nodesP l).map PN.par++[-1]
theorem graph_pn {l:List ST} (hr:zak l=true):cRs (rss l)=cnts l∧zaV l=nextsP (rss l)∧zaZ l=othersP (rss l)∧insG l=insP (rss l):=by
 have hc:=(cR_is _ l (Nat.lt_succ_self _) hr).1
 have hn:(zaY l).map NR.pn=nodesP (rss l):=by
  unfold zaY nodesP
  rw[hc]
  exact lay_pn _ l (Nat.lt_succ_self _) hr _ _ _ _ _
 refine⟨hc,?_,?_,?_⟩
 ·unfold zaV nextsP
  rw[hc,←hn]
  congr 1
  apply List.ext_getElem?
  intro i
  rw[List.getElem?_mapIdx,List.getElem?_mapIdx,List.getElem?_map]
  cases (zaY l)[i]?<;>rfl
 ·unfold zaZ othersP
  rw[←hn,List.map_map]
  rfl
 ·unfold insG insP
  rw[←hn,List.map_map]
  rfl
end Go.Proofs.YtagnmppdhfmgdaaGreatDoor.Fl

namespace Go.Proofs.YtagnmppdhfmgdaaGreatDoor.Fl
open Go Go.RowKit Go.Proofs.YtagnmppdhfmgdaaGreatDoor
open Go.Lib (hid)
open Go.Proofs.YtagnmppdhfmgdaaGreatDoor.Pm (zbQ Wo)
open Go.Lib (hid)
def pOf (t:List UInt8):List RF:=match zbQ 100 t with
 | .ok p _=>p
 | .bad _ _=>[]
def mOf (t:List UInt8):Nat:=match zbQ 100 t with
 | .ok _ n=>n
 | .bad _ _=>0
def t1:List UInt8:=[102,117,110,99,32,109,97,105,110,40,41,32,123,32,97,32,61,32,49,59,32,119,104,105,108,101,32,40,97,41,32,123,32,105,102,32,40,98,41,32,123,32,98,114,101,97,107,59,32,125,32,101,108,115,101,32,123,32,99,111,110,116,105,110,117,101,59,32,125,32,97,32,61,32,50,59,32,125,32,114,101,116,117,114,110,32,48,59,32,98,32,61,32,49,59,32,125]
def t2:List UInt8:=[102,117,110,99,32,109,97,105,110,40,41,32,123,32,105,102,32,40,97,41,32,123,32,98,32,61,32,49,59,32,125,32,125]
theorem ev1:zbQ 100 t1=.ok (pOf t1) (mOf t1):=by kernel_rfl
theorem ev2:zbQ 100 t2=.ok (pOf t2) (mOf t2):=by kernel_rfl
def r1:List RS:=(pOf t1).flatMap RF.body
def r2:List RS:=(pOf t2).flatMap RF.body
theorem one1:(pOf t1).length=1:=by kernel_rfl
theorem one2:(pOf t2).length=1:=by kernel_rfl
theorem g1:(cRs r1=8∧r1.length=4)∧nextsP r1=[[1],[2,6],[3,4],[6],[1],[1],[8],[8],[]]∧othersP r1=[-1,-1,-1,5,5,-1,7,-1,-1]∧insP r1=[-1,-1,1,2,2,1,-1,-1,-1]:=⟨⟨by kernel_rfl,by kernel_rfl⟩,by kernel_rfl,by kernel_rfl,by kernel_rfl⟩
theorem g2:cRs r2=2:=by kernel_rfl
theorem zdd {w:World} (H:Wo w) (sb:ByteArray) {t:List UInt8} {p:List RF} {mo:Nat} (hs:sb.data.toList=t) (hl:t.length≤8192) (ev:zbQ 100 t=.ok p mo):
  Calls Tryz.prog 40 #[.string sb] w fun e w'=>Below w.heap.size w w'∧∃a c l,e=.returned (.tuple #[.agg #[.slice a l.length c],.int .i64 (t.length:Nat),.int .i64 0])∧l.map FT.rf=p∧l.all FT.rightB=true∧FsIn w' 0 a l:=by
 subst hs
 refine(Pm.pParse_any 100 sb hl H.er (Pm.finA_ok ev)).mono ?_
 intro e w' hq
 rw[ev] at hq
 obtain⟨hb,v,rfl,a,c,l,rfl,h1,h2,h3,-⟩:=hq
 exact⟨hb,a,c,l,rfl,h1,h2,h3.mono (Nat.zero_le _)⟩
def BodyAt (r:List RS) (e:Ending) (w':World):Prop:=∃(a:Option Addr) (c:Nat) (l:List ST),e=.returned (.slice a l.length c)∧rss l=r∧zak l=true∧l.length≤9223372036854775807∧SsIn w' 0 a 0 l
theorem body_any {w:World} (H:Wo w) (s:ByteArray) {t:List UInt8} (hs:(({data:=#[102,117,110,99,32,109,97,105,110,40,41,32,123,32]}:ByteArray)++s++{data:=#[32,125]}).data.toList=t) (hz:s.size≤1000) (hl:t.length≤8192) (ev:zbQ 100 t=.ok (pOf t) (mOf t)) (h1:(pOf t).length=1):
  Calls Tryz.prog 26 #[.string s] w fun e w'=>BodyAt ((pOf t).flatMap RF.body) e w'∧Below w.heap.size w w':=by
 have HP:=hid (zdd H _ hs hl ev)
 have h9:({data:=#[102,117,110,99,32,109,97,105,110,40,41,32,123,32]}:ByteArray).size+s.size≤maxLen:=by unfold maxLen;show 14+s.size≤_;omega
 have h8:(({data:=#[102,117,110,99,32,109,97,105,110,40,41,32,123,32]}:ByteArray)++s).size+({data:=#[32,125]}:ByteArray).size≤maxLen:=by rw[ByteArray.size_append];unfold maxLen;show 14+s.size+2≤_;omega
 have H1:=hid h1
 clear hs hl ev h1 H
 go_enter Tryz.func26,Tryz.ntmps26
 go_upto_region 2 with (go_at_call 40;(refine HP.out.mono ?_);rintro e w1 ⟨hb1,a,c,l,rfl,q1,q2,q3⟩;have HQ:=hid (And.intro q1 (And.intro q2 (And.intro q3 hb1)));clear q1 q2 q3 hb1)
 obtain⟨q1,q2,q3,hb1⟩:=HQ.out
 have hl1:l.length=1:=by have:=congrArg List.length q1;rw[List.length_map,H1.out] at this;exact this
 obtain⟨F,rfl⟩:∃F,l=[F]:=by
  match l,hl1 with
  | [F],_=>exact⟨F,rfl⟩
 have hrow:=q3.row 0 (by simp)
 obtain⟨kb,ko,rfl,-⟩:=hrow
 have hrow:=q3.row 0 (by simp)
 rw[show([F]:List FT)[0]=F from rfl,FT.cells_eq] at hrow
 obtain⟨f0,f1,f2,f3,fl⟩:=row_cells4 hrow (Past.refl w1)
 rw[show ko+0*4+3=ko+3 by omega] at f3
 have hr:F.rightB=true:=by simpa using q2
 have hrb:zak F.body=true:=by
  unfold FT.rightB at hr
  simp only[Bool.and_eq_true] at hr
  exact hr.2.2.2
 have hbody:(pOf t).flatMap RF.body=rss F.body:=by rw[←q1];simp[FT.rf]
 have hin:=q3.fs 0 (by simp)
 have HF:=hid (And.intro hrb (And.intro hbody (And.intro (show F.In w1 0 from hin) hb1)))
 clear q1 q2 q3 hb1 hl1 hrow f0 f1 f2 hr hrb hbody hin HQ H1
 go_wp2
 go_ret
 obtain⟨hrb,hbody,hin,hb1⟩:=HF.out
 have hp:Below w1.heap.size w1 (w1.alloc (.cells #[.slice (some ⟨kb,ko,none⟩) 1 c] 24)):=(Below.refl _ _).alloc (Nat.le_refl _) _
 exact⟨⟨F.ba,F.bc,F.body,rfl,hbody.symm,hrb,hin.bl,hin.ss.on hp⟩,zaE hb1 hp⟩
end Go.Proofs.YtagnmppdhfmgdaaGreatDoor.Fl

namespace Go.Proofs.YtagnmppdhfmgdaaGreatDoor.Fl
open Go Go.RowKit Go.Proofs.YtagnmppdhfmgdaaGreatDoor
open Go.Lib (hid)
theorem has_any (ra:Option Addr) (rc:Nat) (r:List Int) (n:Int) (hl:r.length≤100000) (w:World) (h:NumAt w ra r):
  Calls Tryz.prog 24 #[.slice ra r.length rc,.int .i64 n] w fun e w'=>e=.returned (.bool (decide (n∈r)))∧Below w.heap.size w w':=by
 have HN:=hid h
 obtain⟨L,hL⟩:∃L,r.length=L:=⟨_,rfl⟩
 rw[hL] at hl ⊢
 have HL:=hid hL
 obtain⟨d,hd⟩:∃d,decide (n∈r)=d:=⟨_,rfl⟩
 rw[hd]
 have HD:=hid hd
 clear h hL hd
 go_enter Tryz.func24,Tryz.ntmps24
 go_wp2
 go_loop [4,5] (fun v i=>∃k:Nat,k≤L∧i=.int .i64 k∧v=.bool false∧∀j,j < k→r[j]?≠some n) (fun _ i=>L - (intOf i).toNat)
 case atStart=>exact⟨0,Nat.zero_le _,rfl,rfl,fun j h=>absurd h (by omega)⟩
 case round =>
  obtain⟨k,hk,rfl,rfl,ho⟩:=hrel
  have HO:=hid ho
  clear ho
  by_cases hlt:k < L
  ·have hkr:k < r.length:=by rw[HL.out];exact hlt
   obtain⟨b,o,rfl,hc⟩:=HN.out k hkr
   obtain⟨z,hz⟩:∃z,r[k]?=some z:=⟨_,List.getElem?_eq_getElem hkr⟩
   rw[List.getElem?_eq_getElem hkr,Option.some.injEq] at hz
   rw[hz] at hc
   have hz2:r[k]?=some z:=by rw[List.getElem?_eq_getElem hkr,hz]
   have HZ:=hid hz2
   clear hz hz2 hkr
   by_cases hzn:z=n
   ·have hcb:(z==n)=true:=by simp[hzn]
    have HE:=hid hzn
    clear hzn
    go_wp2
    go_ret
    refine⟨?_,Below.refl _ _⟩
    rw[←HD.out]
    rw[decide_eq_true (by rw[←HE.out];exact List.mem_of_getElem? HZ.out)]
    rfl
   ·have hcb:(z==n)=false:=by simpa using hzn
    have HE:=hid hzn
    clear hzn
    go_wp2
    go_round
    case rel=>exact⟨k+1,by omega,by go_num,rfl,fun j hj=>by
     by_cases hjk2:j=k
     ·subst hjk2;rw[HZ.out];intro e;exact HE.out (Option.some.inj e)
     ·exact HO.out j (by omega)⟩
    case measure=>simp[intOf];omega
  ·obtain rfl:k=L:=by omega
   go_wp2
   go_ret
   refine⟨?_,Below.refl _ _⟩
   have hm:¬n∈r:=fun hm=>by
    obtain⟨j,hj,e⟩:=List.mem_iff_getElem.1 hm
    exact HO.out j (by rw[←HL.out];exact hj) (by rw[List.getElem?_eq_getElem hj,e])
   rw[←HD.out,decide_eq_false hm]
   rfl
end Go.Proofs.YtagnmppdhfmgdaaGreatDoor.Fl

namespace Go.Proofs.YtagnmppdhfmgdaaGreatDoor.Fl
open Go Go.RowKit Go.Proofs.YtagnmppdhfmgdaaGreatDoor
structure EdgeAt (w:World) (g X:Nat) (E:List (List Int)):Prop where
 len:E.length=X
 rows:RowsAt w (some ⟨g,0,none⟩) E
 few:∀r∈E,r.length≤100000
theorem EdgeAt.on {w w':World} {g X:Nat} {E:List (List Int)} (h:EdgeAt w g X E) (hp:Below w.heap.size w w'):EdgeAt w' g X E:=⟨h.len,h.rows.on hp,h.few⟩
theorem EdgeAt.row {w:World} {g X i:Nat} {E:List (List Int)} {r:List Int} (h:EdgeAt w g X E) (hr:E[i]?=some r):∃ra rc,(∀W,Past w W→W.cell? ⟨g,i,none⟩=some (.slice ra r.length rc))∧r.length≤100000∧∀W,Past w W→NumAt W ra r:=by
 obtain⟨hi,e⟩:=List.getElem?_eq_some_iff.1 hr
 subst e
 have key:∀W,Past w W→RowsAt W (some ⟨g,0,none⟩) E:=fun W hW=>h.rows.on hW
 obtain⟨b,o,ra,rc,e,hc,hl,hN⟩:=h.rows i hi
 simp only[Option.some.injEq,Addr.mk.injEq,and_true] at e
 obtain⟨rfl,rfl⟩:=e
 rw[Nat.zero_add] at hc
 exact⟨ra,rc,fun W hW=>(zar hW) _ _ (Nat.zero_le _) hc,hl.1,fun W hW=>hN.on hW⟩
def HasF (w:World) (ra:Option Addr) (n rc:Nat) (z:Int) (d:Bool):Prop:=∀W,Past w W→Calls Tryz.prog 24 #[.slice ra n rc,.int .i64 z] W fun e w'=>e=.returned (.bool d)∧Below W.heap.size W w'
theorem EdgeAt.has {w:World} {g X i:Nat} {E:List (List Int)} {r:List Int} (h:EdgeAt w g X E) (hr:E[i]?=some r):∃ra rc n,n=r.length∧n≤100000∧(∀W,Past w W→W.cell? ⟨g,i,none⟩=some (.slice ra n rc))∧(∀W,Past w W→NumAt W ra r)∧∀z,HasF w ra n rc z (decide (z∈r)):=by
 obtain⟨ra,rc,h1,h2,h3⟩:=h.row hr
 exact⟨ra,rc,_,rfl,h2,h1,h3,fun z W hW=>has_any ra rc r z h2 W (h3 W hW)⟩
theorem edges_of {l:List ST} {w:World} {B M gv go gi cv co ci:Nat} {rv:List Value} (jumps:Bool) (hM:cnts l=M) (hf:cnts l≤24) (g1:w.ownsRow B 29 1 (.slice (some ⟨gv,0,none⟩) (M+1) cv) (M+1) rv) (g2:w.ownsRow B 3 1 (.slice (some ⟨go,0,none⟩) (M+1) co) (M+1) (ints (zaZ l)))
  (g4:∀(i:Nat) (r:List Int),(zaV l)[i]?=some r→∃u,rv[i]?=some u∧w.ownsRow B 3 1 u r.length (ints r)) (w5:World) (hp:Past w w5):
  Calls Tryz.prog 18 #[.agg #[.slice (some ⟨gv,0,none⟩) (M+1) cv,.slice (some ⟨go,0,none⟩) (M+1) co,.slice (some ⟨gi,0,none⟩) (M+1) ci],.bool jumps] w5 fun e w'=>∃g,e=.returned (.slice (some ⟨g,0,none⟩) (M+1) (M+1))∧EdgeAt w' g (M+1) (zbR (zaV l) (zaZ l) jumps)∧Below w5.heap.size w5 w':=by
 subst hM
 have hl:=zcc l
 have ho:=zb4 l
 have hsm:∀r∈zaV l,r.length≤100000:=fun r hr=>by
  have:=zdA l false
  have e:zbR (zaV l) (zaZ l) false=zaV l:=by
   unfold zbR
   apply List.ext_getElem?
   intro i
   rw[List.getElem?_mapIdx]
   cases (zaV l)[i]?<;>simp
  rw[e] at this
  exact this r hr
 obtain⟨oa,oc,e1,-,hN⟩:=zdb g2
 simp only[Value.slice.injEq] at e1
 obtain⟨rfl,-,rfl⟩:=e1
 have h:=edgesF_any (w0:=w) (na:=some ⟨gv,0,none⟩) (oa:=some ⟨go,0,none⟩) (ia:=some ⟨gi,0,none⟩) (nc:=cv) (oc:=co) (ii:=cnts l+1) (ic:=ci) (ns:=zaV l) (os:=zaZ l) jumps (by omega) (by omega) (zdo hl g1 g4 hsm) hN w5 hp
 rw[hl,ho] at h
 refine h.mono fun e w' h=>?_
 obtain⟨⟨g,h1,h2⟩,h3⟩:=h
 exact⟨g,h1,⟨by rw[zcd,hl],RowsO.at h2 (zdA l jumps),zdA l jumps⟩,h3⟩
end Go.Proofs.YtagnmppdhfmgdaaGreatDoor.Fl

namespace Go.Proofs.YtagnmppdhfmgdaaGreatDoor.Fl
open Go Go.RowKit Go.Proofs.YtagnmppdhfmgdaaGreatDoor
structure Bfs (E:List (List Int)) (X s i:Nat) (mk:List Bool) (td:List Int):Prop where
 len:mk.length=X
 fst:(s:Int)∈td
 suc:∀n:Nat,mk[n]?=some true→∀z∈E.getD n [],z∈td
 old:∀j,j < i→∀n:Nat,n < X→td[j]?=some (n:Int)→mk[n]?=some true
 few:td.length≤1+3*mk.count true
 at_:i≤td.length
theorem Bfs.start (E:List (List Int)) (X s:Nat):Bfs E X s 0 (List.replicate X false) [(s:Int)]:=
 ⟨List.length_replicate,by simp,fun n h=>by rw[List.getElem?_replicate] at h;split at h<;>simp at h,fun j h=>absurd h (by omega),by simp,by simp⟩
theorem Bfs.short {E:List (List Int)} {X s i:Nat} {mk:List Bool} {td:List Int} (h:Bfs E X s i mk td):td.length≤1+3*X:=by
 have h1:=h.few
 have h2:mk.count true≤mk.length:=List.count_le_length
 rw[h.len] at h2
 omega
theorem Bfs.skip {E:List (List Int)} {X s i:Nat} {mk:List Bool} {td:List Int} {z:Int} (h:Bfs E X s i mk td) (hz:td[i]?=some z) (hs:z < 0∨(X:Int)≤z∨∃n:Nat,z=(n:Int)∧mk[n]?=some true):Bfs E X s (i+1) mk td:=
 ⟨h.len,h.fst,h.suc,fun j hj n hn he=>by
  by_cases hji:j=i
  ·subst hji
   rw[hz,Option.some.injEq] at he
   rcases hs with h0 | h0 | ⟨m,h1,h2⟩
   ·omega
   ·omega
   ·have:m=n:=by omega
    rw[←this];exact h2
  ·exact h.old j (by omega) n hn he,h.few,(List.getElem?_eq_some_iff.1 hz).1⟩
theorem count_set {mk:List Bool} {n:Nat} (h:mk[n]?=some false):(mk.set n true).count true=mk.count true+1:=by
 induction mk generalizing n with
 | nil=>simp at h
 | cons b mk ih =>
  cases n with
  | zero =>
   simp only[List.getElem?_cons_zero,Option.some.injEq] at h
   subst h
   simp
  | succ n =>
   simp only[List.getElem?_cons_succ] at h
   simp only[List.set_cons_succ,List.count_cons,ih h]
   omega
theorem Bfs.mark {E:List (List Int)} {X s i n:Nat} {mk:List Bool} {td r:List Int} (h:Bfs E X s i mk td) (hz:td[i]?=some (n:Int)) (hn:mk[n]?=some false) (hr:E[n]?=some r) (h3:r.length≤3):Bfs E X s (i+1) (mk.set n true) (td++r):=by
 have hil:=(List.getElem?_eq_some_iff.1 hz).1
 have hset:∀m:Nat,mk[m]?=some true→(mk.set n true)[m]?=some true:=fun m hm=>by
  rw[List.getElem?_set_ne (by rintro rfl;rw[hn] at hm;cases hm)];exact hm
 have hself:(mk.set n true)[n]?=some true:=by
  rw[List.getElem?_set_self (List.getElem?_eq_some_iff.1 hn).1]
 refine⟨by rw[List.length_set];exact h.len,List.mem_append_left _ h.fst,fun m hm z hzm=>?_,fun j hj m hm he=>?_,?_,by rw[List.length_append];omega⟩
 ·by_cases hmn:m=n
  ·subst hmn
   rw[List.getD_eq_getElem?_getD,hr] at hzm
   exact List.mem_append_right _ hzm
  ·rw[List.getElem?_set_ne (Ne.symm hmn)] at hm
   exact List.mem_append_left _ (h.suc m hm z hzm)
 ·rw[List.getElem?_append_left (by omega)] at he
  by_cases hji:j=i
  ·subst hji
   rw[hz,Option.some.injEq] at he
   have:n=m:=by omega
   subst this
   exact hself
  ·exact hset m (h.old j (by omega) m hm he)
 ·rw[List.length_append,count_set hn]
  have:=h.few
  omega
theorem Bfs.all {E:List (List Int)} {X s:Nat} {mk:List Bool} {td:List Int} (hE:E.length=X) (h:Bfs E X s td.length mk td) {j:Nat} (hw:Way E s j) (hj:j < X):mk[j]?=some true:=by
 have key:∀{a b:Nat},Way E a b→(a:Int)∈td→b < X→(b:Int)∈td:=by
  intro a b hw
  induction hw with
  | refl=>exact fun h _=>h
  | @step a c b hs _ ih =>
   intro ha hb
   have haX:a < X:=by
    rcases Nat.lt_or_ge a X with h1 | h1
    ·exact h1
    ·rw[List.getD_eq_getElem?_getD,List.getElem?_eq_none (by omega)] at hs
     cases hs
   obtain⟨q,hq,e⟩:=List.mem_iff_getElem.1 ha
   have hm:=h.old q hq a haX (by rw[List.getElem?_eq_getElem hq,e])
   exact ih (h.suc a hm _ hs) hb
 obtain⟨q,hq,e⟩:=List.mem_iff_getElem.1 (key hw h.fst hj)
 exact h.old q hq j hj (by rw[List.getElem?_eq_getElem hq,e])
structure Rc (W:World) (B:Nat) (mk:List Bool) (td:List Int) (gt cap:Nat):Prop where
 out:W.heap[B]?=some (.cells (mk.map Value.bool).toArray 4 (0,0))
 row:W.ownsRow B 3 1 (.slice (some ⟨gt,0,none⟩) td.length cap) td.length (ints td)
theorem Rc.cell {W:World} {B n gt cap:Nat} {mk:List Bool} {td:List Int} {b:Bool} (h:Rc W B mk td gt cap) (hn:mk[n]?=some b):W.cell? ⟨B,n,none⟩=some (.bool b):=
 zab h.out (by rw[List.getElem?_toArray,List.getElem?_map,hn];rfl)
theorem Rc.todo {W:World} {B n gt cap:Nat} {mk:List Bool} {td:List Int} {z:Int} (h:Rc W B mk td gt cap) (hn:td[n]?=some z):W.cell? ⟨gt,n,none⟩=some (.int .i64 z):=by
 rw[h.row.cellAt n (by have:=(List.getElem?_eq_some_iff.1 hn).1;omega),ints,List.getElem?_map,hn];rfl
theorem Rc.set {W:World} {B n gt cap:Nat} {mk:List Bool} {td:List Int} (h:Rc W B mk td gt cap) (b:Bool):Rc (W.setCell ⟨B,n,none⟩ (.bool b)) B (mk.set n b) td gt cap:=
 ⟨by rw[zaz _ h.out];congr 2;rw[List.map_set];simp,zbi h.row (zaX h.row h.out (by decide)) _ _⟩
theorem Rc.app {W W':World} {B gt cap m:Nat} {mk:List Bool} {td r:List Int} {v:Value} (h:Rc W B mk td gt cap) (hm:r.length=m) (hlt:0 < td.length) (ho:W'.ownsRow B 3 1 v (td.length+m) (ints td++ints r)) (hg:W.grownBy W' (Value.slice (some ⟨gt,0,none⟩) td.length cap).ownBlock):
  ∃g' c',v=.slice (some ⟨g',0,none⟩) (td++r).length c'∧Rc W' B mk (td++r) g' c':=by
 subst hm
 obtain⟨ao,c',rfl⟩:=zdm ho
 obtain⟨g',rfl,-⟩:=zbj ho (by omega)
 refine⟨g',c',by rw[List.length_append],⟨(hg.block B (lt_of_block h.out) (fun e=>zaX h.row h.out (by decide) e.symm)).trans h.out,?_⟩⟩
 rw[List.length_append]
 have e:ints (td++r)=ints td++ints r:=by unfold ints;rw[List.map_append]
 rw[e]
 exact ho
theorem news_of {w:World} {a:Addr} {r:List Int} (h:NumAt w (some a) r):∀j u,(ints r)[j]?=some u→w.cell? (a.add j)=some u:=fun j u hj=>by
 rw[ints,List.getElem?_map] at hj
 cases hx:r[j]? with
 | none=>rw[hx] at hj;cases hj
 | some x =>
  rw[hx] at hj
  simp only[Option.map_some,Option.some.injEq] at hj
  subst hj
  have hlt:=zaB hx
  obtain⟨b,o,e,hc⟩:=h j hlt
  simp only[Option.some.injEq] at e
  subst e
  have ea:(⟨b,o,none⟩:Addr).add j=⟨b,o+j,none⟩:=by unfold Addr.add;split<;>simp_all
  rw[ea,hc]
  rw[List.getElem?_eq_getElem hlt] at hx
  simp only[Option.some.injEq] at hx
  rw[hx]
end Go.Proofs.YtagnmppdhfmgdaaGreatDoor.Fl
