/- What Parse answers of the chapter's examples, and what their graph is. -/
import Derived.Test.YtagnmppdhfmgdaaGreatDoorFList
import Derived.Test.YtagnmppdhfmgdaaGreatDoorLValue
import Derived.Test.YtagnmppdhfmgdaaGreatDoorPVars2
import Derived.Test.YtagnmppdhfmgdaaGreatDoorTCodeP
import Derived.Test.YtagnmppdhfmgdaaGreatDoorFEdges
import Derived.Test.YtagnmppdhfmgdaaGreatDoorPLaid
import Derived.Handy
import Derived.Stop.LaidErr
import Derived.Defers
import Derived.Recover
set_option linter.unusedSimpArgs false
set_option linter.unusedVariables false
set_option maxHeartbeats 8000000
set_option maxRecDepth 100000
namespace Go.Proofs.YtagnmppdhfmgdaaGreatDoor.Fl
open Go Go.RowKit Go.Proofs.YtagnmppdhfmgdaaGreatDoor
structure PN where
 k:Int
 par:Int
 fol:Int
 brk:Int
 agn:Int
 oth:Int
 bn:Nat
 ln:Nat
def NR.pn (n:NR):PN:=⟨n.S.kind,n.par,n.fol,n.brk,n.agn,n.oth,n.S.bn,n.S.ln⟩
mutual
def cR:RS→Nat
 | .ife _ _ b l=>1+(cRs b+cRs l)
 | .whl _ _ b=>1+cRs b
 | _=>1
def cRs:List RS→Nat
 | []=>0
 | s :: r=>cR s+cRs r
end
mutual
def layR (p:Nat) (par fol brk agn:Int):RS→List PN
 | .ife _ _ b l=>⟨4,par,fol,brk,agn,((p+1+cRs b:Nat):Int),b.length,l.length⟩ :: (layRs (p+1) p fol brk agn b++layRs (p+1+cRs b) p fol brk agn l)
 | .whl _ _ b=>⟨5,par,fol,brk,agn,((p+1+cRs b:Nat):Int),b.length,0⟩ :: layRs (p+1) p p fol p b
 | .asg _ _ _=>[⟨0,par,fol,brk,agn,((p+1:Nat):Int),0,0⟩]
 | .sto _ _ _ _=>[⟨1,par,fol,brk,agn,((p+1:Nat):Int),0,0⟩]
 | .rd _ _=>[⟨2,par,fol,brk,agn,((p+1:Nat):Int),0,0⟩]
 | .call _ _ _ _=>[⟨3,par,fol,brk,agn,((p+1:Nat):Int),0,0⟩]
 | .brk _=>[⟨6,par,fol,brk,agn,((p+1:Nat):Int),0,0⟩]
 | .cnt _=>[⟨7,par,fol,brk,agn,((p+1:Nat):Int),0,0⟩]
 | .ret _ _=>[⟨8,par,fol,brk,agn,((p+1:Nat):Int),0,0⟩]
 | .ass _ _=>[⟨9,par,fol,brk,agn,((p+1:Nat):Int),0,0⟩]
def layRs (p:Nat) (par fol brk agn:Int):List RS→List PN
 | []=>[]
 | s :: r=>layR p par (if r.isEmpty then fol else ((p+cR s:Nat):Int)) brk agn s++layRs (p+cR s) par fol brk agn r
end
theorem rs_kinds {S:ST} (h:S.rightB=true):
  (S.kind=4∧∃t c,S.rs=.ife t c (rss S.body) (rss S.els))∨(S.kind=5∧S.els=[]∧∃t c,S.rs=.whl t c (rss S.body)) ∨
  (S.kind≠4∧S.kind≠5∧S.body=[]∧S.els=[]∧cR S.rs=1∧∀p par fol brk agn,layR p par fol brk agn S.rs=[⟨S.kind,par,fol,brk,agn,((p+1:Nat):Int),0,0⟩]):=by
 obtain⟨t',_,_,h2⟩:=zch h
 rcases h2 with ⟨n,ea,ec,e,ba,bc,la,lc,_,_,rfl⟩ | ⟨n,ea,ec,e,e2,ba,bc,la,lc,_,_,_,rfl⟩ | ⟨n,ea,ec,ba,bc,la,lc,_,rfl⟩ | ⟨n,f,ea,ec,e,ba,bc,la,lc,_,_,_,rfl⟩ | ⟨ea,ec,e,ba,bc,b,la,lc,l,_,_,_,rfl⟩ | ⟨ea,ec,e,ba,bc,b,la,lc,_,_,rfl⟩ | ⟨ea,ec,ba,bc,la,lc,rfl⟩ | ⟨ea,ec,ba,bc,la,lc,rfl⟩ | ⟨ea,ec,e,ba,bc,la,lc,_,rfl⟩ | ⟨ea,ec,e,ba,bc,la,lc,_,rfl⟩
 ·exact .inr (.inr ⟨by show(0:Int)≠4;decide,by show(0:Int)≠5;decide,rfl,rfl,by rw[ST.rs];rfl,fun p par fol brk agn=>by rw[ST.rs];rfl⟩)
 ·exact .inr (.inr ⟨by show(1:Int)≠4;decide,by show(1:Int)≠5;decide,rfl,rfl,by rw[ST.rs];rfl,fun p par fol brk agn=>by rw[ST.rs];rfl⟩)
 ·exact .inr (.inr ⟨by show(2:Int)≠4;decide,by show(2:Int)≠5;decide,rfl,rfl,by rw[ST.rs];rfl,fun p par fol brk agn=>by rw[ST.rs];rfl⟩)
 ·exact .inr (.inr ⟨by show(3:Int)≠4;decide,by show(3:Int)≠5;decide,rfl,rfl,by rw[ST.rs];rfl,fun p par fol brk agn=>by rw[ST.rs];rfl⟩)
 ·exact .inl ⟨rfl,_,_,by rw[ST.rs];rfl⟩
 ·exact .inr (.inl ⟨rfl,rfl,_,_,by rw[ST.rs];rfl⟩)
 ·exact .inr (.inr ⟨by show(6:Int)≠4;decide,by show(6:Int)≠5;decide,rfl,rfl,by rw[ST.rs];rfl,fun p par fol brk agn=>by rw[ST.rs];rfl⟩)
 ·exact .inr (.inr ⟨by show(7:Int)≠4;decide,by show(7:Int)≠5;decide,rfl,rfl,by rw[ST.rs];rfl,fun p par fol brk agn=>by rw[ST.rs];rfl⟩)
 ·exact .inr (.inr ⟨by show(8:Int)≠4;decide,by show(8:Int)≠5;decide,rfl,rfl,by rw[ST.rs];rfl,fun p par fol brk agn=>by rw[ST.rs];rfl⟩)
 ·exact .inr (.inr ⟨by show(9:Int)≠4;decide,by show(9:Int)≠5;decide,rfl,rfl,by rw[ST.rs];rfl,fun p par fol brk agn=>by rw[ST.rs];rfl⟩)
theorem rss_len (l:List ST):(rss l).length=l.length:=by rw[rss_map,List.length_map]
theorem cR_is:∀(m:Nat) (l:List ST),Szs l < m→zak l=true→cRs (rss l)=cnts l∧∀S∈l,cR S.rs=S.cnt:=by
 intro m
 induction m with
 | zero=>intro l h;omega
 | succ m ih =>
  intro l
  induction l with
  | nil=>intro _ _;exact⟨by rw[rss,cRs,cnts],fun S hS=>by cases hS⟩
  | cons S r ihr =>
   intro hm hr
   rw[Szs] at hm
   have hz:=zcc S
   rw[zak,Bool.and_eq_true] at hr
   have hp:=right_parts hr.1
   have hS:cR S.rs=S.cnt:=by
    rw[zbP]
    rcases rs_kinds hr.1 with ⟨_,t,c,e⟩ | ⟨_,e0,t,c,e⟩ | ⟨_,_,e1,e2,e3,_⟩
    ·rw[e,cR,(ih S.body (by omega) hp.1).1,(ih S.els (by omega) hp.2.1).1]
    ·rw[e,cR,(ih S.body (by omega) hp.1).1,e0,cnts,Nat.add_zero]
    ·rw[e3,e1,e2,cnts]
   have h2:=ihr (by omega) hr.2
   refine⟨by rw[rss,cRs,cnts,hS,h2.1],fun T hT=>?_⟩
   rcases List.mem_cons.1 hT with rfl | hT
   ·exact hS
   ·exact h2.2 T hT
theorem lay_pn:∀(m:Nat) (l:List ST),Szs l < m→zak l=true→∀(p:Nat) (par fol brk agn:Int),(lay p par fol brk agn l).map NR.pn=layRs p par fol brk agn (rss l):=by
 intro m
 induction m with
 | zero=>intro l h;omega
 | succ m ih =>
  intro l
  induction l with
  | nil=>intro _ _ p par fol brk agn;rw[lay,rss,layRs];rfl
  | cons S r ihr =>
   intro hm hr p par fol brk agn
   have hcr:=cR_is _ (S :: r) (Nat.lt_succ_self _) hr
   rw[Szs] at hm
   have hz:=zcc S
   rw[zak,Bool.and_eq_true] at hr
   have hp:=right_parts hr.1
   have hcb:=(cR_is _ S.body (Nat.lt_succ_self _) hp.1).1
   have hS:=hcr.2 S List.mem_cons_self
   rw[lay,rss,layRs,List.map_append,ihr (by omega) hr.2,hS]
   congr 1
   have hfl:(if (rss r).isEmpty=true then fol else ((p+S.cnt:Nat):Int))=(if r=[] then fol else ((p+S.cnt:Nat):Int)):=by
    cases r with
    | nil=>rw[rss];rfl
    | cons T r=>rw[rss];rfl
   rw[hfl]
   generalize (if r=[] then fol else ((p+S.cnt:Nat):Int))=fl
   generalize (if r=[] then (-1:Int) else ((p+S.cnt:Nat):Int))=bh
   rw[zct,List.map_cons,List.map_append,ih S.body (by omega) hp.1,ih S.els (by omega) hp.2.1]
   rcases rs_kinds hr.1 with ⟨hk,t,c,e⟩ | ⟨hk,e0,t,c,e⟩ | ⟨h4,h5,e1,e2,e3,e4⟩
   ·rw[e,layR,hcb,if_neg (by omega),if_neg (by omega),if_neg (by omega)]
    show NR.pn _ :: _=_
    unfold NR.pn
    simp only[hk,rss_len,bn_is,ln_is]
   ·rw[e,layR,hcb,if_pos hk,if_pos hk,if_pos hk,e0,rss,layRs,List.append_nil]
    show NR.pn _ :: _=_
    unfold NR.pn
    simp only[hk,rss_len,bn_is,ln_is,e0,List.length_nil]
   ·rw[e4,e1,e2,rss,layRs,layRs,cnts]
    show[NR.pn _]=_
    unfold NR.pn
    simp only[bn_is,ln_is,e1,e2,List.length_nil,Nat.add_zero]
def nextP (x:Int) (i:Nat) (n:PN):List Int:=
 if n.k=4 then [if n.bn=0 then n.fol else (i:Int)+1,if n.ln=0 then n.fol else n.oth]
 else if n.k=5 then [if n.bn=0 then (i:Int) else (i:Int)+1,n.fol]
 else if n.k=6 then [n.brk] else if n.k=7 then [n.agn] else if n.k=8 then [x] else [n.fol]
def othP (n:PN):Int:=if n.k=6∨n.k=7∨n.k=8 then n.fol else -1
def nodesP (l:List RS):List PN:=layRs 0 (-1) (cRs l:Nat) (cRs l:Nat) (cRs l:Nat) l
def nextsP (l:List RS):List (List Int):=(nodesP l).mapIdx (nextP (cRs l:Nat))++[[]]
def othersP (l:List RS):List Int:=(nodesP l).map othP++[-1]
def insP (l:List RS):List Int:=(nodesP l).map PN.par++[-1]
theorem graph_pn {l:List ST} (hr:zak l=true):cRs (rss l)=cnts l∧zcV l=nextsP (rss l)∧zce l=othersP (rss l)∧insG l=insP (rss l):=by
 have hc:=(cR_is _ l (Nat.lt_succ_self _) hr).1
 have hn:(zaY l).map NR.pn=nodesP (rss l):=by
  unfold zaY nodesP
  rw[hc]
  exact lay_pn _ l (Nat.lt_succ_self _) hr _ _ _ _ _
 refine⟨hc,?_,?_,?_⟩
 ·unfold zcV nextsP
  rw[hc,←hn]
  congr 1
  apply List.ext_getElem?
  intro i
  rw[List.getElem?_mapIdx,List.getElem?_mapIdx,List.getElem?_map]
  cases (zaY l)[i]?<;>rfl
 ·unfold zce othersP
  rw[←hn,List.map_map]
  rfl
 ·unfold insG insP
  rw[←hn,List.map_map]
  rfl
end Go.Proofs.YtagnmppdhfmgdaaGreatDoor.Fl

namespace Go.Proofs.YtagnmppdhfmgdaaGreatDoor.Fl
open Go Go.RowKit Go.Proofs.YtagnmppdhfmgdaaGreatDoor
mutual
theorem cR_n:∀s:RS,cR s=1+nB s
 | .asg _ _ _=>by rw[cR,nB]<;>simp
 | .sto _ _ _ _=>by rw[cR,nB]<;>simp
 | .rd _ _=>by rw[cR,nB]<;>simp
 | .call _ _ _ _=>by rw[cR,nB]<;>simp
 | .ife _ _ b l=>by rw[cR,nB,cRs_n b,cRs_n l]
 | .whl _ _ b=>by rw[cR,nB,cRs_n b]
 | .brk _=>by rw[cR,nB]<;>simp
 | .cnt _=>by rw[cR,nB]<;>simp
 | .ret _ _=>by rw[cR,nB]<;>simp
 | .ass _ _=>by rw[cR,nB]<;>simp
theorem cRs_n:∀l:List RS,cRs l=nSs l
 | []=>by rw[cRs,nSs]
 | s :: l=>by rw[cRs,nSs,cR_n s,cRs_n l]
end
structure MainAt (w:World) (N:Nat) (a:Option Addr) (c:Nat) (l:List ST):Prop where
 cell:w.cell? ⟨N,11,none⟩=some (.slice a l.length c)
 lt:N < w.heap.size
 lim:l.length≤9223372036854775807
 inn:SsIn w 0 a 0 l
 right:zak l=true
 few:cnts l≤24
 cap:l.length≤c
def MainP (w:World) (e:Ending) (w':World):Prop:=∃(N:Nat) (a:Option Addr) (c:Nat) (l:List ST),e=.returned (.agg #[.slice (some ⟨N,0,none⟩) 3 3])∧MainAt w' N a c l∧Below w.heap.size w w'
theorem mainP_of {w w':World} {e:Ending} (h:CodeP w e w'):MainP w e w':=by
 obtain⟨N,F,G,M,rfl,hin,hr,⟨-,-,hk⟩,hv,-,hb⟩:=h
 have hM:=hin.fs 2 (by simp)
 have hrow:=row_cells4 ((hin.mono (Nat.zero_le _)).row 2 (by simp)) (Past.refl w')
 obtain⟨_,_,_,c3,hlt⟩:=hrow
 have hMr:M.rightB=true:=by
  simp only[List.all_cons,List.all_nil,Bool.and_true,Bool.and_eq_true] at hr
  exact hr.2.2
 have hss:zak M.body=true:=by
  unfold FT.rightB at hMr
  simp only[Bool.and_eq_true] at hMr
  exact hMr.2.2.2
 refine⟨N,M.ba,M.bc,M.body,rfl,⟨c3,hlt,hM.bl,hM.ss.mono (Nat.zero_le _),hss,?_,(hv M (by simp)).2.2⟩,hb⟩
 have h1:=(hk M (by simp)).1
 have h2:M.rf.body=rss M.body:=rfl
 rw[h2,←cRs_n,(cR_is _ _ (Nat.lt_succ_self _) hss).1] at h1
 exact h1
theorem main_call {pa la ga:Option Addr} {pn pc ln lc gn gc:Nat} {zl zg:List Int} (w:World) (hl:RowIn .u8 w la ln zl) (hg:RowIn .u8 w ga gn zg) (hgc:gn≤gc):
  Calls Tryz.prog 9 #[.agg #[.slice pa pn pc,.bool true,.slice la ln lc,.slice ga gn gc]] w (MainP w):=(code_call w hl hg hgc).mono fun _ _ h=>mainP_of h
end Go.Proofs.YtagnmppdhfmgdaaGreatDoor.Fl

namespace Go.Proofs.YtagnmppdhfmgdaaGreatDoor.Fl
open Go Go.RowKit Go.Proofs.YtagnmppdhfmgdaaGreatDoor
open Go.Lib (hid)
open Go.Proofs.YtagnmppdhfmgdaaGreatDoor.Pm (zbU Wo)
open Go.Lib (hid)
def pOf (t:List UInt8):List RF:=match zbU 100 t with
 | .ok p _=>p
 | .bad _ _=>[]
def mOf (t:List UInt8):Nat:=match zbU 100 t with
 | .ok _ n=>n
 | .bad _ _=>0
def t1:List UInt8:=[102,117,110,99,32,109,97,105,110,40,41,32,123,32,97,32,61,32,49,59,32,119,104,105,108,101,32,40,97,41,32,123,32,105,102,32,40,98,41,32,123,32,98,114,101,97,107,59,32,125,32,101,108,115,101,32,123,32,99,111,110,116,105,110,117,101,59,32,125,32,97,32,61,32,50,59,32,125,32,114,101,116,117,114,110,32,48,59,32,98,32,61,32,49,59,32,125]
def t2:List UInt8:=[102,117,110,99,32,109,97,105,110,40,41,32,123,32,105,102,32,40,97,41,32,123,32,98,32,61,32,49,59,32,125,32,125]
theorem ev1:zbU 100 t1=.ok (pOf t1) (mOf t1):=by kernel_rfl
theorem ev2:zbU 100 t2=.ok (pOf t2) (mOf t2):=by kernel_rfl
def r1:List RS:=(pOf t1).flatMap RF.body
def r2:List RS:=(pOf t2).flatMap RF.body
theorem one1:(pOf t1).length=1:=by kernel_rfl
theorem one2:(pOf t2).length=1:=by kernel_rfl
theorem g1:(cRs r1=8∧r1.length=4)∧nextsP r1=[[1],[2,6],[3,4],[6],[1],[1],[8],[8],[]]∧othersP r1=[-1,-1,-1,5,5,-1,7,-1,-1]∧insP r1=[-1,-1,1,2,2,1,-1,-1,-1]:=⟨⟨by kernel_rfl,by kernel_rfl⟩,by kernel_rfl,by kernel_rfl,by kernel_rfl⟩
theorem g2:cRs r2=2:=by kernel_rfl
theorem zdh {w:World} (H:Wo w) (sb:ByteArray) {t:List UInt8} {p:List RF} {mo:Nat} (hs:sb.data.toList=t) (hl:t.length≤8192) (ev:zbU 100 t=.ok p mo):
  Calls Tryz.prog 40 #[.string sb] w fun e w'=>Below w.heap.size w w'∧∃a c l,e=.returned (.tuple #[.agg #[.slice a l.length c],.int .i64 (t.length:Nat),.int .i64 0])∧l.map FT.rf=p∧l.all FT.rightB=true∧FsIn w' 0 a l:=by
 subst hs
 refine(Pm.pParse_any 100 sb hl H.er (Pm.finA_ok ev)).mono ?_
 intro e w' hq
 rw[ev] at hq
 obtain⟨hb,v,rfl,a,c,l,rfl,h1,h2,h3,-⟩:=hq
 exact⟨hb,a,c,l,rfl,h1,h2,h3.mono (Nat.zero_le _)⟩
def BodyAt (r:List RS) (e:Ending) (w':World):Prop:=∃(a:Option Addr) (c:Nat) (l:List ST),e=.returned (.slice a l.length c)∧rss l=r∧zak l=true∧l.length≤9223372036854775807∧SsIn w' 0 a 0 l
theorem body_any {w:World} (H:Wo w) (s:ByteArray) {t:List UInt8} (hs:(({data:=#[102,117,110,99,32,109,97,105,110,40,41,32,123,32]}:ByteArray)++s++{data:=#[32,125]}).data.toList=t) (hz:s.size≤1000) (hl:t.length≤8192) (ev:zbU 100 t=.ok (pOf t) (mOf t)) (h1:(pOf t).length=1):
  Calls Tryz.prog 26 #[.string s] w fun e w'=>BodyAt ((pOf t).flatMap RF.body) e w'∧Below w.heap.size w w':=by
 have HP:=hid (zdh H _ hs hl ev)
 have h9:({data:=#[102,117,110,99,32,109,97,105,110,40,41,32,123,32]}:ByteArray).size+s.size≤maxLen:=by unfold maxLen;show 14+s.size≤_;omega
 have h8:(({data:=#[102,117,110,99,32,109,97,105,110,40,41,32,123,32]}:ByteArray)++s).size+({data:=#[32,125]}:ByteArray).size≤maxLen:=by rw[ByteArray.size_append];unfold maxLen;show 14+s.size+2≤_;omega
 have H1:=hid h1
 clear hs hl ev h1 H
 go_enter Tryz.func26,Tryz.ntmps26
 go_upto_region 2 with (go_at_call 40;(refine HP.out.mono ?_);rintro e w1 ⟨hb1,a,c,l,rfl,q1,q2,q3⟩;have HQ:=hid (And.intro q1 (And.intro q2 (And.intro q3 hb1)));clear q1 q2 q3 hb1)
 obtain⟨q1,q2,q3,hb1⟩:=HQ.out
 have hl1:l.length=1:=by have:=congrArg List.length q1;rw[List.length_map,H1.out] at this;exact this
 obtain⟨F,rfl⟩:∃F,l=[F]:=by
  match l,hl1 with
  | [F],_=>exact⟨F,rfl⟩
 have hrow:=q3.row 0 (by simp)
 obtain⟨kb,ko,rfl,-⟩:=hrow
 have hrow:=q3.row 0 (by simp)
 rw[show([F]:List FT)[0]=F from rfl,FT.cells_eq] at hrow
 obtain⟨f0,f1,f2,f3,fl⟩:=row_cells4 hrow (Past.refl w1)
 rw[show ko+0*4+3=ko+3 by omega] at f3
 have hr:F.rightB=true:=by simpa using q2
 have hrb:zak F.body=true:=by
  unfold FT.rightB at hr
  simp only[Bool.and_eq_true] at hr
  exact hr.2.2.2
 have hbody:(pOf t).flatMap RF.body=rss F.body:=by rw[←q1];simp[FT.rf]
 have hin:=q3.fs 0 (by simp)
 have HF:=hid (And.intro hrb (And.intro hbody (And.intro (show F.In w1 0 from hin) hb1)))
 clear q1 q2 q3 hb1 hl1 hrow f0 f1 f2 hr hrb hbody hin HQ H1
 go_wp2
 go_ret
 obtain⟨hrb,hbody,hin,hb1⟩:=HF.out
 have hp:Below w1.heap.size w1 (w1.alloc (.cells #[.slice (some ⟨kb,ko,none⟩) 1 c] 24)):=(Below.refl _ _).alloc (Nat.le_refl _) _
 exact⟨⟨F.ba,F.bc,F.body,rfl,hbody.symm,hrb,hin.bl,hin.ss.on hp⟩,zaE hb1 hp⟩
end Go.Proofs.YtagnmppdhfmgdaaGreatDoor.Fl
