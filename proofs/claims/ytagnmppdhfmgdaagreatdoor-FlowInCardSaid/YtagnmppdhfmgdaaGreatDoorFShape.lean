/- The graph of right statements hangs on them as plain data alone. -/
import Derived.Test.YtagnmppdhfmgdaaGreatDoorFModel
set_option linter.unusedSimpArgs false
set_option linter.unusedVariables false
set_option maxHeartbeats 8000000
set_option maxRecDepth 100000
namespace Go.Proofs.YtagnmppdhfmgdaaGreatDoor.Fl
open Go Go.RowKit Go.Proofs.YtagnmppdhfmgdaaGreatDoor
theorem zcz {S:ST} (h:S.rightB=true):zak S.body=true∧zak S.els=true∧((0 < S.bn∨0 < S.ln)→S.kind=4∨S.kind=5)∧(S.kind=5→S.ln=0):=by
 have h2:=zcR h
 obtain⟨k,t,n,f,ea,ec,e,ba,bc,b,la,lc,l⟩:=S
 rw[ST.rightB,Bool.and_eq_true,Bool.and_eq_true,Bool.and_eq_true] at h
 refine⟨h.1.2,h.2,?_,?_⟩
 ·obtain⟨t',_,_,h2⟩:=h2
  simp only[ST.mk.injEq] at h2
  intro hb
  simp only[ST.bn,ST.ln] at hb
  show k=4∨k=5
  rcases h2 with ⟨_,_,_,_,_,_,_,_,h⟩ | ⟨_,_,_,_,_,_,_,_,_,h⟩ | ⟨_,_,_,_,_,_,_,h⟩ | ⟨_,_,_,_,_,_,_,_,_,h⟩ | ⟨_,_,_,_,_,_,_,_,_,h⟩ | ⟨_,_,_,_,_,_,_,_,h⟩ | ⟨_,_,_,_,_,_,h⟩ | ⟨_,_,_,_,_,_,h⟩ | ⟨_,_,_,_,_,_,_,h⟩ | ⟨_,_,_,_,_,_,_,h⟩
  all_goals (simp_all)
 ·obtain⟨t',_,_,h2⟩:=h2
  simp only[ST.mk.injEq] at h2
  intro hb
  simp only[ST.kind] at hb
  show l.length=0
  rcases h2 with ⟨_,_,_,_,_,_,_,_,h⟩ | ⟨_,_,_,_,_,_,_,_,_,h⟩ | ⟨_,_,_,_,_,_,_,h⟩ | ⟨_,_,_,_,_,_,_,_,_,h⟩ | ⟨_,_,_,_,_,_,_,_,_,h⟩ | ⟨_,_,_,_,_,_,_,_,h⟩ | ⟨_,_,_,_,_,_,h⟩ | ⟨_,_,_,_,_,_,h⟩ | ⟨_,_,_,_,_,_,_,h⟩ | ⟨_,_,_,_,_,_,_,h⟩
  all_goals (simp_all)
theorem lay_right:∀(m:Nat) (l:List ST),Szs l < m→zak l=true→∀(p:Nat) (par fol brk agn:Int),∀n∈lay p par fol brk agn l,n.S.rightB=true:=by
 intro m
 induction m with
 | zero=>intro l h;omega
 | succ m ih =>
  intro l
  induction l with
  | nil=>intro _ _ p par fol brk agn n h;rw[lay] at h;cases h
  | cons S r ihr =>
   intro hm hr p par fol brk agn n hn
   rw[Szs] at hm
   have hz:=zcy S
   rw[zak,Bool.and_eq_true] at hr
   have hp:=zcz hr.1
   rw[lay,zcS,List.mem_append,List.mem_cons,List.mem_append] at hn
   rcases hn with (rfl | hn | hn) | hn
   ·exact hr.1
   ·exact ih S.body (by omega) hp.1 _ _ _ _ _ n hn
   ·exact ih S.els (by omega) hp.2.1 _ _ _ _ _ n hn
   ·exact ihr (by omega) hr.2 _ _ _ _ _ n hn
theorem node_bd (l:List ST):∀(i:Nat) (n:NR),(zaF l)[i]?=some n→(0≤n.fol∧n.fol≤(cnts l:Nat))∧(0≤n.brk∧n.brk≤(cnts l:Nat))∧(0≤n.agn∧n.agn≤(cnts l:Nat)):=by
 intro i
 induction i using Nat.strongRecOn with
 | ind i ih =>
  intro n hn
  have hf:=zdz l hn
  have hend:(0≤(endP (cnts l:Nat) (zaF l) n.par).1∧(endP (cnts l:Nat) (zaF l) n.par).1≤(cnts l:Nat))∧(0≤(endP (cnts l:Nat) (zaF l) n.par).2.1∧(endP (cnts l:Nat) (zaF l) n.par).2.1≤(cnts l:Nat))∧(0≤(endP (cnts l:Nat) (zaF l) n.par).2.2∧(endP (cnts l:Nat) (zaF l) n.par).2.2≤(cnts l:Nat)):=by
   rcases hf.par with h | ⟨h1,h2⟩
   ·rw[h];unfold endP;rw[if_pos rfl];simp only;omega
   ·obtain⟨q,hq⟩:∃q:Nat,n.par=q:=⟨n.par.toNat,by omega⟩
    rw[hq] at h2 ⊢
    have hlt:i < (zaF l).length:=by
     rcases Nat.lt_or_ge i (zaF l).length with h | h
     ·exact h
     ·rw[List.getElem?_eq_none h] at hn;cases hn
    have hlt2:q < (zaF l).length:=by omega
    have hq2:=List.getElem?_eq_getElem hlt2
    rw[endP_at _ hq2]
    have:=ih q (by omega) _ hq2
    have hl:=zaG l
    simp only
    split<;>omega
  have hpl:=hf.pl
  rw[Prod.mk.injEq] at hpl
  obtain⟨h1,h2⟩:=hpl
  have e2:n.brk=(endP (cnts l:Nat) (zaF l) n.par).2.1:=by rw[←h2]
  have e3:n.agn=(endP (cnts l:Nat) (zaF l) n.par).2.2:=by rw[←h2]
  refine⟨?_,by rw[e2];exact hend.2.1,by rw[e3];exact hend.2.2⟩
  rw[h1]
  have hb:=hf.beh
  split
  ·exact hend.1
  ·omega
theorem node_right {l:List ST} (hr:zak l=true) {i:Nat} {n:NR} (h:(zaF l)[i]?=some n):n.S.rightB=true:=
 lay_right _ l (Nat.lt_succ_self _) hr _ _ _ _ _ n (List.mem_of_getElem? h)
theorem node_par {l:List ST} (hr:zak l=true) {i:Nat} {n:NR} (h:(zaF l)[i]?=some n):n.par=-1∨∃q m,n.par=(q:Nat)∧q < i∧(zaF l)[q]?=some m∧(m.S.kind=4∨m.S.kind=5):=by
 have hf:=zdz l h
 rcases hf.par with h1 | ⟨h1,h2⟩
 ·exact .inl h1
 ·rcases hf.kid with h3 | ⟨m,h3,h4⟩
  ·exact .inl h3
  ·obtain⟨q,hq⟩:∃q:Nat,n.par=q:=⟨n.par.toNat,by omega⟩
   rw[hq,Int.toNat_natCast] at h3
   exact .inr ⟨q,m,hq,by omega,h3,(zcz (node_right hr h3)).2.2.1 h4⟩
theorem next_len (x:Int) (i:Nat) (n:NR):(zdq x i n).length=if n.S.kind=4∨n.S.kind=5 then 2 else 1:=by
 unfold zdq
 by_cases h4:n.S.kind=4
 ·simp[h4]
 ·by_cases h5:n.S.kind=5
  ·simp[h5]
  ·have h:¬(n.S.kind=4∨n.S.kind=5):=fun h=>h.elim h4 h5
   rw[if_neg h4,if_neg h5,if_neg h]
   split<;>(try split)<;>(try split)<;>rfl
section
variable {x:Int} {E:List (List Int)}
theorem cnt_pos (S:ST):1≤S.cnt:=by rw[zb3];omega
theorem zaI {α:Type} {l:List α} {i:Nat} {a:α} (h:l[i]?=some a):i < l.length:=by
 rcases Nat.lt_or_ge i l.length with h' | h'
 ·exact h'
 ·rw[List.getElem?_eq_none h'] at h;cases h
end
theorem nexts_at {l:List ST} {i:Nat} {n:NR} (h:(zaF l)[i]?=some n):(zcr l)[i]?=some (zdq (cnts l:Nat) i n):=by
 have hi:=zaI h
 unfold zcr
 rw[List.getElem?_append_left (by rw[List.length_mapIdx];exact hi),List.getElem?_mapIdx,h];rfl
theorem others_at {l:List ST} {i:Nat} {n:NR} (h:(zaF l)[i]?=some n):(zbQ l)[i]?=some (othR n):=by
 have hi:=zaI h
 unfold zbQ
 rw[List.getElem?_append_left (by rw[List.length_map];exact hi),List.getElem?_map,h];rfl
theorem ins_at {l:List ST} {i:Nat} {n:NR} (h:(zaF l)[i]?=some n):(insG l)[i]?=some n.par:=by
 have hi:=zaI h
 unfold insG
 rw[List.getElem?_append_left (by rw[List.length_map];exact hi),List.getElem?_map,h];rfl
theorem nexts_len (l:List ST):(zcr l).length=cnts l+1:=by unfold zcr;rw[List.length_append,List.length_mapIdx,zaG];rfl
theorem zcs (l:List ST):(zbQ l).length=cnts l+1:=by unfold zbQ;rw[List.length_append,List.length_map,zaG];rfl
theorem ins_len (l:List ST):(insG l).length=cnts l+1:=by unfold insG;rw[List.length_append,List.length_map,zaG];rfl
theorem edges_len (ns:List (List Int)) (os:List Int) (j:Bool):(zdk ns os j).length=ns.length:=by unfold zdk;rw[List.length_mapIdx]
theorem edges_at {ns:List (List Int)} {os:List Int} {j:Bool} {i:Nat} {r:List Int} (h:ns[i]?=some r):(zdk ns os j)[i]?=some (if j=true∧0≤os.getD i (-1) then r++[os.getD i (-1)] else r):=by
 unfold zdk;rw[List.getElem?_mapIdx,h];rfl
end Go.Proofs.YtagnmppdhfmgdaaGreatDoor.Fl

namespace Go.Proofs.YtagnmppdhfmgdaaGreatDoor.Fl
open Go Go.RowKit Go.Proofs.YtagnmppdhfmgdaaGreatDoor
structure PN where
 k:Int
 par:Int
 fol:Int
 brk:Int
 agn:Int
 oth:Int
 bn:Nat
 ln:Nat
def NR.pn (n:NR):PN:=⟨n.S.kind,n.par,n.fol,n.brk,n.agn,n.oth,n.S.bn,n.S.ln⟩
mutual
def cR:RS→Nat
 | .ife _ _ b l=>1+(cRs b+cRs l)
 | .whl _ _ b=>1+cRs b
 | _=>1
def cRs:List RS→Nat
 | []=>0
 | s :: r=>cR s+cRs r
end
mutual
def layR (p:Nat) (par fol brk agn:Int):RS→List PN
 | .ife _ _ b l=>⟨4,par,fol,brk,agn,((p+1+cRs b:Nat):Int),b.length,l.length⟩ :: (layRs (p+1) p fol brk agn b++layRs (p+1+cRs b) p fol brk agn l)
 | .whl _ _ b=>⟨5,par,fol,brk,agn,((p+1+cRs b:Nat):Int),b.length,0⟩ :: layRs (p+1) p p fol p b
 | .asg _ _ _=>[⟨0,par,fol,brk,agn,((p+1:Nat):Int),0,0⟩]
 | .sto _ _ _ _=>[⟨1,par,fol,brk,agn,((p+1:Nat):Int),0,0⟩]
 | .rd _ _=>[⟨2,par,fol,brk,agn,((p+1:Nat):Int),0,0⟩]
 | .call _ _ _ _=>[⟨3,par,fol,brk,agn,((p+1:Nat):Int),0,0⟩]
 | .brk _=>[⟨6,par,fol,brk,agn,((p+1:Nat):Int),0,0⟩]
 | .cnt _=>[⟨7,par,fol,brk,agn,((p+1:Nat):Int),0,0⟩]
 | .ret _ _=>[⟨8,par,fol,brk,agn,((p+1:Nat):Int),0,0⟩]
 | .ass _ _=>[⟨9,par,fol,brk,agn,((p+1:Nat):Int),0,0⟩]
def layRs (p:Nat) (par fol brk agn:Int):List RS→List PN
 | []=>[]
 | s :: r=>layR p par (if r.isEmpty then fol else ((p+cR s:Nat):Int)) brk agn s++layRs (p+cR s) par fol brk agn r
end
theorem rs_kinds {S:ST} (h:S.rightB=true):
  (S.kind=4∧∃t c,S.rs=.ife t c (rss S.body) (rss S.els))∨(S.kind=5∧S.els=[]∧∃t c,S.rs=.whl t c (rss S.body)) ∨
  (S.kind≠4∧S.kind≠5∧S.body=[]∧S.els=[]∧cR S.rs=1∧∀p par fol brk agn,layR p par fol brk agn S.rs=[⟨S.kind,par,fol,brk,agn,((p+1:Nat):Int),0,0⟩]):=by
 obtain⟨t',_,_,h2⟩:=zcR h
 rcases h2 with ⟨n,ea,ec,e,ba,bc,la,lc,_,_,rfl⟩ | ⟨n,ea,ec,e,e2,ba,bc,la,lc,_,_,_,rfl⟩ | ⟨n,ea,ec,ba,bc,la,lc,_,rfl⟩ | ⟨n,f,ea,ec,e,ba,bc,la,lc,_,_,_,rfl⟩ | ⟨ea,ec,e,ba,bc,b,la,lc,l,_,_,_,rfl⟩ | ⟨ea,ec,e,ba,bc,b,la,lc,_,_,rfl⟩ | ⟨ea,ec,ba,bc,la,lc,rfl⟩ | ⟨ea,ec,ba,bc,la,lc,rfl⟩ | ⟨ea,ec,e,ba,bc,la,lc,_,rfl⟩ | ⟨ea,ec,e,ba,bc,la,lc,_,rfl⟩
 ·exact .inr (.inr ⟨by show(0:Int)≠4;decide,by show(0:Int)≠5;decide,rfl,rfl,by rw[ST.rs];rfl,fun p par fol brk agn=>by rw[ST.rs];rfl⟩)
 ·exact .inr (.inr ⟨by show(1:Int)≠4;decide,by show(1:Int)≠5;decide,rfl,rfl,by rw[ST.rs];rfl,fun p par fol brk agn=>by rw[ST.rs];rfl⟩)
 ·exact .inr (.inr ⟨by show(2:Int)≠4;decide,by show(2:Int)≠5;decide,rfl,rfl,by rw[ST.rs];rfl,fun p par fol brk agn=>by rw[ST.rs];rfl⟩)
 ·exact .inr (.inr ⟨by show(3:Int)≠4;decide,by show(3:Int)≠5;decide,rfl,rfl,by rw[ST.rs];rfl,fun p par fol brk agn=>by rw[ST.rs];rfl⟩)
 ·exact .inl ⟨rfl,_,_,by rw[ST.rs];rfl⟩
 ·exact .inr (.inl ⟨rfl,rfl,_,_,by rw[ST.rs];rfl⟩)
 ·exact .inr (.inr ⟨by show(6:Int)≠4;decide,by show(6:Int)≠5;decide,rfl,rfl,by rw[ST.rs];rfl,fun p par fol brk agn=>by rw[ST.rs];rfl⟩)
 ·exact .inr (.inr ⟨by show(7:Int)≠4;decide,by show(7:Int)≠5;decide,rfl,rfl,by rw[ST.rs];rfl,fun p par fol brk agn=>by rw[ST.rs];rfl⟩)
 ·exact .inr (.inr ⟨by show(8:Int)≠4;decide,by show(8:Int)≠5;decide,rfl,rfl,by rw[ST.rs];rfl,fun p par fol brk agn=>by rw[ST.rs];rfl⟩)
 ·exact .inr (.inr ⟨by show(9:Int)≠4;decide,by show(9:Int)≠5;decide,rfl,rfl,by rw[ST.rs];rfl,fun p par fol brk agn=>by rw[ST.rs];rfl⟩)
theorem rss_len (l:List ST):(rss l).length=l.length:=by rw[rss_map,List.length_map]
theorem cR_is:∀(m:Nat) (l:List ST),Szs l < m→zak l=true→cRs (rss l)=cnts l∧∀S∈l,cR S.rs=S.cnt:=by
 intro m
 induction m with
 | zero=>intro l h;omega
 | succ m ih =>
  intro l
  induction l with
  | nil=>intro _ _;exact⟨by rw[rss,cRs,cnts],fun S hS=>by cases hS⟩
  | cons S r ihr =>
   intro hm hr
   rw[Szs] at hm
   have hz:=zcy S
   rw[zak,Bool.and_eq_true] at hr
   have hp:=zcz hr.1
   have hS:cR S.rs=S.cnt:=by
    rw[zb3]
    rcases rs_kinds hr.1 with ⟨_,t,c,e⟩ | ⟨_,e0,t,c,e⟩ | ⟨_,_,e1,e2,e3,_⟩
    ·rw[e,cR,(ih S.body (by omega) hp.1).1,(ih S.els (by omega) hp.2.1).1]
    ·rw[e,cR,(ih S.body (by omega) hp.1).1,e0,cnts,Nat.add_zero]
    ·rw[e3,e1,e2,cnts]
   have h2:=ihr (by omega) hr.2
   refine⟨by rw[rss,cRs,cnts,hS,h2.1],fun T hT=>?_⟩
   rcases List.mem_cons.1 hT with rfl | hT
   ·exact hS
   ·exact h2.2 T hT
theorem lay_pn:∀(m:Nat) (l:List ST),Szs l < m→zak l=true→∀(p:Nat) (par fol brk agn:Int),(lay p par fol brk agn l).map NR.pn=layRs p par fol brk agn (rss l):=by
 intro m
 induction m with
 | zero=>intro l h;omega
 | succ m ih =>
  intro l
  induction l with
  | nil=>intro _ _ p par fol brk agn;rw[lay,rss,layRs];rfl
  | cons S r ihr =>
   intro hm hr p par fol brk agn
   have hcr:=cR_is _ (S :: r) (Nat.lt_succ_self _) hr
   rw[Szs] at hm
   have hz:=zcy S
   rw[zak,Bool.and_eq_true] at hr
   have hp:=zcz hr.1
   have hcb:=(cR_is _ S.body (Nat.lt_succ_self _) hp.1).1
   have hS:=hcr.2 S List.mem_cons_self
   rw[lay,rss,layRs,List.map_append,ihr (by omega) hr.2,hS]
   congr 1
   have hfl:(if (rss r).isEmpty=true then fol else ((p+S.cnt:Nat):Int))=(if r=[] then fol else ((p+S.cnt:Nat):Int)):=by
    cases r with
    | nil=>rw[rss];rfl
    | cons T r=>rw[rss];rfl
   rw[hfl]
   generalize (if r=[] then fol else ((p+S.cnt:Nat):Int))=fl
   generalize (if r=[] then (-1:Int) else ((p+S.cnt:Nat):Int))=bh
   rw[zcS,List.map_cons,List.map_append,ih S.body (by omega) hp.1,ih S.els (by omega) hp.2.1]
   rcases rs_kinds hr.1 with ⟨hk,t,c,e⟩ | ⟨hk,e0,t,c,e⟩ | ⟨h4,h5,e1,e2,e3,e4⟩
   ·rw[e,layR,hcb,if_neg (by omega),if_neg (by omega),if_neg (by omega)]
    show NR.pn _ :: _=_
    unfold NR.pn
    simp only[hk,rss_len,bn_is,ln_is]
   ·rw[e,layR,hcb,if_pos hk,if_pos hk,if_pos hk,e0,rss,layRs,List.append_nil]
    show NR.pn _ :: _=_
    unfold NR.pn
    simp only[hk,rss_len,bn_is,ln_is,e0,List.length_nil]
   ·rw[e4,e1,e2,rss,layRs,layRs,cnts]
    show[NR.pn _]=_
    unfold NR.pn
    simp only[bn_is,ln_is,e1,e2,List.length_nil,Nat.add_zero]
def nextP (x:Int) (i:Nat) (n:PN):List Int:=
 if n.k=4 then [if n.bn=0 then n.fol else (i:Int)+1,if n.ln=0 then n.fol else n.oth]
 else if n.k=5 then [if n.bn=0 then (i:Int) else (i:Int)+1,n.fol]
 else if n.k=6 then [n.brk] else if n.k=7 then [n.agn] else if n.k=8 then [x] else [n.fol]
def othP (n:PN):Int:=if n.k=6∨n.k=7∨n.k=8 then n.fol else -1
def nodesP (l:List RS):List PN:=layRs 0 (-1) (cRs l:Nat) (cRs l:Nat) (cRs l:Nat) l
def nextsP (l:List RS):List (List Int):=(nodesP l).mapIdx (nextP (cRs l:Nat))++[[]]
def othersP (l:List RS):List Int:=(nodesP l).map othP++[-1]
def insP (l:List RS):List Int:=(nodesP l).map PN.par++[-1]
theorem graph_pn {l:List ST} (hr:zak l=true):cRs (rss l)=cnts l∧zcr l=nextsP (rss l)∧zbQ l=othersP (rss l)∧insG l=insP (rss l):=by
 have hc:=(cR_is _ l (Nat.lt_succ_self _) hr).1
 have hn:(zaF l).map NR.pn=nodesP (rss l):=by
  unfold zaF nodesP
  rw[hc]
  exact lay_pn _ l (Nat.lt_succ_self _) hr _ _ _ _ _
 refine⟨hc,?_,?_,?_⟩
 ·unfold zcr nextsP
  rw[hc,←hn]
  congr 1
  apply List.ext_getElem?
  intro i
  rw[List.getElem?_mapIdx,List.getElem?_mapIdx,List.getElem?_map]
  cases (zaF l)[i]?<;>rfl
 ·unfold zbQ othersP
  rw[←hn,List.map_map]
  rfl
 ·unfold insG insP
  rw[←hn,List.map_map]
  rfl
end Go.Proofs.YtagnmppdhfmgdaaGreatDoor.Fl
