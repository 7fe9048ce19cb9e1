/- What Check asks of right programs, as plain functions of plain data: no program stands in this text. -/
import Derived.Test.YtljbbhhiiiepcaaGreatDoorKFeedM
import Derived.Test.YtljbbhhiiiepcaaGreatDoorKCallee
set_option linter.unusedSimpArgs false
set_option linter.unusedVariables false
set_option maxHeartbeats 8000000
set_option maxRecDepth 100000
namespace Go.Proofs.YtljbbhhiiiepcaaGreatDoor.Ck
open Go Go.RowKit Go.Proofs.YtljbbhhiiiepcaaGreatDoor
abbrev wG:ByteArray:={data:=#[103]}
abbrev wH:ByteArray:={data:=#[104]}
abbrev wM:ByteArray:={data:=#[109,97,105,110]}
abbrev wP:ByteArray:={data:=#[112]}
abbrev wQ:ByteArray:={data:=#[113]}
abbrev wR:ByteArray:={data:=#[114]}
abbrev wZs:ByteArray:={data:=#[122,115]}
abbrev wA:ByteArray:={data:=#[97]}
abbrev wB':ByteArray:={data:=#[98]}
abbrev wC:ByteArray:={data:=#[99]}
abbrev wD:ByteArray:={data:=#[100]}
abbrev wXs:ByteArray:={data:=#[120,115]}
abbrev wYs:ByteArray:={data:=#[121,115]}
abbrev cGH:List (ByteArray×Nat):=[(wG,1),(wH,2)]
section
variable (p1 v1 b1 p2 v2 b2 p3 v3 b3:Option Addr) (c1 d1 e1 c2 d2 e2 c3 d3 e3:Nat) (l1 l2 l3:List ST)
abbrev mG:FT:=⟨wG,p1,c1,[wP],v1,d1,[(wR,0),(wZs,2)],b1,e1,l1⟩
abbrev mH:FT:=⟨wH,p2,c2,[wP,wQ],v2,d2,[(wZs,1)],b2,e2,l2⟩
abbrev mM:FT:=⟨wM,p3,c3,[],v3,d3,[(wA,0),(wB',0),(wC,0),(wD,0),(wXs,3),(wYs,5)],b3,e3,l3⟩
abbrev za0:List FT:=[mG p1 v1 b1 c1 d1 e1 l1,mH p2 v2 b2 c2 d2 e2 l2,mM p3 v3 b3 c3 d3 e3 l3]
theorem call_ok:∀c∈cGH,∀S:ST,S.func=c.1→S.en=c.2→calleeF (za0 p1 v1 b1 p2 v2 b2 p3 v3 b3 c1 d1 e1 c2 d2 e2 c3 d3 e3 l1 l2 l3) S=0:=by
 intro c hc S h1 h2
 simp only[cGH,List.mem_cons,List.not_mem_nil,or_false] at hc
 rcases hc with rfl | rfl
 all_goals
  unfold calleeF
  rw[h1,h2]
  by_cases hk:S.kind≠3
  ·rw[if_pos hk]
  ·rw[if_neg hk];rfl
theorem around_g:Around (za0 p1 v1 b1 p2 v2 b2 p3 v3 b3 c1 d1 e1 c2 d2 e2 c3 d3 e3 l1 l2 l3) 0 (mG p1 v1 b1 c1 d1 e1 l1) [wP,wR] [wZs] cGH:=
 ⟨fun n hn=>by simp only[List.mem_cons,List.not_mem_nil,or_false] at hn;rcases hn with rfl | rfl<;>rfl,fun n hn=>by simp only[List.mem_cons,List.not_mem_nil,or_false] at hn;rcases hn with rfl;rfl,call_ok p1 v1 b1 p2 v2 b2 p3 v3 b3 c1 d1 e1 c2 d2 e2 c3 d3 e3 l1 l2 l3⟩
theorem around_h:Around (za0 p1 v1 b1 p2 v2 b2 p3 v3 b3 c1 d1 e1 c2 d2 e2 c3 d3 e3 l1 l2 l3) 1 (mH p2 v2 b2 c2 d2 e2 l2) [wP,wQ] [wZs] cGH:=
 ⟨fun n hn=>by simp only[List.mem_cons,List.not_mem_nil,or_false] at hn;rcases hn with rfl | rfl<;>rfl,fun n hn=>by simp only[List.mem_cons,List.not_mem_nil,or_false] at hn;rcases hn with rfl;rfl,call_ok p1 v1 b1 p2 v2 b2 p3 v3 b3 c1 d1 e1 c2 d2 e2 c3 d3 e3 l1 l2 l3⟩
theorem around_m:Around (za0 p1 v1 b1 p2 v2 b2 p3 v3 b3 c1 d1 e1 c2 d2 e2 c3 d3 e3 l1 l2 l3) 2 (mM p3 v3 b3 c3 d3 e3 l3) [wA,wB',wC,wD] [wXs,wYs] cGH:=
 ⟨fun n hn=>by simp only[List.mem_cons,List.not_mem_nil,or_false] at hn;rcases hn with rfl | rfl | rfl | rfl<;>rfl,fun n hn=>by simp only[List.mem_cons,List.not_mem_nil,or_false] at hn;rcases hn with rfl | rfl<;>rfl,call_ok p1 v1 b1 p2 v2 b2 p3 v3 b3 c1 d1 e1 c2 d2 e2 c3 d3 e3 l1 l2 l3⟩
variable {l1 l2 l3}
theorem chk_g {t:Int} (h:FitL [wP,wR] [wZs] cGH false t t l1) (x2 x3:List ST):zaQ (za0 p1 v1 b1 p2 v2 b2 p3 v3 b3 c1 d1 e1 c2 d2 e2 c3 d3 e3 l1 x2 x3) 0 (mG p1 v1 b1 c1 d1 e1 l1) false l1 []=(0,[]):=by
 have ht:tgSs l1=[]:=by rw[h.tg,zcM]
 rw[zdb (around_g ..) false l1 [] h.ok (Or.inl ht) (by rw[ht];exact List.nodup_nil) (by rw[ht];intro x hx;cases hx),ht];rfl
theorem chk_h {t:Int} (h:FitL [wP,wQ] [wZs] cGH false t t l2) (x1 x3:List ST):zaQ (za0 p1 v1 b1 p2 v2 b2 p3 v3 b3 c1 d1 e1 c2 d2 e2 c3 d3 e3 x1 l2 x3) 1 (mH p2 v2 b2 c2 d2 e2 l2) false l2 []=(0,[]):=by
 have ht:tgSs l2=[]:=by rw[h.tg,zcM]
 rw[zdb (around_h ..) false l2 [] h.ok (Or.inl ht) (by rw[ht];exact List.nodup_nil) (by rw[ht];intro x hx;cases hx),ht];rfl
theorem chk_m {t u:Int} (h:FitL [wA,wB',wC,wD] [wXs,wYs] cGH false t u l3) (x1 x2:List ST):zaQ (za0 p1 v1 b1 p2 v2 b2 p3 v3 b3 c1 d1 e1 c2 d2 e2 c3 d3 e3 x1 x2 l3) 2 (mM p3 v3 b3 c3 d3 e3 l3) false l3 []=(0,(upTo t u).reverse):=by
 rw[zdb (around_m ..) false l3 [] h.ok (Or.inr rfl) (by rw[h.tg];exact upTo_nodup _ _) (by intro x hx hs;cases hs),h.tg,List.append_nil]
theorem fn_body {l:List FT} {i:Nat} {F:FT} {seen:List Int} (h1:zcT F=false) (h2:repB (zaW F)=false):fnF l i F seen=zaQ l i F false F.body seen:=by
 unfold fnF;rw[h1,h2,if_neg (by decide),if_neg (by decide)]
variable (l1 l2 l3)
theorem whole_made (hr:(za0 p1 v1 b1 p2 v2 b2 p3 v3 b3 c1 d1 e1 c2 d2 e2 c3 d3 e3 l1 l2 l3).all FT.rightB=true) (hn:stsV (za0 p1 v1 b1 p2 v2 b2 p3 v3 b3 c1 d1 e1 c2 d2 e2 c3 d3 e3 l1 l2 l3)≤400):wholeF (za0 p1 v1 b1 p2 v2 b2 p3 v3 b3 c1 d1 e1 c2 d2 e2 c3 d3 e3 l1 l2 l3)=0:=by
 unfold wholeF
 rw[hr,if_neg (by decide),if_neg (by simp only[List.length_cons,List.length_nil];omega)]
 have h1:repB ((za0 p1 v1 b1 p2 v2 b2 p3 v3 b3 c1 d1 e1 c2 d2 e2 c3 d3 e3 l1 l2 l3).map (·.name))=false:=by show repB [wG,wH,wM]=false;kernel_rfl
 rw[h1,if_neg (by decide)]
 rfl
variable {l1 l2 l3}
theorem chk_made {t u:Int} (hr:(za0 p1 v1 b1 p2 v2 b2 p3 v3 b3 c1 d1 e1 c2 d2 e2 c3 d3 e3 l1 l2 l3).all FT.rightB=true) (hn:stsV (za0 p1 v1 b1 p2 v2 b2 p3 v3 b3 c1 d1 e1 c2 d2 e2 c3 d3 e3 l1 l2 l3)≤400)
  (h1:FitL [wP,wR] [wZs] cGH false t t l1) (h2:FitL [wP,wQ] [wZs] cGH false t t l2) (h3:FitL [wA,wB',wC,wD] [wXs,wYs] cGH false t u l3):
  zbV (za0 p1 v1 b1 p2 v2 b2 p3 v3 b3 c1 d1 e1 c2 d2 e2 c3 d3 e3 l1 l2 l3)=((0,(upTo t u).reverse),-1):=by
 have f1:fnF (za0 p1 v1 b1 p2 v2 b2 p3 v3 b3 c1 d1 e1 c2 d2 e2 c3 d3 e3 l1 l2 l3) 0 (mG p1 v1 b1 c1 d1 e1 l1) []=(0,[]):=by
  rw[fn_body (F:=mG p1 v1 b1 c1 d1 e1 l1) rfl (show repB [wP,wR,wZs]=false by kernel_rfl)];exact chk_g p1 v1 b1 p2 v2 b2 p3 v3 b3 c1 d1 e1 c2 d2 e2 c3 d3 e3 h1 l2 l3
 have f2:fnF (za0 p1 v1 b1 p2 v2 b2 p3 v3 b3 c1 d1 e1 c2 d2 e2 c3 d3 e3 l1 l2 l3) 1 (mH p2 v2 b2 c2 d2 e2 l2) []=(0,[]):=by
  rw[fn_body (F:=mH p2 v2 b2 c2 d2 e2 l2) rfl (show repB [wP,wQ,wZs]=false by kernel_rfl)];exact chk_h p1 v1 b1 p2 v2 b2 p3 v3 b3 c1 d1 e1 c2 d2 e2 c3 d3 e3 h2 l1 l3
 have f3:fnF (za0 p1 v1 b1 p2 v2 b2 p3 v3 b3 c1 d1 e1 c2 d2 e2 c3 d3 e3 l1 l2 l3) 2 (mM p3 v3 b3 c3 d3 e3 l3) []=(0,(upTo t u).reverse):=by
  rw[fn_body (F:=mM p3 v3 b3 c3 d3 e3 l3) rfl (show repB [wA,wB',wC,wD,wXs,wYs]=false by kernel_rfl)];exact chk_m p1 v1 b1 p2 v2 b2 p3 v3 b3 c1 d1 e1 c2 d2 e2 c3 d3 e3 h3 l1 l2
 unfold zbV
 rw[if_pos (whole_made _ _ _ _ _ _ _ _ _ _ _ _ _ _ _ _ _ _ _ _ _ hr hn),fnsF,f1,if_pos rfl,fnsF,f2,if_pos rfl,fnsF,f3,if_pos rfl,fnsF]
end
abbrev zdc:ST:=.mk 7 0 ⟨#[]⟩ ⟨#[]⟩ none 0 [] none 0 [] none 0 []
def wr (x:Bool) (l:List ST):List ST:=if x then l++[zdc] else l
theorem chk_cont (l:List FT) (i:Nat) (F:FT) (seen:List Int):chkS l i F false zdc seen=(8,seen):=by
 have h:askF l i F zdc false seen=8:=by
  unfold askF tagF jumpF
  rw[if_neg (by decide),if_pos ⟨Or.inr rfl,rfl⟩]
  rfl
 rw[chkS,h]
 rfl
theorem wr_chk {l:List FT} {i:Nat} {F:FT} {r:List ST} {seen S2:List Int} (x:Bool) (h:zaQ l i F false r seen=(0,S2)):zaQ l i F false (wr x r) seen=if x then (8,S2) else (0,S2):=by
 cases x
 ·exact h
 ·show zaQ l i F false (r++[zdc]) seen=(8,S2)
  rw[chkSs_append,h]
  unfold andThen
  rw[if_pos rfl,zaQ,chk_cont]
  rfl
section
variable (p1 v1 b1 p2 v2 b2 p3 v3 b3:Option Addr) (c1 d1 e1 c2 d2 e2 c3 d3 e3:Nat) {l1 l2 l3:List ST}
theorem where_made {t u:Int} (x y z:Bool) (hr:(za0 p1 v1 b1 p2 v2 b2 p3 v3 b3 c1 d1 e1 c2 d2 e2 c3 d3 e3 (wr x l1) (wr y l2) (wr z l3)).all FT.rightB=true) (hn:stsV (za0 p1 v1 b1 p2 v2 b2 p3 v3 b3 c1 d1 e1 c2 d2 e2 c3 d3 e3 (wr x l1) (wr y l2) (wr z l3))≤400)
  (h1:FitL [wP,wR] [wZs] cGH false t t l1) (h2:FitL [wP,wQ] [wZs] cGH false t t l2) (h3:FitL [wA,wB',wC,wD] [wXs,wYs] cGH false t u l3):
  chkF (za0 p1 v1 b1 p2 v2 b2 p3 v3 b3 c1 d1 e1 c2 d2 e2 c3 d3 e3 (wr x l1) (wr y l2) (wr z l3))=if x then (8,0) else if y then (8,1) else if z then (8,2) else (0,-1):=by
 have t1:tgSs l1=[]:=by rw[h1.tg,zcM]
 have t2:tgSs l2=[]:=by rw[h2.tg,zcM]
 have f1:fnF (za0 p1 v1 b1 p2 v2 b2 p3 v3 b3 c1 d1 e1 c2 d2 e2 c3 d3 e3 (wr x l1) (wr y l2) (wr z l3)) 0 (mG p1 v1 b1 c1 d1 e1 (wr x l1)) []=if x then (8,[]) else (0,[]):=by
  rw[fn_body (F:=mG p1 v1 b1 c1 d1 e1 (wr x l1)) rfl (show repB [wP,wR,wZs]=false by kernel_rfl)]
  refine wr_chk x ?_
  rw[zdb (around_g ..) false l1 [] h1.ok (Or.inl t1) (by rw[t1];exact List.nodup_nil) (by rw[t1];intro x hx;cases hx),t1];rfl
 have f2:fnF (za0 p1 v1 b1 p2 v2 b2 p3 v3 b3 c1 d1 e1 c2 d2 e2 c3 d3 e3 (wr x l1) (wr y l2) (wr z l3)) 1 (mH p2 v2 b2 c2 d2 e2 (wr y l2)) []=if y then (8,[]) else (0,[]):=by
  rw[fn_body (F:=mH p2 v2 b2 c2 d2 e2 (wr y l2)) rfl (show repB [wP,wQ,wZs]=false by kernel_rfl)]
  refine wr_chk y ?_
  rw[zdb (around_h ..) false l2 [] h2.ok (Or.inl t2) (by rw[t2];exact List.nodup_nil) (by rw[t2];intro x hx;cases hx),t2];rfl
 have f3:fnF (za0 p1 v1 b1 p2 v2 b2 p3 v3 b3 c1 d1 e1 c2 d2 e2 c3 d3 e3 (wr x l1) (wr y l2) (wr z l3)) 2 (mM p3 v3 b3 c3 d3 e3 (wr z l3)) []=if z then (8,(upTo t u).reverse) else (0,(upTo t u).reverse):=by
  rw[fn_body (F:=mM p3 v3 b3 c3 d3 e3 (wr z l3)) rfl (show repB [wA,wB',wC,wD,wXs,wYs]=false by kernel_rfl)]
  refine wr_chk z ?_
  rw[zdb (around_m ..) false l3 [] h3.ok (Or.inr rfl) (by rw[h3.tg];exact upTo_nodup _ _) (by intro x hx hs;cases hs),h3.tg,List.append_nil]
 unfold chkF zbV
 rw[if_pos (whole_made _ _ _ _ _ _ _ _ _ _ _ _ _ _ _ _ _ _ _ _ _ hr hn)]
 cases x
 ·replace f1:=f1.trans (show _=((0,[]):Nat×List Int) from rfl)
  rw[fnsF,f1,if_pos rfl]
  cases y
  ·replace f2:=f2.trans (show _=((0,[]):Nat×List Int) from rfl)
   rw[fnsF,f2,if_pos rfl]
   cases z
   ·replace f3:=f3.trans (show _=((0,(upTo t u).reverse):Nat×List Int) from rfl)
    rw[fnsF,f3,if_pos rfl,fnsF];rfl
   ·replace f3:=f3.trans (show _=((8,(upTo t u).reverse):Nat×List Int) from rfl)
    rw[fnsF,f3,if_neg (show ¬(8:Nat)=0 by decide)];rfl
  ·replace f2:=f2.trans (show _=((8,[]):Nat×List Int) from rfl)
   rw[fnsF,f2,if_neg (by decide)];rfl
 ·replace f1:=f1.trans (show _=((8,[]):Nat×List Int) from rfl)
  rw[fnsF,f1,if_neg (by decide)];rfl
theorem twice_made (x1 x2 x3:List ST) (hr:[mG p1 v1 b1 c1 d1 e1 x1,mH p2 v2 b2 c2 d2 e2 x2,⟨wG,p3,c3,[],v3,d3,[(wA,0),(wB',0),(wC,0),(wD,0),(wXs,3),(wYs,5)],b3,e3,x3⟩].all FT.rightB=true) (hn:cnts x1+(cnts x2+(cnts x3+0))≤400):
  chkF [mG p1 v1 b1 c1 d1 e1 x1,mH p2 v2 b2 c2 d2 e2 x2,⟨wG,p3,c3,[],v3,d3,[(wA,0),(wB',0),(wC,0),(wD,0),(wXs,3),(wYs,5)],b3,e3,x3⟩]=(6,-1):=by
 have hw:wholeF [mG p1 v1 b1 c1 d1 e1 x1,mH p2 v2 b2 c2 d2 e2 x2,⟨wG,p3,c3,[],v3,d3,[(wA,0),(wB',0),(wC,0),(wD,0),(wXs,3),(wYs,5)],b3,e3,x3⟩]=6:=by
  have h1:repB ([mG p1 v1 b1 c1 d1 e1 x1,mH p2 v2 b2 c2 d2 e2 x2,⟨wG,p3,c3,[],v3,d3,[(wA,0),(wB',0),(wC,0),(wD,0),(wXs,3),(wYs,5)],b3,e3,x3⟩].map (·.name))=true:=by show repB [wG,wH,wG]=true;kernel_rfl
  unfold wholeF
  rw[hr,if_neg (by decide),h1,if_neg (by simp only[List.length_cons,List.length_nil,stsV];omega),if_pos rfl]
 unfold chkF zbV
 rw[hw,if_neg (by decide)]
theorem tag_none {l:List FT} {i:Nat} {S:ST} {seen:List Int} (h:S.tag=0):tagF l i S seen=0:=by unfold tagF;rw[if_neg (by omega)]
end
end Go.Proofs.YtljbbhhiiiepcaaGreatDoor.Ck

namespace Go.Proofs.YtljbbhhiiiepcaaGreatDoor.Ck
open Go Go.RowKit Go.Proofs.YtljbbhhiiiepcaaGreatDoor
abbrev Nm:=List UInt8
def sizeVR (vs:List (Nm×Nat)) (nm:Nm):Option Nat:=match vs with
 | []=>none
 | d :: l=>if d.1=nm then some d.2 else sizeVR l nm
def sizeR (F:RF) (nm:Nm):Option Nat:=if nm∈F.params then some 0 else sizeVR F.vars nm
def zdy (F:RF) (nm:Nm) (arr:Bool):Nat:=match sizeR F nm with
 | none=>6
 | some s=>if decide (0 < s)=arr then 0 else 7
def zbO (F:RF):RE→Nat
 | .num _=>0
 | .var s=>zdy F s false
 | .idx s e=>orE (zdy F s true) (zbO F e)
 | .un _ e=>zbO F e
 | .bin _ a b=>orE (zbO F a) (zbO F b)
def placesR (F:RF) (l:List RE):Nat:=match l with
 | []=>0
 | e :: l=>orE (zbO F e) (placesR F l)
def findR (l:List RF) (nm:Nm):Nat:=match l with
 | []=>0
 | F :: l=>if F.name=nm then 0 else findR l nm+1
def calleeR (l:List RF) (f:Nm) (n:Nat):Nat:=
 if l.length≤findR l f then 6
 else if findR l f+1=l.length∨((l.map fun F=>F.params.length).getD (findR l f) 0)≠n then 10 else 0
def tagR (l:List RF) (i t:Nat) (seen:List Nat):Nat:=if 0 < t then (if i+1=l.length∧t∉seen then 0 else 9) else 0
def seenR (t:Nat) (seen:List Nat):List Nat:=if 0 < t then t :: seen else seen
def askR (l:List RF) (i:Nat) (F:RF) (looped:Bool) (seen:List Nat):RS→Nat
 | .asg t x e=>orE (tagR l i t seen) (orE (zdy F x false) (zbO F e))
 | .sto t x a e=>orE (tagR l i t seen) (orE (zdy F x true) (orE (zbO F a) (zbO F e)))
 | .rd t x=>orE (tagR l i t seen) (zdy F x false)
 | .call t x f es=>orE (tagR l i t seen) (orE (zdy F x false) (orE (calleeR l f es.length) (placesR F es)))
 | .ife t c _ _=>orE (tagR l i t seen) (zbO F c)
 | .whl t c _=>orE (tagR l i t seen) (zbO F c)
 | .brk t=>orE (tagR l i t seen) (if looped then 0 else 8)
 | .cnt t=>orE (tagR l i t seen) (if looped then 0 else 8)
 | .ret t e=>orE (tagR l i t seen) (zbO F e)
 | .ass t e=>orE (tagR l i t seen) (zbO F e)
def andR (r:Nat×List Nat) (f:List Nat→Nat×List Nat):Nat×List Nat:=if r.1=0 then f r.2 else r
mutual
def stmtR (l:List RF) (i:Nat) (F:RF) (looped:Bool) (seen:List Nat):RS→Nat×List Nat
 | .asg t x e=>(askR l i F looped seen (.asg t x e),seenR t seen)
 | .sto t x a e=>(askR l i F looped seen (.sto t x a e),seenR t seen)
 | .rd t x=>(askR l i F looped seen (.rd t x),seenR t seen)
 | .call t x f es=>(askR l i F looped seen (.call t x f es),seenR t seen)
 | .ife t c b e=>andR (andR (orE (tagR l i t seen) (zbO F c),seenR t seen) (fun s=>stmtsR l i F looped s b)) (fun s=>stmtsR l i F looped s e)
 | .whl t c b=>andR (orE (tagR l i t seen) (zbO F c),seenR t seen) (fun s=>stmtsR l i F true s b)
 | .brk t=>(askR l i F looped seen (.brk t),seenR t seen)
 | .cnt t=>(askR l i F looped seen (.cnt t),seenR t seen)
 | .ret t e=>(askR l i F looped seen (.ret t e),seenR t seen)
 | .ass t e=>(askR l i F looped seen (.ass t e),seenR t seen)
def stmtsR (l:List RF) (i:Nat) (F:RF) (looped:Bool) (seen:List Nat):List RS→Nat×List Nat
 | []=>(0,seen)
 | s :: r=>andR (stmtR l i F looped seen s) (fun x=>stmtsR l i F looped x r)
end
def largeR (F:RF):Bool:=decide (24 < F.params.length+F.vars.length)||F.vars.any fun d=>decide (64 < d.2)
def fnR (l:List RF) (i:Nat) (F:RF) (seen:List Nat):Nat×List Nat:=
 if largeR F then (5,seen) else if decide (F.params++F.vars.map (·.1)).Nodup=false then (6,seen) else stmtsR l i F false seen F.body
mutual
def cntS:RS→Nat
 | .ife _ _ b e=>1+(cntSs b+cntSs e)
 | .whl _ _ b=>1+cntSs b
 | _=>1
def cntSs:List RS→Nat
 | []=>0
 | s :: r=>cntS s+cntSs r
end
def stsR (l:List RF):Nat:=match l with
 | []=>0
 | F :: l=>cntSs F.body+stsR l
def mainR (l:List RF):Bool:=match l with
 | []=>false
 | [F]=>decide (F.name=[109,97,105,110])&&F.params.isEmpty
 | _ :: l=>mainR l
def wholeR (l:List RF):Nat:=
 if l.length=0∨16 < l.length∨400 < stsR l then 5
 else if decide (l.map (·.name)).Nodup=false then 6
 else if mainR l then 0 else 10
def fnsR (l:List RF):Nat→List RF→List Nat→(Nat×List Nat)×Int
 | _,[],seen=>((0,seen),-1)
 | n,F :: r,seen=>if (fnR l n F seen).1=0 then fnsR l (n+1) r (fnR l n F seen).2 else (fnR l n F seen,(n:Int))
def zdd (l:List RF):(Nat×List Nat)×Int:=if wholeR l=0 then fnsR l 0 l [] else ((wholeR l,[]),-1)
/- The plain functions tell of right trees what the others tell. -/
theorem zdz {a b:ByteArray}:a.data.toList=b.data.toList↔a=b:=by
 constructor
 ·intro h
  cases a with | mk x=>cases b with | mk y =>
   congr 1
   exact Array.toList_inj.1 h
 ·rintro rfl;rfl
theorem mem_toL {a:ByteArray} {l:List ByteArray}:a.data.toList∈l.map (fun s=>s.data.toList)↔a∈l:=by
 constructor
 ·intro h
  obtain⟨b,hb,e⟩:=List.mem_map.1 h
  rw[←zdz.1 e];exact hb
 ·intro h;exact List.mem_map.2 ⟨a,h,rfl⟩
theorem sizeV_rf {vs:List (ByteArray×Int)} (h:vs.all zcC=true) (nm:ByteArray):sizeV vs nm=(sizeVR (vs.map fun d=>(d.1.data.toList,d.2.toNat)) nm.data.toList).map Int.ofNat:=by
 induction vs with
 | nil=>rfl
 | cons d l ih =>
  rw[List.all_cons,Bool.and_eq_true] at h
  rw[sizeV,List.map_cons,sizeVR]
  by_cases e:d.1=nm
  ·rw[if_pos e,if_pos (zdz.2 e)]
   have h0:=h.1
   unfold zcC at h0
   rw[Bool.and_eq_true,decide_eq_true_eq] at h0
   rw[Option.map_some]
   congr 1
   show d.2=((d.2.toNat:Nat):Int)
   omega
  ·rw[if_neg e,if_neg (fun h=>e (zdz.1 h)),ih h.2]
theorem zcr {F:FT} (h:F.rightB=true):F.vars.all zcC=true∧zak F.body=true:=by
 unfold FT.rightB at h
 simp only[Bool.and_eq_true] at h
 exact⟨h.2.2.1,h.2.2.2⟩
theorem size_rf {F:FT} (h:F.rightB=true) (nm:ByteArray):zdx F nm=(sizeR F.rf nm.data.toList).map Int.ofNat:=by
 unfold zdx sizeR FT.rf
 by_cases hm:nm∈F.params
 ·rw[if_pos hm,if_pos (mem_toL.2 hm)];rfl
 ·rw[if_neg hm,if_neg (fun h=>hm (mem_toL.1 h))]
  exact sizeV_rf (zcr h).1 nm
theorem named_rf {F:FT} (h:F.rightB=true) (nm:ByteArray) (b:Bool):namedF F nm b=zdy F.rf nm.data.toList b:=by
 have e:zdx F nm=(sizeR F.rf nm.data.toList).map Int.ofNat:=by
  unfold zdx sizeR FT.rf
  by_cases hm:nm∈F.params
  ·rw[if_pos hm,if_pos (mem_toL.2 hm)];rfl
  ·rw[if_neg hm,if_neg (fun h=>hm (mem_toL.1 h))]
   exact sizeV_rf (zcr h).1 nm
 unfold namedF zdy
 rw[e]
 cases sizeR F.rf nm.data.toList with
 | none=>rfl
 | some n =>
  show(if decide (0 < (n:Int))=b then 0 else 7)=_
  have:decide (0 < (n:Int))=decide (0 < n):=by simp
  rw[this]
theorem place_rf {F:FT} (hF:F.rightB=true):∀(n:Nat) (T:ET),T.sz≤n→T.rightB=true→placeE F T=zbO F.rf T.re:=by
 intro n
 induction n with
 | zero=>intro T h;cases T;simp[ET.sz] at h
 | succ n ih =>
  intro T hn h
  rcases zc0 h with ⟨n',a',c',rfl⟩ | ⟨m',a',c',hm,rfl⟩ | ⟨m',a',c',x,hm,hx,rfl⟩ | ⟨o',a',c',x,ho,hx,rfl⟩ | ⟨o',a',c',x,y,ho,hx,hy,rfl⟩
  ·rw[placeE,placeEs];rfl
  ·rw[placeE,placeEs,zaz]
   exact named_rf hF _ _
  ·simp only[ET.sz,szs] at hn
   rw[placeE,placeEs,placeEs,zaz,ih x (by omega) hx]
   show orE (namedF F m' true) _=orE (zdy F.rf _ true) _
   rw[named_rf hF]
  ·simp only[ET.sz,szs] at hn
   rw[placeE,placeEs,placeEs,zaz,ih x (by omega) hx];rfl
  ·simp only[ET.sz,szs] at hn
   rw[placeE,placeEs,placeEs,placeEs,zaz,ih x (by omega) hx,ih y (by omega) hy];rfl
theorem zb6 {F:FT} (hF:F.rightB=true):∀(l:List ET),zam l=true→placeEs F l=placesR F.rf (res l)
 | [],_=>rfl
 | T :: l,h=>by
  rw[zam,Bool.and_eq_true] at h
  rw[placeEs,place_rf hF T.sz T (Nat.le_refl _) h.1,zb6 hF l h.2];rfl
theorem find_rf (l:List FT) (nm:ByteArray):findN l nm=findR (l.map FT.rf) nm.data.toList:=by
 induction l with
 | nil=>rfl
 | cons F l ih =>
  rw[findN,List.map_cons,findR,ih]
  have:(F.name=nm)=(F.rf.name=nm.data.toList):=propext ⟨fun h=>zdz.2 h,fun h=>zdz.1 h⟩
  simp only[this]
theorem callee_rf (l:List FT) {S:ST} (hk:S.kind=3):calleeF l S=calleeR (l.map FT.rf) S.func.data.toList S.en:=by
 unfold calleeF calleeR
 rw[if_neg (by omega),find_rf,List.length_map,List.map_map]
 have:((fun F:RF=>F.params.length) ∘ FT.rf)=fun F=>F.params.length:=by funext F;simp[FT.rf]
 rw[this]
theorem zbN (l:List FT) {S:ST} (hk:S.kind≠3):calleeF l S=0:=by unfold calleeF;rw[if_pos hk]
def natS (seen:List Int):List Nat:=seen.map Int.toNat
theorem mem_natS {t:Int} {seen:List Int} (ht:0≤t) (hs:∀x∈seen,0≤x):t.toNat∈natS seen↔t∈seen:=by
 unfold natS
 constructor
 ·intro h
  obtain⟨x,hx,e⟩:=List.mem_map.1 h
  have:=hs x hx
  obtain rfl:x=t:=by omega
  exact hx
 ·intro h;exact List.mem_map.2 ⟨t,h,rfl⟩
theorem tag_rf (l:List FT) (i:Nat) {S:ST} {seen:List Int} (ht:0≤S.tag) (hs:∀x∈seen,0≤x):tagF l i S seen=tagR (l.map FT.rf) i S.tag.toNat (natS seen):=by
 unfold tagF tagR
 rw[List.length_map]
 have e1:(0 < S.tag)=(0 < S.tag.toNat):=propext (by omega)
 have e2:(S.tag∉seen)=(S.tag.toNat∉natS seen):=propext (not_congr (mem_natS ht hs).symm)
 simp only[e1,e2]
theorem seen_rf {S:ST} {seen:List Int} (ht:0≤S.tag):natS (zbu S seen)=seenR S.tag.toNat (natS seen):=by
 unfold zbu seenR
 by_cases h:0 < S.tag
 ·rw[if_pos h,if_pos (by omega)];rfl
 ·rw[if_neg h,if_neg (by omega)]
theorem seen_pos {S:ST} {seen:List Int} (ht:0≤S.tag) (hs:∀x∈seen,0≤x):∀x∈zbu S seen,0≤x:=by
 unfold zbu
 split
 ·intro x hx
  rcases List.mem_cons.1 hx with rfl | h
  ·exact ht
  ·exact hs x h
 ·exact hs
def Like (r:Nat×List Int) (q:Nat×List Nat):Prop:=r.1=q.1∧natS r.2=q.2∧∀x∈r.2,0≤x
theorem zek {r:Nat×List Int} {q:Nat×List Nat} {f:List Int→Nat×List Int} {g:List Nat→Nat×List Nat} (h:Like r q) (k:∀s,(∀x∈s,0≤x)→Like (f s) (g (natS s))):Like (andThen r f) (andR q g):=by
 unfold andThen andR
 rw[←h.1]
 split
 ·rw[←h.2.1];exact k _ h.2.2
 ·exact h
theorem then_nil (r:Nat×List Int) (l:List FT) (i:Nat) (F:FT) (b:Bool):andThen r (zaQ l i F b [])=r:=by
 unfold andThen
 split
 ·rename_i h
  rw[zaQ]
  obtain⟨a,b⟩:=r
  simp only at h
  rw[h]
 ·rfl
theorem nm_nil {n:ByteArray} (h:nmB n=true):n.data.toList≠[]:=by
 intro e
 rw[show n={data:=#[]} from zdz.1 e] at h
 revert h
 decide
theorem zdA {l:List FT} {i:Nat} {F:FT} {S:ST} {looped:Bool} {seen:List Int} {q:Nat} (ht:0≤S.tag) (hs:∀x∈seen,0≤x) (hb:S.body=[]) (he:S.els=[])
  (h:orE (jumpF S looped) (orE (targetF F S) (orE (calleeF l S) (placeEs F (ST.es S))))=q):
  Like (chkS l i F looped S seen) (orE (tagR (l.map FT.rf) i S.tag.toNat (natS seen)) q,seenR S.tag.toNat (natS seen)):=by
 rw[chkS_eq,hb,he,then_nil,then_nil]
 refine⟨?_,seen_rf ht,seen_pos ht hs⟩
 show askF l i F S looped seen=_
 unfold askF
 rw[h,tag_rf l i ht hs]
theorem zbW {F:FT} {S:ST} (h:S.name={data:=#[]}):targetF F S=0:=by
 unfold targetF;rw[h];rfl
theorem zel {F:FT} (hF:F.rightB=true) {S:ST} (h:nmB S.name=true):targetF F S=zdy F.rf S.name.data.toList (decide (S.kind=1)):=by
 unfold targetF;rw[if_neg (nm_nil h),named_rf hF]
theorem zb7 {S:ST} {looped:Bool} (h:¬(S.kind=6∨S.kind=7)):jumpF S looped=0:=by
 unfold jumpF;rw[if_neg (fun k=>h k.1)]
theorem jump_is {S:ST} {looped:Bool} (h:S.kind=6∨S.kind=7):jumpF S looped=if looped then 0 else 8:=by
 unfold jumpF
 cases looped
 ·rw[if_pos ⟨h,rfl⟩];rfl
 ·rw[if_neg (fun k=>by cases k.2)];rfl
theorem stmts_rf {l:List FT} {i:Nat} {F:FT} (hF:F.rightB=true):∀(n:Nat) (L:List ST),Szs L < n→zak L=true→∀(looped:Bool) (seen:List Int),(∀x∈seen,0≤x) →
  Like (zaQ l i F looped L seen) (stmtsR (l.map FT.rf) i F.rf looped (natS seen) (rss L)):=by
 intro n
 induction n with
 | zero=>intro L h;omega
 | succ n ih =>
  intro L
  induction L with
  | nil =>
   intro _ _ looped seen hs
   rw[zaQ,rss,stmtsR]
   exact⟨rfl,rfl,hs⟩
  | cons S L ihL =>
   intro hn hr looped seen hs
   rw[zak,Bool.and_eq_true] at hr
   rw[Szs] at hn
   have hsz:=body_sz S
   rw[zaQ,rss,stmtsR]
   refine zek ?_ (fun s hs=>ihL (by omega) hr.2 looped s hs)
   ·obtain⟨t,ht0,ht1,hc⟩:=zct hr.1
    rcases hc with ⟨m,ea,ec,e,ba,bc,la,lc,hm,he,rfl⟩ | ⟨m,ea,ec,e,e2,ba,bc,la,lc,hm,he,he2,rfl⟩ | ⟨m,ea,ec,ba,bc,la,lc,hm,rfl⟩ | ⟨m,f,ea,ec,e,ba,bc,la,lc,hm,hf,he,rfl⟩ | ⟨ea,ec,e,ba,bc,b,la,lc,el,he,hb,hl,rfl⟩ | ⟨ea,ec,e,ba,bc,b,la,lc,he,hb,rfl⟩ | ⟨ea,ec,ba,bc,la,lc,rfl⟩ | ⟨ea,ec,ba,bc,la,lc,rfl⟩ | ⟨ea,ec,e,ba,bc,la,lc,he,rfl⟩ | ⟨ea,ec,e,ba,bc,la,lc,he,rfl⟩
    ·refine zdA ht0 hs rfl rfl ?_
     rw[zb7 (by simp[ST.kind]),zel hF (by exact hm),zbN _ (by simp[ST.kind])]
     show orE 0 (orE _ (orE 0 (placeEs F [e])))=_
     rw[zb6 hF [e] (by simp[zam,he])]
     show orE _ (orE (zbO F.rf e.re) 0)=_
     rw[zaz];rfl
    ·refine zdA ht0 hs rfl rfl ?_
     rw[zb7 (by simp[ST.kind]),zel hF (by exact hm),zbN _ (by simp[ST.kind])]
     show orE 0 (orE _ (orE 0 (placeEs F [e,e2])))=_
     rw[zb6 hF [e,e2] (by simp[zam,he,he2])]
     show orE _ (orE (zbO F.rf e.re) (orE (zbO F.rf e2.re) 0))=_
     rw[zaz];rfl
    ·refine zdA ht0 hs rfl rfl ?_
     rw[zb7 (by simp[ST.kind]),zel hF (by exact hm),zbN _ (by simp[ST.kind])]
     show orE 0 (orE _ (orE 0 (placeEs F [])))=_
     exact zaz _
    ·refine zdA ht0 hs rfl rfl ?_
     rw[zb7 (by simp[ST.kind]),zel hF (by exact hm),callee_rf _ rfl]
     show orE 0 (orE _ (orE _ (placeEs F e)))=_
     rw[zb6 hF e he]
     show orE _ (orE (calleeR _ _ e.length) _)=orE _ (orE (calleeR _ _ (res e).length) _)
     unfold res
     rw[List.length_map];rfl
    ·rw[chkS_eq]
     have hw:zap looped (ST.mk 4 t {data:=#[]} {data:=#[]} ea ec [e] ba bc b la lc el)=looped:=by simp[zap,ST.kind]
     rw[hw]
     refine zek (zek ?_ (fun s hs=>ih b (by have:=hsz.1;simp only[ST.body] at this;omega) hb looped s hs)) (fun s hs=>ih el (by have:=hsz.2;simp only[ST.els] at this;omega) hl looped s hs)
     refine⟨?_,seen_rf (by exact ht0),seen_pos (by exact ht0) hs⟩
     show askF l i F _ looped seen=_
     unfold askF
     rw[tag_rf l i (by exact ht0) hs,zb7 (by simp[ST.kind]),zbW rfl,zbN _ (by simp[ST.kind])]
     show orE _ (placeEs F [e])=_
     rw[zb6 hF [e] (by simp[zam,he])]
     exact congrArg (orE _) (zaz _)
    ·rw[chkS_eq]
     have hw:zap looped (ST.mk 5 t {data:=#[]} {data:=#[]} ea ec [e] ba bc b la lc [])=true:=by simp[zap,ST.kind]
     rw[hw]
     show Like (andThen _ (zaQ l i F true [])) _
     rw[then_nil]
     refine zek ?_ (fun s hs=>ih b (by have:=hsz.1;simp only[ST.body] at this;omega) hb true s hs)
     refine⟨?_,seen_rf (by exact ht0),seen_pos (by exact ht0) hs⟩
     show askF l i F _ looped seen=_
     unfold askF
     rw[tag_rf l i (by exact ht0) hs,zb7 (by simp[ST.kind]),zbW rfl,zbN _ (by simp[ST.kind])]
     show orE _ (placeEs F [e])=_
     rw[zb6 hF [e] (by simp[zam,he])]
     exact congrArg (orE _) (zaz _)
    ·refine zdA ht0 hs rfl rfl ?_
     rw[jump_is (by simp[ST.kind]),zbW rfl,zbN _ (by simp[ST.kind])]
     exact zaz _
    ·refine zdA ht0 hs rfl rfl ?_
     rw[jump_is (by simp[ST.kind]),zbW rfl,zbN _ (by simp[ST.kind])]
     exact zaz _
    ·refine zdA ht0 hs rfl rfl ?_
     rw[zb7 (by simp[ST.kind]),zbW rfl,zbN _ (by simp[ST.kind])]
     show placeEs F [e]=_
     rw[zb6 hF [e] (by simp[zam,he])]
     exact zaz _
    ·refine zdA ht0 hs rfl rfl ?_
     rw[zb7 (by simp[ST.kind]),zbW rfl,zbN _ (by simp[ST.kind])]
     show placeEs F [e]=_
     rw[zb6 hF [e] (by simp[zam,he])]
     exact zaz _
/- Functions and programs. -/
theorem names_rf (l:List ByteArray):(l.map fun s=>s.data.toList).Nodup↔l.Nodup:=by
 induction l with
 | nil=>simp
 | cons a l ih =>
  rw[List.map_cons,List.nodup_cons,List.nodup_cons,ih,mem_toL]
theorem rep_rf (l:List ByteArray):repB l=true↔decide (l.map fun s=>s.data.toList).Nodup=false:=by
 unfold repB
 by_cases h:l.Nodup
 ·have:=(names_rf l).2 h;simp[h,this]
 ·have e:decide (l.map fun s=>s.data.toList).Nodup=false:=decide_eq_false (fun k=>h ((names_rf l).1 k))
  rw[e,decide_eq_false h];simp
theorem large_rf {F:FT} (h:F.rightB=true):zcT F=largeR F.rf:=by
 unfold zcT largeR FT.rf
 rw[List.length_map,List.length_map,List.any_map]
 congr 1
 have hv:=(zcr h).1
 generalize F.vars=l at hv
 induction l with
 | nil=>rfl
 | cons d l ih =>
  rw[List.all_cons,Bool.and_eq_true] at hv
  rw[List.any_cons,List.any_cons,ih hv.2]
  congr 1
  have h0:=hv.1
  unfold zcC at h0
  rw[Bool.and_eq_true,decide_eq_true_eq] at h0
  simp only[Function.comp]
  have:(64 < d.2)=(64 < d.2.toNat):=propext (by omega)
  simp only[this]
theorem fn_rf {l:List FT} {i:Nat} {F:FT} (hF:F.rightB=true) {seen:List Int} (hs:∀x∈seen,0≤x):Like (fnF l i F seen) (fnR (l.map FT.rf) i F.rf (natS seen)):=by
 unfold fnF fnR
 rw[large_rf hF]
 split
 ·exact⟨rfl,rfl,hs⟩
 ·have e:F.rf.params++F.rf.vars.map (·.1)=(zaW F).map fun s=>s.data.toList:=by
   unfold zaW FT.rf
   rw[List.map_append,List.map_map,List.map_map];rfl
  rw[e]
  by_cases h:repB (zaW F)=true
  ·rw[if_pos h,if_pos ((rep_rf _).1 h)];exact⟨rfl,rfl,hs⟩
  ·rw[if_neg h,if_neg (fun k=>h ((rep_rf _).2 k))]
   exact stmts_rf hF _ _ (Nat.lt_succ_self _) (zcr hF).2 false seen hs
theorem cnt_rf:∀(n:Nat) (L:List ST),Szs L < n→zak L=true→cnts L=cntSs (rss L):=by
 intro n
 induction n with
 | zero=>intro L h;omega
 | succ n ih =>
  intro L
  induction L with
  | nil=>intros;rw[cnts,rss,cntSs]
  | cons S L ihL =>
   intro hn hr
   rw[zak,Bool.and_eq_true] at hr
   rw[Szs] at hn
   have hsz:=body_sz S
   rw[cnts,rss,cntSs,ihL (by omega) hr.2]
   congr 1
   obtain⟨t,ht0,ht1,hc⟩:=zct hr.1
   rcases hc with ⟨m,ea,ec,e,ba,bc,la,lc,hm,he,rfl⟩ | ⟨m,ea,ec,e,e2,ba,bc,la,lc,hm,he,he2,rfl⟩ | ⟨m,ea,ec,ba,bc,la,lc,hm,rfl⟩ | ⟨m,f,ea,ec,e,ba,bc,la,lc,hm,hf,he,rfl⟩ | ⟨ea,ec,e,ba,bc,b,la,lc,el,he,hb,hl,rfl⟩ | ⟨ea,ec,e,ba,bc,b,la,lc,he,hb,rfl⟩ | ⟨ea,ec,ba,bc,la,lc,rfl⟩ | ⟨ea,ec,ba,bc,la,lc,rfl⟩ | ⟨ea,ec,e,ba,bc,la,lc,he,rfl⟩ | ⟨ea,ec,e,ba,bc,la,lc,he,rfl⟩
   ·rw[ST.cnt];rfl
   ·rw[ST.cnt];rfl
   ·rw[ST.cnt];rfl
   ·rw[ST.cnt];rfl
   ·rw[ST.cnt,ih b (by have:=hsz.1;simp only[ST.body] at this;omega) hb,ih el (by have:=hsz.2;simp only[ST.els] at this;omega) hl];rfl
   ·rw[ST.cnt,ih b (by have:=hsz.1;simp only[ST.body] at this;omega) hb];rfl
   all_goals (rw[ST.cnt];rfl)
theorem sts_rf {l:List FT} (h:l.all FT.rightB=true):stsV l=stsR (l.map FT.rf):=by
 induction l with
 | nil=>rfl
 | cons F l ih =>
  rw[List.all_cons,Bool.and_eq_true] at h
  rw[stsV,List.map_cons,stsR,ih h.2,cnt_rf _ _ (Nat.lt_succ_self _) (zcr h.1).2];rfl
theorem main_rf (l:List FT):mainB l=mainR (l.map FT.rf):=by
 induction l with
 | nil=>rfl
 | cons F l ih =>
  cases l with
  | nil =>
   show(decide (F.name={data:=#[109,97,105,110]})&&F.params.isEmpty)=(decide (F.name.data.toList=[109,97,105,110])&&(F.params.map fun s=>s.data.toList).isEmpty)
   have:(F.name={data:=#[109,97,105,110]})=(F.name.data.toList=[109,97,105,110]):=propext ⟨fun h=>by rw[h],fun h=>zdz.1 h⟩
   simp only[this]
   cases F.params<;>rfl
  | cons G l=>exact ih
theorem whole_rf {l:List FT} (h:l.all FT.rightB=true):wholeF l=wholeR (l.map FT.rf):=by
 unfold wholeF wholeR
 rw[if_neg (by rw[h];simp),sts_rf h,List.length_map,main_rf]
 have e:(l.map FT.rf).map (·.name)=(l.map (·.name)).map fun s=>s.data.toList:=by rw[List.map_map,List.map_map];rfl
 rw[e]
 split
 ·rfl
 ·by_cases k:repB (l.map (·.name))=true
  ·rw[if_pos k,if_pos ((rep_rf _).1 k)]
  ·rw[if_neg k,if_neg (fun k'=>k ((rep_rf _).2 k'))]
theorem fns_rf (l:List FT):∀(r:List FT) (n:Nat) (seen:List Int),r.all FT.rightB=true→(∀x∈seen,0≤x)→Like (fnsF l n r seen).1 (fnsR (l.map FT.rf) n (r.map FT.rf) (natS seen)).1∧(fnsF l n r seen).2=(fnsR (l.map FT.rf) n (r.map FT.rf) (natS seen)).2
 | [],n,seen,_,hs=>⟨⟨rfl,rfl,hs⟩,rfl⟩
 | F :: r,n,seen,h,hs=>by
  rw[List.all_cons,Bool.and_eq_true] at h
  have hf:=fn_rf (l:=l) (i:=n) h.1 hs
  rw[fnsF,List.map_cons,fnsR,←hf.1]
  split
  ·rw[←hf.2.1]
   exact fns_rf l r (n+1) _ h.2 hf.2.2
  ·exact⟨hf,rfl⟩
theorem prog_rf {l:List FT} (h:l.all FT.rightB=true):Like (zbV l).1 (zdd (l.map FT.rf)).1∧(zbV l).2=(zdd (l.map FT.rf)).2:=by
 unfold zbV zdd
 rw[←whole_rf h]
 split
 ·exact fns_rf l l 0 [] h (fun x hx=>by cases hx)
 ·exact⟨⟨rfl,rfl,fun x hx=>by cases hx⟩,rfl⟩
theorem chk_rf {l:List FT} (h:l.all FT.rightB=true):chkF l=((zdd (l.map FT.rf)).1.1,(zdd (l.map FT.rf)).2):=by
 have:=prog_rf h
 unfold chkF
 rw[this.2,this.1.1]
end Go.Proofs.YtljbbhhiiiepcaaGreatDoor.Ck
