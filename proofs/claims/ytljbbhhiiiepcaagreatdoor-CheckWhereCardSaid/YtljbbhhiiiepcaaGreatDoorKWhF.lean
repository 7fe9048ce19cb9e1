/- What the walk of CheckWhere is told: three functions, each of which may get one statement more. -/
import Derived.Test.YtljbbhhiiiepcaaGreatDoorKPlain
import Derived.Test.YtljbbhhiiiepcaaGreatDoorKProg
import Derived.Test.YtljbbhhiiiepcaaGreatDoorTCodeP
set_option linter.unusedSimpArgs false
set_option linter.unusedVariables false
set_option maxHeartbeats 8000000
set_option maxRecDepth 100000
namespace Go.Proofs.YtljbbhhiiiepcaaGreatDoor.Ck
open Go Go.RowKit Go.Proofs.YtljbbhhiiiepcaaGreatDoor
theorem hide_heap {N b:Nat} (w:World) (h:b≠N):(hide (some N) w).heap[b]?=w.heap[b]?:=by
 have hne:¬N=b:=fun e=>h e.symm
 simp[hide,Array.getElem?_modify,hne]
structure Wh (w:World) (N:Nat) (l:List FT):Prop where
 row:∃cs,w.heap[N]?=some (.cells cs 47 (0,0))∧∀(i:Nat) (hi:i < l.length) (j:Nat) (v:Value),l[i].cells[j]?=some v→cs[i*4+j]?=some v
 fs:∀K∈l,K.In (hide (some N) w) 0
theorem Wh.of {w:World} {B N:Nat} {l:List FT} (h:FsIn w B (some ⟨N,0,none⟩) l) (g:Apart w B N l):Wh w N l:=by
 obtain⟨⟨cs,hcs⟩,hK⟩:=g
 refine⟨⟨cs,hcs,fun i hi j v hj=>?_⟩,fun K hm=>(hK K hm).mono (Nat.zero_le _)⟩
 obtain⟨b,o,e,-,hc⟩:=h.row i hi
 simp only[Option.some.injEq,Addr.mk.injEq,and_true] at e
 obtain⟨rfl,rfl⟩:=e
 have h1:=hc j v hj
 rw[Nat.zero_add] at h1
 simpa[World.cell?,hcs] using h1
theorem Wh.fsIn {w:World} {N:Nat} {l:List FT} (h:Wh w N l) (hl:l.length≤9):FsIn w 0 (some ⟨N,0,none⟩) l:=by
 obtain⟨cs,hcs,hc⟩:=h.row
 refine⟨by omega,fun i hi=>⟨N,0,rfl,Nat.zero_le _,fun j v hj=>zab hcs (by rw[Nat.zero_add];exact hc i hi j v hj)⟩,fun i hi=>(h.fs _ (List.getElem_mem hi)).keep fun p v _ hc=>(zav.1 hc).2⟩
theorem Wh.on {w w':World} {N:Nat} {l:List FT} (h:Wh w N l) (hb:Below w.heap.size w w'):Wh w' N l:=by
 obtain⟨cs,hcs,hc⟩:=h.row
 refine⟨⟨cs,(hb.block N (lt_of_block hcs)).trans hcs,hc⟩,fun K hK=>(h.fs K hK).keep fun p v _ hc=>?_⟩
 rw[zav] at hc ⊢
 exact⟨hc.1,(World.cell?_of_block (hb.block _ (World.block_lt_of_cell? _ _ hc.2))).trans hc.2⟩
theorem Wh.upd {w:World} {N:Nat} {l:List FT} (h:Wh w N l) {i j:Nat} (hi:i < l.length) (hj:j < 4) (v:Value) {K:FT} (hK:∀(k:Nat) (u:Value),K.cells[k]?=some u→(k=j∧u=v)∨(k≠j∧l[i].cells[k]?=some u)) (hin:K.In (hide (some N) w) 0):
  Wh (w.setCell ⟨N,i*4+j,none⟩ v) N (l.set i K):=by
 obtain⟨cs,hcs,hc⟩:=h.row
 have k4:∀(F:FT) (k:Nat) (u:Value),F.cells[k]?=some u→k < 4:=fun F k u hu=>by
  rcases Nat.lt_or_ge k 4 with h2 | h2
  ·exact h2
  ·rw[Array.getElem?_eq_none (by simpa[FT.cells] using h2)] at hu;cases hu
 have hh:∀(F:FT),F.In (hide (some N) w) 0→F.In (hide (some N) (w.setCell ⟨N,i*4+j,none⟩ v)) 0:=fun F hF=>hF.keep fun p u _ hu=>by
  rw[zav] at hu ⊢
  refine⟨hu.1,(World.cell?_of_block (Below.heap_setCell _ _ _ _ (fun e=>hu.1 (by rw[e])))).trans hu.2⟩
 refine⟨⟨_,zaH _ hcs,fun a ha b u hu=>?_⟩,fun F hF=>?_⟩
 ·have hb:=k4 _ _ _ hu
  rw[List.length_set] at ha
  by_cases e:i=a
  ·subst e
   rw[List.getElem_set_self] at hu
   rcases hK b u hu with ⟨rfl,rfl⟩ | ⟨hne,hu'⟩
   ·have hz:∃z,l[i].cells[b]?=some z:=by
     have:b < l[i].cells.size:=by simpa[FT.cells] using hb
     exact⟨_,Array.getElem?_eq_getElem this⟩
    obtain⟨z,hz⟩:=hz
    have h1:=hc i hi b z hz
    rw[Array.getElem?_setIfInBounds,if_pos rfl,if_pos]
    rcases Nat.lt_or_ge (i*4+b) cs.size with h2 | h2
    ·exact h2
    ·rw[Array.getElem?_eq_none h2] at h1;cases h1
   ·rw[Array.getElem?_setIfInBounds,if_neg (by omega)]
    exact hc i hi b u hu'
  ·rw[List.getElem_set_ne e] at hu
   rw[Array.getElem?_setIfInBounds,if_neg (by omega)]
   exact hc a ha b u hu
 ·rcases List.mem_or_eq_of_mem_set hF with h1 | rfl
  ·exact hh F (h.fs F h1)
  ·exact hh _ hin
def FT.more (K:FT) (a:Option Addr) (c:Nat):FT:={K with ba:=a,bc:=c,body:=K.body++[zdc]}
theorem Wh.more {w W:World} {N:Nat} {l:List FT} (h:Wh w N l) {i:Nat} (hi:i < l.length) (hN:N < w.heap.size) (hb:Below w.heap.size w W) (hl:l[i].body.length≤100) {v:Value}
  (hown:W.ownsRow w.heap.size 66 7 v (l[i].body.length+1) ((l[i].body.flatMap fun S=>S.cells.toList)++zdc.cells.toList)):
  ∃a c,v=.slice a (l[i].body.length+1) c∧Wh (W.setCell ⟨N,i*4+3,none⟩ v) N (l.set i (FT.more l[i] a c)):=by
 have hW:=h.on hb
 have hK:=hW.fs _ (List.getElem_mem hi)
 have hne:v.ownBlock≠some N:=fun e=>by have:=(hown.lt _ e).1;omega
 have hm:MadeL 0 v (l[i].body++[zdc]) (hide (some N) W):=by
  refine⟨?_,fun S hS=>?_⟩
  ·rw[List.length_append,List.flatMap_append]
   show World.ownsRow _ _ _ _ _ (l[i].body.length+1) _
   have e:([zdc].flatMap fun S=>S.cells.toList)=zdc.cells.toList:=by simp
   rw[e]
   refine⟨hown.1,?_⟩
   rcases hown.2 with h1 | ⟨g,cap,cur,e1,e2,e3,e4⟩
   ·exact Or.inl h1
   ·exact Or.inr ⟨g,cap,cur,e1,Nat.zero_le _,(hide_heap W (fun e=>hne (by rw[e1,e];rfl))).trans e3,e4⟩
  ·rcases List.mem_append.1 hS with h1 | h1
   ·obtain⟨j,hj,rfl⟩:=List.getElem_of_mem h1
    refine((h.fs _ (List.getElem_mem hi)).ss.nth j hj).2.keep fun p u _ hu=>?_
    rw[zav] at hu
    rw[zav,zav]
    have hp:=World.block_lt_of_cell? _ _ hu.2
    refine⟨fun e=>?_,hu.1,(World.cell?_of_block (hb.block _ hp)).trans hu.2⟩
    have:=(hown.lt _ e.symm).1
    omega
   ·simp only[List.mem_singleton] at h1
    subst h1
    rw[ST.In,EsIn,SsIn]
    decide
 obtain⟨a,c,rfl,hss,-⟩:=hm.ss
 have e1:(l[i].body++[zdc]).length=l[i].body.length+1:=by rw[List.length_append];rfl
 rw[e1]
 refine⟨a,c,rfl,hW.upd hi (by decide) _ (fun k u hu=>?_) ⟨hK.pl,hK.vl,by show(l[i].body++[zdc]).length≤_;rw[e1];omega,hK.ps,hK.vs,hK.vr,hss⟩⟩
 match k,hu with
 | 0,hu=>exact Or.inr ⟨by decide,hu⟩
 | 1,hu=>exact Or.inr ⟨by decide,hu⟩
 | 2,hu=>exact Or.inr ⟨by decide,hu⟩
 | 3,hu =>
  left
  refine⟨rfl,?_⟩
  have h1:some (Value.slice a (l[i].body++[zdc]).length c)=some u:=hu
  rw[e1] at h1
  exact(Option.some.inj h1).symm
 | k+4,hu=>simp[FT.cells] at hu
theorem cnts_snoc (l:List ST):cnts (l++[zdc])=cnts l+1:=by
 induction l with
 | nil=>rfl
 | cons S l ih=>rw[List.cons_append,cnts,cnts,ih];omega
theorem wr_right {l:List ST} (h:zak l=true) (x:Bool):zak (wr x l)=true:=by
 cases x
 ·exact h
 ·show zak (l++[zdc])=true
  induction l with
  | nil=>show zak [zdc]=true;kernel_rfl
  | cons S l ih =>
   rw[zak,Bool.and_eq_true] at h
   rw[List.cons_append,zak,h.1,ih h.2]
   rfl
theorem wr_cnts (x:Bool) (l:List ST):cnts (wr x l)≤cnts l+1:=by
 cases x
 ·exact Nat.le_succ _
 ·exact Nat.le_of_eq (cnts_snoc l)
section
variable {p1 v1 b1 p2 v2 b2 p3 v3 b3 q1 q2 q3:Option Addr} {c1 d1 e1 c2 d2 e2 c3 d3 e3 k1 k2 k3:Nat} {l1 l2 l3:List ST}
theorem right_like {F G:FT} (h:F.rightB=true) (h1:F.name=G.name) (h2:F.params=G.params) (h3:F.vars=G.vars) (h4:zak F.body=true→zak G.body=true):G.rightB=true:=by
 unfold FT.rightB at h ⊢
 simp only[Bool.and_eq_true] at h ⊢
 rw[←h1,←h2,←h3]
 exact⟨h.1,h.2.1,h.2.2.1,h4 h.2.2.2⟩
theorem wh_right (hr:(za0 p1 v1 b1 p2 v2 b2 p3 v3 b3 c1 d1 e1 c2 d2 e2 c3 d3 e3 l1 l2 l3).all FT.rightB=true) (x y z:Bool):(za0 p1 v1 q1 p2 v2 q2 p3 v3 q3 c1 d1 k1 c2 d2 k2 c3 d3 k3 (wr x l1) (wr y l2) (wr z l3)).all FT.rightB=true ∧
  [mG p1 v1 q1 c1 d1 k1 (wr x l1),mH p2 v2 q2 c2 d2 k2 (wr y l2),⟨wG,p3,c3,[],v3,d3,[(wA,0),(wB',0),(wC,0),(wD,0),(wXs,3),(wYs,5)],q3,k3,wr z l3⟩].all FT.rightB=true:=by
 simp only[za0,List.all_cons,List.all_nil,Bool.and_true,Bool.and_eq_true] at hr ⊢
 have h1:=right_like (G:=mG p1 v1 q1 c1 d1 k1 (wr x l1)) hr.1 rfl rfl rfl (fun h=>wr_right h x)
 have h2:=right_like (G:=mH p2 v2 q2 c2 d2 k2 (wr y l2)) hr.2.1 rfl rfl rfl (fun h=>wr_right h y)
 have h3:=right_like (G:=mM p3 v3 q3 c3 d3 k3 (wr z l3)) hr.2.2 rfl rfl rfl (fun h=>wr_right h z)
 refine⟨⟨h1,h2,h3⟩,h1,h2,?_⟩
 unfold FT.rightB at h1 h3 ⊢
 simp only[Bool.and_eq_true] at h1 h3 ⊢
 exact⟨h1.1,h3.2⟩
theorem wh_sts (hs:stsV (za0 p1 v1 b1 p2 v2 b2 p3 v3 b3 c1 d1 e1 c2 d2 e2 c3 d3 e3 l1 l2 l3)≤31) (x y z:Bool):cnts (wr x l1)+(cnts (wr y l2)+(cnts (wr z l3)+0))≤40:=by
 have h:cnts l1+(cnts l2+(cnts l3+0))≤31:=hs
 have h1:=wr_cnts x l1
 have h2:=wr_cnts y l2
 have h3:=wr_cnts z l3
 omega
theorem wh_check {W:World} {N:Nat} {u:Int} (hr:(za0 p1 v1 b1 p2 v2 b2 p3 v3 b3 c1 d1 e1 c2 d2 e2 c3 d3 e3 l1 l2 l3).all FT.rightB=true) (hs:stsV (za0 p1 v1 b1 p2 v2 b2 p3 v3 b3 c1 d1 e1 c2 d2 e2 c3 d3 e3 l1 l2 l3)≤31)
  (h1:FitL [wP,wR] [wZs] cGH false 0 0 l1) (h2:FitL [wP,wQ] [wZs] cGH false 0 0 l2) (h3:FitL [wA,wB',wC,wD] [wXs,wYs] cGH false 0 u l3) (x y z:Bool)
  (hw:Wh W N (za0 p1 v1 q1 p2 v2 q2 p3 v3 q3 c1 d1 k1 c2 d2 k2 c3 d3 k3 (wr x l1) (wr y l2) (wr z l3))):
  (Calls Tryz.prog 11 #[.agg #[.slice (some ⟨N,0,none⟩) 3 3]] W fun e w'=>e=.returned (.tuple #[.int .i64 (if x||y||z then 8 else 0),.int .i64 (if x then 0 else if y then 1 else if z then 2 else -1)])∧Below W.heap.size W w') ∧
  ∀W2,Past W W2→Calls Tryz.prog 11 #[.agg #[.slice (some ⟨N,0,none⟩) 3 3]] (W2.setCell ⟨N,8,none⟩ (.string wG)) fun e w'=>e=.returned (.tuple #[.int .i64 6,.int .i64 (-1)])∧Below W2.heap.size (W2.setCell ⟨N,8,none⟩ (.string wG)) w':=by
 have hsm:∀(nm:ByteArray),Small [mG p1 v1 q1 c1 d1 k1 (wr x l1),mH p2 v2 q2 c2 d2 k2 (wr y l2),⟨nm,p3,c3,[],v3,d3,[(wA,0),(wB',0),(wC,0),(wD,0),(wXs,3),(wYs,5)],q3,k3,wr z l3⟩]:=fun nm=>by
  refine⟨?_,fun i hi=>?_⟩
  ·have h:cnts (wr x l1)+(cnts (wr y l2)+(cnts (wr z l3)+0))≤40:=wh_sts hs x y z
   show cnts (wr x l1)+(cnts (wr y l2)+(cnts (wr z l3)+0))≤4611686018427387904
   omega
  ·match i,hi with
   | 0,_=>exact⟨by simp,by simp⟩
   | 1,_=>exact⟨by simp,by simp⟩
   | 2,_=>exact⟨by simp,by simp⟩
 refine⟨?_,fun W2 hp=>?_⟩
 ·have h:=zb0 (w0:=W) (hw.fsIn (by simp[za0])) (hsm wM) 3 W (Past.refl _)
  have e:=where_made p1 v1 q1 p2 v2 q2 p3 v3 q3 c1 d1 k1 c2 d2 k2 c3 d3 k3 x y z (wh_right hr x y z).1 (by have h:cnts (wr x l1)+(cnts (wr y l2)+(cnts (wr z l3)+0))≤40:=wh_sts hs x y z;show cnts (wr x l1)+(cnts (wr y l2)+(cnts (wr z l3)+0))≤400;omega) h1 h2 h3
  rw[e] at h
  refine h.mono ?_
  rintro e w' ⟨rfl,hb⟩
  refine⟨?_,hb⟩
  cases x<;>cases y<;>cases z<;>rfl
 ·have hw2:=hw.on hp
  have hu:=hw2.upd (i:=2) (j:=0) (by simp[za0]) (by decide) (.string wG) (K:=⟨wG,p3,c3,[],v3,d3,[(wA,0),(wB',0),(wC,0),(wD,0),(wXs,3),(wYs,5)],q3,k3,wr z l3⟩) (fun k u hk=>by
   match k,hk with
   | 0,hk=>exact Or.inl ⟨rfl,(Option.some.inj hk).symm⟩
   | 1,hk=>exact Or.inr ⟨by decide,hk⟩
   | 2,hk=>exact Or.inr ⟨by decide,hk⟩
   | 3,hk=>exact Or.inr ⟨by decide,hk⟩
   | k+4,hk=>simp[FT.cells] at hk) (by
   have hK:=hw2.fs _ (List.getElem_mem (show 2 < (za0 p1 v1 q1 p2 v2 q2 p3 v3 q3 c1 d1 k1 c2 d2 k2 c3 d3 k3 (wr x l1) (wr y l2) (wr z l3)).length by simp[za0]))
   exact⟨hK.pl,hK.vl,hK.bl,hK.ps,hK.vs,hK.vr,hK.ss⟩)
  have h:=zb0 (w0:=W2.setCell ⟨N,8,none⟩ (.string wG)) (hu.fsIn (by simp[za0])) (hsm wG) 3 (W2.setCell ⟨N,8,none⟩ (.string wG)) (Past.refl _)
  have e:=twice_made p1 v1 q1 p2 v2 q2 p3 v3 q3 c1 d1 k1 c2 d2 k2 c3 d3 k3 (wr x l1) (wr y l2) (wr z l3) (wh_right hr x y z).2 (by have h:cnts (wr x l1)+(cnts (wr y l2)+(cnts (wr z l3)+0))≤40:=wh_sts hs x y z;omega)
  have h':Calls Tryz.prog 11 #[.agg #[.slice (some ⟨N,0,none⟩) 3 3]] (W2.setCell ⟨N,8,none⟩ (.string wG)) fun e w'=>e=.returned (.tuple #[.int .i64 ((chkF [mG p1 v1 q1 c1 d1 k1 (wr x l1),mH p2 v2 q2 c2 d2 k2 (wr y l2),⟨wG,p3,c3,[],v3,d3,[(wA,0),(wB',0),(wC,0),(wD,0),(wXs,3),(wYs,5)],q3,k3,wr z l3⟩]).1:Nat),.int .i64 (chkF [mG p1 v1 q1 c1 d1 k1 (wr x l1),mH p2 v2 q2 c2 d2 k2 (wr y l2),⟨wG,p3,c3,[],v3,d3,[(wA,0),(wB',0),(wC,0),(wD,0),(wXs,3),(wYs,5)],q3,k3,wr z l3⟩]).2])∧Below (W2.setCell ⟨N,8,none⟩ (.string wG)).heap.size (W2.setCell ⟨N,8,none⟩ (.string wG)) w':=h
  rw[e] at h'
  refine h'.mono ?_
  rintro e w' ⟨rfl,hb⟩
  exact⟨rfl,by simpa[World.setCell] using hb⟩
end
end Go.Proofs.YtljbbhhiiiepcaaGreatDoor.Ck
