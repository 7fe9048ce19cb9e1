/- Graphs of right statements: where each node stands, where one comes to. -/
import Derived.Test.YtagnmppdhfmgdaaGreatDoorFHeap
set_option linter.unusedSimpArgs false
set_option linter.unusedVariables false
set_option maxHeartbeats 8000000
set_option maxRecDepth 100000
namespace Go.Proofs.YtagnmppdhfmgdaaGreatDoor.Fl
open Go Go.RowKit Go.Proofs.YtagnmppdhfmgdaaGreatDoor
theorem zdz {S:ST} (h:S.rightB=true):zak S.body=true∧zak S.els=true∧((0 < S.bn∨0 < S.ln)→S.kind=4∨S.kind=5)∧(S.kind=5→S.ln=0):=by
 have h2:=rightS_cases h
 obtain⟨k,t,n,f,ea,ec,e,ba,bc,b,la,lc,l⟩:=S
 rw[ST.rightB,Bool.and_eq_true,Bool.and_eq_true,Bool.and_eq_true] at h
 refine⟨h.1.2,h.2,?_,?_⟩
 ·obtain⟨t',_,_,h2⟩:=h2
  simp only[ST.mk.injEq] at h2
  intro hb
  simp only[ST.bn,ST.ln] at hb
  show k=4∨k=5
  rcases h2 with ⟨_,_,_,_,_,_,_,_,h⟩ | ⟨_,_,_,_,_,_,_,_,_,h⟩ | ⟨_,_,_,_,_,_,_,h⟩ | ⟨_,_,_,_,_,_,_,_,_,h⟩ | ⟨_,_,_,_,_,_,_,_,_,h⟩ | ⟨_,_,_,_,_,_,_,_,h⟩ | ⟨_,_,_,_,_,_,h⟩ | ⟨_,_,_,_,_,_,h⟩ | ⟨_,_,_,_,_,_,_,h⟩ | ⟨_,_,_,_,_,_,_,h⟩
  all_goals (simp_all)
 ·obtain⟨t',_,_,h2⟩:=h2
  simp only[ST.mk.injEq] at h2
  intro hb
  simp only[ST.kind] at hb
  show l.length=0
  rcases h2 with ⟨_,_,_,_,_,_,_,_,h⟩ | ⟨_,_,_,_,_,_,_,_,_,h⟩ | ⟨_,_,_,_,_,_,_,h⟩ | ⟨_,_,_,_,_,_,_,_,_,h⟩ | ⟨_,_,_,_,_,_,_,_,_,h⟩ | ⟨_,_,_,_,_,_,_,_,h⟩ | ⟨_,_,_,_,_,_,h⟩ | ⟨_,_,_,_,_,_,h⟩ | ⟨_,_,_,_,_,_,_,h⟩ | ⟨_,_,_,_,_,_,_,h⟩
  all_goals (simp_all)
theorem next_len (x:Int) (i:Nat) (n:NR):(zce x i n).length=if n.S.kind=4∨n.S.kind=5 then 2 else 1:=by
 unfold zce
 by_cases h4:n.S.kind=4
 ·simp[h4]
 ·by_cases h5:n.S.kind=5
  ·simp[h5]
  ·have h:¬(n.S.kind=4∨n.S.kind=5):=fun h=>h.elim h4 h5
   rw[if_neg h4,if_neg h5,if_neg h]
   split<;>(try split)<;>(try split)<;>rfl
inductive Way (E:List (List Int)):Nat→Nat→Prop where
 | refl (i:Nat):Way E i i
 | step {i j k:Nat}:(j:Int)∈E.getD i []→Way E j k→Way E i k
theorem Way.trans {E:List (List Int)} {i j k:Nat} (h:Way E i j) (g:Way E j k):Way E i k:=by
 induction h with
 | refl=>exact g
 | step h _ ih=>exact .step h (ih g)
theorem Way.one {E:List (List Int)} {i j:Nat} (h:(j:Int)∈E.getD i []):Way E i j:=.step h (.refl _)
def HasE (x:Int) (E:List (List Int)) (p:Nat) (n:NR):Prop:=∀z:Int,(z∈zce x p n∨(0≤othR n∧z=othR n))→z∈E.getD p []
section
variable {x:Int} {E:List (List Int)}
theorem way_S (hx:0≤x) (S:ST) (hr:S.rightB=true) (p:Nat) (par:Int) (fol:Nat) (brk agn beh:Int) (hE:∀i n,(layS p par fol brk agn beh S)[i]?=some n→HasE x E (p+i) n)
  (hb:S.body≠[]→Way E (p+1) (if S.kind=5 then p else fol)):Way E p fol:=by
 have h0:=hE 0 _ (by rw[zcb];rfl)
 rw[Nat.add_zero] at h0
 by_cases h4:S.kind=4
 ·by_cases hbn:S.body=[]
  ·refine Way.one (h0 _ (.inl ?_))
   unfold zce
   rw[if_pos h4]
   have:S.bn=0:=by rw[bn_is,hbn];rfl
   simp only[this,if_true,List.mem_cons,true_or]
  ·refine .step (h0 ((p+1:Nat):Int) (.inl ?_)) ?_
   ·unfold zce
    rw[if_pos h4]
    have:¬S.bn=0:=by rw[bn_is];intro h;exact hbn (List.length_eq_zero_iff.1 h)
    simp[this]
   ·have:=hb hbn
    rwa [if_neg (by omega)] at this
 ·by_cases h5:S.kind=5
  ·refine Way.one (h0 _ (.inl ?_))
   unfold zce
   rw[if_neg h4,if_pos h5]
   simp
  ·by_cases hj:S.kind=6∨S.kind=7∨S.kind=8
   ·refine Way.one (h0 _ (.inr ?_))
    unfold othR
    rw[if_pos hj]
    exact⟨by simp,rfl⟩
   ·refine Way.one (h0 _ (.inl ?_))
    unfold zce
    rw[if_neg h4,if_neg h5,if_neg (show ¬S.kind=6 from fun h=>hj (.inl h)),if_neg (show ¬S.kind=7 from fun h=>hj (.inr (.inl h))),if_neg (show ¬S.kind=8 from fun h=>hj (.inr (.inr h)))]
    simp
theorem lay_get (p:Nat) (par fol brk agn:Int) (S:ST) (r:List ST) (i:Nat) (hi:i < S.cnt):
  (lay p par fol brk agn (S :: r))[i]?=(layS p par (if r=[] then fol else ((p+S.cnt:Nat):Int)) brk agn (if r=[] then -1 else ((p+S.cnt:Nat):Int)) S)[i]?:=by
 rw[lay,List.getElem?_append_left (by rw[zbc];exact hi)]
theorem lay_get2 (p:Nat) (par fol brk agn:Int) (S:ST) (r:List ST) (i:Nat):
  (lay p par fol brk agn (S :: r))[S.cnt+i]?=(lay (p+S.cnt) par fol brk agn r)[i]?:=by
 rw[lay,List.getElem?_append_right (by rw[zbc];omega),zbc,show S.cnt+i - S.cnt=i by omega]
theorem layS_body (p:Nat) (par fol brk agn beh:Int) (S:ST) (i:Nat) (hi:i < cnts S.body):
  (layS p par fol brk agn beh S)[1+i]?=(lay (p+1) p (if S.kind=5 then p else fol) (if S.kind=5 then fol else brk) (if S.kind=5 then p else agn) S.body)[i]?:=by
 rw[zcb,show 1+i=i+1 by omega,List.getElem?_cons_succ,List.getElem?_append_left (by rw[zbe];exact hi)]
theorem layS_els (p:Nat) (par fol brk agn beh:Int) (S:ST) (i:Nat):
  (layS p par fol brk agn beh S)[1+cnts S.body+i]?=(lay (p+1+cnts S.body) p (if S.kind=5 then p else fol) (if S.kind=5 then fol else brk) (if S.kind=5 then p else agn) S.els)[i]?:=by
 rw[zcb,show 1+cnts S.body+i=(cnts S.body+i)+1 by omega,List.getElem?_cons_succ,List.getElem?_append_right (by rw[zbe];omega),zbe,show cnts S.body+i - cnts S.body=i by omega]
theorem cnt_pos (S:ST):1≤S.cnt:=by rw[zbA];omega
theorem zaB {α:Type} {l:List α} {i:Nat} {a:α} (h:l[i]?=some a):i < l.length:=by
 rcases Nat.lt_or_ge i l.length with h' | h'
 ·exact h'
 ·rw[List.getElem?_eq_none h'] at h;cases h
theorem way_lay (hx:0≤x):∀(m:Nat) (l:List ST),Szs l < m→zak l=true→∀(p:Nat) (par:Int) (fol:Nat) (brk agn:Int),(∀i n,(lay p par fol brk agn l)[i]?=some n→HasE x E (p+i) n) →
  (l≠[]→Way E p fol)∧(∀i,i < cnts l→Way E (p+i) fol∧Way E p (p+i)):=by
 intro m
 induction m with
 | zero=>intro l h;omega
 | succ m ih =>
  intro l
  induction l with
  | nil=>intro _ _ p par fol brk agn _;exact⟨fun h=>absurd rfl h,fun i hi=>by rw[cnts] at hi;omega⟩
  | cons S r ihr =>
   intro hm hr p par fol brk agn hE
   rw[Szs] at hm
   have hz:=zb9 S
   have hc1:=zbA S
   rw[zak,Bool.and_eq_true] at hr
   have hp:=zdz hr.1
   obtain⟨fl,hfl⟩:∃fl:Nat,(if r=[] then fol else p+S.cnt)=fl:=⟨_,rfl⟩
   have hfl':(if r=[] then (fol:Int) else ((p+S.cnt:Nat):Int))=(fl:Int):=by rw[←hfl];split<;>rfl
   have hES:∀i n,(layS p par fl brk agn (if r=[] then -1 else ((p+S.cnt:Nat):Int)) S)[i]?=some n→HasE x E (p+i) n:=fun i n hn=>by
    have hi:i < S.cnt:=by have:=zaB hn;rwa [zbc] at this
    exact hE i n (by rw[lay_get _ _ _ _ _ _ _ _ hi,hfl'];exact hn)
   have hER:∀i n,(lay (p+S.cnt) par fol brk agn r)[i]?=some n→HasE x E (p+S.cnt+i) n:=fun i n hn=>by
    have:=hE (S.cnt+i) n (by rw[lay_get2];exact hn)
    rwa [←Nat.add_assoc] at this
   have cst:(if S.kind=5 then (p:Int) else (fl:Int))=(((if S.kind=5 then p else fl):Nat):Int):=by split<;>rfl
   have hB:=ih S.body (by omega) hp.1 (p+1) p (if S.kind=5 then p else fl) (if S.kind=5 then (fl:Int) else brk) (if S.kind=5 then (p:Int) else agn) (fun i n hn=>by
    have hi:i < cnts S.body:=by have:=zaB hn;rwa [zbe] at this
    have:=hES (1+i) n (by rw[layS_body _ _ _ _ _ _ _ _ hi,cst];exact hn)
    rwa [←Nat.add_assoc] at this)
   have hL:=ih S.els (by omega) hp.2.1 (p+1+cnts S.body) p (if S.kind=5 then p else fl) (if S.kind=5 then (fl:Int) else brk) (if S.kind=5 then (p:Int) else agn) (fun i n hn=>by
    have:=hES (1+cnts S.body+i) n (by rw[layS_els,cst];exact hn)
    rw[show p+1+cnts S.body+i=p+(1+cnts S.body+i) by omega];exact this)
   have hR:=ihr (by omega) hr.2 (p+S.cnt) par fol brk agn hER
   have hS:Way E p fl:=way_S hx S hr.1 p par fl brk agn _ hES (fun h=>hB.1 h)
   have hRn:Way E fl fol:=by
    by_cases h0:r=[]
    ·rw[if_pos h0] at hfl;rw[←hfl];exact .refl _
    ·rw[if_neg h0] at hfl;rw[←hfl];exact hR.1 h0
   have hin:Way E (if S.kind=5 then p else fl) fl:=by
    split
    ·exact hS
    ·exact .refl _
   have h0:=hES 0 _ (by rw[zcb];rfl)
   rw[Nat.add_zero] at h0
   refine⟨fun _=>hS.trans hRn,fun i hi=>?_⟩
   rw[cnts] at hi
   rcases Nat.lt_or_ge i S.cnt with h1 | h1
   ·cases i with
    | zero=>exact⟨hS.trans hRn,.refl _⟩
    | succ i =>
     rcases Nat.lt_or_ge i (cnts S.body) with h2 | h2
     ·have:=hB.2 i h2
      rw[show p+(i+1)=p+1+i by omega]
      refine⟨(this.1.trans hin).trans hRn,.step (h0 ((p+1:Nat):Int) (.inl ?_)) this.2⟩
      have hbn:0 < S.bn:=by
       rw[bn_is]
       cases hb:S.body with
       | nil=>rw[hb,cnts] at h2;omega
       | cons T t=>simp
      have hbn':¬S.bn=0:=by omega
      unfold zce
      rcases hp.2.2.1 (.inl hbn) with h4 | h5
      ·rw[if_pos h4];simp[hbn']
      ·rw[if_neg (by show ¬S.kind=4;omega),if_pos h5];simp[hbn']
     ·have:=hL.2 (i - cnts S.body) (by omega)
      rw[show p+1+cnts S.body+(i - cnts S.body)=p+(i+1) by omega] at this
      have hln:0 < S.ln:=by
       rw[ln_is]
       cases hb:S.els with
       | nil=>rw[hb,cnts] at hc1;omega
       | cons T t=>simp
      have hln':¬S.ln=0:=by omega
      refine⟨(this.1.trans hin).trans hRn,.step (h0 ((p+1+cnts S.body:Nat):Int) (.inl ?_)) this.2⟩
      unfold zce
      rcases hp.2.2.1 (.inr hln) with h4 | h5
      ·rw[if_pos h4];simp[hln']
      ·exact absurd (hp.2.2.2 h5) hln'
   ·have:=hR.2 (i - S.cnt) (by omega)
    rw[show p+S.cnt+(i - S.cnt)=p+i by omega] at this
    refine⟨this.1,?_⟩
    have hr0:r≠[]:=by rintro rfl;rw[cnts] at hi;omega
    rw[if_neg hr0] at hfl
    rw[hfl] at this
    exact hS.trans this.2
end
def allG (l:List ST):List (List Int):=zbR (zaV l) (zaZ l) true
theorem zdQ {l:List ST} {i:Nat} {n:NR} (h:(zaY l)[i]?=some n):(zaV l)[i]?=some (zce (cnts l:Nat) i n):=by
 have hi:=zaB h
 unfold zaV
 rw[List.getElem?_append_left (by rw[List.length_mapIdx];exact hi),List.getElem?_mapIdx,h];rfl
theorem others_at {l:List ST} {i:Nat} {n:NR} (h:(zaY l)[i]?=some n):(zaZ l)[i]?=some (othR n):=by
 have hi:=zaB h
 unfold zaZ
 rw[List.getElem?_append_left (by rw[List.length_map];exact hi),List.getElem?_map,h];rfl
theorem ins_at {l:List ST} {i:Nat} {n:NR} (h:(zaY l)[i]?=some n):(insG l)[i]?=some n.par:=by
 have hi:=zaB h
 unfold insG
 rw[List.getElem?_append_left (by rw[List.length_map];exact hi),List.getElem?_map,h];rfl
theorem zcc (l:List ST):(zaV l).length=cnts l+1:=by unfold zaV;rw[List.length_append,List.length_mapIdx,zav];rfl
theorem zb4 (l:List ST):(zaZ l).length=cnts l+1:=by unfold zaZ;rw[List.length_append,List.length_map,zav];rfl
theorem ins_len (l:List ST):(insG l).length=cnts l+1:=by unfold insG;rw[List.length_append,List.length_map,zav];rfl
theorem zcd (ns:List (List Int)) (os:List Int) (j:Bool):(zbR ns os j).length=ns.length:=by unfold zbR;rw[List.length_mapIdx]
theorem zdR {ns:List (List Int)} {os:List Int} {j:Bool} {i:Nat} {r:List Int} (h:ns[i]?=some r):(zbR ns os j)[i]?=some (if j=true∧0≤os.getD i (-1) then r++[os.getD i (-1)] else r):=by
 unfold zbR;rw[List.getElem?_mapIdx,h];rfl
theorem has_all {l:List ST} {i:Nat} {n:NR} (h:(zaY l)[i]?=some n):HasE (cnts l:Nat) (allG l) i n:=by
 intro z hz
 unfold allG
 rw[List.getD_eq_getElem?_getD,zdR (zdQ h),List.getD_eq_getElem?_getD,others_at h]
 simp only[Option.getD_some,true_and]
 rcases hz with hz | ⟨h0,rfl⟩
 ·split
  ·exact List.mem_append_left _ hz
  ·exact hz
 ·rw[if_pos h0];simp
theorem way_all {l:List ST} (hr:zak l=true) (i:Nat) (hi:i≤cnts l):Way (allG l) i (cnts l)∧Way (allG l) 0 i:=by
 have h:=way_lay (x:=(cnts l:Nat)) (E:=allG l) (by omega) _ l (Nat.lt_succ_self _) hr 0 (-1) (cnts l) (cnts l:Nat) (cnts l:Nat) (fun j n hn=>by rw[Nat.zero_add];exact has_all hn)
 rcases Nat.lt_or_ge i (cnts l) with h1 | h1
 ·have:=h.2 i h1
  rw[Nat.zero_add] at this
  exact this
 ·obtain rfl:i=cnts l:=by omega
  refine⟨.refl _,?_⟩
  by_cases h0:l=[]
  ·rw[h0,cnts];exact .refl _
  ·exact h.1 h0
end Go.Proofs.YtagnmppdhfmgdaaGreatDoor.Fl
