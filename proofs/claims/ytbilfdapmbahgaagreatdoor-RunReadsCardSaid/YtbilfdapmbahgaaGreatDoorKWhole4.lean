/- What is asked of the last function. -/
import Derived.Test.YtbilfdapmbahgaaGreatDoorKModel
import Derived.Test.YtbilfdapmbahgaaGreatDoorKNamed
import Derived.Maps.AppendAt
set_option linter.unusedSimpArgs false
set_option linter.unusedVariables false
set_option maxHeartbeats 8000000
set_option maxRecDepth 100000
namespace Go.Proofs.YtbilfdapmbahgaaGreatDoor.Ck
open Go Go.RowKit Go.Proofs.YtbilfdapmbahgaaGreatDoor
abbrev Nm:=List UInt8
def sizeVR (vs:List (Nm×Nat)) (nm:Nm):Option Nat:=match vs with
 | []=>none
 | d :: l=>if d.1=nm then some d.2 else sizeVR l nm
def sizeR (F:RF) (nm:Nm):Option Nat:=if nm∈F.params then some 0 else sizeVR F.vars nm
def zdy (F:RF) (nm:Nm) (arr:Bool):Nat:=match sizeR F nm with
 | none=>6
 | some s=>if decide (0 < s)=arr then 0 else 7
def zbM (F:RF):RE→Nat
 | .num _=>0
 | .var s=>zdy F s false
 | .idx s e=>orE (zdy F s true) (zbM F e)
 | .un _ e=>zbM F e
 | .bin _ a b=>orE (zbM F a) (zbM F b)
def placesR (F:RF) (l:List RE):Nat:=match l with
 | []=>0
 | e :: l=>orE (zbM F e) (placesR F l)
def zbx (l:List RF) (nm:Nm):Nat:=match l with
 | []=>0
 | F :: l=>if F.name=nm then 0 else zbx l nm+1
def calleeR (l:List RF) (f:Nm) (n:Nat):Nat:=
 if l.length≤zbx l f then 6
 else if zbx l f+1=l.length∨((l.map fun F=>F.params.length).getD (zbx l f) 0)≠n then 10 else 0
def tagR (l:List RF) (i t:Nat) (seen:List Nat):Nat:=if 0 < t then (if i+1=l.length∧t∉seen then 0 else 9) else 0
def seenR (t:Nat) (seen:List Nat):List Nat:=if 0 < t then t :: seen else seen
def askR (l:List RF) (i:Nat) (F:RF) (looped:Bool) (seen:List Nat):RS→Nat
 | .asg t x e=>orE (tagR l i t seen) (orE (zdy F x false) (zbM F e))
 | .sto t x a e=>orE (tagR l i t seen) (orE (zdy F x true) (orE (zbM F a) (zbM F e)))
 | .rd t x=>orE (tagR l i t seen) (zdy F x false)
 | .call t x f es=>orE (tagR l i t seen) (orE (zdy F x false) (orE (calleeR l f es.length) (placesR F es)))
 | .ife t c _ _=>orE (tagR l i t seen) (zbM F c)
 | .whl t c _=>orE (tagR l i t seen) (zbM F c)
 | .brk t=>orE (tagR l i t seen) (if looped then 0 else 8)
 | .cnt t=>orE (tagR l i t seen) (if looped then 0 else 8)
 | .ret t e=>orE (tagR l i t seen) (zbM F e)
 | .ass t e=>orE (tagR l i t seen) (zbM F e)
def andR (r:Nat×List Nat) (f:List Nat→Nat×List Nat):Nat×List Nat:=if r.1=0 then f r.2 else r
mutual
def stmtR (l:List RF) (i:Nat) (F:RF) (looped:Bool) (seen:List Nat):RS→Nat×List Nat
 | .asg t x e=>(askR l i F looped seen (.asg t x e),seenR t seen)
 | .sto t x a e=>(askR l i F looped seen (.sto t x a e),seenR t seen)
 | .rd t x=>(askR l i F looped seen (.rd t x),seenR t seen)
 | .call t x f es=>(askR l i F looped seen (.call t x f es),seenR t seen)
 | .ife t c b e=>andR (andR (orE (tagR l i t seen) (zbM F c),seenR t seen) (fun s=>stmtsR l i F looped s b)) (fun s=>stmtsR l i F looped s e)
 | .whl t c b=>andR (orE (tagR l i t seen) (zbM F c),seenR t seen) (fun s=>stmtsR l i F true s b)
 | .brk t=>(askR l i F looped seen (.brk t),seenR t seen)
 | .cnt t=>(askR l i F looped seen (.cnt t),seenR t seen)
 | .ret t e=>(askR l i F looped seen (.ret t e),seenR t seen)
 | .ass t e=>(askR l i F looped seen (.ass t e),seenR t seen)
def stmtsR (l:List RF) (i:Nat) (F:RF) (looped:Bool) (seen:List Nat):List RS→Nat×List Nat
 | []=>(0,seen)
 | s :: r=>andR (stmtR l i F looped seen s) (fun x=>stmtsR l i F looped x r)
end
def largeR (F:RF):Bool:=decide (24 < F.params.length+F.vars.length)||F.vars.any fun d=>decide (64 < d.2)
def fnR (l:List RF) (i:Nat) (F:RF) (seen:List Nat):Nat×List Nat:=
 if largeR F then (5,seen) else if decide (F.params++F.vars.map (·.1)).Nodup=false then (6,seen) else stmtsR l i F false seen F.body
mutual
def cntS:RS→Nat
 | .ife _ _ b e=>1+(cntSs b+cntSs e)
 | .whl _ _ b=>1+cntSs b
 | _=>1
def cntSs:List RS→Nat
 | []=>0
 | s :: r=>cntS s+cntSs r
end
def stsR (l:List RF):Nat:=match l with
 | []=>0
 | F :: l=>cntSs F.body+stsR l
def mainR (l:List RF):Bool:=match l with
 | []=>false
 | [F]=>decide (F.name=[109,97,105,110])&&F.params.isEmpty
 | _ :: l=>mainR l
def wholeR (l:List RF):Nat:=
 if l.length=0∨16 < l.length∨400 < stsR l then 5
 else if decide (l.map (·.name)).Nodup=false then 6
 else if mainR l then 0 else 10
def fnsR (l:List RF):Nat→List RF→List Nat→(Nat×List Nat)×Int
 | _,[],seen=>((0,seen),-1)
 | n,F :: r,seen=>if (fnR l n F seen).1=0 then fnsR l (n+1) r (fnR l n F seen).2 else (fnR l n F seen,(n:Int))
def progR (l:List RF):(Nat×List Nat)×Int:=if wholeR l=0 then fnsR l 0 l [] else ((wholeR l,[]),-1)
/- The plain functions tell of right trees what the others tell. -/
theorem zdz {a b:ByteArray}:a.data.toList=b.data.toList↔a=b:=by
 constructor
 ·intro h
  cases a with | mk x=>cases b with | mk y =>
   congr 1
   exact Array.toList_inj.1 h
 ·rintro rfl;rfl
theorem mem_toL {a:ByteArray} {l:List ByteArray}:a.data.toList∈l.map (fun s=>s.data.toList)↔a∈l:=by
 constructor
 ·intro h
  obtain⟨b,hb,e⟩:=List.mem_map.1 h
  rw[←zdz.1 e];exact hb
 ·intro h;exact List.mem_map.2 ⟨a,h,rfl⟩
theorem sizeV_rf {vs:List (ByteArray×Int)} (h:vs.all zcJ=true) (nm:ByteArray):sizeV vs nm=(sizeVR (vs.map fun d=>(d.1.data.toList,d.2.toNat)) nm.data.toList).map Int.ofNat:=by
 induction vs with
 | nil=>rfl
 | cons d l ih =>
  rw[List.all_cons,Bool.and_eq_true] at h
  rw[sizeV,List.map_cons,sizeVR]
  by_cases e:d.1=nm
  ·rw[if_pos e,if_pos (zdz.2 e)]
   have h0:=h.1
   unfold zcJ at h0
   rw[Bool.and_eq_true,decide_eq_true_eq] at h0
   rw[Option.map_some]
   congr 1
   show d.2=((d.2.toNat:Nat):Int)
   omega
  ·rw[if_neg e,if_neg (fun h=>e (zdz.1 h)),ih h.2]
theorem zc8 {F:FT} (h:F.rightB=true):F.vars.all zcJ=true∧zam F.body=true:=by
 unfold FT.rightB at h
 simp only[Bool.and_eq_true] at h
 exact⟨h.2.2.1,h.2.2.2⟩
theorem named_rf {F:FT} (h:F.rightB=true) (nm:ByteArray) (b:Bool):namedF F nm b=zdy F.rf nm.data.toList b:=by
 have e:zeO F nm=(sizeR F.rf nm.data.toList).map Int.ofNat:=by
  unfold zeO sizeR FT.rf
  by_cases hm:nm∈F.params
  ·rw[if_pos hm,if_pos (mem_toL.2 hm)];rfl
  ·rw[if_neg hm,if_neg (fun h=>hm (mem_toL.1 h))]
   exact sizeV_rf (zc8 h).1 nm
 unfold namedF zdy
 rw[e]
 cases sizeR F.rf nm.data.toList with
 | none=>rfl
 | some n =>
  show(if decide (0 < (n:Int))=b then 0 else 7)=_
  have:decide (0 < (n:Int))=decide (0 < n):=by simp
  rw[this]
theorem place_rf {F:FT} (hF:F.rightB=true):∀(n:Nat) (T:ET),T.sz≤n→T.rightB=true→placeE F T=zbM F.rf T.re:=by
 intro n
 induction n with
 | zero=>intro T h;cases T;simp[ET.sz] at h
 | succ n ih =>
  intro T hn h
  rcases zer h with ⟨n',a',c',rfl⟩ | ⟨m',a',c',hm,rfl⟩ | ⟨m',a',c',x,hm,hx,rfl⟩ | ⟨o',a',c',x,ho,hx,rfl⟩ | ⟨o',a',c',x,y,ho,hx,hy,rfl⟩
  ·rw[placeE,placeEs];rfl
  ·rw[placeE,placeEs,zay]
   exact named_rf hF _ _
  ·simp only[ET.sz,szs] at hn
   rw[placeE,placeEs,placeEs,zay,ih x (by omega) hx]
   show orE (namedF F m' true) _=orE (zdy F.rf _ true) _
   rw[named_rf hF]
  ·simp only[ET.sz,szs] at hn
   rw[placeE,placeEs,placeEs,zay,ih x (by omega) hx];rfl
  ·simp only[ET.sz,szs] at hn
   rw[placeE,placeEs,placeEs,placeEs,zay,ih x (by omega) hx,ih y (by omega) hy];rfl
theorem zbX {F:FT} (hF:F.rightB=true):∀(l:List ET),zaq l=true→placeEs F l=placesR F.rf (res l)
 | [],_=>rfl
 | T :: l,h=>by
  rw[zaq,Bool.and_eq_true] at h
  rw[placeEs,place_rf hF T.sz T (Nat.le_refl _) h.1,zbX hF l h.2];rfl
theorem find_rf (l:List FT) (nm:ByteArray):findN l nm=zbx (l.map FT.rf) nm.data.toList:=by
 induction l with
 | nil=>rfl
 | cons F l ih =>
  rw[findN,List.map_cons,zbx,ih]
  have:(F.name=nm)=(F.rf.name=nm.data.toList):=propext ⟨fun h=>zdz.2 h,fun h=>zdz.1 h⟩
  simp only[this]
theorem callee_rf (l:List FT) {S:ST} (hk:S.kind=3):calleeF l S=calleeR (l.map FT.rf) S.func.data.toList S.en:=by
 unfold calleeF calleeR
 rw[if_neg (by omega),find_rf,List.length_map,List.map_map]
 have:((fun F:RF=>F.params.length) ∘ FT.rf)=fun F=>F.params.length:=by funext F;simp[FT.rf]
 rw[this]
theorem zbF (l:List FT) {S:ST} (hk:S.kind≠3):calleeF l S=0:=by unfold calleeF;rw[if_pos hk]
def natS (seen:List Int):List Nat:=seen.map Int.toNat
theorem mem_natS {t:Int} {seen:List Int} (ht:0≤t) (hs:∀x∈seen,0≤x):t.toNat∈natS seen↔t∈seen:=by
 unfold natS
 constructor
 ·intro h
  obtain⟨x,hx,e⟩:=List.mem_map.1 h
  have:=hs x hx
  obtain rfl:x=t:=by omega
  exact hx
 ·intro h;exact List.mem_map.2 ⟨t,h,rfl⟩
theorem tag_rf (l:List FT) (i:Nat) {S:ST} {seen:List Int} (ht:0≤S.tag) (hs:∀x∈seen,0≤x):tagF l i S seen=tagR (l.map FT.rf) i S.tag.toNat (natS seen):=by
 unfold tagF tagR
 rw[List.length_map]
 have e1:(0 < S.tag)=(0 < S.tag.toNat):=propext (by omega)
 have e2:(S.tag∉seen)=(S.tag.toNat∉natS seen):=propext (not_congr (mem_natS ht hs).symm)
 simp only[e1,e2]
theorem seen_rf {S:ST} {seen:List Int} (ht:0≤S.tag):natS (zbw S seen)=seenR S.tag.toNat (natS seen):=by
 unfold zbw seenR
 by_cases h:0 < S.tag
 ·rw[if_pos h,if_pos (by omega)];rfl
 ·rw[if_neg h,if_neg (by omega)]
theorem seen_pos {S:ST} {seen:List Int} (ht:0≤S.tag) (hs:∀x∈seen,0≤x):∀x∈zbw S seen,0≤x:=by
 unfold zbw
 split
 ·intro x hx
  rcases List.mem_cons.1 hx with rfl | h
  ·exact ht
  ·exact hs x h
 ·exact hs
def Like (r:Nat×List Int) (q:Nat×List Nat):Prop:=r.1=q.1∧natS r.2=q.2∧∀x∈r.2,0≤x
theorem zeT {r:Nat×List Int} {q:Nat×List Nat} {f:List Int→Nat×List Int} {g:List Nat→Nat×List Nat} (h:Like r q) (k:∀s,(∀x∈s,0≤x)→Like (f s) (g (natS s))):Like (andThen r f) (andR q g):=by
 unfold andThen andR
 rw[←h.1]
 split
 ·rw[←h.2.1];exact k _ h.2.2
 ·exact h
theorem then_nil (r:Nat×List Int) (l:List FT) (i:Nat) (F:FT) (b:Bool):andThen r (zba l i F b [])=r:=by
 unfold andThen
 split
 ·rename_i h
  rw[zba]
  obtain⟨a,b⟩:=r
  simp only at h
  rw[h]
 ·rfl
theorem nm_nil {n:ByteArray} (h:nmB n=true):n.data.toList≠[]:=by
 intro e
 rw[show n={data:=#[]} from zdz.1 e] at h
 revert h
 decide
theorem zdA {l:List FT} {i:Nat} {F:FT} {S:ST} {looped:Bool} {seen:List Int} {q:Nat} (ht:0≤S.tag) (hs:∀x∈seen,0≤x) (hb:S.body=[]) (he:S.els=[])
  (h:orE (jumpF S looped) (orE (targetF F S) (orE (calleeF l S) (placeEs F (ST.es S))))=q):
  Like (chkS l i F looped S seen) (orE (tagR (l.map FT.rf) i S.tag.toNat (natS seen)) q,seenR S.tag.toNat (natS seen)):=by
 rw[chkS_eq,hb,he,then_nil,then_nil]
 refine⟨?_,seen_rf ht,seen_pos ht hs⟩
 show askF l i F S looped seen=_
 unfold askF
 rw[h,tag_rf l i ht hs]
theorem zbS {F:FT} {S:ST} (h:S.name={data:=#[]}):targetF F S=0:=by
 unfold targetF;rw[h];rfl
theorem zeU {F:FT} (hF:F.rightB=true) {S:ST} (h:nmB S.name=true):targetF F S=zdy F.rf S.name.data.toList (decide (S.kind=1)):=by
 unfold targetF;rw[if_neg (nm_nil h),named_rf hF]
theorem zbY {S:ST} {looped:Bool} (h:¬(S.kind=6∨S.kind=7)):jumpF S looped=0:=by
 unfold jumpF;rw[if_neg (fun k=>h k.1)]
theorem jump_is {S:ST} {looped:Bool} (h:S.kind=6∨S.kind=7):jumpF S looped=if looped then 0 else 8:=by
 unfold jumpF
 cases looped
 ·rw[if_pos ⟨h,rfl⟩];rfl
 ·rw[if_neg (fun k=>by cases k.2)];rfl
theorem stmts_rf {l:List FT} {i:Nat} {F:FT} (hF:F.rightB=true):∀(n:Nat) (L:List ST),Szs L < n→zam L=true→∀(looped:Bool) (seen:List Int),(∀x∈seen,0≤x) →
  Like (zba l i F looped L seen) (stmtsR (l.map FT.rf) i F.rf looped (natS seen) (rss L)):=by
 intro n
 induction n with
 | zero=>intro L h;omega
 | succ n ih =>
  intro L
  induction L with
  | nil =>
   intro _ _ looped seen hs
   rw[zba,rss,stmtsR]
   exact⟨rfl,rfl,hs⟩
  | cons S L ihL =>
   intro hn hr looped seen hs
   rw[zam,Bool.and_eq_true] at hr
   rw[Szs] at hn
   have hsz:=body_sz S
   rw[zba,rss,stmtsR]
   refine zeT ?_ (fun s hs=>ihL (by omega) hr.2 looped s hs)
   ·obtain⟨t,ht0,ht1,hc⟩:=zct hr.1
    rcases hc with ⟨m,ea,ec,e,ba,bc,la,lc,hm,he,rfl⟩ | ⟨m,ea,ec,e,e2,ba,bc,la,lc,hm,he,he2,rfl⟩ | ⟨m,ea,ec,ba,bc,la,lc,hm,rfl⟩ | ⟨m,f,ea,ec,e,ba,bc,la,lc,hm,hf,he,rfl⟩ | ⟨ea,ec,e,ba,bc,b,la,lc,el,he,hb,hl,rfl⟩ | ⟨ea,ec,e,ba,bc,b,la,lc,he,hb,rfl⟩ | ⟨ea,ec,ba,bc,la,lc,rfl⟩ | ⟨ea,ec,ba,bc,la,lc,rfl⟩ | ⟨ea,ec,e,ba,bc,la,lc,he,rfl⟩ | ⟨ea,ec,e,ba,bc,la,lc,he,rfl⟩
    ·refine zdA ht0 hs rfl rfl ?_
     rw[zbY (by simp[ST.kind]),zeU hF (by exact hm),zbF _ (by simp[ST.kind])]
     show orE 0 (orE _ (orE 0 (placeEs F [e])))=_
     rw[zbX hF [e] (by simp[zaq,he])]
     show orE _ (orE (zbM F.rf e.re) 0)=_
     rw[zay];rfl
    ·refine zdA ht0 hs rfl rfl ?_
     rw[zbY (by simp[ST.kind]),zeU hF (by exact hm),zbF _ (by simp[ST.kind])]
     show orE 0 (orE _ (orE 0 (placeEs F [e,e2])))=_
     rw[zbX hF [e,e2] (by simp[zaq,he,he2])]
     show orE _ (orE (zbM F.rf e.re) (orE (zbM F.rf e2.re) 0))=_
     rw[zay];rfl
    ·refine zdA ht0 hs rfl rfl ?_
     rw[zbY (by simp[ST.kind]),zeU hF (by exact hm),zbF _ (by simp[ST.kind])]
     show orE 0 (orE _ (orE 0 (placeEs F [])))=_
     exact zay _
    ·refine zdA ht0 hs rfl rfl ?_
     rw[zbY (by simp[ST.kind]),zeU hF (by exact hm),callee_rf _ rfl]
     show orE 0 (orE _ (orE _ (placeEs F e)))=_
     rw[zbX hF e he]
     show orE _ (orE (calleeR _ _ e.length) _)=orE _ (orE (calleeR _ _ (res e).length) _)
     unfold res
     rw[List.length_map];rfl
    ·rw[chkS_eq]
     have hw:zao looped (ST.mk 4 t {data:=#[]} {data:=#[]} ea ec [e] ba bc b la lc el)=looped:=by simp[zao,ST.kind]
     rw[hw]
     refine zeT (zeT ?_ (fun s hs=>ih b (by have:=hsz.1;simp only[ST.body] at this;omega) hb looped s hs)) (fun s hs=>ih el (by have:=hsz.2;simp only[ST.els] at this;omega) hl looped s hs)
     refine⟨?_,seen_rf (by exact ht0),seen_pos (by exact ht0) hs⟩
     show askF l i F _ looped seen=_
     unfold askF
     rw[tag_rf l i (by exact ht0) hs,zbY (by simp[ST.kind]),zbS rfl,zbF _ (by simp[ST.kind])]
     show orE _ (placeEs F [e])=_
     rw[zbX hF [e] (by simp[zaq,he])]
     exact congrArg (orE _) (zay _)
    ·rw[chkS_eq]
     have hw:zao looped (ST.mk 5 t {data:=#[]} {data:=#[]} ea ec [e] ba bc b la lc [])=true:=by simp[zao,ST.kind]
     rw[hw]
     show Like (andThen _ (zba l i F true [])) _
     rw[then_nil]
     refine zeT ?_ (fun s hs=>ih b (by have:=hsz.1;simp only[ST.body] at this;omega) hb true s hs)
     refine⟨?_,seen_rf (by exact ht0),seen_pos (by exact ht0) hs⟩
     show askF l i F _ looped seen=_
     unfold askF
     rw[tag_rf l i (by exact ht0) hs,zbY (by simp[ST.kind]),zbS rfl,zbF _ (by simp[ST.kind])]
     show orE _ (placeEs F [e])=_
     rw[zbX hF [e] (by simp[zaq,he])]
     exact congrArg (orE _) (zay _)
    ·refine zdA ht0 hs rfl rfl ?_
     rw[jump_is (by simp[ST.kind]),zbS rfl,zbF _ (by simp[ST.kind])]
     exact zay _
    ·refine zdA ht0 hs rfl rfl ?_
     rw[jump_is (by simp[ST.kind]),zbS rfl,zbF _ (by simp[ST.kind])]
     exact zay _
    ·refine zdA ht0 hs rfl rfl ?_
     rw[zbY (by simp[ST.kind]),zbS rfl,zbF _ (by simp[ST.kind])]
     show placeEs F [e]=_
     rw[zbX hF [e] (by simp[zaq,he])]
     exact zay _
    ·refine zdA ht0 hs rfl rfl ?_
     rw[zbY (by simp[ST.kind]),zbS rfl,zbF _ (by simp[ST.kind])]
     show placeEs F [e]=_
     rw[zbX hF [e] (by simp[zaq,he])]
     exact zay _
/- Functions and programs. -/
theorem names_rf (l:List ByteArray):(l.map fun s=>s.data.toList).Nodup↔l.Nodup:=by
 induction l with
 | nil=>simp
 | cons a l ih =>
  rw[List.map_cons,List.nodup_cons,List.nodup_cons,ih,mem_toL]
theorem rep_rf (l:List ByteArray):repB l=true↔decide (l.map fun s=>s.data.toList).Nodup=false:=by
 unfold repB
 by_cases h:l.Nodup
 ·have:=(names_rf l).2 h;simp[h,this]
 ·have e:decide (l.map fun s=>s.data.toList).Nodup=false:=decide_eq_false (fun k=>h ((names_rf l).1 k))
  rw[e,decide_eq_false h];simp
theorem large_rf {F:FT} (h:F.rightB=true):zdk F=largeR F.rf:=by
 unfold zdk largeR FT.rf
 rw[List.length_map,List.length_map,List.any_map]
 congr 1
 have hv:=(zc8 h).1
 generalize F.vars=l at hv
 induction l with
 | nil=>rfl
 | cons d l ih =>
  rw[List.all_cons,Bool.and_eq_true] at hv
  rw[List.any_cons,List.any_cons,ih hv.2]
  congr 1
  have h0:=hv.1
  unfold zcJ at h0
  rw[Bool.and_eq_true,decide_eq_true_eq] at h0
  simp only[Function.comp]
  have:(64 < d.2)=(64 < d.2.toNat):=propext (by omega)
  simp only[this]
theorem fn_rf {l:List FT} {i:Nat} {F:FT} (hF:F.rightB=true) {seen:List Int} (hs:∀x∈seen,0≤x):Like (fnF l i F seen) (fnR (l.map FT.rf) i F.rf (natS seen)):=by
 unfold fnF fnR
 rw[large_rf hF]
 split
 ·exact⟨rfl,rfl,hs⟩
 ·have e:F.rf.params++F.rf.vars.map (·.1)=(zaV F).map fun s=>s.data.toList:=by
   unfold zaV FT.rf
   rw[List.map_append,List.map_map,List.map_map];rfl
  rw[e]
  by_cases h:repB (zaV F)=true
  ·rw[if_pos h,if_pos ((rep_rf _).1 h)];exact⟨rfl,rfl,hs⟩
  ·rw[if_neg h,if_neg (fun k=>h ((rep_rf _).2 k))]
   exact stmts_rf hF _ _ (Nat.lt_succ_self _) (zc8 hF).2 false seen hs
theorem cnt_rf:∀(n:Nat) (L:List ST),Szs L < n→zam L=true→cnts L=cntSs (rss L):=by
 intro n
 induction n with
 | zero=>intro L h;omega
 | succ n ih =>
  intro L
  induction L with
  | nil=>intros;rw[cnts,rss,cntSs]
  | cons S L ihL =>
   intro hn hr
   rw[zam,Bool.and_eq_true] at hr
   rw[Szs] at hn
   have hsz:=body_sz S
   rw[cnts,rss,cntSs,ihL (by omega) hr.2]
   congr 1
   obtain⟨t,ht0,ht1,hc⟩:=zct hr.1
   rcases hc with ⟨m,ea,ec,e,ba,bc,la,lc,hm,he,rfl⟩ | ⟨m,ea,ec,e,e2,ba,bc,la,lc,hm,he,he2,rfl⟩ | ⟨m,ea,ec,ba,bc,la,lc,hm,rfl⟩ | ⟨m,f,ea,ec,e,ba,bc,la,lc,hm,hf,he,rfl⟩ | ⟨ea,ec,e,ba,bc,b,la,lc,el,he,hb,hl,rfl⟩ | ⟨ea,ec,e,ba,bc,b,la,lc,he,hb,rfl⟩ | ⟨ea,ec,ba,bc,la,lc,rfl⟩ | ⟨ea,ec,ba,bc,la,lc,rfl⟩ | ⟨ea,ec,e,ba,bc,la,lc,he,rfl⟩ | ⟨ea,ec,e,ba,bc,la,lc,he,rfl⟩
   ·rw[ST.cnt];rfl
   ·rw[ST.cnt];rfl
   ·rw[ST.cnt];rfl
   ·rw[ST.cnt];rfl
   ·rw[ST.cnt,ih b (by have:=hsz.1;simp only[ST.body] at this;omega) hb,ih el (by have:=hsz.2;simp only[ST.els] at this;omega) hl];rfl
   ·rw[ST.cnt,ih b (by have:=hsz.1;simp only[ST.body] at this;omega) hb];rfl
   all_goals (rw[ST.cnt];rfl)
theorem sts_rf {l:List FT} (h:l.all FT.rightB=true):stsV l=stsR (l.map FT.rf):=by
 induction l with
 | nil=>rfl
 | cons F l ih =>
  rw[List.all_cons,Bool.and_eq_true] at h
  rw[stsV,List.map_cons,stsR,ih h.2,cnt_rf _ _ (Nat.lt_succ_self _) (zc8 h.1).2];rfl
theorem main_rf (l:List FT):mainB l=mainR (l.map FT.rf):=by
 induction l with
 | nil=>rfl
 | cons F l ih =>
  cases l with
  | nil =>
   show(decide (F.name={data:=#[109,97,105,110]})&&F.params.isEmpty)=(decide (F.name.data.toList=[109,97,105,110])&&(F.params.map fun s=>s.data.toList).isEmpty)
   have:(F.name={data:=#[109,97,105,110]})=(F.name.data.toList=[109,97,105,110]):=propext ⟨fun h=>by rw[h],fun h=>zdz.1 h⟩
   simp only[this]
   cases F.params<;>rfl
  | cons G l=>exact ih
theorem whole_rf {l:List FT} (h:l.all FT.rightB=true):wholeF l=wholeR (l.map FT.rf):=by
 unfold wholeF wholeR
 rw[if_neg (by rw[h];simp),sts_rf h,List.length_map,main_rf]
 have e:(l.map FT.rf).map (·.name)=(l.map (·.name)).map fun s=>s.data.toList:=by rw[List.map_map,List.map_map];rfl
 rw[e]
 split
 ·rfl
 ·by_cases k:repB (l.map (·.name))=true
  ·rw[if_pos k,if_pos ((rep_rf _).1 k)]
  ·rw[if_neg k,if_neg (fun k'=>k ((rep_rf _).2 k'))]
theorem fns_rf (l:List FT):∀(r:List FT) (n:Nat) (seen:List Int),r.all FT.rightB=true→(∀x∈seen,0≤x)→Like (fnsF l n r seen).1 (fnsR (l.map FT.rf) n (r.map FT.rf) (natS seen)).1∧(fnsF l n r seen).2=(fnsR (l.map FT.rf) n (r.map FT.rf) (natS seen)).2
 | [],n,seen,_,hs=>⟨⟨rfl,rfl,hs⟩,rfl⟩
 | F :: r,n,seen,h,hs=>by
  rw[List.all_cons,Bool.and_eq_true] at h
  have hf:=fn_rf (l:=l) (i:=n) h.1 hs
  rw[fnsF,List.map_cons,fnsR,←hf.1]
  split
  ·rw[←hf.2.1]
   exact fns_rf l r (n+1) _ h.2 hf.2.2
  ·exact⟨hf,rfl⟩
theorem prog_rf {l:List FT} (h:l.all FT.rightB=true):Like (zcq l).1 (progR (l.map FT.rf)).1∧(zcq l).2=(progR (l.map FT.rf)).2:=by
 unfold zcq progR
 rw[←whole_rf h]
 split
 ·exact fns_rf l l 0 [] h (fun x hx=>by cases hx)
 ·exact⟨⟨rfl,rfl,fun x hx=>by cases hx⟩,rfl⟩
theorem chk_rf {l:List FT} (h:l.all FT.rightB=true):chkF l=((progR (l.map FT.rf)).1.1,(progR (l.map FT.rf)).2):=by
 have:=prog_rf h
 unfold chkF
 rw[this.2,this.1.1]
end Go.Proofs.YtbilfdapmbahgaaGreatDoor.Ck

namespace Go.Proofs.YtbilfdapmbahgaaGreatDoor.Ck
open Go Go.RowKit Go.Proofs.YtbilfdapmbahgaaGreatDoor
open Go.Lib (hid)
def e4 (F:FT):Nat:=if F.name.data.toList=[109,97,105,110]∧F.params.length=0 then 0 else 10
theorem whole4_any {w0:World} {a:Option Addr} {l:List FT} (hin:FsIn w0 0 a l) (c mb bx bo k:Nat) (hk:k+1=l.length) (w:World) (hp0:Past w0 w) (hx:XBox w bx a l.length c mb) (hb:Box w bo (.slice a l.length c) 22) (hkk:k < l.length):
  Calls Tryz.prog 227 #[.pointer (some ⟨bo,0,none⟩),.pointer (some ⟨bx,0,none⟩)] w fun e w'=>e=.returned (.int .i64 (e4 l[k]:Nat))∧Below w.heap.size w w':=by
 obtain⟨x0,x1,hlx⟩:=zeb hx
 have b0:=hb.c0
 have hlb:=hb.lt
 have hrow:=hin.row k hkk
 obtain⟨kb,ko,rfl,-⟩:=hrow
 have hrow:=hin.row k hkk
 rw[F.cells_is] at hrow
 obtain⟨r0,r1,r2,r3,hkb⟩:=zbf hrow hp0
 have hn:=hin.len
 have el:(l.length:Int) - 1=(k:Int):=by omega
 have hLL:=fun W=>last_any (some ⟨kb,ko,none⟩) l.length c mb hn W
 rw[el] at hLL
 have HL:=hid hLL
 have HC:Hid (∀W,Below w.heap.size w W→(W.cell? ⟨bo,0,none⟩=some (.slice (some ⟨kb,ko,none⟩) l.length c)∧W.cell? ⟨bx,0,none⟩=some (.slice (some ⟨kb,ko,none⟩) l.length c)∧W.cell? ⟨bx,1,none⟩=some (.map (some mb))∧W.cell? ⟨kb,ko+k*4,none⟩=some (.string l[k].name)∧W.cell? ⟨kb,ko+k*4+1,none⟩=some (.slice l[k].pa l[k].params.length l[k].pc)∧W.cell? ⟨kb,ko+k*4+2,none⟩=some (.slice l[k].va l[k].vars.length l[k].vc)∧W.cell? ⟨kb,ko+k*4+3,none⟩=some (.slice l[k].ba l[k].body.length l[k].bc))):=hid (fun W hb=>⟨(hb.cell (p:=⟨bo,0,none⟩) hlb).trans b0,(hb.cell (p:=⟨bx,0,none⟩) hlx).trans x0,(hb.cell (p:=⟨bx,1,none⟩) hlx).trans x1,(hb.cell (p:=⟨kb,ko+k*4,none⟩) hkb).trans r0,(hb.cell (p:=⟨kb,ko+k*4+1,none⟩) hkb).trans r1,(hb.cell (p:=⟨kb,ko+k*4+2,none⟩) hkb).trans r2,(hb.cell (p:=⟨kb,ko+k*4+3,none⟩) hkb).trans r3⟩)
 have hp:Hid (Below w.heap.size w w.drew):=hid ((Below.refl w.heap.size w).drew)
 clear hLL hrow hp0 hin hx hb r0 r1 r2 r3 x0 x1 b0
 go_enter Tryz.func227,Tryz.ntmps227
 go_wp2
 refine wp_region_noPanic ?_
 refine wp_region_held_drew (S:=fun w'=>w'.cell? ⟨bo,0,none⟩=some (.slice (some ⟨kb,ko,none⟩) l.length c)∧w'.cell? ⟨bx,0,none⟩=some (.slice (some ⟨kb,ko,none⟩) l.length c)∧w'.cell? ⟨bx,1,none⟩=some (.map (some mb))∧w'.cell? ⟨kb,ko+k*4,none⟩=some (.string l[k].name)∧w'.cell? ⟨kb,ko+k*4+1,none⟩=some (.slice l[k].pa l[k].params.length l[k].pc)∧w'.cell? ⟨kb,ko+k*4+2,none⟩=some (.slice l[k].va l[k].vars.length l[k].vc)∧w'.cell? ⟨kb,ko+k*4+3,none⟩=some (.slice l[k].ba l[k].body.length l[k].bc)) (by kernel_rfl) ?_ (fun hHeld=>?_)
 ·with_reducible exact HC.out _ hp.out
 refine wpAnyH_take (i:=0) (v:=?_) (opAt rfl) (by kernel_rfl) (by kernel_rfl) (by kernel_rfl) (fun _ _ _ h=>h) (Or.inl ⟨by rfl,?_⟩) (by assumption) ?_
 rotate_left
 ·intro w' hSw;(try dsimp only at hSw);go_simp;(try with_reducible rfl)
 try simp only[Act.put,List.setIfInBounds_toArray,List.set_cons_zero,List.set_cons_succ]
 refine wpAnyH_take (i:=1) (v:=?_) (opAt rfl) (by kernel_rfl) (by kernel_rfl) (by kernel_rfl) (fun _ _ _ h=>h) (Or.inl ⟨by rfl,?_⟩) (by assumption) ?_
 rotate_left
 ·intro w' hSw;(try dsimp only at hSw);go_simp;(try with_reducible rfl)
 try simp only[Act.put,List.setIfInBounds_toArray,List.set_cons_zero,List.set_cons_succ]
 refine wpAnyH_ready (rs:=[2,5]) (by kernel_rfl) (by simp) ?_
 refine AllReadyH.cons (opAt rfl) (fun K hK=>?_) (AllReadyH.cons (opAt rfl) (fun K hK=>?_) AllReadyH.nil)
 ·go_simp
  go_at_call 228;((with_reducible refine(HL.out _).mono ?_);rintro e wk ⟨rfl,hb⟩)
  have hq:=hid (zae hp.out hb)
  clear hp hb
  have hp:=hq
  clear hq
  (try go_wp2_with fail)
  refine hK.out _ _ (HC.out _ hp.out) (fun hHeld2=>?_)
  clear hK K hHeld
  have hHeld:=hHeld2
  clear hHeld2
  try simp only[Act.put,List.setIfInBounds_toArray,List.set_cons_zero,List.set_cons_succ]
  refine wpAnyH_take (i:=3) (v:=?_) (opAt rfl) (by kernel_rfl) (by kernel_rfl) (by kernel_rfl) (fun _ _ _ h=>h) (Or.inl ⟨by rfl,?_⟩) (by assumption) ?_
  rotate_left
  ·intro w' hSw;(try dsimp only at hSw);go_simp;(try with_reducible rfl)
  try simp only[Act.put,List.setIfInBounds_toArray,List.set_cons_zero,List.set_cons_succ]
  refine wpAnyH_take (i:=4) (v:=?_) (opAt rfl) (by kernel_rfl) (by kernel_rfl) (by kernel_rfl) (fun _ _ _ h=>h) (Or.inl ⟨by rfl,?_⟩) (by assumption) ?_
  rotate_left
  ·intro w' hSw;(try dsimp only at hSw);go_simp;(try with_reducible rfl)
  try simp only[Act.put,List.setIfInBounds_toArray,List.set_cons_zero,List.set_cons_succ]
  refine wpAnyH_ready (rs:=[5]) (by kernel_rfl) (by simp) ?_
  refine AllReadyH.cons (opAt rfl) (fun K hK=>?_) AllReadyH.nil
  go_simp
  have HK1:=hp
  have hq:=hid (bal hp.out (.cells #[.string {data:=#[]},.slice none 0 0,.slice none 0 0,.slice none 0 0] 74))
  clear hp
  have hp:=hq
  clear hq
  refine hK.out _ _ (HC.out _ hp.out) (fun hHeld2=>?_)
  clear hK K hHeld
  have hHeld:=hHeld2
  clear hHeld2
  try simp only[Act.put,List.setIfInBounds_toArray,List.set_cons_zero,List.set_cons_succ]
  refine wpAnyH_ready (rs:=[6]) (by kernel_rfl) (by simp) ?_
  refine AllReadyH.cons (opAt rfl) (fun K hK=>?_) AllReadyH.nil
  go_simp
  have hq:=hid (bal HK1.out (.cells #[.string l[k].name,.slice l[k].pa l[k].params.length l[k].pc,.slice l[k].va l[k].vars.length l[k].vc,.slice l[k].ba l[k].body.length l[k].bc] 74))
  clear hp
  have hp:=hq
  clear hq
  refine hK.out _ _ (HC.out _ hp.out) (fun hHeld2=>?_)
  clear hK K hHeld
  have hHeld:=hHeld2
  clear hHeld2
  try simp only[Act.put,List.setIfInBounds_toArray,List.set_cons_zero,List.set_cons_succ]
  refine wpAnyH_done (by kernel_rfl) ?_ _
  refine NoPanic.normal ?_
  by_cases hnm:l[k].name.data.toList=[109,97,105,110]
  ·have e1:l[k].name.toList=[109,97,105,110]:=by rw[ByteArray.toList_eq];exact hnm
   by_cases hpl:l[k].params.length=0
   ·have HV:Hid (e4 l[k]=0):=hid (by unfold e4;rw[if_pos ⟨hnm,hpl⟩])
    have e2:decide (0 < (l[k].params.length:Int))=false:=decide_eq_false (by omega)
    have e3:decide (0 < l[k].params.length)=false:=decide_eq_false (by omega)
    clear hnm hpl
    go_wp2_with (go_at_call 133;refine(zaH _ _ _).mono ?_;rintro e w' ⟨rfl,rfl⟩)
    go_ret
    exact⟨by rw[HV.out];rfl,hp.out⟩
   ·have HV:Hid (e4 l[k]=10):=hid (by unfold e4;rw[if_neg (fun h=>hpl h.2)])
    have e2:decide (0 < (l[k].params.length:Int))=true:=decide_eq_true (by omega)
    have e3:decide (0 < l[k].params.length)=true:=decide_eq_true (by omega)
    clear hnm hpl
    go_wp2_with (go_at_call 133;refine(zaH _ _ _).mono ?_;rintro e w' ⟨rfl,rfl⟩)
    go_ret
    exact⟨by rw[HV.out];rfl,hp.out⟩
  ·have HV:Hid (e4 l[k]=10):=hid (by unfold e4;rw[if_neg (fun h=>hnm h.1)])
   have e1:(l[k].name.toList==[109,97,105,110])=false:=by rw[ByteArray.toList_eq];simpa using hnm
   clear hnm
   go_wp2_with (go_at_call 133;refine(zaH _ _ _).mono ?_;rintro e w' ⟨rfl,rfl⟩)
   go_ret
   exact⟨by rw[HV.out];rfl,hp.out⟩
 ·go_simp
  have hq:=hid (bal hp.out (.cells #[.string {data:=#[]},.slice none 0 0,.slice none 0 0,.slice none 0 0] 74))
  clear hp
  have hp:=hq
  clear hq
  refine hK.out _ _ (HC.out _ hp.out) (fun hHeld2=>?_)
  clear hK K hHeld
  have hHeld:=hHeld2
  clear hHeld2
  try simp only[Act.put,List.setIfInBounds_toArray,List.set_cons_zero,List.set_cons_succ]
  refine wpAnyH_ready (rs:=[2]) (by kernel_rfl) (by simp) ?_
  refine AllReadyH.cons (opAt rfl) (fun K hK=>?_) AllReadyH.nil
  go_simp
  go_at_call 228;((with_reducible refine(HL.out _).mono ?_);rintro e wk ⟨rfl,hb⟩)
  have hq:=hid (zae hp.out hb)
  have hX:=bl hb (nb (.cells #[.string {data:=#[]},.slice none 0 0,.slice none 0 0,.slice none 0 0] 74) rfl)
  clear hp hb
  have hp:=hq
  clear hq
  (try go_wp2_with fail)
  have HX:=hid hX
  clear hX
  refine hK.out _ _ (HC.out _ hp.out) (fun hHeld2=>?_)
  clear hK K hHeld
  have hHeld:=hHeld2
  clear hHeld2
  try simp only[Act.put,List.setIfInBounds_toArray,List.set_cons_zero,List.set_cons_succ]
  refine wpAnyH_take (i:=3) (v:=?_) (opAt rfl) (by kernel_rfl) (by kernel_rfl) (by kernel_rfl) (fun _ _ _ h=>h) (Or.inl ⟨by rfl,?_⟩) (by assumption) ?_
  rotate_left
  ·intro w' hSw;(try dsimp only at hSw);go_simp;(try with_reducible rfl)
  try simp only[Act.put,List.setIfInBounds_toArray,List.set_cons_zero,List.set_cons_succ]
  refine wpAnyH_take (i:=4) (v:=?_) (opAt rfl) (by kernel_rfl) (by kernel_rfl) (by kernel_rfl) (fun _ _ _ h=>h) (Or.inl ⟨by rfl,?_⟩) (by assumption) ?_
  rotate_left
  ·intro w' hSw;(try dsimp only at hSw);go_simp;(try with_reducible rfl)
  try simp only[Act.put,List.setIfInBounds_toArray,List.set_cons_zero,List.set_cons_succ]
  refine wpAnyH_ready (rs:=[6]) (by kernel_rfl) (by simp) ?_
  refine AllReadyH.cons (opAt rfl) (fun K hK=>?_) AllReadyH.nil
  have z0:=zab (k:=0) HX.out rfl
  have z1:=zab (k:=1) HX.out rfl
  have z2:=zab (k:=2) HX.out rfl
  have z3:=zab (k:=3) HX.out rfl
  have y:=fun k=>zaf (k:=k) HX.out
  go_simp
  have hq:=hid ((((hp.out.setCell (p:=⟨w.heap.size,0,none⟩) (Nat.le_refl _) (.string l[k].name)).setCell (p:=⟨w.heap.size,1,none⟩) (Nat.le_refl _) (.slice l[k].pa l[k].params.length l[k].pc)).setCell (p:=⟨w.heap.size,2,none⟩) (Nat.le_refl _) (.slice l[k].va l[k].vars.length l[k].vc)).setCell (p:=⟨w.heap.size,3,none⟩) (Nat.le_refl _) (.slice l[k].ba l[k].body.length l[k].bc))
  have hx4:=zat (k:=3) (.slice l[k].ba l[k].body.length l[k].bc) (zat (k:=2) (.slice l[k].va l[k].vars.length l[k].vc) (zat (k:=1) (.slice l[k].pa l[k].params.length l[k].pc) (zat (k:=0) (.string l[k].name) HX.out)))
  have d0:=zab (k:=0) hx4 rfl
  have d1:=zab (k:=1) hx4 rfl
  have dl:=zbB hx4
  clear hp z0 z1 z2 z3 y hx4
  have hp:=hq
  clear hq
  refine hK.out _ _ (HC.out _ hp.out) (fun hHeld2=>?_)
  clear hK K hHeld
  have hHeld:=hHeld2
  clear hHeld2
  try simp only[Act.put,List.setIfInBounds_toArray,List.set_cons_zero,List.set_cons_succ]
  refine wpAnyH_done (by kernel_rfl) ?_ _
  refine NoPanic.normal ?_
  by_cases hnm:l[k].name.data.toList=[109,97,105,110]
  ·have e1:l[k].name.toList=[109,97,105,110]:=by rw[ByteArray.toList_eq];exact hnm
   by_cases hpl:l[k].params.length=0
   ·have HV:Hid (e4 l[k]=0):=hid (by unfold e4;rw[if_pos ⟨hnm,hpl⟩])
    have e2:decide (0 < (l[k].params.length:Int))=false:=decide_eq_false (by omega)
    have e3:decide (0 < l[k].params.length)=false:=decide_eq_false (by omega)
    clear hnm hpl
    go_wp2_with (go_at_call 133;refine(zaH _ _ _).mono ?_;rintro e w' ⟨rfl,rfl⟩)
    go_ret
    exact⟨by rw[HV.out];rfl,hp.out⟩
   ·have HV:Hid (e4 l[k]=10):=hid (by unfold e4;rw[if_neg (fun h=>hpl h.2)])
    have e2:decide (0 < (l[k].params.length:Int))=true:=decide_eq_true (by omega)
    have e3:decide (0 < l[k].params.length)=true:=decide_eq_true (by omega)
    clear hnm hpl
    go_wp2_with (go_at_call 133;refine(zaH _ _ _).mono ?_;rintro e w' ⟨rfl,rfl⟩)
    go_ret
    exact⟨by rw[HV.out];rfl,hp.out⟩
  ·have HV:Hid (e4 l[k]=10):=hid (by unfold e4;rw[if_neg (fun h=>hnm h.1)])
   have e1:(l[k].name.toList==[109,97,105,110])=false:=by rw[ByteArray.toList_eq];simpa using hnm
   clear hnm
   go_wp2_with (go_at_call 133;refine(zaH _ _ _).mono ?_;rintro e w' ⟨rfl,rfl⟩)
   go_ret
   exact⟨by rw[HV.out];rfl,hp.out⟩
end Go.Proofs.YtbilfdapmbahgaaGreatDoor.Ck
