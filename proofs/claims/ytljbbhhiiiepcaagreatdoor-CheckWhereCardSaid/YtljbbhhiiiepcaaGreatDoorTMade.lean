/- Worlds between which little has turned: what they keep of expressions and statements; rows of one expression, of two. -/
import Derived.Test.YtljbbhhiiiepcaaGreatDoorTStHeap
import Derived.Maps.AppendAt
set_option linter.unusedSimpArgs false
set_option linter.unusedVariables false
set_option maxHeartbeats 8000000
set_option maxRecDepth 100000
namespace Go.Proofs.YtljbbhhiiiepcaaGreatDoor
open Go Go.RowKit
abbrev mE:ByteArray:={data:=#[]}
theorem zaZ (w:World) (f k:Nat) (u:Value):w.grownBy (w.setCell ⟨f,k,none⟩ u) (some f):=
 ⟨rfl,rfl,rfl,by simp[World.setCell],fun k _ hk=>Below.heap_setCell _ _ _ _ (fun e=>hk (by simp[e]))⟩
theorem zaf (w:World) (r:Option Nat):w.grownBy w r:=⟨rfl,rfl,rfl,Nat.le_refl _,fun _ _ _=>rfl⟩
theorem zaa {w w1 w2:World} {r:Option Nat} (h:w.grownBy w1 r) (k:w1.grownBy w2 r):w.grownBy w2 r:=
 ⟨k.os.trans h.os,k.tape.trans h.tape,k.output.trans h.output,Nat.le_trans h.size k.size,fun i hi hr=>(k.block i (Nat.lt_of_lt_of_le hi h.size) hr).trans (h.block i hi hr)⟩
theorem zad {w w1:World} {r:Option Nat} (h:w.grownBy w1 r) (o:Obj):w.grownBy (w1.alloc o) r:=zaa h (World.grownBy_alloc _ o r)
theorem zal {w w1:World} {r:Option Nat} (h:w.grownBy w1 r):w.grownBy w1.drew r:=zaa h ⟨rfl,rfl,rfl,Nat.le_refl _,fun _ _ _=>rfl⟩
theorem zas {w w1:World} {r:Option Nat} (h:w.grownBy w1 r) (n:Nat):w.grownBy (w1.drewN n) r:=zaa h ⟨rfl,rfl,rfl,Nat.le_refl _,fun _ _ _=>rfl⟩
theorem zat {w w1:World} {f:Nat} (h:w.grownBy w1 (some f)) (k:Nat) (u:Value):w.grownBy (w1.setCell ⟨f,k,none⟩ u) (some f):=zaa h (zaZ _ _ _ _)
theorem zag {w w1:World} {r:Option Nat} (h:w.grownBy w1 r) {R:Nat} (hR:w.heap.size≤R) (k:Nat) (u:Value):w.grownBy (w1.setCell ⟨R,k,none⟩ u) r:=
 ⟨h.os,h.tape,h.output,by simpa[World.setCell] using h.size,fun i hi hr=>(Below.heap_setCell _ _ _ _ (by simp;omega)).trans (h.block i hi hr)⟩
theorem num_in {n:Int} (h:-9223372036854775808≤n∧n≤9223372036854775807) (w:World) (B:Nat):(ET.mk 0 mE n mE none 0 []).In w B:=by
 rw[ET.In,EsIn]
 exact⟨h,by simp,trivial⟩
theorem var_in (s:ByteArray) (w:World) (B:Nat):(ET.mk 1 mE 0 s none 0 []).In w B:=by
 rw[ET.In,EsIn]
 exact⟨by decide,by simp,trivial⟩
theorem zbG {w w':World} {R A:Nat} (hg:w.grownBy w' (some R)) (hR:R < A):∀p v,A≤p.block→w.cell? p=some v→w'.cell? p=some v:=fun p v hp hc=>by
 rw[World.cell?_of_block (w:=w) (hg.block p.block (World.block_lt_of_cell? w p hc) (by simp;omega))]
 exact hc
abbrev five (T:ET):Array Value:=#[.int .i64 T.kind,.string T.op,.int .i64 T.n,.string T.name,.slice T.kaddr T.kids.length T.kcap]
theorem kid_in {wx w':World} {A R:Nat} {T:ET} (h:T.In wx A) (hx:A≤wx.heap.size) (hR:R < A) (hA:(wx.alloc (.cells (five T) 68)).grownBy w' (some R)) (k:Int) (o s:ByteArray):(ET.mk k o 0 s (some ⟨wx.heap.size,0,none⟩) 1 [T]).In w' R:=by
 have h1:T.In w' R:=((h.on ((Below.refl _ _).alloc (Nat.le_refl _) _)).keep (zbG hA hR)).mono (Nat.le_of_lt hR)
 have h2:w'.heap[wx.heap.size]?=some (.cells (five T) 68 (0,0)):=(hA.block _ (by simp) (by simp;omega)).trans (zaj _ _)
 rw[ET.In,EsIn,EsIn]
 refine⟨by decide,by simp,⟨wx.heap.size,0,rfl,by omega,fun j v hj=>zab h2 ?_⟩,h1,trivial⟩
 rw[ET.cells_is] at hj
 rw[show 0+0*5+j=j by omega]
 exact hj
structure KeptP (P:Nat→Prop) (w w':World):Prop where
 os:w'.os=w.os
 tape:w'.tape=w.tape
 output:w'.output=w.output
 size:w.heap.size≤w'.heap.size
 block:∀k,k < w.heap.size→¬P k→w'.heap[k]?=w.heap[k]?
section
variable {P:Nat→Prop} {a w w':World}
theorem KeptP.refl (P:Nat→Prop) (w:World):KeptP P w w:=⟨rfl,rfl,rfl,Nat.le_refl _,fun _ _ _=>rfl⟩
theorem KeptP.trans (h:KeptP P a w) (k:KeptP P w w'):KeptP P a w':=
 ⟨k.os.trans h.os,k.tape.trans h.tape,k.output.trans h.output,Nat.le_trans h.size k.size,fun i hi hp=>(k.block i (Nat.lt_of_lt_of_le hi h.size) hp).trans (h.block i hi hp)⟩
theorem KeptP.alloc (h:KeptP P a w) (o:Obj):KeptP P a (w.alloc o):=h.trans ⟨rfl,rfl,rfl,(World.grownBy_alloc w o none).size,fun k hk _=>Below.heap_alloc w o k hk⟩
theorem KeptP.drew (h:KeptP P a w):KeptP P a w.drew:=h.trans ⟨rfl,rfl,rfl,Nat.le_refl _,fun _ _ _=>rfl⟩
theorem KeptP.drewN (h:KeptP P a w) (n:Nat):KeptP P a (w.drewN n):=h.trans ⟨rfl,rfl,rfl,Nat.le_refl _,fun _ _ _=>rfl⟩
theorem KeptP.set (h:KeptP P a w) {b:Nat} (hb:P b) (k:Nat) (u:Value):KeptP P a (w.setCell ⟨b,k,none⟩ u):=h.trans ⟨rfl,rfl,rfl,by simp[World.setCell],fun i _ hp=>Below.heap_setCell _ _ _ _ (by rintro rfl;exact hp hb)⟩
theorem KeptP.grown (h:KeptP P a w) {b:Nat} (hb:P b) (hg:w.grownBy w' (some b)):KeptP P a w':=h.trans ⟨hg.os,hg.tape,hg.output,hg.size,fun i hi hp=>hg.block i hi (by simp;rintro rfl;exact hp hb)⟩
theorem KeptP.cell (h:KeptP P w w') {p:Addr} {v:Value} (hp:¬P p.block) (hc:w.cell? p=some v):w'.cell? p=some v:=by
 rw[World.cell?_of_block (w:=w) (h.block p.block (World.block_lt_of_cell? w p hc) hp)]
 exact hc
theorem KeptP.et (h:KeptP P w w') {A:Nat} (hP:∀b,A≤b→¬P b) {T:ET} (hT:T.In w A):T.In w' A:=hT.keep fun p v hp hc=>h.cell (hP _ hp) hc
theorem KeptP.ss (h:KeptP P w w') {A i:Nat} {q:Option Addr} {l:List ST} (hP:∀b,A≤b→¬P b) (hT:SsIn w A q i l):SsIn w' A q i l:=hT.keep fun p v hp hc=>h.cell (hP _ hp) hc
end
theorem zbw {w':World} {N B':Nat} {T:ET} (h2:w'.heap[N]?=some (.cells (five T) 68 (0,0))) (hT:T.In w' B') (hN:B'≤N):EsIn w' B' (some ⟨N,0,none⟩) 0 [T]:=by
 rw[EsIn,EsIn]
 refine⟨⟨N,0,rfl,hN,fun j u hj=>zab h2 ?_⟩,hT,trivial⟩
 rw[ET.cells_is] at hj
 rw[show 0+0*5+j=j by omega]
 exact hj
abbrev ten (T U:ET):Array Value:=#[.int .i64 T.kind,.string T.op,.int .i64 T.n,.string T.name,.slice T.kaddr T.kids.length T.kcap,.int .i64 U.kind,.string U.op,.int .i64 U.n,.string U.name,.slice U.kaddr U.kids.length U.kcap]
theorem five_lt {T:ET} {j:Nat} {u:Value} (h:(five T)[j]?=some u):j < 5:=by
 rcases Nat.lt_or_ge j 5 with h2 | h2
 ·exact h2
 ·rw[Array.getElem?_eq_none (by simpa using h2)] at h;cases h
theorem ten_fst {T U:ET} {j:Nat} {u:Value} (h:(five T)[j]?=some u):(ten T U)[j]?=some u:=by
 match j,five_lt h with
 | 0,_=>exact h
 | 1,_=>exact h
 | 2,_=>exact h
 | 3,_=>exact h
 | 4,_=>exact h
theorem ten_snd {T U:ET} {j:Nat} {u:Value} (h:(five U)[j]?=some u):(ten T U)[5+j]?=some u:=by
 match j,five_lt h with
 | 0,_=>exact h
 | 1,_=>exact h
 | 2,_=>exact h
 | 3,_=>exact h
 | 4,_=>exact h
theorem zd6 {w':World} {N B':Nat} {T U:ET} {cs:Array Value} {t:TypeId} {fr:Nat×Nat} (h2:w'.heap[N]?=some (.cells cs t fr)) (hc:∀(j:Nat) (u:Value),(ten T U)[j]?=some u→cs[j]?=some u) (hT:T.In w' B') (hU:U.In w' B') (hN:B'≤N):EsIn w' B' (some ⟨N,0,none⟩) 0 [T,U]:=by
 rw[EsIn,EsIn,EsIn]
 refine⟨⟨N,0,rfl,hN,fun j u hj=>zab h2 ?_⟩,hT,⟨N,0,rfl,hN,fun j u hj=>zab h2 ?_⟩,hU,trivial⟩
 ·rw[ET.cells_is] at hj
  rw[show 0+0*5+j=j by omega]
  exact hc _ _ (ten_fst hj)
 ·rw[ET.cells_is] at hj
  rw[show 0+(0+1)*5+j=5+j by omega]
  exact hc _ _ (ten_snd hj)
def hide (g:Option Nat) (w:World):World:=
 match g with
 | none=>w
 | some b=>{w with heap:=w.heap.modify b fun _=>.cells #[] 0 (0,0)}
theorem zav {g:Option Nat} {w:World} {p:Addr} {v:Value}:(hide g w).cell? p=some v↔some p.block≠g∧w.cell? p=some v:=by
 cases g with
 | none=>simp[hide]
 | some b =>
  by_cases h:b=p.block
  ·subst h
   constructor
   ·intro hc
    exfalso
    cases hh:w.heap[p.block]? with
    | none=>simp[hide,World.cell?,Array.getElem?_modify,hh] at hc
    | some o=>simp[hide,World.cell?,Array.getElem?_modify,hh] at hc
   ·intro⟨hn,_⟩;exact absurd rfl hn
  ·have e:(hide (some b) w).heap[p.block]?=w.heap[p.block]?:=by simp[hide,Array.getElem?_modify,h]
   rw[World.cell?_of_block e]
   simp;intro _ hb;exact h hb.symm
theorem zcN {w:World} {b:Nat} {v0 v1 v2 v3:Value} {t:TypeId} (h:w.heap[b]?=some (.cells #[v0,v1,v2,v3] t (0,0))):(∀k,w.frozen? ⟨b,k,none⟩=false)∧w.cell? ⟨b,0,none⟩=some v0∧w.cell? ⟨b,1,none⟩=some v1∧w.cell? ⟨b,2,none⟩=some v2∧w.cell? ⟨b,3,none⟩=some v3∧b < w.heap.size:=
 ⟨fun k=>zac h,zab h rfl,zab h rfl,zab h rfl,zab h rfl,lt_of_block h⟩
theorem zaL {w:World} {b:Nat} {v0 v1 v2 v3 v4:Value} {t:TypeId} (h:w.heap[b]?=some (.cells #[v0,v1,v2,v3,v4] t (0,0))):(∀k,w.frozen? ⟨b,k,none⟩=false)∧w.cell? ⟨b,0,none⟩=some v0∧w.cell? ⟨b,1,none⟩=some v1∧w.cell? ⟨b,2,none⟩=some v2∧w.cell? ⟨b,3,none⟩=some v3∧w.cell? ⟨b,4,none⟩=some v4∧b < w.heap.size:=
 ⟨fun k=>zac h,zab h rfl,zab h rfl,zab h rfl,zab h rfl,zab h rfl,lt_of_block h⟩
theorem zax {w:World} {b:Nat} {v0 v1 v2 v3 v4 v5 v6:Value} {t:TypeId} (h:w.heap[b]?=some (.cells #[v0,v1,v2,v3,v4,v5,v6] t (0,0))):(∀k,w.frozen? ⟨b,k,none⟩=false)∧w.cell? ⟨b,0,none⟩=some v0∧w.cell? ⟨b,1,none⟩=some v1∧w.cell? ⟨b,2,none⟩=some v2∧w.cell? ⟨b,3,none⟩=some v3∧w.cell? ⟨b,4,none⟩=some v4∧w.cell? ⟨b,5,none⟩=some v5∧w.cell? ⟨b,6,none⟩=some v6∧b < w.heap.size:=
 ⟨fun k=>zac h,zab h rfl,zab h rfl,zab h rfl,zab h rfl,zab h rfl,zab h rfl,zab h rfl,lt_of_block h⟩
end Go.Proofs.YtljbbhhiiiepcaaGreatDoor
namespace Go.Proofs.YtljbbhhiiiepcaaGreatDoor
open Go Go.RowKit
def MadeL (B0:Nat) (v:Value) (l:List ST) (w:World):Prop:=
 w.ownsRow B0 66 7 v l.length (l.flatMap fun S=>S.cells.toList)∧∀S∈l,S.In (hide v.ownBlock w) B0
theorem made_nil (B0:Nat) (w:World):MadeL B0 (.slice none 0 0) [] w:=⟨World.ownsRow_nil _ _ _ _,fun S hS=>by cases hS⟩
theorem MadeL.grown {B0 f:Nat} {v:Value} {l:List ST} {w w':World} (h:MadeL B0 v l w) (hg:w.grownBy w' (some f)) (hf:f < B0):MadeL B0 v l w':=by
 have hne:v.ownBlock≠some f:=fun e=>by have:=(h.1.lt _ e).1;omega
 refine⟨h.1.kept hg (Or.inr hne),fun S hS=>(h.2 S hS).keep fun p u hp hc=>?_⟩
 rw[zav] at hc ⊢
 refine⟨hc.1,?_⟩
 rw[World.cell?_of_block (w:=w) (hg.block p.block (World.block_lt_of_cell? w p hc.2) (by simp;omega))]
 exact hc.2
theorem MadeL.alloc {B0:Nat} {v:Value} {l:List ST} {w:World} (h:MadeL B0 v l w) (o:Obj):MadeL B0 v l (w.alloc o):=by
 refine⟨h.1.alloc o,fun S hS=>(h.2 S hS).keep fun p u hp hc=>?_⟩
 rw[zav] at hc ⊢
 refine⟨hc.1,?_⟩
 rw[World.cell?_alloc_lt _ _ _ (World.block_lt_of_cell? w p hc.2)]
 exact hc.2
theorem MadeL.snoc {B0 A:Nat} {v v':Value} {l:List ST} {S:ST} {w w':World} (h:MadeL B0 v l w) (hS:S.In w A) (hA:B0≤A) (hv:∀k,v.ownBlock=some k→k < A)
  (hown:w'.ownsRow B0 66 7 v' (l.length+1) ((l.flatMap fun S=>S.cells.toList)++S.cells.toList)) (hg:w.grownBy w' v.ownBlock) (hat:v'.ownBlock=v.ownBlock∨v'.ownBlock=some w.heap.size):MadeL B0 v' (l++[S]) w':=by
 have key:∀{T:ST},T.In (hide v.ownBlock w) B0→T.In (hide v'.ownBlock w') B0:=fun hT=>hT.keep fun p u hp hc=>by
  rw[zav] at hc ⊢
  have hlt:=World.block_lt_of_cell? w p hc.2
  refine⟨?_,?_⟩
  ·rcases hat with e | e
   ·rw[e];exact hc.1
   ·rw[e];simp;omega
  ·rw[World.cell?_of_block (w:=w) (hg.block p.block hlt hc.1)]
   exact hc.2
 refine⟨by simpa using hown,fun T hT=>?_⟩
 rcases List.mem_append.1 hT with hT | hT
 ·exact key (h.2 T hT)
 ·simp only[List.mem_singleton] at hT
  subst hT
  refine key ((hS.keep (w':=hide v.ownBlock w) fun p u hp hc=>?_).mono hA)
  rw[zav]
  refine⟨fun e=>?_,hc⟩
  have:=hv _ e.symm
  omega
theorem zcn (S:ST):S.cells.toList.length=7:=by cases S;rfl
theorem flat_at:∀(l:List ST) (i j:Nat) (hi:i < l.length),j < 7→(l.flatMap fun S=>S.cells.toList)[i*7+j]?=l[i].cells.toList[j]?
 | S :: l,0,j,_,hj=>by
  rw[List.flatMap_cons,List.getElem?_append_left (by rw[zcn];omega)]
  simp
 | S :: l,i+1,j,hi,hj=>by
  rw[List.flatMap_cons,List.getElem?_append_right (by rw[zcn];omega),zcn]
  rw[show(i+1)*7+j - 7=i*7+j by omega]
  exact flat_at l i j (by simpa using hi) hj
theorem ss_of_rows {w:World} {B:Nat} {a:Option Addr}:∀(l:List ST) (i:Nat),(∀j (hj:j < l.length),RowAt w B a (i+j) 7 l[j].cells∧l[j].In w B)→SsIn w B a i l
 | [],i,_=>by rw[SsIn];trivial
 | S :: l,i,h=>by
  rw[SsIn]
  refine⟨(h 0 (by simp)).1,(h 0 (by simp)).2,ss_of_rows l (i+1) fun j hj=>?_⟩
  have:=h (j+1) (by simpa using hj)
  rw[show i+(j+1)=i+1+j by omega] at this
  exact this
theorem MadeL.ss {B0:Nat} {v:Value} {l:List ST} {w:World} (h:MadeL B0 v l w):∃a c,v=.slice a l.length c∧SsIn w B0 a 0 l∧l.length≤c:=by
 have hin:∀S∈l,S.In w B0:=fun S hS=>(h.2 S hS).keep fun p u hp hc=>(zav.1 hc).2
 rcases h.1.2 with ⟨e,hl⟩ | ⟨g,cap,cur,e,hg,hb,hn,hm,hs,ht⟩
 ·have:l=[]:=List.length_eq_zero_iff.1 hl
  subst this
  exact⟨none,0,e,by rw[SsIn];trivial,Nat.le_refl _⟩
 ·refine⟨some ⟨g,0,none⟩,cap,e,ss_of_rows l 0 fun j hj=>⟨⟨g,0,rfl,hg,fun k u hk=>?_⟩,hin _ (List.getElem_mem hj)⟩,hn⟩
  have hk7:k < 7:=by
   have h1:=zcn l[j]
   rcases Nat.lt_or_ge k 7 with h2 | h2
   ·exact h2
   ·rw[Array.getElem?_eq_none (by simpa using (by rw[←h1] at h2;simpa using h2))] at hk;cases hk
  refine zab hb ?_
  have h1:=flat_at l j k hj hk7
  rw[←ht] at h1
  rw[List.getElem?_take_of_lt (by omega)] at h1
  rw[show 0+(0+j)*7+k=j*7+k by omega,←Array.getElem?_toList,h1,Array.getElem?_toList]
  exact hk
def MadeE (B0:Nat) (v:Value) (l:List ET) (w:World):Prop:=
 w.ownsRow B0 68 5 v l.length (l.flatMap fun S=>S.cells.toList)∧∀S∈l,S.In (hide v.ownBlock w) B0
theorem MadeE.grown {B0 f:Nat} {v:Value} {l:List ET} {w w':World} (h:MadeE B0 v l w) (hg:w.grownBy w' (some f)) (hf:f < B0):MadeE B0 v l w':=by
 have hne:v.ownBlock≠some f:=fun e=>by have:=(h.1.lt _ e).1;omega
 refine⟨h.1.kept hg (Or.inr hne),fun S hS=>(h.2 S hS).keep fun p u hp hc=>?_⟩
 rw[zav] at hc ⊢
 refine⟨hc.1,?_⟩
 rw[World.cell?_of_block (w:=w) (hg.block p.block (World.block_lt_of_cell? w p hc.2) (by simp;omega))]
 exact hc.2
theorem MadeE.alloc {B0:Nat} {v:Value} {l:List ET} {w:World} (h:MadeE B0 v l w) (o:Obj):MadeE B0 v l (w.alloc o):=by
 refine⟨h.1.alloc o,fun S hS=>(h.2 S hS).keep fun p u hp hc=>?_⟩
 rw[zav] at hc ⊢
 refine⟨hc.1,?_⟩
 rw[World.cell?_alloc_lt _ _ _ (World.block_lt_of_cell? w p hc.2)]
 exact hc.2
theorem MadeE.snoc {B0 A:Nat} {v v':Value} {l:List ET} {S:ET} {w w':World} (h:MadeE B0 v l w) (hS:S.In w A) (hA:B0≤A) (hv:∀k,v.ownBlock=some k→k < A)
  (hown:w'.ownsRow B0 68 5 v' (l.length+1) ((l.flatMap fun S=>S.cells.toList)++S.cells.toList)) (hg:w.grownBy w' v.ownBlock) (hat:v'.ownBlock=v.ownBlock∨v'.ownBlock=some w.heap.size):MadeE B0 v' (l++[S]) w':=by
 have key:∀{T:ET},T.In (hide v.ownBlock w) B0→T.In (hide v'.ownBlock w') B0:=fun hT=>hT.keep fun p u hp hc=>by
  rw[zav] at hc ⊢
  have hlt:=World.block_lt_of_cell? w p hc.2
  refine⟨?_,?_⟩
  ·rcases hat with e | e
   ·rw[e];exact hc.1
   ·rw[e];simp;omega
  ·rw[World.cell?_of_block (w:=w) (hg.block p.block hlt hc.1)]
   exact hc.2
 refine⟨by simpa using hown,fun T hT=>?_⟩
 rcases List.mem_append.1 hT with hT | hT
 ·exact key (h.2 T hT)
 ·simp only[List.mem_singleton] at hT
  subst hT
  refine key ((hS.keep (w':=hide v.ownBlock w) fun p u hp hc=>?_).mono hA)
  rw[zav]
  refine⟨fun e=>?_,hc⟩
  have:=hv _ e.symm
  omega
theorem zdF (S:ET):S.cells.toList.length=5:=by cases S;rfl
theorem flat_atE:∀(l:List ET) (i j:Nat) (hi:i < l.length),j < 5→(l.flatMap fun S=>S.cells.toList)[i*5+j]?=l[i].cells.toList[j]?
 | S :: l,0,j,_,hj=>by
  rw[List.flatMap_cons,List.getElem?_append_left (by rw[zdF];omega)]
  simp
 | S :: l,i+1,j,hi,hj=>by
  rw[List.flatMap_cons,List.getElem?_append_right (by rw[zdF];omega),zdF]
  rw[show(i+1)*5+j - 5=i*5+j by omega]
  exact flat_atE l i j (by simpa using hi) hj
theorem es_of_rows {w:World} {B:Nat} {a:Option Addr}:∀(l:List ET) (i:Nat),(∀j (hj:j < l.length),RowAt w B a (i+j) 5 l[j].cells∧l[j].In w B)→EsIn w B a i l
 | [],i,_=>by rw[EsIn];trivial
 | S :: l,i,h=>by
  rw[EsIn]
  refine⟨(h 0 (by simp)).1,(h 0 (by simp)).2,es_of_rows l (i+1) fun j hj=>?_⟩
  have:=h (j+1) (by simpa using hj)
  rw[show i+(j+1)=i+1+j by omega] at this
  exact this
theorem MadeE.es {B0:Nat} {v:Value} {l:List ET} {w:World} (h:MadeE B0 v l w):∃a c,v=.slice a l.length c∧EsIn w B0 a 0 l:=by
 have hin:∀S∈l,S.In w B0:=fun S hS=>(h.2 S hS).keep fun p u hp hc=>(zav.1 hc).2
 rcases h.1.2 with ⟨e,hl⟩ | ⟨g,cap,cur,e,hg,hb,hn,hm,hs,ht⟩
 ·have:l=[]:=List.length_eq_zero_iff.1 hl
  subst this
  exact⟨none,0,e,by rw[EsIn];trivial⟩
 ·refine⟨some ⟨g,0,none⟩,cap,e,es_of_rows l 0 fun j hj=>⟨⟨g,0,rfl,hg,fun k u hk=>?_⟩,hin _ (List.getElem_mem hj)⟩⟩
  have hk5:k < 5:=by
   have h1:=zdF l[j]
   rcases Nat.lt_or_ge k 5 with h2 | h2
   ·exact h2
   ·rw[Array.getElem?_eq_none (by simpa using (by rw[←h1] at h2;simpa using h2))] at hk;cases hk
  refine zab hb ?_
  have h1:=flat_atE l j k hj hk5
  rw[←ht] at h1
  rw[List.getElem?_take_of_lt (by omega)] at h1
  rw[show 0+(0+j)*5+k=j*5+k by omega,←Array.getElem?_toList,h1,Array.getElem?_toList]
  exact hk
end Go.Proofs.YtljbbhhiiiepcaaGreatDoor
