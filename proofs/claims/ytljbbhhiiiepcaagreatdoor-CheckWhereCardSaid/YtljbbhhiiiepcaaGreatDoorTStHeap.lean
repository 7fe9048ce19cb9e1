/- What PutExpr answers of a right expression. -/
import Derived.Test.YtljbbhhiiiepcaaGreatDoorTExpr4
set_option linter.unusedSimpArgs false
set_option linter.unusedVariables false
set_option maxHeartbeats 8000000
set_option maxRecDepth 100000
namespace Go.Proofs.YtljbbhhiiiepcaaGreatDoor
open Go Go.RowKit
end Go.Proofs.YtljbbhhiiiepcaaGreatDoor
namespace Go.Proofs.YtljbbhhiiiepcaaGreatDoor
open Go Go.RowKit
inductive ST where
 | mk (kind tag:Int) (name func:ByteArray) (ea:Option Addr) (ec:Nat) (e:List ET) (ba:Option Addr) (bc:Nat) (body:List ST) (la:Option Addr) (lc:Nat) (els:List ST)
def ST.cells:ST→Array Value
 | .mk k t n f ea ec e ba bc b la lc l=>#[.int .i64 k,.int .i64 t,.string n,.string f,.slice ea e.length ec,.slice ba b.length bc,.slice la l.length lc]
abbrev ST.val (S:ST):Value:=.agg S.cells
mutual
def ST.In (w:World) (B:Nat):ST→Prop
 | .mk _ t _ _ ea _ e ba _ b la _ l=>(-9223372036854775808≤t∧t≤9223372036854775807)∧(e.length≤9223372036854775807∧b.length≤9223372036854775807∧l.length≤9223372036854775807)∧EsIn w B ea 0 e∧SsIn w B ba 0 b∧SsIn w B la 0 l
def SsIn (w:World) (B:Nat) (a:Option Addr):Nat→List ST→Prop
 | _,[]=>True
 | i,S :: l=>RowAt w B a i 7 S.cells∧S.In w B∧SsIn w B a (i+1) l
end
mutual
theorem ST.In.keep {w w':World} {B:Nat} (hk:∀p v,B≤p.block→w.cell? p=some v→w'.cell? p=some v):∀{S:ST},S.In w B→S.In w' B
 | .mk k t n f ea ec e ba bc b la lc l,h=>by
  rw[ST.In] at h ⊢
  exact⟨h.1,h.2.1,h.2.2.1.keep hk,SsIn.keep hk h.2.2.2.1,SsIn.keep hk h.2.2.2.2⟩
theorem SsIn.keep {w w':World} {B:Nat} {a:Option Addr} (hk:∀p v,B≤p.block→w.cell? p=some v→w'.cell? p=some v):∀{i:Nat} {l:List ST},SsIn w B a i l→SsIn w' B a i l
 | _,[],_=>by rw[SsIn];trivial
 | i,S :: l,h=>by
  rw[SsIn] at h ⊢
  exact⟨h.1.keep hk,h.2.1.keep hk,SsIn.keep hk h.2.2⟩
end
mutual
theorem ST.In.mono {w:World} {B B':Nat} (hB:B'≤B):∀{S:ST},S.In w B→S.In w B'
 | .mk k t n f ea ec e ba bc b la lc l,h=>by
  rw[ST.In] at h ⊢
  exact⟨h.1,h.2.1,h.2.2.1.mono hB,SsIn.mono hB h.2.2.2.1,SsIn.mono hB h.2.2.2.2⟩
theorem SsIn.mono {w:World} {B B':Nat} {a:Option Addr} (hB:B'≤B):∀{i:Nat} {l:List ST},SsIn w B a i l→SsIn w B' a i l
 | _,[],_=>by rw[SsIn];trivial
 | i,S :: l,h=>by
  rw[SsIn] at h ⊢
  exact⟨h.1.mono hB,h.2.1.mono hB,SsIn.mono hB h.2.2⟩
end
theorem ST.In.on {w w':World} {B:Nat} {S:ST} (h:S.In w B) (hb:Below w.heap.size w w'):S.In w' B:=h.keep (zaP hb)
theorem SsIn.on {w w':World} {B:Nat} {a:Option Addr} {i:Nat} {l:List ST} (h:SsIn w B a i l) (hb:Below w.heap.size w w'):SsIn w' B a i l:=h.keep (zaP hb)
theorem SsIn.nth {w:World} {B:Nat} {a:Option Addr}:∀{l:List ST} {i:Nat},SsIn w B a i l→∀(j:Nat) (hj:j < l.length),RowAt w B a (i+j) 7 l[j].cells∧l[j].In w B
 | [],_,_,j,hj=>by simp at hj
 | S :: l,i,h,j,hj=>by
  rw[SsIn] at h
  cases j with
  | zero=>exact⟨h.1,h.2.1⟩
  | succ j =>
   have:=SsIn.nth h.2.2 j (by simpa using hj)
   rw[show i+1+j=i+(j+1) by omega] at this
   exact this
mutual
def ST.sz:ST→Nat
 | .mk _ _ _ _ _ _ e _ _ b _ _ l=>1+szs e+Szs b+Szs l
def Szs:List ST→Nat
 | []=>0
 | S :: l=>S.sz+Szs l
end
theorem zdU:∀{l:List ST} {n:Nat} (hn:n < l.length),l[n].sz≤Szs l
 | S :: l,0,_=>by simp[Szs]
 | S :: l,n+1,h=>by
  have:=zdU (l:=l) (n:=n) (by simpa using h)
  simp only[Szs,List.getElem_cons_succ]
  omega
def zcb (n f:ByteArray):Bool:=nmB n&&f.toList.isEmpty
def zbg (n f:ByteArray):Bool:=n.toList.isEmpty&&f.toList.isEmpty
def zaU (b l:Nat):Bool:=b==0&&l==0
def zaO (k t:Int) (n f:ByteArray) (e b l:Nat):Bool:=
 if t < 0∨1000000 < t then false
 else if k=0 then zcb n f&&zaU b l&&e==1
 else if k=1 then zcb n f&&zaU b l&&e==2
 else if k=2 then zcb n f&&zaU b l&&e==0
 else if k=3 then nmB n&&nmB f&&zaU b l
 else if k=4 then zbg n f&&e==1
 else if k=5 then zbg n f&&l==0&&e==1
 else if k=6 then zbg n f&&zaU b l&&e==0
 else if k=7 then zbg n f&&zaU b l&&e==0
 else if k=8 then zbg n f&&zaU b l&&e==1
 else if k=9 then zbg n f&&zaU b l&&e==1
 else false
mutual
def ST.rightB:ST→Bool
 | .mk k t n f _ _ e _ _ b _ _ l=>zaO k t n f e.length b.length l.length&&zam e&&zak b&&zak l
def zak:List ST→Bool
 | []=>true
 | S :: l=>S.rightB&&zak l
end
def nthR:List ET→Nat→RE
 | [],_=>.num 0
 | T :: _,0=>T.re
 | _ :: l,i+1=>nthR l i
def res (l:List ET):List RE:=l.map ET.re
mutual
def ST.rs:ST→RS
 | .mk k t n f _ _ e _ _ b _ _ l =>
  if k=0 then .asg t.toNat n.data.toList (nthR e 0)
  else if k=1 then .sto t.toNat n.data.toList (nthR e 0) (nthR e 1)
  else if k=2 then .rd t.toNat n.data.toList
  else if k=3 then .call t.toNat n.data.toList f.data.toList (res e)
  else if k=4 then .ife t.toNat (nthR e 0) (rss b) (rss l)
  else if k=5 then .whl t.toNat (nthR e 0) (rss b)
  else if k=6 then .brk t.toNat
  else if k=7 then .cnt t.toNat
  else if k=8 then .ret t.toNat (nthR e 0)
  else .ass t.toNat (nthR e 0)
def rss:List ST→List RS
 | []=>[]
 | S :: l=>S.rs :: rss l
end
theorem zdV (l:List ST):rss l=l.map ST.rs:=by
 induction l with
 | nil=>rw[rss];rfl
 | cons S l ih=>rw[rss,ih];rfl
theorem zdW (l:List ET):zam l=true↔∀T∈l,T.rightB=true:=by
 induction l with
 | nil=>simp[zam]
 | cons T l ih=>rw[zam,Bool.and_eq_true,ih];simp
theorem zc1 (l:List ST):zak l=true↔∀S∈l,S.rightB=true:=by
 induction l with
 | nil=>simp[zak]
 | cons T l ih=>rw[zak,Bool.and_eq_true,ih];simp
theorem zdN (l m:List ST):zak (l++m)=(zak l&&zak m):=by
 induction l with
 | nil=>simp[zak]
 | cons T l ih=>rw[List.cons_append,zak,zak,ih,Bool.and_assoc]
theorem rightSs_take {l:List ST} {n:Nat} (hn:n < l.length):zak (l.take (n+1))=(zak (l.take n)&&l[n].rightB):=by
 rw[List.take_succ_eq_append_getElem hn,zdN];simp[zak]
theorem rightSs_false {l:List ST} {n:Nat} (hn:n < l.length) (h:l[n].rightB=false):zak l=false:=by
 cases hr:zak l with
 | false=>rfl
 | true=>have:=(zc1 l).1 hr _ (List.getElem_mem hn);rw[h] at this;cases this
theorem zct {S:ST} (h:S.rightB=true):∃(t:Int),0≤t∧t≤1000000 ∧
  ((∃n ea ec e ba bc la lc,nmB n=true∧e.rightB=true∧S=.mk 0 t n {data:=#[]} ea ec [e] ba bc [] la lc []) ∨
  (∃n ea ec e e2 ba bc la lc,nmB n=true∧e.rightB=true∧e2.rightB=true∧S=.mk 1 t n {data:=#[]} ea ec [e,e2] ba bc [] la lc []) ∨
  (∃n ea ec ba bc la lc,nmB n=true∧S=.mk 2 t n {data:=#[]} ea ec [] ba bc [] la lc []) ∨
  (∃n f ea ec e ba bc la lc,nmB n=true∧nmB f=true∧zam e=true∧S=.mk 3 t n f ea ec e ba bc [] la lc []) ∨
  (∃ea ec e ba bc b la lc l,e.rightB=true∧zak b=true∧zak l=true∧S=.mk 4 t {data:=#[]} {data:=#[]} ea ec [e] ba bc b la lc l) ∨
  (∃ea ec e ba bc b la lc,e.rightB=true∧zak b=true∧S=.mk 5 t {data:=#[]} {data:=#[]} ea ec [e] ba bc b la lc []) ∨
  (∃ea ec ba bc la lc,S=.mk 6 t {data:=#[]} {data:=#[]} ea ec [] ba bc [] la lc []) ∨
  (∃ea ec ba bc la lc,S=.mk 7 t {data:=#[]} {data:=#[]} ea ec [] ba bc [] la lc []) ∨
  (∃ea ec e ba bc la lc,e.rightB=true∧S=.mk 8 t {data:=#[]} {data:=#[]} ea ec [e] ba bc [] la lc []) ∨
  (∃ea ec e ba bc la lc,e.rightB=true∧S=.mk 9 t {data:=#[]} {data:=#[]} ea ec [e] ba bc [] la lc [])):=by
 obtain⟨k,t,n,f,ea,ec,e,ba,bc,b,la,lc,l⟩:=S
 rw[ST.rightB,Bool.and_eq_true,Bool.and_eq_true,Bool.and_eq_true] at h
 obtain⟨⟨⟨h1,h2⟩,h3⟩,h4⟩:=h
 unfold zaO zcb zbg zaU at h1
 by_cases ht:t < 0∨1000000 < t
 ·rw[if_pos ht] at h1;cases h1
 rw[if_neg ht] at h1
 refine⟨t,by omega,by omega,?_⟩
 have one:∀{e:List ET},e.length=1→zam e=true→∃x,e=[x]∧x.rightB=true:=by
  intro e he hr
  obtain⟨x,rfl⟩:=List.length_eq_one_iff.1 he
  exact⟨x,rfl,by simpa[zam] using hr⟩
 by_cases hk0:k=0
 ·rw[if_pos hk0] at h1;subst hk0
  simp only[Bool.and_eq_true,beq_iff_eq,List.length_eq_zero_iff] at h1
  obtain⟨⟨⟨a1,a2⟩,a3,a4⟩,a5⟩:=h1
  obtain⟨x,rfl,hx⟩:=one a5 h2
  exact .inl ⟨n,ea,ec,x,ba,bc,la,lc,a1,hx,by rw[isE a2,a3,a4]⟩
 rw[if_neg hk0] at h1
 by_cases hk1:k=1
 ·rw[if_pos hk1] at h1;subst hk1
  simp only[Bool.and_eq_true,beq_iff_eq,List.length_eq_zero_iff] at h1
  obtain⟨⟨⟨a1,a2⟩,a3,a4⟩,a5⟩:=h1
  match e,a5,h2 with
  | [x,y],_,h2 =>
   simp only[zam,Bool.and_true,Bool.and_eq_true] at h2
   exact .inr (.inl ⟨n,ea,ec,x,y,ba,bc,la,lc,a1,h2.1,h2.2,by rw[isE a2,a3,a4]⟩)
 rw[if_neg hk1] at h1
 by_cases hk2:k=2
 ·rw[if_pos hk2] at h1;subst hk2
  simp only[Bool.and_eq_true,beq_iff_eq,List.length_eq_zero_iff] at h1
  obtain⟨⟨⟨a1,a2⟩,a3,a4⟩,a5⟩:=h1
  exact .inr (.inr (.inl ⟨n,ea,ec,ba,bc,la,lc,a1,by rw[isE a2,a3,a4,a5]⟩))
 rw[if_neg hk2] at h1
 by_cases hk3:k=3
 ·rw[if_pos hk3] at h1;subst hk3
  simp only[Bool.and_eq_true,beq_iff_eq,List.length_eq_zero_iff] at h1
  obtain⟨⟨a1,a2⟩,a3,a4⟩:=h1
  exact .inr (.inr (.inr (.inl ⟨n,f,ea,ec,e,ba,bc,la,lc,a1,a2,h2,by rw[a3,a4]⟩)))
 rw[if_neg hk3] at h1
 by_cases hk4:k=4
 ·rw[if_pos hk4] at h1;subst hk4
  simp only[Bool.and_eq_true,beq_iff_eq,List.length_eq_zero_iff] at h1
  obtain⟨⟨a1,a2⟩,a5⟩:=h1
  obtain⟨x,rfl,hx⟩:=one a5 h2
  exact .inr (.inr (.inr (.inr (.inl ⟨ea,ec,x,ba,bc,b,la,lc,l,hx,h3,h4,by rw[isE a1,isE a2]⟩))))
 rw[if_neg hk4] at h1
 by_cases hk5:k=5
 ·rw[if_pos hk5] at h1;subst hk5
  simp only[Bool.and_eq_true,beq_iff_eq,List.length_eq_zero_iff] at h1
  obtain⟨⟨⟨a1,a2⟩,a3⟩,a5⟩:=h1
  obtain⟨x,rfl,hx⟩:=one a5 h2
  exact .inr (.inr (.inr (.inr (.inr (.inl ⟨ea,ec,x,ba,bc,b,la,lc,hx,h3,by rw[isE a1,isE a2,a3]⟩)))))
 rw[if_neg hk5] at h1
 by_cases hk6:k=6
 ·rw[if_pos hk6] at h1;subst hk6
  simp only[Bool.and_eq_true,beq_iff_eq,List.length_eq_zero_iff] at h1
  obtain⟨⟨⟨a1,a2⟩,a3,a4⟩,a5⟩:=h1
  exact .inr (.inr (.inr (.inr (.inr (.inr (.inl ⟨ea,ec,ba,bc,la,lc,by rw[isE a1,isE a2,a3,a4,a5]⟩))))))
 rw[if_neg hk6] at h1
 by_cases hk7:k=7
 ·rw[if_pos hk7] at h1;subst hk7
  simp only[Bool.and_eq_true,beq_iff_eq,List.length_eq_zero_iff] at h1
  obtain⟨⟨⟨a1,a2⟩,a3,a4⟩,a5⟩:=h1
  exact .inr (.inr (.inr (.inr (.inr (.inr (.inr (.inl ⟨ea,ec,ba,bc,la,lc,by rw[isE a1,isE a2,a3,a4,a5]⟩)))))))
 rw[if_neg hk7] at h1
 by_cases hk8:k=8
 ·rw[if_pos hk8] at h1;subst hk8
  simp only[Bool.and_eq_true,beq_iff_eq,List.length_eq_zero_iff] at h1
  obtain⟨⟨⟨a1,a2⟩,a3,a4⟩,a5⟩:=h1
  obtain⟨x,rfl,hx⟩:=one a5 h2
  exact .inr (.inr (.inr (.inr (.inr (.inr (.inr (.inr (.inl ⟨ea,ec,x,ba,bc,la,lc,hx,by rw[isE a1,isE a2,a3,a4]⟩))))))))
 rw[if_neg hk8] at h1
 by_cases hk9:k=9
 ·rw[if_pos hk9] at h1;subst hk9
  simp only[Bool.and_eq_true,beq_iff_eq,List.length_eq_zero_iff] at h1
  obtain⟨⟨⟨a1,a2⟩,a3,a4⟩,a5⟩:=h1
  obtain⟨x,rfl,hx⟩:=one a5 h2
  exact .inr (.inr (.inr (.inr (.inr (.inr (.inr (.inr (.inr ⟨ea,ec,x,ba,bc,la,lc,hx,by rw[isE a1,isE a2,a3,a4]⟩))))))))
 rw[if_neg hk9] at h1;cases h1
end Go.Proofs.YtljbbhhiiiepcaaGreatDoor
