/- What PutExpr answers of a right expression. -/
import Derived.Test.YtagnmppdhfmgdaaGreatDoorTWord
import Derived.Lib.Builder
import Derived.Lib.AppendStr
import Derived.Lib.UnsafeStr
import Derived.Laws.Externs
import Derived.OneCell
import Derived.Laws.OwnMore
import Derived.IntWalk
import Derived.Shelf.Strconv.Itoa0
import Derived.Shelf.Strconv.Itoa1
import Derived.Shelf.LaysM
import Derived.Shelf.Strconv.Itoa2
import Derived.Shelf.Strconv.Itoa3
import Derived.Ground.MpProg
import Derived.Shelf.Pu.ParseUintPublic10
import Derived.Shelf.Pu.ErrVarParseUint
import Derived.Shelf.Strings.Prefix
import Derived.Test.YtagnmppdhfmgdaaGreatDoorProg
import Derived.Deep.QuietTactic
import Derived.BigQuiet
import Derived.Deep.RegionWith
import Derived.BigRegion
import Derived.Lib.AppendIntMem
import Derived.Deep.DeepCutAuto
set_option linter.unusedSimpArgs false
set_option linter.unusedVariables false
set_option maxHeartbeats 8000000
set_option maxRecDepth 100000
namespace Go.Proofs.YtagnmppdhfmgdaaGreatDoor
open Go Go.RowKit
def Keeps (b:Nat) (w w':World):Prop:=∀q o,q≠b→w.heap[q]?=some o→(∀c f,o≠.cells c 5 f)→w'.heap[q]?=some o
theorem Keeps.refl (b:Nat) (w:World):Keeps b w w:=fun _ _ _ h _=>h
theorem Keeps.trans {b:Nat} {w w1 w2:World} (h:Keeps b w w1) (k:Keeps b w1 w2):Keeps b w w2:=fun q o hq ho hn=>k q o hq (h q o hq ho hn) hn
theorem Keeps.alloc {b:Nat} {w w1:World} (h:Keeps b w w1) (o:Obj):Keeps b w (w1.alloc o):=fun q x hq hx hn=>by
 have h1:=h q x hq hx hn
 exact(Below.heap_alloc w1 o q (lt_of_block h1)).trans h1
theorem Keeps.drew {b:Nat} {w w1:World} (h:Keeps b w w1):Keeps b w w1.drew:=h
theorem Keeps.set {b:Nat} {w w1:World} (h:Keeps b w w1) (j:Nat) (u:Value):Keeps b w (w1.setCell ⟨b,j,none⟩ u):=fun q o hq ho hn =>
 (Below.heap_setCell w1 ⟨b,j,none⟩ u q hq).trans (h q o hq ho hn)
theorem Keeps.grown {b:Nat} {w w1 w2:World} (h:Keeps b w w1) {v:Value} {B n:Nat} {xs:List Value} (ho:w1.ownsRow B 5 1 v n xs) (hg:w1.grownBy w2 v.ownBlock):Keeps b w w2:=fun q o hq hb hn=>by
 have h1:=h q o hq hb hn
 have hne:some q≠v.ownBlock:=by
  intro e
  rcases ho.2 with ⟨rfl,_⟩ | ⟨g,cap,cur,rfl,_,hg',_⟩
  ·simp[Value.ownBlock] at e
  ·simp only[Value.ownBlock,Option.some.injEq] at e
   subst e
   rw[hg'] at h1
   simp only[Option.some.injEq] at h1
   exact hn _ _ h1.symm
 exact(hg.block q (lt_of_block h1) hne).trans h1
theorem zab {w:World} {b k:Nat} {cs:Array Value} {t:TypeId} {fr:Nat×Nat} {v:Value} (h:w.heap[b]?=some (.cells cs t fr)) (hk:cs[k]?=some v):w.cell? ⟨b,k,none⟩=some v:=by simp[World.cell?,h,hk]
theorem zac {w:World} {b k:Nat} {cs:Array Value} {t:TypeId} (h:w.heap[b]?=some (.cells cs t (0,0))):w.frozen? ⟨b,k,none⟩=false:=by simp[World.frozen?,h]
theorem zaA {w:World} {b k:Nat} {cs:Array Value} {t:TypeId} {fr:Nat×Nat} (u:Value) (h:w.heap[b]?=some (.cells cs t fr)):(w.setCell ⟨b,k,none⟩ u).heap[b]?=some (.cells (cs.setIfInBounds k u) t fr):=by
 simp[World.setCell,Array.getElem?_modify,h]
theorem zai (w:World) (o:Obj):(w.alloc o).heap[w.heap.size]?=some o:=heap_alloc_new w o
theorem zaf {w:World} {b:Nat} {x:Obj} (o:Obj) (h:w.heap[b]?=some x):(w.alloc o).heap[b]?=some x:=(Below.heap_alloc w o b (lt_of_block h)).trans h
theorem zcA (b j:Nat):(⟨b,0,none⟩:Addr).add j=⟨b,j,none⟩:=by unfold Addr.add;split<;>simp_all
end Go.Proofs.YtagnmppdhfmgdaaGreatDoor
namespace Go.Proofs.YtagnmppdhfmgdaaGreatDoor
open Go Go.RowKit
end Go.Proofs.YtagnmppdhfmgdaaGreatDoor
namespace Go.Proofs.YtagnmppdhfmgdaaGreatDoor
open Go Go.RowKit
inductive ET where
 | mk (kind:Int) (op:ByteArray) (n:Int) (name:ByteArray) (a:Option Addr) (cap:Nat) (kids:List ET)
def ET.kind:ET→Int
 | .mk k _ _ _ _ _ _=>k
def ET.op:ET→ByteArray
 | .mk _ o _ _ _ _ _=>o
def ET.n:ET→Int
 | .mk _ _ n _ _ _ _=>n
def ET.name:ET→ByteArray
 | .mk _ _ _ m _ _ _=>m
def ET.kids:ET→List ET
 | .mk _ _ _ _ _ _ l=>l
def ET.kaddr:ET→Option Addr
 | .mk _ _ _ _ a _ _=>a
def ET.kcap:ET→Nat
 | .mk _ _ _ _ _ c _=>c
def ET.cells:ET→Array Value
 | .mk k o n m a c l=>#[.int .i64 k,.string o,.int .i64 n,.string m,.slice a l.length c]
abbrev ET.val (T:ET):Value:=.agg T.cells
def RowAt (w:World) (B:Nat) (a:Option Addr) (i:Nat) (size:Nat) (cs:Array Value):Prop:=
 ∃b o,a=some ⟨b,o,none⟩∧B≤b∧∀j v,cs[j]?=some v→w.cell? ⟨b,o+i*size+j,none⟩=some v
theorem RowAt.keep {w w':World} {B:Nat} {a:Option Addr} {i size:Nat} {cs:Array Value} (h:RowAt w B a i size cs) (hk:∀p v,B≤p.block→w.cell? p=some v→w'.cell? p=some v):RowAt w' B a i size cs:=by
 obtain⟨b,o,e,hB,hc⟩:=h
 exact⟨b,o,e,hB,fun j v hj=>hk _ v hB (hc j v hj)⟩
theorem RowAt.mono {w:World} {B B':Nat} {a:Option Addr} {i size:Nat} {cs:Array Value} (h:RowAt w B a i size cs) (hB:B'≤B):RowAt w B' a i size cs:=by
 obtain⟨b,o,e,h1,hc⟩:=h
 exact⟨b,o,e,Nat.le_trans hB h1,hc⟩
mutual
def ET.In (w:World) (B:Nat):ET→Prop
 | .mk _ _ n _ a _ l=>(-9223372036854775808≤n∧n≤9223372036854775807)∧l.length≤9223372036854775807∧EsIn w B a 0 l
def EsIn (w:World) (B:Nat) (a:Option Addr):Nat→List ET→Prop
 | _,[]=>True
 | i,T :: l=>RowAt w B a i 5 T.cells∧T.In w B∧EsIn w B a (i+1) l
end
mutual
theorem ET.In.keep {w w':World} {B:Nat} (hk:∀p v,B≤p.block→w.cell? p=some v→w'.cell? p=some v):∀{T:ET},T.In w B→T.In w' B
 | .mk k o n m a c l,h=>by
  rw[ET.In] at h ⊢
  exact⟨h.1,h.2.1,EsIn.keep hk h.2.2⟩
theorem EsIn.keep {w w':World} {B:Nat} {a:Option Addr} (hk:∀p v,B≤p.block→w.cell? p=some v→w'.cell? p=some v):∀{i:Nat} {l:List ET},EsIn w B a i l→EsIn w' B a i l
 | _,[],_=>by rw[EsIn];trivial
 | i,T :: l,h=>by
  rw[EsIn] at h ⊢
  exact⟨h.1.keep hk,h.2.1.keep hk,EsIn.keep hk h.2.2⟩
end
mutual
theorem ET.In.mono {w:World} {B B':Nat} (hB:B'≤B):∀{T:ET},T.In w B→T.In w B'
 | .mk k o n m a c l,h=>by
  rw[ET.In] at h ⊢
  exact⟨h.1,h.2.1,EsIn.mono hB h.2.2⟩
theorem EsIn.mono {w:World} {B B':Nat} {a:Option Addr} (hB:B'≤B):∀{i:Nat} {l:List ET},EsIn w B a i l→EsIn w B' a i l
 | _,[],_=>by rw[EsIn];trivial
 | i,T :: l,h=>by
  rw[EsIn] at h ⊢
  exact⟨h.1.mono hB,h.2.1.mono hB,EsIn.mono hB h.2.2⟩
end
theorem zav {w w':World} (h:Below w.heap.size w w') {B:Nat}:∀p v,B≤p.block→w.cell? p=some v→w'.cell? p=some v:=fun p v _ hc=>by
 have hlt:p.block < w.heap.size:=by
  rcases Nat.lt_or_ge p.block w.heap.size with h' | h'
  ·exact h'
  ·exfalso
   obtain⟨b,o,q⟩:=p
   simp only at h'
   simp[World.cell?,Array.getElem?_eq_none h'] at hc
 rw[h.cell hlt];exact hc
theorem ET.In.on {w w':World} {B:Nat} {T:ET} (h:T.In w B) (hb:Below w.heap.size w w'):T.In w' B:=h.keep (zav hb)
theorem EsIn.on {w w':World} {B:Nat} {a:Option Addr} {i:Nat} {l:List ET} (h:EsIn w B a i l) (hb:Below w.heap.size w w'):EsIn w' B a i l:=h.keep (zav hb)
theorem EsIn.nth {w:World} {B:Nat} {a:Option Addr}:∀{l:List ET} {i:Nat},EsIn w B a i l→∀(j:Nat) (hj:j < l.length),RowAt w B a (i+j) 5 l[j].cells∧l[j].In w B
 | [],_,_,j,hj=>by simp at hj
 | T :: l,i,h,j,hj=>by
  rw[EsIn] at h
  cases j with
  | zero=>exact⟨h.1,h.2.1⟩
  | succ j =>
   have:=EsIn.nth h.2.2 j (by simpa using hj)
   rw[show i+1+j=i+(j+1) by omega] at this
   exact this
def levL (l:List UInt8):Int:=zaq ⟨l.toArray⟩
def namesC (o:ByteArray) (n:Int) (m:ByteArray):Bool:=nmB m&&o.toList.isEmpty&&n==0
def reckC (n:Int) (m:ByteArray):Bool:=m.toList.isEmpty&&n==0
def zbZ (k:Int) (o:ByteArray) (n:Int) (m:ByteArray) (len:Nat):Bool:=
 if k=0 then o.toList.isEmpty&&m.toList.isEmpty&&len==0
 else if k=1 then namesC o n m&&len==0
 else if k=2 then namesC o n m&&len==1
 else if k=3 then unB o&&reckC n m&&len==1
 else if k=4 then decide (0 < zaq o)&&reckC n m&&len==2
 else false
mutual
def ET.sz:ET→Nat
 | .mk _ _ _ _ _ _ l=>1+szs l
def szs:List ET→Nat
 | []=>0
 | T :: l=>T.sz+szs l
end
mutual
def ET.rightB:ET→Bool
 | .mk k o n m a c l=>zbZ k o n m l.length&&zap l
def zap:List ET→Bool
 | []=>true
 | T :: l=>T.rightB&&zap l
end
def ET.re:ET→RE
 | .mk k o n m _ _ []=>if k=0 then .num n else .var m.data.toList
 | .mk k o n m _ _ [T]=>if k=2 then .idx m.data.toList T.re else .un (o.data.toList.headD 0) T.re
 | .mk k o n m _ _ (T :: U :: _)=>.bin o.data.toList T.re U.re
theorem isE {s:ByteArray} (h:s.toList.isEmpty=true):s={data:=#[]}:=by
 obtain⟨⟨l⟩⟩:=s
 rw[ByteArray.toList_eq] at h
 cases l with
 | nil=>rfl
 | cons=>simp at h
theorem zbJ {T:ET} (h:T.rightB=true):
  (∃n a c,T=.mk 0 {data:=#[]} n {data:=#[]} a c []) ∨
  (∃m a c,nmB m=true∧T=.mk 1 {data:=#[]} 0 m a c []) ∨
  (∃m a c e,nmB m=true∧e.rightB=true∧T=.mk 2 {data:=#[]} 0 m a c [e]) ∨
  (∃o a c e,unB o=true∧e.rightB=true∧T=.mk 3 o 0 {data:=#[]} a c [e]) ∨
  (∃o a c e f,0 < zaq o∧e.rightB=true∧f.rightB=true∧T=.mk 4 o 0 {data:=#[]} a c [e,f]):=by
 obtain⟨k,o,n,m,a,c,l⟩:=T
 rw[ET.rightB,Bool.and_eq_true] at h
 obtain⟨h1,h2⟩:=h
 unfold zbZ namesC reckC at h1
 by_cases hk0:k=0
 ·rw[if_pos hk0] at h1;subst hk0
  simp only[Bool.and_eq_true,beq_iff_eq,List.length_eq_zero_iff] at h1
  exact .inl ⟨n,a,c,by rw[isE h1.1.1,isE h1.1.2,h1.2]⟩
 rw[if_neg hk0] at h1
 by_cases hk1:k=1
 ·rw[if_pos hk1] at h1;subst hk1
  simp only[Bool.and_eq_true,beq_iff_eq,List.length_eq_zero_iff] at h1
  exact .inr (.inl ⟨m,a,c,h1.1.1.1,by rw[isE h1.1.1.2,h1.1.2,h1.2]⟩)
 rw[if_neg hk1] at h1
 by_cases hk2:k=2
 ·rw[if_pos hk2] at h1;subst hk2
  simp only[Bool.and_eq_true,beq_iff_eq,List.length_eq_one_iff] at h1
  obtain⟨e,rfl⟩:=h1.2
  simp only[zap,Bool.and_true] at h2
  exact .inr (.inr (.inl ⟨m,a,c,e,h1.1.1.1,h2,by rw[isE h1.1.1.2,h1.1.2]⟩))
 rw[if_neg hk2] at h1
 by_cases hk3:k=3
 ·rw[if_pos hk3] at h1;subst hk3
  simp only[Bool.and_eq_true,beq_iff_eq,List.length_eq_one_iff] at h1
  obtain⟨e,rfl⟩:=h1.2
  simp only[zap,Bool.and_true] at h2
  exact .inr (.inr (.inr (.inl ⟨o,a,c,e,h1.1.1,h2,by rw[isE h1.1.2.1,h1.1.2.2]⟩)))
 rw[if_neg hk3] at h1
 by_cases hk4:k=4
 ·rw[if_pos hk4] at h1;subst hk4
  simp only[Bool.and_eq_true,beq_iff_eq,decide_eq_true_eq] at h1
  match l,h1.2,h2 with
  | [e,f],_,h2 =>
   simp only[zap,Bool.and_true,Bool.and_eq_true] at h2
   exact .inr (.inr (.inr (.inr ⟨o,a,c,e,f,h1.1.1,h2.1,h2.2,by rw[isE h1.1.2.1,h1.1.2.2]⟩)))
 ·rw[if_neg hk4] at h1;cases h1
theorem unB_is {o:ByteArray} (h:unB o=true):∃c:UInt8,(c=45∨c=126∨c=33)∧o={data:=#[c]}:=by
 unfold unB at h
 by_cases h0:o.data.toList=[45]
 ·exact⟨45,.inl rfl,zaW h0⟩
 by_cases h1:o.data.toList=[126]
 ·exact⟨126,.inr (.inl rfl),zaW h1⟩
 by_cases h2:o.data.toList=[33]
 ·exact⟨33,.inr (.inr rfl),zaW h2⟩
 simp_all
theorem level_op {o:ByteArray} (h:0 < zaq o):ops18.contains o.data.toList=true:=by
 rw[List.contains_iff_mem]
 by_cases h0:o.data.toList=[124,124]
 ·rw[h0];decide
 by_cases h1:o.data.toList=[38,38]
 ·rw[h1];decide
 by_cases h2:o.data.toList=[124]
 ·rw[h2];decide
 by_cases h3:o.data.toList=[94]
 ·rw[h3];decide
 by_cases h4:o.data.toList=[38]
 ·rw[h4];decide
 by_cases h5:o.data.toList=[61,61]
 ·rw[h5];decide
 by_cases h6:o.data.toList=[33,61]
 ·rw[h6];decide
 by_cases h7:o.data.toList=[60]
 ·rw[h7];decide
 by_cases h8:o.data.toList=[60,61]
 ·rw[h8];decide
 by_cases h9:o.data.toList=[62]
 ·rw[h9];decide
 by_cases h10:o.data.toList=[62,61]
 ·rw[h10];decide
 by_cases h11:o.data.toList=[60,60]
 ·rw[h11];decide
 by_cases h12:o.data.toList=[62,62]
 ·rw[h12];decide
 by_cases h13:o.data.toList=[43]
 ·rw[h13];decide
 by_cases h14:o.data.toList=[45]
 ·rw[h14];decide
 by_cases h15:o.data.toList=[42]
 ·rw[h15];decide
 by_cases h16:o.data.toList=[47]
 ·rw[h16];decide
 by_cases h17:o.data.toList=[37]
 ·rw[h17];decide
 exfalso
 unfold zaq at h
 rw[if_neg h0,if_neg h1,if_neg h2,if_neg h3,if_neg h4,if_neg h5,if_neg h6,if_neg h7,if_neg h8,if_neg h9,if_neg h10,if_neg h11,if_neg h12,if_neg h13,if_neg h14,if_neg h15,if_neg h16,if_neg h17] at h
 exact absurd h (by decide)
end Go.Proofs.YtagnmppdhfmgdaaGreatDoor

namespace Go.Proofs.YtagnmppdhfmgdaaGreatDoor
open Go Go.RowKit
def Past (w0 w:World):Prop:=Below w0.heap.size w0 w
theorem Past.refl (w:World):Past w w:=Below.refl _ _
theorem Past.on {w0 w w':World} (h:Past w0 w) (hb:Below w.heap.size w w'):Past w0 w':=Below.trans h (hb.mono h.size)
theorem Past.alloc {w0 w:World} (h:Past w0 w) (o:Obj):Past w0 (w.alloc o):=Below.alloc h h.size o
theorem Past.drew {w0 w:World} (h:Past w0 w):Past w0 w.drew:=Below.drew h
def Pow (w0:World):Prop:=Lib.TabBelow Tryz.prog w0.heap.size w0 "internal/strconv.uint64pow10" .u64 Lib.pow10Tab
theorem Keeps.box {b:Nat} {w w':World} (h:Keeps b w w') {q:Nat} {cs:Array Value} {t:TypeId} {fr:Nat×Nat} (hq:w.heap[q]?=some (.cells cs t fr)) (hne:q≠b) (ht:t≠5):w'.heap[q]?=some (.cells cs t fr):=
 h q _ hne hq (fun c f e=>by simp only[Obj.cells.injEq] at e;exact ht e.2.1)
theorem zal {w:World} {n:Nat} (o:Obj) (h:w.heap.size=n):(w.alloc o).heap[n]?=some o:=by subst h;exact zai w o
theorem zca {w:World} {b:Nat} {t:TypeId} {fr:Nat×Nat} {v0 v1 v2 v3 v4:Value} (h:w.heap[b]?=some (.cells #[v0,v1,v2,v3,v4] t fr)):
  w.cell? ⟨b,0,none⟩=some v0∧w.cell? ⟨b,1,none⟩=some v1∧w.cell? ⟨b,2,none⟩=some v2∧w.cell? ⟨b,3,none⟩=some v3∧w.cell? ⟨b,4,none⟩=some v4:=
 ⟨zab h rfl,zab h rfl,zab h rfl,zab h rfl,zab h rfl⟩
end Go.Proofs.YtagnmppdhfmgdaaGreatDoor
namespace Go.Proofs.YtagnmppdhfmgdaaGreatDoor
open Go Go.RowKit
theorem levelV_le (o:ByteArray):0≤zaq o∧zaq o≤10:=by
 unfold zaq
 repeat' split
 all_goals omega
end Go.Proofs.YtagnmppdhfmgdaaGreatDoor
namespace Go.Proofs.YtagnmppdhfmgdaaGreatDoor
open Go Go.RowKit
structure Cells5 (w:World) (b o:Nat) (v0 v1 v2 v3 v4:Value):Prop where
 c0:w.cell? ⟨b,o,none⟩=some v0
 c1:w.cell? ⟨b,o+1,none⟩=some v1
 c2:w.cell? ⟨b,o+2,none⟩=some v2
 c3:w.cell? ⟨b,o+3,none⟩=some v3
 c4:w.cell? ⟨b,o+4,none⟩=some v4
 lt:b < w.heap.size
theorem zdA {w:World} {b o:Nat} {v:Value} (h:w.cell? ⟨b,o,none⟩=some v):b < w.heap.size:=by
 rcases Nat.lt_or_ge b w.heap.size with h' | h'
 ·exact h'
 ·simp[World.cell?,Array.getElem?_eq_none h'] at h
theorem row_cells {w0 w:World} {B b o i:Nat} {v0 v1 v2 v3 v4:Value} (h:RowAt w0 B (some ⟨b,o,none⟩) i 5 #[v0,v1,v2,v3,v4]) (hp:Past w0 w):Cells5 w b (o+i*5) v0 v1 v2 v3 v4:=by
 obtain⟨b',o',e,-,hc⟩:=h
 simp only[Option.some.injEq,Addr.mk.injEq,and_true] at e
 obtain⟨rfl,rfl⟩:=e
 have k:=zav hp (B:=0)
 have h0:=k _ _ (Nat.zero_le _) (hc 0 v0 rfl)
 exact⟨h0,k _ _ (Nat.zero_le _) (hc 1 v1 rfl),k _ _ (Nat.zero_le _) (hc 2 v2 rfl),k _ _ (Nat.zero_le _) (hc 3 v3 rfl),k _ _ (Nat.zero_le _) (hc 4 v4 rfl),zdA h0⟩
end Go.Proofs.YtagnmppdhfmgdaaGreatDoor
namespace Go.Proofs.YtagnmppdhfmgdaaGreatDoor
open Go Go.RowKit
theorem ET.cells_is (T:ET):T.cells=#[.int .i64 T.kind,.string T.op,.int .i64 T.n,.string T.name,.slice T.kaddr T.kids.length T.kcap]:=by cases T;rfl
theorem ET.val_is (T:ET):T.val=.agg #[.int .i64 T.kind,.string T.op,.int .i64 T.n,.string T.name,.slice T.kaddr T.kids.length T.kcap]:=by cases T;rfl
end Go.Proofs.YtagnmppdhfmgdaaGreatDoor

namespace Go.Proofs.YtagnmppdhfmgdaaGreatDoor
open Go Go.RowKit
end Go.Proofs.YtagnmppdhfmgdaaGreatDoor
namespace Go.Proofs.YtagnmppdhfmgdaaGreatDoor
open Go Go.RowKit
inductive ST where
 | mk (kind tag:Int) (name func:ByteArray) (ea:Option Addr) (ec:Nat) (e:List ET) (ba:Option Addr) (bc:Nat) (body:List ST) (la:Option Addr) (lc:Nat) (els:List ST)
def ST.cells:ST→Array Value
 | .mk k t n f ea ec e ba bc b la lc l=>#[.int .i64 k,.int .i64 t,.string n,.string f,.slice ea e.length ec,.slice ba b.length bc,.slice la l.length lc]
abbrev ST.val (S:ST):Value:=.agg S.cells
mutual
def ST.In (w:World) (B:Nat):ST→Prop
 | .mk _ t _ _ ea _ e ba _ b la _ l=>(-9223372036854775808≤t∧t≤9223372036854775807)∧(e.length≤9223372036854775807∧b.length≤9223372036854775807∧l.length≤9223372036854775807)∧EsIn w B ea 0 e∧SsIn w B ba 0 b∧SsIn w B la 0 l
def SsIn (w:World) (B:Nat) (a:Option Addr):Nat→List ST→Prop
 | _,[]=>True
 | i,S :: l=>RowAt w B a i 7 S.cells∧S.In w B∧SsIn w B a (i+1) l
end
mutual
theorem ST.In.keep {w w':World} {B:Nat} (hk:∀p v,B≤p.block→w.cell? p=some v→w'.cell? p=some v):∀{S:ST},S.In w B→S.In w' B
 | .mk k t n f ea ec e ba bc b la lc l,h=>by
  rw[ST.In] at h ⊢
  exact⟨h.1,h.2.1,h.2.2.1.keep hk,SsIn.keep hk h.2.2.2.1,SsIn.keep hk h.2.2.2.2⟩
theorem SsIn.keep {w w':World} {B:Nat} {a:Option Addr} (hk:∀p v,B≤p.block→w.cell? p=some v→w'.cell? p=some v):∀{i:Nat} {l:List ST},SsIn w B a i l→SsIn w' B a i l
 | _,[],_=>by rw[SsIn];trivial
 | i,S :: l,h=>by
  rw[SsIn] at h ⊢
  exact⟨h.1.keep hk,h.2.1.keep hk,SsIn.keep hk h.2.2⟩
end
mutual
theorem ST.In.mono {w:World} {B B':Nat} (hB:B'≤B):∀{S:ST},S.In w B→S.In w B'
 | .mk k t n f ea ec e ba bc b la lc l,h=>by
  rw[ST.In] at h ⊢
  exact⟨h.1,h.2.1,h.2.2.1.mono hB,SsIn.mono hB h.2.2.2.1,SsIn.mono hB h.2.2.2.2⟩
theorem SsIn.mono {w:World} {B B':Nat} {a:Option Addr} (hB:B'≤B):∀{i:Nat} {l:List ST},SsIn w B a i l→SsIn w B' a i l
 | _,[],_=>by rw[SsIn];trivial
 | i,S :: l,h=>by
  rw[SsIn] at h ⊢
  exact⟨h.1.mono hB,h.2.1.mono hB,SsIn.mono hB h.2.2⟩
end
theorem ST.In.on {w w':World} {B:Nat} {S:ST} (h:S.In w B) (hb:Below w.heap.size w w'):S.In w' B:=h.keep (zav hb)
theorem SsIn.on {w w':World} {B:Nat} {a:Option Addr} {i:Nat} {l:List ST} (h:SsIn w B a i l) (hb:Below w.heap.size w w'):SsIn w' B a i l:=h.keep (zav hb)
theorem SsIn.nth {w:World} {B:Nat} {a:Option Addr}:∀{l:List ST} {i:Nat},SsIn w B a i l→∀(j:Nat) (hj:j < l.length),RowAt w B a (i+j) 7 l[j].cells∧l[j].In w B
 | [],_,_,j,hj=>by simp at hj
 | S :: l,i,h,j,hj=>by
  rw[SsIn] at h
  cases j with
  | zero=>exact⟨h.1,h.2.1⟩
  | succ j =>
   have:=SsIn.nth h.2.2 j (by simpa using hj)
   rw[show i+1+j=i+(j+1) by omega] at this
   exact this
mutual
def ST.sz:ST→Nat
 | .mk _ _ _ _ _ _ e _ _ b _ _ l=>1+szs e+Szs b+Szs l
def Szs:List ST→Nat
 | []=>0
 | S :: l=>S.sz+Szs l
end
theorem zdB:∀{l:List ST} {n:Nat} (hn:n < l.length),l[n].sz≤Szs l
 | S :: l,0,_=>by simp[Szs]
 | S :: l,n+1,h=>by
  have:=zdB (l:=l) (n:=n) (by simpa using h)
  simp only[Szs,List.getElem_cons_succ]
  omega
def setsC (n f:ByteArray):Bool:=nmB n&&f.toList.isEmpty
def zcJ (n f:ByteArray):Bool:=n.toList.isEmpty&&f.toList.isEmpty
def zbr (b l:Nat):Bool:=b==0&&l==0
def zaT (k t:Int) (n f:ByteArray) (e b l:Nat):Bool:=
 if t < 0∨1000000 < t then false
 else if k=0 then setsC n f&&zbr b l&&e==1
 else if k=1 then setsC n f&&zbr b l&&e==2
 else if k=2 then setsC n f&&zbr b l&&e==0
 else if k=3 then nmB n&&nmB f&&zbr b l
 else if k=4 then zcJ n f&&e==1
 else if k=5 then zcJ n f&&l==0&&e==1
 else if k=6 then zcJ n f&&zbr b l&&e==0
 else if k=7 then zcJ n f&&zbr b l&&e==0
 else if k=8 then zcJ n f&&zbr b l&&e==1
 else if k=9 then zcJ n f&&zbr b l&&e==1
 else false
mutual
def ST.rightB:ST→Bool
 | .mk k t n f _ _ e _ _ b _ _ l=>zaT k t n f e.length b.length l.length&&zap e&&zak b&&zak l
def zak:List ST→Bool
 | []=>true
 | S :: l=>S.rightB&&zak l
end
def nthR:List ET→Nat→RE
 | [],_=>.num 0
 | T :: _,0=>T.re
 | _ :: l,i+1=>nthR l i
def res (l:List ET):List RE:=l.map ET.re
mutual
def ST.rs:ST→RS
 | .mk k t n f _ _ e _ _ b _ _ l =>
  if k=0 then .asg t.toNat n.data.toList (nthR e 0)
  else if k=1 then .sto t.toNat n.data.toList (nthR e 0) (nthR e 1)
  else if k=2 then .rd t.toNat n.data.toList
  else if k=3 then .call t.toNat n.data.toList f.data.toList (res e)
  else if k=4 then .ife t.toNat (nthR e 0) (rss b) (rss l)
  else if k=5 then .whl t.toNat (nthR e 0) (rss b)
  else if k=6 then .brk t.toNat
  else if k=7 then .cnt t.toNat
  else if k=8 then .ret t.toNat (nthR e 0)
  else .ass t.toNat (nthR e 0)
def rss:List ST→List RS
 | []=>[]
 | S :: l=>S.rs :: rss l
end
theorem rss_map (l:List ST):rss l=l.map ST.rs:=by
 induction l with
 | nil=>rw[rss];rfl
 | cons S l ih=>rw[rss,ih];rfl
theorem rightEs_all (l:List ET):zap l=true↔∀T∈l,T.rightB=true:=by
 induction l with
 | nil=>simp[zap]
 | cons T l ih=>rw[zap,Bool.and_eq_true,ih];simp
theorem rightSs_append (l m:List ST):zak (l++m)=(zak l&&zak m):=by
 induction l with
 | nil=>simp[zak]
 | cons T l ih=>rw[List.cons_append,zak,zak,ih,Bool.and_assoc]
theorem zch {S:ST} (h:S.rightB=true):∃(t:Int),0≤t∧t≤1000000 ∧
  ((∃n ea ec e ba bc la lc,nmB n=true∧e.rightB=true∧S=.mk 0 t n {data:=#[]} ea ec [e] ba bc [] la lc []) ∨
  (∃n ea ec e e2 ba bc la lc,nmB n=true∧e.rightB=true∧e2.rightB=true∧S=.mk 1 t n {data:=#[]} ea ec [e,e2] ba bc [] la lc []) ∨
  (∃n ea ec ba bc la lc,nmB n=true∧S=.mk 2 t n {data:=#[]} ea ec [] ba bc [] la lc []) ∨
  (∃n f ea ec e ba bc la lc,nmB n=true∧nmB f=true∧zap e=true∧S=.mk 3 t n f ea ec e ba bc [] la lc []) ∨
  (∃ea ec e ba bc b la lc l,e.rightB=true∧zak b=true∧zak l=true∧S=.mk 4 t {data:=#[]} {data:=#[]} ea ec [e] ba bc b la lc l) ∨
  (∃ea ec e ba bc b la lc,e.rightB=true∧zak b=true∧S=.mk 5 t {data:=#[]} {data:=#[]} ea ec [e] ba bc b la lc []) ∨
  (∃ea ec ba bc la lc,S=.mk 6 t {data:=#[]} {data:=#[]} ea ec [] ba bc [] la lc []) ∨
  (∃ea ec ba bc la lc,S=.mk 7 t {data:=#[]} {data:=#[]} ea ec [] ba bc [] la lc []) ∨
  (∃ea ec e ba bc la lc,e.rightB=true∧S=.mk 8 t {data:=#[]} {data:=#[]} ea ec [e] ba bc [] la lc []) ∨
  (∃ea ec e ba bc la lc,e.rightB=true∧S=.mk 9 t {data:=#[]} {data:=#[]} ea ec [e] ba bc [] la lc [])):=by
 obtain⟨k,t,n,f,ea,ec,e,ba,bc,b,la,lc,l⟩:=S
 rw[ST.rightB,Bool.and_eq_true,Bool.and_eq_true,Bool.and_eq_true] at h
 obtain⟨⟨⟨h1,h2⟩,h3⟩,h4⟩:=h
 unfold zaT setsC zcJ zbr at h1
 by_cases ht:t < 0∨1000000 < t
 ·rw[if_pos ht] at h1;cases h1
 rw[if_neg ht] at h1
 refine⟨t,by omega,by omega,?_⟩
 have one:∀{e:List ET},e.length=1→zap e=true→∃x,e=[x]∧x.rightB=true:=by
  intro e he hr
  obtain⟨x,rfl⟩:=List.length_eq_one_iff.1 he
  exact⟨x,rfl,by simpa[zap] using hr⟩
 by_cases hk0:k=0
 ·rw[if_pos hk0] at h1;subst hk0
  simp only[Bool.and_eq_true,beq_iff_eq,List.length_eq_zero_iff] at h1
  obtain⟨⟨⟨a1,a2⟩,a3,a4⟩,a5⟩:=h1
  obtain⟨x,rfl,hx⟩:=one a5 h2
  exact .inl ⟨n,ea,ec,x,ba,bc,la,lc,a1,hx,by rw[isE a2,a3,a4]⟩
 rw[if_neg hk0] at h1
 by_cases hk1:k=1
 ·rw[if_pos hk1] at h1;subst hk1
  simp only[Bool.and_eq_true,beq_iff_eq,List.length_eq_zero_iff] at h1
  obtain⟨⟨⟨a1,a2⟩,a3,a4⟩,a5⟩:=h1
  match e,a5,h2 with
  | [x,y],_,h2 =>
   simp only[zap,Bool.and_true,Bool.and_eq_true] at h2
   exact .inr (.inl ⟨n,ea,ec,x,y,ba,bc,la,lc,a1,h2.1,h2.2,by rw[isE a2,a3,a4]⟩)
 rw[if_neg hk1] at h1
 by_cases hk2:k=2
 ·rw[if_pos hk2] at h1;subst hk2
  simp only[Bool.and_eq_true,beq_iff_eq,List.length_eq_zero_iff] at h1
  obtain⟨⟨⟨a1,a2⟩,a3,a4⟩,a5⟩:=h1
  exact .inr (.inr (.inl ⟨n,ea,ec,ba,bc,la,lc,a1,by rw[isE a2,a3,a4,a5]⟩))
 rw[if_neg hk2] at h1
 by_cases hk3:k=3
 ·rw[if_pos hk3] at h1;subst hk3
  simp only[Bool.and_eq_true,beq_iff_eq,List.length_eq_zero_iff] at h1
  obtain⟨⟨a1,a2⟩,a3,a4⟩:=h1
  exact .inr (.inr (.inr (.inl ⟨n,f,ea,ec,e,ba,bc,la,lc,a1,a2,h2,by rw[a3,a4]⟩)))
 rw[if_neg hk3] at h1
 by_cases hk4:k=4
 ·rw[if_pos hk4] at h1;subst hk4
  simp only[Bool.and_eq_true,beq_iff_eq,List.length_eq_zero_iff] at h1
  obtain⟨⟨a1,a2⟩,a5⟩:=h1
  obtain⟨x,rfl,hx⟩:=one a5 h2
  exact .inr (.inr (.inr (.inr (.inl ⟨ea,ec,x,ba,bc,b,la,lc,l,hx,h3,h4,by rw[isE a1,isE a2]⟩))))
 rw[if_neg hk4] at h1
 by_cases hk5:k=5
 ·rw[if_pos hk5] at h1;subst hk5
  simp only[Bool.and_eq_true,beq_iff_eq,List.length_eq_zero_iff] at h1
  obtain⟨⟨⟨a1,a2⟩,a3⟩,a5⟩:=h1
  obtain⟨x,rfl,hx⟩:=one a5 h2
  exact .inr (.inr (.inr (.inr (.inr (.inl ⟨ea,ec,x,ba,bc,b,la,lc,hx,h3,by rw[isE a1,isE a2,a3]⟩)))))
 rw[if_neg hk5] at h1
 by_cases hk6:k=6
 ·rw[if_pos hk6] at h1;subst hk6
  simp only[Bool.and_eq_true,beq_iff_eq,List.length_eq_zero_iff] at h1
  obtain⟨⟨⟨a1,a2⟩,a3,a4⟩,a5⟩:=h1
  exact .inr (.inr (.inr (.inr (.inr (.inr (.inl ⟨ea,ec,ba,bc,la,lc,by rw[isE a1,isE a2,a3,a4,a5]⟩))))))
 rw[if_neg hk6] at h1
 by_cases hk7:k=7
 ·rw[if_pos hk7] at h1;subst hk7
  simp only[Bool.and_eq_true,beq_iff_eq,List.length_eq_zero_iff] at h1
  obtain⟨⟨⟨a1,a2⟩,a3,a4⟩,a5⟩:=h1
  exact .inr (.inr (.inr (.inr (.inr (.inr (.inr (.inl ⟨ea,ec,ba,bc,la,lc,by rw[isE a1,isE a2,a3,a4,a5]⟩)))))))
 rw[if_neg hk7] at h1
 by_cases hk8:k=8
 ·rw[if_pos hk8] at h1;subst hk8
  simp only[Bool.and_eq_true,beq_iff_eq,List.length_eq_zero_iff] at h1
  obtain⟨⟨⟨a1,a2⟩,a3,a4⟩,a5⟩:=h1
  obtain⟨x,rfl,hx⟩:=one a5 h2
  exact .inr (.inr (.inr (.inr (.inr (.inr (.inr (.inr (.inl ⟨ea,ec,x,ba,bc,la,lc,hx,by rw[isE a1,isE a2,a3,a4]⟩))))))))
 rw[if_neg hk8] at h1
 by_cases hk9:k=9
 ·rw[if_pos hk9] at h1;subst hk9
  simp only[Bool.and_eq_true,beq_iff_eq,List.length_eq_zero_iff] at h1
  obtain⟨⟨⟨a1,a2⟩,a3,a4⟩,a5⟩:=h1
  obtain⟨x,rfl,hx⟩:=one a5 h2
  exact .inr (.inr (.inr (.inr (.inr (.inr (.inr (.inr (.inr ⟨ea,ec,x,ba,bc,la,lc,hx,by rw[isE a1,isE a2,a3,a4]⟩))))))))
 rw[if_neg hk9] at h1;cases h1
end Go.Proofs.YtagnmppdhfmgdaaGreatDoor
