/- What right asks of one expression. -/
import Derived.Test.YtbilfdapmbahgaaGreatDoorTWord
import Derived.Lib.Builder
import Derived.Lib.AppendStr
import Derived.Lib.UnsafeStr
import Derived.Laws.Externs
import Derived.OneCell
import Derived.Laws.OwnMore
import Derived.IntWalk
import Derived.Shelf.Strconv.Itoa0
import Derived.Shelf.Strconv.Itoa1
import Derived.Shelf.LaysM
import Derived.Shelf.Strconv.Itoa2
import Derived.Shelf.Strconv.Itoa3
import Derived.Ground.MpProg
import Derived.Shelf.Pu.ParseUintPublic10
import Derived.Shelf.Pu.ErrVarParseUint
import Derived.Shelf.Strings.Prefix
import Derived.Shelf.Slices.Turned
import Derived.Shelf.Slices.Equal
import Derived.Ground.Names2Prog
import Derived.Shelf.Slices.Clone
import Derived.Shelf.Slices.Empties2
import Derived.Test.YtbilfdapmbahgaaGreatDoorProg
import Derived.Deep.QuietTactic
import Derived.BigQuiet
import Derived.Deep.RegionWith
import Derived.BigRegion
import Derived.Lib.AppendIntMem
import Derived.Deep.DeepCutAuto
set_option linter.unusedSimpArgs false
set_option linter.unusedVariables false
set_option maxHeartbeats 8000000
set_option maxRecDepth 100000
namespace Go.Proofs.YtbilfdapmbahgaaGreatDoor
open Go Go.RowKit
def Keeps (b:Nat) (w w':World):Prop:=∀q o,q≠b→w.heap[q]?=some o→(∀c f,o≠.cells c 5 f)→w'.heap[q]?=some o
theorem Keeps.refl (b:Nat) (w:World):Keeps b w w:=fun _ _ _ h _=>h
theorem Keeps.trans {b:Nat} {w w1 w2:World} (h:Keeps b w w1) (k:Keeps b w1 w2):Keeps b w w2:=fun q o hq ho hn=>k q o hq (h q o hq ho hn) hn
theorem Keeps.alloc {b:Nat} {w w1:World} (h:Keeps b w w1) (o:Obj):Keeps b w (w1.alloc o):=fun q x hq hx hn=>by
 have h1:=h q x hq hx hn
 exact(Below.heap_alloc w1 o q (lt_of_block h1)).trans h1
theorem Keeps.drew {b:Nat} {w w1:World} (h:Keeps b w w1):Keeps b w w1.drew:=h
theorem Keeps.set {b:Nat} {w w1:World} (h:Keeps b w w1) (j:Nat) (u:Value):Keeps b w (w1.setCell ⟨b,j,none⟩ u):=fun q o hq ho hn =>
 (Below.heap_setCell w1 ⟨b,j,none⟩ u q hq).trans (h q o hq ho hn)
theorem Keeps.grown {b:Nat} {w w1 w2:World} (h:Keeps b w w1) {v:Value} {B n:Nat} {xs:List Value} (ho:w1.ownsRow B 5 1 v n xs) (hg:w1.grownBy w2 v.ownBlock):Keeps b w w2:=fun q o hq hb hn=>by
 have h1:=h q o hq hb hn
 have hne:some q≠v.ownBlock:=by
  intro e
  rcases ho.2 with ⟨rfl,_⟩ | ⟨g,cap,cur,rfl,_,hg',_⟩
  ·simp[Value.ownBlock] at e
  ·simp only[Value.ownBlock,Option.some.injEq] at e
   subst e
   rw[hg'] at h1
   simp only[Option.some.injEq] at h1
   exact hn _ _ h1.symm
 exact(hg.block q (lt_of_block h1) hne).trans h1
theorem zab {w:World} {b k:Nat} {cs:Array Value} {t:TypeId} {fr:Nat×Nat} {v:Value} (h:w.heap[b]?=some (.cells cs t fr)) (hk:cs[k]?=some v):w.cell? ⟨b,k,none⟩=some v:=by simp[World.cell?,h,hk]
theorem zaf {w:World} {b k:Nat} {cs:Array Value} {t:TypeId} (h:w.heap[b]?=some (.cells cs t (0,0))):w.frozen? ⟨b,k,none⟩=false:=by simp[World.frozen?,h]
theorem zat {w:World} {b k:Nat} {cs:Array Value} {t:TypeId} {fr:Nat×Nat} (u:Value) (h:w.heap[b]?=some (.cells cs t fr)):(w.setCell ⟨b,k,none⟩ u).heap[b]?=some (.cells (cs.setIfInBounds k u) t fr):=by
 simp[World.setCell,Array.getElem?_modify,h]
theorem zah (w:World) (o:Obj):(w.alloc o).heap[w.heap.size]?=some o:=heap_alloc_new w o
theorem zak {w:World} {b:Nat} {x:Obj} (o:Obj) (h:w.heap[b]?=some x):(w.alloc o).heap[b]?=some x:=(Below.heap_alloc w o b (lt_of_block h)).trans h
theorem zci (b j:Nat):(⟨b,0,none⟩:Addr).add j=⟨b,j,none⟩:=by unfold Addr.add;split<;>simp_all
end Go.Proofs.YtbilfdapmbahgaaGreatDoor
namespace Go.Proofs.YtbilfdapmbahgaaGreatDoor
open Go Go.RowKit
end Go.Proofs.YtbilfdapmbahgaaGreatDoor
namespace Go.Proofs.YtbilfdapmbahgaaGreatDoor
open Go Go.RowKit
inductive ET where
 | mk (kind:Int) (op:ByteArray) (n:Int) (name:ByteArray) (a:Option Addr) (cap:Nat) (kids:List ET)
def ET.kind:ET→Int
 | .mk k _ _ _ _ _ _=>k
def ET.op:ET→ByteArray
 | .mk _ o _ _ _ _ _=>o
def ET.n:ET→Int
 | .mk _ _ n _ _ _ _=>n
def ET.name:ET→ByteArray
 | .mk _ _ _ m _ _ _=>m
def ET.kids:ET→List ET
 | .mk _ _ _ _ _ _ l=>l
def ET.kaddr:ET→Option Addr
 | .mk _ _ _ _ a _ _=>a
def ET.kcap:ET→Nat
 | .mk _ _ _ _ _ c _=>c
def ET.cells:ET→Array Value
 | .mk k o n m a c l=>#[.int .i64 k,.string o,.int .i64 n,.string m,.slice a l.length c]
abbrev ET.val (T:ET):Value:=.agg T.cells
def RowAt (w:World) (B:Nat) (a:Option Addr) (i:Nat) (size:Nat) (cs:Array Value):Prop:=
 ∃b o,a=some ⟨b,o,none⟩∧B≤b∧∀j v,cs[j]?=some v→w.cell? ⟨b,o+i*size+j,none⟩=some v
theorem RowAt.keep {w w':World} {B:Nat} {a:Option Addr} {i size:Nat} {cs:Array Value} (h:RowAt w B a i size cs) (hk:∀p v,B≤p.block→w.cell? p=some v→w'.cell? p=some v):RowAt w' B a i size cs:=by
 obtain⟨b,o,e,hB,hc⟩:=h
 exact⟨b,o,e,hB,fun j v hj=>hk _ v hB (hc j v hj)⟩
theorem RowAt.mono {w:World} {B B':Nat} {a:Option Addr} {i size:Nat} {cs:Array Value} (h:RowAt w B a i size cs) (hB:B'≤B):RowAt w B' a i size cs:=by
 obtain⟨b,o,e,h1,hc⟩:=h
 exact⟨b,o,e,Nat.le_trans hB h1,hc⟩
mutual
def ET.In (w:World) (B:Nat):ET→Prop
 | .mk _ _ n _ a _ l=>(-9223372036854775808≤n∧n≤9223372036854775807)∧l.length≤9223372036854775807∧EsIn w B a 0 l
def EsIn (w:World) (B:Nat) (a:Option Addr):Nat→List ET→Prop
 | _,[]=>True
 | i,T :: l=>RowAt w B a i 5 T.cells∧T.In w B∧EsIn w B a (i+1) l
end
mutual
theorem ET.In.keep {w w':World} {B:Nat} (hk:∀p v,B≤p.block→w.cell? p=some v→w'.cell? p=some v):∀{T:ET},T.In w B→T.In w' B
 | .mk k o n m a c l,h=>by
  rw[ET.In] at h ⊢
  exact⟨h.1,h.2.1,EsIn.keep hk h.2.2⟩
theorem EsIn.keep {w w':World} {B:Nat} {a:Option Addr} (hk:∀p v,B≤p.block→w.cell? p=some v→w'.cell? p=some v):∀{i:Nat} {l:List ET},EsIn w B a i l→EsIn w' B a i l
 | _,[],_=>by rw[EsIn];trivial
 | i,T :: l,h=>by
  rw[EsIn] at h ⊢
  exact⟨h.1.keep hk,h.2.1.keep hk,EsIn.keep hk h.2.2⟩
end
mutual
theorem ET.In.mono {w:World} {B B':Nat} (hB:B'≤B):∀{T:ET},T.In w B→T.In w B'
 | .mk k o n m a c l,h=>by
  rw[ET.In] at h ⊢
  exact⟨h.1,h.2.1,EsIn.mono hB h.2.2⟩
theorem EsIn.mono {w:World} {B B':Nat} {a:Option Addr} (hB:B'≤B):∀{i:Nat} {l:List ET},EsIn w B a i l→EsIn w B' a i l
 | _,[],_=>by rw[EsIn];trivial
 | i,T :: l,h=>by
  rw[EsIn] at h ⊢
  exact⟨h.1.mono hB,h.2.1.mono hB,EsIn.mono hB h.2.2⟩
end
theorem zan {w w':World} (h:Below w.heap.size w w') {B:Nat}:∀p v,B≤p.block→w.cell? p=some v→w'.cell? p=some v:=fun p v _ hc=>by
 have hlt:p.block < w.heap.size:=by
  rcases Nat.lt_or_ge p.block w.heap.size with h' | h'
  ·exact h'
  ·exfalso
   obtain⟨b,o,q⟩:=p
   simp only at h'
   simp[World.cell?,Array.getElem?_eq_none h'] at hc
 rw[h.cell hlt];exact hc
theorem ET.In.on {w w':World} {B:Nat} {T:ET} (h:T.In w B) (hb:Below w.heap.size w w'):T.In w' B:=h.keep (zan hb)
theorem EsIn.on {w w':World} {B:Nat} {a:Option Addr} {i:Nat} {l:List ET} (h:EsIn w B a i l) (hb:Below w.heap.size w w'):EsIn w' B a i l:=h.keep (zan hb)
theorem EsIn.nth {w:World} {B:Nat} {a:Option Addr}:∀{l:List ET} {i:Nat},EsIn w B a i l→∀(j:Nat) (hj:j < l.length),RowAt w B a (i+j) 5 l[j].cells∧l[j].In w B
 | [],_,_,j,hj=>by simp at hj
 | T :: l,i,h,j,hj=>by
  rw[EsIn] at h
  cases j with
  | zero=>exact⟨h.1,h.2.1⟩
  | succ j =>
   have:=EsIn.nth h.2.2 j (by simpa using hj)
   rw[show i+1+j=i+(j+1) by omega] at this
   exact this
def levL (l:List UInt8):Int:=zas ⟨l.toArray⟩
def zbo (o:ByteArray) (n:Int) (m:ByteArray):Bool:=nmB m&&o.toList.isEmpty&&n==0
def zcI (n:Int) (m:ByteArray):Bool:=m.toList.isEmpty&&n==0
def zcj (k:Int) (o:ByteArray) (n:Int) (m:ByteArray) (len:Nat):Bool:=
 if k=0 then o.toList.isEmpty&&m.toList.isEmpty&&len==0
 else if k=1 then zbo o n m&&len==0
 else if k=2 then zbo o n m&&len==1
 else if k=3 then unB o&&zcI n m&&len==1
 else if k=4 then decide (0 < zas o)&&zcI n m&&len==2
 else false
mutual
def ET.sz:ET→Nat
 | .mk _ _ _ _ _ _ l=>1+szs l
def szs:List ET→Nat
 | []=>0
 | T :: l=>T.sz+szs l
end
mutual
def ET.rightB:ET→Bool
 | .mk k o n m a c l=>zcj k o n m l.length&&zaq l
def zaq:List ET→Bool
 | []=>true
 | T :: l=>T.rightB&&zaq l
end
def ET.re:ET→RE
 | .mk k o n m _ _ []=>if k=0 then .num n else .var m.data.toList
 | .mk k o n m _ _ [T]=>if k=2 then .idx m.data.toList T.re else .un (o.data.toList.headD 0) T.re
 | .mk k o n m _ _ (T :: U :: _)=>.bin o.data.toList T.re U.re
theorem isE {s:ByteArray} (h:s.toList.isEmpty=true):s={data:=#[]}:=by
 obtain⟨⟨l⟩⟩:=s
 rw[ByteArray.toList_eq] at h
 cases l with
 | nil=>rfl
 | cons=>simp at h
theorem zer {T:ET} (h:T.rightB=true):
  (∃n a c,T=.mk 0 {data:=#[]} n {data:=#[]} a c []) ∨
  (∃m a c,nmB m=true∧T=.mk 1 {data:=#[]} 0 m a c []) ∨
  (∃m a c e,nmB m=true∧e.rightB=true∧T=.mk 2 {data:=#[]} 0 m a c [e]) ∨
  (∃o a c e,unB o=true∧e.rightB=true∧T=.mk 3 o 0 {data:=#[]} a c [e]) ∨
  (∃o a c e f,0 < zas o∧e.rightB=true∧f.rightB=true∧T=.mk 4 o 0 {data:=#[]} a c [e,f]):=by
 obtain⟨k,o,n,m,a,c,l⟩:=T
 rw[ET.rightB,Bool.and_eq_true] at h
 obtain⟨h1,h2⟩:=h
 unfold zcj zbo zcI at h1
 by_cases hk0:k=0
 ·rw[if_pos hk0] at h1;subst hk0
  simp only[Bool.and_eq_true,beq_iff_eq,List.length_eq_zero_iff] at h1
  exact .inl ⟨n,a,c,by rw[isE h1.1.1,isE h1.1.2,h1.2]⟩
 rw[if_neg hk0] at h1
 by_cases hk1:k=1
 ·rw[if_pos hk1] at h1;subst hk1
  simp only[Bool.and_eq_true,beq_iff_eq,List.length_eq_zero_iff] at h1
  exact .inr (.inl ⟨m,a,c,h1.1.1.1,by rw[isE h1.1.1.2,h1.1.2,h1.2]⟩)
 rw[if_neg hk1] at h1
 by_cases hk2:k=2
 ·rw[if_pos hk2] at h1;subst hk2
  simp only[Bool.and_eq_true,beq_iff_eq,List.length_eq_one_iff] at h1
  obtain⟨e,rfl⟩:=h1.2
  simp only[zaq,Bool.and_true] at h2
  exact .inr (.inr (.inl ⟨m,a,c,e,h1.1.1.1,h2,by rw[isE h1.1.1.2,h1.1.2]⟩))
 rw[if_neg hk2] at h1
 by_cases hk3:k=3
 ·rw[if_pos hk3] at h1;subst hk3
  simp only[Bool.and_eq_true,beq_iff_eq,List.length_eq_one_iff] at h1
  obtain⟨e,rfl⟩:=h1.2
  simp only[zaq,Bool.and_true] at h2
  exact .inr (.inr (.inr (.inl ⟨o,a,c,e,h1.1.1,h2,by rw[isE h1.1.2.1,h1.1.2.2]⟩)))
 rw[if_neg hk3] at h1
 by_cases hk4:k=4
 ·rw[if_pos hk4] at h1;subst hk4
  simp only[Bool.and_eq_true,beq_iff_eq,decide_eq_true_eq] at h1
  match l,h1.2,h2 with
  | [e,f],_,h2 =>
   simp only[zaq,Bool.and_true,Bool.and_eq_true] at h2
   exact .inr (.inr (.inr (.inr ⟨o,a,c,e,f,h1.1.1,h2.1,h2.2,by rw[isE h1.1.2.1,h1.1.2.2]⟩)))
 ·rw[if_neg hk4] at h1;cases h1
theorem unB_is {o:ByteArray} (h:unB o=true):∃c:UInt8,(c=45∨c=126∨c=33)∧o={data:=#[c]}:=by
 unfold unB at h
 by_cases h0:o.data.toList=[45]
 ·exact⟨45,.inl rfl,zap h0⟩
 by_cases h1:o.data.toList=[126]
 ·exact⟨126,.inr (.inl rfl),zap h1⟩
 by_cases h2:o.data.toList=[33]
 ·exact⟨33,.inr (.inr rfl),zap h2⟩
 simp_all
end Go.Proofs.YtbilfdapmbahgaaGreatDoor

namespace Go.Proofs.YtbilfdapmbahgaaGreatDoor
open Go Go.RowKit
def Past (w0 w:World):Prop:=Below w0.heap.size w0 w
theorem Past.refl (w:World):Past w w:=Below.refl _ _
theorem Past.on {w0 w w':World} (h:Past w0 w) (hb:Below w.heap.size w w'):Past w0 w':=Below.trans h (hb.mono h.size)
theorem Past.alloc {w0 w:World} (h:Past w0 w) (o:Obj):Past w0 (w.alloc o):=Below.alloc h h.size o
theorem Past.drew {w0 w:World} (h:Past w0 w):Past w0 w.drew:=Below.drew h
def Pow (w0:World):Prop:=Lib.TabBelow Tryz.prog w0.heap.size w0 "internal/strconv.uint64pow10" .u64 Lib.pow10Tab
theorem Keeps.box {b:Nat} {w w':World} (h:Keeps b w w') {q:Nat} {cs:Array Value} {t:TypeId} {fr:Nat×Nat} (hq:w.heap[q]?=some (.cells cs t fr)) (hne:q≠b) (ht:t≠5):w'.heap[q]?=some (.cells cs t fr):=
 h q _ hne hq (fun c f e=>by simp only[Obj.cells.injEq] at e;exact ht e.2.1)
theorem zaB {w:World} {n:Nat} (o:Obj) (h:w.heap.size=n):(w.alloc o).heap[n]?=some o:=by subst h;exact zah w o
theorem cells5 {w:World} {b:Nat} {t:TypeId} {fr:Nat×Nat} {v0 v1 v2 v3 v4:Value} (h:w.heap[b]?=some (.cells #[v0,v1,v2,v3,v4] t fr)):
  w.cell? ⟨b,0,none⟩=some v0∧w.cell? ⟨b,1,none⟩=some v1∧w.cell? ⟨b,2,none⟩=some v2∧w.cell? ⟨b,3,none⟩=some v3∧w.cell? ⟨b,4,none⟩=some v4:=
 ⟨zab h rfl,zab h rfl,zab h rfl,zab h rfl,zab h rfl⟩
end Go.Proofs.YtbilfdapmbahgaaGreatDoor
namespace Go.Proofs.YtbilfdapmbahgaaGreatDoor
open Go Go.RowKit
theorem box5 {w w':World} {q:Nat} {t:TypeId} {fr:Nat×Nat} {v0 v1 v2 v3 v4:Value} (hq:w.heap[q]?=some (.cells #[v0,v1,v2,v3,v4] t fr)) (hb:Below w.heap.size w w'):
  w'.cell? ⟨q,0,none⟩=some v0∧w'.cell? ⟨q,1,none⟩=some v1∧w'.cell? ⟨q,2,none⟩=some v2∧w'.cell? ⟨q,3,none⟩=some v3∧w'.cell? ⟨q,4,none⟩=some v4:=
 cells5 ((hb.block q (lt_of_block hq)).trans hq)
theorem levelV_le (o:ByteArray):0≤zas o∧zas o≤10:=by
 unfold zas
 repeat' split
 all_goals omega
end Go.Proofs.YtbilfdapmbahgaaGreatDoor
namespace Go.Proofs.YtbilfdapmbahgaaGreatDoor
open Go Go.RowKit
structure Cells5 (w:World) (b o:Nat) (v0 v1 v2 v3 v4:Value):Prop where
 c0:w.cell? ⟨b,o,none⟩=some v0
 c1:w.cell? ⟨b,o+1,none⟩=some v1
 c2:w.cell? ⟨b,o+2,none⟩=some v2
 c3:w.cell? ⟨b,o+3,none⟩=some v3
 c4:w.cell? ⟨b,o+4,none⟩=some v4
 lt:b < w.heap.size
theorem zck {w:World} {b o:Nat} {v:Value} (h:w.cell? ⟨b,o,none⟩=some v):b < w.heap.size:=by
 rcases Nat.lt_or_ge b w.heap.size with h' | h'
 ·exact h'
 ·simp[World.cell?,Array.getElem?_eq_none h'] at h
theorem zaF {w0 w:World} {B b o i:Nat} {v0 v1 v2 v3 v4:Value} (h:RowAt w0 B (some ⟨b,o,none⟩) i 5 #[v0,v1,v2,v3,v4]) (hp:Past w0 w):Cells5 w b (o+i*5) v0 v1 v2 v3 v4:=by
 obtain⟨b',o',e,-,hc⟩:=h
 simp only[Option.some.injEq,Addr.mk.injEq,and_true] at e
 obtain⟨rfl,rfl⟩:=e
 have k:=zan hp (B:=0)
 have h0:=k _ _ (Nat.zero_le _) (hc 0 v0 rfl)
 exact⟨h0,k _ _ (Nat.zero_le _) (hc 1 v1 rfl),k _ _ (Nat.zero_le _) (hc 2 v2 rfl),k _ _ (Nat.zero_le _) (hc 3 v3 rfl),k _ _ (Nat.zero_le _) (hc 4 v4 rfl),zck h0⟩
end Go.Proofs.YtbilfdapmbahgaaGreatDoor
namespace Go.Proofs.YtbilfdapmbahgaaGreatDoor
open Go Go.RowKit
theorem ET.cells_is (T:ET):T.cells=#[.int .i64 T.kind,.string T.op,.int .i64 T.n,.string T.name,.slice T.kaddr T.kids.length T.kcap]:=by cases T;rfl
theorem ET.val_is (T:ET):T.val=.agg #[.int .i64 T.kind,.string T.op,.int .i64 T.n,.string T.name,.slice T.kaddr T.kids.length T.kcap]:=by cases T;rfl
end Go.Proofs.YtbilfdapmbahgaaGreatDoor

namespace Go.Proofs.YtbilfdapmbahgaaGreatDoor
open Go Go.RowKit
open Go.Lib (hid)
abbrev exV (k:Int) (o:ByteArray) (n:Int) (m:ByteArray) (v:Value):Value:=.agg #[.int .i64 k,.string o,.int .i64 n,.string m,v]
theorem names_any (k:Int) (o:ByteArray) (n:Int) (m:ByteArray) (v:Value) (w:World):
  Calls Tryz.prog 207 #[.agg #[.int .i64 k,.string o,.int .i64 n,.string m,v]] w fun e w'=>e=.returned (.bool (zbo o n m))∧Below w.heap.size w w':=by
 have key:nmB m=false∧zbo o n m=false∨nmB m=true∧(o.toList.isEmpty=false∧zbo o n m=false∨o.toList.isEmpty=true∧((n==0)=false∧zbo o n m=false∨(n==0)=true∧zbo o n m=true)):=by
  unfold zbo
  cases nmB m<;>cases o.toList.isEmpty<;>cases (n==0)<;>simp
 generalize zbo o n m=r at key ⊢
 rcases key with ⟨h1,rfl⟩ | ⟨h1,(⟨h2,rfl⟩ | ⟨h2,(⟨h3,rfl⟩ | ⟨h3,rfl⟩)⟩)⟩
 all_goals
  go_enter Tryz.func207,Tryz.ntmps207
  go_wp2_with (go_at_call 70;refine(zbR _ _).mono ?_;rintro e w' ⟨rfl,rfl⟩;rw[h1])
  go_ret
  exact⟨by simp,(Below.refl _ _).alloc (Nat.le_refl _) _⟩
theorem reckons_any (k:Int) (o:ByteArray) (n:Int) (m:ByteArray) (v:Value) (w:World):
  Calls Tryz.prog 209 #[.agg #[.int .i64 k,.string o,.int .i64 n,.string m,v]] w fun e w'=>e=.returned (.bool (zcI n m))∧Below w.heap.size w w':=by
 have key:m.toList.isEmpty=false∧zcI n m=false∨m.toList.isEmpty=true∧((n==0)=false∧zcI n m=false∨(n==0)=true∧zcI n m=true):=by
  unfold zcI
  cases m.toList.isEmpty<;>cases (n==0)<;>simp
 generalize zcI n m=r at key ⊢
 rcases key with ⟨h2,rfl⟩ | ⟨h2,(⟨h3,rfl⟩ | ⟨h3,rfl⟩)⟩
 all_goals
  go_enter Tryz.func209,Tryz.ntmps209
  go_wp2_with fail
  go_ret
  exact⟨by simp,(Below.refl _ _).alloc (Nat.le_refl _) _⟩
theorem zbW (len j:Nat):((len:Int)==(j:Int))=(len==j):=by rw[Bool.eq_iff_iff,beq_iff_eq,beq_iff_eq];omega
def FormedPost (r:Bool) (w:World) (e:Ending) (w':World):Prop:=e=.returned (.bool r)∧Below w.heap.size w w'
theorem formed_num (o:ByteArray) (n:Int) (m:ByteArray) (a:Option Addr) (len c:Nat) (w:World):
  Calls Tryz.prog 167 #[exV 0 o n m (.slice a len c)] w (FormedPost (o.toList.isEmpty&&m.toList.isEmpty&&len==0) w):=by
 have e0:=zbW len 0
 generalize hr:(o.toList.isEmpty&&m.toList.isEmpty&&len==0)=r
 have key:o.toList.isEmpty=false∧r=false∨o.toList.isEmpty=true∧(m.toList.isEmpty=false∧r=false∨m.toList.isEmpty=true∧(((len:Int)==0)=false∧r=false∨((len:Int)==0)=true∧r=true)):=by
  rw[←hr,show((len:Int)==0)=(len==0) from e0]
  cases o.toList.isEmpty<;>cases m.toList.isEmpty<;>cases (len==0)<;>simp
 clear hr e0
 rcases key with ⟨h1,rfl⟩ | ⟨h1,(⟨h2,rfl⟩ | ⟨h2,(⟨h3,rfl⟩ | ⟨h3,rfl⟩)⟩)⟩
 all_goals
  go_enter Tryz.func167,Tryz.ntmps167
  go_wp2_with fail
  go_ret
  exact⟨by simp,(Below.refl _ _).alloc (Nat.le_refl _) _⟩
theorem formed_var (o:ByteArray) (n:Int) (m:ByteArray) (a:Option Addr) (len c:Nat) (w:World):
  Calls Tryz.prog 167 #[exV 1 o n m (.slice a len c)] w (FormedPost (zbo o n m&&len==0) w):=by
 have e0:=zbW len 0
 generalize hr:(zbo o n m&&len==0)=r
 have key:zbo o n m=false∧r=false∨zbo o n m=true∧(((len:Int)==0)=false∧r=false∨((len:Int)==0)=true∧r=true):=by
  rw[←hr,show((len:Int)==0)=(len==0) from e0]
  cases zbo o n m<;>cases (len==0)<;>simp
 clear hr e0
 rcases key with ⟨h2,rfl⟩ | ⟨h2,(⟨h3,rfl⟩ | ⟨h3,rfl⟩)⟩
 all_goals
  go_enter Tryz.func167,Tryz.ntmps167
  go_wp2_with (go_at_call 207;refine(names_any _ _ _ _ _ _).mono ?_;rintro e w' ⟨rfl,hb⟩;rw[h2])
  go_ret
  exact⟨by simp,((Below.refl _ _).alloc (Nat.le_refl _) _).trans (hb.mono (by simp))⟩
theorem formed_idx (o:ByteArray) (n:Int) (m:ByteArray) (a:Option Addr) (len c:Nat) (w:World):
  Calls Tryz.prog 167 #[exV 2 o n m (.slice a len c)] w (FormedPost (zbo o n m&&len==1) w):=by
 have e0:=zbW len 1
 generalize hr:(zbo o n m&&len==1)=r
 have key:zbo o n m=false∧r=false∨zbo o n m=true∧(((len:Int)==1)=false∧r=false∨((len:Int)==1)=true∧r=true):=by
  rw[←hr,show((len:Int)==1)=(len==1) from e0]
  cases zbo o n m<;>cases (len==1)<;>simp
 clear hr e0
 rcases key with ⟨h2,rfl⟩ | ⟨h2,(⟨h3,rfl⟩ | ⟨h3,rfl⟩)⟩
 all_goals
  go_enter Tryz.func167,Tryz.ntmps167
  go_wp2_with (go_at_call 207;refine(names_any _ _ _ _ _ _).mono ?_;rintro e w' ⟨rfl,hb⟩;rw[h2])
  go_ret
  exact⟨by simp,((Below.refl _ _).alloc (Nat.le_refl _) _).trans (hb.mono (by simp))⟩
theorem formed_un (o:ByteArray) (n:Int) (m:ByteArray) (a:Option Addr) (len c:Nat) (w:World):
  Calls Tryz.prog 167 #[exV 3 o n m (.slice a len c)] w (FormedPost (unB o&&zcI n m&&len==1) w):=by
 have e0:=zbW len 1
 generalize hr:(unB o&&zcI n m&&len==1)=r
 have key:unB o=false∧r=false∨unB o=true∧(zcI n m=false∧r=false∨zcI n m=true∧(((len:Int)==1)=false∧r=false∨((len:Int)==1)=true∧r=true)):=by
  rw[←hr,show((len:Int)==1)=(len==1) from e0]
  cases unB o<;>cases zcI n m<;>cases (len==1)<;>simp
 clear hr e0
 rcases key with ⟨h1,rfl⟩ | ⟨h1,(⟨h2,rfl⟩ | ⟨h2,(⟨h3,rfl⟩ | ⟨h3,rfl⟩)⟩)⟩
 ·go_enter Tryz.func167,Tryz.ntmps167
  go_wp2_with (go_at_call 208;refine(un_any _ _ (by decide) _).mono ?_;rintro e w1 ⟨rfl,hb⟩;rw[h1])
  go_ret
  exact⟨by simp,((Below.refl _ _).alloc (Nat.le_refl _) _).trans (hb.mono (by simp))⟩
 all_goals
  go_enter Tryz.func167,Tryz.ntmps167
  go_wp2_with (first
   | (go_at_call 208;refine(un_any _ _ (by decide) _).mono ?_;rintro e w1 ⟨rfl,hb⟩;rw[h1];obtain⟨c0,c1,c2,c3,c4⟩:=cells5 ((hb.block w.heap.size (by simp)).trans (zah _ _)))
   | (go_at_call 209;refine(reckons_any _ _ _ _ _ _).mono ?_;rintro e w2 ⟨rfl,hb2⟩;rw[h2]))
  go_ret
  exact⟨by simp,(((Below.refl _ _).alloc (Nat.le_refl _) _).trans (hb.mono (by simp))).trans (hb2.mono (by have:=hb.size;simp at this;omega))⟩
theorem formed_bin (o:ByteArray) (n:Int) (m:ByteArray) (a:Option Addr) (len c:Nat) (w:World):
  Calls Tryz.prog 167 #[exV 4 o n m (.slice a len c)] w (FormedPost (decide (0 < zas o)&&zcI n m&&len==2) w):=by
 have e0:=zbW len 2
 generalize hr:(decide (0 < zas o)&&zcI n m&&len==2)=r
 generalize hlv:zas o=lv at hr
 have HL:=hid hlv
 have key:decide (0 < lv)=false∧r=false∨decide (0 < lv)=true∧(zcI n m=false∧r=false∨zcI n m=true∧(((len:Int)==2)=false∧r=false∨((len:Int)==2)=true∧r=true)):=by
  rw[←hr,show((len:Int)==2)=(len==2) from e0]
  cases decide (0 < lv)<;>cases zcI n m<;>cases (len==2)<;>simp
 clear hr e0 hlv
 rcases key with ⟨h1,rfl⟩ | ⟨h1,(⟨h2,rfl⟩ | ⟨h2,(⟨h3,rfl⟩ | ⟨h3,rfl⟩)⟩)⟩
 ·go_enter Tryz.func167,Tryz.ntmps167
  go_wp2_with (go_at_call 210;refine(zcV _ _).mono ?_;rintro e w1 ⟨rfl,hb⟩;rw[HL.out])
  go_ret
  exact⟨by simp,((Below.refl _ _).alloc (Nat.le_refl _) _).trans (hb.mono (by simp))⟩
 all_goals
  go_enter Tryz.func167,Tryz.ntmps167
  go_wp2_with (first
   | (go_at_call 210;refine(zcV _ _).mono ?_;rintro e w1 ⟨rfl,hb⟩;rw[HL.out];obtain⟨c0,c1,c2,c3,c4⟩:=cells5 ((hb.block w.heap.size (by simp)).trans (zah _ _)))
   | (go_at_call 209;refine(reckons_any _ _ _ _ _ _).mono ?_;rintro e w2 ⟨rfl,hb2⟩;rw[h2]))
  go_ret
  exact⟨by simp,(((Below.refl _ _).alloc (Nat.le_refl _) _).trans (hb.mono (by simp))).trans (hb2.mono (by have:=hb.size;simp at this;omega))⟩
theorem formed_any (k:Int) (o:ByteArray) (n:Int) (m:ByteArray) (a:Option Addr) (len c:Nat) (w:World):
  Calls Tryz.prog 167 #[exV k o n m (.slice a len c)] w (FormedPost (zcj k o n m len) w):=by
 unfold zcj
 by_cases h0:k=0
 ·subst h0;rw[if_pos rfl];exact formed_num o n m a len c w
 rw[if_neg h0]
 by_cases h1:k=1
 ·subst h1;rw[if_pos rfl];exact formed_var o n m a len c w
 rw[if_neg h1]
 by_cases h2:k=2
 ·subst h2;rw[if_pos rfl];exact formed_idx o n m a len c w
 rw[if_neg h2]
 by_cases h3:k=3
 ·subst h3;rw[if_pos rfl];exact formed_un o n m a len c w
 rw[if_neg h3]
 by_cases h4:k=4
 ·subst h4;rw[if_pos rfl];exact formed_bin o n m a len c w
 rw[if_neg h4]
 go_enter Tryz.func167,Tryz.ntmps167
 go_wp2_with fail
 go_ret
 exact⟨by simp,(Below.refl _ _).alloc (Nat.le_refl _) _⟩
end Go.Proofs.YtbilfdapmbahgaaGreatDoor
namespace Go.Proofs.YtbilfdapmbahgaaGreatDoor
open Go Go.RowKit
open Go.Lib (hid)
theorem zae {w w1 w2:World} (h:Below w.heap.size w w1) (g:Below w1.heap.size w1 w2):Below w.heap.size w w2:=h.trans (g.mono h.size)
theorem rightEs_take {l:List ET} {n:Nat} (hn:n < l.length):zaq (l.take (n+1))=(zaq (l.take n)&&l[n].rightB):=by
 have main:∀(l m:List ET),zaq (l++m)=(zaq l&&zaq m):=by
  intro l
  induction l with
  | nil=>intro m;simp[zaq]
  | cons T l ih=>intro m;rw[List.cons_append,zaq,zaq,ih,Bool.and_assoc]
 rw[List.take_succ_eq_append_getElem hn,main];simp[zaq]
theorem rightEs_false {l:List ET} {n:Nat} (hn:n < l.length) (h:l[n].rightB=false):zaq l=false:=by
 induction l generalizing n with
 | nil=>simp at hn
 | cons T l ih =>
  cases n with
  | zero=>rw[zaq,show T.rightB=false from h];rfl
  | succ n=>rw[zaq,ih (n:=n) (by simpa using hn) h];simp
theorem all_exprs {w0:World} (a:Option Addr) (c:Nat) (l:List ET) (hl:l.length≤9223372036854775807) (hin:EsIn w0 0 a 0 l)
  (hf:∀(n:Nat) (hn:n < l.length) (w:World),Past w0 w→Calls Tryz.prog 111 #[l[n].val] w fun e w'=>e=.returned (.bool l[n].rightB)∧Below w.heap.size w w') (w:World) (hp:Past w0 w):
  Calls Tryz.prog 110 #[.slice a l.length c,.func (.func 111) #[] #[]] w fun e w'=>e=.returned (.bool (zaq l))∧Below w.heap.size w w':=by
 have HF:=hid hf
 have HI:=hid hin
 have HP:=hid hp
 clear hf hin hp
 go_enter Tryz.func110,Tryz.ntmps110
 go_wp2
 go_loopw [6,9] (fun _ i wr=>∃n:Nat,n≤l.length∧i=.int .i64 n∧Below w.heap.size w wr∧zaq (l.take n)=true) (fun _ i _=>l.length - (intOf i).toNat)
 case atStart=>exact⟨0,Nat.zero_le _,rfl,Below.refl _ _,rfl⟩
 case round =>
  obtain⟨n,hn,rfl,hb,ht⟩:=hrel
  have HB:=hid hb
  have HT:=hid ht
  clear hb ht
  by_cases hlt:n < l.length
  ·obtain⟨hrow,-⟩:=HI.out.nth n hlt
   have hrow':=hrow
   obtain⟨kb,ko,rfl,-⟩:=hrow'
   rw[ET.cells_is,Nat.zero_add] at hrow
   obtain⟨r0,r1,r2,r3,r4,hkb⟩:=zaF hrow (HP.out.on HB.out)
   have hcall:=HF.out n hlt
   rw[ET.val_is] at hcall
   have HC:=hid hcall
   clear hcall hrow
   cases hr:l[n].rightB with
   | false =>
    have HR:=hid (rightEs_false hlt hr)
    rw[hr] at HC
    clear hr
    go_wp2_with (go_at_call 111;have hx:=HC.out _ ((HP.out.on HB.out).alloc (.cells #[.int .i64 l[n].kind,.string l[n].op,.int .i64 l[n].n,.string l[n].name,.slice l[n].kaddr l[n].kids.length l[n].kcap] 86));refine hx.mono ?_;clear hx;rintro e w2 ⟨rfl,hb2⟩;have HB2:=hid (zae (HB.out.alloc HB.out.size _) hb2);clear hb2)
    go_ret
    exact⟨by rw[HR.out];rfl,HB2.out⟩
   | true =>
    have HR:=hid (show zaq (l.take (n+1))=true by rw[rightEs_take hlt,HT.out,hr];rfl)
    rw[hr] at HC
    clear hr
    go_wp2_with (go_at_call 111;have hx:=HC.out _ ((HP.out.on HB.out).alloc (.cells #[.int .i64 l[n].kind,.string l[n].op,.int .i64 l[n].n,.string l[n].name,.slice l[n].kaddr l[n].kids.length l[n].kcap] 86));refine hx.mono ?_;clear hx;rintro e w2 ⟨rfl,hb2⟩;have HB2:=hid (zae (HB.out.alloc HB.out.size _) hb2);clear hb2)
    go_round
    case rel=>exact⟨n+1,by omega,by go_num,HB2.out,HR.out⟩
    case measure=>simp[intOf];omega
  ·obtain rfl:n=l.length:=by omega
   rw[List.take_length] at HT
   go_wp2
   go_ret
   exact⟨by rw[HT.out];rfl,HB.out⟩
def RightOk (w0:World) (T:ET):Prop:=∀w,Past w0 w→Calls Tryz.prog 111 #[T.val] w fun e w'=>e=.returned (.bool T.rightB)∧Below w.heap.size w w'
theorem szs_nth:∀{l:List ET} {n:Nat} (hn:n < l.length),l[n].sz≤szs l
 | T :: l,0,_=>by simp[szs]
 | T :: l,n+1,h=>by
  have:=szs_nth (l:=l) (n:=n) (by simpa using h)
  simp only[szs,List.getElem_cons_succ]
  omega
theorem right_any {w0:World}:∀(m:Nat) (T:ET),T.sz≤m→T.In w0 0→RightOk w0 T:=by
 intro m
 induction m with
 | zero=>intro T hm;obtain⟨k,o,n,m,a,c,l⟩:=T;simp[ET.sz] at hm
 | succ m ih =>
  intro T hm hin w hp
  obtain⟨k,o,n,m',a,c,l⟩:=T
  rw[ET.In] at hin
  have hall:∀W,Past w0 W→Calls Tryz.prog 110 #[.slice a l.length c,.func (.func 111) #[] #[]] W fun e w'=>e=.returned (.bool (zaq l))∧Below W.heap.size W w':=
   fun W hW=>all_exprs a c l hin.2.1 hin.2.2 (fun n hn w hw=>ih l[n] (by have:=szs_nth hn;simp[ET.sz] at hm;omega) (hin.2.2.nth n hn).2 w hw) W hW
  have HA:=hid hall
  have HP:=hid hp
  have e1:(ET.mk k o n m' a c l).rightB=(zcj k o n m' l.length&&zaq l):=by rw[ET.rightB]
  rw[e1]
  show Calls Tryz.prog 111 #[exV k o n m' (.slice a l.length c)] w _
  have HF:=hid (fun W=>formed_any k o n m' a l.length c W)
  generalize zcj k o n m' l.length=r1 at HF
  generalize zaq l=r2 at HA
  clear hall hin hm ih hp e1
  cases r1 with
  | false =>
   go_enter Tryz.func111,Tryz.ntmps111
   go_wp2_with (go_at_call 167;refine(HF.out _).mono ?_;rintro e w1 ⟨rfl,hb⟩)
   go_ret
   exact⟨by simp,zae ((Below.refl _ _).alloc (Nat.le_refl _) _) hb⟩
  | true =>
   go_enter Tryz.func111,Tryz.ntmps111
   go_wp2_with (first
    | (go_at_call 167;refine(HF.out _).mono ?_;rintro e w1 ⟨rfl,hb⟩;obtain⟨c0,c1,c2,c3,c4⟩:=cells5 ((hb.block w.heap.size (by simp)).trans (zah _ _));have HB:=hid (zae ((Below.refl _ _).alloc (Nat.le_refl _) _) hb);clear hb)
    | (go_at_call 110;refine(HA.out _ (HP.out.on HB.out)).mono ?_;rintro e w2 ⟨rfl,hb2⟩))
   go_ret
   exact⟨by simp,zae HB.out hb2⟩
theorem rightExpr_any {w0:World} {T:ET} (hin:T.In w0 0) (w:World) (hp:Past w0 w):Calls Tryz.prog 277 #[T.val] w fun e w'=>e=.returned (.bool T.rightB)∧Below w.heap.size w w':=by
 have HH:=hid (right_any T.sz T (Nat.le_refl _) hin)
 have HP:=hid hp
 clear hin hp
 unfold RightOk at HH
 rw[ET.val_is] at HH ⊢
 generalize T.rightB=r at HH
 go_enter Tryz.func277,Tryz.ntmps277
 go_wp2_with (go_at_call 111;refine(HH.out _ (HP.out.alloc _)).mono ?_;rintro e w1 ⟨rfl,hb⟩)
 go_ret
 exact⟨rfl,zae ((Below.refl _ _).alloc (Nat.le_refl _) _) hb⟩
end Go.Proofs.YtbilfdapmbahgaaGreatDoor
