/- The writer of tree: a block that holds a Builder's two fields and how many blocks are open; what the Builder's methods and text do to it. -/
import Derived.Test.YtljbbhhiiiepcaaGreatDoorTWord
import Derived.Lib.Builder
import Derived.Lib.AppendStr
import Derived.Lib.UnsafeStr
import Derived.Laws.Externs
import Derived.OneCell
import Derived.Laws.OwnMore
import Derived.IntWalk
import Derived.Shelf.Strings.Builder1
import Derived.Shelf.Strconv.Itoa0
import Derived.Shelf.Strconv.Itoa1
import Derived.Shelf.LaysM
import Derived.Shelf.Strconv.Itoa2
import Derived.Shelf.Strconv.Itoa3
import Derived.Shelf.Strconv.Itoa4
import Derived.Ground.MpProg
import Derived.Shelf.Pu.ParseUintPublic10
import Derived.Shelf.Pu.ErrVarParseUint
import Derived.Shelf.Strings.Prefix
import Derived.Shelf.Slices.Turned
import Derived.Shelf.Slices.Equal
import Derived.Ground.Names2Prog
import Derived.Shelf.Slices.Clone
import Derived.Shelf.Slices.Empties2
import Derived.Ground.SlgnProg
import Derived.Shelf.SlicesE.Clone
import Derived.Test.YtljbbhhiiiepcaaGreatDoorProg
set_option linter.unusedSimpArgs false
set_option linter.unusedVariables false
set_option maxHeartbeats 8000000
set_option maxRecDepth 100000
namespace Go.Proofs.YtljbbhhiiiepcaaGreatDoor
open Go Go.RowKit
open Go.Lib (hid)
def Wr (B b:Nat) (bs:List UInt8) (k:Int) (w:World):Prop:=
 B≤b∧∃p v,(p=.pointer none∨p=.pointer (some ⟨b,0,none⟩))∧w.heap[b]?=some (.cells #[p,v,.int .i64 k] 152 (0,0))∧w.ownsRow B 5 1 v bs.length (Lib.byteCells bs)∧v.ownBlock≠some b
def Keeps (b:Nat) (w w':World):Prop:=∀q o,q≠b→w.heap[q]?=some o→(∀c f,o≠.cells c 5 f)→w'.heap[q]?=some o
structure Went (B b:Nat) (bs:List UInt8) (k:Int) (w w':World):Prop where
 wr:Wr B b bs k w'
 below:Below B w w'
 keeps:Keeps b w w'
theorem Keeps.refl (b:Nat) (w:World):Keeps b w w:=fun _ _ _ h _=>h
theorem Keeps.trans {b:Nat} {w w1 w2:World} (h:Keeps b w w1) (k:Keeps b w1 w2):Keeps b w w2:=fun q o hq ho hn=>k q o hq (h q o hq ho hn) hn
theorem Keeps.alloc {b:Nat} {w w1:World} (h:Keeps b w w1) (o:Obj):Keeps b w (w1.alloc o):=fun q x hq hx hn=>by
 have h1:=h q x hq hx hn
 exact(Below.heap_alloc w1 o q (lt_of_block h1)).trans h1
theorem Keeps.drew {b:Nat} {w w1:World} (h:Keeps b w w1):Keeps b w w1.drew:=h
theorem Keeps.set {b:Nat} {w w1:World} (h:Keeps b w w1) (j:Nat) (u:Value):Keeps b w (w1.setCell ⟨b,j,none⟩ u):=fun q o hq ho hn =>
 (Below.heap_setCell w1 ⟨b,j,none⟩ u q hq).trans (h q o hq ho hn)
theorem Keeps.grown {b:Nat} {w w1 w2:World} (h:Keeps b w w1) {v:Value} {B n:Nat} {xs:List Value} (ho:w1.ownsRow B 5 1 v n xs) (hg:w1.grownBy w2 v.ownBlock):Keeps b w w2:=fun q o hq hb hn=>by
 have h1:=h q o hq hb hn
 have hne:some q≠v.ownBlock:=by
  intro e
  rcases ho.2 with ⟨rfl,_⟩ | ⟨g,cap,cur,rfl,_,hg',_⟩
  ·simp[Value.ownBlock] at e
  ·simp only[Value.ownBlock,Option.some.injEq] at e
   subst e
   rw[hg'] at h1
   simp only[Option.some.injEq] at h1
   exact hn _ _ h1.symm
 exact(hg.block q (lt_of_block h1) hne).trans h1
theorem Wr.lt {B b:Nat} {bs:List UInt8} {k:Int} {w:World} (h:Wr B b bs k w):b < w.heap.size:=by
 obtain⟨_,p,v,_,hb,_⟩:=h
 exact lt_of_block hb
theorem Wr.alloc {B b:Nat} {bs:List UInt8} {k:Int} {w:World} (h:Wr B b bs k w) (o:Obj):Wr B b bs k (w.alloc o):=by
 have hlt:=h.lt
 obtain⟨hB,p,v,hp,hb,ho,hne⟩:=h
 exact⟨hB,p,v,hp,(Below.heap_alloc w o b hlt).trans hb,ho.alloc _,hne⟩
theorem Wr.drew {B b:Nat} {bs:List UInt8} {k:Int} {w:World} (h:Wr B b bs k w):Wr B b bs k w.drew:=h
theorem Went.trans {B b:Nat} {bs cs:List UInt8} {k m:Int} {w w1 w2:World} (h:Went B b bs k w w1) (g:Went B b cs m w1 w2):Went B b cs m w w2:=
 ⟨g.wr,h.below.trans g.below,h.keeps.trans g.keeps⟩
theorem Went.alloc {B b:Nat} {bs:List UInt8} {k:Int} {w w1:World} (h:Went B b bs k w w1) (o:Obj):Went B b bs k w (w1.alloc o):=
 ⟨h.wr.alloc o,h.below.alloc (by have:=h.wr.1;have:=h.wr.lt;omega) o,h.keeps.alloc o⟩
theorem Wr.went {B b:Nat} {bs:List UInt8} {k:Int} {w:World} (h:Wr B b bs k w):Went B b bs k w w:=⟨h,Below.refl _ _,Keeps.refl _ _⟩
theorem check_used (b:Nat) (w:World) (h0:w.cell? ⟨b,0,none⟩=some (.pointer (some ⟨b,0,none⟩))):
  Calls Tryz.prog 213 #[.pointer (some ⟨b,0,none⟩)] w fun e w'=>e=.returned (.tuple #[])∧w'=w:=by
 obtain⟨j,hj,_⟩:=Option.map_eq_some_iff.1 (show(Tryz.prog.info? 150).map (·.size)=some 2 by kernel_rfl)
 go_enter Tryz.func213,Tryz.ntmps213
 go_wp2
 rw[Lib.run_neq_ptr_same w _ Tryz.underlying148 hj]
 go_wp2
 go_end0
 exact⟨rfl,rfl⟩
theorem check_fresh (b:Nat) (w:World) (h0:w.cell? ⟨b,0,none⟩=some (.pointer none)) (hsh:w.shape? b=some (152,3)) (hfz:w.frozen? ⟨b,0,none⟩=false):
  Calls Tryz.prog 213 #[.pointer (some ⟨b,0,none⟩)] w fun e w'=>e=.returned (.tuple #[])∧w'=w.setCell ⟨b,0,none⟩ (.pointer (some ⟨b,0,none⟩)):=by
 obtain⟨j,hj,hjs⟩:=Option.map_eq_some_iff.1 (show(Tryz.prog.info? 150).map (·.size)=some 2 by kernel_rfl)
 have hl:liesAt Tryz.prog Tryz.prog.depth 152 (3 / Tryz.prog.cellsOf 152) 0 150 1=true:=by kernel_rfl
 go_enter Tryz.func213,Tryz.ntmps213
 go_wp2
 rw[Lib.run_to_unsafe w ⟨b,0,none⟩ Tryz.underlying148 Tryz.underlying259 hj (by rw[hjs];decide) hsh (Nat.zero_lt_succ 2)]
 simp only[Result.andThen]
 rw[Oper.upon_value]
 go_wp2
 rw[run_callFunc_extern Tryz.func231 (by kernel_rfl) (by kernel_rfl) (by kernel_rfl) (e:=Extern.AbiNoEscape.same) (by kernel_rfl)]
 rw[Lib.run_noEscape]
 simp only[Result.andThen]
 rw[Oper.upon_value]
 go_wp2
 rw[Lib.run_from_unsafe w ⟨b,0,none⟩ Tryz.underlying259 Tryz.underlying148 hj hsh hl]
 simp only[Result.andThen]
 rw[Oper.upon_value]
 go_wp2
 go_end0
 exact⟨rfl,rfl⟩
theorem wr_shape {b:Nat} {w:World} {p v u:Value} (h:w.heap[b]?=some (.cells #[p,v,u] 152 (0,0))):w.shape? b=some (152,3):=by simp[World.shape?,h]
theorem zab {w:World} {b k:Nat} {cs:Array Value} {t:TypeId} {fr:Nat×Nat} {v:Value} (h:w.heap[b]?=some (.cells cs t fr)) (hk:cs[k]?=some v):w.cell? ⟨b,k,none⟩=some v:=by simp[World.cell?,h,hk]
theorem zac {w:World} {b k:Nat} {cs:Array Value} {t:TypeId} (h:w.heap[b]?=some (.cells cs t (0,0))):w.frozen? ⟨b,k,none⟩=false:=by simp[World.frozen?,h]
theorem zaH {w:World} {b k:Nat} {cs:Array Value} {t:TypeId} {fr:Nat×Nat} (u:Value) (h:w.heap[b]?=some (.cells cs t fr)):(w.setCell ⟨b,k,none⟩ u).heap[b]?=some (.cells (cs.setIfInBounds k u) t fr):=by
 simp[World.setCell,Array.getElem?_modify,h]
theorem zaj (w:World) (o:Obj):(w.alloc o).heap[w.heap.size]?=some o:=heap_alloc_new w o
theorem zai {w:World} {b:Nat} {x:Obj} (o:Obj) (h:w.heap[b]?=some x):(w.alloc o).heap[b]?=some x:=(Below.heap_alloc w o b (lt_of_block h)).trans h
theorem add_zero' (b j:Nat):(⟨b,0,none⟩:Addr).add j=⟨b,j,none⟩:=by unfold Addr.add;split<;>simp_all
theorem wr_put {B b:Nat} {bs:List UInt8} {k:Int} {p v v':Value} {w:World} (hB:B≤b) (hp:p=.pointer none∨p=.pointer (some ⟨b,0,none⟩)) (hb:w.heap[b]?=some (.cells #[p,v,.int .i64 k] 152 (0,0))) (hown:w.ownsRow B 5 1 v' bs.length (Lib.byteCells bs)):Wr B b bs k (w.setCell ⟨b,1,none⟩ v'):=by
 have hne:v'.ownBlock≠some b:=Lib.ownBlock_ne hown hb (by decide)
 refine⟨hB,p,v',hp,by rw[zaH _ hb];rfl,?_,hne⟩
 exact hown.kept (row:=some b) ⟨rfl,rfl,rfl,by simp[World.setCell],fun k _ hk=>Below.heap_setCell _ _ _ _ (fun e=>hk (by simp[e]))⟩ (Or.inr hne)
theorem zb0 {B b:Nat} {bs:List UInt8} {k:Int} {w:World} (h:Wr B b bs k w):
  Calls Tryz.prog 213 #[.pointer (some ⟨b,0,none⟩)] w fun e w'=>e=.returned (.tuple #[])∧Below B w w'∧Keeps b w w'∧w'.heap.size=w.heap.size ∧
   ∃v,w'.heap[b]?=some (.cells #[.pointer (some ⟨b,0,none⟩),v,.int .i64 k] 152 (0,0))∧w'.ownsRow B 5 1 v bs.length (Lib.byteCells bs)∧v.ownBlock≠some b:=by
 obtain⟨hB,p,v,hp,hb,hown,hne⟩:=h
 rcases hp with rfl | rfl
 ·refine(check_fresh b w (zab hb rfl) (wr_shape hb) (zac hb)).mono ?_
  rintro e w' ⟨rfl,rfl⟩
  refine⟨rfl,(Below.refl B w).setCell (p:=⟨b,0,none⟩) hB _,(Keeps.refl b w).set 0 _,by simp[World.setCell],v,by rw[zaH _ hb];rfl,?_,hne⟩
  exact hown.kept (row:=some b) ⟨rfl,rfl,rfl,by simp[World.setCell],fun k _ hk=>Below.heap_setCell _ _ _ _ (fun e=>hk (by simp[e]))⟩ (Or.inr hne)
 ·refine(check_used b w (zab hb rfl)).mono ?_
  rintro e w' ⟨rfl,rfl⟩
  exact⟨rfl,Below.refl B _,Keeps.refl b _,rfl,v,hb,hown,hne⟩
theorem byte_info:(Tryz.prog.info? 5).map (fun i=>(i.zero,i.size,i.bytes))=some (some (.int .u8 0),1,1):=by kernel_rfl
theorem writeString_any {B b:Nat} {bs:List UInt8} {k:Int} {w:World} (h:Wr B b bs k w) (s:ByteArray) (hlen:bs.length+s.size≤140737488355328):
  Calls Tryz.prog 183 #[.pointer (some ⟨b,0,none⟩),.string s] w fun e w'=>e=.returned (.tuple #[.int .i64 s.size,.nilIface])∧Went B b (bs++s.data.toList) k w w':=by
 obtain⟨i0,hi,hz0,hz1,hz2⟩:=info_parts byte_info
 have hlt:=h.lt
 have hBb:=h.1
 go_enter Tryz.func183,Tryz.ntmps183
 go_wp2_with (go_at_call 213;refine(zb0 h).mono ?_)
 rintro e w1 ⟨rfl,hb1,hk1,hsz,v,hbk,hown,hne⟩
 have c0:w1.cell? ⟨b,0,none⟩=some (.pointer (some ⟨b,0,none⟩)):=zab hbk rfl
 have c1:w1.cell? ⟨b,1,none⟩=some v:=zab hbk rfl
 go_wp2_with (at_builtin;refine Lib.wpList_append_own_string _ rfl _ _ 25 9 rfl B 5 i0 Tryz.underlying25 Tryz.underlying9 hi hz0 hz1 hz2 _ _ _ rfl hown s rfl ?c3 ?c4 ?c5 ?_)
 case c3=>unfold maxLen;omega
 case c4=>omega
 case c5=>omega
 intro v' w2 hown' hgrow _
 have hk2:Keeps b w w2:=hk1.grown hown hgrow
 have hb2':Below B w w2:=hb1.grown hgrow (by omega) (fun k hk=>(hown.lt k hk).1)
 have hlt1:b < w1.heap.size:=by omega
 have hb2:w2.heap[b]?=some (.cells #[.pointer (some ⟨b,0,none⟩),v,.int .i64 k] 152 (0,0)):=by
  rw[hgrow.block b hlt1 (fun e=>hne e.symm)]
  exact hbk
 have d0:w2.cell? ⟨b,0,none⟩=some (.pointer (some ⟨b,0,none⟩)):=zab hb2 rfl
 have d1:w2.cell? ⟨b,1,none⟩=some v:=zab hb2 rfl
 have f1:w2.frozen? ⟨b,1,none⟩=false:=zac hb2
 obtain⟨ao,n',cap,rfl⟩:∃ao n' cap,v'=.slice ao n' cap:=by
  rcases hown'.2 with ⟨hv,_⟩ | ⟨g,cap,cur,hv,_⟩
  all_goals
   exact⟨_,_,_,hv⟩
 have hfin:Went B b (bs++s.data.toList) k w (w2.setCell ⟨b,1,none⟩ (.slice ao n' cap)):=by
  refine⟨wr_put hBb (.inr rfl) hb2 ?_,hb2'.setCell (p:=⟨b,1,none⟩) hBb _,hk2.set 1 _⟩
  rw[Lib.byteCells_append,List.length_append]
  have e:s.data.toList.length=s.size:=Array.length_toList
  rw[e]
  exact hown'
 go_wp2
 go_ret2
 exact⟨rfl,hfin⟩
theorem writeByte_any {B b:Nat} {bs:List UInt8} {k:Int} {w:World} (h:Wr B b bs k w) (c:UInt8) (hlen:bs.length+1≤140737488355328):
  Calls Tryz.prog 214 #[.pointer (some ⟨b,0,none⟩),.int .u8 c.toNat] w fun e w'=>e=.returned .nilIface∧Went B b (bs++[c]) k w w':=by
 obtain⟨i0,hi,hz0,hz1,hz2⟩:=info_parts byte_info
 have hlt:=h.lt
 have hBb:=h.1
 generalize hc:(c.toNat:Int)=x
 go_enter Tryz.func214,Tryz.ntmps214
 go_wp2_with (go_at_call 213;refine(zb0 h).mono ?_)
 rintro e w1 ⟨rfl,hb1,hk1,hsz',v,hbk,hown,hne⟩
 have hsz:=hid hsz'
 clear hsz'
 have c0:w1.cell? ⟨b,0,none⟩=some (.pointer (some ⟨b,0,none⟩)):=zab hbk rfl
 have c1:w1.cell? ⟨b,1,none⟩=some v:=zab hbk rfl
 go_wp2_with (at_builtin;refine wpList_append_own _ rfl _ _ 25 rfl B 5 i0 (.int .u8 0) 1 1 Tryz.underlying25 hi hz0 hz1 hz2 rfl (by decide) _ _ _ rfl (hown.alloc _) ⟨w1.heap.size,0,none⟩ 1 1 [.int .u8 x] rfl rfl ?c1 ?c2 ?c3 ?c4 ?c5 ?_)
 case c1 =>
  intro j u hj
  match j,hj with
  | 0,hj=>simp at hj;subst hj;simp[Addr.add]
 case c2=>intro u hu;simp at hu;subst hu;rfl
 case c3=>unfold maxLen;omega
 case c4=>omega
 case c5=>have:=hsz.out;simp;omega
 intro v' w2 hown' hgrow _
 have hk2:Keeps b w w2:=(hk1.alloc _).grown (hown.alloc _) hgrow
 have hb2':Below B w w2:=(hb1.alloc (by have:=hsz.out;omega) _).grown hgrow (by have:=hsz.out;simp;omega) (fun k hk=>(hown.lt k hk).1)
 have hlt1:b < w1.heap.size:=by have:=hsz.out;omega
 have hb2:w2.heap[b]?=some (.cells #[.pointer (some ⟨b,0,none⟩),v,.int .i64 k] 152 (0,0)):=by
  rw[hgrow.block b (by simp;omega) (fun e=>hne e.symm)]
  exact zai _ hbk
 have d0:w2.cell? ⟨b,0,none⟩=some (.pointer (some ⟨b,0,none⟩)):=zab hb2 rfl
 have d1:w2.cell? ⟨b,1,none⟩=some v:=zab hb2 rfl
 have f1:w2.frozen? ⟨b,1,none⟩=false:=zac hb2
 obtain⟨ao,n',cap,rfl⟩:∃ao n' cap,v'=.slice ao n' cap:=by
  rcases hown'.2 with ⟨hv,_⟩ | ⟨g,cap,cur,hv,_⟩
  all_goals
   exact⟨_,_,_,hv⟩
 have hfin:Went B b (bs++[c]) k w (w2.setCell ⟨b,1,none⟩ (.slice ao n' cap)):=by
  refine⟨wr_put hBb (.inr rfl) hb2 ?_,hb2'.setCell (p:=⟨b,1,none⟩) hBb _,hk2.set 1 _⟩
  rw[Lib.byteCells_append,List.length_append]
  have e:Lib.byteCells [c]=[.int .u8 x]:=by rw[←hc];rfl
  rw[e]
  exact hown'
 go_wp2
 go_ret
 exact⟨rfl,hfin⟩
end Go.Proofs.YtljbbhhiiiepcaaGreatDoor
namespace Go.Proofs.YtljbbhhiiiepcaaGreatDoor
open Go Go.RowKit
open Go.Lib (hid)
def catB (ps:List ByteArray):List UInt8:=ps.flatMap fun s=>s.data.toList
theorem catB_take (ps:List ByteArray) (k:Nat) (hk:k < ps.length):catB (ps.take (k+1))=catB (ps.take k)++ps[k].data.toList:=by
 rw[List.take_succ_eq_append_getElem hk,catB,List.flatMap_append,catB];simp
theorem catB_take_len (ps:List ByteArray) (k:Nat):(catB (ps.take k)).length≤(catB ps).length:=by
 rw[show catB ps=catB (ps.take k)++catB (ps.drop k) by rw[catB,catB,catB,←List.flatMap_append,List.take_append_drop],List.length_append]
 omega
theorem zaF {B b:Nat} {bs:List UInt8} {k:Int} {w:World} (h:Wr B b bs k w) (q cap:Nat) (ps:List ByteArray) (cs:Array Value) (hq:w.heap[q]?=some (.cells cs 9 (0,0))) (hcs:cs.toList=ps.map Value.string) (hps:ps.length≤1000) (hlen:bs.length+(catB ps).length≤140737488355328):
  Calls Tryz.prog 124 #[.pointer (some ⟨b,0,none⟩),.slice (some ⟨q,0,none⟩) ps.length cap] w fun e w'=>e=.returned (.tuple #[])∧Went B b (bs++catB ps) k w w':=by
 have hqb:q≠b:=by
  intro e
  obtain⟨_,p,v,_,hb,_⟩:=h
  rw[e,hb] at hq
  simp only[Option.some.injEq,Obj.cells.injEq] at hq
  exact absurd hq.2.1 (by decide)
 have hcell:Hid (∀(wr:World) (bs':List UInt8),Went B b bs' k w wr→∀i s,ps[i]?=some s→wr.cell? ⟨q,i,none⟩=some (.string s)):=hid fun wr bs' hw i s hs=>by
  have h1:=hw.keeps q _ hqb hq (fun c f e=>by simp only[Obj.cells.injEq] at e;exact absurd e.2.1 (by decide))
  refine zab h1 ?_
  rw[←Array.getElem?_toList,hcs,List.getElem?_map,hs];rfl
 have hL:=hid hlen
 clear hlen hq hcs hqb
 have hB:=hid h.went
 clear h
 go_enter Tryz.func124,Tryz.ntmps124
 go_wp2
 go_loopw [5,8] (fun _ i wr=>∃n:Nat,n≤ps.length∧i=.int .i64 n∧Went B b (bs++catB (ps.take n)) k w wr) (fun _ i _=>ps.length - (intOf i).toNat)
 case atStart=>exact⟨0,Nat.zero_le _,rfl,by simpa[catB] using hB.out⟩
 case round =>
  obtain⟨n,hn,rfl,hw⟩:=hrel
  by_cases hlt:n < ps.length
  ·have hc:=hcell.out _ _ hw n ps[n] (List.getElem?_eq_getElem hlt)
   have e1:=catB_take ps n hlt
   have l1:=catB_take_len ps (n+1)
   have hL2:Hid ((bs++catB (ps.take n)).length+ps[n].size≤140737488355328):=hid (by
    have:=hL.out
    rw[e1,List.length_append] at l1
    rw[List.length_append]
    have e2:ps[n].data.toList.length=ps[n].size:=Array.length_toList
    omega)
   have hE:=hid e1
   have hW:=hid hw
   clear e1 l1 hw
   generalize hs:ps[n]=s at hc hL2 hE
   clear hs
   go_wp2_with (go_at_call 183;refine(writeString_any hW.out.wr s hL2.out).mono ?_;rintro e w2 ⟨rfl,hw2⟩)
   have hW2:=hid (hW.out.trans hw2)
   clear hw2
   go_round
   case rel=>exact⟨n+1,by omega,by go_num,by rw[hE.out,←List.append_assoc];exact hW2.out⟩
   case measure=>simp[intOf];omega
  ·obtain rfl:n=ps.length:=by omega
   have hW:=hid hw
   clear hw
   go_wp2
   go_end0
   exact⟨rfl,by have:=hW.out;rwa [List.take_length] at this⟩
end Go.Proofs.YtljbbhhiiiepcaaGreatDoor
namespace Go.Proofs.YtljbbhhiiiepcaaGreatDoor
open Go Go.RowKit
open Go.Lib (hid)
inductive ET where
 | mk (kind:Int) (op:ByteArray) (n:Int) (name:ByteArray) (a:Option Addr) (cap:Nat) (kids:List ET)
def ET.kind:ET→Int
 | .mk k _ _ _ _ _ _=>k
def ET.op:ET→ByteArray
 | .mk _ o _ _ _ _ _=>o
def ET.n:ET→Int
 | .mk _ _ n _ _ _ _=>n
def ET.name:ET→ByteArray
 | .mk _ _ _ m _ _ _=>m
def ET.kids:ET→List ET
 | .mk _ _ _ _ _ _ l=>l
def ET.kaddr:ET→Option Addr
 | .mk _ _ _ _ a _ _=>a
def ET.kcap:ET→Nat
 | .mk _ _ _ _ _ c _=>c
def ET.cells:ET→Array Value
 | .mk k o n m a c l=>#[.int .i64 k,.string o,.int .i64 n,.string m,.slice a l.length c]
abbrev ET.val (T:ET):Value:=.agg T.cells
def RowAt (w:World) (B:Nat) (a:Option Addr) (i:Nat) (size:Nat) (cs:Array Value):Prop:=
 ∃b o,a=some ⟨b,o,none⟩∧B≤b∧∀j v,cs[j]?=some v→w.cell? ⟨b,o+i*size+j,none⟩=some v
theorem RowAt.keep {w w':World} {B:Nat} {a:Option Addr} {i size:Nat} {cs:Array Value} (h:RowAt w B a i size cs) (hk:∀p v,B≤p.block→w.cell? p=some v→w'.cell? p=some v):RowAt w' B a i size cs:=by
 obtain⟨b,o,e,hB,hc⟩:=h
 exact⟨b,o,e,hB,fun j v hj=>hk _ v hB (hc j v hj)⟩
theorem RowAt.mono {w:World} {B B':Nat} {a:Option Addr} {i size:Nat} {cs:Array Value} (h:RowAt w B a i size cs) (hB:B'≤B):RowAt w B' a i size cs:=by
 obtain⟨b,o,e,h1,hc⟩:=h
 exact⟨b,o,e,Nat.le_trans hB h1,hc⟩
mutual
def ET.In (w:World) (B:Nat):ET→Prop
 | .mk _ _ n _ a _ l=>(-9223372036854775808≤n∧n≤9223372036854775807)∧l.length≤9223372036854775807∧EsIn w B a 0 l
def EsIn (w:World) (B:Nat) (a:Option Addr):Nat→List ET→Prop
 | _,[]=>True
 | i,T :: l=>RowAt w B a i 5 T.cells∧T.In w B∧EsIn w B a (i+1) l
end
mutual
theorem ET.In.keep {w w':World} {B:Nat} (hk:∀p v,B≤p.block→w.cell? p=some v→w'.cell? p=some v):∀{T:ET},T.In w B→T.In w' B
 | .mk k o n m a c l,h=>by
  rw[ET.In] at h ⊢
  exact⟨h.1,h.2.1,EsIn.keep hk h.2.2⟩
theorem EsIn.keep {w w':World} {B:Nat} {a:Option Addr} (hk:∀p v,B≤p.block→w.cell? p=some v→w'.cell? p=some v):∀{i:Nat} {l:List ET},EsIn w B a i l→EsIn w' B a i l
 | _,[],_=>by rw[EsIn];trivial
 | i,T :: l,h=>by
  rw[EsIn] at h ⊢
  exact⟨h.1.keep hk,h.2.1.keep hk,EsIn.keep hk h.2.2⟩
end
mutual
theorem ET.In.mono {w:World} {B B':Nat} (hB:B'≤B):∀{T:ET},T.In w B→T.In w B'
 | .mk k o n m a c l,h=>by
  rw[ET.In] at h ⊢
  exact⟨h.1,h.2.1,EsIn.mono hB h.2.2⟩
theorem EsIn.mono {w:World} {B B':Nat} {a:Option Addr} (hB:B'≤B):∀{i:Nat} {l:List ET},EsIn w B a i l→EsIn w B' a i l
 | _,[],_=>by rw[EsIn];trivial
 | i,T :: l,h=>by
  rw[EsIn] at h ⊢
  exact⟨h.1.mono hB,h.2.1.mono hB,EsIn.mono hB h.2.2⟩
end
theorem zaP {w w':World} (h:Below w.heap.size w w') {B:Nat}:∀p v,B≤p.block→w.cell? p=some v→w'.cell? p=some v:=fun p v _ hc=>by
 have hlt:p.block < w.heap.size:=by
  rcases Nat.lt_or_ge p.block w.heap.size with h' | h'
  ·exact h'
  ·exfalso
   obtain⟨b,o,q⟩:=p
   simp only at h'
   simp[World.cell?,Array.getElem?_eq_none h'] at hc
 rw[h.cell hlt];exact hc
theorem ET.In.on {w w':World} {B:Nat} {T:ET} (h:T.In w B) (hb:Below w.heap.size w w'):T.In w' B:=h.keep (zaP hb)
theorem EsIn.on {w w':World} {B:Nat} {a:Option Addr} {i:Nat} {l:List ET} (h:EsIn w B a i l) (hb:Below w.heap.size w w'):EsIn w' B a i l:=h.keep (zaP hb)
theorem EsIn.nth {w:World} {B:Nat} {a:Option Addr}:∀{l:List ET} {i:Nat},EsIn w B a i l→∀(j:Nat) (hj:j < l.length),RowAt w B a (i+j) 5 l[j].cells∧l[j].In w B
 | [],_,_,j,hj=>by simp at hj
 | T :: l,i,h,j,hj=>by
  rw[EsIn] at h
  cases j with
  | zero=>exact⟨h.1,h.2.1⟩
  | succ j =>
   have:=EsIn.nth h.2.2 j (by simpa using hj)
   rw[show i+1+j=i+(j+1) by omega] at this
   exact this
def levL (l:List UInt8):Int:=zar ⟨l.toArray⟩
theorem levL_is (s:ByteArray):levL s.data.toList=zar s:=by unfold levL;rw[Array.toArray_toList]
def zbo (o:ByteArray) (n:Int) (m:ByteArray):Bool:=nmB m&&o.toList.isEmpty&&n==0
def zcm (n:Int) (m:ByteArray):Bool:=m.toList.isEmpty&&n==0
def zbt (k:Int) (o:ByteArray) (n:Int) (m:ByteArray) (len:Nat):Bool:=
 if k=0 then o.toList.isEmpty&&m.toList.isEmpty&&len==0
 else if k=1 then zbo o n m&&len==0
 else if k=2 then zbo o n m&&len==1
 else if k=3 then unB o&&zcm n m&&len==1
 else if k=4 then decide (0 < zar o)&&zcm n m&&len==2
 else false
mutual
def ET.sz:ET→Nat
 | .mk _ _ _ _ _ _ l=>1+szs l
def szs:List ET→Nat
 | []=>0
 | T :: l=>T.sz+szs l
end
mutual
def ET.rightB:ET→Bool
 | .mk k o n m a c l=>zbt k o n m l.length&&zam l
def zam:List ET→Bool
 | []=>true
 | T :: l=>T.rightB&&zam l
end
def ET.re:ET→RE
 | .mk k o n m _ _ []=>if k=0 then .num n else .var m.data.toList
 | .mk k o n m _ _ [T]=>if k=2 then .idx m.data.toList T.re else .un (o.data.toList.headD 0) T.re
 | .mk k o n m _ _ (T :: U :: _)=>.bin o.data.toList T.re U.re
theorem isE {s:ByteArray} (h:s.toList.isEmpty=true):s={data:=#[]}:=by
 obtain⟨⟨l⟩⟩:=s
 rw[ByteArray.toList_eq] at h
 cases l with
 | nil=>rfl
 | cons=>simp at h
theorem zc0 {T:ET} (h:T.rightB=true):
  (∃n a c,T=.mk 0 {data:=#[]} n {data:=#[]} a c []) ∨
  (∃m a c,nmB m=true∧T=.mk 1 {data:=#[]} 0 m a c []) ∨
  (∃m a c e,nmB m=true∧e.rightB=true∧T=.mk 2 {data:=#[]} 0 m a c [e]) ∨
  (∃o a c e,unB o=true∧e.rightB=true∧T=.mk 3 o 0 {data:=#[]} a c [e]) ∨
  (∃o a c e f,0 < zar o∧e.rightB=true∧f.rightB=true∧T=.mk 4 o 0 {data:=#[]} a c [e,f]):=by
 obtain⟨k,o,n,m,a,c,l⟩:=T
 rw[ET.rightB,Bool.and_eq_true] at h
 obtain⟨h1,h2⟩:=h
 unfold zbt zbo zcm at h1
 by_cases hk0:k=0
 ·rw[if_pos hk0] at h1;subst hk0
  simp only[Bool.and_eq_true,beq_iff_eq,List.length_eq_zero_iff] at h1
  exact .inl ⟨n,a,c,by rw[isE h1.1.1,isE h1.1.2,h1.2]⟩
 rw[if_neg hk0] at h1
 by_cases hk1:k=1
 ·rw[if_pos hk1] at h1;subst hk1
  simp only[Bool.and_eq_true,beq_iff_eq,List.length_eq_zero_iff] at h1
  exact .inr (.inl ⟨m,a,c,h1.1.1.1,by rw[isE h1.1.1.2,h1.1.2,h1.2]⟩)
 rw[if_neg hk1] at h1
 by_cases hk2:k=2
 ·rw[if_pos hk2] at h1;subst hk2
  simp only[Bool.and_eq_true,beq_iff_eq,List.length_eq_one_iff] at h1
  obtain⟨e,rfl⟩:=h1.2
  simp only[zam,Bool.and_true] at h2
  exact .inr (.inr (.inl ⟨m,a,c,e,h1.1.1.1,h2,by rw[isE h1.1.1.2,h1.1.2]⟩))
 rw[if_neg hk2] at h1
 by_cases hk3:k=3
 ·rw[if_pos hk3] at h1;subst hk3
  simp only[Bool.and_eq_true,beq_iff_eq,List.length_eq_one_iff] at h1
  obtain⟨e,rfl⟩:=h1.2
  simp only[zam,Bool.and_true] at h2
  exact .inr (.inr (.inr (.inl ⟨o,a,c,e,h1.1.1,h2,by rw[isE h1.1.2.1,h1.1.2.2]⟩)))
 rw[if_neg hk3] at h1
 by_cases hk4:k=4
 ·rw[if_pos hk4] at h1;subst hk4
  simp only[Bool.and_eq_true,beq_iff_eq,decide_eq_true_eq] at h1
  match l,h1.2,h2 with
  | [e,f],_,h2 =>
   simp only[zam,Bool.and_true,Bool.and_eq_true] at h2
   exact .inr (.inr (.inr (.inr ⟨o,a,c,e,f,h1.1.1,h2.1,h2.2,by rw[isE h1.1.2.1,h1.1.2.2]⟩)))
 ·rw[if_neg hk4] at h1;cases h1
theorem unB_is {o:ByteArray} (h:unB o=true):∃c:UInt8,(c=45∨c=126∨c=33)∧o={data:=#[c]}:=by
 unfold unB at h
 by_cases h0:o.data.toList=[45]
 ·exact⟨45,.inl rfl,zaY h0⟩
 by_cases h1:o.data.toList=[126]
 ·exact⟨126,.inr (.inl rfl),zaY h1⟩
 by_cases h2:o.data.toList=[33]
 ·exact⟨33,.inr (.inr rfl),zaY h2⟩
 simp_all
theorem level_op {o:ByteArray} (h:0 < zar o):ops18.contains o.data.toList=true:=by
 rw[List.contains_iff_mem]
 by_cases h0:o.data.toList=[124,124]
 ·rw[h0];decide
 by_cases h1:o.data.toList=[38,38]
 ·rw[h1];decide
 by_cases h2:o.data.toList=[124]
 ·rw[h2];decide
 by_cases h3:o.data.toList=[94]
 ·rw[h3];decide
 by_cases h4:o.data.toList=[38]
 ·rw[h4];decide
 by_cases h5:o.data.toList=[61,61]
 ·rw[h5];decide
 by_cases h6:o.data.toList=[33,61]
 ·rw[h6];decide
 by_cases h7:o.data.toList=[60]
 ·rw[h7];decide
 by_cases h8:o.data.toList=[60,61]
 ·rw[h8];decide
 by_cases h9:o.data.toList=[62]
 ·rw[h9];decide
 by_cases h10:o.data.toList=[62,61]
 ·rw[h10];decide
 by_cases h11:o.data.toList=[60,60]
 ·rw[h11];decide
 by_cases h12:o.data.toList=[62,62]
 ·rw[h12];decide
 by_cases h13:o.data.toList=[43]
 ·rw[h13];decide
 by_cases h14:o.data.toList=[45]
 ·rw[h14];decide
 by_cases h15:o.data.toList=[42]
 ·rw[h15];decide
 by_cases h16:o.data.toList=[47]
 ·rw[h16];decide
 by_cases h17:o.data.toList=[37]
 ·rw[h17];decide
 exfalso
 unfold zar at h
 rw[if_neg h0,if_neg h1,if_neg h2,if_neg h3,if_neg h4,if_neg h5,if_neg h6,if_neg h7,if_neg h8,if_neg h9,if_neg h10,if_neg h11,if_neg h12,if_neg h13,if_neg h14,if_neg h15,if_neg h16,if_neg h17] at h
 exact absurd h (by decide)
end Go.Proofs.YtljbbhhiiiepcaaGreatDoor
