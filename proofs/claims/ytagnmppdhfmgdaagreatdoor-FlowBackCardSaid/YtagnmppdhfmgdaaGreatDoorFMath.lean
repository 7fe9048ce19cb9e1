/- Graphs of right statements: where each node stands, where one comes to. -/
import Derived.Test.YtagnmppdhfmgdaaGreatDoorFModel
import Derived.Test.YtagnmppdhfmgdaaGreatDoorTMade
import Derived.Lib.SmallJoins
import Derived.Shelf.Abstract
import Derived.Deep.RegionLaw
import Derived.Deep.AppendLies
import Derived.Deep.RegionHeld3
set_option linter.unusedSimpArgs false
set_option linter.unusedVariables false
set_option maxHeartbeats 8000000
set_option maxRecDepth 100000
namespace Go.Proofs.YtagnmppdhfmgdaaGreatDoor.Fl
open Go Go.RowKit Go.Proofs.YtagnmppdhfmgdaaGreatDoor
theorem node_info:(Tryz.prog.info? 88).map (fun i=>(i.zero,i.size,i.bytes))=some (some (.agg #[.int .i64 0,.int .i64 0,.string {data:=#[]},.string {data:=#[]},.slice none 0 0,.slice none 0 0,.slice none 0 0,.int .i64 0,.int .i64 0,.int .i64 0,.int .i64 0,.int .i64 0]),12,160):=by kernel_rfl
theorem zcL:(Tryz.prog.info? 3).map (fun i=>(i.zero,i.size,i.bytes))=some (some (.int .i64 0),1,8):=by kernel_rfl
theorem ints_info:(Tryz.prog.info? 29).map (fun i=>(i.zero,i.size,i.bytes))=some (some (.slice none 0 0),1,24):=by kernel_rfl
abbrev ints (l:List Int):List Value:=l.map (Value.int .i64)
abbrev BBox (w:World) (b:Nat) (vx vo vi vn:Value):Prop:=w.heap[b]?=some (.cells #[vx,vo,vi,vn] 77 (0,0))
def Bd (B b:Nat) (ns:List NR) (w:World):Prop:=B≤b∧∃vi vn,BBox w b (.slice none 0 0) (.slice none 0 0) vi vn ∧
 w.ownsRow B 3 1 vi ns.length (ints (ns.map NR.par))∧w.ownsRow B 88 12 vn ns.length (ns.flatMap NR.cells)
theorem zat {w:World} {b:Nat} {vx vo vi vn:Value} (h:BBox w b vx vo vi vn):w.cell? ⟨b,0,none⟩=some vx∧w.cell? ⟨b,1,none⟩=some vo∧w.cell? ⟨b,2,none⟩=some vi∧w.cell? ⟨b,3,none⟩=some vn∧(∀k,w.frozen? ⟨b,k,none⟩=false)∧b < w.heap.size:=
 ⟨zac h rfl,zac h rfl,zac h rfl,zac h rfl,fun k=>zab h,lt_of_block h⟩
theorem zdN:∀(ns:List NR) (i j:Nat) (n:NR),ns[i]?=some n→j < 12→(ns.flatMap NR.cells)[i*12+j]?=n.cells[j]?
 | [],i,j,n,h,_=>by simp at h
 | m :: ns,0,j,n,h,hj=>by
  simp only[List.getElem?_cons_zero,Option.some.injEq] at h
  subst h
  rw[List.flatMap_cons,List.getElem?_append_left (by rw[NR.len];omega)]
  simp
 | m :: ns,i+1,j,n,h,hj=>by
  rw[List.flatMap_cons,List.getElem?_append_right (by rw[NR.len];omega),NR.len]
  rw[show(i+1)*12+j - 12=i*12+j by omega]
  exact zdN ns i j n (by simpa using h) hj
theorem flat_set:∀(ns:List NR) (i j:Nat) (n m:NR) (u:Value),ns[i]?=some n→j < 12→m.cells=n.cells.set j u→(ns.flatMap NR.cells).set (i*12+j) u=(ns.set i m).flatMap NR.cells
 | [],i,j,n,m,u,h,_,_=>by simp at h
 | q :: ns,0,j,n,m,u,h,hj,hm=>by
  simp only[List.getElem?_cons_zero,Option.some.injEq] at h
  subst h
  rw[List.flatMap_cons,List.set_cons_zero,List.flatMap_cons,hm,List.set_append_left _ _ (by rw[NR.len];omega)]
  simp
 | q :: ns,i+1,j,n,m,u,h,hj,hm=>by
  rw[List.flatMap_cons,List.set_cons_succ,List.flatMap_cons,List.set_append_right _ _ (by rw[NR.len];omega),NR.len]
  rw[show(i+1)*12+j - 12=i*12+j by omega,flat_set ns i j n m u (by simpa using h) hj hm]
theorem bb_set {w:World} {b k:Nat} {vx vo vi vn u:Value} (h:BBox w b vx vo vi vn):(w.setCell ⟨b,k,none⟩ u).heap[b]?=some (.cells (#[vx,vo,vi,vn].setIfInBounds k u) 77 (0,0)):=zay u h
theorem za6 {w:World} {B n sz b:Nat} {e t:TypeId} {v:Value} {xs:List Value} {cs:Array Value} {fr:Nat×Nat} (h:w.ownsRow B e sz v n xs) (hb:w.heap[b]?=some (.cells cs t fr)) (ht:t≠e):v.ownBlock≠some b:=fun hv=>by
 rcases h.2 with ⟨rfl,-⟩ | ⟨g,cap,cur,rfl,-,hg,-⟩
 ·simp[Value.ownBlock] at hv
 ·simp only[Value.ownBlock,Option.some.injEq] at hv
  subst hv
  rw[hb] at hg
  simp only[Option.some.injEq,Obj.cells.injEq] at hg
  exact ht hg.2.1
theorem zaV {w:World} {B B' n n' sz sz':Nat} {e e':TypeId} {v v':Value} {xs xs':List Value} (h:w.ownsRow B e sz v n xs) (h':w.ownsRow B' e' sz' v' n' xs') (he:e'≠e):∀g,v'.ownBlock=some g→v.ownBlock≠some g:=fun g hg=>by
 rcases h'.2 with ⟨rfl,-⟩ | ⟨g',cap,cur,rfl,-,hb,-⟩
 ·simp[Value.ownBlock] at hg
 ·simp only[Value.ownBlock,Option.some.injEq] at hg
  subst hg
  exact za6 h hb he
theorem zdx {w w':World} {B n sz:Nat} {e:TypeId} {v:Value} {xs:List Value} {r:Option Nat} (h:w.ownsRow B e sz v n xs) (hg:w.grownBy w' r) (hr:∀g,r=some g→v.ownBlock≠some g):w'.ownsRow B e sz v n xs:=by
 refine h.kept hg ?_
 cases hv:v.ownBlock with
 | none=>exact .inl rfl
 | some g=>exact .inr fun e=>hr g e.symm hv
theorem zbh {w:World} {B n sz b:Nat} {e:TypeId} {v:Value} {xs:List Value} (h:w.ownsRow B e sz v n xs) (hb:v.ownBlock≠some b) (k:Nat) (u:Value):(w.setCell ⟨b,k,none⟩ u).ownsRow B e sz v n xs:=
 zdx h (zaM w b k u) (fun g hg=>by cases hg;exact hb)
theorem zdO {w:World} {B n sz:Nat} {e:TypeId} {v:Value} {xs:List Value} (h:w.ownsRow B e sz v n xs):∃ao cap,v=.slice ao n cap:=by
 rcases h.2 with ⟨e,h9⟩ | ⟨g,cap,cur,e,_⟩
 ·exact⟨none,0,by rw[e,h9]⟩
 ·exact⟨_,_,e⟩
theorem zbj {w:World} {B n sz:Nat} {e:TypeId} {ao:Option Addr} {cap:Nat} {xs:List Value} (h:w.ownsRow B e sz (.slice ao n cap) n xs) (hn:0 < n):∃g,ao=some ⟨g,0,none⟩∧B≤g∧g < w.heap.size∧n≤cap∧cap≤maxLen∧(∀k,w.frozen? ⟨g,k,none⟩=false)∧∀j,j < n*sz→w.cell? ⟨g,j,none⟩=xs[j]?:=by
 rcases h.2 with ⟨_,h0⟩ | ⟨g,cap',cur,hv,hb,hg,hc,hm,_⟩
 ·omega
 ·simp only[Value.slice.injEq] at hv
  obtain⟨rfl,-,rfl⟩:=hv
  exact⟨g,rfl,hb,lt_of_block hg,hc,hm,fun k=>h.frozenAt k,fun j hj=>h.cellAt j hj⟩
def Kp (b:Nat) (w w':World):Prop:=∀q c t f,q≠b→w.heap[q]?=some (.cells c t f)→t≠88→t≠3→w'.heap[q]?=some (.cells c t f)
theorem Kp.refl (b:Nat) (w:World):Kp b w w:=fun _ _ _ _ _ h _ _=>h
theorem Kp.trans {b:Nat} {w w1 w2:World} (h:Kp b w w1) (k:Kp b w1 w2):Kp b w w2:=fun q c t f hq ho h1 h2=>k q c t f hq (h q c t f hq ho h1 h2) h1 h2
theorem Kp.alloc {b:Nat} {w w1:World} (h:Kp b w w1) (o:Obj):Kp b w (w1.alloc o):=fun q c t f hq ho h1 h2=>zaf o (h q c t f hq ho h1 h2)
theorem Kp.drew {b:Nat} {w w1:World} (h:Kp b w w1):Kp b w w1.drew:=h
theorem Kp.set {b:Nat} {w w1:World} (h:Kp b w w1) (j:Nat) (u:Value):Kp b w (w1.setCell ⟨b,j,none⟩ u):=fun q c t f hq ho h1 h2 =>
 (Below.heap_setCell w1 ⟨b,j,none⟩ u q hq).trans (h q c t f hq ho h1 h2)
theorem Kp.grown {b B n sz:Nat} {e:TypeId} {v:Value} {xs:List Value} {w w1 w2:World} (h:Kp b w w1) (ho:w1.ownsRow B e sz v n xs) (he:e=88∨e=3) (hg:w1.grownBy w2 v.ownBlock):Kp b w w2:=fun q c t f hq hb h1 h2=>by
 have h3:=h q c t f hq hb h1 h2
 exact(hg.block q (lt_of_block h3) (fun e'=>za6 ho h3 (by rcases he with rfl | rfl;exact h1;exact h2) e'.symm)).trans h3
theorem bd_drew {B b:Nat} {ns:List NR} {w:World} (h:Bd B b ns w):Bd B b ns w.drew:=h
theorem bd_node {B b:Nat} {ns:List NR} {n:NR} {w w5:World} {ai an:Option Addr} {ci cn g cap:Nat} (hB:B≤b) (hb:BBox w b (.slice none 0 0) (.slice none 0 0) (.slice ai ns.length ci) (.slice an ns.length cn))
  (hi:w.ownsRow B 3 1 (.slice ai ns.length ci) ns.length (ints (ns.map NR.par))) (hn:w.ownsRow B 88 12 (.slice an ns.length cn) ns.length (ns.flatMap NR.cells))
  (hown:w5.ownsRow B 88 12 (.slice (some ⟨g,0,none⟩) (ns.length+1) cap) (ns.length+1) (ns.flatMap NR.cells++n.cells)) (hg:w.grownBy w5 (Value.slice an ns.length cn).ownBlock):
  BBox (w5.setCell ⟨b,3,none⟩ (.slice (some ⟨g,0,none⟩) (ns.length+1) cap)) b (.slice none 0 0) (.slice none 0 0) (.slice ai ns.length ci) (.slice (some ⟨g,0,none⟩) (ns.length+1) cap) ∧
  (w5.setCell ⟨b,3,none⟩ (.slice (some ⟨g,0,none⟩) (ns.length+1) cap)).ownsRow B 3 1 (.slice ai ns.length ci) ns.length (ints (ns.map NR.par)) ∧
  (w5.setCell ⟨b,3,none⟩ (.slice (some ⟨g,0,none⟩) (ns.length+1) cap)).ownsRow B 88 12 (.slice (some ⟨g,0,none⟩) (ns.length+1) cap) (ns.length+1) ((ns++[n]).flatMap NR.cells) ∧
  Below B w (w5.setCell ⟨b,3,none⟩ (.slice (some ⟨g,0,none⟩) (ns.length+1) cap))∧Kp b w (w5.setCell ⟨b,3,none⟩ (.slice (some ⟨g,0,none⟩) (ns.length+1) cap)):=by
 have hlt:=lt_of_block hb
 have h5:BBox w5 b (.slice none 0 0) (.slice none 0 0) (.slice ai ns.length ci) (.slice an ns.length cn):=(hg.block b hlt (fun e=>za6 hn hb (by decide) e.symm)).trans hb
 have hi5:=zdx hi hg (fun q hq=>zaV hi hn (by decide) q hq)
 refine⟨bb_set h5,zbh hi5 (za6 hi5 h5 (by decide)) _ _,?_,?_,?_⟩
 ·rw[List.flatMap_append]
  exact zbh (by simpa using hown) (za6 hown h5 (by decide)) _ _
 ·exact((Below.refl B w).grown hg (by omega) (fun k hk=>(hn.lt k hk).1)).setCell (p:=⟨b,3,none⟩) hB _
 ·exact((Kp.refl b w).grown hn (.inl rfl) hg).set _ _
theorem bd_in {B b:Nat} {ns:List NR} {n:NR} {w w5:World} {ai an:Option Addr} {ci cn g cap:Nat} (hB:B≤b) (hb:BBox w b (.slice none 0 0) (.slice none 0 0) (.slice ai ns.length ci) (.slice an (ns.length+1) cn))
  (hi:w.ownsRow B 3 1 (.slice ai ns.length ci) ns.length (ints (ns.map NR.par))) (hn:w.ownsRow B 88 12 (.slice an (ns.length+1) cn) (ns.length+1) ((ns++[n]).flatMap NR.cells))
  (hown:w5.ownsRow B 3 1 (.slice (some ⟨g,0,none⟩) (ns.length+1) cap) (ns.length+1) (ints (ns.map NR.par)++[.int .i64 n.par])) (hg:w.grownBy w5 (Value.slice ai ns.length ci).ownBlock):
  Bd B b (ns++[n]) (w5.setCell ⟨b,2,none⟩ (.slice (some ⟨g,0,none⟩) (ns.length+1) cap)) ∧
  Below B w (w5.setCell ⟨b,2,none⟩ (.slice (some ⟨g,0,none⟩) (ns.length+1) cap))∧Kp b w (w5.setCell ⟨b,2,none⟩ (.slice (some ⟨g,0,none⟩) (ns.length+1) cap)):=by
 have hlt:=lt_of_block hb
 have h5:BBox w5 b (.slice none 0 0) (.slice none 0 0) (.slice ai ns.length ci) (.slice an (ns.length+1) cn):=(hg.block b hlt (fun e=>za6 hi hb (by decide) e.symm)).trans hb
 have hn5:=zdx hn hg (fun q hq=>zaV hn hi (by decide) q hq)
 refine⟨⟨hB,_,_,bb_set h5,?_,?_⟩,?_,?_⟩
 ·have:=zbh hown (za6 hown h5 (by decide)) 2 (.slice (some ⟨g,0,none⟩) (ns.length+1) cap)
  simpa[ints] using this
 ·have:=zbh hn5 (za6 hn5 h5 (by decide)) 2 (.slice (some ⟨g,0,none⟩) (ns.length+1) cap)
  simpa using this
 ·exact((Below.refl B w).grown hg (by omega) (fun k hk=>(hi.lt k hk).1)).setCell (p:=⟨b,2,none⟩) hB _
 ·exact((Kp.refl b w).grown hi (.inr rfl) hg).set _ _
structure BdO (B b:Nat) (ns:List NR) (w:World) (ai an:Option Addr) (ci cn:Nat):Prop where
 hB:B≤b
 box:BBox w b (.slice none 0 0) (.slice none 0 0) (.slice ai ns.length ci) (.slice an ns.length cn)
 i:w.ownsRow B 3 1 (.slice ai ns.length ci) ns.length (ints (ns.map NR.par))
 n:w.ownsRow B 88 12 (.slice an ns.length cn) ns.length (ns.flatMap NR.cells)
theorem bd_open {B b:Nat} {ns:List NR} {w:World} (h:Bd B b ns w):∃ai an ci cn,BdO B b ns w ai an ci cn:=by
 obtain⟨hB,vi,vn,hb,hi,hn⟩:=h
 obtain⟨ai,ci,rfl⟩:=zdO hi
 obtain⟨an,cn,rfl⟩:=zdO hn
 exact⟨ai,an,ci,cn,hB,hb,hi,hn⟩
theorem BdO.bd {B b:Nat} {ns:List NR} {w:World} {ai an:Option Addr} {ci cn:Nat} (h:BdO B b ns w ai an ci cn):Bd B b ns w:=⟨h.hB,_,_,h.box,h.i,h.n⟩
theorem BdO.alloc {B b:Nat} {ns:List NR} {w:World} {ai an:Option Addr} {ci cn:Nat} (h:BdO B b ns w ai an ci cn) (o:Obj):BdO B b ns (w.alloc o) ai an ci cn:=⟨h.hB,zaf o h.box,h.i.alloc o,h.n.alloc o⟩
theorem BdO.drew {B b:Nat} {ns:List NR} {w:World} {ai an:Option Addr} {ci cn:Nat} (h:BdO B b ns w ai an ci cn):BdO B b ns w.drew ai an ci cn:=⟨h.hB,h.box,h.i,h.n⟩
theorem bd_set {B b:Nat} {ns:List NR} {w:World} {an:Option Addr} {ai:Option Addr} {ci cn:Nat} (h:BdO B b ns w ai an ci cn) {p j:Nat} {n m:NR} {u:Value} (hp:ns[p]?=some n) (hj:j < 12) (hm:m.cells=n.cells.set j u) (hpar:m.par=n.par) {g:Nat} (hg:an=some ⟨g,0,none⟩):
  BdO B b (ns.set p m) (w.setCell ⟨g,p*12+j,none⟩ u) ai an ci cn∧Below B w (w.setCell ⟨g,p*12+j,none⟩ u)∧Kp b w (w.setCell ⟨g,p*12+j,none⟩ u):=by
 subst hg
 obtain⟨h1,h2⟩:=h.n.stored (p*12+j) u
 rw[flat_set ns p j n m u hp hj hm] at h1
 have hbg:(Value.slice (some ⟨g,0,none⟩) ns.length cn).ownBlock≠some b:=za6 h.n h.box (by decide)
 have hbx:=(h2.block b (lt_of_block h.box) (fun e=>hbg (by simpa[Value.ownBlock] using e.symm))).trans h.box
 have hi2:=zdx h.i h2 (fun q hq=>zaV h.i h.n (by decide) q (by simpa[Value.ownBlock] using hq))
 have hpars:(ns.set p m).map NR.par=ns.map NR.par:=by
  rw[List.map_set,hpar]
  apply List.ext_getElem?
  intro k
  rw[List.getElem?_set]
  split
  ·rename_i e
   subst e
   rw[List.getElem?_map,hp]
   have hlt:p < ns.length:=by
    rcases Nat.lt_or_ge p ns.length with h' | h'
    ·exact h'
    ·rw[List.getElem?_eq_none h'] at hp;cases hp
   simp[hlt]
  ·rfl
 refine⟨⟨h.hB,?_,?_,?_⟩,?_,?_⟩
 ·rw[List.length_set];exact hbx
 ·rw[List.length_set,hpars];exact hi2
 ·rw[List.length_set];exact h1
 ·exact(Below.refl B w).setCell (p:=⟨g,p*12+j,none⟩) (h.n.lt g rfl).1 _
 ·exact(Kp.refl b w).grown h.n (.inl rfl) (by simpa[Value.ownBlock] using h2)
end Go.Proofs.YtagnmppdhfmgdaaGreatDoor.Fl

namespace Go.Proofs.YtagnmppdhfmgdaaGreatDoor.Fl
open Go Go.RowKit Go.Proofs.YtagnmppdhfmgdaaGreatDoor
theorem right_parts {S:ST} (h:S.rightB=true):zak S.body=true∧zak S.els=true∧((0 < S.bn∨0 < S.ln)→S.kind=4∨S.kind=5)∧(S.kind=5→S.ln=0):=by
 have h2:=rightS_cases h
 obtain⟨k,t,n,f,ea,ec,e,ba,bc,b,la,lc,l⟩:=S
 rw[ST.rightB,Bool.and_eq_true,Bool.and_eq_true,Bool.and_eq_true] at h
 refine⟨h.1.2,h.2,?_,?_⟩
 ·obtain⟨t',_,_,h2⟩:=h2
  simp only[ST.mk.injEq] at h2
  intro hb
  simp only[ST.bn,ST.ln] at hb
  show k=4∨k=5
  rcases h2 with ⟨_,_,_,_,_,_,_,_,h⟩ | ⟨_,_,_,_,_,_,_,_,_,h⟩ | ⟨_,_,_,_,_,_,_,h⟩ | ⟨_,_,_,_,_,_,_,_,_,h⟩ | ⟨_,_,_,_,_,_,_,_,_,h⟩ | ⟨_,_,_,_,_,_,_,_,h⟩ | ⟨_,_,_,_,_,_,h⟩ | ⟨_,_,_,_,_,_,h⟩ | ⟨_,_,_,_,_,_,_,h⟩ | ⟨_,_,_,_,_,_,_,h⟩
  all_goals (simp_all)
 ·obtain⟨t',_,_,h2⟩:=h2
  simp only[ST.mk.injEq] at h2
  intro hb
  simp only[ST.kind] at hb
  show l.length=0
  rcases h2 with ⟨_,_,_,_,_,_,_,_,h⟩ | ⟨_,_,_,_,_,_,_,_,_,h⟩ | ⟨_,_,_,_,_,_,_,h⟩ | ⟨_,_,_,_,_,_,_,_,_,h⟩ | ⟨_,_,_,_,_,_,_,_,_,h⟩ | ⟨_,_,_,_,_,_,_,_,h⟩ | ⟨_,_,_,_,_,_,h⟩ | ⟨_,_,_,_,_,_,h⟩ | ⟨_,_,_,_,_,_,_,h⟩ | ⟨_,_,_,_,_,_,_,h⟩
  all_goals (simp_all)
theorem next_len (x:Int) (i:Nat) (n:NR):(zdv x i n).length=if n.S.kind=4∨n.S.kind=5 then 2 else 1:=by
 unfold zdv
 by_cases h4:n.S.kind=4
 ·simp[h4]
 ·by_cases h5:n.S.kind=5
  ·simp[h5]
  ·have h:¬(n.S.kind=4∨n.S.kind=5):=fun h=>h.elim h4 h5
   rw[if_neg h4,if_neg h5,if_neg h]
   split<;>(try split)<;>(try split)<;>rfl
section
variable {x:Int} {E:List (List Int)}
theorem cnt_pos (S:ST):1≤S.cnt:=by rw[zb7];omega
theorem zaH {α:Type} {l:List α} {i:Nat} {a:α} (h:l[i]?=some a):i < l.length:=by
 rcases Nat.lt_or_ge i l.length with h' | h'
 ·exact h'
 ·rw[List.getElem?_eq_none h'] at h;cases h
end
theorem nexts_at {l:List ST} {i:Nat} {n:NR} (h:(za9 l)[i]?=some n):(zbg l)[i]?=some (zdv (cnts l:Nat) i n):=by
 have hi:=zaH h
 unfold zbg
 rw[List.getElem?_append_left (by rw[List.length_mapIdx];exact hi),List.getElem?_mapIdx,h];rfl
theorem others_at {l:List ST} {i:Nat} {n:NR} (h:(za9 l)[i]?=some n):(zbe l)[i]?=some (othR n):=by
 have hi:=zaH h
 unfold zbe
 rw[List.getElem?_append_left (by rw[List.length_map];exact hi),List.getElem?_map,h];rfl
theorem ins_at {l:List ST} {i:Nat} {n:NR} (h:(za9 l)[i]?=some n):(insG l)[i]?=some n.par:=by
 have hi:=zaH h
 unfold insG
 rw[List.getElem?_append_left (by rw[List.length_map];exact hi),List.getElem?_map,h];rfl
theorem zdP (l:List ST):(zbg l).length=cnts l+1:=by unfold zbg;rw[List.length_append,List.length_mapIdx,zaD];rfl
theorem zb2 (l:List ST):(zbe l).length=cnts l+1:=by unfold zbe;rw[List.length_append,List.length_map,zaD];rfl
theorem ins_len (l:List ST):(insG l).length=cnts l+1:=by unfold insG;rw[List.length_append,List.length_map,zaD];rfl
theorem zc7 (ns:List (List Int)) (os:List Int) (j:Bool):(zb9 ns os j).length=ns.length:=by unfold zb9;rw[List.length_mapIdx]
theorem edges_at {ns:List (List Int)} {os:List Int} {j:Bool} {i:Nat} {r:List Int} (h:ns[i]?=some r):(zb9 ns os j)[i]?=some (if j=true∧0≤os.getD i (-1) then r++[os.getD i (-1)] else r):=by
 unfold zb9;rw[List.getElem?_mapIdx,h];rfl
end Go.Proofs.YtagnmppdhfmgdaaGreatDoor.Fl
