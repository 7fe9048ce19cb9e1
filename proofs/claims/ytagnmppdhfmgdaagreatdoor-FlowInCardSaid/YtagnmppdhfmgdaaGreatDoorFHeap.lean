/- The graph's builder as it lies in memory: a block of four cells, its rows of nodes and of numbers. -/
import Derived.Test.YtagnmppdhfmgdaaGreatDoorFShape
import Derived.Test.YtagnmppdhfmgdaaGreatDoorLValue
import Derived.Test.YtagnmppdhfmgdaaGreatDoorPVars2
import Derived.Test.YtagnmppdhfmgdaaGreatDoorTCodeP
import Derived.Test.YtagnmppdhfmgdaaGreatDoorFModel
import Derived.Test.YtagnmppdhfmgdaaGreatDoorTRight2
import Derived.Handy
import Derived.Stop.LaidErr
import Derived.Defers
import Derived.Recover
import Derived.Lib.SmallJoins
import Derived.Shelf.Abstract
import Derived.Deep.RegionLaw
import Derived.Deep.AppendLies
import Derived.Deep.RegionHeld3
set_option linter.unusedSimpArgs false
set_option linter.unusedVariables false
set_option maxHeartbeats 8000000
set_option maxRecDepth 100000
namespace Go.Proofs.YtagnmppdhfmgdaaGreatDoor.Fl
open Go Go.RowKit Go.Proofs.YtagnmppdhfmgdaaGreatDoor
mutual
theorem cR_n:∀s:RS,cR s=1+nB s
 | .asg _ _ _=>by rw[cR,nB]<;>simp
 | .sto _ _ _ _=>by rw[cR,nB]<;>simp
 | .rd _ _=>by rw[cR,nB]<;>simp
 | .call _ _ _ _=>by rw[cR,nB]<;>simp
 | .ife _ _ b l=>by rw[cR,nB,cRs_n b,cRs_n l]
 | .whl _ _ b=>by rw[cR,nB,cRs_n b]
 | .brk _=>by rw[cR,nB]<;>simp
 | .cnt _=>by rw[cR,nB]<;>simp
 | .ret _ _=>by rw[cR,nB]<;>simp
 | .ass _ _=>by rw[cR,nB]<;>simp
theorem cRs_n:∀l:List RS,cRs l=nSs l
 | []=>by rw[cRs,nSs]
 | s :: l=>by rw[cRs,nSs,cR_n s,cRs_n l]
end
structure MainAt (w:World) (N:Nat) (a:Option Addr) (c:Nat) (l:List ST):Prop where
 cell:w.cell? ⟨N,11,none⟩=some (.slice a l.length c)
 lt:N < w.heap.size
 lim:l.length≤9223372036854775807
 inn:SsIn w 0 a 0 l
 right:zak l=true
 few:cnts l≤24
def MainP (w:World) (e:Ending) (w':World):Prop:=∃(N:Nat) (a:Option Addr) (c:Nat) (l:List ST),e=.returned (.agg #[.slice (some ⟨N,0,none⟩) 3 3])∧MainAt w' N a c l∧Below w.heap.size w w'
theorem mainP_of {w w':World} {e:Ending} (h:CodeP w e w'):MainP w e w':=by
 obtain⟨N,F,G,M,rfl,hin,hr,⟨-,-,hk⟩,-,-,hb⟩:=h
 have hM:=hin.fs 2 (by simp)
 have hrow:=row_cells4 ((hin.mono (Nat.zero_le _)).row 2 (by simp)) (Past.refl w')
 obtain⟨_,_,_,c3,hlt⟩:=hrow
 have hMr:M.rightB=true:=by
  simp only[List.all_cons,List.all_nil,Bool.and_true,Bool.and_eq_true] at hr
  exact hr.2.2
 have hss:zak M.body=true:=by
  unfold FT.rightB at hMr
  simp only[Bool.and_eq_true] at hMr
  exact hMr.2.2.2
 refine⟨N,M.ba,M.bc,M.body,rfl,⟨c3,hlt,hM.bl,hM.ss.mono (Nat.zero_le _),hss,?_⟩,hb⟩
 have h1:=(hk M (by simp)).1
 have h2:M.rf.body=rss M.body:=rfl
 rw[h2,←cRs_n,(cR_is _ _ (Nat.lt_succ_self _) hss).1] at h1
 exact h1
theorem main_call {pa la ga:Option Addr} {pn pc ln lc gn gc:Nat} {zl zg:List Int} (w:World) (hl:RowIn .u8 w la ln zl) (hg:RowIn .u8 w ga gn zg) (hgc:gn≤gc):
  Calls Tryz.prog 9 #[.agg #[.slice pa pn pc,.bool true,.slice la ln lc,.slice ga gn gc]] w (MainP w):=(code_call w hl hg hgc).mono fun _ _ h=>mainP_of h
theorem kind_cases {S:ST} (h:S.rightB=true):(0≤S.kind∧S.kind < 4)∨S.kind=4∨S.kind=5∨(6≤S.kind∧S.kind≤8)∨S.kind=9:=by
 obtain⟨t',_,_,h2⟩:=zcR h
 rcases h2 with ⟨n,ea,ec,e,ba,bc,la,lc,_,_,rfl⟩ | ⟨n,ea,ec,e,e2,ba,bc,la,lc,_,_,_,rfl⟩ | ⟨n,ea,ec,ba,bc,la,lc,_,rfl⟩ | ⟨n,f,ea,ec,e,ba,bc,la,lc,_,_,_,rfl⟩ | ⟨ea,ec,e,ba,bc,b,la,lc,l,_,_,_,rfl⟩ | ⟨ea,ec,e,ba,bc,b,la,lc,_,_,rfl⟩ | ⟨ea,ec,ba,bc,la,lc,rfl⟩ | ⟨ea,ec,ba,bc,la,lc,rfl⟩ | ⟨ea,ec,e,ba,bc,la,lc,_,rfl⟩ | ⟨ea,ec,e,ba,bc,la,lc,_,rfl⟩<;>simp only[ST.kind]<;>decide
end Go.Proofs.YtagnmppdhfmgdaaGreatDoor.Fl

namespace Go.Proofs.YtagnmppdhfmgdaaGreatDoor.Fl
open Go Go.RowKit Go.Proofs.YtagnmppdhfmgdaaGreatDoor
theorem node_info:(Tryz.prog.info? 88).map (fun i=>(i.zero,i.size,i.bytes))=some (some (.agg #[.int .i64 0,.int .i64 0,.string {data:=#[]},.string {data:=#[]},.slice none 0 0,.slice none 0 0,.slice none 0 0,.int .i64 0,.int .i64 0,.int .i64 0,.int .i64 0,.int .i64 0]),12,160):=by kernel_rfl
theorem zcK:(Tryz.prog.info? 3).map (fun i=>(i.zero,i.size,i.bytes))=some (some (.int .i64 0),1,8):=by kernel_rfl
theorem ints_info:(Tryz.prog.info? 29).map (fun i=>(i.zero,i.size,i.bytes))=some (some (.slice none 0 0),1,24):=by kernel_rfl
abbrev ints (l:List Int):List Value:=l.map (Value.int .i64)
abbrev BBox (w:World) (b:Nat) (vx vo vi vn:Value):Prop:=w.heap[b]?=some (.cells #[vx,vo,vi,vn] 77 (0,0))
def Bd (B b:Nat) (ns:List NR) (w:World):Prop:=B≤b∧∃vi vn,BBox w b (.slice none 0 0) (.slice none 0 0) vi vn ∧
 w.ownsRow B 3 1 vi ns.length (ints (ns.map NR.par))∧w.ownsRow B 88 12 vn ns.length (ns.flatMap NR.cells)
theorem zat {w:World} {b:Nat} {vx vo vi vn:Value} (h:BBox w b vx vo vi vn):w.cell? ⟨b,0,none⟩=some vx∧w.cell? ⟨b,1,none⟩=some vo∧w.cell? ⟨b,2,none⟩=some vi∧w.cell? ⟨b,3,none⟩=some vn∧(∀k,w.frozen? ⟨b,k,none⟩=false)∧b < w.heap.size:=
 ⟨zac h rfl,zac h rfl,zac h rfl,zac h rfl,fun k=>zab h,lt_of_block h⟩
theorem zdJ:∀(ns:List NR) (i j:Nat) (n:NR),ns[i]?=some n→j < 12→(ns.flatMap NR.cells)[i*12+j]?=n.cells[j]?
 | [],i,j,n,h,_=>by simp at h
 | m :: ns,0,j,n,h,hj=>by
  simp only[List.getElem?_cons_zero,Option.some.injEq] at h
  subst h
  rw[List.flatMap_cons,List.getElem?_append_left (by rw[NR.len];omega)]
  simp
 | m :: ns,i+1,j,n,h,hj=>by
  rw[List.flatMap_cons,List.getElem?_append_right (by rw[NR.len];omega),NR.len]
  rw[show(i+1)*12+j - 12=i*12+j by omega]
  exact zdJ ns i j n (by simpa using h) hj
theorem flat_set:∀(ns:List NR) (i j:Nat) (n m:NR) (u:Value),ns[i]?=some n→j < 12→m.cells=n.cells.set j u→(ns.flatMap NR.cells).set (i*12+j) u=(ns.set i m).flatMap NR.cells
 | [],i,j,n,m,u,h,_,_=>by simp at h
 | q :: ns,0,j,n,m,u,h,hj,hm=>by
  simp only[List.getElem?_cons_zero,Option.some.injEq] at h
  subst h
  rw[List.flatMap_cons,List.set_cons_zero,List.flatMap_cons,hm,List.set_append_left _ _ (by rw[NR.len];omega)]
  simp
 | q :: ns,i+1,j,n,m,u,h,hj,hm=>by
  rw[List.flatMap_cons,List.set_cons_succ,List.flatMap_cons,List.set_append_right _ _ (by rw[NR.len];omega),NR.len]
  rw[show(i+1)*12+j - 12=i*12+j by omega,flat_set ns i j n m u (by simpa using h) hj hm]
theorem bb_set {w:World} {b k:Nat} {vx vo vi vn u:Value} (h:BBox w b vx vo vi vn):(w.setCell ⟨b,k,none⟩ u).heap[b]?=some (.cells (#[vx,vo,vi,vn].setIfInBounds k u) 77 (0,0)):=zay u h
theorem za6 {w:World} {B n sz b:Nat} {e t:TypeId} {v:Value} {xs:List Value} {cs:Array Value} {fr:Nat×Nat} (h:w.ownsRow B e sz v n xs) (hb:w.heap[b]?=some (.cells cs t fr)) (ht:t≠e):v.ownBlock≠some b:=fun hv=>by
 rcases h.2 with ⟨rfl,-⟩ | ⟨g,cap,cur,rfl,-,hg,-⟩
 ·simp[Value.ownBlock] at hv
 ·simp only[Value.ownBlock,Option.some.injEq] at hv
  subst hv
  rw[hb] at hg
  simp only[Option.some.injEq,Obj.cells.injEq] at hg
  exact ht hg.2.1
theorem zaW {w:World} {B B' n n' sz sz':Nat} {e e':TypeId} {v v':Value} {xs xs':List Value} (h:w.ownsRow B e sz v n xs) (h':w.ownsRow B' e' sz' v' n' xs') (he:e'≠e):∀g,v'.ownBlock=some g→v.ownBlock≠some g:=fun g hg=>by
 rcases h'.2 with ⟨rfl,-⟩ | ⟨g',cap,cur,rfl,-,hb,-⟩
 ·simp[Value.ownBlock] at hg
 ·simp only[Value.ownBlock,Option.some.injEq] at hg
  subst hg
  exact za6 h hb he
theorem zdv {w w':World} {B n sz:Nat} {e:TypeId} {v:Value} {xs:List Value} {r:Option Nat} (h:w.ownsRow B e sz v n xs) (hg:w.grownBy w' r) (hr:∀g,r=some g→v.ownBlock≠some g):w'.ownsRow B e sz v n xs:=by
 refine h.kept hg ?_
 cases hv:v.ownBlock with
 | none=>exact .inl rfl
 | some g=>exact .inr fun e=>hr g e.symm hv
theorem zbf {w:World} {B n sz b:Nat} {e:TypeId} {v:Value} {xs:List Value} (h:w.ownsRow B e sz v n xs) (hb:v.ownBlock≠some b) (k:Nat) (u:Value):(w.setCell ⟨b,k,none⟩ u).ownsRow B e sz v n xs:=
 zdv h (zaO w b k u) (fun g hg=>by cases hg;exact hb)
theorem zdK {w:World} {B n sz:Nat} {e:TypeId} {v:Value} {xs:List Value} (h:w.ownsRow B e sz v n xs):∃ao cap,v=.slice ao n cap:=by
 rcases h.2 with ⟨e,h9⟩ | ⟨g,cap,cur,e,_⟩
 ·exact⟨none,0,by rw[e,h9]⟩
 ·exact⟨_,_,e⟩
theorem zbh {w:World} {B n sz:Nat} {e:TypeId} {ao:Option Addr} {cap:Nat} {xs:List Value} (h:w.ownsRow B e sz (.slice ao n cap) n xs) (hn:0 < n):∃g,ao=some ⟨g,0,none⟩∧B≤g∧g < w.heap.size∧n≤cap∧cap≤maxLen∧(∀k,w.frozen? ⟨g,k,none⟩=false)∧∀j,j < n*sz→w.cell? ⟨g,j,none⟩=xs[j]?:=by
 rcases h.2 with ⟨_,h0⟩ | ⟨g,cap',cur,hv,hb,hg,hc,hm,_⟩
 ·omega
 ·simp only[Value.slice.injEq] at hv
  obtain⟨rfl,-,rfl⟩:=hv
  exact⟨g,rfl,hb,lt_of_block hg,hc,hm,fun k=>h.frozenAt k,fun j hj=>h.cellAt j hj⟩
def Kp (b:Nat) (w w':World):Prop:=∀q c t f,q≠b→w.heap[q]?=some (.cells c t f)→t≠88→t≠3→w'.heap[q]?=some (.cells c t f)
theorem Kp.refl (b:Nat) (w:World):Kp b w w:=fun _ _ _ _ _ h _ _=>h
theorem Kp.trans {b:Nat} {w w1 w2:World} (h:Kp b w w1) (k:Kp b w1 w2):Kp b w w2:=fun q c t f hq ho h1 h2=>k q c t f hq (h q c t f hq ho h1 h2) h1 h2
theorem Kp.alloc {b:Nat} {w w1:World} (h:Kp b w w1) (o:Obj):Kp b w (w1.alloc o):=fun q c t f hq ho h1 h2=>zaf o (h q c t f hq ho h1 h2)
theorem Kp.drew {b:Nat} {w w1:World} (h:Kp b w w1):Kp b w w1.drew:=h
theorem Kp.set {b:Nat} {w w1:World} (h:Kp b w w1) (j:Nat) (u:Value):Kp b w (w1.setCell ⟨b,j,none⟩ u):=fun q c t f hq ho h1 h2 =>
 (Below.heap_setCell w1 ⟨b,j,none⟩ u q hq).trans (h q c t f hq ho h1 h2)
theorem Kp.grown {b B n sz:Nat} {e:TypeId} {v:Value} {xs:List Value} {w w1 w2:World} (h:Kp b w w1) (ho:w1.ownsRow B e sz v n xs) (he:e=88∨e=3) (hg:w1.grownBy w2 v.ownBlock):Kp b w w2:=fun q c t f hq hb h1 h2=>by
 have h3:=h q c t f hq hb h1 h2
 exact(hg.block q (lt_of_block h3) (fun e'=>za6 ho h3 (by rcases he with rfl | rfl;exact h1;exact h2) e'.symm)).trans h3
theorem bd_drew {B b:Nat} {ns:List NR} {w:World} (h:Bd B b ns w):Bd B b ns w.drew:=h
theorem bd_node {B b:Nat} {ns:List NR} {n:NR} {w w5:World} {ai an:Option Addr} {ci cn g cap:Nat} (hB:B≤b) (hb:BBox w b (.slice none 0 0) (.slice none 0 0) (.slice ai ns.length ci) (.slice an ns.length cn))
  (hi:w.ownsRow B 3 1 (.slice ai ns.length ci) ns.length (ints (ns.map NR.par))) (hn:w.ownsRow B 88 12 (.slice an ns.length cn) ns.length (ns.flatMap NR.cells))
  (hown:w5.ownsRow B 88 12 (.slice (some ⟨g,0,none⟩) (ns.length+1) cap) (ns.length+1) (ns.flatMap NR.cells++n.cells)) (hg:w.grownBy w5 (Value.slice an ns.length cn).ownBlock):
  BBox (w5.setCell ⟨b,3,none⟩ (.slice (some ⟨g,0,none⟩) (ns.length+1) cap)) b (.slice none 0 0) (.slice none 0 0) (.slice ai ns.length ci) (.slice (some ⟨g,0,none⟩) (ns.length+1) cap) ∧
  (w5.setCell ⟨b,3,none⟩ (.slice (some ⟨g,0,none⟩) (ns.length+1) cap)).ownsRow B 3 1 (.slice ai ns.length ci) ns.length (ints (ns.map NR.par)) ∧
  (w5.setCell ⟨b,3,none⟩ (.slice (some ⟨g,0,none⟩) (ns.length+1) cap)).ownsRow B 88 12 (.slice (some ⟨g,0,none⟩) (ns.length+1) cap) (ns.length+1) ((ns++[n]).flatMap NR.cells) ∧
  Below B w (w5.setCell ⟨b,3,none⟩ (.slice (some ⟨g,0,none⟩) (ns.length+1) cap))∧Kp b w (w5.setCell ⟨b,3,none⟩ (.slice (some ⟨g,0,none⟩) (ns.length+1) cap)):=by
 have hlt:=lt_of_block hb
 have h5:BBox w5 b (.slice none 0 0) (.slice none 0 0) (.slice ai ns.length ci) (.slice an ns.length cn):=(hg.block b hlt (fun e=>za6 hn hb (by decide) e.symm)).trans hb
 have hi5:=zdv hi hg (fun q hq=>zaW hi hn (by decide) q hq)
 refine⟨bb_set h5,zbf hi5 (za6 hi5 h5 (by decide)) _ _,?_,?_,?_⟩
 ·rw[List.flatMap_append]
  exact zbf (by simpa using hown) (za6 hown h5 (by decide)) _ _
 ·exact((Below.refl B w).grown hg (by omega) (fun k hk=>(hn.lt k hk).1)).setCell (p:=⟨b,3,none⟩) hB _
 ·exact((Kp.refl b w).grown hn (.inl rfl) hg).set _ _
theorem bd_in {B b:Nat} {ns:List NR} {n:NR} {w w5:World} {ai an:Option Addr} {ci cn g cap:Nat} (hB:B≤b) (hb:BBox w b (.slice none 0 0) (.slice none 0 0) (.slice ai ns.length ci) (.slice an (ns.length+1) cn))
  (hi:w.ownsRow B 3 1 (.slice ai ns.length ci) ns.length (ints (ns.map NR.par))) (hn:w.ownsRow B 88 12 (.slice an (ns.length+1) cn) (ns.length+1) ((ns++[n]).flatMap NR.cells))
  (hown:w5.ownsRow B 3 1 (.slice (some ⟨g,0,none⟩) (ns.length+1) cap) (ns.length+1) (ints (ns.map NR.par)++[.int .i64 n.par])) (hg:w.grownBy w5 (Value.slice ai ns.length ci).ownBlock):
  Bd B b (ns++[n]) (w5.setCell ⟨b,2,none⟩ (.slice (some ⟨g,0,none⟩) (ns.length+1) cap)) ∧
  Below B w (w5.setCell ⟨b,2,none⟩ (.slice (some ⟨g,0,none⟩) (ns.length+1) cap))∧Kp b w (w5.setCell ⟨b,2,none⟩ (.slice (some ⟨g,0,none⟩) (ns.length+1) cap)):=by
 have hlt:=lt_of_block hb
 have h5:BBox w5 b (.slice none 0 0) (.slice none 0 0) (.slice ai ns.length ci) (.slice an (ns.length+1) cn):=(hg.block b hlt (fun e=>za6 hi hb (by decide) e.symm)).trans hb
 have hn5:=zdv hn hg (fun q hq=>zaW hn hi (by decide) q hq)
 refine⟨⟨hB,_,_,bb_set h5,?_,?_⟩,?_,?_⟩
 ·have:=zbf hown (za6 hown h5 (by decide)) 2 (.slice (some ⟨g,0,none⟩) (ns.length+1) cap)
  simpa[ints] using this
 ·have:=zbf hn5 (za6 hn5 h5 (by decide)) 2 (.slice (some ⟨g,0,none⟩) (ns.length+1) cap)
  simpa using this
 ·exact((Below.refl B w).grown hg (by omega) (fun k hk=>(hi.lt k hk).1)).setCell (p:=⟨b,2,none⟩) hB _
 ·exact((Kp.refl b w).grown hi (.inr rfl) hg).set _ _
structure BdO (B b:Nat) (ns:List NR) (w:World) (ai an:Option Addr) (ci cn:Nat):Prop where
 hB:B≤b
 box:BBox w b (.slice none 0 0) (.slice none 0 0) (.slice ai ns.length ci) (.slice an ns.length cn)
 i:w.ownsRow B 3 1 (.slice ai ns.length ci) ns.length (ints (ns.map NR.par))
 n:w.ownsRow B 88 12 (.slice an ns.length cn) ns.length (ns.flatMap NR.cells)
theorem bd_open {B b:Nat} {ns:List NR} {w:World} (h:Bd B b ns w):∃ai an ci cn,BdO B b ns w ai an ci cn:=by
 obtain⟨hB,vi,vn,hb,hi,hn⟩:=h
 obtain⟨ai,ci,rfl⟩:=zdK hi
 obtain⟨an,cn,rfl⟩:=zdK hn
 exact⟨ai,an,ci,cn,hB,hb,hi,hn⟩
theorem BdO.bd {B b:Nat} {ns:List NR} {w:World} {ai an:Option Addr} {ci cn:Nat} (h:BdO B b ns w ai an ci cn):Bd B b ns w:=⟨h.hB,_,_,h.box,h.i,h.n⟩
theorem BdO.alloc {B b:Nat} {ns:List NR} {w:World} {ai an:Option Addr} {ci cn:Nat} (h:BdO B b ns w ai an ci cn) (o:Obj):BdO B b ns (w.alloc o) ai an ci cn:=⟨h.hB,zaf o h.box,h.i.alloc o,h.n.alloc o⟩
theorem BdO.drew {B b:Nat} {ns:List NR} {w:World} {ai an:Option Addr} {ci cn:Nat} (h:BdO B b ns w ai an ci cn):BdO B b ns w.drew ai an ci cn:=⟨h.hB,h.box,h.i,h.n⟩
theorem bd_set {B b:Nat} {ns:List NR} {w:World} {an:Option Addr} {ai:Option Addr} {ci cn:Nat} (h:BdO B b ns w ai an ci cn) {p j:Nat} {n m:NR} {u:Value} (hp:ns[p]?=some n) (hj:j < 12) (hm:m.cells=n.cells.set j u) (hpar:m.par=n.par) {g:Nat} (hg:an=some ⟨g,0,none⟩):
  BdO B b (ns.set p m) (w.setCell ⟨g,p*12+j,none⟩ u) ai an ci cn∧Below B w (w.setCell ⟨g,p*12+j,none⟩ u)∧Kp b w (w.setCell ⟨g,p*12+j,none⟩ u):=by
 subst hg
 obtain⟨h1,h2⟩:=h.n.stored (p*12+j) u
 rw[flat_set ns p j n m u hp hj hm] at h1
 have hbg:(Value.slice (some ⟨g,0,none⟩) ns.length cn).ownBlock≠some b:=za6 h.n h.box (by decide)
 have hbx:=(h2.block b (lt_of_block h.box) (fun e=>hbg (by simpa[Value.ownBlock] using e.symm))).trans h.box
 have hi2:=zdv h.i h2 (fun q hq=>zaW h.i h.n (by decide) q (by simpa[Value.ownBlock] using hq))
 have hpars:(ns.set p m).map NR.par=ns.map NR.par:=by
  rw[List.map_set,hpar]
  apply List.ext_getElem?
  intro k
  rw[List.getElem?_set]
  split
  ·rename_i e
   subst e
   rw[List.getElem?_map,hp]
   have hlt:p < ns.length:=by
    rcases Nat.lt_or_ge p ns.length with h' | h'
    ·exact h'
    ·rw[List.getElem?_eq_none h'] at hp;cases hp
   simp[hlt]
  ·rfl
 refine⟨⟨h.hB,?_,?_,?_⟩,?_,?_⟩
 ·rw[List.length_set];exact hbx
 ·rw[List.length_set,hpars];exact hi2
 ·rw[List.length_set];exact h1
 ·exact(Below.refl B w).setCell (p:=⟨g,p*12+j,none⟩) (h.n.lt g rfl).1 _
 ·exact(Kp.refl b w).grown h.n (.inl rfl) (by simpa[Value.ownBlock] using h2)
end Go.Proofs.YtagnmppdhfmgdaaGreatDoor.Fl
