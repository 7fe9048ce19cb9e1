/- Any expression of the feed; a feed that has just been made, over bytes that came in. -/
import Derived.Test.YtbilfdapmbahgaaGreatDoorRRun
import Derived.Test.YtbilfdapmbahgaaGreatDoorLRow
import Derived.Test.YtbilfdapmbahgaaGreatDoorTFeed
import Derived.Test.YtbilfdapmbahgaaGreatDoorKModel
import Derived.Lib.SmallJoins
import Derived.Deep.AppendLies
import Derived.OwnWalk
import Derived.Deep.RegionLaw
import Derived.OpenShut
set_option linter.unusedSimpArgs false
set_option linter.unusedVariables false
set_option maxHeartbeats 8000000
set_option maxRecDepth 100000
namespace Go.Proofs.YtbilfdapmbahgaaGreatDoor.Rn
open Go Go.RowKit Go.Proofs.YtbilfdapmbahgaaGreatDoor Go.Proofs.YtbilfdapmbahgaaGreatDoor.Ev
open Go.Lib (hid)
abbrev tbl (Fb:Nat):Array Value:=#[meth 140 Fb,meth 141 Fb,meth 142 Fb,meth 143 Fb,meth 144 Fb,meth 145 Fb,meth 146 Fb,meth 147 Fb,meth 148 Fb,meth 149 Fb]
theorem table_any (Fb:Nat) (w:World):Calls Tryz.prog 93 #[ptr Fb] w fun e w'=>e=.returned (.agg (tbl Fb))∧Below w.heap.size w w':=by
 go_enter Tryz.func93,Tryz.ntmps93
 go_wp2
 exact bodyPost_ret (v:=.agg (tbl Fb)) (by simp[results,Tryz.results93,go_sem]) rfl ⟨rfl,(Below.refl _ _).alloc (Nat.le_refl _) _⟩
structure MI (C:Cx) (wt:WtP) (ws:World) (Mb:Nat) (fp:Nat→Prop) (s:MS) (w:World):Prop where
 sta:Sta ws w
 hid:∀p v,ws.cell? p=some v→p.block≠Mb∧¬fp p.block
 mlt:Mb < w.heap.size
 mch:Mch C ws Mb s w
 dj:¬fp Mb
 wat:wt s.ev fp w
 num:s.ev.length+s.left≤C.fuel
def EQ (C:Cx) (wt:WtP) (ws:World) (Mb d:Nat) (fp:Nat→Prop) (w:World) (o:Out) (e:Ending) (w':World):Prop:=match o with
 | .go _ f s=>e=.returned (.int .i64 f.r)∧in64 f.r∧∃fp',Hal C wt ws Mb fp' s w'∧(∀b,fp' b→fp b∨w.heap.size≤b)∧Old w.heap.size (fun b=>b=Mb∨(d=1∧fp b)) w w'
 | .trap t s=>e=.panicked [{v:=zb5 t,recovered:=false}]∧∃fp',Hal C wt ws Mb fp' s w'∧(∀b,fp' b→fp b∨w.heap.size≤b)∧Old w.heap.size (fun b=>b=Mb∨(d=1∧fp b)) w w'
theorem newR_len (F:RF) (zs:List Int):(newR F zs).length=F.params.length+F.vars.length:=by
 have h1:∀(l:List (List UInt8)) (i:Nat),(parsR zs i l).length=l.length:=by
  intro l
  induction l with
  | nil=>intro i;rfl
  | cons p l ih=>intro i;rw[parsR,List.length_cons,ih,List.length_cons]
 unfold newR
 rw[List.length_append,h1,List.length_map]
theorem fs_new {C:Cx} {wt:WtP} {ws:World} (W:Wat C ws wt) {Mb Fb E d:Nat} {blk:Nat→Nat} {fp:Nat→Prop} {s:MS} {L:List PC} {w w1 w2:World} (h:MI C wt ws Mb fp s w) (hb:Below w.heap.size w w1) (he:EnvIn w.heap.size E blk L w1) (hL:L.length≤2000) (hF:w1.heap.size≤Fb) (ho:∀b,b < w1.heap.size→w2.heap[b]?=w1.heap[b]?) (hs:w1.heap.size≤w2.heap.size)
  (hfr:w2.heap[Fb]?=some (.cells (fcl Mb Fb E d 0) 192 (0,0))) (hd:1≤d∧d≤40):∃X:Fx,X.Mb=Mb∧X.Fb=Fb∧X.d=d∧X.B0=w.heap.size∧FS C wt ws X fp ⟨L,0⟩ s w2:=by
 obtain⟨v,M,hv⟩:=envV_of he
 have hw:∀b,b < w.heap.size→w2.heap[b]?=w.heap[b]?:=fun b h1=>(ho b (Nat.lt_of_lt_of_le h1 hb.size)).trans (hb.block b h1)
 have hlt:=W.lt _ _ _ h.wat
 refine⟨⟨w.heap.size,Mb,Fb,E,blk,v,M,d⟩,rfl,rfl,rfl,rfl,⟨Nat.le_trans h.sta.size (Nat.le_trans hb.size hs),fun p v hp=>?_⟩,h.hid,h.sta.size,⟨h.mlt,Nat.le_trans hb.size hF⟩,h.mch.same (hw _ h.mlt),hfr,hv.keep fun b hb'=>ho b (hv.lt hb').2,⟨h.dj,fun hf=>?_,fun b hb' hf=>?_⟩,fun b hb' e=>?_,W.keep _ _ _ _ h.wat fun b hb'=>hw b (hlt b hb'),h.num,zcN,hL,hd⟩
 ·have:=h.sta.cell p v hp
  rw[World.cell?_of_block (w:=w) (hw _ (World.block_lt_of_cell? w p this))]
  exact this
 ·have:Fb < w.heap.size:=hlt _ hf
  have:=hb.size
  omega
 ·have h1:=(hv.lt hb').1
  have h2:=hlt _ hf
  omega
 ·have h1:=(hv.lt hb').2
  have h2:b=Fb:=e
  omega
def RetQ (C:Cx) (wt:WtP) (ws:World) (Mb d:Nat) (fp:Nat→Prop) (w:World) (Fb:Nat) (o:Out) (e:Ending) (w':World):Prop:=match o with
 | .go k f s=>e=.returned (.int .i64 (k:Nat))∧w'.cell? ⟨Fb,13,none⟩=some (.int .i64 f.r)∧in64 f.r∧(∃fp',Hal C wt ws Mb fp' s w'∧(∀b,fp' b→fp b∨w.heap.size≤b)∧Old w.heap.size (fun b=>b=Mb∨(d=1∧fp b)) w w')∧True
 | .trap t s=>e=.panicked [{v:=zb5 t,recovered:=false}]∧∃fp',Hal C wt ws Mb fp' s w'∧(∀b,fp' b→fp b∨w.heap.size≤b)∧Old w.heap.size (fun b=>b=Mb∨(d=1∧fp b)) w w'
theorem retQ_of {C:Cx} {wt:WtP} {ws:World} {X:Fx} {fp:Nat→Prop} {w w3 w':World} {Fb:Nat} {o:Out} {e:Ending} (x2:X.Fb=Fb) (x4:X.B0=w.heap.size) (ho:Old w.heap.size (fun b=>b=X.Mb∨(X.d=1∧fp b)) w w3) (h:RQ C wt ws X fp w3 o e w'):RetQ C wt ws X.Mb X.d fp w Fb o e w':=by
 have hs:=ho.size
 cases o with
 | go k f s =>
  obtain⟨rfl,fp',h1,h2⟩:=h
  have h3:=h2.old
  rw[x4] at h3
  refine⟨rfl,by rw[←x2];exact zab h1.frm rfl,h1.r64,⟨fp',h1.hal,fun b hb=>?_,ho.trans h3⟩,trivial⟩
  rcases h2.nw b hb with h4 | h4
  ·exact .inl h4
  ·exact .inr (by omega)
 | trap t s =>
  obtain⟨rfl,fp',h1,h2⟩:=h
  have h3:=h2.old
  rw[x4] at h3
  refine⟨rfl,fp',h1,fun b hb=>?_,ho.trans h3⟩
  rcases h2.nw b hb with h4 | h4
  ·exact .inl h4
  ·exact .inr (by omega)
def setT (w:World) (b:Nat):World:=((((((((((w.setCell ⟨b,3,none⟩ (meth 140 b)).setCell ⟨b,4,none⟩ (meth 141 b)).setCell ⟨b,5,none⟩ (meth 142 b)).setCell ⟨b,6,none⟩ (meth 143 b)).setCell ⟨b,7,none⟩ (meth 144 b)).setCell ⟨b,8,none⟩ (meth 145 b)).setCell ⟨b,9,none⟩ (meth 146 b)).setCell ⟨b,10,none⟩ (meth 147 b)).setCell ⟨b,11,none⟩ (meth 148 b)).setCell ⟨b,12,none⟩ (meth 149 b))
theorem setT_fr {w:World} {b Mb E d:Nat} (h:w.heap[b]?=some (.cells #[ptr Mb,ptr E,.int .i64 (d:Nat),.nilFunc,.nilFunc,.nilFunc,.nilFunc,.nilFunc,.nilFunc,.nilFunc,.nilFunc,.nilFunc,.nilFunc,.int .i64 0] 192 (0,0))):(setT w b).heap[b]?=some (.cells (fcl Mb b E d 0) 192 (0,0)):=by
 have h:(w.setCell ⟨b,3,none⟩ (meth 140 b)).heap[b]?=some (.cells #[ptr Mb,ptr E,.int .i64 (d:Nat),meth 140 b,.nilFunc,.nilFunc,.nilFunc,.nilFunc,.nilFunc,.nilFunc,.nilFunc,.nilFunc,.nilFunc,.int .i64 0] 192 (0,0)):=(zat (k:=3) (meth 140 b) h).trans rfl
 have h:((w.setCell ⟨b,3,none⟩ (meth 140 b)).setCell ⟨b,4,none⟩ (meth 141 b)).heap[b]?=some (.cells #[ptr Mb,ptr E,.int .i64 (d:Nat),meth 140 b,meth 141 b,.nilFunc,.nilFunc,.nilFunc,.nilFunc,.nilFunc,.nilFunc,.nilFunc,.nilFunc,.int .i64 0] 192 (0,0)):=(zat (k:=4) (meth 141 b) h).trans rfl
 have h:(((w.setCell ⟨b,3,none⟩ (meth 140 b)).setCell ⟨b,4,none⟩ (meth 141 b)).setCell ⟨b,5,none⟩ (meth 142 b)).heap[b]?=some (.cells #[ptr Mb,ptr E,.int .i64 (d:Nat),meth 140 b,meth 141 b,meth 142 b,.nilFunc,.nilFunc,.nilFunc,.nilFunc,.nilFunc,.nilFunc,.nilFunc,.int .i64 0] 192 (0,0)):=(zat (k:=5) (meth 142 b) h).trans rfl
 have h:((((w.setCell ⟨b,3,none⟩ (meth 140 b)).setCell ⟨b,4,none⟩ (meth 141 b)).setCell ⟨b,5,none⟩ (meth 142 b)).setCell ⟨b,6,none⟩ (meth 143 b)).heap[b]?=some (.cells #[ptr Mb,ptr E,.int .i64 (d:Nat),meth 140 b,meth 141 b,meth 142 b,meth 143 b,.nilFunc,.nilFunc,.nilFunc,.nilFunc,.nilFunc,.nilFunc,.int .i64 0] 192 (0,0)):=(zat (k:=6) (meth 143 b) h).trans rfl
 have h:(((((w.setCell ⟨b,3,none⟩ (meth 140 b)).setCell ⟨b,4,none⟩ (meth 141 b)).setCell ⟨b,5,none⟩ (meth 142 b)).setCell ⟨b,6,none⟩ (meth 143 b)).setCell ⟨b,7,none⟩ (meth 144 b)).heap[b]?=some (.cells #[ptr Mb,ptr E,.int .i64 (d:Nat),meth 140 b,meth 141 b,meth 142 b,meth 143 b,meth 144 b,.nilFunc,.nilFunc,.nilFunc,.nilFunc,.nilFunc,.int .i64 0] 192 (0,0)):=(zat (k:=7) (meth 144 b) h).trans rfl
 have h:((((((w.setCell ⟨b,3,none⟩ (meth 140 b)).setCell ⟨b,4,none⟩ (meth 141 b)).setCell ⟨b,5,none⟩ (meth 142 b)).setCell ⟨b,6,none⟩ (meth 143 b)).setCell ⟨b,7,none⟩ (meth 144 b)).setCell ⟨b,8,none⟩ (meth 145 b)).heap[b]?=some (.cells #[ptr Mb,ptr E,.int .i64 (d:Nat),meth 140 b,meth 141 b,meth 142 b,meth 143 b,meth 144 b,meth 145 b,.nilFunc,.nilFunc,.nilFunc,.nilFunc,.int .i64 0] 192 (0,0)):=(zat (k:=8) (meth 145 b) h).trans rfl
 have h:(((((((w.setCell ⟨b,3,none⟩ (meth 140 b)).setCell ⟨b,4,none⟩ (meth 141 b)).setCell ⟨b,5,none⟩ (meth 142 b)).setCell ⟨b,6,none⟩ (meth 143 b)).setCell ⟨b,7,none⟩ (meth 144 b)).setCell ⟨b,8,none⟩ (meth 145 b)).setCell ⟨b,9,none⟩ (meth 146 b)).heap[b]?=some (.cells #[ptr Mb,ptr E,.int .i64 (d:Nat),meth 140 b,meth 141 b,meth 142 b,meth 143 b,meth 144 b,meth 145 b,meth 146 b,.nilFunc,.nilFunc,.nilFunc,.int .i64 0] 192 (0,0)):=(zat (k:=9) (meth 146 b) h).trans rfl
 have h:((((((((w.setCell ⟨b,3,none⟩ (meth 140 b)).setCell ⟨b,4,none⟩ (meth 141 b)).setCell ⟨b,5,none⟩ (meth 142 b)).setCell ⟨b,6,none⟩ (meth 143 b)).setCell ⟨b,7,none⟩ (meth 144 b)).setCell ⟨b,8,none⟩ (meth 145 b)).setCell ⟨b,9,none⟩ (meth 146 b)).setCell ⟨b,10,none⟩ (meth 147 b)).heap[b]?=some (.cells #[ptr Mb,ptr E,.int .i64 (d:Nat),meth 140 b,meth 141 b,meth 142 b,meth 143 b,meth 144 b,meth 145 b,meth 146 b,meth 147 b,.nilFunc,.nilFunc,.int .i64 0] 192 (0,0)):=(zat (k:=10) (meth 147 b) h).trans rfl
 have h:(((((((((w.setCell ⟨b,3,none⟩ (meth 140 b)).setCell ⟨b,4,none⟩ (meth 141 b)).setCell ⟨b,5,none⟩ (meth 142 b)).setCell ⟨b,6,none⟩ (meth 143 b)).setCell ⟨b,7,none⟩ (meth 144 b)).setCell ⟨b,8,none⟩ (meth 145 b)).setCell ⟨b,9,none⟩ (meth 146 b)).setCell ⟨b,10,none⟩ (meth 147 b)).setCell ⟨b,11,none⟩ (meth 148 b)).heap[b]?=some (.cells #[ptr Mb,ptr E,.int .i64 (d:Nat),meth 140 b,meth 141 b,meth 142 b,meth 143 b,meth 144 b,meth 145 b,meth 146 b,meth 147 b,meth 148 b,.nilFunc,.int .i64 0] 192 (0,0)):=(zat (k:=11) (meth 148 b) h).trans rfl
 have h:((((((((((w.setCell ⟨b,3,none⟩ (meth 140 b)).setCell ⟨b,4,none⟩ (meth 141 b)).setCell ⟨b,5,none⟩ (meth 142 b)).setCell ⟨b,6,none⟩ (meth 143 b)).setCell ⟨b,7,none⟩ (meth 144 b)).setCell ⟨b,8,none⟩ (meth 145 b)).setCell ⟨b,9,none⟩ (meth 146 b)).setCell ⟨b,10,none⟩ (meth 147 b)).setCell ⟨b,11,none⟩ (meth 148 b)).setCell ⟨b,12,none⟩ (meth 149 b)).heap[b]?=some (.cells #[ptr Mb,ptr E,.int .i64 (d:Nat),meth 140 b,meth 141 b,meth 142 b,meth 143 b,meth 144 b,meth 145 b,meth 146 b,meth 147 b,meth 148 b,meth 149 b,.int .i64 0] 192 (0,0)):=(zat (k:=12) (meth 149 b) h).trans rfl
 exact h
theorem setT_old {w:World} {b q:Nat} (h:q≠b):(setT w b).heap[q]?=w.heap[q]?:=by
 unfold setT
 rw[Below.heap_setCell _ ⟨b,12,none⟩ _ q h,Below.heap_setCell _ ⟨b,11,none⟩ _ q h,Below.heap_setCell _ ⟨b,10,none⟩ _ q h,Below.heap_setCell _ ⟨b,9,none⟩ _ q h,Below.heap_setCell _ ⟨b,8,none⟩ _ q h,Below.heap_setCell _ ⟨b,7,none⟩ _ q h,Below.heap_setCell _ ⟨b,6,none⟩ _ q h,Below.heap_setCell _ ⟨b,5,none⟩ _ q h,Below.heap_setCell _ ⟨b,4,none⟩ _ q h,Below.heap_setCell _ ⟨b,3,none⟩ _ q h]
theorem setT_size (w:World) (b:Nat):(setT w b).heap.size=w.heap.size:=by simp[setT,World.setCell]
theorem setT_os (w:World) (b:Nat):(setT w b).os=w.os∧(setT w b).tape=w.tape∧(setT w b).output=w.output:=by simp[setT,World.setCell]
theorem enter_any {C:Cx} {wt:WtP} {ws:World} (W:Wat C ws wt) (hC:CxIn C ws) {g:Nat} (hR:RunC C wt ws g) {Mb d i:Nat} {fp:Nat→Prop} {s:MS} {w:World} (h:MI C wt ws Mb fp s w) (hi:i < C.l.length) (hd:1≤d∧d≤40) (hg:2*s.left+1≤g) (aa:Option Addr) (ac an:Nat) (zs:List Int) (hz:RowIn .i64 w aa an zs) (hzl:zs.length=an) (hz64:∀z∈zs,in64 z):
  Calls Tryz.prog 57 #[ptr Mb,.int .i64 (i:Nat),.int .i64 (d:Nat),.slice aa an ac] w (EQ C wt ws Mb d fp w (runG C.rf g d (.seq 0 C.l[i].rf.body) ⟨newR C.l[i].rf zs,0⟩ s)):=by
 have hF:=hC.fs.fs i hi
 have hrow:=hC.fs.row i hi
 have hst:=hC.sts _ (List.getElem_mem hi)
 obtain⟨ca,cc,hcrow,hns⟩:=hC.code i hi
 have hlot:Lot C ws ca C.l[i].ba 0 0 C.l[i].body:=⟨hns,hF.ss,by have:=hC.right _ (List.getElem_mem hi);rw[FT.rightB] at this;simp only[Bool.and_eq_true] at this;exact this.2.2.2,hC.calls _ (List.getElem_mem hi),by omega⟩
 have hMC:=hC.many
 have hnew:=new_any C.l[i].name C.l[i].pa C.l[i].va aa C.l[i].pc C.l[i].vc ac an (.slice C.l[i].ba C.l[i].body.length C.l[i].bc) C.l[i].params C.l[i].vars zs hst.2.1 hst.2.2 w (fun j p hj=>?_) (fun j p hj=>?_) hz hzl
 rotate_left
 ·obtain⟨hjl,rfl⟩:=List.getElem?_eq_some_iff.1 hj
  obtain⟨b,o,e,-,hc⟩:=hF.ps j hjl
  have hr:=hC.right _ (List.getElem_mem hi)
  rw[FT.rightB] at hr
  simp only[Bool.and_eq_true,List.all_eq_true] at hr
  exact⟨b,o,e,h.sta.cell _ _ hc,zbu (hr.2.1 _ (List.getElem_mem hjl))⟩
 ·obtain⟨hjl,rfl⟩:=List.getElem?_eq_some_iff.1 hj
  obtain⟨b,o,e,-,hc⟩:=hF.vs j hjl
  have hr:=hC.right _ (List.getElem_mem hi)
  rw[FT.rightB] at hr
  simp only[Bool.and_eq_true,List.all_eq_true] at hr
  have h2:=hr.2.2.1 _ (List.getElem_mem hjl)
  unfold zcJ at h2
  simp only[Bool.and_eq_true] at h2
  exact⟨b,o,e,h.sta.cell _ _ (hc 0 _ rfl),h.sta.cell _ _ (hc 1 _ rfl),zbu h2.1⟩
 obtain⟨iv,hiv,hb⟩:=h.mch.blk
 have m0:w.cell? ⟨Mb,0,none⟩=some (.slice C.fa C.l.length C.fc):=zab hb rfl
 obtain⟨fb,fo,hfa,-,hrc⟩:=hrow
 obtain⟨kb,ko,hka,-,hkc⟩:=hcrow
 have r0:=h.sta.cell _ _ (hrc 0 _ rfl)
 have r1:=h.sta.cell _ _ (hrc 1 _ rfl)
 have r2:=h.sta.cell _ _ (hrc 2 _ rfl)
 have r3:=h.sta.cell _ _ (hrc 3 _ rfl)
 simp only[Nat.add_zero] at r0
 have fl:=World.block_lt_of_cell? w _ r0
 have ml:=h.mlt
 have HN:=hid hnew
 have HM:=hid h
 rw[hfa] at m0
 have m1:w.cell? ⟨Mb,1,none⟩=some (.slice (some ⟨kb,ko,none⟩) C.l.length C.cc):=by rw[←hka];exact zab hb rfl
 have k0:=h.sta.cell _ _ (hkc 0 _ rfl)
 simp only[Nat.add_zero,Nat.mul_one] at k0
 have HK:=hid (And.intro m1 k0)
 have kl:=World.block_lt_of_cell? w _ k0
 have hrun:∀(w1:World) (E:Nat) (blk:Nat→Nat) (w2:World),EnvIn w.heap.size E blk (newR C.l[i].rf zs) w1→Below w.heap.size w w1→w2.heap[w1.heap.size]?=some (.cells #[ptr Mb,ptr E,.int .i64 (d:Nat),.nilFunc,.nilFunc,.nilFunc,.nilFunc,.nilFunc,.nilFunc,.nilFunc,.nilFunc,.nilFunc,.nilFunc,.int .i64 0] 192 (0,0))→Below w1.heap.size w1 w2 →
   Calls Tryz.prog 94 #[ptr w1.heap.size,.slice ca C.l[i].body.length cc] (setT w2 w1.heap.size) (RetQ C wt ws Mb d fp w w1.heap.size (runG C.rf g d (.seq 0 C.l[i].rf.body) ⟨newR C.l[i].rf zs,0⟩ s)):=by
  intro w1 E blk w2 he hb1 hf2 hb2
  obtain⟨X,rfl,x2,rfl,x4,hfs⟩:=fs_new W h hb1 he (by rw[newR_len];show(C.l[i].params.map _).length+(C.l[i].vars.map _).length≤2000;rw[List.length_map,List.length_map];omega) (Nat.le_refl _) (fun b hb=>(setT_old (by omega)).trans (hb2.block b hb)) (by rw[setT_size];exact hb2.size) (setT_fr hf2) hd
  have hq:=hR X fp _ s _ ca C.l[i].ba cc 0 C.l[i].body hfs hlot hg
  rw[x2] at hq
  refine hq.mono fun e w' hq=>?_
  have ho:Old w.heap.size (fun b=>b=X.Mb∨(X.d=1∧fp b)) w (setT w2 w1.heap.size):=⟨(setT_os ..).1.trans (hb2.os.trans hb1.os),(setT_os ..).2.1.trans (hb2.tape.trans hb1.tape),(setT_os ..).2.2.trans (hb2.output.trans hb1.output),by rw[setT_size];exact Nat.le_trans hb1.size hb2.size,fun b hb _=>(setT_old (by have:=hb1.size;omega)).trans ((hb2.block b (Nat.lt_of_lt_of_le hb hb1.size)).trans (hb1.block b hb))⟩
  exact retQ_of x2 x4 ho hq
 have HRUN:=hid hrun
 have HEV:Hid (newL C.l[i].params C.l[i].vars zs=newR C.l[i].rf zs):=hid (new_rf _ _)
 obtain⟨oo,hoo⟩:∃oo,runG C.rf g d (.seq 0 C.l[i].rf.body) ⟨newR C.l[i].rf zs,0⟩ s=oo:=⟨_,rfl⟩
 rw[hoo] at HRUN ⊢
 clear hnew h hlot hns hF hrc hkc hb hiv hz hzl hz64 hka hfa hg m1 k0 hoo hrun
 match oo with
 | .go v f2 s2 =>
  go_enter Tryz.func57,Tryz.ntmps57
  go_wp2_with (first
  | (go_at_call 94;have hx:=HRUN.out _ _ _ _ HE1.out HB1.out HRB.out (zae ((Below.refl _ _).alloc (Nat.le_refl _) _) HB2.out);unfold setT at hx;(with_reducible refine hx.mono ?_);clear hx;rintro e w4 ⟨rfl,hq⟩;have g13:=hq.1;have gl:=World.block_lt_of_cell? _ _ g13;have HQ:=hid hq;clear hq)
  | (go_at_call 93;refine(table_any _ _).mono ?_;rintro e w2 ⟨rfl,hb2⟩;have rb:=(hb2.block w1.heap.size (by simp)).trans (zah w1 _);have d3:=zab (k:=3) rb rfl;have d4:=zab (k:=4) rb rfl;have d5:=zab (k:=5) rb rfl;have d6:=zab (k:=6) rb rfl;have d7:=zab (k:=7) rb rfl;have d8:=zab (k:=8) rb rfl;have d9:=zab (k:=9) rb rfl;have d10:=zab (k:=10) rb rfl;have d11:=zab (k:=11) rb rfl;have d12:=zab (k:=12) rb rfl;have d13:=zab (k:=13) rb rfl;have df:=fun k=>zaf (k:=k) rb;have dl:=lt_of_block rb;have HRB:=hid rb;have HB2:=hid hb2;have hw2:Below w.heap.size w w2:=zae (HB1.out.alloc HB1.out.size _) hb2;have e1:=hw2.cell (p:=⟨Mb,1,none⟩) ml;have e2:=hw2.cell (p:=⟨kb,ko+i,none⟩) kl;rw[HK.out.1] at e1;rw[HK.out.2] at e2;have ml2:=Nat.lt_of_lt_of_le ml hw2.size;have kl2:=Nat.lt_of_lt_of_le kl hw2.size;have nm1:Mb≠w1.heap.size:=(by have:=HB1.out.size;omega);have nk1:kb≠w1.heap.size:=(by have:=HB1.out.size;omega);clear rb hb2 hw2)
  | (go_at_call 92;refine HN.out.mono ?_;rintro e w1 ⟨⟨E,blk,rfl,he⟩,hb1⟩;have HE1:Hid (EnvIn w.heap.size E blk (newR C.l[i].rf zs) w1):=hid (by rw[←HEV.out];exact he);have HB1:=hid hb1;clear he hb1))
  go_ret
  obtain⟨a1,a2,a3,a4⟩:=HQ.out
  exact⟨rfl,a2,a3⟩
 | .trap t s2 =>
  go_enter Tryz.func57,Tryz.ntmps57
  go_wp2_with (first
  | (go_at_call 94;have hx:=HRUN.out _ _ _ _ HE1.out HB1.out HRB.out (zae ((Below.refl _ _).alloc (Nat.le_refl _) _) HB2.out);unfold setT at hx;(with_reducible refine hx.mono ?_);clear hx;rintro e w4 ⟨rfl,hq⟩;exact⟨rfl,rfl,hq⟩)
  | (go_at_call 93;refine(table_any _ _).mono ?_;rintro e w2 ⟨rfl,hb2⟩;have rb:=(hb2.block w1.heap.size (by simp)).trans (zah w1 _);have d3:=zab (k:=3) rb rfl;have d4:=zab (k:=4) rb rfl;have d5:=zab (k:=5) rb rfl;have d6:=zab (k:=6) rb rfl;have d7:=zab (k:=7) rb rfl;have d8:=zab (k:=8) rb rfl;have d9:=zab (k:=9) rb rfl;have d10:=zab (k:=10) rb rfl;have d11:=zab (k:=11) rb rfl;have d12:=zab (k:=12) rb rfl;have d13:=zab (k:=13) rb rfl;have df:=fun k=>zaf (k:=k) rb;have dl:=lt_of_block rb;have HRB:=hid rb;have HB2:=hid hb2;have hw2:Below w.heap.size w w2:=zae (HB1.out.alloc HB1.out.size _) hb2;have e1:=hw2.cell (p:=⟨Mb,1,none⟩) ml;have e2:=hw2.cell (p:=⟨kb,ko+i,none⟩) kl;rw[HK.out.1] at e1;rw[HK.out.2] at e2;have ml2:=Nat.lt_of_lt_of_le ml hw2.size;have kl2:=Nat.lt_of_lt_of_le kl hw2.size;have nm1:Mb≠w1.heap.size:=(by have:=HB1.out.size;omega);have nk1:kb≠w1.heap.size:=(by have:=HB1.out.size;omega);clear rb hb2 hw2)
  | (go_at_call 92;refine HN.out.mono ?_;rintro e w1 ⟨⟨E,blk,rfl,he⟩,hb1⟩;have HE1:Hid (EnvIn w.heap.size E blk (newR C.l[i].rf zs) w1):=hid (by rw[←HEV.out];exact he);have HB1:=hid hb1;clear he hb1))
end Go.Proofs.YtbilfdapmbahgaaGreatDoor.Rn

namespace Go.Proofs.YtbilfdapmbahgaaGreatDoor
open Go Go.RowKit
theorem stmt_info:(Tryz.prog.info? 84).map (fun i=>(i.zero,i.size,i.bytes))=some (some (.agg #[.int .i64 0,.int .i64 0,.string {data:=#[]},.string {data:=#[]},.slice none 0 0,.slice none 0 0,.slice none 0 0]),7,120):=by kernel_rfl
section
variable {F:FeedC} {B f:Nat} {loop:Bool}
theorem Fd.own {q:Nat} {left tag:Int} {v v':World} (h:Fd F B f q left tag v) {r:Option Nat} (hg:v.grownBy v' r) (hr:∀k,r=some k→B≤k):Fd F B f q left tag v':=
 h.keep (Nat.le_trans h.size hg.size) fun b hb=>hg.block b (Nat.lt_of_lt_of_le hb h.size) (fun e=>by have:=hr b e.symm;omega)
end
end Go.Proofs.YtbilfdapmbahgaaGreatDoor
namespace Go.Proofs.YtbilfdapmbahgaaGreatDoor
open Go Go.RowKit
end Go.Proofs.YtbilfdapmbahgaaGreatDoor
namespace Go.Proofs.YtbilfdapmbahgaaGreatDoor
open Go Go.RowKit
theorem RowIn.on {k:IntKind} {w w':World} {a:Option Addr} {n:Nat} {zs:List Int} (r:RowIn k w a n zs) (h:Below w.heap.size w w'):RowIn k w' a n zs:=by
 refine⟨r.1,fun hp=>?_⟩
 obtain⟨b,off,e,hb,hc⟩:=r.2 hp
 refine⟨b,off,e,Nat.lt_of_lt_of_le hb h.size,fun i hi=>⟨?_,(hc i hi).2⟩⟩
 rw[World.cell?_of_block (w:=w) (h.block b hb)]
 exact(hc i hi).1
end Go.Proofs.YtbilfdapmbahgaaGreatDoor
namespace Go.Proofs.YtbilfdapmbahgaaGreatDoor
open Go Go.RowKit
open Go.Lib (decDigits itoa)
end Go.Proofs.YtbilfdapmbahgaaGreatDoor

namespace Go.Proofs.YtbilfdapmbahgaaGreatDoor
open Go Go.RowKit
end Go.Proofs.YtbilfdapmbahgaaGreatDoor
namespace Go.Proofs.YtbilfdapmbahgaaGreatDoor
open Go Go.RowKit
end Go.Proofs.YtbilfdapmbahgaaGreatDoor
namespace Go.Proofs.YtbilfdapmbahgaaGreatDoor
open Go Go.RowKit
def FeedC.nv (F:FeedC) (p:Nat):Int:=if p < F.len then F.zs.getD p 0 else 0
def FeedC.nq (F:FeedC) (p:Nat):Nat:=if p < F.len then p+1 else p
section
variable {F:FeedC} {B f:Nat} {p:Nat} {left tag:Int} {w:World}
end
def leftOf (f:Nat) (w:World):Int:=intOf ((w.cell? ⟨f,4,none⟩).getD (.bool false))
def upd (c:Nat→Value) (k:Nat) (u:Value):Nat→Value:=fun i=>if i=k then u else c i
section
variable {F:FeedC} {B f X:Nat} {c:Nat→Value} {q:Nat} {left tag:Int} {w v:World}
end
end Go.Proofs.YtbilfdapmbahgaaGreatDoor
