/- The chapter's examples hold, whatever the memory. -/
import Derived.Test.YtbilfdapmbahgaaGreatDoorRSame
set_option linter.unusedSimpArgs false
set_option linter.unusedVariables false
set_option maxHeartbeats 8000000
set_option maxRecDepth 100000
namespace Go.Proofs.YtbilfdapmbahgaaGreatDoor.Rn
open Go Go.RowKit Go.Proofs.YtbilfdapmbahgaaGreatDoor Go.Proofs.YtbilfdapmbahgaaGreatDoor.Ev
open Go.Lib (hid)
open Go.Proofs.YtbilfdapmbahgaaGreatDoor.Ck (chkF critF Small StrsIn)
open Go.Lib (hid)
theorem run_any {w:World} {fa aa va:Option Addr} {fc an ac vc:Nat} {l:List FT} {zs:List Int} {fuel tag:Int} {vars:List ByteArray} (hP:refN l fuel tag vars=0→RunsP l) (hin:FsIn w 0 fa l) (hsm:Small l) (ht:-9223372036854775808≤tag∧tag≤9223372036854775807) (hl:vars.length≤1000) (hL:StrsIn w 0 va vars) (hvm:∀s∈vars,s.size≤maxLen) (hz:RowIn .i64 w aa an zs) (hzl:zs.length=an) (hz64:∀z∈zs,in64 z) (hcap:an≤ac∧ac≤9223372036854775807):
  Calls Tryz.prog 12 #[.agg #[.slice fa l.length fc],.slice aa an ac,.int .i64 fuel,.int .i64 tag,.slice va vars.length vc] w (RunPost l fuel tag vars zs w):=by
 by_cases hr:refN l fuel tag vars=0
 ·exact run_ok (hP hr) hin hsm ht hl hL hvm hz hzl hz64 hcap hr
 ·exact run_bad hin hsm ht hl hL hr
def VisV (w:World) (v:Value) (ev:List Vis):Prop:=∃a c,v=.slice a ev.length c∧∀i u,ev[i]?=some u→∃g s,a=some ⟨g,0,none⟩∧w.cell? ⟨g,i*2,none⟩=some (.int .i64 (u.node:Nat))∧w.cell? ⟨g,i*2+1,none⟩=some s∧CellsT (fun b=>b < w.heap.size) w s u.cells
theorem visC_at {sl:List Value}:∀{ev:List Vis} {i:Nat} {u:Vis} {s:Value},ev[i]?=some u→sl[i]?=some s→(visC ev sl)[i*2]?=some (.int .i64 (u.node:Nat))∧(visC ev sl)[i*2+1]?=some s:=by
 induction sl with
 | nil=>intro ev i u s h1 h2;simp at h2
 | cons a sl ih =>
  intro ev i u s h1 h2
  cases ev with
  | nil=>simp at h1
  | cons b ev =>
   cases i with
   | zero=>cases h1;cases h2;exact⟨rfl,rfl⟩
   | succ i =>
    have:=ih (ev:=ev) (i:=i) (by simpa using h1) (by simpa using h2)
    rw[show(i+1)*2=i*2+1+1 by omega]
    exact this
theorem vis_of {Wb:Nat} {ev:List Vis} {fp:Nat→Prop} {w:World} (h:VsR Wb ev fp w):∃a n c,w.heap[Wb]?=some (.cells #[.slice a n c] 50 (0,0))∧VisV w (.slice a n c) ev:=by
 obtain⟨-,hlt,v,sl,fc,h3,h4,h5,-,h7,h8⟩:=h
 obtain⟨a,c,rfl⟩:=zbn h5
 refine⟨_,_,_,h3,a,c,rfl,fun i u hi=>?_⟩
 have hil:=(List.getElem?_eq_some_iff.1 hi).1
 have hs:sl[i]?=some sl[i]:=List.getElem?_eq_getElem (by omega)
 obtain⟨a1,a2⟩:=visC_at hi hs
 rcases zco h5 with ⟨rfl,-,h0,-⟩ | ⟨g,rfl,hg,hc⟩
 ·omega
 ·exact⟨g,_,rfl,hc _ _ a1,hc _ _ a2,(h8 i _ u hs hi).keep (fun b hb=>hlt b (h7 b hb).1) fun _ _=>rfl⟩
theorem VisV.on {w w':World} {v:Value} {ev:List Vis} (h:VisV w v ev) (hb:Below w.heap.size w w'):VisV w' v ev:=by
 obtain⟨a,c,e,h⟩:=h
 refine⟨a,c,e,fun i u hi=>?_⟩
 obtain⟨g,s,e,h1,h2,h3⟩:=h i u hi
 exact⟨g,s,e,(lt_cell hb h1).2,(lt_cell hb h2).2,h3.keep (fun b hb'=>Nat.lt_of_lt_of_le hb' hb.size) fun b hb'=>hb.block b hb'⟩
def VisPost (l:List FT) (fuel:Int) (zs:List Int) (w:World) (e:Ending) (w':World):Prop:=Below w.heap.size w w' ∧
 ((refN l fuel 0 []≠0∧e=.returned (.tuple #[.slice none 0 0,.int .i64 (refN l fuel 0 []:Nat)])) ∨
  (refN l fuel 0 []=0∧∃v,VisV w' v (zaR (l.map FT.rf) fuel.toNat zs).st.ev∧e=.returned (.tuple #[v,.int .i64 0])))
structure PlayedV (o:Out) (w:World) (Wb:Nat) (e:Ending) (w4:World):Prop where
 e:e=.returned (.int .i64 o.trapN)
 tr:∃a n c,w4.heap[Wb]?=some (.cells #[.slice a n c] 50 (0,0))∧VisV w4 (.slice a n c) o.st.ev
 below:Below w.heap.size w w4
section
variable {w:World} {fa aa:Option Addr} {fc an ac:Nat} {l:List FT} {zs:List Int} {fuel:Int}
theorem vis_play {fu:Nat} {w1 w3:World} (hP:RunsP l) (hin:FsIn w 0 fa l) (hz:RowIn .i64 w aa an zs) (hzl:zs.length=an) (hz64:∀z∈zs,in64 z) (hcap:an≤ac∧ac≤9223372036854775807) (hf:fu≤1048576)
  (hb:Below w.heap.size w w1) (hn:NewR (w1.alloc (.cells #[.slice none 0 0] 50)) w3 fa fc l (.slice aa an ac) fu 39 #[ptr w1.heap.size] l.length):
  Calls Tryz.prog 34 #[ptr (w1.heap.size+1+1)] w3 (PlayedV (zaR (l.map FT.rf) fu zs) w w1.heap.size):=by
 have hs1:=hb.size
 have hs2:(w1.alloc (.cells #[.slice none 0 0] 50)).heap.size=w1.heap.size+1:=by simp
 have hbn:=hn.below
 have hWb:w3.heap[w1.heap.size]?=some (.cells #[.slice none 0 0] 50 (0,0)):=(hbn.block _ (by omega)).trans (zah w1 _)
 obtain⟨ca,cc,hC,hM,hk⟩:=mi_new (w0:=w) (Wb:=w1.heap.size) (wt:=fun ev fp w=>VsR w1.heap.size ev fp w) hP hin (hb.alloc hs1 _) hn hf hz hzl hz64 hcap ⟨hs1,by omega⟩ (vs_nil hWb)
 rw[hs2] at hC hM hk
 have hlen:∃i,l.length=i+1:=⟨l.length - 1,by have:=List.length_pos_iff.2 hP.one;omega⟩
 obtain⟨i,hi⟩:=hlen
 have hpl:=play_any (C:=⟨fa,fc,l,ca,cc,fu,39,#[ptr w1.heap.size]⟩) (wat_vis ⟨rfl,rfl⟩) hC hM hi (g:=2*fu+1) (Nat.le_refl _)
 refine hpl.mono fun e w4 hq=>?_
 have hmo:=mainO_is hi fu zs
 have hq2:PlayQ ⟨fa,fc,l,ca,cc,fu,39,#[ptr w1.heap.size]⟩ (fun ev fp w=>VsR w1.heap.size ev fp w) (hide2 (w1.heap.size+1+1) w1.heap.size w3) (w1.heap.size+1+1) (·=w1.heap.size) w3 (zaR (l.map FT.rf) fu zs) e w4:=by rw[hmo];exact hq
 obtain⟨he,fp',hh,hnw,ho⟩:=hq2
 have hwt:VsR w1.heap.size (zaR (l.map FT.rf) fu zs).st.ev fp' w4:=hh.wat
 have hw3:w1.heap.size+1≤w3.heap.size:=by have:=hbn.size;omega
 have b1:Below w.heap.size w w3:=hb.trans ((((Below.refl _ _).alloc (Nat.le_refl _) _).trans (hbn.mono (by omega))).mono (by omega))
 exact⟨he,vis_of hwt,b1.trans ⟨ho.os,ho.tape,ho.output,ho.size,fun b hb=>ho.block b (by omega) (by show ¬(_∨_);omega)⟩⟩
theorem visits_any (hP:refN l fuel 0 []=0→RunsP l) (hin:FsIn w 0 fa l) (hsm:Small l) (hz:RowIn .i64 w aa an zs) (hzl:zs.length=an) (hz64:∀z∈zs,in64 z) (hcap:an≤ac∧ac≤9223372036854775807):
  Calls Tryz.prog 16 #[.agg #[.slice fa l.length fc],.slice aa an ac,.int .i64 fuel] w (VisPost l fuel zs w):=by
 have HRF:Hid (∀W,Past w W→Calls Tryz.prog 30 #[.agg #[.slice fa l.length fc],.int .i64 fuel,.int .i64 0,.slice none 0 0] W fun e w'=>e=.returned (.int .i64 (refN l fuel 0 []:Nat))∧Below W.heap.size W w'):=hid fun W hW=>zeD (L:=[]) hin hsm (by decide) (by decide) (fun i h=>absurd h (by simp)) W hW
 by_cases hr:refN l fuel 0 []=0
 ·have hfu:=ref_fuel hr
  obtain⟨fu,rfl⟩:=Int.eq_ofNat_of_zero_le hfu.1
  have hR:=hP hr
  have HNM:=hid (fun W (hW:Past w W) (g:Nat) (caps:Array Value)=>zef (fc:=fc) (aa:=aa) (an:=an) (ac:=ac) (fuel:=fu) (g:=g) (caps:=caps) hin hR.many (fun F hF=>by have:=(hR.sts F hF).1;omega) W hW)
  have HPL:Hid (∀w1 w3:World,Below w.heap.size w w1→NewR (w1.alloc (.cells #[.slice none 0 0] 50)) w3 fa fc l (.slice aa an ac) fu 39 #[ptr w1.heap.size] l.length→Calls Tryz.prog 34 #[ptr (w1.heap.size+1+1)] w3 (PlayedV (zaR (l.map FT.rf) fu zs) w w1.heap.size)):=hid fun w1 w3 h1 h2=>vis_play hR hin hz hzl hz64 hcap (by omega) h1 h2
  have HRP:Hid (∀(v:Value) (w5:World),VisV w5 v (zaR (l.map FT.rf) fu zs).st.ev→Below w.heap.size w w5→VisPost l (fu:Int) zs w (.returned (.tuple #[v,.int .i64 0])) w5):=hid fun v w5 h1 h2=>⟨h2,.inr ⟨hr,v,h1,rfl⟩⟩
  rw[hr] at HRF
  clear hP hin hsm hz hzl hz64 hcap hr hfu hR
  generalize zaR (l.map FT.rf) fu zs=mo at HPL HRP
  go_enter Tryz.func16,Tryz.ntmps16
  go_wp2_with (first
   | (go_at_call 34;have hx:=HPL.out _ _ HB1.out HN3.out;(with_reducible refine hx.mono ?_);clear hx;rintro e w4 ⟨rfl,⟨ta,tn,tc,htr,htv⟩,hbl⟩;have x0:=zab (k:=0) htr rfl;have xl:=lt_of_block htr;have HTV:=hid htv;have HB:=hid hbl;clear htr htv hbl)
   | (go_at_call 31;(with_reducible refine(HNM.out _ (HB1.out.alloc _) _ _).mono ?_);rintro e w3 ⟨rfl,hn⟩;have HN3:=hid hn;clear hn)
   | (go_at_call 30;(with_reducible refine(HRF.out _ ((Past.refl _).alloc _)).mono ?_);rintro e w1 ⟨rfl,hb⟩;have r0:=(hb.block (w.heap.size) (by simp)).trans (zah w (.cells #[.slice fa l.length fc] 24));have c0:=zab (k:=0) r0 rfl;have cl:=lt_of_block r0;have HB1:Hid (Past w w1):=hid (zae ((Past.refl _).alloc _) hb);clear r0 hb))
  go_ret2
  exact HRP.out _ _ HTV.out HB.out
 ·have e0:((refN l fuel 0 []:Int) != 0)=true:=by rw[bne_iff_ne];omega
  have HRP:Hid (∀w5:World,Below w.heap.size w w5→VisPost l fuel zs w (.returned (.tuple #[.slice none 0 0,.int .i64 (refN l fuel 0 []:Nat)])) w5):=hid fun w5 h2=>⟨h2,.inl ⟨hr,rfl⟩⟩
  generalize refN l fuel 0 []=rn at HRF e0 HRP
  clear hP hin hsm hz hzl hz64 hcap hr
  go_enter Tryz.func16,Tryz.ntmps16
  go_wp2_with (go_at_call 30;(with_reducible refine(HRF.out _ ((Past.refl _).alloc _)).mono ?_);rintro e w1 ⟨rfl,hb⟩;have HB:=hid (zae ((Past.refl _).alloc _) hb);clear hb)
  go_ret2
  exact HRP.out _ HB.out
end
end Go.Proofs.YtbilfdapmbahgaaGreatDoor.Rn

namespace Go.Proofs.YtbilfdapmbahgaaGreatDoor.Rn
open Go Go.RowKit Go.Proofs.YtbilfdapmbahgaaGreatDoor Go.Proofs.YtbilfdapmbahgaaGreatDoor.Ev
open Go.Proofs.YtbilfdapmbahgaaGreatDoor.Ck (chkF critF Small StrsIn pOf mOf progR critR ze2 chk_rf crit_rf zdi zbx)
structure PRin (w:World) (a:Option Addr) (l:List FT):Prop where
 rf:l.map FT.rf=pR
 right:l.all FT.rightB=true
 fs:FsIn w 0 a l
theorem PRin.two {w:World} {a:Option Addr} {l:List FT} (h:PRin w a l):l.length=2:=by
 have:=congrArg List.length h.rf
 rw[List.length_map,lenR] at this
 exact this
section
variable {w0 W:World} {a aa va:Option Addr} {c an ac vc:Nat} {l:List FT} {zs:List Int} {fuel tag:Int} {vars:List ByteArray}
theorem run_pR (h:PRin w0 a l) (hW:Past w0 W) (ht:-9223372036854775808≤tag∧tag≤9223372036854775807) (hl:vars.length≤1000) (hL:StrsIn W 0 va vars) (hvm:∀s∈vars,s.size≤maxLen) (hz:RowIn .i64 W aa an zs) (hzl:zs.length=an) (hz64:∀z∈zs,in64 z) (hcap:an≤ac∧ac≤9223372036854775807):
  Calls Tryz.prog 12 #[.agg #[.slice a 2 c],.slice aa an ac,.int .i64 fuel,.int .i64 tag,.slice va vars.length vc] W fun e w'=>Below W.heap.size W w' ∧
   ((refR pR fuel tag (vars.map fun s=>s.data.toList)≠0∧e=.returned (.tuple #[.agg #[.int .i64 0,.int .i64 0,.int .i64 0,.slice none 0 0],.int .i64 (refR pR fuel tag (vars.map fun s=>s.data.toList):Nat)])) ∨
    (refR pR fuel tag (vars.map fun s=>s.data.toList)=0∧∃v,RowsV w' v (zdm tag vars (zaR pR fuel.toNat zs).st.ev)∧e=.returned (.tuple #[.agg #[.int .i64 (zaR pR fuel.toNat zs).trapN,.int .i64 ((fuel.toNat - (zaR pR fuel.toNat zs).st.left:Nat):Int),.int .i64 (ze7 (zaR pR fuel.toNat zs)),v],.int .i64 0]))):=by
 have hx:=run_any (w:=W) (fa:=a) (aa:=aa) (va:=va) (fc:=c) (an:=an) (ac:=ac) (vc:=vc) (l:=l) (zs:=zs) (fuel:=fuel) (tag:=tag) (vars:=vars) (fun _=>runs_rf h.right (by rw[h.rf];exact rnR)) (h.fs.on hW) (zdi h.right (by rw[h.rf];exact smR)) ht hl hL hvm hz hzl hz64 hcap
 rw[h.two] at hx
 refine hx.mono fun e w' hq=>?_
 unfold RunPost at hq
 rw[ref_rf h.right,h.rf] at hq
 exact hq
theorem vis_pR (h:PRin w0 a l) (hW:Past w0 W) (hz:RowIn .i64 W aa an zs) (hzl:zs.length=an) (hz64:∀z∈zs,in64 z) (hcap:an≤ac∧ac≤9223372036854775807):
  Calls Tryz.prog 16 #[.agg #[.slice a 2 c],.slice aa an ac,.int .i64 fuel] W fun e w'=>Below W.heap.size W w' ∧
   ((refR pR fuel 0 []≠0∧e=.returned (.tuple #[.slice none 0 0,.int .i64 (refR pR fuel 0 []:Nat)])) ∨
    (refR pR fuel 0 []=0∧∃v,VisV w' v (zaR pR fuel.toNat zs).st.ev∧e=.returned (.tuple #[v,.int .i64 0]))):=by
 have hx:=visits_any (w:=W) (fa:=a) (aa:=aa) (fc:=c) (an:=an) (ac:=ac) (l:=l) (zs:=zs) (fuel:=fuel) (fun _=>runs_rf h.right (by rw[h.rf];exact rnR)) (h.fs.on hW) (zdi h.right (by rw[h.rf];exact smR)) hz hzl hz64 hcap
 rw[h.two] at hx
 refine hx.mono fun e w' hq=>?_
 unfold VisPost at hq
 rw[ref_rf h.right,h.rf] at hq
 exact hq
end
theorem row1_of {W:World} {b:Nat} {z:Int} (h:W.heap[b]?=some (.cells #[.int .i64 z] 2 (0,0))) (hz:in64 z):RowIn .i64 W (some ⟨b,0,none⟩) 1 [z]:=
 ⟨by decide,fun _=>⟨b,0,rfl,lt_of_block h,fun i hi=>by
  obtain rfl:i=0:=by omega
  exact⟨zab h rfl,WalkArith.wf_i64 hz⟩⟩⟩
theorem str2_of {W:World} {b:Nat} {s t:ByteArray} (h:W.heap[b]?=some (.cells #[.string s,.string t] 9 (0,0))):StrsIn W 0 (some ⟨b,0,none⟩) [s,t]:=fun i hi=>⟨b,0,rfl,Nat.zero_le _,by
 match i,hi with
 | 0,_=>exact zab h rfl
 | 1,_=>exact zab h rfl
 | i+2,hi=>exact absurd hi (by simp)⟩
theorem strs_none {W:World}:StrsIn W 0 none []:=fun i hi=>absurd hi (by simp)
section
variable {w0:World} {a:Option Addr} {c:Nat} {l:List FT}
abbrev sX:ByteArray:={data:=#[120]}
abbrev sY:ByteArray:={data:=#[121]}
structure ExR (w0:World) (a:Option Addr) (c:Nat):Prop where
 r1:∀(W:World) (bi bv:Nat),Past w0 W→W.heap[bi]?=some (.cells #[.int .i64 3] 2 (0,0))→W.heap[bv]?=some (.cells #[.string sX,.string sY] 9 (0,0)) →
  Calls Tryz.prog 12 #[.agg #[.slice a 2 c],.slice (some ⟨bi,0,none⟩) 1 1,.int .i64 1000,.int .i64 1,.slice (some ⟨bv,0,none⟩) 2 2] W fun e w'=>(∃st g b tc,e=.returned (.tuple #[.agg #[.int .i64 1,.int .i64 st,.int .i64 5,.slice (some ⟨g,0,none⟩) 1 tc],.int .i64 0])∧(1≤tc∧tc≤maxLen)∧w'.cell? ⟨g,0,none⟩=some (.slice (some ⟨b,0,none⟩) 2 2)∧w'.cell? ⟨b,1,none⟩=some (.int .i64 6)∧RowsAt w' (some ⟨g,0,none⟩) [[3,6]])∧Below W.heap.size W w'
 r2:∀(W:World) (bi:Nat),Past w0 W→W.heap[bi]?=some (.cells #[.int .i64 3] 2 (0,0)) →
  Calls Tryz.prog 12 #[.agg #[.slice a 2 c],.slice (some ⟨bi,0,none⟩) 1 1,.int .i64 5,.int .i64 0,.slice none 0 0] W fun e w'=>(∃ga gn gc,e=.returned (.tuple #[.agg #[.int .i64 6,.int .i64 5,.int .i64 1,.slice ga gn gc],.int .i64 0]))∧Below W.heap.size W w'
 r3:∀(W:World),Past w0 W →
  Calls Tryz.prog 12 #[.agg #[.slice a 2 c],.slice none 0 0,.int .i64 (-1),.int .i64 0,.slice none 0 0] W fun e w'=>e=.returned (.tuple #[.agg #[.int .i64 0,.int .i64 0,.int .i64 0,.slice none 0 0],.int .i64 1])∧Below W.heap.size W w'
 r4:∀(W:World),Past w0 W →
  Calls Tryz.prog 12 #[.agg #[.slice a 2 c],.slice none 0 0,.int .i64 5,.int .i64 9,.slice none 0 0] W fun e w'=>e=.returned (.tuple #[.agg #[.int .i64 0,.int .i64 0,.int .i64 0,.slice none 0 0],.int .i64 9])∧Below W.heap.size W w'
 v:∀(W:World) (bi:Nat),Past w0 W→W.heap[bi]?=some (.cells #[.int .i64 1] 2 (0,0)) →
  Calls Tryz.prog 16 #[.agg #[.slice a 2 c],.slice (some ⟨bi,0,none⟩) 1 1,.int .i64 1000] W fun e w'=>(∃g g2 g3 tc c2 c3,e=.returned (.tuple #[.slice (some ⟨g,0,none⟩) 6 tc,.int .i64 0])∧w'.cell? ⟨g,4,none⟩=some (.int .i64 2)∧w'.cell? ⟨g,5,none⟩=some (.slice (some ⟨g2,0,none⟩) 2 c2)∧w'.cell? ⟨g2,5,none⟩=some (.slice (some ⟨g3,0,none⟩) 1 c3)∧w'.cell? ⟨g3,0,none⟩=some (.int .i64 1))∧Below W.heap.size W w'
theorem ex_r (h:PRin w0 a l):ExR w0 a c:=by
 refine⟨fun W bi bv hW hi hv=>?_,fun W bi hW hi=>?_,fun W hW=>?_,fun W hW=>?_,fun W bi hW hi=>?_⟩
 ·refine(run_pR (vars:=[sX,sY]) (zs:=[3]) h hW (by decide) (by decide) (str2_of hv) (fun s hs=>by simp at hs;rcases hs with rfl | rfl<;>decide) (row1_of hi (by decide)) rfl (fun z hz=>by simp at hz;subst hz;decide) (by decide)).mono ?_
  rintro e w' ⟨hb,⟨hr,-⟩ | ⟨-,v,hv,rfl⟩⟩
  ·exact absurd rf1 hr
  ·have ho:=o1
   have e1:(zaR pR (1000:Int).toNat [3])=zaR pR 1000 [3]:=rfl
   rw[e1] at hv ⊢
   simp only[Prod.mk.injEq] at ho
   obtain⟨h1,h2,h3⟩:=ho
   rw[h3] at hv
   obtain⟨ra,rc,e2,hcc,hat⟩:=rowsAt_of hv (n:=2) (by simp) (by decide)
   obtain⟨a',c',e3,hcap,hrow⟩:=hv
   obtain⟨g,b,e4,q1,q2⟩:=hrow 0 [3,6] rfl
   subst e3
   simp only[Value.slice.injEq] at e2
   obtain⟨rfl,-,rfl⟩:=e2
   subst e4
   rw[h1,h2]
   exact⟨⟨_,g,b,_,rfl,hcap,q1,zab q2 rfl,hat⟩,hb⟩
 ·refine(run_pR (vars:=[]) (zs:=[3]) h hW (by decide) (by decide) strs_none (fun s hs=>by cases hs) (row1_of hi (by decide)) rfl (fun z hz=>by simp at hz;subst hz;decide) (by decide)).mono ?_
  rintro e w' ⟨hb,⟨hr,-⟩ | ⟨-,v,hv,rfl⟩⟩
  ·exact absurd rf2 hr
  ·have ho:=o2
   have e1:(zaR pR (5:Int).toNat [3])=zaR pR 5 [3]:=rfl
   rw[e1] at hv ⊢
   simp only[Prod.mk.injEq] at ho
   obtain⟨h1,h2,h3⟩:=ho
   obtain⟨a',c',e3,-⟩:=hv
   rw[h1,h2,h3,e3]
   exact⟨⟨_,_,_,rfl⟩,hb⟩
 ·refine(run_pR (vars:=[]) (zs:=[]) h hW (by decide) (by decide) strs_none (fun s hs=>by cases hs) rowIn_none rfl (fun z hz=>by cases hz) (by decide)).mono ?_
  rintro e w' ⟨hb,⟨hr,rfl⟩ | ⟨hr,-⟩⟩
  ·have e1:refR pR (-1) 0 (([]:List ByteArray).map fun s=>s.data.toList)=1:=rf3
   rw[e1]
   exact⟨rfl,hb⟩
  ·exact absurd hr (by rw[show refR pR (-1) 0 (([]:List ByteArray).map fun s=>s.data.toList)=1 from rf3];decide)
 ·refine(run_pR (vars:=[]) (zs:=[]) h hW (by decide) (by decide) strs_none (fun s hs=>by cases hs) rowIn_none rfl (fun z hz=>by cases hz) (by decide)).mono ?_
  rintro e w' ⟨hb,⟨hr,rfl⟩ | ⟨hr,-⟩⟩
  ·have e1:refR pR 5 9 (([]:List ByteArray).map fun s=>s.data.toList)=9:=rf4
   rw[e1]
   exact⟨rfl,hb⟩
  ·exact absurd hr (by rw[show refR pR 5 9 (([]:List ByteArray).map fun s=>s.data.toList)=9 from rf4];decide)
 ·refine(vis_pR (zs:=[1]) h hW (row1_of hi (by decide)) rfl (fun z hz=>by simp at hz;subst hz;decide) (by decide)).mono ?_
  rintro e w' ⟨hb,⟨hr,-⟩ | ⟨-,v,hv,rfl⟩⟩
  ·exact absurd rf5 hr
  ·obtain⟨h1,h2⟩:=o3
   have e1:(zaR pR (1000:Int).toNat [1])=zaR pR 1000 [1]:=rfl
   rw[e1] at hv
   obtain⟨va,vc,rfl,hv⟩:=hv
   rw[h1]
   cases hu:(zaR pR 1000 [1]).st.ev[2]? with
   | none=>rw[hu] at h2;cases h2
   | some u =>
    rw[hu] at h2
    simp only[Option.map_some,Option.some.injEq,Prod.mk.injEq] at h2
    obtain⟨n2,c2⟩:=h2
    obtain⟨g,s,rfl,q1,q2,ca,cc,rfl,hc⟩:=hv 2 u hu
    have hlen:u.cells.length=2:=by have:=congrArg List.length c2;simpa using this
    cases hp:u.cells[1]? with
    | none=>rw[List.getElem?_eq_none_iff] at hp;omega
    | some pc =>
     have hpv:pc.v=[1]:=by
      have:=congrArg (fun x:List (List Int)=>x[1]?) c2
      simp only[List.getElem?_map,hp,Option.map_some] at this
      simpa using this
     obtain⟨g2,u2,rfl,-,-,-,q3,na,nc,rfl,hn⟩:=hc 1 pc hp
     obtain⟨g3,rfl,-,q4⟩:=hn 0 1 (by rw[hpv];rfl)
     rw[n2] at q1
     rw[hlen] at q2
     rw[hpv] at q3
     exact⟨⟨g,g2,g3,_,_,_,rfl,q1,q2,q3,q4⟩,hb⟩
end
end Go.Proofs.YtbilfdapmbahgaaGreatDoor.Rn

namespace Go.Proofs.YtbilfdapmbahgaaGreatDoor.Rn
open Go Go.RowKit Go.Proofs.YtbilfdapmbahgaaGreatDoor Go.Proofs.YtbilfdapmbahgaaGreatDoor.Ev
open Go.Lib (hid)
open Go.Proofs.YtbilfdapmbahgaaGreatDoor.Pm (zc0 Wo)
open Go.Lib (hid)
open Go.Proofs.YtbilfdapmbahgaaGreatDoor.Ck (pOf mOf zdf bal bre nb ob bl zbB PBox)
open Go.Lib (hid)
theorem rows_none {w:World}:RowsAt w none []:=fun i h=>absurd h (by simp)
theorem RowsAt.on {w w':World} {a:Option Addr} {l:List (List Int)} (h:RowsAt w a l) (hp:Past w w'):RowsAt w' a l:=by
 intro i hi
 obtain⟨b,o,ra,rc,e,hc,hl,hn⟩:=h i hi
 exact⟨b,o,ra,rc,e,zan hp (B:=0) _ _ (Nat.zero_le _) hc,hl,hn.on hp⟩
abbrev R36 (w:World) (b:Nat) (t s p:Int) (v:Value):Prop:=w.heap[b]?=some (.cells #[.int .i64 t,.int .i64 s,.int .i64 p,v] 36 (0,0))
structure ExS (w0:World) (g tc:Nat) (st:Int):Prop where
 same:∀W,Past w0 W→Calls Tryz.prog 23 #[.agg #[.int .i64 1,.int .i64 st,.int .i64 5,.slice (some ⟨g,0,none⟩) 1 tc],.agg #[.int .i64 1,.int .i64 st,.int .i64 5,.slice (some ⟨g,0,none⟩) 1 tc]] W fun e w'=>e=.returned (.bool true)∧Below W.heap.size W w'
 b1:∀W,Past w0 W→Calls Tryz.prog 25 #[.slice none 0 0,.slice (some ⟨g,0,none⟩) 1 tc] W fun e w'=>e=.returned (.bool true)∧Below W.heap.size W w'
 b2:∀W,Past w0 W→Calls Tryz.prog 25 #[.slice (some ⟨g,0,none⟩) 1 tc,.slice none 0 0] W fun e w'=>e=.returned (.bool false)∧Below W.heap.size W w'
theorem ex_s {w0:World} {g tc:Nat} (st:Int) (h:RowsAt w0 (some ⟨g,0,none⟩) [[3,6]]) (hc:1≤tc∧tc≤maxLen):ExS w0 g tc st:=by
 have hm:maxLen≤9223372036854775807:=by unfold maxLen;omega
 refine⟨fun W hW=>?_,fun W hW=>?_,fun W hW=>?_⟩
 ·have hx:=same_any (some ⟨g,0,none⟩) (some ⟨g,0,none⟩) tc tc ⟨1,st,5,[[3,6]]⟩ ⟨1,st,5,[[3,6]]⟩ (by show 1≤9223372036854775807;decide) (by show 1≤9223372036854775807;decide) h h W hW
  rw[decide_eq_true rfl] at hx
  exact hx
 ·have hx:=zc4 none (some ⟨g,0,none⟩) 0 tc [] [[3,6]] (by decide) (by decide) hc.1 (by omega) rows_none h W hW
  exact hx
 ·have hx:=zc4 (some ⟨g,0,none⟩) none tc 0 [[3,6]] [] (by decide) (by decide) (by decide) (by decide) h rows_none W hW
  exact hx
theorem ex_any {w:World} (H:Wo w):Calls Tryz.prog 10 #[] w fun e w'=>e=.returned (.bool true)∧Below w.heap.size w w':=by
 have HO:=hid H
 clear H
 go_enter Tryz.func10,Tryz.ntmps10
 go_upto_region 3 with (first
  | (go_at_call 12;(refine(HX.out.r1 _ _ _ (((Past.refl _).alloc _).alloc _ |>.alloc _) (ob _ (nb _ (by simp))) (nb _ (by simp))).mono ?_);(rintro e w2 ⟨⟨st,g,b,tc,rfl,hc,x1,x2,hr⟩,hb⟩);have HA2:=hid (And.intro hc (And.intro x1 (And.intro x2 hr)));have HB2:=hid hb;clear hc x1 x2 hr hb)
  | (go_at_call 28;(refine(zdf HO.out _ (t:=tR) (by rfl) (by decide) evR).mono ?_);(rintro e w1 ⟨hb1,a,c,l,rfl,h1,h2,h3⟩);have hpr:PRin w1 a l:=⟨h1,h2,h3⟩;rw[hpr.two];have HX:=hid (ex_r (c:=c) hpr);have HB1:=hid hb1;clear hpr h1 h2 h3 hb1))
 have hb2:=HB2.out
 have h12:Past w1 w2:=(((Past.refl _).alloc _).alloc _ |>.alloc _).on hb2
 have hX2:PBox w2 w1.heap.size a 2 c:=bl hb2 (ob _ (ob _ (nb _ rfl)))
 have HF:Hid (Past w1 (w2.alloc (.cells #[.int .i64 1,.int .i64 st,.int .i64 5,.slice (some ⟨g,0,none⟩) 1 tc] 36))∧Past w (w2.alloc (.cells #[.int .i64 1,.int .i64 st,.int .i64 5,.slice (some ⟨g,0,none⟩) 1 tc] 36))∧PBox (w2.alloc (.cells #[.int .i64 1,.int .i64 st,.int .i64 5,.slice (some ⟨g,0,none⟩) 1 tc] 36)) w1.heap.size a 2 c∧R36 (w2.alloc (.cells #[.int .i64 1,.int .i64 st,.int .i64 5,.slice (some ⟨g,0,none⟩) 1 tc] 36)) w2.heap.size 1 st 5 (.slice (some ⟨g,0,none⟩) 1 tc) ∧
   (w2.alloc (.cells #[.int .i64 1,.int .i64 st,.int .i64 5,.slice (some ⟨g,0,none⟩) 1 tc] 36)).cell? ⟨g,0,none⟩=some (.slice (some ⟨b,0,none⟩) 2 2)∧(w2.alloc (.cells #[.int .i64 1,.int .i64 st,.int .i64 5,.slice (some ⟨g,0,none⟩) 1 tc] 36)).cell? ⟨b,1,none⟩=some (.int .i64 6)∧ExS (w2.alloc (.cells #[.int .i64 1,.int .i64 st,.int .i64 5,.slice (some ⟨g,0,none⟩) 1 tc] 36)) g tc st):=hid (by
  have hA:Past w2 (w2.alloc (.cells #[.int .i64 1,.int .i64 st,.int .i64 5,.slice (some ⟨g,0,none⟩) 1 tc] 36)):=(Past.refl _).alloc _
  obtain⟨hc,x1,x2,hr⟩:=HA2.out
  exact⟨zae h12 hA,zae (zae HB1.out h12) hA,ob _ hX2,nb _ rfl,zan hA (B:=0) _ _ (Nat.zero_le _) x1,zan hA (B:=0) _ _ (Nat.zero_le _) x2,ex_s st (hr.on hA) hc⟩)
 clear hb2 h12 hX2 HA2 HB2 HB1
 generalize w2.alloc (.cells #[.int .i64 1,.int .i64 st,.int .i64 5,.slice (some ⟨g,0,none⟩) 1 tc] 36)=wA at HF ⊢
 generalize w1.heap.size=P at HF ⊢
 generalize w2.heap.size=Q at HF ⊢
 have HC:Hid (∀W,Past wA W→W.cell? ⟨P,0,none⟩=some (.slice a 2 c)∧P < W.heap.size∧W.cell? ⟨Q,0,none⟩=some (.int .i64 1)∧W.cell? ⟨Q,1,none⟩=some (.int .i64 st)∧W.cell? ⟨Q,2,none⟩=some (.int .i64 5)∧W.cell? ⟨Q,3,none⟩=some (.slice (some ⟨g,0,none⟩) 1 tc)∧Q < W.heap.size∧W.cell? ⟨g,0,none⟩=some (.slice (some ⟨b,0,none⟩) 2 2)∧W.cell? ⟨b,1,none⟩=some (.int .i64 6)∧g < W.heap.size∧b < W.heap.size):=hid (fun W hW=>by
  obtain⟨-,-,h1,h2,h3,h4,-⟩:=HF.out
  have g1:=bl hW h1
  have g2:=bl hW h2
  have g3:=zan hW (B:=0) _ _ (Nat.zero_le _) h3
  have g4:=zan hW (B:=0) _ _ (Nat.zero_le _) h4
  exact⟨zab (k:=0) g1 rfl,zbB g1,zab (k:=0) g2 rfl,zab (k:=1) g2 rfl,zab (k:=2) g2 rfl,zab (k:=3) g2 rfl,zbB g2,g3,g4,World.block_lt_of_cell? _ _ g3,World.block_lt_of_cell? _ _ g4⟩)
 have HP:Hid (∀W,Past wA W→Past w1 W):=hid fun W hW=>zae HF.out.1 hW
 have HPW:Hid (∀W,Past wA W→Past w W):=hid fun W hW=>zae HF.out.2.1 hW
 have HS:Hid (ExS wA g tc st):=hid HF.out.2.2.2.2.2.2
 clear HF HO
 obtain⟨p0,pl,r0,r1,r2,r3,rl,t0,t1,gl,tl⟩:=HC.out _ (Past.refl wA)
 go_wp2_with (first
  | (go_at_call 25;(refine(HS.out.b2 _ HP8.out).mono ?_);(rintro e w9 ⟨rfl,hb⟩);have HP9:=hid (HP8.out.on hb);clear hb)
  | (go_at_call 25;(refine(HS.out.b1 _ HP7.out).mono ?_);(rintro e w8 ⟨rfl,hb⟩);have HP8:Hid (Past wA w8):=hid (HP7.out.on hb);clear hb;clear p0 pl r0 r1 r2 r3 rl t0 t1 gl tl;obtain⟨p0,pl,r0,r1,r2,r3,rl,t0,t1,gl,tl⟩:=HC.out _ HP8.out)
  | (go_at_call 23;(refine(HS.out.same _ HP6.out).mono ?_);(rintro e w7 ⟨rfl,hb⟩);have HP7:Hid (Past wA w7):=hid (HP6.out.on hb);clear hb;clear p0 pl r0 r1 r2 r3 rl t0 t1 gl tl;obtain⟨p0,pl,r0,r1,r2,r3,rl,t0,t1,gl,tl⟩:=HC.out _ HP7.out)
  | (go_at_call 16;(refine(HX.out.v _ _ (HP.out _ (HP5.out.alloc _ |>.alloc _)) (nb _ (by simp))).mono ?_);(rintro e w6 ⟨⟨vg,vg2,vg3,vtc,vc2,vc3,rfl,x1,x2,x3,x4⟩,hb⟩);have HP6:Hid (Past wA w6):=hid ((HP5.out.alloc _ |>.alloc _).on hb);have hq:=bl hb (ob _ (ob _ HQ5.out));have q0:=zab (k:=0) hq rfl;have q1:=zab (k:=1) hq rfl;have q2:=zab (k:=2) hq rfl;have ql:=zbB hq;have xl1:=World.block_lt_of_cell? _ _ x1;have xl2:=World.block_lt_of_cell? _ _ x3;have xl3:=World.block_lt_of_cell? _ _ x4;clear hb hq;clear p0 pl r0 r1 r2 r3 rl t0 t1 gl tl;obtain⟨p0,pl,r0,r1,r2,r3,rl,t0,t1,gl,tl⟩:=HC.out _ HP6.out)
  | (go_at_call 12;(refine(HX.out.r4 _ (HP.out _ (HP4.out.alloc _))).mono ?_);(rintro e w5 ⟨rfl,hb⟩);have HP5:Hid (Past wA w5):=hid ((HP4.out.alloc _).on hb);have HQ5:=hid (bl hb (ob _ HQ4.out));clear hb;clear p0 pl r0 r1 r2 r3 rl t0 t1 gl tl;obtain⟨p0,pl,r0,r1,r2,r3,rl,t0,t1,gl,tl⟩:=HC.out _ HP5.out)
  | (go_at_call 12;(refine(HX.out.r3 _ (HP.out _ (HP3.out.alloc _))).mono ?_);(rintro e w4 ⟨rfl,hb⟩);have HP4:Hid (Past wA w4):=hid ((HP3.out.alloc _).on hb);have HQ4:Hid (R36 w4 w3.heap.size 6 5 1 (.slice qa qn qc)):=hid (bl hb (nb _ rfl));clear hb;clear p0 pl r0 r1 r2 r3 rl t0 t1 gl tl;obtain⟨p0,pl,r0,r1,r2,r3,rl,t0,t1,gl,tl⟩:=HC.out _ HP4.out)
  | (go_at_call 12;(refine(HX.out.r2 _ _ (HP.out _ ((Past.refl wA).alloc _)) (nb _ rfl)).mono ?_);(rintro e w3 ⟨⟨qa,qn,qc,rfl⟩,hb⟩);have HP3:Hid (Past wA w3):=hid (((Past.refl wA).alloc _).on hb);clear hb;clear p0 pl r0 r1 r2 r3 rl t0 t1 gl tl;obtain⟨p0,pl,r0,r1,r2,r3,rl,t0,t1,gl,tl⟩:=HC.out _ HP3.out))
 go_ret
 exact⟨rfl,HPW.out _ HP9.out⟩
end Go.Proofs.YtbilfdapmbahgaaGreatDoor.Rn
