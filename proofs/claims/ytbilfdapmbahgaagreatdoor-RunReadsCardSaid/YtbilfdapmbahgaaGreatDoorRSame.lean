/- Two rows of numbers compared; two traces compared; one trace begun by another. -/
import Derived.Test.YtbilfdapmbahgaaGreatDoorRNew
import Derived.Test.YtbilfdapmbahgaaGreatDoorRVis
import Derived.Test.YtbilfdapmbahgaaGreatDoorECells
import Derived.Test.YtbilfdapmbahgaaGreatDoorEPlace
import Derived.Test.YtbilfdapmbahgaaGreatDoorTRight2
import Derived.Deep.QuietTactic
import Derived.BigQuiet
import Derived.Deep.RegionWith
import Derived.BigRegion
import Derived.Lib.AppendIntMem
import Derived.Deep.DeepCutAuto
set_option linter.unusedSimpArgs false
set_option linter.unusedVariables false
set_option maxHeartbeats 8000000
set_option maxRecDepth 100000
namespace Go.Proofs.YtbilfdapmbahgaaGreatDoor.Rn
open Go Go.RowKit Go.Proofs.YtbilfdapmbahgaaGreatDoor Go.Proofs.YtbilfdapmbahgaaGreatDoor.Ev
open Go.Proofs.YtbilfdapmbahgaaGreatDoor.Pm (Kd MadeG RowsG)
def callsB (l:List FT):Bool:=l.all fun F=>okCs (fun nm n=>decide (Ck.zbx (l.map FT.rf) nm < l.length∧n≤64)) (rss F.body)
structure RunsP (l:List FT):Prop where
 many:l.length≤1000
 one:l≠[]
 right:∀F∈l,F.rightB=true
 sts:∀F∈l,cnts F.body≤1000∧F.params.length≤1000∧F.vars.length≤1000
 calls:callsB l=true
def zaR (l:List RF) (fuel:Nat) (zs:List Int):Out:=match l.getLast? with
 | some F=>runG l (2*fuel+1) 1 (.seq 0 F.body) ⟨newR F [],0⟩ ⟨fuel,0,zs,[]⟩
 | none=>.trap 7 ⟨fuel,0,zs,[]⟩
def hide2 (Mb Wb:Nat) (w:World):World:=hide (some Mb) (hide (some Wb) w)
theorem zc3 {Mb Wb:Nat} {w:World} {p:Addr} {v:Value}:(hide2 Mb Wb w).cell? p=some v↔p.block≠Mb∧p.block≠Wb∧w.cell? p=some v:=by
 unfold hide2
 rw[zaG,zaG]
 simp
theorem hide2_size (Mb Wb:Nat) (w:World):(hide2 Mb Wb w).heap.size=w.heap.size:=by simp[hide2,hide]
theorem lt_cell {w w':World} {p:Addr} {v:Value} (hb:Below w.heap.size w w') (h:w.cell? p=some v):p.block < w.heap.size∧w'.cell? p=some v:=by
 have h1:=World.block_lt_of_cell? w p h
 exact⟨h1,by rw[World.cell?_of_block (w:=w) (hb.block _ h1)];exact h⟩
theorem mi_new {w0 w w':World} {fa aa:Option Addr} {fc an ac fuel g Wb:Nat} {l:List FT} {zs:List Int} {caps:Array Value} {wt:WtP} (hP:RunsP l) (hin:FsIn w0 0 fa l) (h0:Below w0.heap.size w0 w) (hN:NewR w w' fa fc l (.slice aa an ac) fuel g caps l.length) (hf:fuel≤1048576)
  (hz:RowIn .i64 w0 aa an zs) (hzl:zs.length=an) (hz64:∀z∈zs,in64 z) (hcap:an≤ac∧ac≤9223372036854775807) (hW:w0.heap.size≤Wb∧Wb < w.heap.size) (hwt:wt [] (·=Wb) w'):
  ∃(ca:Option Addr) (cc:Nat),CxIn ⟨fa,fc,l,ca,cc,fuel,g,caps⟩ (hide2 (w.heap.size+1) Wb w')∧MI ⟨fa,fc,l,ca,cc,fuel,g,caps⟩ wt (hide2 (w.heap.size+1) Wb w') (w.heap.size+1) (·=Wb) ⟨fuel,0,zs,[]⟩ w'∧∀p v,w0.cell? p=some v→(hide2 (w.heap.size+1) Wb w').cell? p=some v:=by
 obtain⟨hb,cv,items,hm,hmd,hit⟩:=hN
 have hrows:=hmd.rows
 obtain⟨ca,cc,rfl,hrw⟩:=hrows
 have hil:items.length=l.length:=by
  have:=congrArg List.length hit
  simpa using this
 rw[hil] at hm
 have h1:Below w0.heap.size w0 w':=h0.trans (hb.mono h0.size)
 have hs0:=h0.size
 have hk:∀p v,0≤p.block→w0.cell? p=some v→(hide2 (w.heap.size+1) Wb w').cell? p=some v:=fun p v _ hc=>by
  obtain⟨a,b⟩:=lt_cell h1 hc
  exact zc3.2 ⟨by omega,by omega,b⟩
 have hk2:∀p v,w.heap.size+2≤p.block→w'.cell? p=some v→(hide2 (w.heap.size+1) Wb w').cell? p=some v:=fun p v hp hc=>zc3.2 ⟨by omega,by omega,hc⟩
 refine⟨ca,cc,⟨hin.keep hk,hP.many,fun i h=>?_,hP.right,hP.sts,fun F hF=>?_,hf⟩,⟨⟨by rw[hide2_size];exact Nat.le_refl _,fun p v hp=>(zc3.1 hp).2.2⟩,fun p v hp=>⟨(zc3.1 hp).1,(zc3.1 hp).2.1⟩,lt_of_block hm,⟨Nat.le_refl _,Nat.zero_le _,.slice aa an ac,⟨aa,ac,by rw[hzl],by show zs.length≤ac;omega,hcap.2,hz64,fun i z hi=>?_⟩,?_⟩,fun e=>?_,hwt,by simp⟩,fun p v h=>hk p v (Nat.zero_le _) h⟩
 ·have h:i < l.length:=h
  obtain⟨r1,r2⟩:=hrw i (by omega)
  have e2:(items[i]'(by omega)).2=l[i].body:=by
   have h3:(items.map (·.2))[i]?=((l.take l.length).map FT.body)[i]?:=by rw[hit]
   rw[List.take_length,List.getElem?_map,List.getElem?_map,List.getElem?_eq_getElem (by omega),List.getElem?_eq_getElem h] at h3
   simpa using h3
  refine⟨some ⟨(items[i]'(by omega)).1,0,none⟩,l[i].body.length,?_,?_⟩
  ·have:=(r1.keep hk2).mono (Nat.zero_le _)
   rw[←e2]
   exact this
  ·have h5:NsIn w' (w.heap.size+2) (some ⟨(items[i]'(by omega)).1,0,none⟩) 0 0 (items[i]'(by omega)).2:=r2
   rw[e2] at h5
   exact h5.keep (Nat.zero_le _) hk2
 ·have:=hP.calls
  unfold callsB at this
  exact List.all_eq_true.1 this F hF
 ·have hlt:i < zs.length:=(List.getElem?_eq_some_iff.1 hi).1
  obtain⟨b,o,e,-,hc⟩:=hz.2 (by omega)
  have h3:=(hc i (by omega)).1
  rw[List.getD_eq_getElem?_getD,hi] at h3
  exact⟨b,o,e,hk _ _ (Nat.zero_le _) h3⟩
 ·rw[hm]
  simp
 ·have:w.heap.size+1=Wb:=e
  omega
theorem mainO_is {l:List FT} {i:Nat} (h:l.length=i+1) (fuel:Nat) (zs:List Int):zaR (l.map FT.rf) fuel zs=runG (l.map FT.rf) (2*fuel+1) 1 (.seq 0 (l[i]'(by omega)).rf.body) ⟨newR (l[i]'(by omega)).rf [],0⟩ ⟨fuel,0,zs,[]⟩:=by
 unfold zaR
 have e:(l.map FT.rf).getLast?=some (l[i]'(by omega)).rf:=by
  have h2:l[i]?=some (l[i]'(by omega)):=List.getElem?_eq_getElem (by omega)
  rw[List.getLast?_eq_getElem?,show(l.map FT.rf).length - 1=i by rw[List.length_map];omega,List.getElem?_map,h2]
  rfl
 rw[e]
end Go.Proofs.YtbilfdapmbahgaaGreatDoor.Rn

namespace Go.Proofs.YtbilfdapmbahgaaGreatDoor.Rn
open Go Go.RowKit Go.Proofs.YtbilfdapmbahgaaGreatDoor Go.Proofs.YtbilfdapmbahgaaGreatDoor.Ev
open Go.Lib (hid)
open Go.Proofs.YtbilfdapmbahgaaGreatDoor.Ck (chkF critF Small StrsIn)
open Go.Lib (hid)
def ze7 (o:Out):Int:=if o.trapN=0 then -1 else (o.st.at':Int)
theorem place_is {v0 v1 v2 v6:Value} {F k n Mb:Nat} {w:World} (hb:w.heap[Mb]?=some (mca v0 v1 v2 F k (.int .i64 (n:Nat)) v6)) (t:Int):
  Calls Tryz.prog 35 #[ptr Mb,.int .i64 t] w fun e w'=>e=.returned (.int .i64 (if t=0 then -1 else (n:Int)))∧w'=w:=by
 have c5:=zab (k:=5) hb rfl
 have ml:=lt_of_block hb
 clear hb
 by_cases h0:t=0
 ·subst h0
  rw[if_pos rfl]
  go_enter Tryz.func35,Tryz.ntmps35
  go_wp2
  go_ret
  exact⟨rfl,rfl⟩
 ·rw[if_neg h0]
  have e0:(t==0)=false:=by simpa using h0
  clear h0
  go_enter Tryz.func35,Tryz.ntmps35
  go_wp2
  go_ret
  exact⟨rfl,rfl⟩
theorem own_caps {w:World} {B n sz:Nat} {e:TypeId} {ao:Option Addr} {cap:Nat} {xs:List Value} (h:w.ownsRow B e sz (.slice ao n cap) n xs):n≤cap∧cap≤maxLen:=by
 rcases h.2 with ⟨e1,h0⟩ | ⟨g,cap',cur,e1,-,-,h1,h2,-⟩
 ·simp only[Value.slice.injEq] at e1
  obtain⟨-,-,rfl⟩:=e1
  exact⟨by omega,Nat.zero_le _⟩
 ·simp only[Value.slice.injEq] at e1
  obtain⟨-,-,rfl⟩:=e1
  exact⟨h1,h2⟩
def RowsV (w:World) (v:Value) (rows:List (List Int)):Prop:=∃a c,v=.slice a rows.length c∧(rows.length≤c∧c≤maxLen)∧∀i r,rows[i]?=some r→∃g b,a=some ⟨g,0,none⟩∧w.cell? ⟨g,i,none⟩=some (.slice (some ⟨b,0,none⟩) r.length r.length)∧w.heap[b]?=some (.cells (numV r) 2 (0,0))
theorem rows_of {Wb:Nat} {rows:List (List Int)} {fp:Nat→Prop} {w:World} (h:TrR Wb rows fp w):∃v,w.heap[Wb]?=some (.cells #[v] 34 (0,0))∧RowsV w v rows:=by
 obtain⟨-,-,v,bs,h3,h4,h5,-,h7⟩:=h
 obtain⟨a,c,rfl⟩:=zbn h5
 refine⟨_,h3,a,c,rfl,own_caps h5,fun i r hi=>?_⟩
 have hlt:=(List.getElem?_eq_some_iff.1 hi).1
 rcases zco h5 with ⟨rfl,-,h0,-⟩ | ⟨g,rfl,hg,hc⟩
 ·omega
 ·have hb:bs[i]?=some bs[i]:=List.getElem?_eq_getElem (by omega)
  obtain⟨-,-,-,h8⟩:=h7 i _ r hb hi
  exact⟨g,bs[i],rfl,hc i _ (by rw[List.getElem?_zipWith,hi,hb]),h8⟩
theorem RowsV.on {w w':World} {v:Value} {rows:List (List Int)} (h:RowsV w v rows) (hb:Below w.heap.size w w'):RowsV w' v rows:=by
 obtain⟨a,c,e,hcap,h⟩:=h
 refine⟨a,c,e,hcap,fun i r hi=>?_⟩
 obtain⟨g,b,e,h1,h2⟩:=h i r hi
 exact⟨g,b,e,(lt_cell hb h1).2,(hb.block _ (lt_of_block h2)).trans h2⟩
def RunPost (l:List FT) (fuel:Int) (tag:Int) (vars:List ByteArray) (zs:List Int) (w:World) (e:Ending) (w':World):Prop:=Below w.heap.size w w' ∧
 ((refN l fuel tag vars≠0∧e=.returned (.tuple #[.agg #[.int .i64 0,.int .i64 0,.int .i64 0,.slice none 0 0],.int .i64 (refN l fuel tag vars:Nat)])) ∨
  (refN l fuel tag vars=0∧∃v,RowsV w' v (zdm tag vars (zaR (l.map FT.rf) fuel.toNat zs).st.ev)∧e=.returned (.tuple #[.agg #[.int .i64 (zaR (l.map FT.rf) fuel.toNat zs).trapN,.int .i64 ((fuel.toNat - (zaR (l.map FT.rf) fuel.toNat zs).st.left:Nat):Int),.int .i64 (ze7 (zaR (l.map FT.rf) fuel.toNat zs)),v],.int .i64 0])))
section
variable {w:World} {fa aa va:Option Addr} {fc an ac vc:Nat} {l:List FT} {zs:List Int} {fuel tag:Int} {vars:List ByteArray}
theorem run_bad (hin:FsIn w 0 fa l) (hsm:Small l) (ht:-9223372036854775808≤tag∧tag≤9223372036854775807) (hl:vars.length≤1000) (hL:StrsIn w 0 va vars) (hr:refN l fuel tag vars≠0):
  Calls Tryz.prog 12 #[.agg #[.slice fa l.length fc],.slice aa an ac,.int .i64 fuel,.int .i64 tag,.slice va vars.length vc] w (RunPost l fuel tag vars zs w):=by
 have HRF:=hid (fun W (hW:Past w W)=>zeD (fuel:=fuel) (c:=fc) (vc:=vc) hin hsm ht (by omega) hL W hW)
 have e0:((refN l fuel tag vars:Int) != 0)=true:=by rw[bne_iff_ne];omega
 have HP:Hid (∀w',Below w.heap.size w w'→RunPost l fuel tag vars zs w (.returned (.tuple #[.agg #[.int .i64 0,.int .i64 0,.int .i64 0,.slice none 0 0],.int .i64 (refN l fuel tag vars:Nat)])) w'):=hid fun w' hb=>⟨hb,.inl ⟨hr,rfl⟩⟩
 generalize refN l fuel tag vars=rn at HRF e0 HP
 clear hin hsm ht hl hL hr
 go_enter Tryz.func12,Tryz.ntmps12
 go_wp2_with (go_at_call 30;(with_reducible refine(HRF.out _ ((((Past.refl _).alloc _).alloc _).alloc _ |>.alloc _)).mono ?_);rintro e w1 ⟨rfl,hb⟩;have r3:=(hb.block (w.heap.size+1+1+1) (by simp)).trans (zaB (w:=((w.alloc (.cells #[.slice fa l.length fc] 24)).alloc (.cells #[.int .i64 tag] 3)).alloc (.cells #[.slice va vars.length vc] 32)) (.cells #[.int .i64 0,.int .i64 0,.int .i64 0,.slice none 0 0] 36) (by simp));have c0:=zab (k:=0) r3 rfl;have c1:=zab (k:=1) r3 rfl;have c2:=zab (k:=2) r3 rfl;have c3:=zab (k:=3) r3 rfl;have cf:=fun k=>zaf (k:=k) r3;have cl:=lt_of_block r3;have HB:=hid (zae ((((Past.refl _).alloc _).alloc _).alloc _ |>.alloc _) hb);have HR3:=hid r3;clear r3 hb)
 refine bodyPost_ret (v:=.tuple #[.agg #[.int .i64 0,.int .i64 0,.int .i64 0,.slice none 0 0],.int .i64 (rn:Nat)]) (by simp[results,Tryz.results12,go_sem, *]) rfl (HP.out _ ?_)
 repeat (first | with_reducible exact HB.out | (with_reducible refine Below.setCell ?_ (by show w.heap.size≤w.heap.size+1+1+1;omega) _))
theorem ref_fuel {l:List FT} {fuel tag:Int} {vars:List ByteArray} (h:refN l fuel tag vars=0):0≤fuel∧fuel≤1048576:=by
 unfold refN at h
 split at h
 ·rename_i h0;exact absurd h h0
 ·split at h
  ·cases h
  ·omega
structure PlayedR (o:Out) (fu:Nat) (tag:Int) (vars:List ByteArray) (w:World) (Mb Wb:Nat) (e:Ending) (w4:World):Prop where
 e:e=.returned (.int .i64 o.trapN)
 mch:∃v0 v1 v2 v6,w4.heap[Mb]?=some (mca v0 v1 v2 fu (fu - o.st.left) (.int .i64 (o.st.at':Nat)) v6)
 tr:∃a n c,w4.heap[Wb]?=some (.cells #[.slice a n c] 34 (0,0))∧∀w5,(∀b,b≠w.heap.size+1+1+1→w5.heap[b]?=w4.heap[b]?)→RowsV w5 (.slice a n c) (zdm tag vars o.st.ev)
 res:w4.heap[w.heap.size+1+1+1]?=some (.cells #[.int .i64 0,.int .i64 0,.int .i64 0,.slice none 0 0] 36 (0,0))
 below:Below w.heap.size w w4
abbrev w4a (w:World) (fa va:Option Addr) (n fc m vc:Nat) (tag:Int):World:=(((w.alloc (.cells #[.slice fa n fc] 24)).alloc (.cells #[.int .i64 tag] 3)).alloc (.cells #[.slice va m vc] 32)).alloc (.cells #[.int .i64 0,.int .i64 0,.int .i64 0,.slice none 0 0] 36)
theorem run_play {fu:Nat} {w1 w3:World} (hP:RunsP l) (hin:FsIn w 0 fa l) (hl:vars.length≤1000) (hL:StrsIn w 0 va vars) (hvm:∀s∈vars,s.size≤maxLen) (hz:RowIn .i64 w aa an zs) (hzl:zs.length=an) (hz64:∀z∈zs,in64 z) (hcap:an≤ac∧ac≤9223372036854775807) (hf:fu≤1048576)
  (hb:Below (w4a w fa va l.length fc vars.length vc tag).heap.size (w4a w fa va l.length fc vars.length vc tag) w1) (hn:NewR (w1.alloc (.cells #[.slice none 0 0] 34)) w3 fa fc l (.slice aa an ac) fu 32 (capsR (w.heap.size+1) w1.heap.size (w.heap.size+1+1)) l.length):
  Calls Tryz.prog 34 #[ptr (w1.heap.size+1+1)] w3 (PlayedR (zaR (l.map FT.rf) fu zs) fu tag vars w (w1.heap.size+1+1) w1.heap.size):=by
 have hsz:(w4a w fa va l.length fc vars.length vc tag).heap.size=w.heap.size+4:=by simp
 have hp4:Past w (w4a w fa va l.length fc vars.length vc tag):=(((Past.refl _).alloc _).alloc _).alloc _ |>.alloc _
 have hs1:=hb.size
 have hs2:(w1.alloc (.cells #[.slice none 0 0] 34)).heap.size=w1.heap.size+1:=by simp
 have hbn:=hn.below
 have hWb:w3.heap[w1.heap.size]?=some (.cells #[.slice none 0 0] 34 (0,0)):=(hbn.block _ (by omega)).trans (zah w1 _)
 obtain⟨ca,cc,hC,hM,hk⟩:=mi_new (w0:=w4a w fa va l.length fc vars.length vc tag) (Wb:=w1.heap.size) (wt:=fun ev fp w=>TrR w1.heap.size (zdm tag vars ev) fp w) hP (hin.keep fun p v _ hc=>(lt_cell hp4 hc).2) (hb.alloc hs1 _) hn hf (zd6 hz hp4) hzl hz64 hcap ⟨hs1,by omega⟩ (tr_nil hWb)
 rw[hs2] at hC hM hk
 have hT:(w4a w fa va l.length fc vars.length vc tag).cell? ⟨w.heap.size+1,0,none⟩=some (.int .i64 tag):=zab (k:=0) (zak _ (zak _ (zaB (.cells #[.int .i64 tag] 3) (by simp)))) rfl
 have hV:(w4a w fa va l.length fc vars.length vc tag).cell? ⟨w.heap.size+1+1,0,none⟩=some (.slice va vars.length vc):=zab (k:=0) (zak _ (zaB (.cells #[.slice va vars.length vc] 32) (by simp))) rfl
 have hA:AskR (hide2 (w1.heap.size+1+1) w1.heap.size w3) (w.heap.size+1) (w.heap.size+1+1) tag va vc vars:=⟨hk _ _ hT,hk _ _ hV,fun i h=>by
  obtain⟨b,o,e,h1,h2⟩:=hL i h
  exact⟨b,o,e,h1,hk _ _ (lt_cell hp4 h2).2⟩,hl,hvm⟩
 have hlen:∃i,l.length=i+1:=⟨l.length - 1,by have:=List.length_pos_iff.2 hP.one;omega⟩
 obtain⟨i,hi⟩:=hlen
 have hpl:=play_any (C:=⟨fa,fc,l,ca,cc,fu,32,capsR (w.heap.size+1) w1.heap.size (w.heap.size+1+1)⟩) (wat_run ⟨rfl,rfl⟩ hA) hC hM hi (g:=2*fu+1) (Nat.le_refl _)
 refine hpl.mono fun e w4 hq=>?_
 have hmo:=mainO_is hi fu zs
 have hq2:PlayQ ⟨fa,fc,l,ca,cc,fu,32,capsR (w.heap.size+1) w1.heap.size (w.heap.size+1+1)⟩ (fun ev fp w=>TrR w1.heap.size (zdm tag vars ev) fp w) (hide2 (w1.heap.size+1+1) w1.heap.size w3) (w1.heap.size+1+1) (·=w1.heap.size) w3 (zaR (l.map FT.rf) fu zs) e w4:=by rw[hmo];exact hq
 obtain⟨he,fp',hh,hnw,ho⟩:=hq2
 have hw3:w1.heap.size+1≤w3.heap.size:=by have:=hbn.size;omega
 have hR3:w3.heap[w.heap.size+1+1+1]?=some (.cells #[.int .i64 0,.int .i64 0,.int .i64 0,.slice none 0 0] 36 (0,0)):=
  (hbn.block _ (by omega)).trans (zak _ ((hb.block _ (by omega)).trans (zaB (.cells #[.int .i64 0,.int .i64 0,.int .i64 0,.slice none 0 0] 36) (by simp))))
 have hwt:TrR w1.heap.size (zdm tag vars (zaR (l.map FT.rf) fu zs).st.ev) fp' w4:=hh.wat
 obtain⟨v,hv,va',vc',rfl,-⟩:=rows_of hwt
 obtain⟨m1,m2,iv,m3,m4⟩:=hh.mch
 refine⟨he,⟨_,_,_,_,m4⟩,⟨va',_,vc',hv,fun w5 h5=>?_⟩,(ho.block _ (by omega) (by show ¬(_∨_);omega)).trans hR3,?_⟩
 ·have hne:∀b,fp' b→b≠w.heap.size+1+1+1:=fun b hb e=>by
   rcases hnw b hb with h | h
   ·have:b=w1.heap.size:=h
    omega
   ·omega
  obtain⟨v',hv',hrows⟩:=rows_of (hwt.keep fun b hb=>h5 b (hne b hb))
  rw[h5 _ (by omega),hv] at hv'
  simp only[Option.some.injEq,Obj.cells.injEq,and_true] at hv'
  have e3:#[Value.slice va' (zdm tag vars (zaR (l.map FT.rf) fu zs).st.ev).length vc']=#[v']:=hv'
  simp only[Array.mk.injEq,List.cons.injEq,and_true] at e3
  subst e3
  exact hrows
 ·have b1:Below w.heap.size w w3:=(zae hp4 hb).trans ((((Below.refl _ _).alloc (Nat.le_refl _) _).trans (hbn.mono (by omega))).mono (by omega))
  exact b1.trans ⟨ho.os,ho.tape,ho.output,ho.size,fun b hb=>ho.block b (by omega) (by show ¬(_∨_);omega)⟩
theorem run_ok (hP:RunsP l) (hin:FsIn w 0 fa l) (hsm:Small l) (ht:-9223372036854775808≤tag∧tag≤9223372036854775807) (hl:vars.length≤1000) (hL:StrsIn w 0 va vars) (hvm:∀s∈vars,s.size≤maxLen) (hz:RowIn .i64 w aa an zs) (hzl:zs.length=an) (hz64:∀z∈zs,in64 z) (hcap:an≤ac∧ac≤9223372036854775807) (hr:refN l fuel tag vars=0):
  Calls Tryz.prog 12 #[.agg #[.slice fa l.length fc],.slice aa an ac,.int .i64 fuel,.int .i64 tag,.slice va vars.length vc] w (RunPost l fuel tag vars zs w):=by
 have hfu:=ref_fuel hr
 obtain⟨fu,rfl⟩:=Int.eq_ofNat_of_zero_le hfu.1
 have hfu2:fu≤1048576:=by omega
 have HRF:=hid (fun W (hW:Past w W)=>zeD (fuel:=(fu:Int)) (c:=fc) (vc:=vc) hin hsm ht (by omega) hL W hW)
 have HNM:=hid (fun W (hW:Past w W) (g:Nat) (caps:Array Value)=>zef (fc:=fc) (aa:=aa) (an:=an) (ac:=ac) (fuel:=fu) (g:=g) (caps:=caps) hin hP.many (fun F hF=>by have:=(hP.sts F hF).1;omega) W hW)
 have HP:=hid (show RunsP l∧FsIn w 0 fa l∧StrsIn w 0 va vars∧(∀s∈vars,s.size≤maxLen)∧RowIn .i64 w aa an zs∧zs.length=an∧(∀z∈zs,in64 z)∧(an≤ac∧ac≤9223372036854775807)∧vars.length≤1000∧refN l (fu:Int) tag vars=0 from⟨hP,hin,hL,hvm,hz,hzl,hz64,hcap,hl,hr⟩)
 rw[hr] at HRF
 have HF2:=hid hfu2
 clear hP hin hsm ht hl hL hvm hz hzl hz64 hcap hr hfu hfu2
 go_enter Tryz.func12,Tryz.ntmps12
 go_wp2_with (first
  | (go_at_call 31;(with_reducible refine(HNM.out _ (HB1.out.alloc _) _ _).mono ?_);rintro e w3 ⟨rfl,hn⟩;have HN3:=hid hn;clear hn)
  | (go_at_call 30;(with_reducible refine(HRF.out _ ((((Past.refl _).alloc _).alloc _).alloc _ |>.alloc _)).mono ?_);rintro e w1 ⟨rfl,hb⟩;have r0:=(hb.block (w.heap.size) (by simp<;>omega)).trans (zak _ (zak _ (zak _ (zah w (.cells #[.slice fa l.length fc] 24)))));have c0:=zab (k:=0) r0 rfl;have cl:=lt_of_block r0;have HB1:Hid (Past w w1):=hid (zae ((((Past.refl _).alloc _).alloc _).alloc _ |>.alloc _) hb);have HBB:=hid hb;clear r0 hb))
 have HPL:Hid (Calls Tryz.prog 34 #[ptr (w1.heap.size+1+1)] w3 (PlayedR (zaR (l.map FT.rf) fu zs) fu tag vars w (w1.heap.size+1+1) w1.heap.size)):=hid (by
  obtain⟨a1,a2,a3,a4,a5,a6,a7,a8,a9,a10⟩:=HP.out
  exact run_play a1 a2 a9 a3 a4 a5 a6 a7 a8 HF2.out HBB.out HN3.out)
 have HRP:Hid (∀(v:Value) (w5:World),RowsV w5 v (zdm tag vars (zaR (l.map FT.rf) fu zs).st.ev)→Below w.heap.size w w5→RunPost l (fu:Int) tag vars zs w (.returned (.tuple #[.agg #[.int .i64 (zaR (l.map FT.rf) fu zs).trapN,.int .i64 ((fu - (zaR (l.map FT.rf) fu zs).st.left:Nat):Int),.int .i64 (ze7 (zaR (l.map FT.rf) fu zs)),v],.int .i64 0])) w5):=hid fun v w5 h1 h2=>⟨h2,.inr ⟨HP.out.2.2.2.2.2.2.2.2.2,v,h1,rfl⟩⟩
 have HWO:Hid ((if (zaR (l.map FT.rf) fu zs).trapN=0 then -1 else ((zaR (l.map FT.rf) fu zs).st.at':Int))=ze7 (zaR (l.map FT.rf) fu zs)):=hid rfl
 have hpp:∀w4:World,(∃v0 v1 v2 v6,w4.heap[w1.heap.size+1+1]?=some (mca v0 v1 v2 fu (fu - (zaR (l.map FT.rf) fu zs).st.left) (.int .i64 ((zaR (l.map FT.rf) fu zs).st.at':Nat)) v6))→Calls Tryz.prog 35 #[ptr (w1.heap.size+1+1),.int .i64 (zaR (l.map FT.rf) fu zs).trapN] w4 fun e w'=>e=.returned (.int .i64 (ze7 (zaR (l.map FT.rf) fu zs)))∧w'=w4:=by
  rintro w4 ⟨v0,v1,v2,v6,hm⟩
  rw[←HWO.out]
  exact place_is hm _
 have HPP:=hid hpp
 clear hpp
 clear HWO HP HRF HNM HB1 HBB HN3 HF2
 generalize zaR (l.map FT.rf) fu zs=mo at HPL HRP HPP
 go_wp2_with (go_at_call 34;(with_reducible refine HPL.out.mono ?_);rintro e w4 ⟨rfl,hm,⟨ta,tn,tc,htr,htv⟩,hres,hbl⟩;have HM:Hid (∃v0 v1 v2 v6,w4.drew.heap[w1.heap.size+1+1]?=some (mca v0 v1 v2 fu (fu - mo.st.left) (.int .i64 (mo.st.at':Nat)) v6)):=hid hm;obtain⟨v0,v1,v2,v6,hm⟩:=hm;have m4:=zab (k:=4) hm rfl;have ml:=lt_of_block hm;have x0:=zab (k:=0) htr rfl;have xl:=lt_of_block htr;have HTV:=hid htv;have HB:=hid hbl;have q0:=zab (k:=0) hres rfl;have q1:=zab (k:=1) hres rfl;have q2:=zab (k:=2) hres rfl;have q3:=zab (k:=3) hres rfl;have qf:=fun k=>zaf (k:=k) hres;have ql:=lt_of_block hres;clear hm htr htv hres hbl)
 go_region_with (go_at_call 35;(with_reducible refine(HPP.out _ HM.out).mono ?_);rintro e w5 ⟨rfl,rfl⟩)
 all_goals
  go_wp2
  refine bodyPost_ret (v:=.tuple #[.agg #[.int .i64 mo.trapN,.int .i64 ((fu - mo.st.left:Nat):Int),.int .i64 (ze7 mo),.slice ta tn tc],.int .i64 0]) (by simp[results,Tryz.results12,go_sem, *]) rfl (HRP.out _ _ (HTV.out _ ?_) ?_)
  ·intro b hb
   exact(Below.heap_setCell _ _ _ _ hb).trans ((Below.heap_setCell _ _ _ _ hb).trans ((Below.heap_setCell _ _ _ _ hb).trans (Below.heap_setCell _ _ _ _ hb)))
  ·repeat (first | with_reducible exact HB.out | (with_reducible refine Below.drew ?_) | (with_reducible refine Below.setCell ?_ (by show w.heap.size≤w.heap.size+1+1+1;omega) _))
end
end Go.Proofs.YtbilfdapmbahgaaGreatDoor.Rn

namespace Go.Proofs.YtbilfdapmbahgaaGreatDoor.Rn
open Go Go.RowKit Go.Proofs.YtbilfdapmbahgaaGreatDoor Go.Proofs.YtbilfdapmbahgaaGreatDoor.Ev
open Go.Proofs.YtbilfdapmbahgaaGreatDoor.Ck (chkF critF Small StrsIn pOf mOf progR critR ze2 chk_rf crit_rf zdi zbx)
open Go.Proofs.YtbilfdapmbahgaaGreatDoor.Pm (zc0)
def runsR (p:List RF):Bool:=decide (p.length≤1000)&&!p.isEmpty&&p.all fun F=>decide (nSs F.body≤1000∧F.params.length≤1000∧F.vars.length≤1000)&&okCs (fun nm n=>decide (zbx p nm < p.length∧n≤64)) F.body
theorem runs_rf {l:List FT} (h:l.all FT.rightB=true) (hb:runsR (l.map FT.rf)=true):RunsP l:=by
 unfold runsR at hb
 rw[Bool.and_eq_true,Bool.and_eq_true,decide_eq_true_eq,List.length_map,List.all_eq_true] at hb
 obtain⟨⟨h1,h2⟩,h3⟩:=hb
 have hr:=List.all_eq_true.1 h
 refine⟨h1,fun e=>by subst e;simp at h2,hr,fun F hF=>?_,?_⟩
 ·have h4:=h3 F.rf (List.mem_map.2 ⟨F,hF,rfl⟩)
  rw[Bool.and_eq_true,decide_eq_true_eq] at h4
  obtain⟨⟨a1,a2,a3⟩,-⟩:=h4
  have h5:=hr F hF
  rw[FT.rightB] at h5
  simp only[Bool.and_eq_true] at h5
  refine⟨by rw[Ck.cnts_n h5.2.2.2];exact a1,by simpa[FT.rf] using a2,by simpa[FT.rf] using a3⟩
 ·unfold callsB
  rw[List.all_eq_true]
  intro F hF
  have h4:=h3 F.rf (List.mem_map.2 ⟨F,hF,rfl⟩)
  rw[Bool.and_eq_true] at h4
  have h5:=h4.2
  exact h5
def refR (p:List RF) (fuel tag:Int) (vars:List (List UInt8)):Nat:=let wn:=if tag=0 then (progR p).1.1 else critR p tag vars;if wn≠0 then wn else if fuel < 0∨1048576 < fuel then 1 else 0
theorem ref_rf {l:List FT} (h:l.all FT.rightB=true) (fuel tag:Int) (vars:List ByteArray):refN l fuel tag vars=refR (l.map FT.rf) fuel tag (vars.map fun s=>s.data.toList):=by
 unfold refN refR wrongN
 rw[crit_rf h,show(chkF l).1=(progR (l.map FT.rf)).1.1 from congrArg Prod.fst (chk_rf h)]
def tR:List UInt8:=[102,117,110,99,32,102,40,110,41,32,123,32,118,97,114,32,114,59,32,105,102,32,40,110,32,62,32,48,41,32,123,32,114,32,61,32,102,40,110,32,45,32,49,41,59,32,114,101,116,117,114,110,32,114,32,43,32,110,59,32,125,32,114,101,116,117,114,110,32,48,59,32,125,32,102,117,110,99,32,109,97,105,110,40,41,32,123,32,118,97,114,32,120,44,32,121,59,32,120,32,61,32,114,101,97,100,40,41,59,32,121,32,61,32,102,40,120,41,59,32,64,49,32,121,32,61,32,121,32,43,32,49,59,32,119,104,105,108,101,32,40,49,41,32,123,32,98,114,101,97,107,59,32,125,32,64,50,32,120,32,61,32,121,32,47,32,48,59,32,125]
def pR:List RF:=pOf tR
theorem evR:zc0 100 tR=.ok pR (mOf tR):=by kernel_rfl
theorem lenR:pR.length=2:=by kernel_rfl
theorem smR:ze2 pR=true:=by kernel_rfl
theorem rnR:runsR pR=true:=by kernel_rfl
theorem rf1:refR pR 1000 1 [[120],[121]]=0:=by kernel_rfl
theorem rf2:refR pR 5 0 []=0:=by kernel_rfl
theorem rf3:refR pR (-1) 0 []=1:=by kernel_rfl
theorem rf4:refR pR 5 9 []=9:=by kernel_rfl
theorem rf5:refR pR 1000 0 []=0:=by kernel_rfl
theorem o1:((zaR pR 1000 [3]).trapN,ze7 (zaR pR 1000 [3]),zdm 1 [{data:=#[120]},{data:=#[121]}] (zaR pR 1000 [3]).st.ev)=(1,5,[[3,6]]):=by kernel_rfl
theorem o2:((zaR pR 5 [3]).trapN,ze7 (zaR pR 5 [3]),(zaR pR 5 [3]).st.left)=(6,1,0):=by kernel_rfl
theorem o3:(zaR pR 1000 [1]).st.ev.length=6∧((zaR pR 1000 [1]).st.ev[2]?.map fun u=>(u.node,u.cells.map fun c=>c.v))=some (2,[[1],[1]]):=by exact⟨by kernel_rfl,by kernel_rfl⟩
end Go.Proofs.YtbilfdapmbahgaaGreatDoor.Rn

namespace Go.Proofs.YtbilfdapmbahgaaGreatDoor
open Go Go.RowKit
end Go.Proofs.YtbilfdapmbahgaaGreatDoor
namespace Go.Proofs.YtbilfdapmbahgaaGreatDoor
open Go Go.RowKit
end Go.Proofs.YtbilfdapmbahgaaGreatDoor
namespace Go.Proofs.YtbilfdapmbahgaaGreatDoor
open Go Go.RowKit
end Go.Proofs.YtbilfdapmbahgaaGreatDoor
namespace Go.Proofs.YtbilfdapmbahgaaGreatDoor
open Go Go.RowKit
theorem zcD (w:World) (n:Nat):Below w.heap.size w (w.drewN n):=⟨rfl,rfl,rfl,Nat.le_refl _,fun _ _=>rfl⟩
end Go.Proofs.YtbilfdapmbahgaaGreatDoor
namespace Go.Proofs.YtbilfdapmbahgaaGreatDoor
open Go Go.RowKit
end Go.Proofs.YtbilfdapmbahgaaGreatDoor

namespace Go.Proofs.YtbilfdapmbahgaaGreatDoor.Rn
open Go Go.RowKit Go.Proofs.YtbilfdapmbahgaaGreatDoor Go.Proofs.YtbilfdapmbahgaaGreatDoor.Ev
open Go.Lib (hid)
theorem zcE {α:Type} [DecidableEq α] {l m:List α} {n:Nat} (h:n < l.length) (h':n < m.length) (he:l.take n=m.take n):(l.take (n+1)=m.take (n+1))↔l[n]=m[n]:=by
 rw[List.take_succ_eq_append_getElem h,List.take_succ_eq_append_getElem h',he,List.append_cancel_left_eq]
 simp
theorem ne_of_nth {α:Type} {l m:List α} {n:Nat} (h:n < l.length) (h':n < m.length) (hr:l[n]≠m[n]):l≠m:=fun e=>by subst e;exact hr rfl
def NumAt (w:World) (a:Option Addr) (l:List Int):Prop:=∀(i:Nat) (h:i < l.length),∃b o,a=some ⟨b,o,none⟩∧w.cell? ⟨b,o+i,none⟩=some (.int .i64 l[i])
theorem equal_nums {w0:World} (a a':Option Addr) (c c':Nat) (l m:List Int) (hl:l.length≤9223372036854775807) (hm:m.length≤9223372036854775807) (hin:NumAt w0 a l) (hin':NumAt w0 a' m) (w:World) (hp:Past w0 w):
  Calls Tryz.prog 77 #[.slice a l.length c,.slice a' m.length c'] w fun e w'=>e=.returned (.bool (decide (l=m)))∧Below w.heap.size w w':=by
 have HI:=hid hin
 have HI':=hid hin'
 have HP:=hid hp
 clear hin hin' hp
 by_cases hlen:l.length=m.length
 ·have hne:((l.length:Int) != (m.length:Int))=false:=by rw[hlen];simp
  have hlm:Hid (m.length=l.length):=hid hlen.symm
  have HLN:=hid hlen
  clear hlen
  go_enter Tryz.func77,Tryz.ntmps77
  go_wp2
  go_loopw [5,13] (fun _ i wr=>∃n:Nat,n≤l.length∧i=.int .i64 n∧Below w.heap.size w wr∧l.take n=m.take n) (fun _ i _=>l.length - (intOf i).toNat)
  case atStart=>exact⟨0,Nat.zero_le _,rfl,Below.refl _ _,by simp⟩
  case round =>
   obtain⟨n,hn,rfl,hb,ht⟩:=hrel
   have HB:=hid hb
   have HT:=hid ht
   clear hb ht
   by_cases hlt:n < l.length
   ·have hlt':n < m.length:=by have:=hlm.out;omega
    obtain⟨kb,ko,rfl,r0⟩:=HI.out n hlt
    obtain⟨kb',ko',rfl,s0⟩:=HI'.out n hlt'
    replace r0:=zan (HP.out.on HB.out) (B:=0) _ _ (Nat.zero_le _) r0
    replace s0:=zan (HP.out.on HB.out) (B:=0) _ _ (Nat.zero_le _) s0
    have hkb:=zck r0
    have hkb2:=zck s0
    by_cases hr:l[n]=m[n]
    ·have HR:=hid ((zcE hlt hlt' HT.out).2 hr)
     have hbb:(l[n] != m[n])=false:=by rw[hr];simp
     clear hr
     go_wp2
     go_quiet (fail)
     go_wp2
     go_round
     case rel=>exact⟨n+1,by omega,by go_num,zae HB.out (zcD _ _),HR.out⟩
     case measure=>simp[intOf];omega
    ·have HR:=hid (ne_of_nth hlt hlt' hr)
     have hbb:(l[n] != m[n])=true:=by simp[hr]
     clear hr
     go_wp2
     go_quiet (fail)
     go_wp2
     go_ret
     exact⟨by rw[decide_eq_false HR.out];rfl,zae HB.out (zcD _ _)⟩
   ·obtain rfl:n=l.length:=by omega
    have HT2:Hid (l=m):=hid (by have:=HT.out;rw[List.take_length,HLN.out,List.take_length] at this;exact this)
    go_wp2
    go_ret
    exact⟨by rw[decide_eq_true HT2.out];rfl,HB.out⟩
 ·have hne:((l.length:Int) != (m.length:Int))=true:=by simp;omega
  have HR:=hid (fun e:l=m=>hlen (by rw[e]))
  go_enter Tryz.func77,Tryz.ntmps77
  go_wp2_with fail
  go_ret
  exact⟨by rw[decide_eq_false HR.out];rfl,Below.refl _ _⟩
def RowsAt (w:World) (a:Option Addr) (rows:List (List Int)):Prop:=∀(i:Nat) (h:i < rows.length),∃b o ra rc,a=some ⟨b,o,none⟩∧w.cell? ⟨b,o+i,none⟩=some (.slice ra rows[i].length rc)∧rows[i].length≤9223372036854775807∧NumAt w ra rows[i]
theorem NumAt.on {w w':World} {a:Option Addr} {l:List Int} (h:NumAt w a l) (hp:Past w w'):NumAt w' a l:=by
 intro i hi
 obtain⟨b,o,e,hc⟩:=h i hi
 exact⟨b,o,e,zan hp (B:=0) _ _ (Nat.zero_le _) hc⟩
theorem equal_rows {w0:World} (a a':Option Addr) (c c':Nat) (l m:List (List Int)) (hl:l.length≤9223372036854775807) (hm:m.length≤9223372036854775807) (hin:RowsAt w0 a l) (hin':RowsAt w0 a' m) (w:World) (hp:Past w0 w):
  Calls Tryz.prog 76 #[.slice a l.length c,.slice a' m.length c',.func (.func 77) #[] #[]] w fun e w'=>e=.returned (.bool (decide (l=m)))∧Below w.heap.size w w':=by
 have HI:=hid hin
 have HI':=hid hin'
 have HP:=hid hp
 clear hin hin' hp
 by_cases hlen:l.length=m.length
 ·have hne:((l.length:Int) != (m.length:Int))=false:=by rw[hlen];simp
  have hlm:Hid (m.length=l.length):=hid hlen.symm
  have HLN:=hid hlen
  clear hlen
  go_enter Tryz.func76,Tryz.ntmps76
  go_wp2
  go_loopw [7,8,9,17] (fun _ _ _ i wr=>∃n:Nat,n≤l.length∧i=.int .i64 n∧Below w.heap.size w wr∧l.take n=m.take n) (fun _ _ _ i _=>l.length - (intOf i).toNat)
  case atStart=>exact⟨0,Nat.zero_le _,rfl,Below.refl _ _,by simp⟩
  case round =>
   obtain⟨n,hn,rfl,hb,ht⟩:=hrel
   have HB:=hid hb
   have HT:=hid ht
   clear hb ht
   by_cases hlt:n < l.length
   ·have hlt':n < m.length:=by have:=hlm.out;omega
    obtain⟨kb,ko,ra,rc,rfl,r0,rl,rn⟩:=HI.out n hlt
    obtain⟨kb',ko',ra',rc',rfl,s0,sl,sn⟩:=HI'.out n hlt'
    replace r0:=zan (HP.out.on HB.out) (B:=0) _ _ (Nat.zero_le _) r0
    replace s0:=zan (HP.out.on HB.out) (B:=0) _ _ (Nat.zero_le _) s0
    have hkb:=zck r0
    have hkb2:=zck s0
    have HC:=hid (fun W hW=>equal_nums (w0:=w0) ra ra' rc rc' l[n] m[n] rl sl rn sn W hW)
    clear rn sn
    by_cases hr:l[n]=m[n]
    ·have HR:=hid ((zcE hlt hlt' HT.out).2 hr)
     rw[decide_eq_true hr] at HC
     clear hr
     go_wp2_with (go_at_call 77;have hx:=HC.out _ (HP.out.on HB.out);refine hx.mono ?_;clear hx;rintro e w2 ⟨rfl,hb2⟩;have HB2:=hid (zae HB.out hb2);clear hb2)
     go_round
     case rel=>exact⟨n+1,by omega,by go_num,HB2.out,HR.out⟩
     case measure=>simp[intOf];omega
    ·have HR:=hid (ne_of_nth hlt hlt' hr)
     rw[decide_eq_false hr] at HC
     clear hr
     go_wp2_with (go_at_call 77;have hx:=HC.out _ (HP.out.on HB.out);refine hx.mono ?_;clear hx;rintro e w2 ⟨rfl,hb2⟩;have HB2:=hid (zae HB.out hb2);clear hb2)
     go_ret
     exact⟨by rw[decide_eq_false HR.out];rfl,HB2.out⟩
   ·obtain rfl:n=l.length:=by omega
    have HT2:Hid (l=m):=hid (by have:=HT.out;rw[List.take_length,HLN.out,List.take_length] at this;exact this)
    go_wp2
    go_ret
    exact⟨by rw[decide_eq_true HT2.out];rfl,HB.out⟩
 ·have hne:((l.length:Int) != (m.length:Int))=true:=by simp;omega
  have HR:=hid (fun e:l=m=>hlen (by rw[e]))
  go_enter Tryz.func76,Tryz.ntmps76
  go_wp2_with fail
  go_ret
  exact⟨by rw[decide_eq_false HR.out];rfl,Below.refl _ _⟩
theorem sameRows_any {w0:World} (a a':Option Addr) (c c':Nat) (l m:List (List Int)) (hl:l.length≤9223372036854775807) (hm:m.length≤9223372036854775807) (hin:RowsAt w0 a l) (hin':RowsAt w0 a' m) (w:World) (hp:Past w0 w):
  Calls Tryz.prog 46 #[.slice a l.length c,.slice a' m.length c'] w fun e w'=>e=.returned (.bool (decide (l=m)))∧Below w.heap.size w w':=by
 have HC:=hid (equal_rows a a' c c' l m hl hm hin hin' w hp)
 clear hin hin' hp hl hm
 generalize decide (l=m)=r at HC
 go_enter Tryz.func46,Tryz.ntmps46
 go_wp2_with (go_at_call 76;refine HC.out.mono ?_;rintro e w2 ⟨rfl,hb2⟩)
 go_ret
 exact⟨rfl,hb2⟩
theorem RowsAt.take {w:World} {a:Option Addr} {l:List (List Int)} (h:RowsAt w a l) (n:Nat):RowsAt w a (l.take n):=by
 intro i hi
 have hlt:i < l.length:=by rw[List.length_take] at hi;omega
 have:=h i hlt
 rw[List.getElem_take]
 exact this
def zaW (l m:List (List Int)):Bool:=decide (l.length≤m.length)&&decide (l=m.take l.length)
theorem zc4 {w0:World} (a a':Option Addr) (c c':Nat) (l m:List (List Int)) (hl:l.length≤9223372036854775807) (hm:m.length≤9223372036854775807) (hc:m.length≤c') (hcc:c'≤9223372036854775807) (hin:RowsAt w0 a l) (hin':RowsAt w0 a' m) (w:World) (hp:Past w0 w):
  Calls Tryz.prog 25 #[.slice a l.length c,.slice a' m.length c'] w fun e w'=>e=.returned (.bool (zaW l m))∧Below w.heap.size w w':=by
 by_cases hlm:l.length≤m.length
 ·have ht:(m.take l.length).length=l.length:=by rw[List.length_take];omega
  have HC:=hid (fun W hW=>sameRows_any (w0:=w0) a a' c c' l (m.take l.length) hl (by omega) hin (hin'.take _) W hW)
  have e0:zaW l m=decide (l=m.take l.length):=by unfold zaW;rw[decide_eq_true hlm,Bool.true_and]
  rw[ht] at HC
  rw[e0]
  have HP:=hid hp
  have k1:decide ((l.length:Int)≤(m.length:Int))=true:=by simpa using hlm
  clear hin hin' hp e0
  generalize decide (l=m.take l.length)=r at HC
  go_enter Tryz.func25,Tryz.ntmps25
  go_wp2_with (go_at_call 46;have hx:=HC.out _ HP.out;refine hx.mono ?_;clear hx;rintro e w2 ⟨rfl,hb2⟩)
  go_ret
  exact⟨rfl,hb2⟩
 ·have e0:zaW l m=false:=by unfold zaW;rw[decide_eq_false hlm,Bool.false_and]
  rw[e0]
  have k1:decide ((l.length:Int)≤(m.length:Int))=false:=by simpa using hlm
  clear hin hin' hp e0
  go_enter Tryz.func25,Tryz.ntmps25
  go_wp2
  go_ret
  exact⟨rfl,Below.refl _ _⟩
structure Res where
 trap:Int
 steps:Int
 place:Int
 rows:List (List Int)
 deriving DecidableEq
abbrev resV (t s p:Int) (a:Option Addr) (n c:Nat):Value:=.agg #[.int .i64 t,.int .i64 s,.int .i64 p,.slice a n c]
theorem same_any {w0:World} (a a':Option Addr) (c c':Nat) (r r':Res) (hl:r.rows.length≤9223372036854775807) (hm:r'.rows.length≤9223372036854775807) (hin:RowsAt w0 a r.rows) (hin':RowsAt w0 a' r'.rows) (w:World) (hp:Past w0 w):
  Calls Tryz.prog 23 #[resV r.trap r.steps r.place a r.rows.length c,resV r'.trap r'.steps r'.place a' r'.rows.length c'] w fun e w'=>e=.returned (.bool (decide (r=r')))∧Below w.heap.size w w':=by
 obtain⟨t,s,p,l⟩:=r
 obtain⟨t',s',p',m⟩:=r'
 have HC:=hid (fun W hW=>sameRows_any (w0:=w0) a a' c c' l m hl hm hin hin' W hW)
 have HP:=hid hp
 clear hin hin' hp
 show Calls _ _ #[resV t s p a l.length c,resV t' s' p' a' m.length c'] w _
 have key:∀b:Bool,decide (l=m)=b→decide ((⟨t,s,p,l⟩:Res)=⟨t',s',p',m⟩)=(t==t'&&(s==s'&&(p==p'&&b))):=by
  rintro _ rfl
  rw[Bool.eq_iff_iff]
  simp only[decide_eq_true_eq,Bool.and_eq_true,beq_iff_eq,Res.mk.injEq]
 generalize hb0:decide (l=m)=b at HC
 rw[key b hb0]
 clear key hb0
 generalize l.length=n at HC hl
 generalize m.length=n' at HC hm
 cases h1:t==t' with
 | false =>
  go_enter Tryz.func23,Tryz.ntmps23
  go_wp2
  go_ret
  exact⟨by simp,((Below.refl _ _).alloc (Nat.le_refl _) _).alloc (by simp) _⟩
 | true =>
  cases h2:s==s' with
  | false =>
   go_enter Tryz.func23,Tryz.ntmps23
   go_wp2
   go_ret
   exact⟨by simp,((Below.refl _ _).alloc (Nat.le_refl _) _).alloc (by simp) _⟩
  | true =>
   cases h3:p==p' with
   | false =>
    go_enter Tryz.func23,Tryz.ntmps23
    go_wp2
    go_ret
    exact⟨by simp,((Below.refl _ _).alloc (Nat.le_refl _) _).alloc (by simp) _⟩
   | true =>
    go_enter Tryz.func23,Tryz.ntmps23
    go_wp2_with (go_at_call 46;have hx:=HC.out _ ((HP.out.alloc (.cells #[.int .i64 t,.int .i64 s,.int .i64 p,.slice a n c] 36)).alloc (.cells #[.int .i64 t',.int .i64 s',.int .i64 p',.slice a' n' c'] 36));refine hx.mono ?_;clear hx;rintro e w2 ⟨rfl,hb2⟩;have B2:=hid (zae (((Below.refl _ _).alloc (Nat.le_refl _) _).alloc (by simp) _) hb2);clear hb2)
    go_ret
    exact⟨by simp,B2.out⟩
theorem numAt_block {w:World} {b:Nat} {r:List Int} {t:TypeId} {fr:Nat×Nat} (h:w.heap[b]?=some (.cells (numV r) t fr)):NumAt w (some ⟨b,0,none⟩) r:=by
 intro i hi
 refine⟨b,0,rfl,zab h ?_⟩
 rw[Nat.zero_add]
 simp[numV,hi]
theorem rowsAt_of {w:World} {v:Value} {rows:List (List Int)} {n:Nat} (h:RowsV w v rows) (hn:∀r∈rows,r.length≤n) (hm:n≤9223372036854775807):∃a c,v=.slice a rows.length c∧(rows.length≤c∧c≤maxLen)∧RowsAt w a rows:=by
 obtain⟨a,c,e,hc,h⟩:=h
 refine⟨a,c,e,hc,fun i hi=>?_⟩
 obtain⟨g,b,e,h1,h2⟩:=h i rows[i] (List.getElem?_eq_getElem hi)
 refine⟨g,0,_,_,e,by rw[Nat.zero_add];exact h1,?_,numAt_block h2⟩
 exact Nat.le_trans (hn _ (List.getElem_mem hi)) hm
end Go.Proofs.YtbilfdapmbahgaaGreatDoor.Rn
