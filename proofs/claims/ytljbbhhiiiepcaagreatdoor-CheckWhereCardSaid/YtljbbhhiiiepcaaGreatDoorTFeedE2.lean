/- An expression of the feed: right, of a bounded text, in new blocks. -/
import Derived.Test.YtljbbhhiiiepcaaGreatDoorTFeed
set_option linter.unusedSimpArgs false
set_option linter.unusedVariables false
set_option maxHeartbeats 8000000
set_option maxRecDepth 100000
namespace Go.Proofs.YtljbbhhiiiepcaaGreatDoor
open Go Go.RowKit
open Go.Lib (hid)
def ExprPost (F:FeedC) (B f d:Nat) (left tag:Int) (w:World) (e:Ending) (w':World):Prop:=∃(T:ET) (q:Nat),e=.returned T.val∧GE F.ns F.ms d T∧T.In w' w.heap.size∧Fd F B f q left tag w'∧w.grownBy w' (some f)
theorem zb1 {B f ia:Nat} {ns:List ByteArray} {w:World} (h:NamesIn B f ia ns w) {v:Int} (v0:0≤v):∃(k n:Nat) (s:ByteArray),ns.length=n∧0 < n∧n≤10∧k < n∧v / 16 % n=k∧ns.getD k mE=s∧(nmB s=true∧s∈ns)∧w.cell? ⟨ia,k,none⟩=some (.string s):=by
 obtain⟨-,-,⟨h0,h1⟩,hc⟩:=h
 refine⟨(v / 16 % ns.length).toNat,ns.length,_,rfl,h0,h1,?_,?_,rfl,?_⟩
 ·have:=Int.emod_lt_of_pos (v / 16) (b:=ns.length) (by omega)
  have:=Int.emod_nonneg (v / 16) (b:=ns.length) (by omega)
  omega
 ·have:=Int.emod_nonneg (v / 16) (b:=ns.length) (by omega)
  omega
 ·have:=Int.emod_lt_of_pos (v / 16) (b:=ns.length) (by omega)
  have:=Int.emod_nonneg (v / 16) (b:=ns.length) (by omega)
  refine⟨⟨(hc _ (by omega)).2,?_⟩,(hc _ (by omega)).1⟩
  rw[List.getD_eq_getElem?_getD,List.getElem?_eq_getElem (show(v / 16 % ns.length).toNat < ns.length by omega),Option.getD_some]
  exact List.getElem_mem _
def fnums:List Int:=[0,1,2,3,-1,5,7,-9223372036854775808,64,9223372036854775807]
def fnum (v:Int):Int:=fnums.getD (v / 16 % 10).toNat 0
theorem fnum_in (v:Int):-9223372036854775808≤fnum v∧fnum v≤9223372036854775807:=by
 have:∀k:Fin 10,-9223372036854775808≤fnums.getD k.val 0∧fnums.getD k.val 0≤9223372036854775807:=by decide
 exact this ⟨(v / 16 % 10).toNat,by omega⟩
theorem fnum_cell (w:World) (v:Int):(w.alloc (.cells #[.int .i64 0,.int .i64 1,.int .i64 2,.int .i64 3,.int .i64 (-1),.int .i64 5,.int .i64 7,.int .i64 (-9223372036854775808),.int .i64 64,.int .i64 9223372036854775807] 2)).cell? ⟨w.heap.size,(v / 16 % 10).toNat,none⟩=some (.int .i64 (fnum v)):=by
 refine zab (zaj _ _) ?_
 have:∀k:Fin 10,(#[.int .i64 0,.int .i64 1,.int .i64 2,.int .i64 3,.int .i64 (-1),.int .i64 5,.int .i64 7,.int .i64 (-9223372036854775808),.int .i64 64,.int .i64 9223372036854775807]:Array Value)[k.val]?=some (.int .i64 (fnums.getD k.val 0)):=by
  intro k
  match k with
  | ⟨0,_⟩=>rfl
  | ⟨1,_⟩=>rfl
  | ⟨2,_⟩=>rfl
  | ⟨3,_⟩=>rfl
  | ⟨4,_⟩=>rfl
  | ⟨5,_⟩=>rfl
  | ⟨6,_⟩=>rfl
  | ⟨7,_⟩=>rfl
  | ⟨8,_⟩=>rfl
  | ⟨9,_⟩=>rfl
 exact this ⟨(v / 16 % 10).toNat,by omega⟩
def bopl:List ByteArray:=[{data:=#[124,124]},{data:=#[38,38]},{data:=#[124]},{data:=#[94]},{data:=#[38]},{data:=#[61,61]},{data:=#[33,61]},{data:=#[60]},{data:=#[60,61]},{data:=#[62]},{data:=#[62,61]},{data:=#[60,60]},{data:=#[62,62]},{data:=#[43]},{data:=#[45]},{data:=#[42]},{data:=#[47]},{data:=#[37]},{data:=#[60]},{data:=#[43]},{data:=#[45]},{data:=#[61,61]}]
def bopN (k:Nat):ByteArray:=bopl.getD k mE
abbrev bopC:Array Value:=#[.string {data:=#[124,124]},.string {data:=#[38,38]},.string {data:=#[124]},.string {data:=#[94]},.string {data:=#[38]},.string {data:=#[61,61]},.string {data:=#[33,61]},.string {data:=#[60]},.string {data:=#[60,61]},.string {data:=#[62]},.string {data:=#[62,61]},.string {data:=#[60,60]},.string {data:=#[62,62]},.string {data:=#[43]},.string {data:=#[45]},.string {data:=#[42]},.string {data:=#[47]},.string {data:=#[37]},.string {data:=#[60]},.string {data:=#[43]},.string {data:=#[45]},.string {data:=#[61,61]}]
theorem bopC_is:bopC=(bopl.map Value.string).toArray:=rfl
theorem bopC_at (k:Nat) (h:k < 22):bopC[k]?=some (.string (bopN k)):=by
 have hl:k < bopl.length:=h
 rw[bopC_is,List.getElem?_toArray,List.getElem?_map,List.getElem?_eq_getElem hl]
 simp only[Option.map_some,bopN,List.getD_eq_getElem?_getD,List.getElem?_eq_getElem hl,Option.getD_some]
theorem bopN_lev (k:Nat) (h:k < 22):0 < zar (bopN k):=by
 have:∀k:Fin 22,0 < zar (bopN k.val):=by decide +kernel
 exact this ⟨k,h⟩
section
variable {F:FeedC} {B f:Nat} {left tag:Int}
theorem feedE_zero (p:Nat) (w:World) (h:Fd F B f p left tag w):Calls Tryz.prog 134 #[.pointer (some ⟨f,0,none⟩),.int .i64 0] w (ExprPost F B f 0 left tag w):=by
 have HB:f < w.heap.size:=by have:=h.lt;have:=h.size;omega
 have H:=hid h
 clear h
 go_enter Tryz.func134,Tryz.ntmps134
 go_wp2_with (go_at_call 133;have hx:=next_any (H.out.alloc (.cells #[.int .i64 0,.string {data:=#[]},.int .i64 0,.string {data:=#[]},.slice none 0 0] 68));refine hx.mono ?_;clear hx;rintro e w1 ⟨v,q,rfl,⟨v0,v1⟩,h1,hg1⟩;have hR:=(hg1.block w.heap.size (by simp) (by simp;omega)).trans (zaj w _);have hn:=fnum_cell w1 v;obtain⟨r0,r1,r2,r3,r4⟩:=zbp hR;have z0:=zac (k:=0) hR;have z1:=zac (k:=1) hR;have z2:=zac (k:=2) hR;have z3:=zac (k:=3) hR;have z4:=zac (k:=4) hR;have HR:=hid hR;have H1:=hid h1;have HG1:=hid hg1;have hlt:w.heap.size < w1.heap.size:=lt_of_block hR;clear h1 hg1 hR)
 ·refine bodyPost_ret (v:=.agg #[.int .i64 0,.string {data:=#[]},.int .i64 (fnum v),.string {data:=#[]},.slice none 0 0]) (by simp[results,Tryz.results134,go_sem, *]) rfl ?_
  refine⟨.mk 0 mE (fnum v) mE none 0 [],q,rfl,ge_num 0 _ (fnum_in v) _ _,num_in (fnum_in v) _ _,?_,?_⟩
  ·clear hn
   have hBR:=H.out.size
   have h1:=H1.out
   repeat (first | with_reducible exact h1 | with_reducible refine Fd.far ?_ hBR _ _ | with_reducible refine Fd.drew ?_ | with_reducible refine Fd.drewN ?_ _ | with_reducible refine Fd.alloc ?_ _)
  ·clear hn
   have h0:=zaa (World.grownBy_alloc w _ (some f)) HG1.out
   repeat (first | with_reducible exact h0 | with_reducible refine zag ?_ (Nat.le_refl _) _ _ | with_reducible refine zal ?_ | with_reducible refine zas ?_ _ | with_reducible refine zad ?_ _)
 ·obtain⟨k,n,s,hn0,hn1,hn2,hk,hv,hs,hnm,hc⟩:=zb1 H1.out.ints v0
  have c2:=H1.out.c2
  rw[hn0] at c2
  have HS:=hid hnm
  clear hn0 hs hnm hn
  have t1:(v.tdiv 16).tmod n=k:=by rw[←hv,Int.tdiv_eq_ediv_of_nonneg v0,Int.tmod_eq_emod_of_nonneg (by omega)]
  have t2:(v / 16).tmod n=k:=by rw[←hv,Int.tmod_eq_emod_of_nonneg (by omega)]
  have ne1:¬w.heap.size=f:=by omega
  have ne2:¬w.heap.size=F.ia:=by have:=H1.out.ints.1;have:=H1.out.ints.2.1;have:=H.out.size;omega
  have n0:((n:Int)==0)=false:=by simp;omega
  have u1:IntKind.i64.wrap (v.tdiv 16)=v / 16:=by rw[Int.tdiv_eq_ediv_of_nonneg v0];exact IntWalk.i64_in _ (by omega)
  have u3:(IntKind.i64.wrap (v.tdiv 16)).tmod n=k:=by rw[u1];exact t2
  have u4:IntKind.i64.wrap (v / 16)=v / 16:=IntWalk.i64_in _ (by omega)
  have n3:(n==0)=false:=by simp;omega
  have n4:¬n=0:=by omega
  have n5:(0:Int) < n:=by omega
  have k0:(0:Int)≤k:=by omega
  have k1:(k:Int) < n:=by omega
  go_region_held3 (fun w'=>w'.cell? ⟨f,2,none⟩=some (.slice (some ⟨F.ia,0,none⟩) n n)∧w'.cell? ⟨F.ia,k,none⟩=some (.string s)) (go_keep) (fail)
  go_wp2
  refine bodyPost_ret (v:=.agg #[.int .i64 1,.string {data:=#[]},.int .i64 0,.string s,.slice none 0 0]) (by simp[results,Tryz.results134,go_sem, *]) rfl ?_
  refine⟨.mk 1 mE 0 s none 0 [],q,rfl,ge_var 0 HS.out.1 HS.out.2 _ _,var_in _ _ _,?_,?_⟩
  ·skip
   have hBR:=H.out.size
   have h1:=H1.out
   repeat (first | with_reducible exact h1 | with_reducible refine Fd.far ?_ hBR _ _ | with_reducible refine Fd.drew ?_ | with_reducible refine Fd.drewN ?_ _ | with_reducible refine Fd.alloc ?_ _)
  ·skip
   have h0:=zaa (World.grownBy_alloc w _ (some f)) HG1.out
   repeat (first | with_reducible exact h0 | with_reducible refine zag ?_ (Nat.le_refl _) _ _ | with_reducible refine zal ?_ | with_reducible refine zas ?_ _ | with_reducible refine zad ?_ _)
def Kid (F:FeedC) (B f d:Nat) (left tag:Int) (w w2:World) (T:ET):Prop:=GE F.ns F.ms d T∧(∃q,Fd F B f q left tag w2)∧w.grownBy w2 (some f)∧∃A,w.heap.size < A∧A≤w2.heap.size∧T.In w2 A
theorem kid_of {w w0 w2:World} {d q:Nat} {T:ET} (hT:GE F.ns F.ms d T) (h2:Fd F B f q left tag w2) (hg:w.grownBy w0 (some f)) (hg2:w0.grownBy w2 (some f)) (hin:T.In w2 w0.heap.size) (h0:w.heap.size < w0.heap.size):Kid F B f d left tag w w2 T:=
 ⟨hT,⟨q,h2⟩,zaa hg hg2,w0.heap.size,h0,hg2.size,hin⟩
theorem one_post {w w2 wx:World} {d g:Nat} {T:ET} {k:Int} {o s:ByteArray} (hk:Kid F B f d left tag w w2 T) (hB:B≤w.heap.size)
  (hU:GE F.ns F.ms (d+1) (.mk k o 0 s (some ⟨g,0,none⟩) 1 [T])) (hx:w2.grownBy wx (some w.heap.size)) (hgx:wx.heap.size=g):ExprPost F B f (d+1) left tag w (.returned (.agg #[.int .i64 k,.string o,.int .i64 0,.string s,.slice (some ⟨g,0,none⟩) 1 1])) (wx.alloc (.cells (five T) 68)):=by
 subst hgx
 obtain⟨-,⟨q,h2⟩,hg,A,h0,h0',hin⟩:=hk
 have h3:=zaa hx (World.grownBy_alloc wx (.cells (five T) 68) _)
 refine⟨_,q,rfl,hU,kid_in (hin.keep (zbG hx h0)) (Nat.le_trans h0' hx.size) h0 (zaf _ _) k o s,h2.grownR hB h3,?_⟩
 exact⟨h3.os.trans hg.os,h3.tape.trans hg.tape,h3.output.trans hg.output,Nat.le_trans hg.size h3.size,fun i hi hr=>(h3.block i (Nat.lt_of_lt_of_le hi hg.size) (by simp;omega)).trans (hg.block i hi hr)⟩
theorem post_alloc {w w':World} {d:Nat} {e:Ending} (h:ExprPost F B f d left tag w e w') (o:Obj):ExprPost F B f d left tag w e (w'.alloc o):=by
 obtain⟨T,q,he,hT,hin,h2,hg⟩:=h
 exact⟨T,q,he,hT,hin.on ((Below.refl _ _).alloc (Nat.le_refl _) _),h2.alloc _,zad hg _⟩
end
end Go.Proofs.YtljbbhhiiiepcaaGreatDoor
namespace Go.Proofs.YtljbbhhiiiepcaaGreatDoor
open Go Go.RowKit
open Go.Lib (hid)
section
variable {F:FeedC} {B f:Nat} {left tag:Int}
theorem two_post {w w2 w5 wx:World} {d g q A:Nat} {T U:ET} {o:ByteArray} (hk:Kid F B f d left tag w w2 T) (hB:B≤w.heap.size) (hg5:w2.grownBy w5 (some f)) (h5:Fd F B f q left tag w5) (hU:GE F.ns F.ms d U) (hin5:U.In w5 A) (hA:w.heap.size < A) (hA':A≤w5.heap.size) (hf:f < w.heap.size) (ho:0 < zar o)
  (hx:w5.grownBy wx (some w.heap.size)) (hgx:wx.heap.size=g):ExprPost F B f (d+1) left tag w (.returned (.agg #[.int .i64 4,.string o,.int .i64 0,.string {data:=#[]},.slice (some ⟨g,0,none⟩) 2 2])) (wx.alloc (.cells #[.int .i64 T.kind,.string T.op,.int .i64 T.n,.string T.name,.slice T.kaddr T.kids.length T.kcap,.int .i64 U.kind,.string U.op,.int .i64 U.n,.string U.name,.slice U.kaddr U.kids.length U.kcap] 68)):=by
 subst hgx
 obtain⟨hT,-,hg,A0,h0,h0',hin⟩:=hk
 have h3:=zaa hx (World.grownBy_alloc wx (.cells #[.int .i64 T.kind,.string T.op,.int .i64 T.n,.string T.name,.slice T.kaddr T.kids.length T.kcap,.int .i64 U.kind,.string U.op,.int .i64 U.n,.string U.name,.slice U.kaddr U.kids.length U.kcap] 68) _)
 have hT':=((hin.keep (zbG hg5 (by omega))).keep (zbG h3 h0)).mono (Nat.le_of_lt h0)
 have hU':=(hin5.keep (zbG h3 hA)).mono (Nat.le_of_lt hA)
 have hb:(wx.alloc (.cells #[.int .i64 T.kind,.string T.op,.int .i64 T.n,.string T.name,.slice T.kaddr T.kids.length T.kcap,.int .i64 U.kind,.string U.op,.int .i64 U.n,.string U.name,.slice U.kaddr U.kids.length U.kcap] 68)).heap[wx.heap.size]?=_:=zaj _ _
 have hgw:=zaa hg hg5
 refine⟨.mk 4 o 0 mE (some ⟨wx.heap.size,0,none⟩) 2 [T,U],q,rfl,ge_bin ho hT hU _ _,?_,h5.grownR hB h3,⟨h3.os.trans hgw.os,h3.tape.trans hgw.tape,h3.output.trans hgw.output,Nat.le_trans hgw.size h3.size,fun i hi hr=>(h3.block i (Nat.lt_of_lt_of_le hi hgw.size) (by simp;omega)).trans (hgw.block i hi hr)⟩⟩
 have hwx:w.heap.size≤wx.heap.size:=Nat.le_trans hgw.size hx.size
 rw[ET.In,EsIn,EsIn,EsIn]
 refine⟨by decide,by simp,⟨wx.heap.size,0,rfl,hwx,fun j v hj=>zab hb ?_⟩,hT',⟨wx.heap.size,0,rfl,hwx,fun j v hj=>zab hb ?_⟩,hU',trivial⟩
 all_goals
  rw[ET.cells_is] at hj
  have hj5:j < 5:=by
   rcases Nat.lt_or_ge j 5 with h | h
   ·exact h
   ·rw[Array.getElem?_eq_none (by simpa using h)] at hj;cases hj
  match j,hj5,hj with
  | 0,_,hj=>exact hj
  | 1,_,hj=>exact hj
  | 2,_,hj=>exact hj
  | 3,_,hj=>exact hj
  | 4,_,hj=>exact hj
theorem cellD {w:World} {a:Addr} {v:Value} (h:w.cell? a=some v):w.drew.cell? a=some v:=h
theorem cellA {w:World} {a:Addr} {v:Value} (h:w.cell? a=some v) (o:Obj):(w.alloc o).cell? a=some v:=by
 rw[World.cell?_alloc_some _ _ _ (by rw[h];rfl)];exact h
theorem cellS {w:World} {X R j i:Nat} {u v:Value} (h:w.cell? ⟨X,i,none⟩=some v) (hn:¬R=X):(w.setCell ⟨R,j,none⟩ u).cell? ⟨X,i,none⟩=some v:=by
 rw[World.cell?_setCell_far _ _ _ _ hn];exact h
def OpsW (O:Nat) (w:World):Prop:=∀k,k < 22→w.cell? ⟨O,k,none⟩=some (.string (bopN k))
theorem OpsW.drew {O:Nat} {w:World} (h:∀k,k < 22→w.cell? ⟨O,k,none⟩=some (.string (bopN k))):∀k,k < 22→w.drew.cell? ⟨O,k,none⟩=some (.string (bopN k)):=h
theorem OpsW.alloc {O:Nat} {w:World} (h:∀k,k < 22→w.cell? ⟨O,k,none⟩=some (.string (bopN k))) (o:Obj):∀k,k < 22→(w.alloc o).cell? ⟨O,k,none⟩=some (.string (bopN k)):=fun k hk=>by
 rw[World.cell?_alloc_some _ _ _ (by rw[h k hk];rfl)];exact h k hk
theorem OpsW.set {O R j:Nat} {w:World} {u:Value} (h:∀k,k < 22→w.cell? ⟨O,k,none⟩=some (.string (bopN k))) (hn:¬R=O):∀k,k < 22→(w.setCell ⟨R,j,none⟩ u).cell? ⟨O,k,none⟩=some (.string (bopN k)):=fun k hk=>by
 rw[World.cell?_setCell_far _ _ _ _ hn];exact h k hk
theorem zbl {w w2 wx:World} {d g:Nat} {T:ET} {o:ByteArray} (hk:Kid F B f d left tag w w2 T) (hB:B≤w.heap.size) (ho:unB o=true) (hx:w2.grownBy wx (some w.heap.size)) (hgx:wx.heap.size=g):ExprPost F B f (d+1) left tag w (.returned (.agg #[.int .i64 3,.string o,.int .i64 0,.string {data:=#[]},.slice (some ⟨g,0,none⟩) 1 1])) (wx.alloc (.cells #[.int .i64 T.kind,.string T.op,.int .i64 T.n,.string T.name,.slice T.kaddr T.kids.length T.kcap] 68)):=
 one_post hk hB (ge_un ho hk.1 _ _) hx hgx
theorem feedE_succ (d p:Nat) (hd:d≤9) (ih:∀(p:Nat) (w:World),Fd F B f p left tag w→Calls Tryz.prog 134 #[.pointer (some ⟨f,0,none⟩),.int .i64 d] w (ExprPost F B f d left tag w))
  (w:World) (h:Fd F B f p left tag w):Calls Tryz.prog 134 #[.pointer (some ⟨f,0,none⟩),.int .i64 ((d:Int)+1)] w (ExprPost F B f (d+1) left tag w):=by
 have HB:f < w.heap.size:=by have:=h.lt;have:=h.size;omega
 have H:=hid h
 have IH:=hid ih
 have k9:decide ((d:Int)+1 < 1)=false:=by simp;omega
 have k8:IntKind.i64.wrap ((d:Int)+1 - 1)=d:=by rw[Int.add_sub_cancel];exact IntWalk.i64_in _ (by omega)
 have k7:IntKind.i64.wrap (d:Int)=d:=IntWalk.i64_in _ (by omega)
 clear h ih
 go_enter Tryz.func134,Tryz.ntmps134
 go_wp2_with (go_at_call 133;have hx:=next_any (H.out.alloc (.cells #[.int .i64 0,.string {data:=#[]},.int .i64 0,.string {data:=#[]},.slice none 0 0] 68));refine hx.mono ?_;clear hx;rintro e w1 ⟨v,q,rfl,⟨v0,v1⟩,h1,hg1⟩;have hR:=(hg1.block w.heap.size (by simp) (by simp;omega)).trans (zaj w _);have hn:=fnum_cell w1 v;obtain⟨r0,r1,r2,r3,r4⟩:=zbp hR;have z0:=zac (k:=0) hR;have z1:=zac (k:=1) hR;have z2:=zac (k:=2) hR;have z3:=zac (k:=3) hR;have z4:=zac (k:=4) hR;have HR:=hid hR;have H1:=hid h1;have HG1:=hid hg1;have hlt:w.heap.size < w1.heap.size:=lt_of_block hR;clear h1 hg1 hR)
 ·refine bodyPost_ret (v:=.agg #[.int .i64 0,.string {data:=#[]},.int .i64 (fnum v),.string {data:=#[]},.slice none 0 0]) (by simp[results,Tryz.results134,go_sem, *]) rfl ?_
  refine⟨.mk 0 mE (fnum v) mE none 0 [],q,rfl,ge_num (d+1) _ (fnum_in v) _ _,num_in (fnum_in v) _ _,?_,?_⟩
  ·clear hn
   have hBR:=H.out.size
   have h1:=H1.out
   repeat (first | with_reducible exact h1 | with_reducible refine Fd.far ?_ hBR _ _ | with_reducible refine Fd.drew ?_ | with_reducible refine Fd.drewN ?_ _ | with_reducible refine Fd.alloc ?_ _)
  ·clear hn
   have h0:=zaa (World.grownBy_alloc w _ (some f)) HG1.out
   repeat (first | with_reducible exact h0 | with_reducible refine zag ?_ (Nat.le_refl _) _ _ | with_reducible refine zal ?_ | with_reducible refine zas ?_ _ | with_reducible refine zad ?_ _)
 ·obtain⟨k,n,s,hn0,hn1,hn2,hk,hv,hs,hnm,hc⟩:=zb1 H1.out.ints v0
  have c2:=H1.out.c2
  rw[hn0] at c2
  have HS:=hid hnm
  clear hn0 hs hnm hn
  have t1:(v.tdiv 16).tmod n=k:=by rw[←hv,Int.tdiv_eq_ediv_of_nonneg v0,Int.tmod_eq_emod_of_nonneg (by omega)]
  have t2:(v / 16).tmod n=k:=by rw[←hv,Int.tmod_eq_emod_of_nonneg (by omega)]
  have ne1:¬w.heap.size=f:=by omega
  have ne2:¬w.heap.size=F.ia:=by have:=H1.out.ints.1;have:=H1.out.ints.2.1;have:=H.out.size;omega
  have n0:((n:Int)==0)=false:=by simp;omega
  have u1:IntKind.i64.wrap (v.tdiv 16)=v / 16:=by rw[Int.tdiv_eq_ediv_of_nonneg v0];exact IntWalk.i64_in _ (by omega)
  have u3:(IntKind.i64.wrap (v.tdiv 16)).tmod n=k:=by rw[u1];exact t2
  have u4:IntKind.i64.wrap (v / 16)=v / 16:=IntWalk.i64_in _ (by omega)
  have n3:(n==0)=false:=by simp;omega
  have n4:¬n=0:=by omega
  have n5:(0:Int) < n:=by omega
  have k0:(0:Int)≤k:=by omega
  have k1:(k:Int) < n:=by omega
  go_region_held3 (fun w'=>w'.cell? ⟨f,2,none⟩=some (.slice (some ⟨F.ia,0,none⟩) n n)∧w'.cell? ⟨F.ia,k,none⟩=some (.string s)) (go_keep) (fail)
  go_wp2
  refine bodyPost_ret (v:=.agg #[.int .i64 1,.string {data:=#[]},.int .i64 0,.string s,.slice none 0 0]) (by simp[results,Tryz.results134,go_sem, *]) rfl ?_
  refine⟨.mk 1 mE 0 s none 0 [],q,rfl,ge_var (d+1) HS.out.1 HS.out.2 _ _,var_in _ _ _,?_,?_⟩
  ·skip
   have hBR:=H.out.size
   have h1:=H1.out
   repeat (first | with_reducible exact h1 | with_reducible refine Fd.far ?_ hBR _ _ | with_reducible refine Fd.drew ?_ | with_reducible refine Fd.drewN ?_ _ | with_reducible refine Fd.alloc ?_ _)
  ·skip
   have h0:=zaa (World.grownBy_alloc w _ (some f)) HG1.out
   repeat (first | with_reducible exact h0 | with_reducible refine zag ?_ (Nat.le_refl _) _ _ | with_reducible refine zal ?_ | with_reducible refine zas ?_ _ | with_reducible refine zad ?_ _)
 ·obtain⟨k,n,s,hn0,hn1,hn2,hk,hv,hs,hnm,hc⟩:=zb1 H1.out.arrs v0
  have c3:=H1.out.c3
  rw[hn0] at c3
  have HN:=hid hn0
  have HS:=hid hnm
  clear hn0 hs hnm hn
  have t1:(v.tdiv 16).tmod n=k:=by rw[←hv,Int.tdiv_eq_ediv_of_nonneg v0,Int.tmod_eq_emod_of_nonneg (by omega)]
  have t2:(v / 16).tmod n=k:=by rw[←hv,Int.tmod_eq_emod_of_nonneg (by omega)]
  have ne1:¬w.heap.size=f:=by omega
  have ne2:¬w.heap.size=F.xa:=by have:=H1.out.arrs.1;have:=H1.out.arrs.2.1;have:=H.out.size;omega
  have NX:Hid (F.xa≠f):=hid H1.out.arrs.2.1
  have n0:((n:Int)==0)=false:=by simp;omega
  have u1:IntKind.i64.wrap (v.tdiv 16)=v / 16:=by rw[Int.tdiv_eq_ediv_of_nonneg v0];exact IntWalk.i64_in _ (by omega)
  have u3:(IntKind.i64.wrap (v.tdiv 16)).tmod n=k:=by rw[u1];exact t2
  have u4:IntKind.i64.wrap (v / 16)=v / 16:=IntWalk.i64_in _ (by omega)
  have n3:(n==0)=false:=by simp;omega
  have n4:¬n=0:=by omega
  have n5:(0:Int) < n:=by omega
  have k0:(0:Int)≤k:=by omega
  have k1:(k:Int) < n:=by omega
  go_region_held3 (fun w'=>w'.cell? ⟨f,3,none⟩=some (.slice (some ⟨F.xa,0,none⟩) n n)∧w'.cell? ⟨F.xa,k,none⟩=some (.string s)) (go_keep)
   ((go_at_call 134;have hx:=IH.out q _ H1.out.drew;refine hx.mono ?_;clear hx;rintro e w2 ⟨T,q2,he,hT,hin,h2,hg2⟩;rw[ET.val_is] at he;subst he;have d3:=h2.c3;rw[HN.out] at d3;have dc:w2.cell? ⟨F.xa,k,none⟩=some (.string s):=hg2.cell (a:=⟨F.xa,k,none⟩) hc (by have:=NX.out;simp;omega);have hR2:=(hg2.block w.heap.size hlt (by simp;omega)).trans HR.out;obtain⟨s0,s1,s2,s3,s4⟩:=zbp hR2;have y0:=zac (k:=0) hR2;have y1:=zac (k:=1) hR2;have y2:=zac (k:=2) hR2;have y3:=zac (k:=3) hR2;have y4:=zac (k:=4) hR2;have HR2:=hid hR2;have HK:=hid (kid_of hT h2 (zal (zaa (World.grownBy_alloc w _ (some f)) HG1.out)) hg2 hin hlt);have hlt2:w.heap.size < w2.heap.size:=lt_of_block hR2;clear h2 hg2 hR2 hin hT))
  go_wp2
  refine bodyPost_ret (v:=.agg #[.int .i64 2,.string {data:=#[]},.int .i64 0,.string s,.slice (some ⟨w2.heap.size,0,none⟩) 1 1]) (by simp[results,Tryz.results134,go_sem, *]) rfl ?_
  refine one_post (T:=T) (k:=2) (o:=mE) (s:=s) (g:=w2.heap.size) HK.out H.out.size (ge_idx HS.out.1 HS.out.2 (show GE F.ns F.ms d T from And.left HK.out) _ _) ?_ ?_
  ·have h0:=zaf w2 (some w.heap.size)
   repeat (first | with_reducible exact h0 | with_reducible refine zat ?_ _ _ | with_reducible refine zal ?_)
  ·simp
 ·have t2:(v / 16).tmod 3=v / 16 % 3:=Int.tmod_eq_emod_of_nonneg (by omega)
  have u1:IntKind.i64.wrap (v.tdiv 16)=v / 16:=by rw[Int.tdiv_eq_ediv_of_nonneg v0];exact IntWalk.i64_in _ (by omega)
  have u3:(IntKind.i64.wrap (v.tdiv 16)).tmod 3=v / 16 % 3:=by rw[u1];exact t2
  have u4:IntKind.i64.wrap (v / 16)=v / 16:=IntWalk.i64_in _ (by omega)
  have NF:Hid (f < w.heap.size):=hid HB
  clear hn
  obtain hv | hv | hv:v / 16 % 3=0∨v / 16 % 3=1∨v / 16 % 3=2:=by omega
  ·rw[hv] at t2 u3
   go_region_with
   (first
    | (go_at_call 134;have hx:=IH.out q _ H1.out.drew;((with_reducible refine hx.mono ?_);clear hx;rintro e w2 ⟨T,q2,he,hT,hin,h2,hg2⟩);rw[ET.val_is] at he;subst he;have hR2:=(hg2.block w.heap.size hlt (by have:=NF.out;simp;omega)).trans HR.out;obtain⟨s0,s1,s2,s3,s4⟩:=zbp hR2;have y0:=zac (k:=0) hR2;have y1:=zac (k:=1) hR2;have y2:=zac (k:=2) hR2;have y3:=zac (k:=3) hR2;have y4:=zac (k:=4) hR2;have HR2:=hid hR2;have HK:=hid (kid_of hT h2 (zal (zaa (World.grownBy_alloc w _ (some f)) HG1.out)) hg2 hin hlt);have hlt2:w.heap.size < w2.heap.size:=lt_of_block hR2;clear h2 hg2 hR2 hin hT)
    | (go_at_call 134;have hx:=IH.out q _ (H1.out.alloc (.cells #[.string {data:=#[45]},.string {data:=#[126]},.string {data:=#[33]}] 9)).drew;((with_reducible refine hx.mono ?_);clear hx;rintro e w2 ⟨T,q2,he,hT,hin,h2,hg2⟩);rw[ET.val_is] at he;subst he;have hR3:=(hg2.block w1.heap.size (by simp) (by have:=NF.out;simp;omega)).trans (zaj _ _);have q0:w2.cell? ⟨w1.heap.size,0,none⟩=some (.string {data:=#[45]}):=zab hR3 rfl;have q1:w2.cell? ⟨w1.heap.size,1,none⟩=some (.string {data:=#[126]}):=zab hR3 rfl;have q2:w2.cell? ⟨w1.heap.size,2,none⟩=some (.string {data:=#[33]}):=zab hR3 rfl;have hlt3:w1.heap.size < w2.heap.size:=lt_of_block hR3;clear hR3;have hR2:=(hg2.block w.heap.size (by simp;omega) (by have:=NF.out;simp;omega)).trans (zai _ HR.out);obtain⟨s0,s1,s2,s3,s4⟩:=zbp hR2;have y0:=zac (k:=0) hR2;have y1:=zac (k:=1) hR2;have y2:=zac (k:=2) hR2;have y3:=zac (k:=3) hR2;have y4:=zac (k:=4) hR2;have HR2:=hid hR2;have HK:=hid (kid_of hT h2 (zal (zad (zaa (World.grownBy_alloc w _ (some f)) HG1.out) _)) hg2 hin (by simp;omega));have hlt2:w.heap.size < w2.heap.size:=lt_of_block hR2;clear h2 hg2 hR2 hin hT))
   all_goals go_wp2
   ·refine bodyPost_ret (v:=.agg #[.int .i64 3,.string {data:=#[45]},.int .i64 0,.string {data:=#[]},.slice (some ⟨w2.heap.size,0,none⟩) 1 1]) (by simp[results,Tryz.results134,go_sem, *]) rfl ?_
    refine zbl HK.out H.out.size rfl ?_ (by simp)
    have h0:=zaf w2 (some w.heap.size)
    repeat (first | with_reducible exact h0 | with_reducible refine zat ?_ _ _ | with_reducible refine zal ?_ | with_reducible refine zad ?_ _)
   ·refine bodyPost_ret (v:=.agg #[.int .i64 3,.string {data:=#[45]},.int .i64 0,.string {data:=#[]},.slice (some ⟨w2.heap.size,0,none⟩) 1 1]) (by simp[results,Tryz.results134,go_sem, *]) rfl ?_
    refine zbl HK.out H.out.size rfl ?_ (by simp)
    have h0:=zaf w2 (some w.heap.size)
    repeat (first | with_reducible exact h0 | with_reducible refine zat ?_ _ _ | with_reducible refine zal ?_ | with_reducible refine zad ?_ _)
   ·refine bodyPost_ret (v:=.agg #[.int .i64 3,.string {data:=#[45]},.int .i64 0,.string {data:=#[]},.slice (some ⟨w2.heap.size,0,none⟩) 1 1]) (by simp[results,Tryz.results134,go_sem, *]) rfl ?_
    refine zbl HK.out H.out.size rfl ?_ (by simp)
    have h0:=zaf w2 (some w.heap.size)
    repeat (first | with_reducible exact h0 | with_reducible refine zat ?_ _ _ | with_reducible refine zal ?_ | with_reducible refine zad ?_ _)
   ·refine bodyPost_ret (v:=.agg #[.int .i64 3,.string {data:=#[45]},.int .i64 0,.string {data:=#[]},.slice (some ⟨w2.heap.size+1,0,none⟩) 1 1]) (by simp[results,Tryz.results134,go_sem, *]) rfl ?_
    refine zbl HK.out H.out.size rfl ?_ (by simp)
    have h0:=zaf w2 (some w.heap.size)
    repeat (first | with_reducible exact h0 | with_reducible refine zat ?_ _ _ | with_reducible refine zal ?_ | with_reducible refine zad ?_ _)
   ·refine bodyPost_ret (v:=.agg #[.int .i64 3,.string {data:=#[45]},.int .i64 0,.string {data:=#[]},.slice (some ⟨w2.heap.size+1,0,none⟩) 1 1]) (by simp[results,Tryz.results134,go_sem, *]) rfl ?_
    refine zbl HK.out H.out.size rfl ?_ (by simp)
    have h0:=zaf w2 (some w.heap.size)
    repeat (first | with_reducible exact h0 | with_reducible refine zat ?_ _ _ | with_reducible refine zal ?_ | with_reducible refine zad ?_ _)
   ·refine bodyPost_ret (v:=.agg #[.int .i64 3,.string {data:=#[45]},.int .i64 0,.string {data:=#[]},.slice (some ⟨w2.heap.size,0,none⟩) 1 1]) (by simp[results,Tryz.results134,go_sem, *]) rfl ?_
    refine post_alloc ?_ _
    refine zbl HK.out H.out.size rfl ?_ (by simp)
    have h0:=zaf w2 (some w.heap.size)
    repeat (first | with_reducible exact h0 | with_reducible refine zat ?_ _ _ | with_reducible refine zal ?_ | with_reducible refine zad ?_ _)
  ·rw[hv] at t2 u3
   go_region_with
   (first
    | (go_at_call 134;have hx:=IH.out q _ H1.out.drew;((with_reducible refine hx.mono ?_);clear hx;rintro e w2 ⟨T,q2,he,hT,hin,h2,hg2⟩);rw[ET.val_is] at he;subst he;have hR2:=(hg2.block w.heap.size hlt (by have:=NF.out;simp;omega)).trans HR.out;obtain⟨s0,s1,s2,s3,s4⟩:=zbp hR2;have y0:=zac (k:=0) hR2;have y1:=zac (k:=1) hR2;have y2:=zac (k:=2) hR2;have y3:=zac (k:=3) hR2;have y4:=zac (k:=4) hR2;have HR2:=hid hR2;have HK:=hid (kid_of hT h2 (zal (zaa (World.grownBy_alloc w _ (some f)) HG1.out)) hg2 hin hlt);have hlt2:w.heap.size < w2.heap.size:=lt_of_block hR2;clear h2 hg2 hR2 hin hT)
    | (go_at_call 134;have hx:=IH.out q _ (H1.out.alloc (.cells #[.string {data:=#[45]},.string {data:=#[126]},.string {data:=#[33]}] 9)).drew;((with_reducible refine hx.mono ?_);clear hx;rintro e w2 ⟨T,q2,he,hT,hin,h2,hg2⟩);rw[ET.val_is] at he;subst he;have hR3:=(hg2.block w1.heap.size (by simp) (by have:=NF.out;simp;omega)).trans (zaj _ _);have q0:w2.cell? ⟨w1.heap.size,0,none⟩=some (.string {data:=#[45]}):=zab hR3 rfl;have q1:w2.cell? ⟨w1.heap.size,1,none⟩=some (.string {data:=#[126]}):=zab hR3 rfl;have q2:w2.cell? ⟨w1.heap.size,2,none⟩=some (.string {data:=#[33]}):=zab hR3 rfl;have hlt3:w1.heap.size < w2.heap.size:=lt_of_block hR3;clear hR3;have hR2:=(hg2.block w.heap.size (by simp;omega) (by have:=NF.out;simp;omega)).trans (zai _ HR.out);obtain⟨s0,s1,s2,s3,s4⟩:=zbp hR2;have y0:=zac (k:=0) hR2;have y1:=zac (k:=1) hR2;have y2:=zac (k:=2) hR2;have y3:=zac (k:=3) hR2;have y4:=zac (k:=4) hR2;have HR2:=hid hR2;have HK:=hid (kid_of hT h2 (zal (zad (zaa (World.grownBy_alloc w _ (some f)) HG1.out) _)) hg2 hin (by simp;omega));have hlt2:w.heap.size < w2.heap.size:=lt_of_block hR2;clear h2 hg2 hR2 hin hT))
   all_goals go_wp2
   ·refine bodyPost_ret (v:=.agg #[.int .i64 3,.string {data:=#[126]},.int .i64 0,.string {data:=#[]},.slice (some ⟨w2.heap.size,0,none⟩) 1 1]) (by simp[results,Tryz.results134,go_sem, *]) rfl ?_
    refine zbl HK.out H.out.size rfl ?_ (by simp)
    have h0:=zaf w2 (some w.heap.size)
    repeat (first | with_reducible exact h0 | with_reducible refine zat ?_ _ _ | with_reducible refine zal ?_ | with_reducible refine zad ?_ _)
   ·refine bodyPost_ret (v:=.agg #[.int .i64 3,.string {data:=#[126]},.int .i64 0,.string {data:=#[]},.slice (some ⟨w2.heap.size,0,none⟩) 1 1]) (by simp[results,Tryz.results134,go_sem, *]) rfl ?_
    refine zbl HK.out H.out.size rfl ?_ (by simp)
    have h0:=zaf w2 (some w.heap.size)
    repeat (first | with_reducible exact h0 | with_reducible refine zat ?_ _ _ | with_reducible refine zal ?_ | with_reducible refine zad ?_ _)
   ·refine bodyPost_ret (v:=.agg #[.int .i64 3,.string {data:=#[126]},.int .i64 0,.string {data:=#[]},.slice (some ⟨w2.heap.size,0,none⟩) 1 1]) (by simp[results,Tryz.results134,go_sem, *]) rfl ?_
    refine zbl HK.out H.out.size rfl ?_ (by simp)
    have h0:=zaf w2 (some w.heap.size)
    repeat (first | with_reducible exact h0 | with_reducible refine zat ?_ _ _ | with_reducible refine zal ?_ | with_reducible refine zad ?_ _)
   ·refine bodyPost_ret (v:=.agg #[.int .i64 3,.string {data:=#[126]},.int .i64 0,.string {data:=#[]},.slice (some ⟨w2.heap.size+1,0,none⟩) 1 1]) (by simp[results,Tryz.results134,go_sem, *]) rfl ?_
    refine zbl HK.out H.out.size rfl ?_ (by simp)
    have h0:=zaf w2 (some w.heap.size)
    repeat (first | with_reducible exact h0 | with_reducible refine zat ?_ _ _ | with_reducible refine zal ?_ | with_reducible refine zad ?_ _)
   ·refine bodyPost_ret (v:=.agg #[.int .i64 3,.string {data:=#[126]},.int .i64 0,.string {data:=#[]},.slice (some ⟨w2.heap.size+1,0,none⟩) 1 1]) (by simp[results,Tryz.results134,go_sem, *]) rfl ?_
    refine zbl HK.out H.out.size rfl ?_ (by simp)
    have h0:=zaf w2 (some w.heap.size)
    repeat (first | with_reducible exact h0 | with_reducible refine zat ?_ _ _ | with_reducible refine zal ?_ | with_reducible refine zad ?_ _)
   ·refine bodyPost_ret (v:=.agg #[.int .i64 3,.string {data:=#[126]},.int .i64 0,.string {data:=#[]},.slice (some ⟨w2.heap.size,0,none⟩) 1 1]) (by simp[results,Tryz.results134,go_sem, *]) rfl ?_
    refine post_alloc ?_ _
    refine zbl HK.out H.out.size rfl ?_ (by simp)
    have h0:=zaf w2 (some w.heap.size)
    repeat (first | with_reducible exact h0 | with_reducible refine zat ?_ _ _ | with_reducible refine zal ?_ | with_reducible refine zad ?_ _)
  ·rw[hv] at t2 u3
   go_region_with
   (first
    | (go_at_call 134;have hx:=IH.out q _ H1.out.drew;((with_reducible refine hx.mono ?_);clear hx;rintro e w2 ⟨T,q2,he,hT,hin,h2,hg2⟩);rw[ET.val_is] at he;subst he;have hR2:=(hg2.block w.heap.size hlt (by have:=NF.out;simp;omega)).trans HR.out;obtain⟨s0,s1,s2,s3,s4⟩:=zbp hR2;have y0:=zac (k:=0) hR2;have y1:=zac (k:=1) hR2;have y2:=zac (k:=2) hR2;have y3:=zac (k:=3) hR2;have y4:=zac (k:=4) hR2;have HR2:=hid hR2;have HK:=hid (kid_of hT h2 (zal (zaa (World.grownBy_alloc w _ (some f)) HG1.out)) hg2 hin hlt);have hlt2:w.heap.size < w2.heap.size:=lt_of_block hR2;clear h2 hg2 hR2 hin hT)
    | (go_at_call 134;have hx:=IH.out q _ (H1.out.alloc (.cells #[.string {data:=#[45]},.string {data:=#[126]},.string {data:=#[33]}] 9)).drew;((with_reducible refine hx.mono ?_);clear hx;rintro e w2 ⟨T,q2,he,hT,hin,h2,hg2⟩);rw[ET.val_is] at he;subst he;have hR3:=(hg2.block w1.heap.size (by simp) (by have:=NF.out;simp;omega)).trans (zaj _ _);have q0:w2.cell? ⟨w1.heap.size,0,none⟩=some (.string {data:=#[45]}):=zab hR3 rfl;have q1:w2.cell? ⟨w1.heap.size,1,none⟩=some (.string {data:=#[126]}):=zab hR3 rfl;have q2:w2.cell? ⟨w1.heap.size,2,none⟩=some (.string {data:=#[33]}):=zab hR3 rfl;have hlt3:w1.heap.size < w2.heap.size:=lt_of_block hR3;clear hR3;have hR2:=(hg2.block w.heap.size (by simp;omega) (by have:=NF.out;simp;omega)).trans (zai _ HR.out);obtain⟨s0,s1,s2,s3,s4⟩:=zbp hR2;have y0:=zac (k:=0) hR2;have y1:=zac (k:=1) hR2;have y2:=zac (k:=2) hR2;have y3:=zac (k:=3) hR2;have y4:=zac (k:=4) hR2;have HR2:=hid hR2;have HK:=hid (kid_of hT h2 (zal (zad (zaa (World.grownBy_alloc w _ (some f)) HG1.out) _)) hg2 hin (by simp;omega));have hlt2:w.heap.size < w2.heap.size:=lt_of_block hR2;clear h2 hg2 hR2 hin hT))
   all_goals go_wp2
   ·refine bodyPost_ret (v:=.agg #[.int .i64 3,.string {data:=#[33]},.int .i64 0,.string {data:=#[]},.slice (some ⟨w2.heap.size,0,none⟩) 1 1]) (by simp[results,Tryz.results134,go_sem, *]) rfl ?_
    refine zbl HK.out H.out.size rfl ?_ (by simp)
    have h0:=zaf w2 (some w.heap.size)
    repeat (first | with_reducible exact h0 | with_reducible refine zat ?_ _ _ | with_reducible refine zal ?_ | with_reducible refine zad ?_ _)
   ·refine bodyPost_ret (v:=.agg #[.int .i64 3,.string {data:=#[33]},.int .i64 0,.string {data:=#[]},.slice (some ⟨w2.heap.size,0,none⟩) 1 1]) (by simp[results,Tryz.results134,go_sem, *]) rfl ?_
    refine zbl HK.out H.out.size rfl ?_ (by simp)
    have h0:=zaf w2 (some w.heap.size)
    repeat (first | with_reducible exact h0 | with_reducible refine zat ?_ _ _ | with_reducible refine zal ?_ | with_reducible refine zad ?_ _)
   ·refine bodyPost_ret (v:=.agg #[.int .i64 3,.string {data:=#[33]},.int .i64 0,.string {data:=#[]},.slice (some ⟨w2.heap.size,0,none⟩) 1 1]) (by simp[results,Tryz.results134,go_sem, *]) rfl ?_
    refine zbl HK.out H.out.size rfl ?_ (by simp)
    have h0:=zaf w2 (some w.heap.size)
    repeat (first | with_reducible exact h0 | with_reducible refine zat ?_ _ _ | with_reducible refine zal ?_ | with_reducible refine zad ?_ _)
   ·refine bodyPost_ret (v:=.agg #[.int .i64 3,.string {data:=#[33]},.int .i64 0,.string {data:=#[]},.slice (some ⟨w2.heap.size+1,0,none⟩) 1 1]) (by simp[results,Tryz.results134,go_sem, *]) rfl ?_
    refine zbl HK.out H.out.size rfl ?_ (by simp)
    have h0:=zaf w2 (some w.heap.size)
    repeat (first | with_reducible exact h0 | with_reducible refine zat ?_ _ _ | with_reducible refine zal ?_ | with_reducible refine zad ?_ _)
   ·refine bodyPost_ret (v:=.agg #[.int .i64 3,.string {data:=#[33]},.int .i64 0,.string {data:=#[]},.slice (some ⟨w2.heap.size+1,0,none⟩) 1 1]) (by simp[results,Tryz.results134,go_sem, *]) rfl ?_
    refine zbl HK.out H.out.size rfl ?_ (by simp)
    have h0:=zaf w2 (some w.heap.size)
    repeat (first | with_reducible exact h0 | with_reducible refine zat ?_ _ _ | with_reducible refine zal ?_ | with_reducible refine zad ?_ _)
   ·refine bodyPost_ret (v:=.agg #[.int .i64 3,.string {data:=#[33]},.int .i64 0,.string {data:=#[]},.slice (some ⟨w2.heap.size,0,none⟩) 1 1]) (by simp[results,Tryz.results134,go_sem, *]) rfl ?_
    refine post_alloc ?_ _
    refine zbl HK.out H.out.size rfl ?_ (by simp)
    have h0:=zaf w2 (some w.heap.size)
    repeat (first | with_reducible exact h0 | with_reducible refine zat ?_ _ _ | with_reducible refine zal ?_ | with_reducible refine zad ?_ _)
 ·have hx:=IH.out q _ (H1.out.alloc (.cells bopC 9))
  refine hx.mono ?_
  clear hx
  rintro e w2 ⟨T,q2,he,hT,hin,h2,hg2⟩
  rw[ET.val_is] at he
  subst he
  have NF:Hid (f < w.heap.size):=hid HB
  have hO:=(hg2.block w1.heap.size (by simp) (by simp;omega)).trans (zaj _ _)
  have hR2:=(hg2.block w.heap.size (by simp;omega) (by simp;omega)).trans (zai _ HR.out)
  have HK:=hid (kid_of hT h2 (zad (zaa (World.grownBy_alloc w _ (some f)) HG1.out) _) hg2 hin (by simp;omega))
  have hlt3:w1.heap.size < w2.heap.size:=lt_of_block hO
  clear r0 r1 r2 r3 r4 z0 z1 z2 z3 z4 hn hin hT
  have HG2:=hid hg2
  have H2:=hid h2
  have HO2:=hid hO
  have HR2:=hid hR2
  clear hg2 h2 hO hR2
  go_wp2
  have HX:Hid ((w2.alloc (.cells #[.int .i64 T.kind,.string T.op,.int .i64 T.n,.string T.name,.slice T.kaddr T.kids.length T.kcap] 68)).heap[w2.heap.size]?=some (.cells #[.int .i64 T.kind,.string T.op,.int .i64 T.n,.string T.name,.slice T.kaddr T.kids.length T.kcap] 68 (0,0))):=hid (zaj _ _)
  have HO3:=hid (zai (.cells #[.int .i64 T.kind,.string T.op,.int .i64 T.n,.string T.name,.slice T.kaddr T.kids.length T.kcap] 68) HO2.out)
  have HR3:=hid (zai (.cells #[.int .i64 T.kind,.string T.op,.int .i64 T.n,.string T.name,.slice T.kaddr T.kids.length T.kcap] 68) HR2.out)
  have H3:=hid (H2.out.alloc (.cells #[.int .i64 T.kind,.string T.op,.int .i64 T.n,.string T.name,.slice T.kaddr T.kids.length T.kcap] 68))
  have HG3:=hid (World.grownBy_alloc w2 (.cells #[.int .i64 T.kind,.string T.op,.int .i64 T.n,.string T.name,.slice T.kaddr T.kids.length T.kcap] 68) (some f))
  have HS3:Hid (w.heap.size < w1.heap.size∧w1.heap.size < w2.heap.size):=hid ⟨hlt,hlt3⟩
  have HXn:Hid (w2.heap.size < (w2.alloc (.cells #[.int .i64 T.kind,.string T.op,.int .i64 T.n,.string T.name,.slice T.kaddr T.kids.length T.kcap] 68)).heap.size):=hid (by simp)
  clear HO2 HR2 H2 HR H1 HG1 HG2 hlt hlt3
  generalize (w2.alloc (.cells #[.int .i64 T.kind,.string T.op,.int .i64 T.n,.string T.name,.slice T.kaddr T.kids.length T.kcap] 68))=w3 at HX HO3 HR3 H3 HG3 HXn ⊢
  generalize w2.heap.size=X at HX HS3 HXn ⊢
  generalize w1.heap.size=O at HO3 HS3 ⊢
  obtain⟨x0,x1,x2,x3,x4⟩:=zbp HX.out
  have ho:∀k,k < 22→w3.cell? ⟨O,k,none⟩=some (.string (bopN k)):=fun k hk=>zab HO3.out (bopC_at k hk)
  have ne1:¬w.heap.size=X:=by have:=HS3.out;omega
  have ne2:¬w.heap.size=O:=by have:=HS3.out;omega
  go_region_held3 (fun w'=>(w'.cell? ⟨X,0,none⟩=some (.int .i64 T.kind)∧w'.cell? ⟨X,1,none⟩=some (.string T.op)∧w'.cell? ⟨X,2,none⟩=some (.int .i64 T.n)∧w'.cell? ⟨X,3,none⟩=some (.string T.name)∧w'.cell? ⟨X,4,none⟩=some (.slice T.kaddr T.kids.length T.kcap))∧∀k,k < 22→w'.cell? ⟨O,k,none⟩=some (.string (bopN k))) ((refine⟨⟨?_,?_,?_,?_,?_⟩,?_⟩<;>(repeat (first | with_reducible assumption | with_reducible refine OpsW.drew ?_ | with_reducible refine OpsW.alloc ?_ _ | with_reducible refine OpsW.set ?_ ne2 | with_reducible refine cellD ?_ | with_reducible refine cellA ?_ _ | with_reducible refine cellS ?_ ne1))))
   (first
    | (go_at_call 133;have hx:=next_any H3.out.drew;((with_reducible refine hx.mono ?_);clear hx;rintro e w4 ⟨v2,q3,rfl,⟨b0,b1⟩,h4,hg4⟩);have hX4:=(hg4.block X (lt_of_block HX.out) (by have:=HS3.out;have:=NF.out;simp;omega)).trans HX.out;have hO4:=(hg4.block O (lt_of_block HO3.out) (by have:=HS3.out;have:=NF.out;simp;omega)).trans HO3.out;have hR4:=(hg4.block w.heap.size (lt_of_block HR3.out) (by have:=NF.out;simp;omega)).trans HR3.out;obtain⟨xx0,xx1,xx2,xx3,xx4⟩:=zbp hX4;have ho4:∀k,k < 22→w4.cell? ⟨O,k,none⟩=some (.string (bopN k)):=(fun k hk=>zab hO4 (bopC_at k hk));have HX4:=hid hX4;have HO4:=hid hO4;have HR4:=hid hR4;have H4:=hid h4;have HG4:=hid hg4;obtain⟨k2,hk2,hv2⟩:∃k2:Nat,k2 < 22∧v2.tmod 22=k2:=⟨(v2 % 22).toNat,by omega,by rw[Int.tmod_eq_emod_of_nonneg b0];omega⟩;have hv3:v2 % 22=k2:=(by rw[←Int.tmod_eq_emod_of_nonneg b0];exact hv2);have i0:(0:Int)≤k2:=(by omega);have i1:(k2:Int) < 22:=(by omega);clear hX4 hO4 hR4 h4 hg4)
    | (go_at_call 134;have hx:=IH.out q3 _ H4.out;((with_reducible refine hx.mono ?_);clear hx;rintro e w5 ⟨U,q5,he,hU,hin5,h5,hg5⟩);rw[ET.val_is] at he;subst he;have hX5:=(hg5.block X (lt_of_block HX4.out) (by have:=HS3.out;have:=NF.out;simp;omega)).trans HX4.out;have hO5:=(hg5.block O (lt_of_block HO4.out) (by have:=HS3.out;have:=NF.out;simp;omega)).trans HO4.out;have hR5:=(hg5.block w.heap.size (lt_of_block HR4.out) (by have:=NF.out;simp;omega)).trans HR4.out;obtain⟨y0,y1,y2,y3,y4⟩:=zbp hX5;have ho5:∀k,k < 22→w5.cell? ⟨O,k,none⟩=some (.string (bopN k)):=(fun k hk=>zab hO5 (bopC_at k hk));obtain⟨s0,s1,s2,s3,s4⟩:=zbp hR5;have z0:=zac (k:=0) hR5;have z1:=zac (k:=1) hR5;have z2:=zac (k:=2) hR5;have z3:=zac (k:=3) hR5;have z4:=zac (k:=4) hR5;have HR5:=hid hR5;have H5:=hid h5;have HG5:=hid hg5;have HU:=hid (And.intro hU hin5);have hlt5:w.heap.size < w5.heap.size:=lt_of_block hR5;clear hX5 hO5 hR5 h5 hg5 hU hin5))
  have HLE:=hid (bopN_lev k2 hk2)
  clear ho ho4 ho5
  go_wp2
  refine bodyPost_ret (v:=.agg #[.int .i64 4,.string (bopN k2),.int .i64 0,.string {data:=#[]},.slice (some ⟨w5.heap.size,0,none⟩) 2 2]) (by simp[results,Tryz.results134,go_sem, *]) rfl ?_
  have e1:w2.grownBy w3 (some f):=HG3.out
  have e2:w3.grownBy w3.drew (some f):=zal (zaf w3 (some f))
  have e3:w3.drew.grownBy w4 (some f):=HG4.out
  have e4:w4.grownBy w5 (some f):=HG5.out
  have hgg:w2.grownBy w5 (some f):=zaa e1 (zaa e2 (zaa e3 e4))
  have hRA:w.heap.size < w4.heap.size:=lt_of_block HR4.out
  have hP:=fun wx g hx hgx=>two_post (wx:=wx) (g:=g) HK.out H.out.size hgg H5.out HU.out.1 HU.out.2 hRA HG5.out.size NF.out HLE.out hx hgx
  with_reducible refine hP _ _ ?_ (by simp)
  have h0:=zaf w5 (some w.heap.size)
  repeat (first | with_reducible exact h0 | with_reducible refine zat ?_ _ _ | with_reducible refine zal ?_ | with_reducible refine zad ?_ _)
end
end Go.Proofs.YtljbbhhiiiepcaaGreatDoor
