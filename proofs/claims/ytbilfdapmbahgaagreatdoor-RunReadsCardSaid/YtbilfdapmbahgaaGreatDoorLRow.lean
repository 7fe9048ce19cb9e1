/- What a walk is told of a slice of integers that came in. -/
import Derived.Test.YtbilfdapmbahgaaGreatDoorTFeed
import Derived.Test.YtbilfdapmbahgaaGreatDoorEPlace
import Derived.Test.YtbilfdapmbahgaaGreatDoorProg
import Derived.Deep.RegionLaw
import Derived.Deep.AppendLies
import Derived.Deep.RegionHeld3
import Derived.OpenShut
set_option linter.unusedSimpArgs false
set_option linter.unusedVariables false
set_option maxHeartbeats 8000000
set_option maxRecDepth 100000
namespace Go.Proofs.YtbilfdapmbahgaaGreatDoor.Ev
open Go Go.RowKit Go.Proofs.YtbilfdapmbahgaaGreatDoor
open Go.Lib (hid)
theorem bits_in (op:BinOp) (a b:Int):-9223372036854775808≤bits op .i64 a b∧bits op .i64 a b≤9223372036854775807:=by
 unfold bits
 simp only[i64_wrap]
 unfold wrap64
 omega
theorem wrap_in6 (n:Int):in64 (wrap64 n):=by unfold wrap64 in64;omega
theorem in_ite {c:Prop} [Decidable c] {x y:Int} (h1:in64 x) (h2:in64 y):in64 (if c then x else y):=by split<;>assumption
theorem bit_in (b:Bool):in64 (bit b):=by unfold bit in64;cases b<;>decide
theorem zcN:in64 0:=by decide
theorem tmod_in {a b:Int} (h:in64 a):in64 (a.tmod b):=by
 have h1:=Int.natAbs_tmod a b
 have h2:a.natAbs % b.natAbs≤a.natAbs:=Nat.mod_le _ _
 have h3:0≤a→0≤a.tmod b:=fun h=>Int.tmod_nonneg b h
 by_cases h4:0≤a
 ·have:=h3 h4
  unfold in64 at *
  omega
 ·have h5:a.tmod b≤0:=by
   have:=Int.tmod_nonneg b (a:=-a) (by omega)
   rw[Int.neg_tmod] at this
   omega
  unfold in64 at *
  omega
theorem shr_in {a:Int} (h:in64 a) (n:Nat):in64 (a / 2 ^ n):=by
 have hp:(0:Int) < 2 ^ n:=Int.pow_pos (by decide)
 have h1:(1:Int)≤2 ^ n:=by omega
 generalize (2:Int) ^ n=p at hp h1
 obtain⟨h2,h3⟩:=h
 by_cases ha:0≤a
 ·have h4:=Int.ediv_nonneg ha (Int.le_of_lt hp)
  have h5:=Int.ediv_le_self p ha
  exact⟨by omega,by omega⟩
 ·have h4:a≤a / p:=by
   rw[Int.le_ediv_iff_mul_le hp]
   have:=Int.mul_le_mul_of_nonpos_right h1 (show a≤0 by omega)
   rw[Int.one_mul,Int.mul_comm] at this
   exact this
  have h5:=Int.ediv_neg_of_neg_of_pos (show a < 0 by omega) hp
  exact⟨by omega,by omega⟩
theorem binV_in (o:ByteArray) {a b:Int} (ha:in64 a):in64 (binV o a b):=by
 unfold binV
 repeat' (first | exact bit_in _ | exact bits_in _ _ _ | exact wrap_in6 _ | exact zcN | exact tmod_in ha | exact shr_in ha _ | with_reducible refine in_ite ?_ ?_)
theorem unV_in (o:ByteArray) {a:Int} (ha:in64 a):in64 (unV o a):=by
 unfold unV
 repeat' (first | exact bit_in _ | exact wrap_in6 _ | exact zcN | with_reducible refine in_ite ?_ ?_)
 unfold in64 at *;omega
theorem oneV_in {L:List PC} (h:Nums L) (s:List UInt8) (arr:Bool) (i:Int):in64 (oneV (getV L s arr i)):=by
 cases hg:getV L s arr i with
 | none=>exact zcN
 | some x=>exact h.getV hg
theorem idxR_in {L:List PC} (h:Nums L) (s:List UInt8) (r:Int×Int):in64 (idxR L s r).1:=by
 unfold idxR
 split
 ·cases hx:getV L s true r.1 with
  | some x=>exact h.getV hx
  | none=>exact zcN
 ·exact zcN
theorem unR_in (o:ByteArray) {r:Int×Int} (h:in64 r.1):in64 (unR o r).1:=by
 unfold unR
 split
 ·exact unV_in o h
 ·exact zcN
theorem binR_in (o:ByteArray) {r q:Int×Int} (h:in64 r.1):in64 (binR o r q).1:=by
 unfold binR
 split
 ·split
  ·rename_i x hx
   unfold zcn at hx
   split at hx
   ·cases hx;exact zcN
   ·split at hx
    ·cases hx;decide
    ·cases hx
  ·split
   ·exact binV_in o h
   ·exact zcN
 ·exact zcN
theorem ev_in {L:List PC} (hL:Nums L) {w:World} {B:Nat}:∀(m:Nat) (T:ET),T.sz≤m→T.rightB=true→T.In w B→in64 (evE L T.re).1:=by
 intro m
 induction m with
 | zero=>intro T hm;obtain⟨k,o,n,m,a,c,l⟩:=T;simp[ET.sz] at hm
 | succ m ih =>
  intro T hm h hin
  rcases zer h with ⟨n,a,c,rfl⟩ | ⟨s,a,c,hs,rfl⟩ | ⟨s,a,c,e,hs,he,rfl⟩ | ⟨o,a,c,e,ho,he,rfl⟩ | ⟨o,a,c,e,f,ho,he,hf,rfl⟩
  ·rw[ET.In] at hin
   exact hin.1
  ·exact oneV_in hL _ _ _
  ·exact idxR_in hL _ _
  ·simp only[ET.In,EsIn] at hin
   simp[ET.sz,szs] at hm
   exact unR_in _ (ih e (by omega) he hin.2.2.2.1)
  ·simp only[ET.In,EsIn] at hin
   simp[ET.sz,szs] at hm
   exact binR_in _ (ih e (by omega) he hin.2.2.2.1)
theorem zbu {s:ByteArray} (h:nmB s=true):s.size≤maxLen:=by
 have h1:=nmB_len h
 have h2:s.data.toList.length=s.size:=Array.length_toList
 unfold maxLen
 omega
theorem bs_of_list (o:ByteArray):(⟨o.data.toList.toArray⟩:ByteArray)=o:=by
 obtain⟨⟨l⟩⟩:=o;rfl
theorem reckon_any {w0:World} {B E:Nat} {blk:Nat→Nat} {L:List PC} (hE:EnvIn B E blk L w0):∀(m:Nat) (T:ET),T.sz≤m→T.rightB=true→T.In w0 0→Rk w0 E 278 T.val (evE L T.re):=by
 intro m
 induction m with
 | zero=>intro T hm;obtain⟨k,o,n,m,a,c,l⟩:=T;simp[ET.sz] at hm
 | succ m ih =>
  intro T hm h hin
  rcases zer h with ⟨n,a,c,rfl⟩ | ⟨s,a,c,hs,rfl⟩ | ⟨s,a,c,e,hs,he,rfl⟩ | ⟨o,a,c,e,ho,he,rfl⟩ | ⟨o,a,c,e,f,ho,he,hf,rfl⟩
  ·exact reckon_number (number_is 0 n _ _ _)
  ·exact reckon_variable (variable_is hE 1 0 _ s (zbu hs) _)
  ·simp only[ET.In,EsIn] at hin
   simp[ET.sz,szs] at hm
   obtain⟨kb,ko,rfl,-⟩:=hin.2.2.1
   have H1:=ih e (by omega) he hin.2.2.2.1
   rw[ET.val_is] at H1
   have hr:=hin.2.2.1
   rw[ET.cells_is] at hr
   exact reckon_index (index_is hE H1 kb ko c hr 0 _ s (zbu hs))
  ·simp only[ET.In,EsIn] at hin
   simp[ET.sz,szs] at hm
   obtain⟨kb,ko,rfl,-⟩:=hin.2.2.1
   have H1:=ih e (by omega) he hin.2.2.2.1
   have hi:=ev_in hE.nums _ e (Nat.le_refl _) he hin.2.2.2.1
   rw[ET.val_is] at H1
   have hr:=hin.2.2.1
   rw[ET.cells_is] at hr
   obtain⟨c',hc,rfl⟩:=unB_is ho
   exact reckon_unary (unary_is H1 kb ko c hr hi 0 _ _)
  ·simp only[ET.In,EsIn] at hin
   simp[ET.sz,szs] at hm
   obtain⟨kb,ko,rfl,-⟩:=hin.2.2.1
   have H1:=ih e (by omega) he hin.2.2.2.1
   have H2:=ih f (by omega) hf hin.2.2.2.2.2.1
   rw[ET.val_is] at H1 H2
   have hr:=hin.2.2.1
   have hr2:=hin.2.2.2.2.1
   rw[ET.cells_is] at hr hr2
   have:=reckon_binary (binary_is H1 kb ko c hr H2 hr2 0 o {data:=#[]})
   rw[show evE L (ET.mk 4 o 0 {data:=#[]} (some ⟨kb,ko,none⟩) c [e,f]).re=binR o (evE L e.re) (evE L f.re) by rw[ET.re,evE,bs_of_list]]
   exact this
def evT (L:List PC) (T:ET):Int×Int:=if T.rightB=true then evE L T.re else (0,0)
theorem eval_any {w0:World} {B E:Nat} {blk:Nat→Nat} {L:List PC} (hE:EnvIn B E blk L w0) (T:ET) (hin:T.In w0 0):
  Rk w0 E 238 T.val (evT L T):=by
 intro w hp
 have HR:Hid (∀W,Past w0 W→Calls Tryz.prog 277 #[T.val] W fun e w'=>e=.returned (.bool T.rightB)∧Below W.heap.size W w'):=hid fun W hW=>rightExpr_any hin W hW
 have HP:=hid hp
 have HV:Hid (evT L T=if T.rightB=true then evE L T.re else (0,0)):=hid rfl
 have HK:Hid (T.rightB=true→Rk w0 E 278 T.val (evE L T.re)):=hid fun h=>reckon_any hE _ T (Nat.le_refl _) h hin
 rw[ET.val_is] at HR HK ⊢
 generalize evT L T=r at HV ⊢
 generalize evE L T.re=r2 at HV HK
 obtain⟨rb,hrb⟩:∃rb,T.rightB=rb:=⟨_,rfl⟩
 rw[hrb] at HR HV HK
 clear hrb hin hE hp
 generalize T.kind=k at *
 generalize T.op=o at *
 generalize T.n=n at *
 generalize T.name=s at *
 generalize Value.slice T.kaddr T.kids.length T.kcap=v at *
 cases rb with
 | true =>
  have HX:=hid (HK.out rfl)
  have HV2:Hid (r=r2):=hid HV.out
  clear HV HK
  go_enter Tryz.func238,Tryz.ntmps238
  go_wp2_with (first
   | (go_at_call 278;refine(HX.out _ ((HP.out.alloc _).on HB1.out)).mono ?_;rintro e w2 ⟨rfl,hb⟩;have HB2:=hid hb;clear hb)
   | (go_at_call 277;refine(HR.out _ (HP.out.alloc _)).mono ?_;rintro e w1 ⟨rfl,hb⟩;obtain⟨b0,b1,b2,b3,b4⟩:=box5 (zah w _) hb;have HB1:=hid hb;clear hb))
  go_ret2
  exact⟨by rw[HV2.out];rfl,zae (zae ((Below.refl _ _).alloc (Nat.le_refl _) _) HB1.out) HB2.out⟩
 | false =>
  have HV2:Hid (r=(0,0)):=hid HV.out
  clear HV HK
  go_enter Tryz.func238,Tryz.ntmps238
  go_wp2_with (go_at_call 277;refine(HR.out _ (HP.out.alloc _)).mono ?_;rintro e w1 ⟨rfl,hb⟩;have HB1:=hid hb;clear hb)
  go_ret2
  exact⟨by rw[HV2.out];rfl,zae ((Below.refl _ _).alloc (Nat.le_refl _) _) HB1.out⟩
end Go.Proofs.YtbilfdapmbahgaaGreatDoor.Ev

namespace Go.Proofs.YtbilfdapmbahgaaGreatDoor.Ev
open Go Go.RowKit Go.Proofs.YtbilfdapmbahgaaGreatDoor
open Go.Lib (hid)
theorem ze4:(Tryz.prog.info? 76).map (fun i=>(i.zero,i.size,i.bytes))=some (some (.agg #[.string {data:=#[]},.bool false,.slice none 0 0]),3,48):=by kernel_rfl
def KeptE (E:Nat) (w w':World):Prop:=∀q cs t fr,w.heap[q]?=some (.cells cs t fr)→q≠E→t≠76→w'.heap[q]?=some (.cells cs t fr)
theorem KeptE.refl (E:Nat) (w:World):KeptE E w w:=fun _ _ _ _ h _ _=>h
theorem KeptE.trans {E:Nat} {w w1 w2:World} (h:KeptE E w w1) (k:KeptE E w1 w2):KeptE E w w2:=fun q cs t fr hq hE ht=>k q cs t fr (h q cs t fr hq hE ht) hE ht
theorem KeptE.below {E:Nat} {w w1:World} (h:Below w.heap.size w w1):KeptE E w w1:=fun q cs t fr hq _ _=>(h.block q (lt_of_block hq)).trans hq
theorem KeptE.map {E M:Nat} {L:List PC} {w w1:World} (h:MapIn M L w) (hg:w.grownBy w1 (some M)):KeptE E w w1:=fun q cs t fr hq _ _=>(hg.block q (lt_of_block hq) (by have:=h.ne hq;simp;exact fun e=>this e.symm)).trans hq
theorem KeptE.row {E B n:Nat} {v:Value} {xs:List Value} {w w1:World} (h:w.ownsRow B 76 3 v n xs) (hg:w.grownBy w1 v.ownBlock):KeptE E w w1:=fun q cs t fr hq _ ht=>(hg.block q (lt_of_block hq) (fun e=>own_ne h hq ht e.symm)).trans hq
theorem KeptE.set (E k:Nat) (u:Value) (w:World):KeptE E w (w.setCell ⟨E,k,none⟩ u):=fun q cs t fr hq hE _=>(Below.heap_setCell _ _ _ _ hE).trans hq
theorem own_neM {w:World} {B n sz M:Nat} {e:TypeId} {v:Value} {xs:List Value} {L:List PC} (h:w.ownsRow B e sz v n xs) (hM:MapIn M L w):v.ownBlock≠some M:=by
 rcases h.2 with ⟨rfl,_⟩ | ⟨g,cap,cur,rfl,_,hg,_⟩
 ·simp[Value.ownBlock]
 ·intro h
  simp only[Value.ownBlock,Option.some.injEq] at h
  exact hM.ne hg h.symm
theorem MapIn.grown {M:Nat} {L:List PC} {w w1:World} {r:Option Nat} (h:MapIn M L w) (hg:w.grownBy w1 r) (hr:r≠some M):MapIn M L w1:=by
 obtain⟨D,h1,h2,h3⟩:=h
 exact⟨D,h1.kept (row:=r) hg (fun e=>hr e.symm),h2,h3⟩
def zdO (blk:Nat→Nat) (n b:Nat):Nat→Nat:=fun k=>if k=n then b else blk k
theorem add_end {B E M b g kap:Nat} {blk:Nat→Nat} {L:List PC} {c:PC} {W w5:World} {ao:Option Addr} {cap:Nat} (hM:MapIn M (L++[c]) W) (h1:W.heap[E]?=some (.cells #[.slice ao L.length cap,.map (some M)] 156 (0,0))) (h0:B≤E∧B≤M)
  (h2:W.ownsRow B 76 3 (.slice ao L.length cap) L.length (zbc blk 0 L)) (h4:∀k c,L[k]?=some c→B≤blk k∧W.heap[blk k]?=some (.cells (numV c.v) 2 (0,0)))
  (h5:∀k m,k < L.length→m < L.length→blk k=blk m→k=m) (h6:Nums L) (hB:B≤b) (hb:W.heap[b]?=some (.cells (numV c.v) 2 (0,0))) (hn:(∀x∈c.v,in64 x)∧c.v.length≤64) (hne:∀k,k < L.length→blk k≠b)
  (hown:w5.ownsRow B 76 3 (.slice (some ⟨g,0,none⟩) (L.length+1) kap) (L.length+1) (zbc blk 0 L++[.string ⟨c.name.toArray⟩,.bool c.arr,.slice (some ⟨b,0,none⟩) c.v.length c.v.length])) (hg:W.grownBy w5 (Value.slice ao L.length cap).ownBlock):
  EnvIn B E (zdO blk L.length b) (L++[c]) (w5.setCell ⟨E,0,none⟩ (.slice (some ⟨g,0,none⟩) (L.length+1) kap))∧Below B W (w5.setCell ⟨E,0,none⟩ (.slice (some ⟨g,0,none⟩) (L.length+1) kap))∧KeptE E W (w5.setCell ⟨E,0,none⟩ (.slice (some ⟨g,0,none⟩) (L.length+1) kap)):=by
 have hlen:(L++[c]).length=L.length+1:=by simp
 have k5:KeptE E W w5:=KeptE.row h2 hg
 have hE5:w5.heap[E]?=some (.cells #[.slice ao L.length cap,.map (some M)] 156 (0,0)):=(hg.block E (lt_of_block h1) (fun e=>own_ne h2 h1 (by decide) e.symm)).trans h1
 have kF:=k5.trans (KeptE.set E 0 (.slice (some ⟨g,0,none⟩) (L.length+1) kap) w5)
 have hM5:MapIn M (L++[c]) (w5.setCell ⟨E,0,none⟩ (.slice (some ⟨g,0,none⟩) (L.length+1) kap)):=(hM.grown hg (own_neM h2 hM)).set (hM.ne h1) 0 _
 have hi64:∀q,W.heap[q]?=some (.cells (numV c.v) 2 (0,0))→q≠E:=by
  rintro q hq rfl
  rw[hq] at h1
  simp only[Option.some.injEq,Obj.cells.injEq] at h1
  exact absurd h1.2.1 (by decide)
 refine⟨⟨⟨_,M,by rw[zat _ hE5];rfl,h0,?_,hM5⟩,fun k d hd=>?_,fun k m hk hm e=>?_,fun d hd=>?_⟩,?_,kF⟩
 ·rw[hlen,rowOf_snoc,Nat.zero_add]
  have e1:zbc (zdO blk L.length b) 0 L=zbc blk 0 L:=rowOf_blk L 0 (fun m _ hm=>by unfold zdO;rw[if_neg (by omega)])
  rw[e1]
  have e2:zdO blk L.length b L.length=b:=by unfold zdO;rw[if_pos rfl]
  rw[e2]
  exact hown.kept (row:=some E) ⟨rfl,rfl,rfl,by simp[World.setCell],fun q _ hq=>Below.heap_setCell _ _ _ _ (fun e=>hq (by simp[e]))⟩ (Or.inr (own_ne hown hE5 (by decide)))
 ·unfold zdO
  by_cases e:k=L.length
  ·subst e
   rw[if_pos rfl]
   simp only[List.getElem?_append_right (Nat.le_refl _),Nat.sub_self,List.getElem?_cons_zero,Option.some.injEq] at hd
   subst hd
   exact⟨hB,kF _ _ _ _ hb (hi64 _ hb) (by decide)⟩
  ·rw[if_neg e]
   have hk:k < L.length:=by
    have:=(List.getElem?_eq_some_iff.1 hd).1
    rw[hlen] at this
    omega
   rw[List.getElem?_append_left hk] at hd
   have h:=h4 k d hd
   refine⟨h.1,kF _ _ _ _ h.2 ?_ (by decide)⟩
   intro e2
   rw[e2,h1] at h
   have h7:=h.2
   simp only[Option.some.injEq,Obj.cells.injEq] at h7
   exact absurd h7.2.1 (by decide)
 ·rw[hlen] at hk hm
  unfold zdO at e
  by_cases e1:k=L.length
  ·by_cases e2:m=L.length
   ·rw[e1,e2]
   ·rw[if_pos e1,if_neg e2] at e
    exact absurd e.symm (hne m (by omega))
  ·by_cases e2:m=L.length
   ·rw[if_neg e1,if_pos e2] at e
    exact absurd e (hne k (by omega))
   ·rw[if_neg e1,if_neg e2] at e
    exact h5 k m (by omega) (by omega) e
 ·rcases List.mem_append.1 hd with hd | hd
  ·exact h6 d hd
  ·simp only[List.mem_singleton] at hd
   subst hd
   exact hn
 ·have hgB:∀q,q < B→w5.heap[q]?=W.heap[q]?:=fun q hq=>by
   have hlt:=lt_of_block h1
   refine hg.block q (by omega) ?_
   rcases h2.2 with ⟨e,_⟩ | ⟨g',cap',cur,e,hgB,_⟩
   ·rw[e];simp[Value.ownBlock]
   ·rw[e];simp[Value.ownBlock];omega
  exact(⟨hg.os,hg.tape,hg.output,hg.size,hgB⟩:Below B W w5).setCell (p:=⟨E,0,none⟩) h0.1 _
def AddPost (B E:Nat) (blk:Nat→Nat) (L:List PC) (c:PC) (b:Nat) (w:World) (e:Ending) (w':World):Prop:=
 e=.returned (.tuple #[])∧EnvIn B E (zdO blk L.length b) (L++[c]) w'∧Below B w w'∧KeptE E w w'∧w.heap.size≤w'.heap.size
theorem add_new {B E:Nat} {blk:Nat→Nat} {L:List PC} {w:World} (h:EnvIn B E blk L w) (hl:L.length≤100000) (s:ByteArray) (hs:s.size≤maxLen) (hi:zbs s.data.toList L=none) (arr:Bool) (b:Nat) (v:List Int) (hB:B≤b) (hb:w.heap[b]?=some (.cells (numV v) 2 (0,0))) (hn:(∀x∈v,in64 x)∧v.length≤64) (hne:∀k,k < L.length→blk k≠b):
  Calls Tryz.prog 138 #[.pointer (some ⟨E,0,none⟩),.agg #[.string s,.bool arr,.slice (some ⟨b,0,none⟩) v.length v.length]] w (AddPost B E blk L ⟨s.data.toList,arr,v⟩ b w):=by
 have hBw:B≤w.heap.size:=Nat.le_of_lt (Nat.lt_of_le_of_lt hB (lt_of_block hb))
 obtain⟨⟨u,M,h1,h0,h2,h3⟩,h4,h5,h6⟩:=h
 obtain⟨ao,cap,rfl⟩:∃ao cap,u=.slice ao L.length cap:=by
  rcases h2.2 with ⟨e,h9⟩ | ⟨g,cap,cur,e,_⟩
  ·exact⟨none,0,by rw[e,h9]⟩
  ·exact⟨_,_,e⟩
 have ba:Below w.heap.size w (w.alloc (.cells #[.string s,.bool arr,.slice (some ⟨b,0,none⟩) v.length v.length] 76)):=(Below.refl _ _).alloc (Nat.le_refl _) _
 have hXb:=zah w (.cells #[.string s,.bool arr,.slice (some ⟨b,0,none⟩) v.length v.length] 76)
 have x0:=zab (k:=0) hXb rfl
 have hb1:=zak (.cells #[.string s,.bool arr,.slice (some ⟨b,0,none⟩) v.length v.length] 76) h1
 have c0:=zab (k:=0) hb1 rfl
 have c1:=zab (k:=1) hb1 rfl
 have hm1:=h3.on ba
 have hk:=hm1.look s hs
 have hkd:=(hm1.on (Below.refl _ _).drew).look s hs
 rw[hi] at hk hkd
 simp only[numB,Option.isSome_none] at hk hkd
 have h2a:=h2.kept (row:=none) (World.grownBy_alloc w (.cells #[.string s,.bool arr,.slice (some ⟨b,0,none⟩) v.length v.length] 76) none) (Classical.em _)
 have hlt:=lt_of_block h1
 have hltX:=lt_of_block hXb
 have hmd:=(hm1.on (Below.refl _ _).drew).on (Below.refl _ _).drew
 obtain⟨W1,hrun,hM1,hG0⟩:=hmd.add (by omega) (c:=⟨s.data.toList,arr,v⟩) hs rfl hi
 have hG1:(w.alloc (.cells #[.string s,.bool arr,.slice (some ⟨b,0,none⟩) v.length v.length] 76)).grownBy W1 (some M):=⟨hG0.os,hG0.tape,hG0.output,hG0.size,hG0.block⟩
 clear hG0
 have kE:KeptE E (w.alloc (.cells #[.string s,.bool arr,.slice (some ⟨b,0,none⟩) v.length v.length] 76)) W1:=KeptE.map hm1 hG1
 have g1:W1.heap[E]?=some (.cells #[.slice ao L.length cap,.map (some M)] 156 (0,0)):=(hG1.block E (lt_of_block hb1) (by have:=h3.ne h1;simp;exact fun e=>this e.symm)).trans hb1
 have gX:W1.heap[w.heap.size]?=some (.cells #[.string s,.bool arr,.slice (some ⟨b,0,none⟩) v.length v.length] 76 (0,0)):=(hG1.block _ (lt_of_block hXb) (by have:=h3.lt;simp;omega)).trans hXb
 have h2b:W1.ownsRow B 76 3 (.slice ao L.length cap) L.length (zbc blk 0 L):=h2a.kept (row:=some M) hG1 (Or.inr (own_neM h2 h3))
 have bl1:Below B w W1:=⟨hG1.os,hG1.tape,hG1.output,Nat.le_trans ba.size hG1.size,fun q hq=>(hG1.block q (by simp;omega) (by simp;omega)).trans (ba.block q (by omega))⟩
 have kW:KeptE E w W1:=(KeptE.below ba).trans kE
 have hEne:∀(q:Nat) (cs:Array Value),w.heap[q]?=some (.cells cs 2 (0,0))→q≠E:=by
  rintro q cs hq rfl
  rw[hq] at h1
  simp only[Option.some.injEq,Obj.cells.injEq] at h1
  exact absurd h1.2.1 (by decide)
 have HE:=hid (fun g kap w5=>add_end (g:=g) (kap:=kap) (w5:=w5) (c:=⟨s.data.toList,arr,v⟩) hM1 g1 h0 h2b (fun k d hd=>⟨(h4 k d hd).1,kW _ _ _ _ (h4 k d hd).2 (hEne _ _ (h4 k d hd).2) (by decide)⟩) h5 h6 hB (kW _ _ _ _ hb (hEne _ _ hb) (by decide)) hn hne)
 have HB1:=hid bl1
 have HKW:=hid kW
 have HSZ:=hid (Nat.le_trans ba.size hG1.size)
 have HBS:=hid (Nat.le_trans hBw HSZ.out)
 have e0:=zab (k:=0) g1 rfl
 have e1:=zab (k:=1) g1 rfl
 have fE:=zaf (k:=0) g1
 have y0:=zab (k:=0) gX rfl
 have y1:=zab (k:=1) gX rfl
 have y2:=zab (k:=2) gX rfl
 have hltE:=lt_of_block g1
 have hltY:=lt_of_block gX
 obtain⟨ei,hin,hz0,hz1,hz2⟩:=info_parts ze4
 have HOW:=hid h2b
 have HG:=hid g1
 have HL:=hid hl
 have hrl:(zbc blk 0 L).length=L.length*3:=rowOf_len _ _ _
 have HRL:=hid hrl
 generalize v.length=n at *
 clear kE kW bl1 hEne hM1 g1 gX h2b h2a hb1 hXb h3 h2 h1 h0 h4 h5 h6 hb hn hm1 hmd hG1 hB hBw ba hi hne hl hrl
 go_enter Tryz.func138,Tryz.ntmps138
 go_wp2
 go_region_held3 (fun w'=>(w'.cell? ⟨E,0,none⟩=some (.slice ao L.length cap)∧w'.cell? ⟨E,1,none⟩=some (.map (some M)))∧w'.cell? ⟨w.heap.size,0,none⟩=some (.string s)∧(Instr.lookup 154 (.map (some M)) (.string s) true).run Tryz.prog w'=.ok (.tuple #[.int .i64 0,.bool false]) w') (go_keep) (fail)
 go_wp2
 go_region
 all_goals go_wp2
 go_region_law (refine step_append_lies _ (by rfl) _ _ _ (by rfl) B 76 ei _ 3 48 Tryz.underlying57 hin hz0 hz1 hz2 rfl (by decide) (.slice ao L.length cap) L.length (zbc blk 0 L) rfl (HOW.out.drew.alloc _) ⟨W1.drew.heap.size,0,none⟩ 1 1 [.string s,.bool arr,.slice (some ⟨b,0,none⟩) n n] rfl rfl (World.news_of_block (zah W1.drew (.cells #[.string s,.bool arr,.slice (some ⟨b,0,none⟩) n n] 76))) (by intro u hu;simp only[List.mem_cons,List.mem_nil_iff,or_false] at hu;rcases hu with rfl | rfl | rfl<;>rfl) (by decide) (by have:=HL.out;unfold maxLen;omega) (by have:=HL.out;omega) (by have:=HBS.out;simp;omega) _ rfl ?_;intro g kap w5 hown hgrow hat hlt5;have HX:=hid (And.intro hown hgrow);have z0:=(hgrow.block E (by simp;omega) (fun e=>own_ne (HOW.out.drew.alloc (.cells #[.string s,.bool arr,.slice (some ⟨b,0,none⟩) n n] 76)) (zak (.cells #[.string s,.bool arr,.slice (some ⟨b,0,none⟩) n n] 76) (w:=W1.drew) HG.out) (by decide) e.symm)).trans (zak _ (w:=W1.drew) HG.out);have z1:=zab (k:=0) z0 rfl;have z2:=zaf (k:=0) z0;have z3:=lt_of_block z0;clear z0 hown hgrow hat)
 all_goals go_wp2
 all_goals
  go_end0
  obtain⟨hown,hgrow⟩:=HX.out
  have hga:=World.grownBy_alloc W1 (.cells #[.string s,.bool arr,.slice (some ⟨b,0,none⟩) n n] 76) (Value.slice ao L.length cap).ownBlock
  have hgr:W1.grownBy w5 (Value.slice ao L.length cap).ownBlock:=⟨hgrow.os.trans hga.os,hgrow.tape.trans hga.tape,hgrow.output.trans hga.output,Nat.le_trans hga.size hgrow.size,fun q hq hr=>(hgrow.block q (Nat.lt_of_lt_of_le hq hga.size) hr).trans (hga.block q hq hr)⟩
  obtain⟨r1,r2,r3⟩:=HE.out g kap w5 hown hgr
  exact⟨rfl,r1,HB1.out.trans r2,HKW.out.trans r3,Nat.le_trans HSZ.out (by simpa[World.setCell] using hgr.size)⟩
theorem add_old {B E:Nat} {blk:Nat→Nat} {L:List PC} {i:Nat} {w:World} (h:EnvIn B E blk L w) (hl:L.length≤100000) (s:ByteArray) (hs:s.size≤maxLen) (hi:zbs s.data.toList L=some i) (arr:Bool) (b:Nat) (v:List Int) (hB:B≤b) (hb:w.heap[b]?=some (.cells (numV v) 2 (0,0))) (hn:(∀x∈v,in64 x)∧v.length≤64) (hne:∀k,k < L.length→blk k≠b):
  Calls Tryz.prog 138 #[.pointer (some ⟨E,0,none⟩),.agg #[.string s,.bool arr,.slice (some ⟨b,0,none⟩) v.length v.length]] w (AddPost B E blk L ⟨s.data.toList,arr,v⟩ b w):=by
 have hBw:B≤w.heap.size:=Nat.le_of_lt (Nat.lt_of_le_of_lt hB (lt_of_block hb))
 obtain⟨⟨u,M,h1,h0,h2,h3⟩,h4,h5,h6⟩:=h
 obtain⟨ao,cap,rfl⟩:∃ao cap,u=.slice ao L.length cap:=by
  rcases h2.2 with ⟨e,h9⟩ | ⟨g,cap,cur,e,_⟩
  ·exact⟨none,0,by rw[e,h9]⟩
  ·exact⟨_,_,e⟩
 have ba:Below w.heap.size w (w.alloc (.cells #[.string s,.bool arr,.slice (some ⟨b,0,none⟩) v.length v.length] 76)):=(Below.refl _ _).alloc (Nat.le_refl _) _
 have hXb:=zah w (.cells #[.string s,.bool arr,.slice (some ⟨b,0,none⟩) v.length v.length] 76)
 have x0:=zab (k:=0) hXb rfl
 have hb1:=zak (.cells #[.string s,.bool arr,.slice (some ⟨b,0,none⟩) v.length v.length] 76) h1
 have c0:=zab (k:=0) hb1 rfl
 have c1:=zab (k:=1) hb1 rfl
 have hm1:=h3.on ba
 have hk:=hm1.look s hs
 have hkd:=(hm1.on (Below.refl _ _).drew).look s hs
 rw[hi] at hk hkd
 simp only[numB,Option.isSome_some] at hk hkd
 have h2a:=h2.kept (row:=none) (World.grownBy_alloc w (.cells #[.string s,.bool arr,.slice (some ⟨b,0,none⟩) v.length v.length] 76) none) (Classical.em _)
 have hlt:=lt_of_block h1
 have hltX:=lt_of_block hXb
 obtain⟨W1,hW1⟩:∃W1,(w.alloc (.cells #[.string s,.bool arr,.slice (some ⟨b,0,none⟩) v.length v.length] 76)).drew=W1:=⟨_,rfl⟩
 have kE:KeptE E (w.alloc (.cells #[.string s,.bool arr,.slice (some ⟨b,0,none⟩) v.length v.length] 76)) W1:=by rw[←hW1];exact KeptE.below (Below.refl _ _).drew
 have g1:W1.heap[E]?=some (.cells #[.slice ao L.length cap,.map (some M)] 156 (0,0)):=by rw[←hW1];exact hb1
 have gX:W1.heap[w.heap.size]?=some (.cells #[.string s,.bool arr,.slice (some ⟨b,0,none⟩) v.length v.length] 76 (0,0)):=by rw[←hW1];exact hXb
 have h2b:W1.ownsRow B 76 3 (.slice ao L.length cap) L.length (zbc blk 0 L):=by rw[←hW1];exact h2a.drew
 have bl1:Below B w W1:=by rw[←hW1];exact((Below.refl B w).alloc hBw _).drew
 have hM1:MapIn M (L++[⟨s.data.toList,arr,v⟩]) W1:=by rw[←hW1];exact(hm1.on (Below.refl _ _).drew).same (by rw[hi];simp)
 have HW1:=hid hW1
 have hszW:w.heap.size≤W1.heap.size:=by rw[←hW1];exact ba.size
 have kW:KeptE E w W1:=(KeptE.below ba).trans kE
 have hEne:∀(q:Nat) (cs:Array Value),w.heap[q]?=some (.cells cs 2 (0,0))→q≠E:=by
  rintro q cs hq rfl
  rw[hq] at h1
  simp only[Option.some.injEq,Obj.cells.injEq] at h1
  exact absurd h1.2.1 (by decide)
 have HE:=hid (fun g kap w5=>add_end (g:=g) (kap:=kap) (w5:=w5) (c:=⟨s.data.toList,arr,v⟩) hM1 g1 h0 h2b (fun k d hd=>⟨(h4 k d hd).1,kW _ _ _ _ (h4 k d hd).2 (hEne _ _ (h4 k d hd).2) (by decide)⟩) h5 h6 hB (kW _ _ _ _ hb (hEne _ _ hb) (by decide)) hn hne)
 have HB1:=hid bl1
 have HKW:=hid kW
 have HSZ:=hid hszW
 have HBS:=hid (Nat.le_trans hBw HSZ.out)
 have e0:=zab (k:=0) g1 rfl
 have e1:=zab (k:=1) g1 rfl
 have fE:=zaf (k:=0) g1
 have y0:=zab (k:=0) gX rfl
 have y1:=zab (k:=1) gX rfl
 have y2:=zab (k:=2) gX rfl
 have hltE:=lt_of_block g1
 have hltY:=lt_of_block gX
 obtain⟨ei,hin,hz0,hz1,hz2⟩:=info_parts ze4
 have HOW:=hid h2b
 have HG:=hid g1
 have HL:=hid hl
 have hrl:(zbc blk 0 L).length=L.length*3:=rowOf_len _ _ _
 have HRL:=hid hrl
 generalize v.length=n at *
 clear kE kW bl1 hEne hM1 g1 gX h2b h2a hb1 hXb h3 h2 h1 h0 h4 h5 h6 hb hn hm1 hW1 hszW hB hBw ba hi hne hl hrl
 go_enter Tryz.func138,Tryz.ntmps138
 go_wp2
 go_region_held3 (fun w'=>(w'.cell? ⟨E,0,none⟩=some (.slice ao L.length cap)∧w'.cell? ⟨E,1,none⟩=some (.map (some M)))∧w'.cell? ⟨w.heap.size,0,none⟩=some (.string s)∧(Instr.lookup 154 (.map (some M)) (.string s) true).run Tryz.prog w'=.ok (.tuple #[.int .i64 (i:Nat),.bool true]) w') (go_keep) (fail)
 go_wp2
 rw[HW1.out]
 go_region_law (refine step_append_lies _ (by rfl) _ _ _ (by rfl) B 76 ei _ 3 48 Tryz.underlying57 hin hz0 hz1 hz2 rfl (by decide) (.slice ao L.length cap) L.length (zbc blk 0 L) rfl (HOW.out.drew.alloc _) ⟨W1.drew.heap.size,0,none⟩ 1 1 [.string s,.bool arr,.slice (some ⟨b,0,none⟩) n n] rfl rfl (World.news_of_block (zah W1.drew (.cells #[.string s,.bool arr,.slice (some ⟨b,0,none⟩) n n] 76))) (by intro u hu;simp only[List.mem_cons,List.mem_nil_iff,or_false] at hu;rcases hu with rfl | rfl | rfl<;>rfl) (by decide) (by have:=HL.out;unfold maxLen;omega) (by have:=HL.out;omega) (by have:=HBS.out;simp;omega) _ rfl ?_;intro g kap w5 hown hgrow hat hlt5;have HX:=hid (And.intro hown hgrow);have z0:=(hgrow.block E (by simp;omega) (fun e=>own_ne (HOW.out.drew.alloc (.cells #[.string s,.bool arr,.slice (some ⟨b,0,none⟩) n n] 76)) (zak (.cells #[.string s,.bool arr,.slice (some ⟨b,0,none⟩) n n] 76) (w:=W1.drew) HG.out) (by decide) e.symm)).trans (zak _ (w:=W1.drew) HG.out);have z1:=zab (k:=0) z0 rfl;have z2:=zaf (k:=0) z0;have z3:=lt_of_block z0;clear z0 hown hgrow hat)
 all_goals go_wp2
 all_goals
  go_end0
  obtain⟨hown,hgrow⟩:=HX.out
  have hga:=World.grownBy_alloc W1 (.cells #[.string s,.bool arr,.slice (some ⟨b,0,none⟩) n n] 76) (Value.slice ao L.length cap).ownBlock
  have hgr:W1.grownBy w5 (Value.slice ao L.length cap).ownBlock:=⟨hgrow.os.trans hga.os,hgrow.tape.trans hga.tape,hgrow.output.trans hga.output,Nat.le_trans hga.size hgrow.size,fun q hq hr=>(hgrow.block q (Nat.lt_of_lt_of_le hq hga.size) hr).trans (hga.block q hq hr)⟩
  obtain⟨r1,r2,r3⟩:=HE.out g kap w5 hown hgr
  exact⟨rfl,r1,HB1.out.trans r2,HKW.out.trans r3,Nat.le_trans HSZ.out (by simpa[World.setCell] using hgr.size)⟩
theorem add_any {B E:Nat} {blk:Nat→Nat} {L:List PC} {w:World} (h:EnvIn B E blk L w) (hl:L.length≤100000) (s:ByteArray) (hs:s.size≤maxLen) (arr:Bool) (b:Nat) (v:List Int) (hB:B≤b) (hb:w.heap[b]?=some (.cells (numV v) 2 (0,0))) (hn:(∀x∈v,in64 x)∧v.length≤64) (hne:∀k,k < L.length→blk k≠b):
  Calls Tryz.prog 138 #[.pointer (some ⟨E,0,none⟩),.agg #[.string s,.bool arr,.slice (some ⟨b,0,none⟩) v.length v.length]] w (AddPost B E blk L ⟨s.data.toList,arr,v⟩ b w):=by
 cases hi:zbs s.data.toList L with
 | none=>exact add_new h hl s hs hi arr b v hB hb hn hne
 | some i=>exact add_old h hl s hs hi arr b v hB hb hn hne
end Go.Proofs.YtbilfdapmbahgaaGreatDoor.Ev

namespace Go.Proofs.YtbilfdapmbahgaaGreatDoor
open Go Go.RowKit
def RowIn (k:IntKind) (w:World) (a:Option Addr) (len:Nat) (zs:List Int):Prop:=
 len≤9223372036854775807∧(0 < len→∃b off,a=some ⟨b,off,none⟩∧b < w.heap.size∧∀i,i < len→w.cell? ⟨b,off+i,none⟩=some (.int k (zs.getD i 0))∧(Lit.int k (zs.getD i 0)).wf=true)
theorem rowIn_none {k:IntKind} {w:World}:RowIn k w none 0 []:=⟨by decide,fun h=>by omega⟩
theorem rowIn_some {k:IntKind} {w:World} {x:Addr} {len cap:Nat} {zs:List Int} (hl:len≤cap) (hm:cap≤maxLen) (hz:zs.length=cap)
  (hc:∀i,i < zs.length→w.cell? (x.add i)=some (.int k (zs.getD i 0))) (hw:∀n∈zs,(Lit.int k n).wf=true):RowIn k w (some x) len zs:=by
 unfold maxLen at hm
 refine⟨by omega,fun h=>?_⟩
 obtain⟨b,off,spot⟩:=x
 have h0:=hc 0 (by omega)
 have hs:spot=none:=by simpa[Addr.add] using World.cell?_spot h0
 subst hs
 refine⟨b,off,rfl,by simpa[Addr.add] using World.block_lt_of_cell? _ _ h0,fun i hi=>⟨?_,?_⟩⟩
 ·have hi':=hc i (by omega)
  have e:(⟨b,off,none⟩:Addr).add i=⟨b,off+i,none⟩:=by
   unfold Addr.add
   split
   ·rename_i h;subst h;rfl
   ·rfl
  rw[e] at hi'
  exact hi'
 ·refine hw _ ?_
  rw[List.getD_eq_getElem?_getD,List.getElem?_eq_getElem (by omega)]
  exact List.getElem_mem _
end Go.Proofs.YtbilfdapmbahgaaGreatDoor
