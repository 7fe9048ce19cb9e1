/- What Edges tells. -/
import Derived.Test.YtagnmppdhfmgdaaGreatDoorFNew
import Derived.Test.YtagnmppdhfmgdaaGreatDoorFOf
import Derived.Laws.CopyOwn
import Derived.Laws.MakeOwn
import Derived.Laws.BitsLemmas
set_option linter.unusedSimpArgs false
set_option linter.unusedVariables false
set_option maxHeartbeats 8000000
set_option maxRecDepth 100000
namespace Go.Proofs.YtagnmppdhfmgdaaGreatDoor.Fl
open Go Go.RowKit Go.Proofs.YtagnmppdhfmgdaaGreatDoor
open Go.Lib (hid)
def NumAt (w:World) (a:Option Addr) (l:List Int):Prop:=∀(i:Nat) (h:i < l.length),∃b o,a=some ⟨b,o,none⟩∧w.cell? ⟨b,o+i,none⟩=some (.int .i64 l[i])
def RowsAt (w:World) (a:Option Addr) (rows:List (List Int)):Prop:=∀(i:Nat) (h:i < rows.length),∃b o ra rc,a=some ⟨b,o,none⟩∧w.cell? ⟨b,o+i,none⟩=some (.slice ra rows[i].length rc)∧(rows[i].length≤100000∧(ra=none→rc=0))∧NumAt w ra rows[i]
theorem NumAt.on {w w':World} {a:Option Addr} {l:List Int} (h:NumAt w a l) (hp:Below w.heap.size w w'):NumAt w' a l:=fun i hi=>by
 obtain⟨b,o,e,hc⟩:=h i hi
 exact⟨b,o,e,zav hp (B:=0) _ _ (Nat.zero_le _) hc⟩
theorem RowsAt.on {w w':World} {a:Option Addr} {l:List (List Int)} (h:RowsAt w a l) (hp:Below w.heap.size w w'):RowsAt w' a l:=fun i hi=>by
 obtain⟨b,o,ra,rc,e,hc,hl,hn⟩:=h i hi
 exact⟨b,o,ra,rc,e,zav hp (B:=0) _ _ (Nat.zero_le _) hc,hl,hn.on hp⟩
def RowsO (w:World) (B g n:Nat) (rows:List (List Int)):Prop:=rows.length=n∧∃rv,w.ownsRow B 29 1 (.slice (some ⟨g,0,none⟩) n n) n rv∧∀(i:Nat) (r:List Int),rows[i]?=some r→∃u,rv[i]?=some u∧w.ownsRow B 3 1 u r.length (ints r)
theorem numAt_own {w:World} {B n:Nat} {u:Value} {r:List Int} (h:w.ownsRow B 3 1 u n (ints r)):∃ra rc,u=.slice ra r.length rc∧(ra=none→rc=0)∧NumAt w ra r:=by
 have hl:r.length=n:=by have:=h.1;simp[ints] at this;omega
 subst hl
 rcases h.2 with ⟨e,h0⟩ | ⟨g,cap,cur,e,-,hg,-,-,-,ht⟩
 ·have:r=[]:=List.length_eq_zero_iff.1 h0
  subst this
  exact⟨none,0,e,fun _=>rfl,fun i hi=>absurd hi (by simp)⟩
 ·refine⟨some ⟨g,0,none⟩,cap,e,(fun h=>by cases h),fun i hi=>⟨g,0,rfl,?_⟩⟩
  subst e
  rw[Nat.zero_add,h.cellAt i (by omega),ints,List.getElem?_map,List.getElem?_eq_getElem hi];rfl
theorem rowsAt_own {w:World} {B n g c:Nat} {rv:List Value} {rows:List (List Int)} (hl:rows.length=n) (h:w.ownsRow B 29 1 (.slice (some ⟨g,0,none⟩) n c) n rv) (hr:∀(i:Nat) (r:List Int),rows[i]?=some r→∃u,rv[i]?=some u∧w.ownsRow B 3 1 u r.length (ints r)) (hm:∀r∈rows,r.length≤100000):RowsAt w (some ⟨g,0,none⟩) rows:=fun i hi=>by
 obtain⟨u,h1,h2⟩:=hr i rows[i] (List.getElem?_eq_getElem hi)
 obtain⟨ra,rc,e,h3,h4⟩:=numAt_own h2
 refine⟨g,0,ra,rc,rfl,?_,⟨hm _ (List.getElem_mem hi),h3⟩,h4⟩
 rw[Nat.zero_add,h.cellAt i (by omega),h1,e]
theorem RowsO.at {w:World} {B g n:Nat} {rows:List (List Int)} (h:RowsO w B g n rows) (hm:∀r∈rows,r.length≤100000):RowsAt w (some ⟨g,0,none⟩) rows:=by
 obtain⟨h1,rv,h2,h3⟩:=h
 exact rowsAt_own h1 h2 h3 hm
theorem clone_any (ao:Option Addr) (n cap:Nat) (r:List Int) (hn:r.length=n) (hl:n≤100000) (h0:ao=none→cap=0) (w:World) (h:NumAt w ao r):
  Calls Tryz.prog 36 #[.slice ao n cap] w fun e w'=>∃v,e=.returned v∧w'.ownsRow w.heap.size 3 1 v n (ints r)∧Below w.heap.size w w':=by
 cases ao with
 | none =>
  obtain rfl:cap=0:=h0 rfl
  have hr:r=[]:=by
   cases r with
   | nil=>rfl
   | cons x r=>obtain⟨b,o,e,-⟩:=h 0 (by simp);cases e
  subst hr
  subst hn
  clear h
  have hq:=fun W:World=>Lib.run_eql_slice_nil (P:=Tryz.prog) W 29 _ none 0 0 0 0 Tryz.underlying29
  simp only[Option.isNone_none] at hq
  go_enter Tryz.func36,Tryz.ntmps36
  go_wp2
  go_ret
  exact⟨_,rfl,World.ownsRow_nil _ _ _ _,Below.refl _ _⟩
 | some a =>
  obtain⟨ii,hii,hi0,hi1,hi2⟩:=info_parts zcT
  have hc2:∀j u,(ints r)[j]?=some u→(w.alloc (.cells #[] 3)).cell? (a.add j)=some u:=fun j u hj=>by
   rw[ints,List.getElem?_map] at hj
   cases hx:r[j]? with
   | none=>rw[hx] at hj;cases hj
   | some x =>
    rw[hx] at hj
    simp only[Option.map_some,Option.some.injEq] at hj
    subst hj
    have hlt:=zaK hx
    obtain⟨b,o,e,hc⟩:=h j hlt
    simp only[Option.some.injEq] at e
    subst e
    have ea:(⟨b,o,none⟩:Addr).add j=⟨b,o+j,none⟩:=by unfold Addr.add;split<;>simp_all
    rw[ea,World.cell?_alloc_lt _ _ _ (by exact World.block_lt_of_cell? w _ hc),hc]
    rw[List.getElem?_eq_getElem hlt] at hx
    simp only[Option.some.injEq] at hx
    rw[hx]
  have h00:(w.alloc (.cells #[] 3)).ownsRow w.heap.size 3 1 (.slice (some ⟨w.heap.size,0,none⟩) 0 0) 0 []:=⟨rfl,.inr ⟨w.heap.size,0,#[],rfl,Nat.le_refl _,zai w _,Nat.le_refl _,Nat.zero_le _,rfl,rfl⟩⟩
  have hone:∀u∈ints r,u.oneCell'=true:=by
   intro u hu
   simp only[ints,List.mem_map] at hu
   obtain⟨z,-,rfl⟩:=hu
   rfl
  have H0:=hid h00
  have HC:=hid hc2
  have HO:=hid (And.intro hone (show(ints r).length=n*1 by simp[ints,hn]))
  have hq:=fun W:World=>Lib.run_eql_slice_nil (P:=Tryz.prog) W 29 _ (some a) n cap 0 0 Tryz.underlying29
  simp only[Option.isNone_some] at hq
  clear h00 hc2 hone h
  go_enter Tryz.func36,Tryz.ntmps36
  go_wp2_with (at_builtin;refine wpList_append_own _ rfl _ _ 29 rfl w.heap.size 3 ii _ 1 8 Tryz.underlying29 hii hi0 hi1 hi2 rfl (by decide) _ _ _ rfl H0.out a n cap (ints r) rfl HO.out.2 HC.out HO.out.1 ?c1 ?c2 ?c3 ?_)
  case c1=>unfold maxLen;omega
  case c2=>omega
  case c3=>simp
  intro v' w2 hown hgrow _
  have hX:=hid (And.intro hown hgrow)
  clear hown hgrow
  go_wp2
  go_ret
  obtain⟨ho,hgr⟩:=hX.out
  exact⟨v',rfl,ho,((Below.refl _ _).alloc (Nat.le_refl _) _).grown hgr (by simp) (fun k hk=>by simp[Value.ownBlock] at hk;omega)⟩
end Go.Proofs.YtagnmppdhfmgdaaGreatDoor.Fl

namespace Go.Proofs.YtagnmppdhfmgdaaGreatDoor.Fl
open Go Go.RowKit Go.Proofs.YtagnmppdhfmgdaaGreatDoor
open Go.Lib (hid)
structure Rw (w:World) (B g n:Nat) (rows:List (List Int)) (rv:List Value):Prop where
 len:rows.length=n
 v:w.ownsRow B 29 1 (.slice (some ⟨g,0,none⟩) n n) n rv
 rows:∀(i:Nat) (r:List Int),rows[i]?=some r→∃u,rv[i]?=some u∧w.ownsRow B 3 1 u r.length (ints r)
theorem Rw.o {w:World} {B g n:Nat} {rows:List (List Int)} {rv:List Value} (h:Rw w B g n rows rv):RowsO w B g n rows:=⟨h.len,rv,h.v,h.rows⟩
theorem rw_put {w wc:World} {B g n k:Nat} {rows:List (List Int)} {rv:List Value} {v:Value} {r:List Int} (h:Rw w B g n rows rv) (hk:k < n) (hB:B≤w.heap.size) (hb:Below w.heap.size w wc) (hv:wc.ownsRow w.heap.size 3 1 v r.length (ints r)):
  Rw (wc.setCell ⟨g,k,none⟩ v) B g n (rows.set k r) (rv.set k v):=by
 have hgl:g < w.heap.size:=zaO h.v rfl
 have v1:=zaB h.v fun q hq=>hb.block q (zaO h.v hq)
 obtain⟨v2,v3⟩:=v1.stored k v
 have hint:∀{u:Value} {m:Nat} {xs:List Value},wc.ownsRow B 3 1 u m xs→(wc.setCell ⟨g,k,none⟩ v).ownsRow B 3 1 u m xs:=fun hu =>
  zaB hu fun q hq=>Below.heap_setCell _ _ _ _ (fun e=>za1 v1 hu (by decide) q hq (by rw[e];rfl))
 have hvB:wc.ownsRow B 3 1 v r.length (ints r):=by
  refine⟨hv.1,?_⟩
  rcases hv.2 with h2 | ⟨q,cap,cur,e,hq,rest⟩
  ·exact .inl h2
  ·exact .inr ⟨q,cap,cur,e,Nat.le_trans hB hq,rest⟩
 refine⟨by rw[List.length_set];exact h.len,v2,fun i r' hr=>?_⟩
 rw[List.getElem?_set] at hr
 split at hr
 ·rename_i e
  subst e
  rw[h.len,if_pos hk] at hr
  simp only[Option.some.injEq] at hr
  subst hr
  exact⟨v,List.getElem?_set_self (by have:=h.v.1;omega),hint hvB⟩
 ·obtain⟨u,h1,h2⟩:=h.rows i r' hr
  exact⟨u,by rw[List.getElem?_set_ne (by assumption)];exact h1,hint (zaB h2 fun q hq=>hb.block q (zaO h2 hq))⟩
theorem edges_set (ns:List (List Int)) (os:List Int) (j:Bool) (k:Nat) (r:List Int) (h:ns[k]?=some r):
  ((zdw ns os j).take k++List.replicate (ns.length - k) []).set k (if j=true∧0≤os.getD k (-1) then r++[os.getD k (-1)] else r)=(zdw ns os j).take (k+1)++List.replicate (ns.length - (k+1)) []:=by
 have:=zdf (zdw ns os j) [] _ k (edges_at h)
 rw[edges_len] at this
 exact this
theorem rw_fin {w wf:World} {B g n k:Nat} {rows:List (List Int)} {rv:List Value} {u:Value} {r:List Int} (h:Rw w B g n rows rv) (hk:k < n) (hold:∀q,q < w.heap.size→q≠g→wf.heap[q]?=w.heap[q]?)
  (hv:wf.ownsRow B 29 1 (.slice (some ⟨g,0,none⟩) n n) n (rv.set k u)) (hu:wf.ownsRow B 3 1 u r.length (ints r)):Rw wf B g n (rows.set k r) (rv.set k u):=by
 refine⟨by rw[List.length_set];exact h.len,hv,fun i r' hr=>?_⟩
 rw[List.getElem?_set] at hr
 split at hr
 ·rename_i e
  subst e
  rw[h.len,if_pos hk] at hr
  simp only[Option.some.injEq] at hr
  subst hr
  exact⟨u,List.getElem?_set_self (by have:=h.v.1;omega),hu⟩
 ·obtain⟨u',h1,h2⟩:=h.rows i r' hr
  exact⟨u',by rw[List.getElem?_set_ne (by assumption)];exact h1,zaB h2 fun q hq=>hold q (zaO h2 hq) (fun e=>za1 h.v h2 (by decide) q hq (by rw[e];rfl))⟩
theorem rw_more {w wc w5:World} {B g n k g2 cap:Nat} {rows:List (List Int)} {rv:List Value} {v:Value} {r:List Int} {z:Int} (h:Rw w B g n rows rv) (hk:k < n) (hB:B≤w.heap.size) (hb:Below w.heap.size w wc) (hv:wc.ownsRow w.heap.size 3 1 v r.length (ints r))
  (hown:w5.ownsRow B 3 1 (.slice (some ⟨g2,0,none⟩) (r.length+1) cap) (r.length+1) (ints r++[.int .i64 z])) (hg:((wc.setCell ⟨g,k,none⟩ v).alloc (.cells #[.int .i64 z] 3)).grownBy w5 v.ownBlock):
  Rw (w5.setCell ⟨g,k,none⟩ (.slice (some ⟨g2,0,none⟩) (r.length+1) cap)) B g n (rows.set k (r++[z])) (rv.set k (.slice (some ⟨g2,0,none⟩) (r.length+1) cap))∧(∀q,q < w.heap.size→q≠g→(w5.setCell ⟨g,k,none⟩ (.slice (some ⟨g2,0,none⟩) (r.length+1) cap)).heap[q]?=w.heap[q]?):=by
 have hgl:g < w.heap.size:=zaO h.v rfl
 have hs:((wc.setCell ⟨g,k,none⟩ v).alloc (.cells #[.int .i64 z] 3)).heap.size=wc.heap.size+1:=by simp[World.setCell]
 have hwc:=hb.size
 have hvb:∀q,v.ownBlock=some q→w.heap.size≤q:=fun q hq=>(hv.lt q hq).1
 have hold5:∀q,q < w.heap.size→w5.heap[q]?=(wc.setCell ⟨g,k,none⟩ v).heap[q]?:=fun q hq =>
  (hg.block q (by omega) (fun e=>by have:=hvb q e.symm;omega)).trans (Below.heap_alloc _ _ _ (by simp[World.setCell];omega))
 have v1:=zaB h.v fun q hq=>hb.block q (zaO h.v hq)
 obtain⟨v2,-⟩:=v1.stored k v
 have v5:w5.ownsRow B 29 1 (.slice (some ⟨g,0,none⟩) n n) n (rv.set k v):=zaB v2 fun q hq=>by
  simp only[Value.ownBlock,Option.some.injEq] at hq
  subst hq
  exact hold5 _ hgl
 obtain⟨v6,-⟩:=v5.stored k (.slice (some ⟨g2,0,none⟩) (r.length+1) cap)
 rw[List.set_set] at v6
 have hold:∀q,q < w.heap.size→q≠g→(w5.setCell ⟨g,k,none⟩ (.slice (some ⟨g2,0,none⟩) (r.length+1) cap)).heap[q]?=w.heap[q]?:=fun q hq hne =>
  (Below.heap_setCell _ _ _ _ hne).trans ((hold5 q hq).trans ((Below.heap_setCell _ _ _ _ hne).trans (hb.block q hq)))
 have hu:(w5.setCell ⟨g,k,none⟩ (.slice (some ⟨g2,0,none⟩) (r.length+1) cap)).ownsRow B 3 1 (.slice (some ⟨g2,0,none⟩) (r.length+1) cap) (r++[z]).length (ints (r++[z])):=by
  have h9:=zaB hown (w':=w5.setCell ⟨g,k,none⟩ (.slice (some ⟨g2,0,none⟩) (r.length+1) cap)) fun q hq=>Below.heap_setCell _ _ _ _ (fun e=>za1 v5 hown (by decide) q hq (by rw[e];rfl))
  simpa[ints] using h9
 exact⟨rw_fin h hk hold v6 hu,hold⟩
theorem edgesF_any {w0:World} {na oa ia:Option Addr} {nc oc ii ic:Nat} {ns:List (List Int)} {os:List Int} (jumps:Bool) (hM:ns.length≤100000) (hos:os.length=ns.length) (hn:RowsAt w0 na ns) (ho:NumAt w0 oa os) (w:World) (hp:Past w0 w):
  Calls Tryz.prog 18 #[.agg #[.slice na ns.length nc,.slice oa os.length oc,.slice ia ii ic],.bool jumps] w fun e w'=>(∃g,e=.returned (.slice (some ⟨g,0,none⟩) ns.length ns.length)∧RowsO w' w.heap.size g ns.length (zdw ns os jumps))∧Below w.heap.size w w':=by
 obtain⟨ti,hti,hi0,hi1,hi2⟩:=info_parts zcT
 have hmk:=made_rows ns.length (by omega)
 have HN:=hid hn
 have HO:=hid ho
 have HP:=hid hp
 have HOS:=hid hos
 obtain⟨M,hMM⟩:∃M,ns.length=M:=⟨_,rfl⟩
 have hbx:=zai w (.cells #[.slice na ns.length nc,.slice oa os.length oc,.slice ia ii ic] 40)
 rw[hos] at hbx ⊢
 rw[hMM] at hmk hbx hM ⊢
 have HMM:=hid hMM
 have HBX:=hid hbx
 clear hn ho hp hos hbx hMM
 go_enter Tryz.func18,Tryz.ntmps18
 go_upto_region 3 with (fail)
 have hr3:Rw ((w.alloc (.cells #[.slice na M nc,.slice oa M oc,.slice ia ii ic] 40)).alloc (.cells (Array.replicate M (.slice none 0 0)) 29)) w.heap.size (w.heap.size+1) M (List.replicate M []) (List.replicate M (.slice none 0 0)):=by
  refine⟨List.length_replicate,?_,fun i r hr=>?_⟩
  ·have:=World.ownsRow_lit (base:=w.heap.size) (e:=29) (size:=1) (w.alloc (.cells #[.slice na M nc,.slice oa M oc,.slice ia ii ic] 40)) (Array.replicate M (.slice none 0 0)) M (by simp) (by unfold maxLen;omega) (by simp)
   simpa using this
  ·rw[List.getElem?_replicate] at hr
   split at hr
   ·rename_i hlt'
    simp only[Option.some.injEq] at hr
    subst hr
    exact⟨.slice none 0 0,by rw[List.getElem?_replicate,if_pos hlt'],World.ownsRow_nil _ _ _ _⟩
   ·cases hr
 have hb3:Below w.heap.size w ((w.alloc (.cells #[.slice na M nc,.slice oa M oc,.slice ia ii ic] 40)).alloc (.cells (Array.replicate M (.slice none 0 0)) 29)):=((Below.refl w.heap.size w).alloc (Nat.le_refl _) _).alloc (by simp) _
 have hx3:=zaf (.cells (Array.replicate M (.slice none 0 0)) 29) HBX.out
 have H3:=hid (And.intro hr3 (And.intro hb3 hx3))
 clear hr3 hb3 hx3 HBX hmk
 generalize (w.alloc (.cells #[.slice na M nc,.slice oa M oc,.slice ia ii ic] 40)).alloc (.cells (Array.replicate M (.slice none 0 0)) 29)=w3 at *
 generalize hB:w.heap.size=B at *
 generalize hg:B+1=g at H3 ⊢
 have hgB:¬g=B:=by omega
 go_loopw [15] (fun i wr=>∃(k:Nat) (rv:List Value),k≤M∧i=.int .i64 k∧Rw wr B g M ((zdw ns os jumps).take k++List.replicate (M - k) []) rv∧Below B w wr∧wr.heap[B]?=some (.cells #[.slice na M nc,.slice oa M oc,.slice ia ii ic] 40 (0,0))) (fun i _=>M - (intOf i).toNat)
 case atStart=>exact⟨0,_,Nat.zero_le _,rfl,by simpa using H3.out.1,H3.out.2.1,H3.out.2.2⟩
 case round =>
  obtain⟨k,rv,hk,rfl,hrw,hb,hx⟩:=hrel
  by_cases hlt:k < M
  ·obtain⟨hal,hcl,hM'⟩:(∃r,ns[k]?=some r)∧(∃z,os[k]?=some z)∧ns.length=M:=⟨⟨_,List.getElem?_eq_getElem (by have:=HMM.out;omega)⟩,⟨_,List.getElem?_eq_getElem (by have:=HMM.out;have:=HOS.out;omega)⟩,HMM.out⟩
   obtain⟨r,hr⟩:=hal
   obtain⟨z,hz⟩:=hcl
   have hset:=edges_set ns os jumps k r hr
   rw[hM'] at hset
   have hzd:os.getD k (-1)=z:=by rw[List.getD_eq_getElem?_getD,hz];rfl
   rw[hzd] at hset
   have hkn:k < ns.length:=by omega
   have hko:k < os.length:=by have:=HOS.out;omega
   have hP3:Below w0.heap.size w0 wr:=HP.out.trans (hb.mono (by have h9:=(show Below w0.heap.size w0 w from HP.out).size;omega))
   obtain⟨nb,no,ra,rc,rfl,hc,⟨hrl,hrz⟩,hnum⟩:=HN.out k hkn
   have hc1:=zav hP3 (B:=0) _ _ (Nat.zero_le _) hc
   have hrk:ns[k]=r:=by rw[List.getElem?_eq_getElem hkn] at hr;simpa using hr
   rw[hrk] at hc1 hrl hnum
   obtain⟨ob,oo,rfl,hoc⟩:=HO.out k hko
   have hoc1:=zav hP3 (B:=0) _ _ (Nat.zero_le _) hoc
   have hzk:os[k]=z:=by rw[List.getElem?_eq_getElem hko] at hz;simpa using hz
   rw[hzk] at hoc1
   have nl:=World.block_lt_of_cell? wr _ hc1
   have ol:=World.block_lt_of_cell? wr _ hoc1
   have hBw:B≤wr.heap.size:=by have:=lt_of_block hx;omega
   have HCL:=hid (clone_any ra r.length rc r rfl hrl hrz wr (hnum.on (show Below w0.heap.size w0 wr from hP3)))
   obtain⟨u0,hu0⟩:∃u,wr.cell? ⟨g,k,none⟩=some u:=by
    obtain⟨g',e',-,-,-,-,-,gc⟩:=zbk hrw.v (by omega)
    obtain rfl:g=g':=by simpa using e'
    exact⟨_,(gc k (by omega)).trans (List.getElem?_eq_getElem (by have:=hrw.v.1;omega))⟩
   have gl:=zaO hrw.v rfl
   have gf:=hrw.v.frozenAt
   have HRW:=hid (And.intro hrw (And.intro hb hx))
   have HU:=hid (And.intro hu0 (And.intro gl gf))
   have HOC:=hid (And.intro hoc1 ol)
   have hxl:=lt_of_block hx
   have HXL:=hid hxl
   have hob:¬g=ob:=by
    rintro rfl
    have h1:g < w0.heap.size:=World.block_lt_of_cell? w0 _ hoc
    have h2:=(show Below w0.heap.size w0 w from HP.out).size
    omega
   have HSET:=hid hset
   have HRL:=hid hrl
   clear hr hz hset hzd hkn hko hP3 hc hrl hrz hnum hrk hoc hzk hrw hb hx hM'
   go_upto_region 6 with (go_at_call 36;(refine HCL.out.mono ?_);rintro e wc ⟨v,rfl,hv,hbc⟩;obtain⟨va,vc,rfl⟩:=zdW hv;have y0:=(hbc.cell (p:=⟨g,k,none⟩) HU.out.2.1).trans HU.out.1;have y1:=(hbc.frozen (p:=⟨g,k,none⟩) HU.out.2.1).trans (HU.out.2.2 k);have y2:=Nat.lt_of_lt_of_le HU.out.2.1 hbc.size;have HV:=hid (And.intro hv hbc);clear hv hbc)
   have hv:=HV.out.1
   have hbc:=HV.out.2
   clear hu0 gl gf y0 y1 y2 hc1 hoc1 nl ol hxl
   obtain⟨w7,hw7⟩:∃w7,wc.setCell ⟨g,k,none⟩ (.slice va r.length vc)=w7:=⟨_,rfl⟩
   have hg7:∀q,q < wr.heap.size→q≠g→w7.heap[q]?=wr.heap[q]?:=fun q hq hne=>by rw[←hw7];exact(Below.heap_setCell _ _ _ _ hne).trans (hbc.block q hq)
   have hb7:Below B w w7:=by rw[←hw7];exact(HRW.out.2.1.trans (hbc.mono (by omega))).setCell (p:=⟨g,k,none⟩) (by show B≤g;omega) _
   have hx7:=(hg7 B HXL.out (fun e=>hgB e.symm)).trans HRW.out.2.2
   have hoc7:w7.cell? ⟨ob,oo+k,none⟩=some (.int .i64 z):=by
    rw[World.cell?_of_block (w:=wr) (hg7 ob HOC.out.2 (fun e=>hob e.symm))];exact HOC.out.1
   have hrw7:=rw_put HRW.out.1 hlt (by omega) hbc hv
   have hk7:w7.cell? ⟨g,k,none⟩=some (.slice va r.length vc):=by
    rw[hw7] at hrw7
    obtain⟨g',e',-,-,-,-,-,gc⟩:=zbk hrw7.v (by omega)
    obtain rfl:g=g':=by simpa using e'
    rw[gc k (by omega)]
    exact List.getElem?_set_self (by have:=HRW.out.1.v.1;omega)
   have hs7:wr.heap.size≤w7.heap.size:=by rw[←hw7];simpa[World.setCell] using hbc.size
   rw[hw7] at hrw7
   have gl7:g < w7.heap.size:=by have:=HU.out.2.1;omega
   have gf7:=hrw7.v.frozenAt
   have ol7:ob < w7.heap.size:=World.block_lt_of_cell? w7 _ hoc7
   have x0:=zab (k:=0) hx7 rfl
   have x1:=zab (k:=1) hx7 rfl
   have xl:=lt_of_block hx7
   have hvw:w7.ownsRow wr.heap.size 3 1 (.slice va r.length vc) r.length (ints r):=by
    rw[←hw7]
    exact zaB hv fun q hq=>Below.heap_setCell _ _ _ _ (fun e:q=g=>by have:=(hv.lt q hq).1;have:=HU.out.2.1;omega)
   have H7:=hid (And.intro hrw7 (And.intro hb7 (And.intro hx7 (And.intro hvw (And.intro hg7 hw7)))))
   have HGV:Hid ((Value.slice va r.length vc).ownBlock≠some g):=hid (fun e=>by have:=(hv.lt g e).1;have:=HU.out.2.1;omega)
   rw[hw7]
   clear hv hbc hg7 hb7 hx7 hrw7 hvw hw7 hs7
   by_cases hj:jumps=true
   ·subst hj
    by_cases hz0:0≤z
    ·have ez:decide (z≥0)=true:=decide_eq_true hz0
     have hq:=HSET.out
     rw[if_pos ⟨rfl,hz0⟩] at hq
     have HSQ:=hid hq
     clear hq
     go_upto_region 7 with (fail)
     have hv9:=zds H7.out.2.2.2.1 (show B≤wr.heap.size by omega)
     have HV9:=hid hv9
     clear hv9
     go_region_law (refine step_append_lies _ (by rfl) _ _ _ (by rfl) B 3 ti _ 1 8 Tryz.underlying29 hti hi0 hi1 hi2 rfl (by decide) (.slice va r.length vc) r.length (ints r) rfl (HV9.out.drew.alloc _) ⟨w7.drew.heap.size,0,none⟩ 1 1 [.int .i64 z] rfl rfl (World.news_of_block (zai w7.drew (.cells #[.int .i64 z] 3))) (by intro u hu;simp only[List.mem_singleton] at hu;subst hu;rfl) (by decide) (by have:=HRL.out;unfold maxLen;omega) (by have:=HRL.out;omega) (by simp;omega) _ rfl ?_;intro g2 cap2 w9 hown hgrow hat hlt9;have HX:=hid (And.intro hown hgrow);have hgv:(Value.slice va r.length vc).ownBlock≠some g:=HGV.out;have z0:=(hgrow.cell_far ⟨g,k,none⟩ (by simp;omega) (fun e=>hgv e.symm));have z1:=hgrow.frozen_far ⟨g,k,none⟩ (by simp;omega) (fun e=>hgv e.symm);have z2:=Nat.lt_of_lt_of_le gl7 (Nat.le_trans (show w7.heap.size≤_ by simp) hgrow.size);have z3:w9.cell? ⟨g,k,none⟩=some (.slice va r.length vc):=z0.trans ((World.cell?_alloc_lt _ _ _ (by exact gl7)).trans hk7);have z4:w9.frozen? ⟨g,k,none⟩=false:=z1.trans ((World.frozen?_of_block (Below.heap_alloc w7.drew (.cells #[.int .i64 z] 3) g gl7)).trans (gf7 k));clear z0 z1 hown hgrow hat)
     all_goals
      obtain⟨hown,hgrow⟩:=HX.out
      have hgrow2:(w7.alloc (.cells #[.int .i64 z] 3)).grownBy w9 (Value.slice va r.length vc).ownBlock:=⟨hgrow.os,hgrow.tape,hgrow.output,hgrow.size,hgrow.block⟩
      have hgrow3:=hgrow2
      rw[←H7.out.2.2.2.2.2] at hgrow3
      obtain⟨e1,e2⟩:=rw_more HRW.out.1 hlt (show B≤wr.heap.size by omega) HV.out.2 HV.out.1 hown hgrow3
      rw[HSQ.out] at e1
      have e3:Below B w (w9.setCell ⟨g,k,none⟩ (.slice (some ⟨g2,0,none⟩) (r.length+1) cap2)):=((H7.out.2.1.alloc (by omega) (.cells #[.int .i64 z] 3)).grown hgrow2 (by simp;omega) (fun q hq=>(HV9.out.lt q hq).1)).setCell (p:=⟨g,k,none⟩) (show B≤g by omega) _
      have e4:=(e2 B HXL.out (fun e=>hgB e.symm)).trans HRW.out.2.2
      have HE:=hid (And.intro e1 (And.intro e3 e4))
      clear hown hgrow hgrow2 hgrow3 e1 e2 e3 e4
      go_wp2
      go_roundw
      case rel=>exact⟨k+1,_,by omega,by go_num,HE.out.1,HE.out.2.1,HE.out.2.2⟩
      case measure=>simp[intOf];omega
    ·have ez:decide (z≥0)=false:=decide_eq_false hz0
     have hq:=HSET.out
     rw[if_neg (fun h=>hz0 h.2)] at hq
     have HSQ:=hid hq
     clear hq
     go_wp2
     go_roundw
     case rel=>exact⟨k+1,_,by omega,by go_num,by rw[←HSQ.out];exact H7.out.1,H7.out.2.1,H7.out.2.2.1⟩
     case measure=>simp[intOf];omega
   ·have hj':jumps=false:=by simpa using hj
    subst hj'
    have hq:=HSET.out
    rw[if_neg (fun h=>hj h.1)] at hq
    have HSQ:=hid hq
    clear hq
    go_wp2
    go_roundw
    case rel=>exact⟨k+1,_,by omega,by go_num,by rw[←HSQ.out];exact H7.out.1,H7.out.2.1,H7.out.2.2.1⟩
    case measure=>simp[intOf];omega
  ·obtain rfl:k=M:=by omega
   go_wp2
   go_ret
   rw[hB]
   refine⟨⟨g,rfl,?_⟩,hb⟩
   have:=hrw.o
   rw[List.take_of_length_le (by rw[edges_len];have:=HMM.out;omega),Nat.sub_self,List.replicate_zero,List.append_nil] at this
   exact this
end Go.Proofs.YtagnmppdhfmgdaaGreatDoor.Fl
