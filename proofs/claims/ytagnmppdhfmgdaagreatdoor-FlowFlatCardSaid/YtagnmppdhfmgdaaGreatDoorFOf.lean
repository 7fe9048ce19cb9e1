/- What Of tells: the graph of statements. -/
import Derived.Test.YtagnmppdhfmgdaaGreatDoorFDraw
import Derived.Test.YtagnmppdhfmgdaaGreatDoorFRep
set_option linter.unusedSimpArgs false
set_option linter.unusedVariables false
set_option maxHeartbeats 8000000
set_option maxRecDepth 100000
namespace Go.Proofs.YtagnmppdhfmgdaaGreatDoor.Fl
open Go Go.RowKit Go.Proofs.YtagnmppdhfmgdaaGreatDoor
open Go.Lib (hid)
def za7 (l:List ST) (k:Nat):List NR:=(zaY l).take k++((zaY l).drop k).map NR.raw
def zdx (l:List ST) (k:Nat):List (List Int):=(zcV l).take k++List.replicate (cnts l+1 - k) []
def zbW (l:List ST) (k:Nat):List Int:=(zce l).take k++List.replicate (cnts l+1 - k) (-1)
theorem stateN_len (l:List ST) (k:Nat):(za7 l k).length=cnts l:=by
 unfold za7;rw[List.length_append,List.length_map,List.length_take,List.length_drop,zaG];omega
theorem stateN_at {l:List ST} {k:Nat} (hk:k < cnts l):∃n,(zaY l)[k]?=some n∧(za7 l k)[k]?=some n.raw:=by
 have hl:k < (zaY l).length:=by rw[zaG];exact hk
 refine⟨(zaY l)[k],List.getElem?_eq_getElem hl,?_⟩
 unfold za7
 rw[List.getElem?_append_right (by rw[List.length_take];omega),List.length_take,show k - min k (zaY l).length=0 by omega,List.getElem?_map,List.getElem?_drop,Nat.add_zero,List.getElem?_eq_getElem hl]
 rfl
theorem stateN_old {l:List ST} {k i:Nat} (hi:i < k) (hk:k≤cnts l):(za7 l k)[i]?=(zaY l)[i]?:=by
 unfold za7
 rw[List.getElem?_append_left (by rw[List.length_take,zaG];omega),List.getElem?_take_of_lt hi]
theorem zcU {α:Type} (f:α→α):∀(L:List α) (k:Nat) (a:α),L[k]?=some a→(L.take k++(L.drop k).map f).set k a=L.take (k+1)++(L.drop (k+1)).map f
 | [],k,a,h=>by simp at h
 | b :: L,0,a,h=>by
  simp only[List.getElem?_cons_zero,Option.some.injEq] at h
  subst h
  simp
 | b :: L,k+1,a,h=>by
  have:=zcU f L k a (by simpa using h)
  simp only[List.take_succ_cons,List.drop_succ_cons,List.cons_append,List.set_cons_succ,this]
theorem put_raw {l:List ST} {k:Nat} {n:NR} (hn:(zaY l)[k]?=some n):n.raw.put (endP ((za7 l k).length:Nat) (za7 l k) n.raw.par)=n:=by
 have hk:k < cnts l:=by have:=zaK hn;rwa [zaG] at this
 have hf:=nodes_fit l hn
 have he:endP ((za7 l k).length:Nat) (za7 l k) n.par=endP (cnts l:Nat) (zaY l) n.par:=by
  rw[stateN_len]
  unfold endP
  rcases hf.par with h | ⟨h1,h2⟩
  ·rw[if_pos h,if_pos h]
  ·rw[stateN_old (by omega) (by omega)]
 have hp:=hf.pl
 show NR.mk n.S n.par _ _ _ n.beh n.oth=n
 show NR.mk n.S n.par (if n.beh=-1 then (endP ((za7 l k).length:Nat) (za7 l k) n.par).1 else n.beh) (endP ((za7 l k).length:Nat) (za7 l k) n.par).2.1 (endP ((za7 l k).length:Nat) (za7 l k) n.par).2.2 n.beh n.oth=n
 rw[he]
 rw[Prod.mk.injEq] at hp
 obtain⟨h1,h2⟩:=hp
 rw[←h1,←h2]
theorem stateN_succ {l:List ST} {k:Nat} {n:NR} (hn:(zaY l)[k]?=some n):(za7 l k).set k n=za7 l (k+1):=zcU NR.raw _ _ _ hn
theorem zdf {α:Type} (L:List α) (z a:α) (k:Nat) (h:L[k]?=some a):(L.take k++List.replicate (L.length - k) z).set k a=L.take (k+1)++List.replicate (L.length - (k+1)) z:=by
 have hl:=zaK h
 have:=zcU (fun _=>z) L k a h
 have e:∀j,(L.drop j).map (fun _=>z)=List.replicate (L.length - j) z:=fun j=>by
  rw[List.map_const',List.length_drop]
 rw[e,e] at this
 exact this
theorem stateX_succ {l:List ST} {k:Nat} {n:NR} (hn:(zaY l)[k]?=some n):(zdx l k).set k (nextR (cnts l:Nat) k n)=zdx l (k+1):=by
 have:=zdf (zcV l) [] _ k (nexts_at hn)
 rw[nexts_len] at this
 exact this
theorem stateO_succ {l:List ST} {k:Nat} {n:NR} (hn:(zaY l)[k]?=some n):(if n.S.kind=6∨n.S.kind=7∨n.S.kind=8 then (zbW l k).set k n.fol else zbW l k)=zbW l (k+1):=by
 have h:=zdf (zce l) (-1) _ k (others_at hn)
 rw[zcE] at h
 have hk:k < cnts l:=by have:=zaK hn;rwa [zaG] at this
 split
 ·rename_i hj
  unfold othR at h
  rw[if_pos hj] at h
  exact h
 ·rename_i hj
  unfold othR at h
  rw[if_neg hj] at h
  have e:(zbW l k).set k (-1)=zbW l k:=by
   apply List.ext_getElem?
   intro j
   rw[List.getElem?_set]
   split
   ·rename_i e
    subst e
    rw[if_pos (by unfold zbW;rw[List.length_append,List.length_take,zcE,List.length_replicate];omega)]
    unfold zbW
    rw[List.getElem?_append_right (by rw[List.length_take,zcE];omega),List.length_take,zcE,show k - min k (cnts l+1)=0 by omega,List.getElem?_replicate,if_pos (by omega)]
   ·rfl
  rw[←e]
  exact h
theorem state_end (l:List ST):za7 l (cnts l)=zaY l∧zdx l (cnts l)=zcV l∧zbW l (cnts l)=zce l:=by
 refine⟨?_,?_,?_⟩
 ·unfold za7;rw[List.take_of_length_le (by rw[zaG];exact Nat.le_refl _),List.drop_of_length_le (by rw[zaG];exact Nat.le_refl _)];simp
 ·unfold zdx zcV
  rw[List.take_append_of_le_length (by rw[List.length_mapIdx,zaG];exact Nat.le_refl _),List.take_of_length_le (by rw[List.length_mapIdx,zaG];exact Nat.le_refl _),show cnts l+1 - cnts l=1 by omega];rfl
 ·unfold zbW zce
  rw[List.take_append_of_le_length (by rw[List.length_map,zaG];exact Nat.le_refl _),List.take_of_length_le (by rw[List.length_map,zaG];exact Nat.le_refl _),show cnts l+1 - cnts l=1 by omega];rfl
theorem state_begin (l:List ST):za7 l 0=(zaY l).map NR.raw∧zdx l 0=List.replicate (cnts l+1) []∧zbW l 0=List.replicate (cnts l+1) (-1):=by
 refine⟨?_,?_,?_⟩
 ·unfold za7;simp
 ·unfold zdx;simp
 ·unfold zbW;simp
theorem node_small (l:List ST) {w:World} {B i:Nat} {a:Option Addr} (hin:SsIn w B a i l):∀(p:Nat) (par fol brk agn:Int),∀n∈lay p par fol brk agn l,n.S.bn≤9223372036854775807∧n.S.ln≤9223372036854775807:=by
 suffices h:∀(m:Nat) (l:List ST),Szs l < m→∀(a:Option Addr) (i:Nat),SsIn w B a i l→∀(p:Nat) (par fol brk agn:Int),∀n∈lay p par fol brk agn l,n.S.bn≤9223372036854775807∧n.S.ln≤9223372036854775807 from h _ l (Nat.lt_succ_self _) a i hin
 intro m
 induction m with
 | zero=>intro l h;omega
 | succ m ih =>
  intro l
  induction l with
  | nil=>intro _ a i _ p par fol brk agn n h;rw[lay] at h;cases h
  | cons S r ihr =>
   intro hm a i hin p par fol brk agn n hn
   rw[Szs] at hm
   rw[SsIn] at hin
   have hz:=zcc S
   have h1:=in_body hin.2.1
   have h2:=in_els hin.2.1
   rw[lay,zct,List.mem_append,List.mem_cons,List.mem_append] at hn
   rcases hn with (rfl | hn | hn) | hn
   ·exact⟨by show S.bn≤_;rw[bn_is];exact h1.2,by show S.ln≤_;rw[ln_is];exact h2.2⟩
   ·exact ih S.body (by omega) _ _ h1.1 _ _ _ _ _ n hn
   ·exact ih S.els (by omega) _ _ h2.1 _ _ _ _ _ n hn
   ·exact ihr (by omega) _ _ hin.2.2 _ _ _ _ _ n hn
theorem zds {w:World} {B B' n sz:Nat} {e:TypeId} {v:Value} {xs:List Value} (h:w.ownsRow B e sz v n xs) (hB:B'≤B):w.ownsRow B' e sz v n xs:=by
 refine⟨h.1,?_⟩
 rcases h.2 with h2 | ⟨g,cap,cur,hv,hb,r⟩
 ·exact .inl h2
 ·exact .inr ⟨g,cap,cur,hv,Nat.le_trans hB hb,r⟩
theorem of_in {B b X:Nat} {ns:List NR} {w w3:World} {ai an:Option Addr} {ci cn g cap:Nat} (h:BdO B b ns w ai an ci cn) (hX:ns.length+1=X) (z:Int)
  (hown:w3.ownsRow B 3 1 (.slice (some ⟨g,0,none⟩) X cap) X (ints (ns.map NR.par)++[.int .i64 z])) (hg:(w.alloc (.cells #[.int .i64 z] 3)).grownBy w3 (Value.slice ai ns.length ci).ownBlock):
  BBox (w3.setCell ⟨b,2,none⟩ (.slice (some ⟨g,0,none⟩) X cap)) b (.slice none 0 0) (.slice none 0 0) (.slice (some ⟨g,0,none⟩) X cap) (.slice an ns.length cn) ∧
  (w3.setCell ⟨b,2,none⟩ (.slice (some ⟨g,0,none⟩) X cap)).ownsRow B 3 1 (.slice (some ⟨g,0,none⟩) X cap) X (ints (ns.map NR.par++[z])) ∧
  (w3.setCell ⟨b,2,none⟩ (.slice (some ⟨g,0,none⟩) X cap)).ownsRow B 88 12 (.slice an ns.length cn) ns.length (ns.flatMap NR.cells) ∧
  Below B w (w3.setCell ⟨b,2,none⟩ (.slice (some ⟨g,0,none⟩) X cap)):=by
 have hlt:=lt_of_block h.box
 have hBw:B≤w.heap.size:=Nat.le_trans h.hB (Nat.le_of_lt hlt)
 have ha:=h.alloc (.cells #[.int .i64 z] 3)
 have h5:BBox w3 b (.slice none 0 0) (.slice none 0 0) (.slice ai ns.length ci) (.slice an ns.length cn):=(hg.block b (lt_of_block ha.box) (fun e=>zba ha.i ha.box (by decide) e.symm)).trans ha.box
 have hn5:=zdF ha.n hg (fun q hq=>za1 ha.n ha.i (by decide) q hq)
 refine⟨bb_set h5,?_,zbi hn5 (zba hn5 h5 (by decide)) _ _,?_⟩
 ·have:=zbi hown (zba hown h5 (by decide)) 2 (.slice (some ⟨g,0,none⟩) X cap)
  simpa[ints] using this
 ·exact(((Below.refl B w).alloc hBw _).grown hg (by simp;omega) (fun k hk=>(ha.i.lt k hk).1)).setCell (p:=⟨b,2,none⟩) h.hB _
theorem gx_begin {B b X:Nat} {ns:List NR} {w w5:World} {an:Option Addr} {cn g cap:Nat} {is:List Int} (hX:is.length=X) (hX1:1≤X∧X≤1000001) (hB:B≤b) (hbox:BBox w b (.slice none 0 0) (.slice none 0 0) (.slice (some ⟨g,0,none⟩) X cap) (.slice an ns.length cn))
  (hi:w.ownsRow B 3 1 (.slice (some ⟨g,0,none⟩) X cap) X (ints is)) (hn:w.ownsRow B 88 12 (.slice an ns.length cn) ns.length (ns.flatMap NR.cells)) {c:World} {G:Nat}
  (hc:((w.setCell ⟨b,0,none⟩ (.slice (some ⟨w.heap.size,0,none⟩) X X)).alloc (.cells (Array.replicate X (.slice none 0 0)) 29)).alloc (.cells #[.int .i64 (-1)] 3)=c) (hG:c.heap.size=G)
  (ho:w5.ownsRow G 3 1 (.slice (some ⟨G,0,none⟩) X X) X (List.replicate X (.int .i64 (-1)))) (h5:Below G c w5):
  Gx B b ns (List.replicate X []) (List.replicate X (-1)) is (w5.setCell ⟨b,1,none⟩ (.slice (some ⟨G,0,none⟩) X X)) w.heap.size G (some ⟨g,0,none⟩) an X X cap cn (List.replicate X (.slice none 0 0))∧Below B w (w5.setCell ⟨b,1,none⟩ (.slice (some ⟨G,0,none⟩) X X)):=by
 subst hX
 have hlt:=lt_of_block hbox
 have hBw:B≤w.heap.size:=Nat.le_trans hB (Nat.le_of_lt hlt)
 have hsz:(w.setCell ⟨b,0,none⟩ (.slice (some ⟨w.heap.size,0,none⟩) is.length is.length)).heap.size=w.heap.size:=by simp[World.setCell]
 have b1:BBox (w.setCell ⟨b,0,none⟩ (.slice (some ⟨w.heap.size,0,none⟩) is.length is.length)) b (.slice (some ⟨w.heap.size,0,none⟩) is.length is.length) (.slice none 0 0) (.slice (some ⟨g,0,none⟩) is.length cap) (.slice an ns.length cn):=bb_set hbox
 have i1:=zbi hi (zba hi hbox (by decide)) 0 (.slice (some ⟨w.heap.size,0,none⟩) is.length is.length)
 have n1:=zbi hn (zba hn hbox (by decide)) 0 (.slice (some ⟨w.heap.size,0,none⟩) is.length is.length)
 have v2:=World.ownsRow_lit (base:=B) (e:=29) (size:=1) (w.setCell ⟨b,0,none⟩ (.slice (some ⟨w.heap.size,0,none⟩) is.length is.length)) (Array.replicate is.length (.slice none 0 0)) is.length (by rw[hsz];exact hBw) (by unfold maxLen;omega) (by simp)
 rw[hsz] at v2
 have b2:=zaf (.cells (Array.replicate is.length (.slice none 0 0)) 29) b1
 have i2:=i1.alloc (.cells (Array.replicate is.length (.slice none 0 0)) 29)
 have n2:=n1.alloc (.cells (Array.replicate is.length (.slice none 0 0)) 29)
 have b3:=zaf (.cells #[.int .i64 (-1)] 3) b2
 have v3:=v2.alloc (.cells #[.int .i64 (-1)] 3)
 have i3:=i2.alloc (.cells #[.int .i64 (-1)] 3)
 have n3:=n2.alloc (.cells #[.int .i64 (-1)] 3)
 have bl:=(((Below.refl B w).setCell (p:=⟨b,0,none⟩) hB (.slice (some ⟨w.heap.size,0,none⟩) is.length is.length)).alloc (by rw[hsz];exact hBw) (.cells (Array.replicate is.length (.slice none 0 0)) 29)).alloc (by simp[World.setCell];omega) (.cells #[.int .i64 (-1)] 3)
 rw[hc] at b3 v3 i3 n3 bl
 subst hG
 have b4:BBox w5 b (.slice (some ⟨w.heap.size,0,none⟩) is.length is.length) (.slice none 0 0) (.slice (some ⟨g,0,none⟩) is.length cap) (.slice an ns.length cn):=(h5.block b (lt_of_block b3)).trans b3
 have v4:=zaB v3 fun q hq=>h5.block q (zaO v3 hq)
 have i4:=zaB i3 fun q hq=>h5.block q (zaO i3 hq)
 have n4:=zaB n3 fun q hq=>h5.block q (zaO n3 hq)
 have hBc:B≤c.heap.size:=Nat.le_trans hBw bl.size
 have o4:w5.ownsRow B 3 1 (.slice (some ⟨c.heap.size,0,none⟩) is.length is.length) is.length (List.replicate is.length (.int .i64 (-1))):=zds ho hBc
 have hgc:g < c.heap.size:=zaO i3 rfl
 refine⟨⟨hB,⟨bb_set b4,zbi n4 (zba n4 b4 (by decide)) _ _⟩,?_,zbi i4 (zba i4 b4 (by decide)) _ _,?_,by rw[List.length_replicate],fun i r hr=>?_,by simp[Value.ownBlock];omega⟩,?_⟩
 ·have:=zbi o4 (zba o4 b4 (by decide)) 1 (.slice (some ⟨c.heap.size,0,none⟩) is.length is.length)
  simpa[ints] using this
 ·have:=zbi v4 (zba v4 b4 (by decide)) 1 (.slice (some ⟨c.heap.size,0,none⟩) is.length is.length)
  simpa using this
 ·rw[List.getElem?_replicate] at hr
  split at hr
  ·rename_i hlt'
   simp only[Option.some.injEq] at hr
   subst hr
   exact⟨.slice none 0 0,by rw[List.getElem?_replicate,if_pos hlt'],World.ownsRow_nil _ _ _ _,by simp[Value.ownBlock]⟩
  ·cases hr
 ·exact(bl.trans (h5.mono hBc)).setCell (p:=⟨b,1,none⟩) hB _
theorem gx_settle {B b:Nat} {ns ns':List NR} {nx:List (List Int)} {os is:List Int} {w w':World} {gv go:Nat} {ai an:Option Addr} {cv co ci cn:Nat} {rv:List Value} (h:Gx B b ns nx os is w gv go ai an cv co ci cn rv)
  (hn:Nd B b ns' w' (.slice (some ⟨gv,0,none⟩) is.length cv) (.slice (some ⟨go,0,none⟩) is.length co) (.slice ai is.length ci) an cn) (hk:KeptP (fun q=>some q=(Value.slice an ns.length cn).ownBlock) w w'):Gx B b ns' nx os is w' gv go ai an cv co ci cn rv:=by
 have key:∀{u:Value} {n sz:Nat} {e:TypeId} {xs:List Value},w.ownsRow B e sz u n xs→e≠88→w'.ownsRow B e sz u n xs:=fun hu he =>
  zaB hu fun q hq=>hk.block q (zaO hu hq) (fun e'=>za1 hu h.nd.n (Ne.symm he) q e'.symm hq)
 exact⟨h.hB,hn,key h.o (by decide),key h.i (by decide),key h.v (by decide),h.len,fun i r hr=>by
  obtain⟨u,h1,h2,h3⟩:=h.rows i r hr
  exact⟨u,h1,key h2 (by decide),h3⟩,h.far⟩
structure GraphAt (w:World) (B:Nat) (v:Value) (l:List ST):Prop where
 ex:∃gv go ai cv co ci rv,v=.agg #[.slice (some ⟨gv,0,none⟩) (cnts l+1) cv,.slice (some ⟨go,0,none⟩) (cnts l+1) co,.slice ai (cnts l+1) ci] ∧
  w.ownsRow B 29 1 (.slice (some ⟨gv,0,none⟩) (cnts l+1) cv) (cnts l+1) rv∧w.ownsRow B 3 1 (.slice (some ⟨go,0,none⟩) (cnts l+1) co) (cnts l+1) (ints (zce l))∧w.ownsRow B 3 1 (.slice ai (cnts l+1) ci) (cnts l+1) (ints (insG l)) ∧
  ∀(i:Nat) (r:List Int),(zcV l)[i]?=some r→∃u,rv[i]?=some u∧w.ownsRow B 3 1 u r.length (ints r)
theorem of_any {w0:World} (a:Option Addr) (c:Nat) (l:List ST) (hl:l.length≤9223372036854775807) (hin:SsIn w0 0 a 0 l) (hc:cnts l≤100000) (w:World) (hp:Past w0 w):
  Calls Tryz.prog 11 #[.slice a l.length c] w fun e w'=>∃v,e=.returned v∧GraphAt w' w.heap.size v l∧Below w.heap.size w w':=by
 have hR:(w.alloc (.cells #[.slice none 0 0,.slice none 0 0,.slice none 0 0] 40)).heap.size=w.heap.size+1:=by simp
 have HK:=hid (newB_any (w0:=w0) a c l hl hin hc (w.alloc (.cells #[.slice none 0 0,.slice none 0 0,.slice none 0 0] 40)) (hp.alloc _))
 have hRb:=zai w (.cells #[.slice none 0 0,.slice none 0 0,.slice none 0 0] 40)
 have HRB:=hid hRb
 have HSM:=hid (node_small l hin)
 obtain⟨ii,hii,hi0,hi1,hi2⟩:=info_parts zcT
 have hmk:=made_rows (cnts l+1) (by omega)
 clear hin hp hRb
 go_enter Tryz.func11,Tryz.ntmps11
 go_upto_region 2 with (go_at_call 29;(refine HK.out.mono ?_);rintro e w2 ⟨rfl,h2,hb2⟩;have H2:=hid (And.intro h2 hb2);clear h2 hb2)
 rw[hR] at H2
 obtain⟨B,hBB⟩:∃B,w.heap.size+1=B:=⟨_,rfl⟩
 rw[hBB] at H2 ⊢
 have hRl:w.heap.size < B:=by omega
 have HRL:=hid hBB
 obtain⟨ai,an,ci,cn,hO⟩:=bd_open H2.out.1
 obtain⟨N,hN⟩:∃N,((zaY l).map NR.raw).length=N:=⟨_,rfl⟩
 have hNc:N=cnts l:=by rw[←hN,List.length_map,zaG]
 obtain⟨X,hX⟩:∃X,N+1=X:=⟨_,rfl⟩
 have hXc:X=cnts l+1:=by omega
 rw[←hXc] at hmk
 have hO':=hO
 obtain⟨b0,b1,b2,b3,bf,bl⟩:=zau hO.box
 rw[hN] at b2 b3
 have hOi:=hO.i
 rw[hN] at hOi
 have HOI:=hid hOi
 have HO:=hid hO
 have HNX:=hid (And.intro hN (And.intro hNc (And.intro hX hXc)))
 have hq:N≤100000:=by omega
 clear hR hBB hRl hO hO' hOi hN hNc hXc
 go_upto_region 3 with (at_builtin;refine wpList_append_lies _ rfl _ _ 29 rfl B 3 ii _ 1 8 Tryz.underlying29 hii hi0 hi1 hi2 rfl (by decide) (.slice ai N ci) N (ints (((zaY l).map NR.raw).map NR.par)) rfl (HOI.out.alloc _) ⟨w2.heap.size,0,none⟩ 1 1 [.int .i64 (-1)] rfl rfl (World.news_of_block (zai w2 (.cells #[.int .i64 (-1)] 3))) (by intro u hu;simp only[List.mem_singleton] at hu;subst hu;rfl) (by decide) (by unfold maxLen;omega) (by omega) (by have:=HO.out.hB;simp;omega) _ rfl ?_;intro g cap w3 hown hgrow hat hlt3;rw[hX] at hown ⊢;have HX3:=hid (And.intro hown hgrow);have z0:=(hgrow.block B (by simp;omega) (fun e=>zba (HOI.out.alloc (.cells #[.int .i64 (-1)] 3)) (zaf (.cells #[.int .i64 (-1)] 3) HO.out.box) (by decide) e.symm)).trans (zaf _ HO.out.box);have z1:=zab (k:=2) z0 rfl;have z2:=zac (k:=2) z0;have z3:=lt_of_block z0;clear z0 hown hgrow hat)
 obtain⟨hown,hgrow⟩:=HX3.out
 obtain⟨y1,y2,y3,y4⟩:=of_in HO.out (X:=X) (by rw[HNX.out.1];exact hX) (-1) hown (by rw[HNX.out.1];exact hgrow)
 rw[HNX.out.1] at y1 y3
 have hpars:((zaY l).map NR.raw).map NR.par++[-1]=insG l:=by
  unfold insG;rw[List.map_map];rfl
 rw[hpars] at y2
 have hRk:(w3.setCell ⟨B,2,none⟩ (.slice (some ⟨g,0,none⟩) X cap)).heap[w.heap.size]?=some (.cells #[.slice none 0 0,.slice none 0 0,.slice none 0 0] 40 (0,0)):=(y4.block _ (by have:=HRL.out;omega)).trans ((H2.out.2.block _ (by have:=HRL.out;omega)).trans HRB.out)
 have yb:Below w.heap.size w (w3.setCell ⟨B,2,none⟩ (.slice (some ⟨g,0,none⟩) X cap)):=((Below.refl w.heap.size w).alloc (Nat.le_refl _) _).trans ((H2.out.2.trans y4).mono (by have:=HRL.out;omega))
 clear hown hgrow HX3 y4 hpars z1 z2 z3 hlt3 b0 b1 b2 b3 bf bl HOI HO HRB HK
 generalize w3.setCell ⟨B,2,none⟩ (.slice (some ⟨g,0,none⟩) X cap)=W3 at y1 y2 y3 hRk yb ⊢
 obtain⟨b0,b1,b2,b3,bf,bl⟩:=zau y1
 have HY:=hid (And.intro y1 (And.intro y2 (And.intro y3 (And.intro hRk yb))))
 have hX1:1≤X∧X≤1000001:=by omega
 have hlits:(insG l).length=X:=by rw[ins_len];exact HNX.out.2.2.2.symm
 have HLI:=hid hlits
 clear y1 y2 y3 hRk yb hlits
 go_upto_region 4 with (fail)
 have hbx:BBox ((W3.setCell ⟨B,0,none⟩ (.slice (some ⟨W3.heap.size,0,none⟩) X X)).alloc (.cells (Array.replicate X (.slice none 0 0)) 29)) B (.slice (some ⟨W3.heap.size,0,none⟩) X X) (.slice none 0 0) (.slice (some ⟨g,0,none⟩) X cap) (.slice an N cn):=zaf _ (bb_set HY.out.1)
 have hsz4:((W3.setCell ⟨B,0,none⟩ (.slice (some ⟨W3.heap.size,0,none⟩) X X)).alloc (.cells (Array.replicate X (.slice none 0 0)) 29)).heap.size=W3.heap.size+1:=by simp[World.setCell]
 have hsl:(W3.setCell ⟨B,0,none⟩ (.slice (some ⟨W3.heap.size,0,none⟩) X X)).heap.size=W3.heap.size:=by simp[World.setCell]
 have hbig:=fun W5 ho h5=>gx_begin (w:=W3) (w5:=W5) (an:=an) (cn:=cn) (ns:=(zaY l).map NR.raw) (G:=((W3.setCell ⟨B,0,none⟩ (.slice (some ⟨W3.heap.size,0,none⟩) X X)).alloc (.cells (Array.replicate X (.slice none 0 0)) 29)).heap.size+1) HLI.out hX1 (Nat.le_refl B) (by rw[HNX.out.1];exact HY.out.1) HY.out.2.1 (by rw[HNX.out.1];exact HY.out.2.2.1) rfl (by simp) ho h5
 have HBG:=hid hbig
 clear hbig b0 b1 b2 b3 bf bl
 generalize (W3.setCell ⟨B,0,none⟩ (.slice (some ⟨W3.heap.size,0,none⟩) X X)).alloc (.cells (Array.replicate X (.slice none 0 0)) 29)=W4 at hbx hsz4 HBG ⊢
 obtain⟨b0,b1,b2,b3,bf,bl⟩:=zau hbx
 have HBX:=hid hbx
 have HR4:=hid (repeat_any X hX1 (-1) W4.heap.size (W4.alloc (.cells #[.int .i64 (-1)] 3)) (zab (zai W4 _) rfl))
 have hsz5:(W4.alloc (.cells #[.int .i64 (-1)] 3)).heap.size=W4.heap.size+1:=by simp
 rw[hsz5] at HR4
 rw[hsz4] at bl HBG HR4
 clear hbx hsl hsz5
 go_upto_region 5 with (go_at_call 30;(refine HR4.out.mono ?_);rintro e w5 ⟨rfl,ho5,hb5⟩;have z0:=(hb5.block B (by omega)).trans (zaf (.cells #[.int .i64 (-1)] 3) HBX.out);have z1:=zab (k:=1) z0 rfl;have z2:=zac (k:=1) z0;have z3:=lt_of_block z0;have H5:=hid (HBG.out _ ho5 hb5);clear z0 ho5 hb5)
 have hRk:(w5.setCell ⟨B,1,none⟩ (.slice (some ⟨W3.heap.size+1+1,0,none⟩) X X)).heap[w.heap.size]?=some (.cells #[.slice none 0 0,.slice none 0 0,.slice none 0 0] 40 (0,0)):=(H5.out.2.block _ (by have:=HRL.out;omega)).trans HY.out.2.2.2.1
 have yb:Below w.heap.size w (w5.setCell ⟨B,1,none⟩ (.slice (some ⟨W3.heap.size+1+1,0,none⟩) X X)):=HY.out.2.2.2.2.trans (H5.out.2.mono (by have:=HRL.out;omega))
 have HG:=hid H5.out.1
 clear z1 z2 z3 b0 b1 b2 b3 bf bl HBX HR4 H5 HBG hsz4 hmk
 generalize w5.setCell ⟨B,1,none⟩ (.slice (some ⟨W3.heap.size+1+1,0,none⟩) X X)=w6 at HG hRk yb ⊢
 generalize W3.heap.size+1+1=go at HG ⊢
 generalize W3.heap.size=gv at HG ⊢
 have HB6:=hid (And.intro hRk yb)
 clear hRk yb HY
 obtain⟨b0,b1,b2,b3,bf,bl⟩:=zau HG.out.nd.box
 rw[HNX.out.1] at b3
 obtain⟨hn0,hnc,hnx,hxc⟩:=HNX.out
 have hg0:Gx B B (za7 l 0) (zdx l 0) (zbW l 0) (insG l) w6 gv go (some ⟨g,0,none⟩) an X X cap cn (List.replicate X (.slice none 0 0)):=by
  obtain⟨e1,e2,e3⟩:=state_begin l
  rw[e1,e2,e3,←hxc]
  exact HG.out
 have HG0:=hid hg0
 have HNC:=hid (And.intro hnc hxc)
 clear hg0 HG hn0 hnx hnc hxc
 go_upto_region 6 with (fail)
 go_loopw [46] (fun i wr=>∃(k:Nat) (rv:List Value),k≤N∧i=.int .i64 k∧Gx B B (za7 l k) (zdx l k) (zbW l k) (insG l) wr gv go (some ⟨g,0,none⟩) an X X cap cn rv∧(∀j,k≤j→j < X→rv[j]?=some (.slice none 0 0))∧Below B w6 wr) (fun i _=>N - (intOf i).toNat)
 case atStart=>exact⟨0,_,Nat.zero_le _,rfl,HG0.out,fun j _ hj=>by rw[List.getElem?_replicate,if_pos hj],Below.refl _ _⟩
 case round =>
  obtain⟨k,rv,hk,rfl,hg,hrv,hb⟩:=hrel
  have HW:=hid (And.intro hg (And.intro hrv hb))
  clear hg hrv hb b0 b1 b2 b3 bf bl
  by_cases hlt:k < N
  ·obtain⟨hnc,hxc⟩:=HNC.out
   obtain⟨n,hn,hnr⟩:=stateN_at (l:=l) (k:=k) (by omega)
   have hf:=nodes_fit l hn
   have hlen:(za7 l k).length=N:=by rw[stateN_len];exact hnc.symm
   have hins:(insG l)[k]?=some n.raw.par:=by show(insG l)[k]?=some n.par;exact ins_at hn
   have hst:=settle_any HW.out.1.nd HW.out.1.i (by rw[hlen];omega) hnr hins (by rw[hlen];show n.par=-1∨_;rcases hf.par with h | h;exact .inl h;right;show 0≤n.par∧n.par < _;omega)
   rw[put_raw hn,stateN_succ hn] at hst
   have HST:=hid hst
   have hnn:(za7 l (k+1))[k]?=some n:=by rw[stateN_old (by omega) (by omega)];exact hn
   have hlen1:(za7 l (k+1)).length=N:=by rw[stateN_len];exact hnc.symm
   obtain⟨gn,hgn,-,-,-,-,-,-⟩:=zbk HW.out.1.nd.n (by rw[hlen];omega)
   have hsm:=HSM.out 0 (-1) (cnts l:Nat) (cnts l:Nat) (cnts l:Nat) n (List.mem_of_getElem? hn)
   have hos:(zbW l k).length=(insG l).length:=by
    unfold zbW;rw[List.length_append,List.length_take,zcE,List.length_replicate,ins_len];omega
   have HD:Hid (∀W,Gx B B (za7 l (k+1)) (zdx l k) (zbW l k) (insG l) W gv go (some ⟨g,0,none⟩) (some ⟨gn,0,none⟩) X X cap cn rv→Calls Tryz.prog 32 #[.pointer (some ⟨B,0,none⟩),.int .i64 k] W (DrawPost B B (za7 l (k+1)) (zdx l k) (zbW l k) (insG l) gv go gn (some ⟨g,0,none⟩) X X cap cn rv k n W)):=hid fun W hW =>
    draw_any hW (by rw[HLI.out];omega) hnn (HW.out.2.1 k (Nat.le_refl _) (by omega)) hos (by rw[hlen1];omega) hsm
   have HEN:=hid (And.intro hlen1 (And.intro (stateX_succ hn) (stateO_succ hn)))
   clear hn hnr hf hlen hins hst hnn hlen1 hsm hos hnc hxc
   subst hgn
   go_wp2_with (first
    | (go_at_call 32;(refine(HD.out w8 HG8.out).mono ?_);rintro e w9 ⟨rfl,rv9,g9,k9,q9⟩;have H9:=hid (And.intro g9 (And.intro k9 q9));clear g9 k9 q9)
    | (go_at_call 31;(refine HST.out.mono ?_);rintro e w8 ⟨rfl,n8,b8,k8⟩;have HG8:=hid (gx_settle HW.out.1 n8 k8);have HB8:=hid b8;clear n8 b8 k8))
   go_roundw
   case rel =>
    obtain⟨g9,k9,q9⟩:=H9.out
    obtain⟨e1,e2,e3⟩:=HEN.out
    rw[e1,HNC.out.1,e2,e3] at g9
    exact⟨k+1,rv9,by omega,by go_num,g9,fun j hj hjx=>by rw[k9 j (by omega)];exact HW.out.2.1 j (by omega) hjx,HW.out.2.2.trans (HB8.out.trans q9)⟩
   case measure=>simp[intOf];omega
  ·obtain rfl:k=N:=by omega
   obtain⟨hg,-,hb⟩:=HW.out
   rw[HNC.out.1] at hg
   obtain⟨e1,e2,e3⟩:=state_end l
   rw[e1,e2,e3] at hg
   obtain⟨b0,b1,b2,b3,bf,bl⟩:=zau hg.nd.box
   rw[HLI.out,HNC.out.2] at b0 b1 b2
   have hR:=(hb.block w.heap.size (by have:=HRL.out;omega)).trans HB6.out.1
   have r0:=zab (k:=0) hR rfl
   have r1:=zab (k:=1) hR rfl
   have r2:=zab (k:=2) hR rfl
   have rf:∀k,wr.frozen? ⟨w.heap.size,k,none⟩=false:=fun k=>zac hR
   have rl:=lt_of_block hR
   have HE:=hid (And.intro hg (And.intro hb hR))
   clear hg hb hR HW
   go_wp2
   obtain⟨hg,hb,hR⟩:=HE.out
   have hRl:=HRL.out
   have hfar:∀{u:Value} {n sz:Nat} {e:TypeId} {xs:List Value},wr.ownsRow B e sz u n xs→∀(a b c:Value),(((wr.setCell ⟨w.heap.size,0,none⟩ a).setCell ⟨w.heap.size,1,none⟩ b).setCell ⟨w.heap.size,2,none⟩ c).ownsRow B e sz u n xs:=fun hu a b c=>by
    exact zbi (zbi (zbi hu (fun hq=>by have:=(hu.lt _ hq).1;omega) _ _) (fun hq=>by have:=(hu.lt _ hq).1;omega) _ _) (fun hq=>by have:=(hu.lt _ hq).1;omega) _ _
   have hBw:w.heap.size≤B:=by omega
   refine bodyPost_ret (v:=.agg #[.slice (some ⟨gv,0,none⟩) (cnts l+1) (cnts l+1),.slice (some ⟨go,0,none⟩) (cnts l+1) (cnts l+1),.slice (some ⟨g,0,none⟩) (cnts l+1) cap]) (by simp[results,Tryz.results11,go_sem,r0,r1,r2,rl]) rfl ⟨_,rfl,⟨gv,go,some ⟨g,0,none⟩,cnts l+1,cnts l+1,cap,rv,rfl,zds (hfar ?_ _ _ _) hBw,zds (hfar ?_ _ _ _) hBw,zds (hfar ?_ _ _ _) hBw,fun i r hr=>?_⟩,?_⟩
   ·have:=hg.v;rw[HLI.out,HNC.out.2] at this;exact this
   ·have:=hg.o;rw[HLI.out,HNC.out.2] at this;exact this
   ·have:=hg.i;rw[HLI.out,HNC.out.2] at this;exact this
   ·obtain⟨u,h1,h2,-⟩:=hg.rows i r hr
    exact⟨u,h1,zds (hfar h2 _ _ _) hBw⟩
   ·exact(((HB6.out.2.trans (hb.mono hBw)).setCell (p:=⟨w.heap.size,0,none⟩) (Nat.le_refl _) _).setCell (p:=⟨w.heap.size,1,none⟩) (Nat.le_refl _) _).setCell (p:=⟨w.heap.size,2,none⟩) (Nat.le_refl _) _
end Go.Proofs.YtagnmppdhfmgdaaGreatDoor.Fl
