/- The whole builder in memory; the two closures of draw. -/
import Derived.Test.YtagnmppdhfmgdaaGreatDoorFNew
set_option linter.unusedSimpArgs false
set_option linter.unusedVariables false
set_option maxHeartbeats 8000000
set_option maxRecDepth 100000
namespace Go.Proofs.YtagnmppdhfmgdaaGreatDoor.Fl
open Go Go.RowKit Go.Proofs.YtagnmppdhfmgdaaGreatDoor
open Go.Lib (hid)
theorem zb1 {w:World} {a:Addr} {v:Value} (h:w.cell? a=some v):w.drew.cell? a=some v:=h
theorem zbl {w:World} {X R j i:Nat} {u v:Value} (h:w.cell? ⟨X,i,none⟩=some v) (hn:¬R=X):(w.setCell ⟨R,j,none⟩ u).cell? ⟨X,i,none⟩=some v:=by
 rw[World.cell?_of_block (w:=w) (Below.heap_setCell w ⟨R,j,none⟩ u X (fun e=>hn e.symm))];exact h
theorem opAt {ops:Array Oper} {i:Nat} {o:Oper} (h:ops.toList[i]?=some o):ops[i]?=some o:=by simpa using h
def za6 (n:Nat) (x y:Int):Int:=if n=0 then y else x
theorem first_any (a:Option Addr) (n c:Nat) (x y:Int) (hn:n≤9223372036854775807) (w:World):
  Calls Tryz.prog 47 #[.slice a n c,.int .i64 x,.int .i64 y] w fun e w'=>e=.returned (.int .i64 (za6 n x y))∧w'=w:=by
 unfold za6
 by_cases h:n=0
 ·subst h
  rw[if_pos rfl]
  go_enter Tryz.func47,Tryz.ntmps47
  go_wp2
  go_ret
  exact⟨rfl,rfl⟩
 ·rw[if_neg h]
  have h0:0 < n:=by omega
  clear h
  go_enter Tryz.func47,Tryz.ntmps47
  go_wp2
  go_ret
  exact⟨rfl,rfl⟩
structure Gx (B b:Nat) (ns:List NR) (nx:List (List Int)) (os is:List Int) (w:World) (gv go:Nat) (ai an:Option Addr) (cv co ci cn:Nat) (rv:List Value):Prop where
 hB:B≤b
 nd:Nd B b ns w (.slice (some ⟨gv,0,none⟩) is.length cv) (.slice (some ⟨go,0,none⟩) is.length co) (.slice ai is.length ci) an cn
 o:w.ownsRow B 3 1 (.slice (some ⟨go,0,none⟩) is.length co) is.length (ints os)
 i:w.ownsRow B 3 1 (.slice ai is.length ci) is.length (ints is)
 v:w.ownsRow B 29 1 (.slice (some ⟨gv,0,none⟩) is.length cv) is.length rv
 len:nx.length=is.length
 rows:∀(i:Nat) (r:List Int),nx[i]?=some r→∃u,rv[i]?=some u∧w.ownsRow B 3 1 u r.length (ints r)∧u.ownBlock≠some go
 far:(Value.slice ai is.length ci).ownBlock≠some go
theorem zaB {w w':World} {B n sz:Nat} {e:TypeId} {v:Value} {xs:List Value} (h:w.ownsRow B e sz v n xs) (hk:∀g,v.ownBlock=some g→w'.heap[g]?=w.heap[g]?):w'.ownsRow B e sz v n xs:=by
 refine⟨h.1,?_⟩
 rcases h.2 with h2 | ⟨g,cap,cur,hv,hb,hg,r⟩
 ·exact .inl h2
 ·exact .inr ⟨g,cap,cur,hv,hb,(hk g (by rw[hv];rfl)).trans hg,r⟩
theorem zaO {w:World} {B n sz g:Nat} {e:TypeId} {v:Value} {xs:List Value} (h:w.ownsRow B e sz v n xs) (hg:v.ownBlock=some g):g < w.heap.size:=(h.lt g hg).2
theorem gx_next {B b:Nat} {ns:List NR} {nx:List (List Int)} {os is:List Int} {w w5:World} {gv go:Nat} {ai an:Option Addr} {cv co ci cn:Nat} {rv:List Value} (h:Gx B b ns nx os is w gv go ai an cv co ci cn rv) {p:Nat} {r:List Int} (hp:p < is.length) {g cap m:Nat} (hm:r.length=m)
  (hown:w5.ownsRow B 3 1 (.slice (some ⟨g,0,none⟩) m cap) m (ints r)) (hg:w.grownBy w5 none) (hat:g=w.heap.size):
  Gx B b ns (nx.set p r) os is (w5.setCell ⟨gv,p,none⟩ (.slice (some ⟨g,0,none⟩) m cap)) gv go ai an cv co ci cn (rv.set p (.slice (some ⟨g,0,none⟩) m cap))∧Below B w (w5.setCell ⟨gv,p,none⟩ (.slice (some ⟨g,0,none⟩) m cap))∧KeptP (fun q=>q=gv) w (w5.setCell ⟨gv,p,none⟩ (.slice (some ⟨g,0,none⟩) m cap)):=by
 have hgv:gv < w.heap.size:=zaO h.v rfl
 have hgo:go < w.heap.size:=zaO h.o rfl
 have hb:b < w.heap.size:=lt_of_block h.nd.box
 have hold:∀q,q < w.heap.size→q≠gv→(w5.setCell ⟨gv,p,none⟩ (.slice (some ⟨g,0,none⟩) m cap)).heap[q]?=w.heap[q]?:=fun q hq hne =>
  (Below.heap_setCell _ _ _ _ hne).trans (hg.block q hq (by simp))
 have hbv:b≠gv:=by
  intro e
  have:=zba h.v h.nd.box (by decide)
  exact this (by rw[e];rfl)
 have v5:=zdF h.v hg (fun q hq=>by cases hq)
 obtain⟨v6,v7⟩:=v5.stored p (.slice (some ⟨g,0,none⟩) m cap)
 have hint:∀{u:Value} {n:Nat} {xs:List Value},w.ownsRow B 3 1 u n xs→(w5.setCell ⟨gv,p,none⟩ (.slice (some ⟨g,0,none⟩) m cap)).ownsRow B 3 1 u n xs:=fun hu =>
  zaB hu fun q hq=>hold q (zaO hu hq) (fun e=>za1 h.v hu (by decide) q hq (by rw[e];rfl))
 refine⟨⟨h.hB,⟨(hold b hb hbv).trans h.nd.box,zaB h.nd.n fun q hq=>hold q (zaO h.nd.n hq) (fun e=>za1 h.v h.nd.n (by decide) q hq (by rw[e];rfl))⟩,hint h.o,hint h.i,v6,by rw[List.length_set];exact h.len,fun i r' hr=>?_,h.far⟩,?_,?_⟩
 ·rw[List.getElem?_set] at hr
  split at hr
  ·rename_i e
   subst e
   rw[h.len,if_pos hp] at hr
   simp only[Option.some.injEq] at hr
   subst hr
   refine⟨_,List.getElem?_set_self (by have:=h.v.1;omega),?_,by simp[Value.ownBlock];omega⟩
   rw[hm]
   exact zbi hown (by simp[Value.ownBlock];omega) _ _
  ·obtain⟨u,h1,h2,h3⟩:=h.rows i r' hr
   exact⟨u,by rw[List.getElem?_set_ne (by assumption)];exact h1,hint h2,h3⟩
 ·exact((Below.refl B w).grown hg (by have:=h.hB;omega) (fun k hk=>by cases hk)).setCell (p:=⟨gv,p,none⟩) (h.v.lt gv rfl).1 _
 ·exact⟨hg.os,hg.tape,hg.output,by simpa[World.setCell] using hg.size,fun q hq hne=>hold q hq hne⟩
theorem gx_other {B b:Nat} {ns:List NR} {nx:List (List Int)} {os is:List Int} {w:World} {gv go:Nat} {ai an:Option Addr} {cv co ci cn:Nat} {rv:List Value} (h:Gx B b ns nx os is w gv go ai an cv co ci cn rv) {p:Nat} (z:Int):
  Gx B b ns nx (os.set p z) is (w.setCell ⟨go,p,none⟩ (.int .i64 z)) gv go ai an cv co ci cn rv∧Below B w (w.setCell ⟨go,p,none⟩ (.int .i64 z))∧KeptP (fun q=>q=go) w (w.setCell ⟨go,p,none⟩ (.int .i64 z)):=by
 have hold:∀q,q≠go→(w.setCell ⟨go,p,none⟩ (.int .i64 z)).heap[q]?=w.heap[q]?:=fun q hne=>Below.heap_setCell _ _ _ _ hne
 have hbo:b≠go:=by
  intro e
  have:=zba h.o h.nd.box (by decide)
  exact this (by rw[e];rfl)
 obtain⟨o6,o7⟩:=h.o.stored p (.int .i64 z)
 refine⟨⟨h.hB,⟨(hold b hbo).trans h.nd.box,zaB h.nd.n fun q hq=>hold q (fun e=>za1 h.o h.nd.n (by decide) q hq (by rw[e];rfl))⟩,?_,zaB h.i fun q hq=>hold q (fun e=>h.far (by rw[hq,e])),zaB h.v fun q hq=>hold q (fun e=>za1 h.o h.v (by decide) q hq (by rw[e];rfl)),h.len,fun i r hr=>?_,h.far⟩,?_,?_⟩
 ·rw[ints,List.map_set];exact o6
 ·obtain⟨u,h1,h2,h3⟩:=h.rows i r hr
  exact⟨u,h1,zaB h2 fun q hq=>hold q (fun e=>h3 (by rw[hq,e])),h3⟩
 ·exact(Below.refl B w).setCell (p:=⟨go,p,none⟩) (h.o.lt go rfl).1 _
 ·exact(KeptP.refl (fun q=>q=go) w).set (b:=go) rfl _ _
theorem Gx.kept {B b:Nat} {ns:List NR} {nx:List (List Int)} {os is:List Int} {w w':World} {gv go:Nat} {ai an:Option Addr} {cv co ci cn:Nat} {rv:List Value} (h:Gx B b ns nx os is w gv go ai an cv co ci cn rv) (hk:Below w.heap.size w w'):Gx B b ns nx os is w' gv go ai an cv co ci cn rv:=
 ⟨h.hB,h.nd.on hk,zaB h.o fun q hq=>hk.block q (zaO h.o hq),zaB h.i fun q hq=>hk.block q (zaO h.i hq),zaB h.v fun q hq=>hk.block q (zaO h.v hq),h.len,fun i r hr=>by
  obtain⟨u,h1,h2,h3⟩:=h.rows i r hr
  exact⟨u,h1,zaB h2 fun q hq=>hk.block q (zaO h2 hq),h3⟩,h.far⟩
theorem zdX {B b:Nat} {ns:List NR} {nx:List (List Int)} {os is:List Int} {w:World} {gv go:Nat} {ai an:Option Addr} {cv co ci cn:Nat} {rv:List Value} (h:Gx B b ns nx os is w gv go ai an cv co ci cn rv) {p:Nat} (hp:p < is.length) (hr:rv[p]?=some (.slice none 0 0)) {bb ba tb m:Nat} {r:List Int} (hm:r.length=m) (h0:0 < m∧m≤100) (hne:¬gv=bb∧¬gv=ba)
  (hbb:w.cell? ⟨bb,0,none⟩=some (.pointer (some ⟨b,0,none⟩))) (hba:w.cell? ⟨ba,0,none⟩=some (.int .i64 p)) (htb:∀j u,(ints r)[j]?=some u→w.cell? ⟨tb,j,none⟩=some u):
  Calls Tryz.prog 45 #[.slice (some ⟨tb,0,none⟩) m m,.pointer (some ⟨bb,0,none⟩),.pointer (some ⟨ba,0,none⟩)] w fun e w'=>e=.returned (.tuple #[])∧∃rv',Gx B b ns (nx.set p r) os is w' gv go ai an cv co ci cn rv'∧(∀i,i≠p→rv'[i]?=rv[i]?)∧Below B w w'∧KeptP (fun q=>q=gv) w w':=by
 obtain⟨b0,b1,b2,b3,bf,bl⟩:=zau h.nd.box
 obtain⟨g',e',-,vl,-,-,vf,vc⟩:=zbk h.v (by omega)
 obtain rfl:gv=g':=by simpa using e'
 have c0:=vc p (by omega)
 rw[hr] at c0
 obtain⟨ii,hii,hi0,hi1,hi2⟩:=info_parts zcT
 have HH:=hid h
 have HT:=hid htb
 have HB:=hid h.hB
 have bbl:=World.block_lt_of_cell? w _ hbb
 have bal:=World.block_lt_of_cell? w _ hba
 have hone:∀u∈ints r,u.oneCell'=true:=by
  intro u hu
  simp only[ints,List.mem_map] at hu
  obtain⟨z,-,rfl⟩:=hu
  rfl
 have hil:(ints r).length=m*1:=by simp[ints,hm]
 have HM:=hid (And.intro hone hil)
 have HNE:=hid (And.intro hne.1 (And.intro hne.2 (fun e=>zba h.v h.nd.box (by decide) (by rw[e];rfl):¬gv=b)))
 clear hne
 clear h e' vc hr htb hone hil
 go_enter Tryz.func45,Tryz.ntmps45
 go_wp2
 have n1:¬gv=bb:=HNE.out.1
 have n2:¬gv=ba:=HNE.out.2.1
 have n3:¬gv=b:=HNE.out.2.2
 refine wp_region_held_drew (S:=fun w'=>w'.cell? ⟨bb,0,none⟩=some (.pointer (some ⟨b,0,none⟩))∧w'.cell? ⟨ba,0,none⟩=some (.int .i64 p)∧w'.cell? ⟨b,0,none⟩=some (.slice (some ⟨gv,0,none⟩) is.length cv)) (by kernel_rfl) ?_ (fun hHeld=>?_)
 ·refine⟨?_,?_,?_⟩<;>(repeat (first | with_reducible assumption | (with_reducible refine zb1 ?_) | (with_reducible refine zbl ?_ (by assumption))))
 refine wpAnyH_take (i:=0) (v:=?_) (opAt rfl) (by kernel_rfl) (by kernel_rfl) (by kernel_rfl) (fun _ _ _ h=>h) (Or.inl ⟨by rfl,?_⟩) (by assumption) ?_
 rotate_left
 ·intro w' hSw;(try dsimp only at hSw);go_simp;(try with_reducible rfl)
 try simp only[Act.put,List.setIfInBounds_toArray,List.set_cons_zero,List.set_cons_succ]
 refine wpAnyH_take (i:=1) (v:=?_) (opAt rfl) (by kernel_rfl) (by kernel_rfl) (by kernel_rfl) (fun _ _ _ h=>h) (Or.inl ⟨by rfl,?_⟩) (by assumption) ?_
 rotate_left
 ·intro w' hSw;(try dsimp only at hSw);go_simp;(try with_reducible rfl)
 try simp only[Act.put,List.setIfInBounds_toArray,List.set_cons_zero,List.set_cons_succ]
 refine wpAnyH_take (i:=2) (v:=?_) (opAt rfl) (by kernel_rfl) (by kernel_rfl) (by kernel_rfl) (fun _ _ _ h=>h) (Or.inl ⟨by rfl,?_⟩) (by assumption) ?_
 rotate_left
 ·intro w' hSw;(try dsimp only at hSw);go_simp;(try with_reducible rfl)
 try simp only[Act.put,List.setIfInBounds_toArray,List.set_cons_zero,List.set_cons_succ]
 refine wpAnyH_take (i:=3) (v:=?_) (opAt rfl) (by kernel_rfl) (by kernel_rfl) (by kernel_rfl) (fun _ _ _ h=>h) (Or.inl ⟨by rfl,?_⟩) (by assumption) ?_
 rotate_left
 ·intro w' hSw;(try dsimp only at hSw);go_simp;(try with_reducible rfl)
 try simp only[Act.put,List.setIfInBounds_toArray,List.set_cons_zero,List.set_cons_succ]
 refine wpAnyH_take (i:=4) (v:=?_) (opAt rfl) (by kernel_rfl) (by kernel_rfl) (by kernel_rfl) (fun _ _ _ h=>h) (Or.inl ⟨by rfl,?_⟩) (by assumption) ?_
 rotate_left
 ·intro w' hSw;(try dsimp only at hSw);go_simp;(try with_reducible rfl)
 try simp only[Act.put,List.setIfInBounds_toArray,List.set_cons_zero,List.set_cons_succ]
 refine wpAnyH_take (i:=5) (v:=?_) (opAt rfl) (by kernel_rfl) (by kernel_rfl) (by kernel_rfl) (fun _ _ _ h=>h) (Or.inl ⟨by rfl,?_⟩) (by assumption) ?_
 rotate_left
 ·intro w' hSw;(try dsimp only at hSw);go_simp;(try with_reducible rfl)
 try simp only[Act.put,List.setIfInBounds_toArray,List.set_cons_zero,List.set_cons_succ]
 refine wpAnyH_take (i:=6) (v:=?_) (opAt rfl) (by kernel_rfl) (by kernel_rfl) (by kernel_rfl) (fun _ _ _ h=>h) (Or.inl ⟨by rfl,?_⟩) (by assumption) ?_
 rotate_left
 ·intro w' hSw;(try dsimp only at hSw);go_simp;(try with_reducible rfl)
 try simp only[Act.put,List.setIfInBounds_toArray,List.set_cons_zero,List.set_cons_succ]
 refine wpAnyH_take (i:=7) (v:=?_) (opAt rfl) (by kernel_rfl) (by kernel_rfl) (by kernel_rfl) (fun _ _ _ h=>h) (Or.inl ⟨by rfl,?_⟩) (by assumption) ?_
 rotate_left
 ·intro w' hSw;(try dsimp only at hSw);go_simp;(try with_reducible rfl)
 try simp only[Act.put,List.setIfInBounds_toArray,List.set_cons_zero,List.set_cons_succ]
 refine wpAnyH_take (i:=8) (v:=?_) (opAt rfl) (by kernel_rfl) (by kernel_rfl) (by kernel_rfl) (fun _ _ _ h=>h) (Or.inl ⟨by rfl,?_⟩) (by assumption) ?_
 rotate_left
 ·intro w' hSw;(try dsimp only at hSw);go_simp;(try with_reducible rfl)
 try simp only[Act.put,List.setIfInBounds_toArray,List.set_cons_zero,List.set_cons_succ]
 refine wpAnyH_take (i:=9) (v:=?_) (opAt rfl) (by kernel_rfl) (by kernel_rfl) (by kernel_rfl) (fun _ _ _ h=>h) (Or.inl ⟨by rfl,?_⟩) (by assumption) ?_
 rotate_left
 ·intro w' hSw;(try dsimp only at hSw);go_simp;(try with_reducible rfl)
 try simp only[Act.put,List.setIfInBounds_toArray,List.set_cons_zero,List.set_cons_succ]
 refine wpAnyH_take (i:=10) (v:=?_) (opAt rfl) (by kernel_rfl) (by kernel_rfl) (by kernel_rfl) (fun _ _ _ h=>h) (Or.inl ⟨by rfl,?_⟩) (by assumption) ?_
 rotate_left
 ·intro w' hSw;(try dsimp only at hSw);go_simp;(try with_reducible rfl)
 try simp only[Act.put,List.setIfInBounds_toArray,List.set_cons_zero,List.set_cons_succ]
 refine wpAnyH_take (i:=11) (v:=?_) (opAt rfl) (by kernel_rfl) (by kernel_rfl) (by kernel_rfl) (fun _ _ _ h=>h) (Or.inl ⟨by rfl,?_⟩) (by assumption) ?_
 rotate_left
 ·intro w' hSw;(try dsimp only at hSw);go_simp;(try with_reducible rfl)
 try simp only[Act.put,List.setIfInBounds_toArray,List.set_cons_zero,List.set_cons_succ]
 refine wpAnyH_take (i:=12) (v:=?_) (opAt rfl) (by kernel_rfl) (by kernel_rfl) (by kernel_rfl) (fun _ _ _ h=>h) (Or.inl ⟨by rfl,?_⟩) (by assumption) ?_
 rotate_left
 ·intro w' hSw;(try dsimp only at hSw);go_simp;(try with_reducible rfl)
 try simp only[Act.put,List.setIfInBounds_toArray,List.set_cons_zero,List.set_cons_succ]
 refine wpAnyH_take (i:=14) (v:=?_) (opAt rfl) (by kernel_rfl) (by kernel_rfl) (by kernel_rfl) (fun _ _ _ h=>h) (Or.inl ⟨by rfl,?_⟩) (by assumption) ?_
 rotate_left
 ·intro w' hSw;(try dsimp only at hSw);go_simp;(try with_reducible rfl)
 try simp only[Act.put,List.setIfInBounds_toArray,List.set_cons_zero,List.set_cons_succ]
 refine wpAnyH_ready (rs:=[13]) (by kernel_rfl) (by simp) ?_
 refine AllReadyH.cons (opAt rfl) (fun K hK=>?_) AllReadyH.nil
 go_simp
 refine hK.out _ _ ?_ (fun hHeld2=>?_)
 ·refine⟨?_,?_,?_⟩<;>(repeat (first | with_reducible assumption | (with_reducible refine zb1 ?_) | (with_reducible refine zbl ?_ (by assumption))))
 clear hK K hHeld
 have hHeld:=hHeld2
 clear hHeld2
 try simp only[Act.put,List.setIfInBounds_toArray,List.set_cons_zero,List.set_cons_succ]
 refine wpAnyH_ready (rs:=[15]) (by kernel_rfl) (by simp) ?_
 refine AllReadyH.cons (opAt rfl) (fun K hK=>?_) AllReadyH.nil
 refine step_append_lies _ (by rfl) _ _ _ (by rfl) B 3 ii _ 1 8 Tryz.underlying29 hii hi0 hi1 hi2 rfl (by decide) (.slice none 0 0) 0 [] rfl (World.ownsRow_nil _ _ _ _) ⟨tb,0,none⟩ m m (ints r) rfl HM.out.2 (fun j u hu=>by rw[zcA];exact HT.out j u hu) HM.out.1 h0.1 (by unfold maxLen;omega) (by omega) (by have:=HB.out;simp;omega) _ rfl ?_;intro g cap w5 hown hgrow hat hlt5;have HX:=hid (And.intro hown (And.intro hgrow hat));have z0:=(hgrow.cell_far ⟨gv,p,none⟩ vl (by simp[Value.ownBlock])).trans c0;have z1:=(hgrow.frozen_far ⟨gv,p,none⟩ vl (by simp[Value.ownBlock])).trans (vf p);have z3:=(hgrow.cell_far ⟨bb,0,none⟩ bbl (by simp[Value.ownBlock])).trans hbb;have z4:=(hgrow.cell_far ⟨ba,0,none⟩ bal (by simp[Value.ownBlock])).trans hba;have z5:=(hgrow.cell_far ⟨b,0,none⟩ bl (by simp[Value.ownBlock])).trans b0;have z6:=Nat.lt_of_lt_of_le bl hgrow.size;have z7:=Nat.lt_of_lt_of_le bbl hgrow.size;have z8:=Nat.lt_of_lt_of_le bal hgrow.size;have z2:=Nat.lt_of_lt_of_le vl hgrow.size;clear hown hgrow hat
 refine hK.out _ _ ?_ (fun hHeld2=>?_)
 ·refine⟨?_,?_,?_⟩<;>(repeat (first | with_reducible assumption | (with_reducible refine zb1 ?_) | (with_reducible refine zbl ?_ (by assumption))))
 clear hK K hHeld
 have hHeld:=hHeld2
 clear hHeld2
 try simp only[Act.put,List.setIfInBounds_toArray,List.set_cons_zero,List.set_cons_succ]
 refine wpAnyH_take (i:=16) (v:=?_) (opAt rfl) (by kernel_rfl) (by kernel_rfl) (by kernel_rfl) (fun _ _ _ h=>h) (Or.inl ⟨by rfl,?_⟩) (by assumption) ?_
 rotate_left
 ·intro w' hSw;(try dsimp only at hSw);go_simp;(try with_reducible rfl)
 try simp only[Act.put,List.setIfInBounds_toArray,List.set_cons_zero,List.set_cons_succ]
 refine wpAnyH_ready (rs:=[17]) (by kernel_rfl) (by simp) ?_
 refine AllReadyH.cons (opAt rfl) (fun K hK=>?_) AllReadyH.nil
 go_simp
 refine hK.out _ _ ?_ (fun hHeld2=>?_)
 ·refine⟨?_,?_,?_⟩<;>(repeat (first | with_reducible assumption | (with_reducible refine zb1 ?_) | (with_reducible refine zbl ?_ (by assumption))))
 clear hK K hHeld
 have hHeld:=hHeld2
 clear hHeld2
 try simp only[Act.put,List.setIfInBounds_toArray,List.set_cons_zero,List.set_cons_succ]
 refine wpAnyH_done (by kernel_rfl) ?_ _
 go_wp2
 go_end0
 obtain⟨x1,x2,x3⟩:=HX.out
 rw[Nat.zero_add,List.nil_append] at x1
 have hat:g=w.heap.size:=by
  rcases x3 with h | h
  ·simp[Value.ownBlock] at h
  ·exact h
 obtain⟨y1,y2,y3⟩:=gx_next HH.out hp hm x1 ⟨x2.os,x2.tape,x2.output,x2.size,x2.block⟩ hat
 exact⟨rfl,_,y1,fun i hi=>List.getElem?_set_ne (Ne.symm hi),y2,y3⟩
abbrev zaL (bb ba:Nat):Value:=.func (.func 45) #[] #[.pointer (some ⟨bb,0,none⟩),.pointer (some ⟨ba,0,none⟩)]
structure Bxs (w:World) (gv go gn b p bb ba bn be:Nat):Prop where
 b:w.cell? ⟨bb,0,none⟩=some (.pointer (some ⟨b,0,none⟩))
 a:w.cell? ⟨ba,0,none⟩=some (.int .i64 p)
 n:w.cell? ⟨bn,0,none⟩=some (.pointer (some ⟨gn,p*12,none⟩))
 e:w.cell? ⟨be,0,none⟩=some (zaL bb ba)
 far:(¬gv=bb∧¬gv=ba∧¬gv=bn∧¬gv=be)∧(¬go=bb∧¬go=ba∧¬go=bn∧¬go=be)
theorem Bxs.kept {w w':World} {gv go gn b p bb ba bn be:Nat} (h:Bxs w gv go gn b p bb ba bn be) (hk:KeptP (fun q=>q=gv∨q=go) w w'):Bxs w' gv go gn b p bb ba bn be:=by
 obtain⟨⟨f1,f2,f3,f4⟩,f5,f6,f7,f8⟩:=h.far
 exact⟨hk.cell (by rintro(e | e);exact f1 e.symm;exact f5 e.symm) h.b,hk.cell (by rintro(e | e);exact f2 e.symm;exact f6 e.symm) h.a,hk.cell (by rintro(e | e);exact f3 e.symm;exact f7 e.symm) h.n,hk.cell (by rintro(e | e);exact f4 e.symm;exact f8 e.symm) h.e,h.far⟩
theorem zcF {P Q:Nat→Prop} {w w':World} (h:KeptP P w w') (hPQ:∀q,P q→Q q):KeptP Q w w':=⟨h.os,h.tape,h.output,h.size,fun k hk hq=>h.block k hk (fun hp=>hq (hPQ k hp))⟩
theorem jump_any {B b:Nat} {ns:List NR} {nx:List (List Int)} {os is:List Int} {w:World} {gv go gn:Nat} {ai:Option Addr} {cv co ci cn:Nat} {rv:List Value} (h:Gx B b ns nx os is w gv go ai (some ⟨gn,0,none⟩) cv co ci cn rv) {p:Nat} {n:NR} (hp:p < is.length) (hpn:ns[p]?=some n) (hr:rv[p]?=some (.slice none 0 0)) {bb ba bn be tb m:Nat} {r:List Int} (hm:r.length=m) (h0:0 < m∧m≤100) (hos:os.length=is.length)
  (hx:Bxs w gv go gn b p bb ba bn be) (htb:∀j u,(ints r)[j]?=some u→w.cell? ⟨tb,j,none⟩=some u):
  Calls Tryz.prog 46 #[.slice (some ⟨tb,0,none⟩) m m,.pointer (some ⟨be,0,none⟩),.pointer (some ⟨bn,0,none⟩),.pointer (some ⟨bb,0,none⟩),.pointer (some ⟨ba,0,none⟩)] w fun e w'=>e=.returned (.tuple #[])∧∃rv',Gx B b ns (nx.set p r) (os.set p n.fol) is w' gv go ai (some ⟨gn,0,none⟩) cv co ci cn rv'∧(∀i,i≠p→rv'[i]?=rv[i]?)∧Below B w w'∧KeptP (fun q=>q=gv∨q=go) w w':=by
 have HE:=hid (zdX h hp hr hm h0 ⟨hx.far.1.1,hx.far.1.2.1⟩ hx.b hx.a htb)
 have HX:=hid (And.intro h hx)
 have e0:=hx.e
 have el:=World.block_lt_of_cell? w _ e0
 clear h hx hr htb
 go_enter Tryz.func46,Tryz.ntmps46
 go_upto_region 1 with (go_at_call 45;(refine HE.out.mono ?_);rintro e w2 ⟨rfl,rv2,g2,k2,b2,q2⟩;have H2:=hid (And.intro g2 (And.intro k2 (And.intro b2 q2)));clear g2 k2 b2 q2)
 obtain⟨g2,k2,b2,q2⟩:=H2.out
 have hq2:=zcF (Q:=fun q=>q=gv∨q=go) q2 (fun q hq=>.inl hq)
 have hx2:=HX.out.2.kept hq2
 obtain⟨c0,c1,c2,c3,cf,cl⟩:=zau g2.nd.box
 obtain⟨g',e',-,gl,plt,gf,gc⟩:=nd_at g2.nd hpn
 obtain rfl:gn=g':=by simpa using e'
 obtain⟨d0,d1,d2,d3,d4,d5,d6,d7,d8,d9,d10,d11⟩:=zbq gc
 obtain⟨o',e2,-,ol,-,-,of,oc⟩:=zbk g2.o (by omega)
 obtain rfl:go=o':=by simpa using e2
 have oc0:=oc p (by omega)
 obtain⟨z,hz⟩:∃z,os[p]?=some z:=⟨_,List.getElem?_eq_getElem (by omega)⟩
 rw[ints,List.getElem?_map,hz] at oc0
 have oc1:w2.cell? ⟨go,p,none⟩=some (.int .i64 z):=oc0
 have x1:=hx2.b
 have x2:=hx2.a
 have x3:=hx2.n
 have x4:=World.block_lt_of_cell? w2 _ x1
 have x5:=World.block_lt_of_cell? w2 _ x2
 have x6:=World.block_lt_of_cell? w2 _ x3
 have hlen:p < is.length:=hp
 clear e0 el g2 k2 b2 q2 hx2 gc oc oc0 e' e2 hz hq2
 go_region
 go_wp2
 go_end0
 obtain⟨g2,k2,b2,q2⟩:=H2.out
 obtain⟨y1,y2,y3⟩:=gx_other (p:=p) g2 n.fol
 have hB2:B≤w2.heap.size:=Nat.le_trans g2.hB (Nat.le_of_lt cl)
 exact⟨rfl,rv2,Gx.kept y1 ((Below.refl _ _).drew),k2,(b2.trans y2).drew,((zcF q2 (fun q hq=>.inl hq)).trans (zcF y3 (fun q hq=>.inr hq))).drew⟩
end Go.Proofs.YtagnmppdhfmgdaaGreatDoor.Fl
