/- Back's closure and Back. -/
import Derived.Test.YtagnmppdhfmgdaaGreatDoorFBack
set_option linter.unusedSimpArgs false
set_option linter.unusedVariables false
set_option maxHeartbeats 8000000
set_option maxRecDepth 100000
namespace Go.Proofs.YtagnmppdhfmgdaaGreatDoor.Fl
open Go Go.RowKit Go.Proofs.YtagnmppdhfmgdaaGreatDoor
open Go.Lib (hid)
abbrev TBox (w:World) (x g M:Nat):Prop:=w.heap[x]?=some (.cells #[.slice (some ⟨g,0,none⟩) M M] 28 (0,0))
theorem turn_any {w0:World} {B g M x:Nat} {ns:List (List Int)} (hM:ns.length=M) (hMs:M≤10000) (k:Nat) (hk:k < M) {la:Option Addr} {lc:Nat} {r:List Int} (hrl:r.length≤100000) (hnum:NumAt w0 la r) (hw0:w0.heap.size≤B) (hxB:B≤x) {rv:List Value} (w:World) (hp:Past w0 w) (h:RwD w B g M (zcu ns k []) rv) (hx:TBox w x g M):
  Calls Tryz.prog 37 #[.int .i64 k,.slice la r.length lc,.pointer (some ⟨x,0,none⟩)] w fun e w'=>e=.returned (.tuple #[])∧(∃rv',RwD w' B g M (zcu ns k r) rv')∧TBox w' x g M∧Below B w w':=by
 obtain⟨ti,hti,hi0,hi1,hi2⟩:=info_parts zcT
 have HN:=hid hnum
 have HP:=hid hp
 have H0:=hid (And.intro h hx)
 have HM:=hid hM
 have HB:=hid (And.intro hw0 hxB)
 have hxl:=lt_of_block hx
 have HXL:=hid hxl
 clear hnum hp h hx hM hw0 hxB hxl
 go_enter Tryz.func37,Tryz.ntmps37
 go_wp2
 go_loopw [9] (fun i wr=>∃(j:Nat) (rv:List Value),j≤r.length∧i=.int .i64 j∧RwD wr B g M (zcu ns k (r.take j)) rv∧TBox wr x g M∧Below B w wr) (fun i _=>r.length - (intOf i).toNat)
 case atStart=>exact⟨0,rv,Nat.zero_le _,rfl,by simpa using H0.out.1,H0.out.2,Below.refl _ _⟩
 case round =>
  obtain⟨j,rv,hj,rfl,hrw,hx,hb⟩:=hrel
  by_cases hlt:j < r.length
  ·obtain⟨lb,lo,rfl,hc⟩:=HN.out j hlt
   have hpw:Below w0.heap.size w0 wr:=HP.out.trans (hb.mono HB.out.1)
   have hc1:=zav hpw (B:=0) _ _ (Nat.zero_le _) hc
   obtain⟨z,hz⟩:∃z,r[j]=z:=⟨_,rfl⟩
   rw[hz] at hc1
   have ll:=World.block_lt_of_cell? wr _ hc1
   have htk:r.take (j+1)=r.take j++[z]:=by rw[List.take_succ_eq_append_getElem hlt,hz]
   have HTK:=hid htk
   have x0:=zab (k:=0) hx rfl
   have xl:=lt_of_block hx
   have HR:=hid (And.intro hrw (And.intro hx hb))
   clear hc hpw hz htk hrw hx hb
   by_cases hz0:0≤z
   ·have e0:decide (z≥0)=true:=decide_eq_true hz0
    by_cases hzM:z < (M:Int)
    ·have e1:decide (z < (M:Int))=true:=decide_eq_true hzM
     obtain⟨n,rfl⟩:∃n:Nat,z=n:=⟨z.toNat,by omega⟩
     have hnM:n < M:=by omega
     have hrow:=backT_at ns k (r.take j) (n:=n) (by rw[HM.out];exact hnM)
     obtain⟨u,hu,hur⟩:=HR.out.1.rw.rows n _ hrow
     have hlenr:(rowT ns k (r.take j) n).length≤10001:=by
      unfold rowT
      rw[List.length_append]
      have:=base_len ns k n
      split<;>simp<;>omega
     have HEN:=hid (ends_any hur rfl (by omega) (k:Int))
     rw[row_ends] at HEN
     obtain⟨g',e',-,gl,-,-,gf,gc⟩:=zbk HR.out.1.rw.v (by omega)
     obtain rfl:g=g':=by simpa using e'
     have gc0:=gc n (by omega)
     rw[hu] at gc0
     obtain⟨ua,uc,rfl⟩:=zdW hur
     have HUR:=hid (And.intro hur (And.intro hu (And.intro hrow hlenr)))
     obtain⟨L,hL⟩:∃L,(rowT ns k (r.take j) n).length=L:=⟨_,rfl⟩
     rw[hL] at gc0 HEN
     have HL:=hid hL
     clear e' gc hu hur hrow hlenr hL
     by_cases hin:(n:Int)∈r.take j
     ·rw[decide_eq_true hin] at HEN
      have HSK:=hid (back_skip ns k (r.take j) (n:Int) (.inr (.inr hin)))
      clear hin
      go_wp2_with (go_at_call 38;(refine HEN.out.mono ?_);rintro e wk ⟨rfl,hwk⟩;rw[hwk];clear hwk)
      go_roundw
      case rel=>exact⟨j+1,rv,by omega,by go_num,by rw[HTK.out,HSK.out];exact HR.out.1,HR.out.2.1,HR.out.2.2⟩
      case measure=>simp[intOf];omega
     ·rw[decide_eq_false hin] at HEN
      have HPU:=hid (back_put ns k (r.take j) n (by rw[HM.out];exact hnM) hin)
      clear hin
      go_upto_region 4 with (go_at_call 38;(refine HEN.out.mono ?_);rintro e wk ⟨rfl,hwk⟩;rw[hwk];clear hwk)
      have hown0:=HUR.out.1
      rw[HL.out] at hown0
      have HOW:=hid hown0
      have hgx:¬g=x:=by
       rintro rfl
       have h1:wr.heap[g]?=_:=HR.out.2.1
       exact zba HR.out.1.rw.v h1 (by decide) rfl
      have hBs:B≤wr.heap.size:=by have:=HB.out.2;omega
      have HNX:Hid ((Value.slice ua L uc).ownBlock≠some x∧(Value.slice ua L uc).ownBlock≠some g):=hid ⟨fun e=>zba hown0 HR.out.2.1 (by decide) e,fun e=>za1 HR.out.1.rw.v hown0 (by decide) g e rfl⟩
      have hL9:L≤10001:=by have h9:=HUR.out.2.2.2;rw[HL.out] at h9;exact h9
      clear hown0
      refine wp_region_held_drew (S:=fun w'=>w'.cell? ⟨x,0,none⟩=some (.slice (some ⟨g,0,none⟩) M M)) (by kernel_rfl) ?_ (fun hHeld=>?_)
      ·(try dsimp only);(first | with_reducible assumption | (with_reducible refine zb1 ?_;with_reducible assumption) | exact(World.cell?_alloc_lt _ _ _ (by exact xl)).trans x0 | (with_reducible refine zbl ?_ hgx;with_reducible assumption) | exact x0 | exact y0 | exact zbl y0 hgx)
      refine wpAnyH_take (i:=0) (v:=?_) (opAt rfl) (by kernel_rfl) (by kernel_rfl) (by kernel_rfl) (fun _ _ _ h=>h) (Or.inl ⟨by rfl,?_⟩) (by assumption) ?_
      rotate_left
      ·intro w' hSw;(try dsimp only at hSw);go_simp;(try with_reducible rfl)
      try simp only[Act.put,List.setIfInBounds_toArray,List.set_cons_zero,List.set_cons_succ]
      refine wpAnyH_take (i:=1) (v:=?_) (opAt rfl) (by kernel_rfl) (by kernel_rfl) (by kernel_rfl) (fun _ _ _ h=>h) (Or.inl ⟨by rfl,?_⟩) (by assumption) ?_
      rotate_left
      ·intro w' hSw;(try dsimp only at hSw);go_simp;(try with_reducible rfl)
      try simp only[Act.put,List.setIfInBounds_toArray,List.set_cons_zero,List.set_cons_succ]
      refine wpAnyH_take (i:=2) (v:=?_) (opAt rfl) (by kernel_rfl) (by kernel_rfl) (by kernel_rfl) (fun _ _ _ h=>h) (Or.inl ⟨by rfl,?_⟩) (by assumption) ?_
      rotate_left
      ·intro w' hSw;(try dsimp only at hSw);go_simp;(try with_reducible rfl)
      try simp only[Act.put,List.setIfInBounds_toArray,List.set_cons_zero,List.set_cons_succ]
      refine wpAnyH_take (i:=3) (v:=?_) (opAt rfl) (by kernel_rfl) (by kernel_rfl) (by kernel_rfl) (fun _ _ _ h=>h) (Or.inl ⟨by rfl,?_⟩) (by assumption) ?_
      rotate_left
      ·intro w' hSw;(try dsimp only at hSw);go_simp;(try with_reducible rfl)
      try simp only[Act.put,List.setIfInBounds_toArray,List.set_cons_zero,List.set_cons_succ]
      refine wpAnyH_take (i:=4) (v:=?_) (opAt rfl) (by kernel_rfl) (by kernel_rfl) (by kernel_rfl) (fun _ _ _ h=>h) (Or.inl ⟨by rfl,?_⟩) (by assumption) ?_
      rotate_left
      ·intro w' hSw;(try dsimp only at hSw);go_simp;(try with_reducible rfl)
      try simp only[Act.put,List.setIfInBounds_toArray,List.set_cons_zero,List.set_cons_succ]
      refine wpAnyH_take (i:=6) (v:=?_) (opAt rfl) (by kernel_rfl) (by kernel_rfl) (by kernel_rfl) (fun _ _ _ h=>h) (Or.inl ⟨by rfl,?_⟩) (by assumption) ?_
      rotate_left
      ·intro w' hSw;(try dsimp only at hSw);go_simp;(try with_reducible rfl)
      try simp only[Act.put,List.setIfInBounds_toArray,List.set_cons_zero,List.set_cons_succ]
      refine wpAnyH_ready (rs:=[5,7]) (by kernel_rfl) (by simp) ?_
      refine AllReadyH.cons (opAt rfl) (fun K hK=>?_) (AllReadyH.cons (opAt rfl) (fun K hK=>?_) (AllReadyH.nil))
      ·go_simp
       refine hK.out _ _ ?_ (fun hHeld2=>?_)
       ·(try dsimp only);(first | with_reducible assumption | (with_reducible refine zb1 ?_;with_reducible assumption) | exact(World.cell?_alloc_lt _ _ _ (by exact xl)).trans x0 | (with_reducible refine zbl ?_ hgx;with_reducible assumption) | exact x0 | exact y0 | exact zbl y0 hgx)
       clear hK K hHeld
       have hHeld:=hHeld2
       clear hHeld2
       try simp only[Act.put,List.setIfInBounds_toArray,List.set_cons_zero,List.set_cons_succ]
       refine wpAnyH_ready (rs:=[7]) (by kernel_rfl) (by simp) ?_
       refine AllReadyH.cons (opAt rfl) (fun K hK=>?_) AllReadyH.nil
       go_simp
       refine hK.out _ _ ?_ (fun hHeld2=>?_)
       ·(try dsimp only);(first | with_reducible assumption | (with_reducible refine zb1 ?_;with_reducible assumption) | exact(World.cell?_alloc_lt _ _ _ (by exact xl)).trans x0 | (with_reducible refine zbl ?_ hgx;with_reducible assumption) | exact x0 | exact y0 | exact zbl y0 hgx)
       clear hK K hHeld
       have hHeld:=hHeld2
       clear hHeld2
       try simp only[Act.put,List.setIfInBounds_toArray,List.set_cons_zero,List.set_cons_succ]
       refine wpAnyH_ready (rs:=[8]) (by kernel_rfl) (by simp) ?_
       refine AllReadyH.cons (opAt rfl) (fun K hK=>?_) AllReadyH.nil
       (refine step_append_lies _ (by rfl) _ _ _ (by rfl) B 3 ti _ 1 8 Tryz.underlying29 hti hi0 hi1 hi2 rfl (by decide) (.slice ua L uc) L (ints (rowT ns k (r.take j) n)) rfl (HOW.out.drew.alloc _) ⟨wr.drew.heap.size,0,none⟩ 1 1 [.int .i64 k] rfl rfl (World.news_of_block (zai wr.drew (.cells #[.int .i64 k] 3))) (by intro u hu;simp only[List.mem_singleton] at hu;subst hu;rfl) (by decide) (by unfold maxLen;omega) (by omega) (by simp;omega) _ rfl ?_;intro g2 cap2 w9 hown hgrow hat hlt9;have HX:=hid (And.intro hown (And.intro hgrow hat));have y0:=(hgrow.cell_far ⟨x,0,none⟩ (by simp;omega) (fun e=>HNX.out.1 e.symm)).trans ((World.cell?_alloc_lt _ _ _ (by exact xl)).trans x0);have y1:=(hgrow.cell_far ⟨g,n,none⟩ (by simp;omega) (fun e=>HNX.out.2 e.symm)).trans ((World.cell?_alloc_lt _ _ _ (by exact gl)).trans gc0);have y2:=(hgrow.frozen_far ⟨g,n,none⟩ (by simp;omega) (fun e=>HNX.out.2 e.symm)).trans ((World.frozen?_of_block (Below.heap_alloc wr.drew (.cells #[.int .i64 k] 3) g gl)).trans (gf n));have y3:=Nat.lt_of_lt_of_le gl (Nat.le_trans (show wr.heap.size≤_ by simp) hgrow.size);clear hown hgrow hat)
       refine hK.out _ _ ?_ (fun hHeld2=>?_)
       ·(try dsimp only);(first | with_reducible assumption | (with_reducible refine zb1 ?_;with_reducible assumption) | exact(World.cell?_alloc_lt _ _ _ (by exact xl)).trans x0 | (with_reducible refine zbl ?_ hgx;with_reducible assumption) | exact x0 | exact y0 | exact zbl y0 hgx)
       clear hK K hHeld
       have hHeld:=hHeld2
       clear hHeld2
       try simp only[Act.put,List.setIfInBounds_toArray,List.set_cons_zero,List.set_cons_succ]
       refine wpAnyH_take (i:=9) (v:=?_) (opAt rfl) (by kernel_rfl) (by kernel_rfl) (by kernel_rfl) (fun _ _ _ h=>h) (Or.inl ⟨by rfl,?_⟩) (by assumption) ?_
       rotate_left
       ·intro w' hSw;(try dsimp only at hSw);go_simp;(try with_reducible rfl)
       try simp only[Act.put,List.setIfInBounds_toArray,List.set_cons_zero,List.set_cons_succ]
       refine wpAnyH_ready (rs:=[10]) (by kernel_rfl) (by simp) ?_
       refine AllReadyH.cons (opAt rfl) (fun K hK=>?_) AllReadyH.nil
       go_simp
       refine hK.out _ _ ?_ (fun hHeld2=>?_)
       ·(try dsimp only);(first | with_reducible assumption | (with_reducible refine zb1 ?_;with_reducible assumption) | exact(World.cell?_alloc_lt _ _ _ (by exact xl)).trans x0 | (with_reducible refine zbl ?_ hgx;with_reducible assumption) | exact x0 | exact y0 | exact zbl y0 hgx)
       clear hK K hHeld
       have hHeld:=hHeld2
       clear hHeld2
       try simp only[Act.put,List.setIfInBounds_toArray,List.set_cons_zero,List.set_cons_succ]
       refine wpAnyH_done (by kernel_rfl) ?_ _
       go_wp2
       obtain⟨hown,hgrow,hat⟩:=HX.out
       have hu2:=HUR.out.2.1
       rw[HL.out] at hu2
       have hgr:(wr.alloc (.cells #[.int .i64 k] 3)).grownBy w9 (Value.slice ua L uc).ownBlock:=⟨hgrow.os,hgrow.tape,hgrow.output,hgrow.size,hgrow.block⟩
       obtain⟨e1,e2,e3⟩:=rwd_app (r:=rowT ns k (r.take j) n) (z:=(k:Int)) (g2:=g2) (cap:=cap2) HR.out.1 hnM hBs HUR.out.2.2.1 hu2 (by rw[HL.out];exact hown) hgr (by rcases hat with h | h;exact .inl h;right;rw[h];simp)
       rw[HL.out,HPU.out] at e1
       rw[HL.out] at e2 e3
       have e4:=(e2 x xl (fun e=>hgx e.symm) HNX.out.1).trans HR.out.2.1
       have HE:=hid (And.intro e1 (And.intro e4 (HR.out.2.2.trans e3)))
       clear hown hgrow hat hgr hu2 e1 e2 e3 e4
       go_roundw
       case rel=>exact⟨j+1,_,by omega,by go_num,by rw[HTK.out];exact HE.out.1,HE.out.2.1,HE.out.2.2⟩
       case measure=>simp[intOf];omega
      ·go_simp
       refine hK.out _ _ ?_ (fun hHeld2=>?_)
       ·(try dsimp only);(first | with_reducible assumption | (with_reducible refine zb1 ?_;with_reducible assumption) | exact(World.cell?_alloc_lt _ _ _ (by exact xl)).trans x0 | (with_reducible refine zbl ?_ hgx;with_reducible assumption) | exact x0 | exact y0 | exact zbl y0 hgx)
       clear hK K hHeld
       have hHeld:=hHeld2
       clear hHeld2
       try simp only[Act.put,List.setIfInBounds_toArray,List.set_cons_zero,List.set_cons_succ]
       refine wpAnyH_ready (rs:=[5]) (by kernel_rfl) (by simp) ?_
       refine AllReadyH.cons (opAt rfl) (fun K hK=>?_) AllReadyH.nil
       go_simp
       refine hK.out _ _ ?_ (fun hHeld2=>?_)
       ·(try dsimp only);(first | with_reducible assumption | (with_reducible refine zb1 ?_;with_reducible assumption) | exact(World.cell?_alloc_lt _ _ _ (by exact xl)).trans x0 | (with_reducible refine zbl ?_ hgx;with_reducible assumption) | exact x0 | exact y0 | exact zbl y0 hgx)
       clear hK K hHeld
       have hHeld:=hHeld2
       clear hHeld2
       try simp only[Act.put,List.setIfInBounds_toArray,List.set_cons_zero,List.set_cons_succ]
       refine wpAnyH_ready (rs:=[8]) (by kernel_rfl) (by simp) ?_
       refine AllReadyH.cons (opAt rfl) (fun K hK=>?_) AllReadyH.nil
       (refine step_append_lies _ (by rfl) _ _ _ (by rfl) B 3 ti _ 1 8 Tryz.underlying29 hti hi0 hi1 hi2 rfl (by decide) (.slice ua L uc) L (ints (rowT ns k (r.take j) n)) rfl (HOW.out.drew.alloc _) ⟨wr.drew.heap.size,0,none⟩ 1 1 [.int .i64 k] rfl rfl (World.news_of_block (zai wr.drew (.cells #[.int .i64 k] 3))) (by intro u hu;simp only[List.mem_singleton] at hu;subst hu;rfl) (by decide) (by unfold maxLen;omega) (by omega) (by simp;omega) _ rfl ?_;intro g2 cap2 w9 hown hgrow hat hlt9;have HX:=hid (And.intro hown (And.intro hgrow hat));have y0:=(hgrow.cell_far ⟨x,0,none⟩ (by simp;omega) (fun e=>HNX.out.1 e.symm)).trans ((World.cell?_alloc_lt _ _ _ (by exact xl)).trans x0);have y1:=(hgrow.cell_far ⟨g,n,none⟩ (by simp;omega) (fun e=>HNX.out.2 e.symm)).trans ((World.cell?_alloc_lt _ _ _ (by exact gl)).trans gc0);have y2:=(hgrow.frozen_far ⟨g,n,none⟩ (by simp;omega) (fun e=>HNX.out.2 e.symm)).trans ((World.frozen?_of_block (Below.heap_alloc wr.drew (.cells #[.int .i64 k] 3) g gl)).trans (gf n));have y3:=Nat.lt_of_lt_of_le gl (Nat.le_trans (show wr.heap.size≤_ by simp) hgrow.size);clear hown hgrow hat)
       refine hK.out _ _ ?_ (fun hHeld2=>?_)
       ·(try dsimp only);(first | with_reducible assumption | (with_reducible refine zb1 ?_;with_reducible assumption) | exact(World.cell?_alloc_lt _ _ _ (by exact xl)).trans x0 | (with_reducible refine zbl ?_ hgx;with_reducible assumption) | exact x0 | exact y0 | exact zbl y0 hgx)
       clear hK K hHeld
       have hHeld:=hHeld2
       clear hHeld2
       try simp only[Act.put,List.setIfInBounds_toArray,List.set_cons_zero,List.set_cons_succ]
       refine wpAnyH_take (i:=9) (v:=?_) (opAt rfl) (by kernel_rfl) (by kernel_rfl) (by kernel_rfl) (fun _ _ _ h=>h) (Or.inl ⟨by rfl,?_⟩) (by assumption) ?_
       rotate_left
       ·intro w' hSw;(try dsimp only at hSw);go_simp;(try with_reducible rfl)
       try simp only[Act.put,List.setIfInBounds_toArray,List.set_cons_zero,List.set_cons_succ]
       refine wpAnyH_ready (rs:=[10]) (by kernel_rfl) (by simp) ?_
       refine AllReadyH.cons (opAt rfl) (fun K hK=>?_) AllReadyH.nil
       go_simp
       refine hK.out _ _ ?_ (fun hHeld2=>?_)
       ·(try dsimp only);(first | with_reducible assumption | (with_reducible refine zb1 ?_;with_reducible assumption) | exact(World.cell?_alloc_lt _ _ _ (by exact xl)).trans x0 | (with_reducible refine zbl ?_ hgx;with_reducible assumption) | exact x0 | exact y0 | exact zbl y0 hgx)
       clear hK K hHeld
       have hHeld:=hHeld2
       clear hHeld2
       try simp only[Act.put,List.setIfInBounds_toArray,List.set_cons_zero,List.set_cons_succ]
       refine wpAnyH_done (by kernel_rfl) ?_ _
       go_wp2
       obtain⟨hown,hgrow,hat⟩:=HX.out
       have hu2:=HUR.out.2.1
       rw[HL.out] at hu2
       have hgr:(wr.alloc (.cells #[.int .i64 k] 3)).grownBy w9 (Value.slice ua L uc).ownBlock:=⟨hgrow.os,hgrow.tape,hgrow.output,hgrow.size,hgrow.block⟩
       obtain⟨e1,e2,e3⟩:=rwd_app (r:=rowT ns k (r.take j) n) (z:=(k:Int)) (g2:=g2) (cap:=cap2) HR.out.1 hnM hBs HUR.out.2.2.1 hu2 (by rw[HL.out];exact hown) hgr (by rcases hat with h | h;exact .inl h;right;rw[h];simp)
       rw[HL.out,HPU.out] at e1
       rw[HL.out] at e2 e3
       have e4:=(e2 x xl (fun e=>hgx e.symm) HNX.out.1).trans HR.out.2.1
       have HE:=hid (And.intro e1 (And.intro e4 (HR.out.2.2.trans e3)))
       clear hown hgrow hat hgr hu2 e1 e2 e3 e4
       go_roundw
       case rel=>exact⟨j+1,_,by omega,by go_num,by rw[HTK.out];exact HE.out.1,HE.out.2.1,HE.out.2.2⟩
       case measure=>simp[intOf];omega
    ·have e1:decide (z < (M:Int))=false:=decide_eq_false hzM
     have HSK:=hid (back_skip ns k (r.take j) z (.inr (.inl (by rw[HM.out];omega))))
     go_wp2
     go_roundw
     case rel=>exact⟨j+1,rv,by omega,by go_num,by rw[HTK.out,HSK.out];exact HR.out.1,HR.out.2.1,HR.out.2.2⟩
     case measure=>simp[intOf];omega
   ·have e0:decide (z≥0)=false:=decide_eq_false hz0
    have HSK:=hid (back_skip ns k (r.take j) z (.inl (by omega)))
    go_wp2
    go_roundw
    case rel=>exact⟨j+1,rv,by omega,by go_num,by rw[HTK.out,HSK.out];exact HR.out.1,HR.out.2.1,HR.out.2.2⟩
    case measure=>simp[intOf];omega
  ·obtain rfl:j=r.length:=by omega
   rw[List.take_length] at hrw
   go_wp2
   go_end0
   exact⟨rfl,⟨rv,hrw⟩,hx,hb⟩
theorem back_any {w0:World} {na:Option Addr} {nc:Nat} {ns:List (List Int)} (hM:ns.length≤10000) (hn:RowsAt w0 na ns) (w:World) (hp:Past w0 w):
  Calls Tryz.prog 20 #[.slice na ns.length nc] w fun e w'=>(∃g,e=.returned (.slice (some ⟨g,0,none⟩) ns.length ns.length)∧RowsO w' w.heap.size g ns.length (backG ns))∧Below w.heap.size w w':=by
 have hmk:=made_rows ns.length (by omega)
 have HN:=hid hn
 have HP:=hid hp
 obtain⟨M,hMM⟩:∃M,ns.length=M:=⟨_,rfl⟩
 rw[hMM] at hmk hM ⊢
 have HMM:=hid hMM
 clear hn hp hMM
 go_enter Tryz.func20,Tryz.ntmps20
 go_upto_region 4 with (fail)
 have hr3:RwD ((w.alloc (.cells (Array.replicate M (.slice none 0 0)) 29)).alloc (.cells #[.slice (some ⟨w.heap.size,0,none⟩) M M] 28)) w.heap.size w.heap.size M (List.replicate M []) (List.replicate M (.slice none 0 0)):=by
  refine⟨⟨List.length_replicate,?_,fun i r hr=>?_⟩,fun i j q u v hu hv hne hq=>?_⟩
  ·have:=World.ownsRow_lit (base:=w.heap.size) (e:=29) (size:=1) w (Array.replicate M (.slice none 0 0)) M (Nat.le_refl _) (by unfold maxLen;omega) (by simp)
   have:=this.alloc (.cells #[.slice (some ⟨w.heap.size,0,none⟩) M M] 28)
   simpa using this
  ·rw[List.getElem?_replicate] at hr
   split at hr
   ·rename_i hlt'
    simp only[Option.some.injEq] at hr
    subst hr
    exact⟨.slice none 0 0,by rw[List.getElem?_replicate,if_pos hlt'],World.ownsRow_nil _ _ _ _⟩
   ·cases hr
  ·rw[List.getElem?_replicate] at hu
   split at hu
   ·simp only[Option.some.injEq] at hu
    subst hu
    simp[Value.ownBlock] at hq
   ·cases hu
 have hb3:Below w.heap.size w ((w.alloc (.cells (Array.replicate M (.slice none 0 0)) 29)).alloc (.cells #[.slice (some ⟨w.heap.size,0,none⟩) M M] 28)):=((Below.refl w.heap.size w).alloc (Nat.le_refl _) _).alloc (by simp) _
 have hx3:TBox ((w.alloc (.cells (Array.replicate M (.slice none 0 0)) 29)).alloc (.cells #[.slice (some ⟨w.heap.size,0,none⟩) M M] 28)) (w.heap.size+1) w.heap.size M:=by
  have:=zai (w.alloc (.cells (Array.replicate M (.slice none 0 0)) 29)) (.cells #[.slice (some ⟨w.heap.size,0,none⟩) M M] 28)
  rw[show(w.alloc (.cells (Array.replicate M (.slice none 0 0)) 29)).heap.size=w.heap.size+1 by simp] at this
  exact this
 have H3:=hid (And.intro hr3 (And.intro hb3 hx3))
 clear hr3 hb3 hx3 hmk
 generalize (w.alloc (.cells (Array.replicate M (.slice none 0 0)) 29)).alloc (.cells #[.slice (some ⟨w.heap.size,0,none⟩) M M] 28)=w3 at H3 ⊢
 generalize hB:w.heap.size=B at H3 ⊢
 generalize hg:B+1=x at H3 ⊢
 have HBX:=hid (And.intro hB hg)
 clear hB hg
 go_loopw [13] (fun i wr=>∃(k:Nat) (rv:List Value),k≤M∧i=.int .i64 k∧RwD wr B B M (zcu ns k []) rv∧TBox wr x B M∧Below B w wr) (fun i _=>M - (intOf i).toNat)
 case atStart=>exact⟨0,_,Nat.zero_le _,rfl,by rw[back_zero,HMM.out];exact H3.out.1,H3.out.2.2,H3.out.2.1⟩
 case round =>
  obtain⟨k,rv,hk,rfl,hrw,hx,hb⟩:=hrel
  by_cases hlt:k < M
  ·have hw0:w0.heap.size≤B:=by have h9:=(show Below w0.heap.size w0 w from HP.out).size;have:=HBX.out.1;omega
   have hpw:Below w0.heap.size w0 wr:=HP.out.trans (hb.mono hw0)
   have hkn:k < ns.length:=by rw[HMM.out];exact hlt
   obtain⟨nb,no,ra,rc,rfl,hc,⟨hrl,hrz⟩,hnum⟩:=HN.out k hkn
   have hc1:=zav hpw (B:=0) _ _ (Nat.zero_le _) hc
   have hT:=turn_any (w0:=w0) (lc:=rc) HMM.out hM k hlt hrl hnum hw0 (by have:=HBX.out.2;omega) wr hpw hrw hx
   have hbn:=back_next ns k hkn
   have hgd:ns.getD k []=ns[k]:=by rw[List.getD_eq_getElem?_getD,List.getElem?_eq_getElem hkn];rfl
   rw[hgd] at hbn
   rw[hbn] at hT
   obtain⟨R,hR⟩:∃R,ns[k].length=R:=⟨_,rfl⟩
   rw[hR] at hc1 hT
   have HT:=hid hT
   have nl:=World.block_lt_of_cell? wr _ hc1
   have HB:=hid hb
   clear hpw hc hrl hrz hnum hT hbn hgd hrw hx hb hw0 hR
   go_wp2_with (go_at_call 37;(refine HT.out.mono ?_);rintro e w5 ⟨rfl,⟨rv5,r5⟩,x5,b5⟩;have H5:=hid (And.intro r5 (And.intro x5 b5));clear r5 x5 b5)
   go_roundw
   case rel=>exact⟨k+1,rv5,by omega,by go_num,H5.out.1,H5.out.2.1,HB.out.trans H5.out.2.2⟩
   case measure=>simp[intOf];omega
  ·obtain rfl:k=M:=by omega
   have hx0:=zab (k:=0) hx rfl
   have hxl:=lt_of_block hx
   have HE:=hid (And.intro hrw hb)
   clear hrw hb hx
   go_wp2
   go_ret
   rw[HBX.out.1]
   refine⟨⟨B,rfl,?_⟩,HE.out.2⟩
   have:=HE.out.1.rw.o
   rw[show zcu ns k []=backG ns by rw[←back_all,HMM.out]] at this
   exact this
end Go.Proofs.YtagnmppdhfmgdaaGreatDoor.Fl
