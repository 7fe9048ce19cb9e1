/- What is wrong with a name that must be an array, or a number. -/
import Derived.Test.YtljbbhhiiiepcaaGreatDoorKTags
import Derived.Test.YtljbbhhiiiepcaaGreatDoorKName
import Derived.Deep.RegionHeld3
set_option linter.unusedSimpArgs false
set_option linter.unusedVariables false
set_option maxHeartbeats 8000000
set_option maxRecDepth 100000
namespace Go.Proofs.YtljbbhhiiiepcaaGreatDoor.Ck
open Go Go.RowKit Go.Proofs.YtljbbhhiiiepcaaGreatDoor
open Go.Lib (hid)
theorem zeh {w:World} {b:Nat} {S:ST} (h:SBox w b S):w.cell? ⟨b,0,none⟩=some (.int .i64 S.kind)∧w.cell? ⟨b,1,none⟩=some (.int .i64 S.tag)∧w.cell? ⟨b,2,none⟩=some (.string S.name)∧w.cell? ⟨b,3,none⟩=some (.string S.func)∧w.cell? ⟨b,4,none⟩=some (.slice S.ea S.en S.ec)∧w.cell? ⟨b,5,none⟩=some (.slice S.ba S.bn S.bc)∧w.cell? ⟨b,6,none⟩=some (.slice S.la S.ln S.lc)∧b < w.heap.size:=
 ⟨zab h rfl,zab h rfl,zab h rfl,zab h rfl,zab h rfl,zab h rfl,zab h rfl,zcR h⟩
theorem zdN {w:World} {b n c mb:Nat} {a:Option Addr} (h:XBox w b a n c mb):w.cell? ⟨b,0,none⟩=some (.slice a n c)∧w.cell? ⟨b,1,none⟩=some (.map (some mb))∧b < w.heap.size:=
 ⟨zab h rfl,zab h rfl,zcR h⟩
theorem opAt {ops:Array Oper} {i:Nat} {o:Oper} (h:ops.toList[i]?=some o):ops[i]?=some o:=by simpa using h
theorem callee2_any {w0:World} {a:Option Addr} {l:List FT} (hin:FsIn w0 0 a l) (c mb bi bx bs:Nat) (S:ST) (k:Nat) (hk:k < l.length) (hk2:findN l S.func=k) (w:World) (hp0:Past w0 w) (hib:Box w bi (.int .i64 k) 3) (hx:XBox w bx a l.length c mb) (hs:SBox w bs S):
  Calls Tryz.prog 193 #[.pointer (some ⟨bi,0,none⟩),.pointer (some ⟨bx,0,none⟩),.pointer (some ⟨bs,0,none⟩)] w fun e w'=>e=.returned (.int .i64 (call2 l S:Nat))∧Below w.heap.size w w':=by
 obtain⟨s0,s1,s2,s3,s4,s5,s6,hls⟩:=zeh hs
 obtain⟨x0,x1,hlx⟩:=zdN hx
 have i0:=hib.c0
 have hli:=hib.lt
 have hn:=hin.len
 have hrow:=hin.row k hk
 obtain⟨kb,ko,rfl,-⟩:=hrow
 have hrow:=hin.row k hk
 rw[F.cells_is] at hrow
 obtain⟨r0,r1,r2,r3,hkb⟩:=zbf hrow hp0
 obtain⟨pn,hpn⟩:∃pn,l[k].params.length=pn:=⟨_,rfl⟩
 have hgd:((l.map fun F=>F.params.length).getD k 0)=pn:=by rw[←hpn,List.getD_eq_getElem?_getD,List.getElem?_map,List.getElem?_eq_getElem hk];rfl
 rw[hpn] at r1
 have HC:Hid (∀W,Past w W→(W.cell? ⟨bi,0,none⟩=some (.int .i64 k)∧W.cell? ⟨bx,0,none⟩=some (.slice (some ⟨kb,ko,none⟩) l.length c)∧W.cell? ⟨bx,1,none⟩=some (.map (some mb))∧W.cell? ⟨kb,ko+k*4+1,none⟩=some (.slice l[k].pa pn l[k].pc)∧W.cell? ⟨bs,4,none⟩=some (.slice S.ea S.en S.ec))):=hid (fun W hW=>by
  have hb:Below w.heap.size w W:=hW
  exact⟨(hb.cell (p:=⟨bi,0,none⟩) hli).trans i0,(hb.cell (p:=⟨bx,0,none⟩) hlx).trans x0,(hb.cell (p:=⟨bx,1,none⟩) hlx).trans x1,(hb.cell (p:=⟨kb,ko+k*4+1,none⟩) hkb).trans r1,(hb.cell (p:=⟨bs,4,none⟩) hls).trans s4⟩)
 have HL:=hid (fun W=>last_any (some ⟨kb,ko,none⟩) l.length c mb hn W)
 have hp:Hid (Past w w.drew):=hid ((Below.refl w.heap.size w).drew)
 by_cases hkl:k+1=l.length
 ·have HV:Hid (call2 l S=10):=hid (by unfold call2;rw[hk2,if_pos (Or.inl hkl)])
  have e1:((k:Int)==(l.length:Int) - 1)=true:=by simp;omega
  clear hp0 hin hib hx hs hrow hgd hpn hkl r0 r1 r2 r3 s0 s1 s2 s3 s4 s5 s6 x0 x1 i0
  go_enter Tryz.func193,Tryz.ntmps193
  go_wp2
  refine wp_region_noPanic ?_
  refine wp_region_held_drew (S:=fun w'=>w'.cell? ⟨bi,0,none⟩=some (.int .i64 k)∧w'.cell? ⟨bx,0,none⟩=some (.slice (some ⟨kb,ko,none⟩) l.length c)∧w'.cell? ⟨bx,1,none⟩=some (.map (some mb))∧w'.cell? ⟨kb,ko+k*4+1,none⟩=some (.slice l[k].pa pn l[k].pc)∧w'.cell? ⟨bs,4,none⟩=some (.slice S.ea S.en S.ec)) (by kernel_rfl) ?_ (fun hHeld=>?_)
  ·with_reducible exact HC.out _ hp.out
  refine wpAnyH_take (i:=0) (v:=?_) (opAt rfl) (by kernel_rfl) (by kernel_rfl) (by kernel_rfl) (fun _ _ _ h=>h) (Or.inl ⟨by rfl,?_⟩) (by assumption) ?_
  rotate_left
  ·intro w' hSw;(try dsimp only at hSw);go_simp;(try with_reducible rfl)
  try simp only[Act.put,List.setIfInBounds_toArray,List.set_cons_zero,List.set_cons_succ]
  refine wpAnyH_take (i:=1) (v:=?_) (opAt rfl) (by kernel_rfl) (by kernel_rfl) (by kernel_rfl) (fun _ _ _ h=>h) (Or.inl ⟨by rfl,?_⟩) (by assumption) ?_
  rotate_left
  ·intro w' hSw;(try dsimp only at hSw);go_simp;(try with_reducible rfl)
  try simp only[Act.put,List.setIfInBounds_toArray,List.set_cons_zero,List.set_cons_succ]
  refine wpAnyH_ready (rs:=[2]) (by kernel_rfl) (by simp) ?_
  refine AllReadyH.cons (opAt rfl) (fun K hK=>?_) AllReadyH.nil
  go_simp
  go_at_call 95;((with_reducible refine(HL.out _).mono ?_);rintro e wk ⟨rfl,hb⟩);have hq:=hid (hp.out.on hb);clear hp hb;have hp:=hq;clear hq
  (try go_wp2_with fail)
  refine hK.out _ _ (HC.out _ hp.out) (fun hHeld2=>?_)
  clear hK K hHeld
  have hHeld:=hHeld2
  clear hHeld2
  try simp only[Act.put,List.setIfInBounds_toArray,List.set_cons_zero,List.set_cons_succ]
  refine wpAnyH_take (i:=3) (v:=?_) (opAt rfl) (by kernel_rfl) (by kernel_rfl) (by kernel_rfl) (fun _ _ _ h=>h) (Or.inl ⟨by rfl,?_⟩) (by assumption) ?_
  rotate_left
  ·intro w' hSw;(try dsimp only at hSw);go_simp;(try with_reducible rfl)
  try simp only[Act.put,List.setIfInBounds_toArray,List.set_cons_zero,List.set_cons_succ]
  refine wpAnyH_take (i:=4) (v:=?_) (opAt rfl) (by kernel_rfl) (by kernel_rfl) (by kernel_rfl) (fun _ _ _ h=>h) (Or.inl ⟨by rfl,?_⟩) (by assumption) ?_
  rotate_left
  ·intro w' hSw;(try dsimp only at hSw);go_simp;(try with_reducible rfl)
  try simp only[Act.put,List.setIfInBounds_toArray,List.set_cons_zero,List.set_cons_succ]
  refine wpAnyH_take (i:=5) (v:=undef) (opAt rfl) (by kernel_rfl) (by kernel_rfl) (by kernel_rfl) (fun _ _ _ h=>h) (Or.inr ⟨by rfl,rfl⟩) (by assumption) ?_
  try simp only[Act.put,List.setIfInBounds_toArray,List.set_cons_zero,List.set_cons_succ]
  refine wpAnyH_take (i:=6) (v:=undef) (opAt rfl) (by kernel_rfl) (by kernel_rfl) (by kernel_rfl) (fun _ _ _ h=>h) (Or.inr ⟨by rfl,rfl⟩) (by assumption) ?_
  try simp only[Act.put,List.setIfInBounds_toArray,List.set_cons_zero,List.set_cons_succ]
  refine wpAnyH_take (i:=7) (v:=undef) (opAt rfl) (by kernel_rfl) (by kernel_rfl) (by kernel_rfl) (fun _ _ _ h=>h) (Or.inr ⟨by rfl,rfl⟩) (by assumption) ?_
  try simp only[Act.put,List.setIfInBounds_toArray,List.set_cons_zero,List.set_cons_succ]
  refine wpAnyH_take (i:=8) (v:=undef) (opAt rfl) (by kernel_rfl) (by kernel_rfl) (by kernel_rfl) (fun _ _ _ h=>h) (Or.inr ⟨by rfl,rfl⟩) (by assumption) ?_
  try simp only[Act.put,List.setIfInBounds_toArray,List.set_cons_zero,List.set_cons_succ]
  refine wpAnyH_take (i:=9) (v:=undef) (opAt rfl) (by kernel_rfl) (by kernel_rfl) (by kernel_rfl) (fun _ _ _ h=>h) (Or.inr ⟨by rfl,rfl⟩) (by assumption) ?_
  try simp only[Act.put,List.setIfInBounds_toArray,List.set_cons_zero,List.set_cons_succ]
  refine wpAnyH_take (i:=10) (v:=undef) (opAt rfl) (by kernel_rfl) (by kernel_rfl) (by kernel_rfl) (fun _ _ _ h=>h) (Or.inr ⟨by rfl,rfl⟩) (by assumption) ?_
  try simp only[Act.put,List.setIfInBounds_toArray,List.set_cons_zero,List.set_cons_succ]
  refine wpAnyH_take (i:=11) (v:=undef) (opAt rfl) (by kernel_rfl) (by kernel_rfl) (by kernel_rfl) (fun _ _ _ h=>h) (Or.inr ⟨by rfl,rfl⟩) (by assumption) ?_
  try simp only[Act.put,List.setIfInBounds_toArray,List.set_cons_zero,List.set_cons_succ]
  refine wpAnyH_take (i:=12) (v:=undef) (opAt rfl) (by kernel_rfl) (by kernel_rfl) (by kernel_rfl) (fun _ _ _ h=>h) (Or.inr ⟨by rfl,rfl⟩) (by assumption) ?_
  try simp only[Act.put,List.setIfInBounds_toArray,List.set_cons_zero,List.set_cons_succ]
  refine wpAnyH_take (i:=13) (v:=undef) (opAt rfl) (by kernel_rfl) (by kernel_rfl) (by kernel_rfl) (fun _ _ _ h=>h) (Or.inr ⟨by rfl,rfl⟩) (by assumption) ?_
  try simp only[Act.put,List.setIfInBounds_toArray,List.set_cons_zero,List.set_cons_succ]
  refine wpAnyH_take (i:=14) (v:=undef) (opAt rfl) (by kernel_rfl) (by kernel_rfl) (by kernel_rfl) (fun _ _ _ h=>h) (Or.inr ⟨by rfl,rfl⟩) (by assumption) ?_
  try simp only[Act.put,List.setIfInBounds_toArray,List.set_cons_zero,List.set_cons_succ]
  refine wpAnyH_take (i:=15) (v:=undef) (opAt rfl) (by kernel_rfl) (by kernel_rfl) (by kernel_rfl) (fun _ _ _ h=>h) (Or.inr ⟨by rfl,rfl⟩) (by assumption) ?_
  try simp only[Act.put,List.setIfInBounds_toArray,List.set_cons_zero,List.set_cons_succ]
  refine wpAnyH_take (i:=16) (v:=undef) (opAt rfl) (by kernel_rfl) (by kernel_rfl) (by kernel_rfl) (fun _ _ _ h=>h) (Or.inr ⟨by rfl,rfl⟩) (by assumption) ?_
  try simp only[Act.put,List.setIfInBounds_toArray,List.set_cons_zero,List.set_cons_succ]
  refine wpAnyH_take (i:=17) (v:=?_) (opAt rfl) (by kernel_rfl) (by kernel_rfl) (by kernel_rfl) (fun _ _ _ h=>h) (Or.inl ⟨by rfl,?_⟩) (by assumption) ?_
  rotate_left
  ·intro w' hSw;(try dsimp only at hSw);go_simp;(try with_reducible rfl)
  try simp only[Act.put,List.setIfInBounds_toArray,List.set_cons_zero,List.set_cons_succ]
  refine wpAnyH_ready (rs:=[18]) (by kernel_rfl) (by simp) ?_
  refine AllReadyH.cons (opAt rfl) (fun K hK=>?_) AllReadyH.nil
  go_simp
  go_at_call 38;((with_reducible refine(zaF _ _ _).mono ?_);rintro e wk ⟨rfl,rfl⟩)
  (try go_wp2_with fail)
  refine hK.out _ _ (HC.out _ hp.out) (fun hHeld2=>?_)
  clear hK K hHeld
  have hHeld:=hHeld2
  clear hHeld2
  try simp only[Act.put,List.setIfInBounds_toArray,List.set_cons_zero,List.set_cons_succ]
  refine wpAnyH_take (i:=19) (v:=?_) (opAt rfl) (by kernel_rfl) (by kernel_rfl) (by kernel_rfl) (fun _ _ _ h=>h) (Or.inl ⟨by rfl,?_⟩) (by assumption) ?_
  rotate_left
  ·intro w' hSw;(try dsimp only at hSw);go_simp;(try with_reducible rfl)
  try simp only[Act.put,List.setIfInBounds_toArray,List.set_cons_zero,List.set_cons_succ]
  refine wpAnyH_done (by kernel_rfl) ?_ _
  refine NoPanic.normal ?_
  go_wp2
  go_ret
  exact⟨by rw[HV.out];rfl,hp.out⟩
 ·have e1:((k:Int)==(l.length:Int) - 1)=false:=by simp;omega
  by_cases hpe:pn=S.en
  ·have HV:Hid (call2 l S=0):=hid (by unfold call2;rw[hk2,hgd,if_neg (by omega)])
   have e2:((pn:Int) != (S.en:Int))=false:=by simp;omega
   have e3:(pn != S.en)=false:=by simp;omega
   clear hpe
   clear hp0 hin hib hx hs hrow hgd hpn hkl r0 r1 r2 r3 s0 s1 s2 s3 s4 s5 s6 x0 x1 i0
   go_enter Tryz.func193,Tryz.ntmps193
   go_wp2
   refine wp_region_noPanic ?_
   refine wp_region_held_drew (S:=fun w'=>w'.cell? ⟨bi,0,none⟩=some (.int .i64 k)∧w'.cell? ⟨bx,0,none⟩=some (.slice (some ⟨kb,ko,none⟩) l.length c)∧w'.cell? ⟨bx,1,none⟩=some (.map (some mb))∧w'.cell? ⟨kb,ko+k*4+1,none⟩=some (.slice l[k].pa pn l[k].pc)∧w'.cell? ⟨bs,4,none⟩=some (.slice S.ea S.en S.ec)) (by kernel_rfl) ?_ (fun hHeld=>?_)
   ·with_reducible exact HC.out _ hp.out
   refine wpAnyH_take (i:=0) (v:=?_) (opAt rfl) (by kernel_rfl) (by kernel_rfl) (by kernel_rfl) (fun _ _ _ h=>h) (Or.inl ⟨by rfl,?_⟩) (by assumption) ?_
   rotate_left
   ·intro w' hSw;(try dsimp only at hSw);go_simp;(try with_reducible rfl)
   try simp only[Act.put,List.setIfInBounds_toArray,List.set_cons_zero,List.set_cons_succ]
   refine wpAnyH_take (i:=1) (v:=?_) (opAt rfl) (by kernel_rfl) (by kernel_rfl) (by kernel_rfl) (fun _ _ _ h=>h) (Or.inl ⟨by rfl,?_⟩) (by assumption) ?_
   rotate_left
   ·intro w' hSw;(try dsimp only at hSw);go_simp;(try with_reducible rfl)
   try simp only[Act.put,List.setIfInBounds_toArray,List.set_cons_zero,List.set_cons_succ]
   refine wpAnyH_ready (rs:=[2]) (by kernel_rfl) (by simp) ?_
   refine AllReadyH.cons (opAt rfl) (fun K hK=>?_) AllReadyH.nil
   go_simp
   go_at_call 95;((with_reducible refine(HL.out _).mono ?_);rintro e wk ⟨rfl,hb⟩);have hq:=hid (hp.out.on hb);clear hp hb;have hp:=hq;clear hq
   (try go_wp2_with fail)
   refine hK.out _ _ (HC.out _ hp.out) (fun hHeld2=>?_)
   clear hK K hHeld
   have hHeld:=hHeld2
   clear hHeld2
   try simp only[Act.put,List.setIfInBounds_toArray,List.set_cons_zero,List.set_cons_succ]
   refine wpAnyH_take (i:=3) (v:=?_) (opAt rfl) (by kernel_rfl) (by kernel_rfl) (by kernel_rfl) (fun _ _ _ h=>h) (Or.inl ⟨by rfl,?_⟩) (by assumption) ?_
   rotate_left
   ·intro w' hSw;(try dsimp only at hSw);go_simp;(try with_reducible rfl)
   try simp only[Act.put,List.setIfInBounds_toArray,List.set_cons_zero,List.set_cons_succ]
   refine wpAnyH_take (i:=4) (v:=?_) (opAt rfl) (by kernel_rfl) (by kernel_rfl) (by kernel_rfl) (fun _ _ _ h=>h) (Or.inl ⟨by rfl,?_⟩) (by assumption) ?_
   rotate_left
   ·intro w' hSw;(try dsimp only at hSw);go_simp;(try with_reducible rfl)
   try simp only[Act.put,List.setIfInBounds_toArray,List.set_cons_zero,List.set_cons_succ]
   refine wpAnyH_take (i:=5) (v:=?_) (opAt rfl) (by kernel_rfl) (by kernel_rfl) (by kernel_rfl) (fun _ _ _ h=>h) (Or.inl ⟨by rfl,?_⟩) (by assumption) ?_
   rotate_left
   ·intro w' hSw;(try dsimp only at hSw);go_simp;(try with_reducible rfl)
   try simp only[Act.put,List.setIfInBounds_toArray,List.set_cons_zero,List.set_cons_succ]
   refine wpAnyH_take (i:=6) (v:=?_) (opAt rfl) (by kernel_rfl) (by kernel_rfl) (by kernel_rfl) (fun _ _ _ h=>h) (Or.inl ⟨by rfl,?_⟩) (by assumption) ?_
   rotate_left
   ·intro w' hSw;(try dsimp only at hSw);go_simp;(try with_reducible rfl)
   try simp only[Act.put,List.setIfInBounds_toArray,List.set_cons_zero,List.set_cons_succ]
   refine wpAnyH_take (i:=7) (v:=?_) (opAt rfl) (by kernel_rfl) (by kernel_rfl) (by kernel_rfl) (fun _ _ _ h=>h) (Or.inl ⟨by rfl,?_⟩) (by assumption) ?_
   rotate_left
   ·intro w' hSw;(try dsimp only at hSw);go_simp;(try with_reducible rfl)
   try simp only[Act.put,List.setIfInBounds_toArray,List.set_cons_zero,List.set_cons_succ]
   refine wpAnyH_take (i:=8) (v:=?_) (opAt rfl) (by kernel_rfl) (by kernel_rfl) (by kernel_rfl) (fun _ _ _ h=>h) (Or.inl ⟨by rfl,?_⟩) (by assumption) ?_
   rotate_left
   ·intro w' hSw;(try dsimp only at hSw);go_simp;(try with_reducible rfl)
   try simp only[Act.put,List.setIfInBounds_toArray,List.set_cons_zero,List.set_cons_succ]
   refine wpAnyH_take (i:=9) (v:=?_) (opAt rfl) (by kernel_rfl) (by kernel_rfl) (by kernel_rfl) (fun _ _ _ h=>h) (Or.inl ⟨by rfl,?_⟩) (by assumption) ?_
   rotate_left
   ·intro w' hSw;(try dsimp only at hSw);go_simp;(try with_reducible rfl)
   try simp only[Act.put,List.setIfInBounds_toArray,List.set_cons_zero,List.set_cons_succ]
   refine wpAnyH_take (i:=10) (v:=?_) (opAt rfl) (by kernel_rfl) (by kernel_rfl) (by kernel_rfl) (fun _ _ _ h=>h) (Or.inl ⟨by rfl,?_⟩) (by assumption) ?_
   rotate_left
   ·intro w' hSw;(try dsimp only at hSw);go_simp;(try with_reducible rfl)
   try simp only[Act.put,List.setIfInBounds_toArray,List.set_cons_zero,List.set_cons_succ]
   refine wpAnyH_take (i:=11) (v:=?_) (opAt rfl) (by kernel_rfl) (by kernel_rfl) (by kernel_rfl) (fun _ _ _ h=>h) (Or.inl ⟨by rfl,?_⟩) (by assumption) ?_
   rotate_left
   ·intro w' hSw;(try dsimp only at hSw);go_simp;(try with_reducible rfl)
   try simp only[Act.put,List.setIfInBounds_toArray,List.set_cons_zero,List.set_cons_succ]
   refine wpAnyH_take (i:=12) (v:=?_) (opAt rfl) (by kernel_rfl) (by kernel_rfl) (by kernel_rfl) (fun _ _ _ h=>h) (Or.inl ⟨by rfl,?_⟩) (by assumption) ?_
   rotate_left
   ·intro w' hSw;(try dsimp only at hSw);go_simp;(try with_reducible rfl)
   try simp only[Act.put,List.setIfInBounds_toArray,List.set_cons_zero,List.set_cons_succ]
   refine wpAnyH_take (i:=13) (v:=?_) (opAt rfl) (by kernel_rfl) (by kernel_rfl) (by kernel_rfl) (fun _ _ _ h=>h) (Or.inl ⟨by rfl,?_⟩) (by assumption) ?_
   rotate_left
   ·intro w' hSw;(try dsimp only at hSw);go_simp;(try with_reducible rfl)
   try simp only[Act.put,List.setIfInBounds_toArray,List.set_cons_zero,List.set_cons_succ]
   refine wpAnyH_take (i:=14) (v:=?_) (opAt rfl) (by kernel_rfl) (by kernel_rfl) (by kernel_rfl) (fun _ _ _ h=>h) (Or.inl ⟨by rfl,?_⟩) (by assumption) ?_
   rotate_left
   ·intro w' hSw;(try dsimp only at hSw);go_simp;(try with_reducible rfl)
   try simp only[Act.put,List.setIfInBounds_toArray,List.set_cons_zero,List.set_cons_succ]
   refine wpAnyH_take (i:=15) (v:=?_) (opAt rfl) (by kernel_rfl) (by kernel_rfl) (by kernel_rfl) (fun _ _ _ h=>h) (Or.inl ⟨by rfl,?_⟩) (by assumption) ?_
   rotate_left
   ·intro w' hSw;(try dsimp only at hSw);go_simp;(try with_reducible rfl)
   try simp only[Act.put,List.setIfInBounds_toArray,List.set_cons_zero,List.set_cons_succ]
   refine wpAnyH_take (i:=16) (v:=?_) (opAt rfl) (by kernel_rfl) (by kernel_rfl) (by kernel_rfl) (fun _ _ _ h=>h) (Or.inl ⟨by rfl,?_⟩) (by assumption) ?_
   rotate_left
   ·intro w' hSw;(try dsimp only at hSw);go_simp;(try with_reducible rfl)
   try simp only[Act.put,List.setIfInBounds_toArray,List.set_cons_zero,List.set_cons_succ]
   refine wpAnyH_take (i:=17) (v:=?_) (opAt rfl) (by kernel_rfl) (by kernel_rfl) (by kernel_rfl) (fun _ _ _ h=>h) (Or.inl ⟨by rfl,?_⟩) (by assumption) ?_
   rotate_left
   ·intro w' hSw;(try dsimp only at hSw);go_simp;(try with_reducible rfl)
   try simp only[Act.put,List.setIfInBounds_toArray,List.set_cons_zero,List.set_cons_succ]
   refine wpAnyH_ready (rs:=[18]) (by kernel_rfl) (by simp) ?_
   refine AllReadyH.cons (opAt rfl) (fun K hK=>?_) AllReadyH.nil
   go_simp
   go_at_call 38;((with_reducible refine(zaF _ _ _).mono ?_);rintro e wk ⟨rfl,rfl⟩)
   (try go_wp2_with fail)
   refine hK.out _ _ (HC.out _ hp.out) (fun hHeld2=>?_)
   clear hK K hHeld
   have hHeld:=hHeld2
   clear hHeld2
   try simp only[Act.put,List.setIfInBounds_toArray,List.set_cons_zero,List.set_cons_succ]
   refine wpAnyH_take (i:=19) (v:=?_) (opAt rfl) (by kernel_rfl) (by kernel_rfl) (by kernel_rfl) (fun _ _ _ h=>h) (Or.inl ⟨by rfl,?_⟩) (by assumption) ?_
   rotate_left
   ·intro w' hSw;(try dsimp only at hSw);go_simp;(try with_reducible rfl)
   try simp only[Act.put,List.setIfInBounds_toArray,List.set_cons_zero,List.set_cons_succ]
   refine wpAnyH_done (by kernel_rfl) ?_ _
   refine NoPanic.normal ?_
   go_wp2
   go_ret
   exact⟨by rw[HV.out];rfl,hp.out⟩
  ·have HV:Hid (call2 l S=10):=hid (by unfold call2;rw[hk2,hgd,if_pos (Or.inr hpe)])
   have e2:((pn:Int) != (S.en:Int))=true:=by simp;omega
   have e3:(pn != S.en)=true:=by simpa using hpe
   clear hpe
   clear hp0 hin hib hx hs hrow hgd hpn hkl r0 r1 r2 r3 s0 s1 s2 s3 s4 s5 s6 x0 x1 i0
   go_enter Tryz.func193,Tryz.ntmps193
   go_wp2
   refine wp_region_noPanic ?_
   refine wp_region_held_drew (S:=fun w'=>w'.cell? ⟨bi,0,none⟩=some (.int .i64 k)∧w'.cell? ⟨bx,0,none⟩=some (.slice (some ⟨kb,ko,none⟩) l.length c)∧w'.cell? ⟨bx,1,none⟩=some (.map (some mb))∧w'.cell? ⟨kb,ko+k*4+1,none⟩=some (.slice l[k].pa pn l[k].pc)∧w'.cell? ⟨bs,4,none⟩=some (.slice S.ea S.en S.ec)) (by kernel_rfl) ?_ (fun hHeld=>?_)
   ·with_reducible exact HC.out _ hp.out
   refine wpAnyH_take (i:=0) (v:=?_) (opAt rfl) (by kernel_rfl) (by kernel_rfl) (by kernel_rfl) (fun _ _ _ h=>h) (Or.inl ⟨by rfl,?_⟩) (by assumption) ?_
   rotate_left
   ·intro w' hSw;(try dsimp only at hSw);go_simp;(try with_reducible rfl)
   try simp only[Act.put,List.setIfInBounds_toArray,List.set_cons_zero,List.set_cons_succ]
   refine wpAnyH_take (i:=1) (v:=?_) (opAt rfl) (by kernel_rfl) (by kernel_rfl) (by kernel_rfl) (fun _ _ _ h=>h) (Or.inl ⟨by rfl,?_⟩) (by assumption) ?_
   rotate_left
   ·intro w' hSw;(try dsimp only at hSw);go_simp;(try with_reducible rfl)
   try simp only[Act.put,List.setIfInBounds_toArray,List.set_cons_zero,List.set_cons_succ]
   refine wpAnyH_ready (rs:=[2]) (by kernel_rfl) (by simp) ?_
   refine AllReadyH.cons (opAt rfl) (fun K hK=>?_) AllReadyH.nil
   go_simp
   go_at_call 95;((with_reducible refine(HL.out _).mono ?_);rintro e wk ⟨rfl,hb⟩);have hq:=hid (hp.out.on hb);clear hp hb;have hp:=hq;clear hq
   (try go_wp2_with fail)
   refine hK.out _ _ (HC.out _ hp.out) (fun hHeld2=>?_)
   clear hK K hHeld
   have hHeld:=hHeld2
   clear hHeld2
   try simp only[Act.put,List.setIfInBounds_toArray,List.set_cons_zero,List.set_cons_succ]
   refine wpAnyH_take (i:=3) (v:=?_) (opAt rfl) (by kernel_rfl) (by kernel_rfl) (by kernel_rfl) (fun _ _ _ h=>h) (Or.inl ⟨by rfl,?_⟩) (by assumption) ?_
   rotate_left
   ·intro w' hSw;(try dsimp only at hSw);go_simp;(try with_reducible rfl)
   try simp only[Act.put,List.setIfInBounds_toArray,List.set_cons_zero,List.set_cons_succ]
   refine wpAnyH_take (i:=4) (v:=?_) (opAt rfl) (by kernel_rfl) (by kernel_rfl) (by kernel_rfl) (fun _ _ _ h=>h) (Or.inl ⟨by rfl,?_⟩) (by assumption) ?_
   rotate_left
   ·intro w' hSw;(try dsimp only at hSw);go_simp;(try with_reducible rfl)
   try simp only[Act.put,List.setIfInBounds_toArray,List.set_cons_zero,List.set_cons_succ]
   refine wpAnyH_take (i:=5) (v:=?_) (opAt rfl) (by kernel_rfl) (by kernel_rfl) (by kernel_rfl) (fun _ _ _ h=>h) (Or.inl ⟨by rfl,?_⟩) (by assumption) ?_
   rotate_left
   ·intro w' hSw;(try dsimp only at hSw);go_simp;(try with_reducible rfl)
   try simp only[Act.put,List.setIfInBounds_toArray,List.set_cons_zero,List.set_cons_succ]
   refine wpAnyH_take (i:=6) (v:=?_) (opAt rfl) (by kernel_rfl) (by kernel_rfl) (by kernel_rfl) (fun _ _ _ h=>h) (Or.inl ⟨by rfl,?_⟩) (by assumption) ?_
   rotate_left
   ·intro w' hSw;(try dsimp only at hSw);go_simp;(try with_reducible rfl)
   try simp only[Act.put,List.setIfInBounds_toArray,List.set_cons_zero,List.set_cons_succ]
   refine wpAnyH_take (i:=7) (v:=?_) (opAt rfl) (by kernel_rfl) (by kernel_rfl) (by kernel_rfl) (fun _ _ _ h=>h) (Or.inl ⟨by rfl,?_⟩) (by assumption) ?_
   rotate_left
   ·intro w' hSw;(try dsimp only at hSw);go_simp;(try with_reducible rfl)
   try simp only[Act.put,List.setIfInBounds_toArray,List.set_cons_zero,List.set_cons_succ]
   refine wpAnyH_take (i:=8) (v:=?_) (opAt rfl) (by kernel_rfl) (by kernel_rfl) (by kernel_rfl) (fun _ _ _ h=>h) (Or.inl ⟨by rfl,?_⟩) (by assumption) ?_
   rotate_left
   ·intro w' hSw;(try dsimp only at hSw);go_simp;(try with_reducible rfl)
   try simp only[Act.put,List.setIfInBounds_toArray,List.set_cons_zero,List.set_cons_succ]
   refine wpAnyH_take (i:=9) (v:=?_) (opAt rfl) (by kernel_rfl) (by kernel_rfl) (by kernel_rfl) (fun _ _ _ h=>h) (Or.inl ⟨by rfl,?_⟩) (by assumption) ?_
   rotate_left
   ·intro w' hSw;(try dsimp only at hSw);go_simp;(try with_reducible rfl)
   try simp only[Act.put,List.setIfInBounds_toArray,List.set_cons_zero,List.set_cons_succ]
   refine wpAnyH_take (i:=10) (v:=?_) (opAt rfl) (by kernel_rfl) (by kernel_rfl) (by kernel_rfl) (fun _ _ _ h=>h) (Or.inl ⟨by rfl,?_⟩) (by assumption) ?_
   rotate_left
   ·intro w' hSw;(try dsimp only at hSw);go_simp;(try with_reducible rfl)
   try simp only[Act.put,List.setIfInBounds_toArray,List.set_cons_zero,List.set_cons_succ]
   refine wpAnyH_take (i:=11) (v:=?_) (opAt rfl) (by kernel_rfl) (by kernel_rfl) (by kernel_rfl) (fun _ _ _ h=>h) (Or.inl ⟨by rfl,?_⟩) (by assumption) ?_
   rotate_left
   ·intro w' hSw;(try dsimp only at hSw);go_simp;(try with_reducible rfl)
   try simp only[Act.put,List.setIfInBounds_toArray,List.set_cons_zero,List.set_cons_succ]
   refine wpAnyH_take (i:=12) (v:=?_) (opAt rfl) (by kernel_rfl) (by kernel_rfl) (by kernel_rfl) (fun _ _ _ h=>h) (Or.inl ⟨by rfl,?_⟩) (by assumption) ?_
   rotate_left
   ·intro w' hSw;(try dsimp only at hSw);go_simp;(try with_reducible rfl)
   try simp only[Act.put,List.setIfInBounds_toArray,List.set_cons_zero,List.set_cons_succ]
   refine wpAnyH_take (i:=13) (v:=?_) (opAt rfl) (by kernel_rfl) (by kernel_rfl) (by kernel_rfl) (fun _ _ _ h=>h) (Or.inl ⟨by rfl,?_⟩) (by assumption) ?_
   rotate_left
   ·intro w' hSw;(try dsimp only at hSw);go_simp;(try with_reducible rfl)
   try simp only[Act.put,List.setIfInBounds_toArray,List.set_cons_zero,List.set_cons_succ]
   refine wpAnyH_take (i:=14) (v:=?_) (opAt rfl) (by kernel_rfl) (by kernel_rfl) (by kernel_rfl) (fun _ _ _ h=>h) (Or.inl ⟨by rfl,?_⟩) (by assumption) ?_
   rotate_left
   ·intro w' hSw;(try dsimp only at hSw);go_simp;(try with_reducible rfl)
   try simp only[Act.put,List.setIfInBounds_toArray,List.set_cons_zero,List.set_cons_succ]
   refine wpAnyH_take (i:=15) (v:=?_) (opAt rfl) (by kernel_rfl) (by kernel_rfl) (by kernel_rfl) (fun _ _ _ h=>h) (Or.inl ⟨by rfl,?_⟩) (by assumption) ?_
   rotate_left
   ·intro w' hSw;(try dsimp only at hSw);go_simp;(try with_reducible rfl)
   try simp only[Act.put,List.setIfInBounds_toArray,List.set_cons_zero,List.set_cons_succ]
   refine wpAnyH_take (i:=16) (v:=?_) (opAt rfl) (by kernel_rfl) (by kernel_rfl) (by kernel_rfl) (fun _ _ _ h=>h) (Or.inl ⟨by rfl,?_⟩) (by assumption) ?_
   rotate_left
   ·intro w' hSw;(try dsimp only at hSw);go_simp;(try with_reducible rfl)
   try simp only[Act.put,List.setIfInBounds_toArray,List.set_cons_zero,List.set_cons_succ]
   refine wpAnyH_take (i:=17) (v:=?_) (opAt rfl) (by kernel_rfl) (by kernel_rfl) (by kernel_rfl) (fun _ _ _ h=>h) (Or.inl ⟨by rfl,?_⟩) (by assumption) ?_
   rotate_left
   ·intro w' hSw;(try dsimp only at hSw);go_simp;(try with_reducible rfl)
   try simp only[Act.put,List.setIfInBounds_toArray,List.set_cons_zero,List.set_cons_succ]
   refine wpAnyH_ready (rs:=[18]) (by kernel_rfl) (by simp) ?_
   refine AllReadyH.cons (opAt rfl) (fun K hK=>?_) AllReadyH.nil
   go_simp
   go_at_call 38;((with_reducible refine(zaF _ _ _).mono ?_);rintro e wk ⟨rfl,rfl⟩)
   (try go_wp2_with fail)
   refine hK.out _ _ (HC.out _ hp.out) (fun hHeld2=>?_)
   clear hK K hHeld
   have hHeld:=hHeld2
   clear hHeld2
   try simp only[Act.put,List.setIfInBounds_toArray,List.set_cons_zero,List.set_cons_succ]
   refine wpAnyH_take (i:=19) (v:=?_) (opAt rfl) (by kernel_rfl) (by kernel_rfl) (by kernel_rfl) (fun _ _ _ h=>h) (Or.inl ⟨by rfl,?_⟩) (by assumption) ?_
   rotate_left
   ·intro w' hSw;(try dsimp only at hSw);go_simp;(try with_reducible rfl)
   try simp only[Act.put,List.setIfInBounds_toArray,List.set_cons_zero,List.set_cons_succ]
   refine wpAnyH_done (by kernel_rfl) ?_ _
   refine NoPanic.normal ?_
   go_wp2
   go_ret
   exact⟨by rw[HV.out];rfl,hp.out⟩
end Go.Proofs.YtljbbhhiiiepcaaGreatDoor.Ck

namespace Go.Proofs.YtljbbhhiiiepcaaGreatDoor.Ck
open Go Go.RowKit Go.Proofs.YtljbbhhiiiepcaaGreatDoor
open Go.Lib (hid)
def nm1 (ok:Bool):Nat:=if ok then 0 else 6
def nm2 (s:Int) (arr:Bool):Nat:=if decide (0 < s)=arr then 0 else 7
theorem named1_any (b:Nat) (ok:Bool) (w:World) (hx:Box w b (.bool ok) 4):
  Calls Tryz.prog 64 #[.pointer (some ⟨b,0,none⟩)] w fun e w'=>e=.returned (.int .i64 (nm1 ok:Nat))∧w'=w:=by
 have hc:=hx.c0
 have hb:=hx.lt
 clear hx
 cases ok
 all_goals
  go_enter Tryz.func64,Tryz.ntmps64
  go_wp2_with (go_at_call 38;refine(zaF _ _ _).mono ?_;rintro e w' ⟨rfl,rfl⟩)
  go_ret
  exact⟨rfl,rfl⟩
theorem named2_any (b d:Nat) (s:Int) (arr:Bool) (w:World) (hx:Box w b (.int .i64 s) 3) (hy:Box w d (.bool arr) 4):
  Calls Tryz.prog 65 #[.pointer (some ⟨b,0,none⟩),.pointer (some ⟨d,0,none⟩)] w fun e w'=>e=.returned (.int .i64 (nm2 s arr:Nat))∧w'=w:=by
 have hc:=hx.c0
 have hb:=hx.lt
 have hd:=hy.c0
 have hdl:=hy.lt
 clear hx hy
 by_cases h:0 < s
 all_goals cases arr
 all_goals
  go_enter Tryz.func65,Tryz.ntmps65
  go_wp2_with (go_at_call 38;refine(zaF _ _ _).mono ?_;rintro e w' ⟨rfl,rfl⟩)
  go_ret
  exact⟨by unfold nm2;first | rw[decide_eq_true (show 0 < s by omega)];rfl | rw[decide_eq_false (show ¬0 < s by omega)];rfl,rfl⟩
theorem named_code (F:FT) (nm:ByteArray) (arr:Bool):namedF F nm arr=orE (orE 0 (nm1 (zdv F nm).isSome)) (nm2 ((zdv F nm).getD 0) arr):=by
 unfold namedF
 cases zdv F nm with
 | none=>rfl
 | some s=>simp[orE,nm1,nm2]
theorem zds {w0:World} {F:FT} (hin:F.In w0 0) (nm:ByteArray) (arr:Bool) (w:World) (hp:Past w0 w):
  Calls Tryz.prog 42 #[.agg #[.string F.name,.slice F.pa F.params.length F.pc,.slice F.va F.vars.length F.vc,.slice F.ba F.body.length F.bc],.string nm,.bool arr] w fun e w'=>e=.returned (.int .i64 (namedF F nm arr:Nat))∧Below w.heap.size w w':=by
 have HP:=hid hp
 have HS:=hid (fun(W:World) (hW:Past w0 W)=>size_any hin nm W hW)
 obtain⟨s,hs⟩:∃s,(zdv F nm).getD 0=s:=⟨_,rfl⟩
 obtain⟨ok,hok⟩:∃ok,(zdv F nm).isSome=ok:=⟨_,rfl⟩
 have HN:Hid (namedF F nm arr=orE (orE 0 (nm1 ok)) (nm2 s arr)):=hid (by rw[named_code,hs,hok])
 unfold szV at HS
 rw[hs,hok] at HS
 clear hp hin hs hok
 go_enter Tryz.func42,Tryz.ntmps42
 go_wp2_with (first
  | (go_at_call 35;refine(zef [(64,#[.pointer (some ⟨w1.heap.size+1,0,none⟩)]),(65,#[.pointer (some ⟨w1.heap.size,0,none⟩),.pointer (some ⟨w.heap.size+1,0,none⟩)])] (cd [nm1 ok,nm2 s arr]) _ _ (by show 2≤100;decide) (by simp) ?_ ?_ ?_).mono ?_;(intro k h;match k,h with | 0,_=>exact enters_of Tryz.func64 (by kernel_rfl) rfl | 1,_=>exact enters_of Tryz.func65 (by kernel_rfl) rfl | k+2,h=>exact absurd h (by simp));(intro k h;match k,h with | 0,_=>(refine zab (nb _ (by simp)) ?_;rfl) | 1,_=>(refine zab (nb _ (by simp)) ?_;rfl) | k+2,h=>exact absurd h (by simp));(intro k h W hz hW;match k,h with | 0,_=>exact(named1_any _ ok W (bl hW (by repeat (first | (refine nb _ ?_;simp;done) | exact HA.out | refine ob _ ?_)))).mono fun e w' h=>⟨h.1,h.2▸Below.refl _ _⟩ | 1,_=>exact(named2_any _ _ s arr W (bl hW (by repeat (first | (refine nb _ ?_;simp;done) | exact HA.out | refine ob _ ?_))) (bl hW (by repeat (first | (refine nb _ ?_;simp;done) | exact HA.out | refine ob _ ?_)))).mono fun e w' h=>⟨h.1,h.2▸Below.refl _ _⟩ | k+2,h=>exact absurd h (by simp));rintro e w2 ⟨rfl,hb2⟩;have HB2:=hid hb2;clear hb2)
  | (go_at_call 14;refine(HS.out _ ?_).mono ?_;(exact(HP.out.alloc _).alloc _);rintro e w1 ⟨rfl,hb1⟩;have HA:Hid (w1.heap[w.heap.size+1]?=some (.cells #[.bool arr] 4 (0,0))):=hid (bl hb1 (by repeat (first | (refine nb _ ?_;simp;done) | refine ob _ ?_)));have HB1:=hid hb1;clear hb1))
 go_ret
 refine⟨by rw[HN.out];rfl,?_⟩
 have h1:Below w.heap.size w w1:=zal (bal (bal (bre w) _) _) HB1.out
 have h2:=zal (bal (bal (bal (bre w1) _) _) _) HB2.out
 exact zal h1 h2
end Go.Proofs.YtljbbhhiiiepcaaGreatDoor.Ck
