/- What is wrong with a call of a function that there is: a statement that draws its order. -/
import Derived.Test.YtljbbhhiiiepcaaGreatDoorKCallee
import Derived.Maps.Own
import Derived.Maps.OwnOps
import Derived.Maps.Views
import Derived.Deep.RegionHeld3
set_option linter.unusedSimpArgs false
set_option linter.unusedVariables false
set_option maxHeartbeats 8000000
set_option maxRecDepth 100000
namespace Go.Proofs.YtljbbhhiiiepcaaGreatDoor.Ck
open Go Go.RowKit Go.Proofs.YtljbbhhiiiepcaaGreatDoor
open Go.Lib (hid)
theorem keyI:Go.Maps.Keyed Tryz.prog 3:=Go.Maps.int_keyed Tryz.underlying3
theorem zeroI (w:World):(zeroValue 3).run Tryz.prog w=.ok (.int .i64 0) w:=by kernel_rfl
def Tg (mb:Nat) (W:World) (seen:List Int):Prop:=∃D:DataW Unit,W.ownsMap Tryz.prog 3 (plainElem Tryz.prog 3) mb seen.length D∧Go.Maps.IsMap D∧∀t:Int,D.atKey (.int .i64 t) (.lit (.int .i64 0))=.lit (.int .i64 (seen.count t:Nat))
theorem Tg.lt {mb:Nat} {W:World} {seen:List Int} (h:Tg mb W seen):mb < W.heap.size:=by
 obtain⟨D,h1,-⟩:=h;exact h1.lt
theorem Tg.on {mb:Nat} {W W':World} {seen:List Int} (h:Tg mb W seen) (hb:Below W.heap.size W W'):Tg mb W' seen:=by
 obtain⟨D,h1,h2,h3⟩:=h
 exact⟨D,h1.kept (row:=none) ⟨hb.os,hb.tape,hb.output,hb.size,fun k hk _=>hb.block k hk⟩ (by simp),h2,h3⟩
theorem Tg.alloc {mb:Nat} {W:World} {seen:List Int} (h:Tg mb W seen) (o:Obj):Tg mb (W.alloc o) seen:=h.on ((Below.refl _ _).alloc (Nat.le_refl _) _)
theorem tg_new (w:World):Tg w.heap.size (w.alloc (.map #[] 0)) []:=
 ⟨.map [],World.ownsMap_made _ _ _ _,Go.Maps.isMap_empty,fun t=>rfl⟩
theorem wf64 {t:Int} (h:-9223372036854775808≤t∧t≤9223372036854775807):(Lit.int .i64 t).wf=true:=WalkArith.wf_i64 h
theorem Tg.look {mb:Nat} {W:World} {seen:List Int} (h:Tg mb W seen) {t:Int} (ht:-9223372036854775808≤t∧t≤9223372036854775807):
  (Instr.lookup 79 (.map (some mb)) (.int .i64 t) false).run Tryz.prog W=.ok (.int .i64 (seen.count t:Nat)) W:=by
 obtain⟨D,h1,h2,h3⟩:=h
 obtain⟨c,hrun,hat,-⟩:=h1.lookup_int keyI Tryz.underlying79 Tryz.underlying3 (zeroI _) (Go.Maps.keyOf_int_mk Tryz.underlying3 (wf64 ht))
 rw[h3 t] at hat
 simp only[DataW.lit.injEq,Lit.int.injEq,true_and] at hat
 rw[hrun,hat]
theorem Tg.upd {mb:Nat} {W:World} {seen:List Int} (h:Tg mb W seen) (hl:seen.length≤1000000) {t:Int} (ht:-9223372036854775808≤t∧t≤9223372036854775807):
  ∃W',(Instr.mapUpdate 79 (.map (some mb)) (.int .i64 t) (.int .i64 ((seen.count t:Nat)+1))).run Tryz.prog W=.ok () W'∧Tg mb W' (t :: seen)∧Gr mb W W':=by
 obtain⟨D,h1,h2,h3⟩:=h
 have hc:seen.count t≤seen.length:=List.count_le_length
 obtain⟨W',hrun,hown,hg⟩:=h1.update keyI Tryz.underlying79 (by unfold maxLen;omega) (key:=.int .i64 t) (Go.Maps.keyOf_int_mk Tryz.underlying3 (wf64 ht)) (plainElem_int Tryz.underlying3 (wf64 (t:=(seen.count t:Nat)+1) (by omega)))
 refine⟨W',hrun,⟨_,hown,h2.put _ _,fun s=>?_⟩,hg⟩
 by_cases e:s=t
 ·subst e
  rw[Go.Maps.atKey_put_same h2 (show Go.WideAt.IsKeyLit (Lit.int .i64 s) from trivial),List.count_cons_self]
  congr 2
 ·rw[Go.Maps.atKey_put_other (by simpa using e),h3 s,List.count_cons_of_ne (fun h=>e h.symm)]
theorem mayTag_any (a:Option Addr) (n c mb:Nat) (hn:n≤9223372036854775807) (i:Nat) (hi:i < n) (t:Int) (ht:-9223372036854775808≤t∧t≤9223372036854775807) (seen:List Int) (hl:seen.length≤1000000) (w:World) (hT:Tg mb w seen):
  Calls Tryz.prog 146 #[.agg #[.slice a n c,.map (some mb)],.int .i64 i,.int .i64 t] w fun e w'=>e=.returned (.bool (decide (i+1=n∧t∉seen)))∧Gr mb w w'∧Tg mb w' (t :: seen):=by
 have hc:seen.count t≤seen.length:=List.count_le_length
 have hmem:t∉seen↔seen.count t=0:=List.count_eq_zero.symm
 have hcs:(t :: seen).count t=seen.count t+1:=List.count_cons_self
 have hTa:=hT.alloc (.cells #[.slice a n c,.map (some mb)] 81)
 have hk:=hTa.look ht
 obtain⟨W1,hrun,hT1,hG1⟩:=hTa.upd hl ht
 have hlt:=hT.lt
 have x0:W1.heap[w.heap.size]?=some (.cells #[.slice a n c,.map (some mb)] 81 (0,0)):=zaq hG1 (by omega) (nb _ rfl)
 have c0:=zab (k:=0) x0 rfl
 have c1:=zab (k:=1) x0 rfl
 have hlx:=lt_of_block x0
 have HT1:=hid hT1
 have HG1:=hid hG1
 have HL:=hid (fun W=>last_any a n c mb hn W)
 have HK2:Hid (∀W,Below W1.heap.size W1 W→(Instr.lookup 79 (.map (some mb)) (.int .i64 t) false).run Tryz.prog W=.ok (.int .i64 ((seen.count t:Nat)+1)) W):=hid (fun W hW=>by have:=(hT1.on hW).look ht;rw[hcs] at this;simpa using this)
 have HX:=hid x0
 have HCNT:Hid (t∉seen↔seen.count t=0):=hid hmem
 obtain⟨k,hkk⟩:∃k,seen.count t=k:=⟨_,rfl⟩
 rw[hkk] at hk hrun hc HK2 HCNT
 have w1:IntKind.i64.wrap ((k:Int)+1)=(k:Int)+1:=IntWalk.i64_in _ (by omega)
 clear hT hTa hT1 hG1 x0 hmem hcs hkk
 by_cases hin:i+1=n
 ·have e1:((i:Int)==(n:Int) - 1)=true:=by simp;omega
  by_cases hk0:k=0
  ·have HR:Hid (decide (i+1=n∧t∉seen)=true):=hid (decide_eq_true ⟨hin,HCNT.out.2 hk0⟩)
   have e2:((k:Int)+1==1)=true:=by simp;omega
   clear hin hk0
   go_enter Tryz.func146,Tryz.ntmps146
   go_wp2_with (go_at_call 95;refine(HL.out _).mono ?_;rintro e w2 ⟨rfl,hb2⟩;have x2:=bl hb2 HX.out;have d0:=zab (k:=0) x2 rfl;have d1:=zab (k:=1) x2 rfl;have hk2:=HK2.out w2 hb2;have HB2:=hid hb2;clear x2 hb2)
   go_ret
   exact⟨by rw[HR.out];rfl,zaA (zaA (zah (zaC _ _) _) HG1.out) (zdK HB2.out),HT1.out.on HB2.out⟩
  ·have HR:Hid (decide (i+1=n∧t∉seen)=false):=hid (decide_eq_false (fun h=>hk0 (HCNT.out.1 h.2)))
   have e2:((k:Int)+1==1)=false:=by simp;omega
   clear hin hk0
   go_enter Tryz.func146,Tryz.ntmps146
   go_wp2_with (go_at_call 95;refine(HL.out _).mono ?_;rintro e w2 ⟨rfl,hb2⟩;have x2:=bl hb2 HX.out;have d0:=zab (k:=0) x2 rfl;have d1:=zab (k:=1) x2 rfl;have hk2:=HK2.out w2 hb2;have HB2:=hid hb2;clear x2 hb2)
   go_ret
   exact⟨by rw[HR.out];rfl,zaA (zaA (zah (zaC _ _) _) HG1.out) (zdK HB2.out),HT1.out.on HB2.out⟩
 ·have e1:((i:Int)==(n:Int) - 1)=false:=by simp;omega
  have HR:Hid (decide (i+1=n∧t∉seen)=false):=hid (decide_eq_false (fun h=>hin h.1))
  clear hin
  go_enter Tryz.func146,Tryz.ntmps146
  go_wp2_with (go_at_call 95;refine(HL.out _).mono ?_;rintro e w2 ⟨rfl,hb2⟩;have x2:=bl hb2 HX.out;have d0:=zab (k:=0) x2 rfl;have d1:=zab (k:=1) x2 rfl;have hk2:=HK2.out w2 hb2;have HB2:=hid hb2;clear x2 hb2)
  go_ret
  exact⟨by rw[HR.out];rfl,zaA (zaA (zah (zaC _ _) _) HG1.out) (zdK HB2.out),HT1.out.on HB2.out⟩
end Go.Proofs.YtljbbhhiiiepcaaGreatDoor.Ck

namespace Go.Proofs.YtljbbhhiiiepcaaGreatDoor.Ck
open Go Go.RowKit Go.Proofs.YtljbbhhiiiepcaaGreatDoor
open Go.Lib (hid)
theorem zej {w:World} {b:Nat} {S:ST} (h:SBox w b S):w.cell? ⟨b,0,none⟩=some (.int .i64 S.kind)∧w.cell? ⟨b,1,none⟩=some (.int .i64 S.tag)∧w.cell? ⟨b,2,none⟩=some (.string S.name)∧w.cell? ⟨b,3,none⟩=some (.string S.func)∧w.cell? ⟨b,4,none⟩=some (.slice S.ea S.en S.ec)∧w.cell? ⟨b,5,none⟩=some (.slice S.ba S.bn S.bc)∧w.cell? ⟨b,6,none⟩=some (.slice S.la S.ln S.lc)∧b < w.heap.size:=
 ⟨zab h rfl,zab h rfl,zab h rfl,zab h rfl,zab h rfl,zab h rfl,zab h rfl,zcS h⟩
theorem zdQ {w:World} {b n c mb:Nat} {a:Option Addr} (h:XBox w b a n c mb):w.cell? ⟨b,0,none⟩=some (.slice a n c)∧w.cell? ⟨b,1,none⟩=some (.map (some mb))∧b < w.heap.size:=
 ⟨zab h rfl,zab h rfl,zcS h⟩
theorem opAt {ops:Array Oper} {i:Nat} {o:Oper} (h:ops.toList[i]?=some o):ops[i]?=some o:=by simpa using h
theorem callee2_any {w0:World} {a:Option Addr} {l:List FT} (hin:FsIn w0 0 a l) (c mb bi bx bs:Nat) (S:ST) (k:Nat) (hk:k < l.length) (hk2:findN l S.func=k) (w:World) (hp0:Past w0 w) (hib:Box w bi (.int .i64 k) 3) (hx:XBox w bx a l.length c mb) (hs:SBox w bs S):
  Calls Tryz.prog 193 #[.pointer (some ⟨bi,0,none⟩),.pointer (some ⟨bx,0,none⟩),.pointer (some ⟨bs,0,none⟩)] w fun e w'=>e=.returned (.int .i64 (call2 l S:Nat))∧Below w.heap.size w w':=by
 obtain⟨s0,s1,s2,s3,s4,s5,s6,hls⟩:=zej hs
 obtain⟨x0,x1,hlx⟩:=zdQ hx
 have i0:=hib.c0
 have hli:=hib.lt
 have hn:=hin.len
 have hrow:=hin.row k hk
 obtain⟨kb,ko,rfl,-⟩:=hrow
 have hrow:=hin.row k hk
 rw[F.cells_is] at hrow
 obtain⟨r0,r1,r2,r3,hkb⟩:=zbk hrow hp0
 obtain⟨pn,hpn⟩:∃pn,l[k].params.length=pn:=⟨_,rfl⟩
 have hgd:((l.map fun F=>F.params.length).getD k 0)=pn:=by rw[←hpn,List.getD_eq_getElem?_getD,List.getElem?_map,List.getElem?_eq_getElem hk];rfl
 rw[hpn] at r1
 have HC:Hid (∀W,Past w W→(W.cell? ⟨bi,0,none⟩=some (.int .i64 k)∧W.cell? ⟨bx,0,none⟩=some (.slice (some ⟨kb,ko,none⟩) l.length c)∧W.cell? ⟨bx,1,none⟩=some (.map (some mb))∧W.cell? ⟨kb,ko+k*4+1,none⟩=some (.slice l[k].pa pn l[k].pc)∧W.cell? ⟨bs,4,none⟩=some (.slice S.ea S.en S.ec))):=hid (fun W hW=>by
  have hb:Below w.heap.size w W:=hW
  exact⟨(hb.cell (p:=⟨bi,0,none⟩) hli).trans i0,(hb.cell (p:=⟨bx,0,none⟩) hlx).trans x0,(hb.cell (p:=⟨bx,1,none⟩) hlx).trans x1,(hb.cell (p:=⟨kb,ko+k*4+1,none⟩) hkb).trans r1,(hb.cell (p:=⟨bs,4,none⟩) hls).trans s4⟩)
 have HL:=hid (fun W=>last_any (some ⟨kb,ko,none⟩) l.length c mb hn W)
 have hp:Hid (Past w w.drew):=hid ((Below.refl w.heap.size w).drew)
 by_cases hkl:k+1=l.length
 ·have HV:Hid (call2 l S=10):=hid (by unfold call2;rw[hk2,if_pos (Or.inl hkl)])
  have e1:((k:Int)==(l.length:Int) - 1)=true:=by simp;omega
  clear hp0 hin hib hx hs hrow hgd hpn hkl r0 r1 r2 r3 s0 s1 s2 s3 s4 s5 s6 x0 x1 i0
  go_enter Tryz.func193,Tryz.ntmps193
  go_wp2
  refine wp_region_noPanic ?_
  refine wp_region_held_drew (S:=fun w'=>w'.cell? ⟨bi,0,none⟩=some (.int .i64 k)∧w'.cell? ⟨bx,0,none⟩=some (.slice (some ⟨kb,ko,none⟩) l.length c)∧w'.cell? ⟨bx,1,none⟩=some (.map (some mb))∧w'.cell? ⟨kb,ko+k*4+1,none⟩=some (.slice l[k].pa pn l[k].pc)∧w'.cell? ⟨bs,4,none⟩=some (.slice S.ea S.en S.ec)) (by kernel_rfl) ?_ (fun hHeld=>?_)
  ·with_reducible exact HC.out _ hp.out
  refine wpAnyH_take (i:=0) (v:=?_) (opAt rfl) (by kernel_rfl) (by kernel_rfl) (by kernel_rfl) (fun _ _ _ h=>h) (Or.inl ⟨by rfl,?_⟩) (by assumption) ?_
  rotate_left
  ·intro w' hSw;(try dsimp only at hSw);go_simp;(try with_reducible rfl)
  try simp only[Act.put,List.setIfInBounds_toArray,List.set_cons_zero,List.set_cons_succ]
  refine wpAnyH_take (i:=1) (v:=?_) (opAt rfl) (by kernel_rfl) (by kernel_rfl) (by kernel_rfl) (fun _ _ _ h=>h) (Or.inl ⟨by rfl,?_⟩) (by assumption) ?_
  rotate_left
  ·intro w' hSw;(try dsimp only at hSw);go_simp;(try with_reducible rfl)
  try simp only[Act.put,List.setIfInBounds_toArray,List.set_cons_zero,List.set_cons_succ]
  refine wpAnyH_ready (rs:=[2]) (by kernel_rfl) (by simp) ?_
  refine AllReadyH.cons (opAt rfl) (fun K hK=>?_) AllReadyH.nil
  go_simp
  go_at_call 95;((with_reducible refine(HL.out _).mono ?_);rintro e wk ⟨rfl,hb⟩);have hq:=hid (hp.out.on hb);clear hp hb;have hp:=hq;clear hq
  (try go_wp2_with fail)
  refine hK.out _ _ (HC.out _ hp.out) (fun hHeld2=>?_)
  clear hK K hHeld
  have hHeld:=hHeld2
  clear hHeld2
  try simp only[Act.put,List.setIfInBounds_toArray,List.set_cons_zero,List.set_cons_succ]
  refine wpAnyH_take (i:=3) (v:=?_) (opAt rfl) (by kernel_rfl) (by kernel_rfl) (by kernel_rfl) (fun _ _ _ h=>h) (Or.inl ⟨by rfl,?_⟩) (by assumption) ?_
  rotate_left
  ·intro w' hSw;(try dsimp only at hSw);go_simp;(try with_reducible rfl)
  try simp only[Act.put,List.setIfInBounds_toArray,List.set_cons_zero,List.set_cons_succ]
  refine wpAnyH_take (i:=4) (v:=?_) (opAt rfl) (by kernel_rfl) (by kernel_rfl) (by kernel_rfl) (fun _ _ _ h=>h) (Or.inl ⟨by rfl,?_⟩) (by assumption) ?_
  rotate_left
  ·intro w' hSw;(try dsimp only at hSw);go_simp;(try with_reducible rfl)
  try simp only[Act.put,List.setIfInBounds_toArray,List.set_cons_zero,List.set_cons_succ]
  refine wpAnyH_take (i:=5) (v:=undef) (opAt rfl) (by kernel_rfl) (by kernel_rfl) (by kernel_rfl) (fun _ _ _ h=>h) (Or.inr ⟨by rfl,rfl⟩) (by assumption) ?_
  try simp only[Act.put,List.setIfInBounds_toArray,List.set_cons_zero,List.set_cons_succ]
  refine wpAnyH_take (i:=6) (v:=undef) (opAt rfl) (by kernel_rfl) (by kernel_rfl) (by kernel_rfl) (fun _ _ _ h=>h) (Or.inr ⟨by rfl,rfl⟩) (by assumption) ?_
  try simp only[Act.put,List.setIfInBounds_toArray,List.set_cons_zero,List.set_cons_succ]
  refine wpAnyH_take (i:=7) (v:=undef) (opAt rfl) (by kernel_rfl) (by kernel_rfl) (by kernel_rfl) (fun _ _ _ h=>h) (Or.inr ⟨by rfl,rfl⟩) (by assumption) ?_
  try simp only[Act.put,List.setIfInBounds_toArray,List.set_cons_zero,List.set_cons_succ]
  refine wpAnyH_take (i:=8) (v:=undef) (opAt rfl) (by kernel_rfl) (by kernel_rfl) (by kernel_rfl) (fun _ _ _ h=>h) (Or.inr ⟨by rfl,rfl⟩) (by assumption) ?_
  try simp only[Act.put,List.setIfInBounds_toArray,List.set_cons_zero,List.set_cons_succ]
  refine wpAnyH_take (i:=9) (v:=undef) (opAt rfl) (by kernel_rfl) (by kernel_rfl) (by kernel_rfl) (fun _ _ _ h=>h) (Or.inr ⟨by rfl,rfl⟩) (by assumption) ?_
  try simp only[Act.put,List.setIfInBounds_toArray,List.set_cons_zero,List.set_cons_succ]
  refine wpAnyH_take (i:=10) (v:=undef) (opAt rfl) (by kernel_rfl) (by kernel_rfl) (by kernel_rfl) (fun _ _ _ h=>h) (Or.inr ⟨by rfl,rfl⟩) (by assumption) ?_
  try simp only[Act.put,List.setIfInBounds_toArray,List.set_cons_zero,List.set_cons_succ]
  refine wpAnyH_take (i:=11) (v:=undef) (opAt rfl) (by kernel_rfl) (by kernel_rfl) (by kernel_rfl) (fun _ _ _ h=>h) (Or.inr ⟨by rfl,rfl⟩) (by assumption) ?_
  try simp only[Act.put,List.setIfInBounds_toArray,List.set_cons_zero,List.set_cons_succ]
  refine wpAnyH_take (i:=12) (v:=undef) (opAt rfl) (by kernel_rfl) (by kernel_rfl) (by kernel_rfl) (fun _ _ _ h=>h) (Or.inr ⟨by rfl,rfl⟩) (by assumption) ?_
  try simp only[Act.put,List.setIfInBounds_toArray,List.set_cons_zero,List.set_cons_succ]
  refine wpAnyH_take (i:=13) (v:=undef) (opAt rfl) (by kernel_rfl) (by kernel_rfl) (by kernel_rfl) (fun _ _ _ h=>h) (Or.inr ⟨by rfl,rfl⟩) (by assumption) ?_
  try simp only[Act.put,List.setIfInBounds_toArray,List.set_cons_zero,List.set_cons_succ]
  refine wpAnyH_take (i:=14) (v:=undef) (opAt rfl) (by kernel_rfl) (by kernel_rfl) (by kernel_rfl) (fun _ _ _ h=>h) (Or.inr ⟨by rfl,rfl⟩) (by assumption) ?_
  try simp only[Act.put,List.setIfInBounds_toArray,List.set_cons_zero,List.set_cons_succ]
  refine wpAnyH_take (i:=15) (v:=undef) (opAt rfl) (by kernel_rfl) (by kernel_rfl) (by kernel_rfl) (fun _ _ _ h=>h) (Or.inr ⟨by rfl,rfl⟩) (by assumption) ?_
  try simp only[Act.put,List.setIfInBounds_toArray,List.set_cons_zero,List.set_cons_succ]
  refine wpAnyH_take (i:=16) (v:=undef) (opAt rfl) (by kernel_rfl) (by kernel_rfl) (by kernel_rfl) (fun _ _ _ h=>h) (Or.inr ⟨by rfl,rfl⟩) (by assumption) ?_
  try simp only[Act.put,List.setIfInBounds_toArray,List.set_cons_zero,List.set_cons_succ]
  refine wpAnyH_take (i:=17) (v:=?_) (opAt rfl) (by kernel_rfl) (by kernel_rfl) (by kernel_rfl) (fun _ _ _ h=>h) (Or.inl ⟨by rfl,?_⟩) (by assumption) ?_
  rotate_left
  ·intro w' hSw;(try dsimp only at hSw);go_simp;(try with_reducible rfl)
  try simp only[Act.put,List.setIfInBounds_toArray,List.set_cons_zero,List.set_cons_succ]
  refine wpAnyH_ready (rs:=[18]) (by kernel_rfl) (by simp) ?_
  refine AllReadyH.cons (opAt rfl) (fun K hK=>?_) AllReadyH.nil
  go_simp
  go_at_call 38;((with_reducible refine(zaG _ _ _).mono ?_);rintro e wk ⟨rfl,rfl⟩)
  (try go_wp2_with fail)
  refine hK.out _ _ (HC.out _ hp.out) (fun hHeld2=>?_)
  clear hK K hHeld
  have hHeld:=hHeld2
  clear hHeld2
  try simp only[Act.put,List.setIfInBounds_toArray,List.set_cons_zero,List.set_cons_succ]
  refine wpAnyH_take (i:=19) (v:=?_) (opAt rfl) (by kernel_rfl) (by kernel_rfl) (by kernel_rfl) (fun _ _ _ h=>h) (Or.inl ⟨by rfl,?_⟩) (by assumption) ?_
  rotate_left
  ·intro w' hSw;(try dsimp only at hSw);go_simp;(try with_reducible rfl)
  try simp only[Act.put,List.setIfInBounds_toArray,List.set_cons_zero,List.set_cons_succ]
  refine wpAnyH_done (by kernel_rfl) ?_ _
  refine NoPanic.normal ?_
  go_wp2
  go_ret
  exact⟨by rw[HV.out];rfl,hp.out⟩
 ·have e1:((k:Int)==(l.length:Int) - 1)=false:=by simp;omega
  by_cases hpe:pn=S.en
  ·have HV:Hid (call2 l S=0):=hid (by unfold call2;rw[hk2,hgd,if_neg (by omega)])
   have e2:((pn:Int) != (S.en:Int))=false:=by simp;omega
   have e3:(pn != S.en)=false:=by simp;omega
   clear hpe
   clear hp0 hin hib hx hs hrow hgd hpn hkl r0 r1 r2 r3 s0 s1 s2 s3 s4 s5 s6 x0 x1 i0
   go_enter Tryz.func193,Tryz.ntmps193
   go_wp2
   refine wp_region_noPanic ?_
   refine wp_region_held_drew (S:=fun w'=>w'.cell? ⟨bi,0,none⟩=some (.int .i64 k)∧w'.cell? ⟨bx,0,none⟩=some (.slice (some ⟨kb,ko,none⟩) l.length c)∧w'.cell? ⟨bx,1,none⟩=some (.map (some mb))∧w'.cell? ⟨kb,ko+k*4+1,none⟩=some (.slice l[k].pa pn l[k].pc)∧w'.cell? ⟨bs,4,none⟩=some (.slice S.ea S.en S.ec)) (by kernel_rfl) ?_ (fun hHeld=>?_)
   ·with_reducible exact HC.out _ hp.out
   refine wpAnyH_take (i:=0) (v:=?_) (opAt rfl) (by kernel_rfl) (by kernel_rfl) (by kernel_rfl) (fun _ _ _ h=>h) (Or.inl ⟨by rfl,?_⟩) (by assumption) ?_
   rotate_left
   ·intro w' hSw;(try dsimp only at hSw);go_simp;(try with_reducible rfl)
   try simp only[Act.put,List.setIfInBounds_toArray,List.set_cons_zero,List.set_cons_succ]
   refine wpAnyH_take (i:=1) (v:=?_) (opAt rfl) (by kernel_rfl) (by kernel_rfl) (by kernel_rfl) (fun _ _ _ h=>h) (Or.inl ⟨by rfl,?_⟩) (by assumption) ?_
   rotate_left
   ·intro w' hSw;(try dsimp only at hSw);go_simp;(try with_reducible rfl)
   try simp only[Act.put,List.setIfInBounds_toArray,List.set_cons_zero,List.set_cons_succ]
   refine wpAnyH_ready (rs:=[2]) (by kernel_rfl) (by simp) ?_
   refine AllReadyH.cons (opAt rfl) (fun K hK=>?_) AllReadyH.nil
   go_simp
   go_at_call 95;((with_reducible refine(HL.out _).mono ?_);rintro e wk ⟨rfl,hb⟩);have hq:=hid (hp.out.on hb);clear hp hb;have hp:=hq;clear hq
   (try go_wp2_with fail)
   refine hK.out _ _ (HC.out _ hp.out) (fun hHeld2=>?_)
   clear hK K hHeld
   have hHeld:=hHeld2
   clear hHeld2
   try simp only[Act.put,List.setIfInBounds_toArray,List.set_cons_zero,List.set_cons_succ]
   refine wpAnyH_take (i:=3) (v:=?_) (opAt rfl) (by kernel_rfl) (by kernel_rfl) (by kernel_rfl) (fun _ _ _ h=>h) (Or.inl ⟨by rfl,?_⟩) (by assumption) ?_
   rotate_left
   ·intro w' hSw;(try dsimp only at hSw);go_simp;(try with_reducible rfl)
   try simp only[Act.put,List.setIfInBounds_toArray,List.set_cons_zero,List.set_cons_succ]
   refine wpAnyH_take (i:=4) (v:=?_) (opAt rfl) (by kernel_rfl) (by kernel_rfl) (by kernel_rfl) (fun _ _ _ h=>h) (Or.inl ⟨by rfl,?_⟩) (by assumption) ?_
   rotate_left
   ·intro w' hSw;(try dsimp only at hSw);go_simp;(try with_reducible rfl)
   try simp only[Act.put,List.setIfInBounds_toArray,List.set_cons_zero,List.set_cons_succ]
   refine wpAnyH_take (i:=5) (v:=?_) (opAt rfl) (by kernel_rfl) (by kernel_rfl) (by kernel_rfl) (fun _ _ _ h=>h) (Or.inl ⟨by rfl,?_⟩) (by assumption) ?_
   rotate_left
   ·intro w' hSw;(try dsimp only at hSw);go_simp;(try with_reducible rfl)
   try simp only[Act.put,List.setIfInBounds_toArray,List.set_cons_zero,List.set_cons_succ]
   refine wpAnyH_take (i:=6) (v:=?_) (opAt rfl) (by kernel_rfl) (by kernel_rfl) (by kernel_rfl) (fun _ _ _ h=>h) (Or.inl ⟨by rfl,?_⟩) (by assumption) ?_
   rotate_left
   ·intro w' hSw;(try dsimp only at hSw);go_simp;(try with_reducible rfl)
   try simp only[Act.put,List.setIfInBounds_toArray,List.set_cons_zero,List.set_cons_succ]
   refine wpAnyH_take (i:=7) (v:=?_) (opAt rfl) (by kernel_rfl) (by kernel_rfl) (by kernel_rfl) (fun _ _ _ h=>h) (Or.inl ⟨by rfl,?_⟩) (by assumption) ?_
   rotate_left
   ·intro w' hSw;(try dsimp only at hSw);go_simp;(try with_reducible rfl)
   try simp only[Act.put,List.setIfInBounds_toArray,List.set_cons_zero,List.set_cons_succ]
   refine wpAnyH_take (i:=8) (v:=?_) (opAt rfl) (by kernel_rfl) (by kernel_rfl) (by kernel_rfl) (fun _ _ _ h=>h) (Or.inl ⟨by rfl,?_⟩) (by assumption) ?_
   rotate_left
   ·intro w' hSw;(try dsimp only at hSw);go_simp;(try with_reducible rfl)
   try simp only[Act.put,List.setIfInBounds_toArray,List.set_cons_zero,List.set_cons_succ]
   refine wpAnyH_take (i:=9) (v:=?_) (opAt rfl) (by kernel_rfl) (by kernel_rfl) (by kernel_rfl) (fun _ _ _ h=>h) (Or.inl ⟨by rfl,?_⟩) (by assumption) ?_
   rotate_left
   ·intro w' hSw;(try dsimp only at hSw);go_simp;(try with_reducible rfl)
   try simp only[Act.put,List.setIfInBounds_toArray,List.set_cons_zero,List.set_cons_succ]
   refine wpAnyH_take (i:=10) (v:=?_) (opAt rfl) (by kernel_rfl) (by kernel_rfl) (by kernel_rfl) (fun _ _ _ h=>h) (Or.inl ⟨by rfl,?_⟩) (by assumption) ?_
   rotate_left
   ·intro w' hSw;(try dsimp only at hSw);go_simp;(try with_reducible rfl)
   try simp only[Act.put,List.setIfInBounds_toArray,List.set_cons_zero,List.set_cons_succ]
   refine wpAnyH_take (i:=11) (v:=?_) (opAt rfl) (by kernel_rfl) (by kernel_rfl) (by kernel_rfl) (fun _ _ _ h=>h) (Or.inl ⟨by rfl,?_⟩) (by assumption) ?_
   rotate_left
   ·intro w' hSw;(try dsimp only at hSw);go_simp;(try with_reducible rfl)
   try simp only[Act.put,List.setIfInBounds_toArray,List.set_cons_zero,List.set_cons_succ]
   refine wpAnyH_take (i:=12) (v:=?_) (opAt rfl) (by kernel_rfl) (by kernel_rfl) (by kernel_rfl) (fun _ _ _ h=>h) (Or.inl ⟨by rfl,?_⟩) (by assumption) ?_
   rotate_left
   ·intro w' hSw;(try dsimp only at hSw);go_simp;(try with_reducible rfl)
   try simp only[Act.put,List.setIfInBounds_toArray,List.set_cons_zero,List.set_cons_succ]
   refine wpAnyH_take (i:=13) (v:=?_) (opAt rfl) (by kernel_rfl) (by kernel_rfl) (by kernel_rfl) (fun _ _ _ h=>h) (Or.inl ⟨by rfl,?_⟩) (by assumption) ?_
   rotate_left
   ·intro w' hSw;(try dsimp only at hSw);go_simp;(try with_reducible rfl)
   try simp only[Act.put,List.setIfInBounds_toArray,List.set_cons_zero,List.set_cons_succ]
   refine wpAnyH_take (i:=14) (v:=?_) (opAt rfl) (by kernel_rfl) (by kernel_rfl) (by kernel_rfl) (fun _ _ _ h=>h) (Or.inl ⟨by rfl,?_⟩) (by assumption) ?_
   rotate_left
   ·intro w' hSw;(try dsimp only at hSw);go_simp;(try with_reducible rfl)
   try simp only[Act.put,List.setIfInBounds_toArray,List.set_cons_zero,List.set_cons_succ]
   refine wpAnyH_take (i:=15) (v:=?_) (opAt rfl) (by kernel_rfl) (by kernel_rfl) (by kernel_rfl) (fun _ _ _ h=>h) (Or.inl ⟨by rfl,?_⟩) (by assumption) ?_
   rotate_left
   ·intro w' hSw;(try dsimp only at hSw);go_simp;(try with_reducible rfl)
   try simp only[Act.put,List.setIfInBounds_toArray,List.set_cons_zero,List.set_cons_succ]
   refine wpAnyH_take (i:=16) (v:=?_) (opAt rfl) (by kernel_rfl) (by kernel_rfl) (by kernel_rfl) (fun _ _ _ h=>h) (Or.inl ⟨by rfl,?_⟩) (by assumption) ?_
   rotate_left
   ·intro w' hSw;(try dsimp only at hSw);go_simp;(try with_reducible rfl)
   try simp only[Act.put,List.setIfInBounds_toArray,List.set_cons_zero,List.set_cons_succ]
   refine wpAnyH_take (i:=17) (v:=?_) (opAt rfl) (by kernel_rfl) (by kernel_rfl) (by kernel_rfl) (fun _ _ _ h=>h) (Or.inl ⟨by rfl,?_⟩) (by assumption) ?_
   rotate_left
   ·intro w' hSw;(try dsimp only at hSw);go_simp;(try with_reducible rfl)
   try simp only[Act.put,List.setIfInBounds_toArray,List.set_cons_zero,List.set_cons_succ]
   refine wpAnyH_ready (rs:=[18]) (by kernel_rfl) (by simp) ?_
   refine AllReadyH.cons (opAt rfl) (fun K hK=>?_) AllReadyH.nil
   go_simp
   go_at_call 38;((with_reducible refine(zaG _ _ _).mono ?_);rintro e wk ⟨rfl,rfl⟩)
   (try go_wp2_with fail)
   refine hK.out _ _ (HC.out _ hp.out) (fun hHeld2=>?_)
   clear hK K hHeld
   have hHeld:=hHeld2
   clear hHeld2
   try simp only[Act.put,List.setIfInBounds_toArray,List.set_cons_zero,List.set_cons_succ]
   refine wpAnyH_take (i:=19) (v:=?_) (opAt rfl) (by kernel_rfl) (by kernel_rfl) (by kernel_rfl) (fun _ _ _ h=>h) (Or.inl ⟨by rfl,?_⟩) (by assumption) ?_
   rotate_left
   ·intro w' hSw;(try dsimp only at hSw);go_simp;(try with_reducible rfl)
   try simp only[Act.put,List.setIfInBounds_toArray,List.set_cons_zero,List.set_cons_succ]
   refine wpAnyH_done (by kernel_rfl) ?_ _
   refine NoPanic.normal ?_
   go_wp2
   go_ret
   exact⟨by rw[HV.out];rfl,hp.out⟩
  ·have HV:Hid (call2 l S=10):=hid (by unfold call2;rw[hk2,hgd,if_pos (Or.inr hpe)])
   have e2:((pn:Int) != (S.en:Int))=true:=by simp;omega
   have e3:(pn != S.en)=true:=by simpa using hpe
   clear hpe
   clear hp0 hin hib hx hs hrow hgd hpn hkl r0 r1 r2 r3 s0 s1 s2 s3 s4 s5 s6 x0 x1 i0
   go_enter Tryz.func193,Tryz.ntmps193
   go_wp2
   refine wp_region_noPanic ?_
   refine wp_region_held_drew (S:=fun w'=>w'.cell? ⟨bi,0,none⟩=some (.int .i64 k)∧w'.cell? ⟨bx,0,none⟩=some (.slice (some ⟨kb,ko,none⟩) l.length c)∧w'.cell? ⟨bx,1,none⟩=some (.map (some mb))∧w'.cell? ⟨kb,ko+k*4+1,none⟩=some (.slice l[k].pa pn l[k].pc)∧w'.cell? ⟨bs,4,none⟩=some (.slice S.ea S.en S.ec)) (by kernel_rfl) ?_ (fun hHeld=>?_)
   ·with_reducible exact HC.out _ hp.out
   refine wpAnyH_take (i:=0) (v:=?_) (opAt rfl) (by kernel_rfl) (by kernel_rfl) (by kernel_rfl) (fun _ _ _ h=>h) (Or.inl ⟨by rfl,?_⟩) (by assumption) ?_
   rotate_left
   ·intro w' hSw;(try dsimp only at hSw);go_simp;(try with_reducible rfl)
   try simp only[Act.put,List.setIfInBounds_toArray,List.set_cons_zero,List.set_cons_succ]
   refine wpAnyH_take (i:=1) (v:=?_) (opAt rfl) (by kernel_rfl) (by kernel_rfl) (by kernel_rfl) (fun _ _ _ h=>h) (Or.inl ⟨by rfl,?_⟩) (by assumption) ?_
   rotate_left
   ·intro w' hSw;(try dsimp only at hSw);go_simp;(try with_reducible rfl)
   try simp only[Act.put,List.setIfInBounds_toArray,List.set_cons_zero,List.set_cons_succ]
   refine wpAnyH_ready (rs:=[2]) (by kernel_rfl) (by simp) ?_
   refine AllReadyH.cons (opAt rfl) (fun K hK=>?_) AllReadyH.nil
   go_simp
   go_at_call 95;((with_reducible refine(HL.out _).mono ?_);rintro e wk ⟨rfl,hb⟩);have hq:=hid (hp.out.on hb);clear hp hb;have hp:=hq;clear hq
   (try go_wp2_with fail)
   refine hK.out _ _ (HC.out _ hp.out) (fun hHeld2=>?_)
   clear hK K hHeld
   have hHeld:=hHeld2
   clear hHeld2
   try simp only[Act.put,List.setIfInBounds_toArray,List.set_cons_zero,List.set_cons_succ]
   refine wpAnyH_take (i:=3) (v:=?_) (opAt rfl) (by kernel_rfl) (by kernel_rfl) (by kernel_rfl) (fun _ _ _ h=>h) (Or.inl ⟨by rfl,?_⟩) (by assumption) ?_
   rotate_left
   ·intro w' hSw;(try dsimp only at hSw);go_simp;(try with_reducible rfl)
   try simp only[Act.put,List.setIfInBounds_toArray,List.set_cons_zero,List.set_cons_succ]
   refine wpAnyH_take (i:=4) (v:=?_) (opAt rfl) (by kernel_rfl) (by kernel_rfl) (by kernel_rfl) (fun _ _ _ h=>h) (Or.inl ⟨by rfl,?_⟩) (by assumption) ?_
   rotate_left
   ·intro w' hSw;(try dsimp only at hSw);go_simp;(try with_reducible rfl)
   try simp only[Act.put,List.setIfInBounds_toArray,List.set_cons_zero,List.set_cons_succ]
   refine wpAnyH_take (i:=5) (v:=?_) (opAt rfl) (by kernel_rfl) (by kernel_rfl) (by kernel_rfl) (fun _ _ _ h=>h) (Or.inl ⟨by rfl,?_⟩) (by assumption) ?_
   rotate_left
   ·intro w' hSw;(try dsimp only at hSw);go_simp;(try with_reducible rfl)
   try simp only[Act.put,List.setIfInBounds_toArray,List.set_cons_zero,List.set_cons_succ]
   refine wpAnyH_take (i:=6) (v:=?_) (opAt rfl) (by kernel_rfl) (by kernel_rfl) (by kernel_rfl) (fun _ _ _ h=>h) (Or.inl ⟨by rfl,?_⟩) (by assumption) ?_
   rotate_left
   ·intro w' hSw;(try dsimp only at hSw);go_simp;(try with_reducible rfl)
   try simp only[Act.put,List.setIfInBounds_toArray,List.set_cons_zero,List.set_cons_succ]
   refine wpAnyH_take (i:=7) (v:=?_) (opAt rfl) (by kernel_rfl) (by kernel_rfl) (by kernel_rfl) (fun _ _ _ h=>h) (Or.inl ⟨by rfl,?_⟩) (by assumption) ?_
   rotate_left
   ·intro w' hSw;(try dsimp only at hSw);go_simp;(try with_reducible rfl)
   try simp only[Act.put,List.setIfInBounds_toArray,List.set_cons_zero,List.set_cons_succ]
   refine wpAnyH_take (i:=8) (v:=?_) (opAt rfl) (by kernel_rfl) (by kernel_rfl) (by kernel_rfl) (fun _ _ _ h=>h) (Or.inl ⟨by rfl,?_⟩) (by assumption) ?_
   rotate_left
   ·intro w' hSw;(try dsimp only at hSw);go_simp;(try with_reducible rfl)
   try simp only[Act.put,List.setIfInBounds_toArray,List.set_cons_zero,List.set_cons_succ]
   refine wpAnyH_take (i:=9) (v:=?_) (opAt rfl) (by kernel_rfl) (by kernel_rfl) (by kernel_rfl) (fun _ _ _ h=>h) (Or.inl ⟨by rfl,?_⟩) (by assumption) ?_
   rotate_left
   ·intro w' hSw;(try dsimp only at hSw);go_simp;(try with_reducible rfl)
   try simp only[Act.put,List.setIfInBounds_toArray,List.set_cons_zero,List.set_cons_succ]
   refine wpAnyH_take (i:=10) (v:=?_) (opAt rfl) (by kernel_rfl) (by kernel_rfl) (by kernel_rfl) (fun _ _ _ h=>h) (Or.inl ⟨by rfl,?_⟩) (by assumption) ?_
   rotate_left
   ·intro w' hSw;(try dsimp only at hSw);go_simp;(try with_reducible rfl)
   try simp only[Act.put,List.setIfInBounds_toArray,List.set_cons_zero,List.set_cons_succ]
   refine wpAnyH_take (i:=11) (v:=?_) (opAt rfl) (by kernel_rfl) (by kernel_rfl) (by kernel_rfl) (fun _ _ _ h=>h) (Or.inl ⟨by rfl,?_⟩) (by assumption) ?_
   rotate_left
   ·intro w' hSw;(try dsimp only at hSw);go_simp;(try with_reducible rfl)
   try simp only[Act.put,List.setIfInBounds_toArray,List.set_cons_zero,List.set_cons_succ]
   refine wpAnyH_take (i:=12) (v:=?_) (opAt rfl) (by kernel_rfl) (by kernel_rfl) (by kernel_rfl) (fun _ _ _ h=>h) (Or.inl ⟨by rfl,?_⟩) (by assumption) ?_
   rotate_left
   ·intro w' hSw;(try dsimp only at hSw);go_simp;(try with_reducible rfl)
   try simp only[Act.put,List.setIfInBounds_toArray,List.set_cons_zero,List.set_cons_succ]
   refine wpAnyH_take (i:=13) (v:=?_) (opAt rfl) (by kernel_rfl) (by kernel_rfl) (by kernel_rfl) (fun _ _ _ h=>h) (Or.inl ⟨by rfl,?_⟩) (by assumption) ?_
   rotate_left
   ·intro w' hSw;(try dsimp only at hSw);go_simp;(try with_reducible rfl)
   try simp only[Act.put,List.setIfInBounds_toArray,List.set_cons_zero,List.set_cons_succ]
   refine wpAnyH_take (i:=14) (v:=?_) (opAt rfl) (by kernel_rfl) (by kernel_rfl) (by kernel_rfl) (fun _ _ _ h=>h) (Or.inl ⟨by rfl,?_⟩) (by assumption) ?_
   rotate_left
   ·intro w' hSw;(try dsimp only at hSw);go_simp;(try with_reducible rfl)
   try simp only[Act.put,List.setIfInBounds_toArray,List.set_cons_zero,List.set_cons_succ]
   refine wpAnyH_take (i:=15) (v:=?_) (opAt rfl) (by kernel_rfl) (by kernel_rfl) (by kernel_rfl) (fun _ _ _ h=>h) (Or.inl ⟨by rfl,?_⟩) (by assumption) ?_
   rotate_left
   ·intro w' hSw;(try dsimp only at hSw);go_simp;(try with_reducible rfl)
   try simp only[Act.put,List.setIfInBounds_toArray,List.set_cons_zero,List.set_cons_succ]
   refine wpAnyH_take (i:=16) (v:=?_) (opAt rfl) (by kernel_rfl) (by kernel_rfl) (by kernel_rfl) (fun _ _ _ h=>h) (Or.inl ⟨by rfl,?_⟩) (by assumption) ?_
   rotate_left
   ·intro w' hSw;(try dsimp only at hSw);go_simp;(try with_reducible rfl)
   try simp only[Act.put,List.setIfInBounds_toArray,List.set_cons_zero,List.set_cons_succ]
   refine wpAnyH_take (i:=17) (v:=?_) (opAt rfl) (by kernel_rfl) (by kernel_rfl) (by kernel_rfl) (fun _ _ _ h=>h) (Or.inl ⟨by rfl,?_⟩) (by assumption) ?_
   rotate_left
   ·intro w' hSw;(try dsimp only at hSw);go_simp;(try with_reducible rfl)
   try simp only[Act.put,List.setIfInBounds_toArray,List.set_cons_zero,List.set_cons_succ]
   refine wpAnyH_ready (rs:=[18]) (by kernel_rfl) (by simp) ?_
   refine AllReadyH.cons (opAt rfl) (fun K hK=>?_) AllReadyH.nil
   go_simp
   go_at_call 38;((with_reducible refine(zaG _ _ _).mono ?_);rintro e wk ⟨rfl,rfl⟩)
   (try go_wp2_with fail)
   refine hK.out _ _ (HC.out _ hp.out) (fun hHeld2=>?_)
   clear hK K hHeld
   have hHeld:=hHeld2
   clear hHeld2
   try simp only[Act.put,List.setIfInBounds_toArray,List.set_cons_zero,List.set_cons_succ]
   refine wpAnyH_take (i:=19) (v:=?_) (opAt rfl) (by kernel_rfl) (by kernel_rfl) (by kernel_rfl) (fun _ _ _ h=>h) (Or.inl ⟨by rfl,?_⟩) (by assumption) ?_
   rotate_left
   ·intro w' hSw;(try dsimp only at hSw);go_simp;(try with_reducible rfl)
   try simp only[Act.put,List.setIfInBounds_toArray,List.set_cons_zero,List.set_cons_succ]
   refine wpAnyH_done (by kernel_rfl) ?_ _
   refine NoPanic.normal ?_
   go_wp2
   go_ret
   exact⟨by rw[HV.out];rfl,hp.out⟩
end Go.Proofs.YtljbbhhiiiepcaaGreatDoor.Ck
