/- What is asked of the last function. -/
import Derived.Test.YtljbbhhiiiepcaaGreatDoorKLists
import Derived.Test.YtljbbhhiiiepcaaGreatDoorKStmt3
import Derived.Test.YtljbbhhiiiepcaaGreatDoorTPutP2
import Derived.Test.YtljbbhhiiiepcaaGreatDoorKNamed
import Derived.Maps.AppendAt
set_option linter.unusedSimpArgs false
set_option linter.unusedVariables false
set_option maxHeartbeats 8000000
set_option maxRecDepth 100000
namespace Go.Proofs.YtljbbhhiiiepcaaGreatDoor.Ck
open Go Go.RowKit Go.Proofs.YtljbbhhiiiepcaaGreatDoor
open Go.Lib (hid)
theorem clone_any {w0:World} {a:Option Addr} {L:List ByteArray} (hin:StrsIn w0 0 a L) (hl:L.length≤1000000000) (c:Nat) (w:World) (hp:Past w0 w):
  Calls Tryz.prog 138 #[.slice a L.length c] w fun e w'=>∃v',e=.returned v'∧w'.ownsRow w.heap.size 9 1 v' L.length (L.map Value.string)∧Below w.heap.size w w':=by
 rcases Nat.eq_zero_or_pos L.length with h0 | h0
 ·have hL:L=[]:=List.length_eq_zero_iff.1 h0
  subst hL
  cases a with
  | none=>exact(Tryz.slices_Clone_string_nil 0 c w).mono fun e w' h=>⟨_,h.1,by rw[h.2];exact World.ownsRow_nil _ _ _ _,by rw[h.2];exact Below.refl _ _⟩
  | some x=>exact(Tryz.slices_Clone_string_zero x c w).mono fun e w' ⟨v,h1,h2,_,h4⟩=>⟨v,h1,h2,h4⟩
 ·obtain⟨b,o,rfl,-,-⟩:=hin 0 h0
  have:=Tryz.slices_Clone_string b o L.length c L w (Nat.le_refl _) (by omega) (fun j hj=>strs_getD hin hp j hj)
  rw[List.take_length] at this
  exact this.mono fun e w' ⟨v,h1,h2,_,h4⟩=>⟨v,h1,h2,h4⟩
theorem declared_any {w0:World} {F:FT} (hin:F.In w0 0) (hsm:F.params.length≤1000000000∧F.vars.length≤1000000000) (w:World) (hp:Past w0 w):
  Calls Tryz.prog 99 #[.agg #[.string F.name,.slice F.pa F.params.length F.pc,.slice F.va F.vars.length F.vc,.slice F.ba F.body.length F.bc]] w fun e w'=>(∃a' c',e=.returned (.slice a' (zaV F).length c')∧(zaV F).length≤c'∧StrsIn w' 0 a' (zaV F))∧Below w.heap.size w w':=by
 obtain⟨ei,hi,hz0,hz1,hz2⟩:=info_parts str_info
 have HP:=hid hp
 have HI:=hid hin
 have HC:=hid (fun(W:World) (hW:Past w0 W)=>clone_any hin.ps hsm.1 F.pc W hW)
 obtain⟨p,hpl⟩:∃p,F.params.length=p:=⟨_,rfl⟩
 have HPL:=hid hpl
 rw[hpl] at HC hsm ⊢
 clear hp hin hpl
 go_enter Tryz.func99,Tryz.ntmps99
 go_wp2_with (go_at_call 138;refine(HC.out _ ?_).mono ?_;(exact HP.out.alloc _);rintro e w1 ⟨v1,rfl,ho1,hb1⟩;have c2:=zab (k:=2) (bl hb1 (nb _ rfl)) rfl;have hl2:=zcR (bl hb1 (nb _ rfl));have HO1:Hid (w1.ownsRow w.heap.size 9 1 v1 p (F.params.map Value.string)):=hid (by obtain⟨h1,h2⟩:=ho1;refine⟨h1,?_⟩;rcases h2 with h2 | ⟨g,cap,cur,e1,e2,e3⟩;(exact Or.inl h2);(exact Or.inr ⟨g,cap,cur,e1,by simp at e2;omega,e3⟩));have HB1:Hid (Below w.heap.size w w1):=hid (zal (bal (bre w) _) hb1);clear ho1 hb1)
 go_loopw [3,5,12] (fun v _ i wr=>∃n:Nat,n≤F.vars.length∧i=.int .i64 n∧wr.ownsRow w.heap.size 9 1 v (p+n) (F.params.map Value.string++(F.vars.take n).map fun d=>.string d.1)∧Below w.heap.size w wr) (fun _ _ i _=>F.vars.length - (intOf i).toNat)
 case atStart=>exact⟨0,Nat.zero_le _,rfl,by rw[List.take_zero];simpa using HO1.out,HB1.out⟩
 case round =>
  obtain⟨n,hn,rfl,ho,hb⟩:=hrel
  have HB:=hid hb
  have HO:=hid ho
  clear hb ho
  by_cases hlt:n < F.vars.length
  ·have hrow:=HI.out.vs n hlt
   have hrow':=hrow
   obtain⟨kb,ko,rr,-⟩:=hrow'
   rw[rr] at hrow ⊢
   obtain⟨r0,r1,hkb⟩:=zcO hrow (HP.out.on HB.out)
   have HT:Hid ((F.vars.take (n+1)).map (fun d=>Value.string d.1)=(F.vars.take n).map (fun d=>Value.string d.1)++[.string F.vars[n].1]):=hid (by rw[List.take_succ_eq_append_getElem hlt,List.map_append];rfl)
   clear hrow rr
   go_wp2_with (at_builtin;refine wpList_append_own_at _ rfl _ _ 32 rfl w.heap.size 9 ei _ 1 16 Tryz.underlying32 hi hz0 hz1 hz2 rfl (by decide) _ (p+n) _ rfl ((HO.out.alloc _).alloc _) ⟨wr.heap.size+1,0,none⟩ 1 1 [.string F.vars[n].1] rfl rfl (fun j u hj=>by match j,hj with | 0,hj=>(simp at hj;subst hj;simp[Addr.add]) | j+1,hj=>simp at hj) (by simp[Value.oneCell']) (by unfold maxLen;omega) (by omega) (by have:=HB.out.size;simp;omega) ?_;intro v' w3 hown hgrow hnil hat;have HO3:=hid hown;have HG3:=hid hgrow;clear hown hgrow hnil hat)
   go_roundw
   case rel=>exact⟨n+1,by omega,by go_num,by rw[HT.out,←List.append_assoc];exact HO3.out,Below.grown (bal (bal HB.out _) _) HG3.out (by have:=HB.out.size;simp;omega) (fun k hk=>(HO.out.lt k hk).1)⟩
   case measure=>simp[intOf];omega
  ·obtain rfl:n=F.vars.length:=by omega
   go_wp2
   go_ret
   refine⟨?_,HB.out⟩
   have h:=HO.out
   rw[List.take_length,show F.params.map Value.string++F.vars.map (fun d=>Value.string d.1)=(zaV F).map Value.string by unfold zaV;rw[List.map_append,List.map_map];rfl,show p+F.vars.length=(zaV F).length by unfold zaV;rw[List.length_append,List.length_map,HPL.out]] at h
   obtain⟨a',c',hv,hc,hs⟩:=own_strs h
   exact⟨a',c',by rw[←hv];rfl,hc,hs⟩
def e5 (b:Bool):Nat:=if b then 5 else 0
def e6 (b:Bool):Nat:=if b then 6 else 0
theorem fn1_any {w0:World} {F:FT} (hin:F.In w0 0) (hsm:F.params.length≤1000000000∧F.vars.length≤1000000000) (bf:Nat) (w:World) (hp:Past w0 w) (hf:FBox w bf F):
  Calls Tryz.prog 96 #[.pointer (some ⟨bf,0,none⟩)] w fun e w'=>e=.returned (.int .i64 (e5 (zcS F):Nat))∧Below w.heap.size w w':=by
 have HX:=hid (large_any hin hsm w hp)
 obtain⟨f0,f1,f2,f3,hlf⟩:=fcells hf
 clear hp hin hf
 obtain⟨q,hq⟩:∃q,zcS F=q:=⟨_,rfl⟩
 rw[hq] at HX ⊢
 clear hq
 cases q
 all_goals
  go_enter Tryz.func96,Tryz.ntmps96
  go_wp2_with (first | (go_at_call 38;refine(zaF _ _ _).mono ?_;rintro e w' ⟨rfl,rfl⟩) | (go_at_call 97;have hx:=HX.out;refine hx.mono ?_;clear hx;rintro e w1 ⟨rfl,hb1⟩;have HB1:=hid hb1;clear hb1))
  go_ret
  exact⟨rfl,HB1.out⟩
theorem fn2_any {w0:World} {F:FT} (hin:F.In w0 0) (hsm:F.params.length≤1000000000∧F.vars.length≤1000000000) (bf:Nat) (w:World) (hp:Past w0 w) (hf:FBox w bf F):
  Calls Tryz.prog 98 #[.pointer (some ⟨bf,0,none⟩)] w fun e w'=>e=.returned (.int .i64 (e6 (repB (zaV F)):Nat))∧Below w.heap.size w w':=by
 have HX:=hid (declared_any hin hsm w hp)
 have HDL:Hid ((zaV F).length≤9223372036854775807):=hid (by unfold zaV;rw[List.length_append,List.length_map];omega)
 obtain⟨f0,f1,f2,f3,hlf⟩:=fcells hf
 clear hp hin hf
 obtain⟨q,hq⟩:∃q,repB (zaV F)=q:=⟨_,rfl⟩
 have HQ:=hid hq
 rw[hq]
 clear hq
 cases q
 all_goals
  go_enter Tryz.func98,Tryz.ntmps98
  go_wp2_with (first | (go_at_call 38;refine(zaF _ _ _).mono ?_;rintro e w' ⟨rfl,rfl⟩) | (go_at_call 92;have hx:=HR.out;refine hx.mono ?_;clear hx;rintro e w2 ⟨rfl,hb2⟩;have HB2:=hid (zal HB1.out hb2);clear hb2) | (go_at_call 99;have hx:=HX.out;refine hx.mono ?_;clear hx;rintro e w1 ⟨⟨a1,c1,rfl,hc1,hs1⟩,hb1⟩;have hr:=repeats_any (w0:=w1) hs1 HDL.out c1 hc1 w1 (Below.refl _ _);rw[HQ.out] at hr;have HR:=hid hr;have HB1:=hid hb1;clear hb1 hs1 hc1 hr))
  go_ret
  exact⟨rfl,HB2.out⟩
theorem asker_any {w0:World} {a:Option Addr} {l:List FT} (hin:FsIn w0 0 a l) (c mb i:Nat) (hi:i < l.length) (w:World) (hp:Past w0 w):
  Calls Tryz.prog 102 #[.agg #[.slice a l.length c,.map (some mb)],.int .i64 i] w fun e w'=>e=.returned (askV w.heap.size (w.heap.size+1) (w.heap.size+2))∧Below w.heap.size w w'∧XBox w' w.heap.size a l.length c mb∧Box w' (w.heap.size+1) (.int .i64 i) 3∧FBox w' (w.heap.size+2) l[i]:=by
 have hrow:=hin.row i hi
 obtain⟨kb,ko,rfl,-⟩:=hrow
 have hrow:=hin.row i hi
 rw[F.cells_is] at hrow
 obtain⟨r0,r1,r2,r3,hkb⟩:=zbf hrow hp
 have hn:=hin.len
 clear hrow hp hin
 go_enter Tryz.func102,Tryz.ntmps102
 go_wp2
 go_ret
 exact⟨rfl,bal (bal (bal (bre w) _) _) _,ob _ (ob _ (nb _ rfl)),ob _ (nb _ (by simp)),nb _ (by simp)⟩
theorem fn3_any {w0:World} {a:Option Addr} {l:List FT} (hin:FsIn w0 0 a l) (c mb i bx bi bf:Nat) (hi:i < l.length) (hm:w0.heap.size≤mb) (nx:bx≠mb) (ni:bi≠mb) (nf:bf≠mb) (seen:List Int) (hl:seen.length+cnts l[i].body≤1000000) (w:World) (hp0:Past w0 w) (hx:XBox w bx a l.length c mb) (hib:Box w bi (.int .i64 i) 3) (hf:FBox w bf l[i]) (hT0:Tg mb w seen):
  Calls Tryz.prog 100 #[.pointer (some ⟨bf,0,none⟩),.pointer (some ⟨bx,0,none⟩),.pointer (some ⟨bi,0,none⟩)] w (Ans mb w (za3 l i l[i] false l[i].body seen)):=by
 obtain⟨f0,f1,f2,f3,hlf⟩:=fcells hf
 obtain⟨x0,x1,hlx⟩:=zdN hx
 have i0:=hib.c0
 have hli:=hib.lt
 have HC:Hid (∀W,Gr mb w W→(W.cell? ⟨bf,3,none⟩=some (.slice l[i].ba l[i].body.length l[i].bc)∧W.cell? ⟨bx,0,none⟩=some (.slice a l.length c)∧W.cell? ⟨bx,1,none⟩=some (.map (some mb))∧W.cell? ⟨bi,0,none⟩=some (.int .i64 i))):=hid (fun W hW=>⟨gr_cell hW nf f3,gr_cell hW nx x0,gr_cell hW nx x1,gr_cell hW ni i0⟩)
 have hAS:=fun(W:World) (hW:Gr mb w W)=>asker_any hin c mb i hi W (zcF hp0 hW hm)
 have HAS:=hid hAS
 have HM:=hid hm
 have HP:=hid hp0
 have HLT:=hid hT0.lt
 have hFX:∀b1 b2 b3:Nat,b1≠mb→b2≠mb→b3≠mb→Fix w0 a l c mb i b1 b2 b3 l[i]:=fun b1 b2 b3 h1 h2 h3=>⟨h1,h2,h3,hm,hin,hin.fs i hi,hi⟩
 have HFIX:=hid hFX
 have hST:=fun(b1 b2 b3:Nat) (X:Fix w0 a l c mb i b1 b2 b3 l[i]) (W:World) (hE:Env w0 a l c mb i b1 b2 b3 l[i] W) (hT:Tg mb W seen)=>stmts_any X _ l[i].ba l[i].bc l[i].body (Nat.lt_succ_self _) (hin.fs i hi).bl (hin.fs i hi).ss false seen W hl hE hT
 have HST:=hid hST
 have hp:Hid (Gr mb w w.drew):=hid (zdH ((Below.refl w.heap.size w).drew))
 have hT:Hid (Tg mb w.drew seen):=hid (hT0.on ((Below.refl w.heap.size w).drew))
 clear f0 f1 f2 f3 x0 x1 i0 hAS hFX hST hT0 hp0 hx hib hf hl hm hin nx ni nf
 go_enter Tryz.func100,Tryz.ntmps100
 go_wp2
 refine wp_region_noPanic ?_
 refine wp_region_held_drew (S:=fun w'=>w'.cell? ⟨bf,3,none⟩=some (.slice l[i].ba l[i].body.length l[i].bc)∧w'.cell? ⟨bx,0,none⟩=some (.slice a l.length c)∧w'.cell? ⟨bx,1,none⟩=some (.map (some mb))∧w'.cell? ⟨bi,0,none⟩=some (.int .i64 i)) (by kernel_rfl) ?_ (fun hHeld=>?_)
 ·with_reducible exact HC.out _ hp.out
 refine wpAnyH_take (i:=0) (v:=?_) (opAt rfl) (by kernel_rfl) (by kernel_rfl) (by kernel_rfl) (fun _ _ _ h=>h) (Or.inl ⟨by rfl,?_⟩) (by assumption) ?_
 rotate_left
 ·intro w' hSw;(try dsimp only at hSw);go_simp;(try with_reducible rfl)
 try simp only[Act.put,List.setIfInBounds_toArray,List.set_cons_zero,List.set_cons_succ]
 refine wpAnyH_take (i:=1) (v:=?_) (opAt rfl) (by kernel_rfl) (by kernel_rfl) (by kernel_rfl) (fun _ _ _ h=>h) (Or.inl ⟨by rfl,?_⟩) (by assumption) ?_
 rotate_left
 ·intro w' hSw;(try dsimp only at hSw);go_simp;(try with_reducible rfl)
 try simp only[Act.put,List.setIfInBounds_toArray,List.set_cons_zero,List.set_cons_succ]
 refine wpAnyH_take (i:=2) (v:=?_) (opAt rfl) (by kernel_rfl) (by kernel_rfl) (by kernel_rfl) (fun _ _ _ h=>h) (Or.inl ⟨by rfl,?_⟩) (by assumption) ?_
 rotate_left
 ·intro w' hSw;(try dsimp only at hSw);go_simp;(try with_reducible rfl)
 try simp only[Act.put,List.setIfInBounds_toArray,List.set_cons_zero,List.set_cons_succ]
 refine wpAnyH_take (i:=3) (v:=?_) (opAt rfl) (by kernel_rfl) (by kernel_rfl) (by kernel_rfl) (fun _ _ _ h=>h) (Or.inl ⟨by rfl,?_⟩) (by assumption) ?_
 rotate_left
 ·intro w' hSw;(try dsimp only at hSw);go_simp;(try with_reducible rfl)
 try simp only[Act.put,List.setIfInBounds_toArray,List.set_cons_zero,List.set_cons_succ]
 refine wpAnyH_ready (rs:=[4]) (by kernel_rfl) (by simp) ?_
 refine AllReadyH.cons (opAt rfl) (fun K hK=>?_) AllReadyH.nil
 go_simp
 go_at_call 102;((with_reducible refine(HAS.out _ hp.out).mono ?_);rintro e wk ⟨rfl,hb,hx1,hi1,hf1⟩);have HEV:=hid (And.intro hx1 (And.intro hi1 hf1));have hTk:=hid (hT.out.on hb);have HG1:=hid (gr_on hp.out hb);clear hp hT hb hx1 hi1 hf1;have hp:=HG1
 (try go_wp2_with fail)
 refine hK.out _ _ (HC.out _ hp.out) (fun hHeld2=>?_)
 clear hK K hHeld
 have hHeld:=hHeld2
 clear hHeld2
 try simp only[Act.put,List.setIfInBounds_toArray,List.set_cons_zero,List.set_cons_succ]
 refine wpAnyH_ready (rs:=[5]) (by kernel_rfl) (by simp) ?_
 refine AllReadyH.cons (opAt rfl) (fun K hK=>?_) AllReadyH.nil
 go_simp
 go_at_call 101;(refine(HST.out _ _ _ ?_ wk ?_ hTk.out).mono ?_);(exact HFIX.out _ _ _ (by have:=HLT.out;first | omega | (simp;omega)) (by have:=HLT.out;first | omega | (simp;omega)) (by have:=HLT.out;first | omega | (simp;omega)));(exact⟨zcF HP.out hp.out HM.out,HEV.out.1,HEV.out.2.1,HEV.out.2.2⟩);intro e wk2 hA;have HQ:=hid hA;(have hA2:=hA);(obtain⟨rfl,hg,-⟩:=hA2);have hq:=hid (zaz hp.out hg);clear hp hA hg;have hp:=hq;clear hq
 (try go_wp2_with fail)
 refine hK.out _ _ (HC.out _ hp.out) (fun hHeld2=>?_)
 clear hK K hHeld
 have hHeld:=hHeld2
 clear hHeld2
 try simp only[Act.put,List.setIfInBounds_toArray,List.set_cons_zero,List.set_cons_succ]
 refine wpAnyH_take (i:=6) (v:=?_) (opAt rfl) (by kernel_rfl) (by kernel_rfl) (by kernel_rfl) (fun _ _ _ h=>h) (Or.inl ⟨by rfl,?_⟩) (by assumption) ?_
 rotate_left
 ·intro w' hSw;(try dsimp only at hSw);go_simp;(try with_reducible rfl)
 try simp only[Act.put,List.setIfInBounds_toArray,List.set_cons_zero,List.set_cons_succ]
 refine wpAnyH_done (by kernel_rfl) ?_ _
 refine NoPanic.normal ?_
 go_wp2
 go_ret
 exact HQ.out.re HG1.out rfl rfl (fun _=>rfl)
theorem fn_code (l:List FT) (i:Nat) (F:FT) (seen:List Int) (r:Nat×List Int) (h:za3 l i F false F.body seen=r):(fnF l i F seen).1=zau (cd [e5 (zcS F),e6 (repB (zaV F)),r.1]) 3∧((fnF l i F seen).1=0→(fnF l i F seen).2=r.2):=by
 show _=orE (orE (orE 0 (e5 (zcS F))) (e6 (repB (zaV F)))) r.1∧_
 unfold fnF
 cases zcS F
 ·cases repB (zaV F)
  ·simp[h,orE,e5,e6]
  ·simp[orE,e5,e6]
 ·simp[orE,e5,e6]
theorem zb1 {w0:World} {a:Option Addr} {l:List FT} (hin:FsIn w0 0 a l) (c mb i:Nat) (hi:i < l.length) (hm:w0.heap.size≤mb) (hsm:l[i].params.length≤1000000000∧l[i].vars.length≤1000000000) (seen:List Int) (hl:seen.length+cnts l[i].body≤1000000) (w:World) (hp:Past w0 w) (hT0:Tg mb w seen):
  Calls Tryz.prog 59 #[.agg #[.slice a l.length c,.map (some mb)],.int .i64 i] w (Ans mb w (fnF l i l[i] seen)):=by
 obtain⟨r,hr⟩:∃r,za3 l i l[i] false l[i].body seen=r:=⟨_,rfl⟩
 have HV:=hid (fn_code l i l[i] seen r hr)
 have h3:=fun(b1 b2 b3:Nat) (n1:b1≠mb) (n2:b2≠mb) (n3:b3≠mb)=>fn3_any hin c mb i b1 b2 b3 hi hm n1 n2 n3 seen hl
 rw[hr] at h3
 have H3:=hid h3
 have HI:=hid hin
 have HP:=hid hp
 have HT:=hid hT0
 have HM:=hid hm
 have hrow:=hin.row i hi
 obtain⟨kb,ko,rfl,-⟩:=hrow
 have hrow:=hin.row i hi
 rw[F.cells_is] at hrow
 obtain⟨r0,r1,r2,r3,hkb⟩:=zbf hrow hp
 have hn:=hin.len
 clear hrow hp hin hT0 hm hl hr h3
 go_enter Tryz.func59,Tryz.ntmps59
 go_wp2_with (go_at_call 35;refine(zcT mb [(96,#[.pointer (some ⟨w.heap.size+2,0,none⟩)]),(98,#[.pointer (some ⟨w.heap.size+2,0,none⟩)]),(100,#[.pointer (some ⟨w.heap.size+2,0,none⟩),.pointer (some ⟨w.heap.size,0,none⟩),.pointer (some ⟨w.heap.size+1,0,none⟩)])] (cd [e5 (zcS l[i]),e6 (repB (zaV l[i])),r.1]) (stl [seen,seen,seen,r.2]) _ _ (by show 3≤100;decide) ?_ ?_ ?_ ?_ ?_).mono ?_;(have:=HT.out.lt;simp;omega);(intro k h;match k,h with | 0,_=>exact enters_of Tryz.func96 (by kernel_rfl) rfl | 1,_=>exact enters_of Tryz.func98 (by kernel_rfl) rfl | 2,_=>exact enters_of Tryz.func100 (by kernel_rfl) rfl | k+3,h=>exact absurd h (by simp));(intro k h;match k,h with | 0,_=>(refine zab (nb _ (by simp)) ?_;rfl) | 1,_=>(refine zab (nb _ (by simp)) ?_;rfl) | 2,_=>(refine zab (nb _ (by simp)) ?_;rfl) | k+3,h=>exact absurd h (by simp));(intro k h W hz hW hT;match k,h with | 0,_=>exact(fn1_any (HI.out.fs i hi) hsm _ W (zcF ((((HP.out.alloc _).alloc _).alloc _).alloc _) hW HM.out) (zaq hW (by have:=HT.out.lt;omega) (ob _ (nb _ (by simp))))).mono fun e w' h=>hT.quiet h | 1,_=>exact(fn2_any (HI.out.fs i hi) hsm _ W (zcF ((((HP.out.alloc _).alloc _).alloc _).alloc _) hW HM.out) (zaq hW (by have:=HT.out.lt;omega) (ob _ (nb _ (by simp))))).mono fun e w' h=>hT.quiet h | 2,_=>exact H3.out _ _ _ (by have:=HT.out.lt;omega) (by have:=HT.out.lt;omega) (by have:=HT.out.lt;omega) W (zcF ((((HP.out.alloc _).alloc _).alloc _).alloc _) hW HM.out) (zaq hW (by have:=HT.out.lt;omega) (ob _ (ob _ (ob _ (nb _ rfl))))) (zaq hW (by have:=HT.out.lt;omega) (ob _ (ob _ (nb _ (by simp))))) (zaq hW (by have:=HT.out.lt;omega) (ob _ (nb _ (by simp)))) hT | k+3,h=>exact absurd h (by simp));(exact(((HT.out.alloc _).alloc _).alloc _).alloc _);intro e w2 hA;have HQ:=hid hA;obtain⟨rfl,-⟩:=hA)
 go_ret
 exact HQ.out.re (zai (zai (zai (zai (zaB _ _) _) _) _) _) rfl HV.out.1 HV.out.2
end Go.Proofs.YtljbbhhiiiepcaaGreatDoor.Ck

namespace Go.Proofs.YtljbbhhiiiepcaaGreatDoor.Ck
open Go Go.RowKit Go.Proofs.YtljbbhhiiiepcaaGreatDoor
open Go.Lib (hid)
def e4 (F:FT):Nat:=if F.name.data.toList=[109,97,105,110]∧F.params.length=0 then 0 else 10
theorem whole4_any {w0:World} {a:Option Addr} {l:List FT} (hin:FsIn w0 0 a l) (c mb bx bo k:Nat) (hk:k+1=l.length) (w:World) (hp0:Past w0 w) (hx:XBox w bx a l.length c mb) (hb:Box w bo (.slice a l.length c) 22) (hkk:k < l.length):
  Calls Tryz.prog 94 #[.pointer (some ⟨bo,0,none⟩),.pointer (some ⟨bx,0,none⟩)] w fun e w'=>e=.returned (.int .i64 (e4 l[k]:Nat))∧Below w.heap.size w w':=by
 obtain⟨x0,x1,hlx⟩:=zdN hx
 have b0:=hb.c0
 have hlb:=hb.lt
 have hrow:=hin.row k hkk
 obtain⟨kb,ko,rfl,-⟩:=hrow
 have hrow:=hin.row k hkk
 rw[F.cells_is] at hrow
 obtain⟨r0,r1,r2,r3,hkb⟩:=zbf hrow hp0
 have hn:=hin.len
 have el:(l.length:Int) - 1=(k:Int):=by omega
 have hLL:=fun W=>last_any (some ⟨kb,ko,none⟩) l.length c mb hn W
 rw[el] at hLL
 have HL:=hid hLL
 have HC:Hid (∀W,Below w.heap.size w W→(W.cell? ⟨bo,0,none⟩=some (.slice (some ⟨kb,ko,none⟩) l.length c)∧W.cell? ⟨bx,0,none⟩=some (.slice (some ⟨kb,ko,none⟩) l.length c)∧W.cell? ⟨bx,1,none⟩=some (.map (some mb))∧W.cell? ⟨kb,ko+k*4,none⟩=some (.string l[k].name)∧W.cell? ⟨kb,ko+k*4+1,none⟩=some (.slice l[k].pa l[k].params.length l[k].pc)∧W.cell? ⟨kb,ko+k*4+2,none⟩=some (.slice l[k].va l[k].vars.length l[k].vc)∧W.cell? ⟨kb,ko+k*4+3,none⟩=some (.slice l[k].ba l[k].body.length l[k].bc))):=hid (fun W hb=>⟨(hb.cell (p:=⟨bo,0,none⟩) hlb).trans b0,(hb.cell (p:=⟨bx,0,none⟩) hlx).trans x0,(hb.cell (p:=⟨bx,1,none⟩) hlx).trans x1,(hb.cell (p:=⟨kb,ko+k*4,none⟩) hkb).trans r0,(hb.cell (p:=⟨kb,ko+k*4+1,none⟩) hkb).trans r1,(hb.cell (p:=⟨kb,ko+k*4+2,none⟩) hkb).trans r2,(hb.cell (p:=⟨kb,ko+k*4+3,none⟩) hkb).trans r3⟩)
 have hp:Hid (Below w.heap.size w w.drew):=hid ((Below.refl w.heap.size w).drew)
 clear hLL hrow hp0 hin hx hb r0 r1 r2 r3 x0 x1 b0
 go_enter Tryz.func94,Tryz.ntmps94
 go_wp2
 refine wp_region_noPanic ?_
 refine wp_region_held_drew (S:=fun w'=>w'.cell? ⟨bo,0,none⟩=some (.slice (some ⟨kb,ko,none⟩) l.length c)∧w'.cell? ⟨bx,0,none⟩=some (.slice (some ⟨kb,ko,none⟩) l.length c)∧w'.cell? ⟨bx,1,none⟩=some (.map (some mb))∧w'.cell? ⟨kb,ko+k*4,none⟩=some (.string l[k].name)∧w'.cell? ⟨kb,ko+k*4+1,none⟩=some (.slice l[k].pa l[k].params.length l[k].pc)∧w'.cell? ⟨kb,ko+k*4+2,none⟩=some (.slice l[k].va l[k].vars.length l[k].vc)∧w'.cell? ⟨kb,ko+k*4+3,none⟩=some (.slice l[k].ba l[k].body.length l[k].bc)) (by kernel_rfl) ?_ (fun hHeld=>?_)
 ·with_reducible exact HC.out _ hp.out
 refine wpAnyH_take (i:=0) (v:=?_) (opAt rfl) (by kernel_rfl) (by kernel_rfl) (by kernel_rfl) (fun _ _ _ h=>h) (Or.inl ⟨by rfl,?_⟩) (by assumption) ?_
 rotate_left
 ·intro w' hSw;(try dsimp only at hSw);go_simp;(try with_reducible rfl)
 try simp only[Act.put,List.setIfInBounds_toArray,List.set_cons_zero,List.set_cons_succ]
 refine wpAnyH_take (i:=1) (v:=?_) (opAt rfl) (by kernel_rfl) (by kernel_rfl) (by kernel_rfl) (fun _ _ _ h=>h) (Or.inl ⟨by rfl,?_⟩) (by assumption) ?_
 rotate_left
 ·intro w' hSw;(try dsimp only at hSw);go_simp;(try with_reducible rfl)
 try simp only[Act.put,List.setIfInBounds_toArray,List.set_cons_zero,List.set_cons_succ]
 refine wpAnyH_ready (rs:=[2,5]) (by kernel_rfl) (by simp) ?_
 refine AllReadyH.cons (opAt rfl) (fun K hK=>?_) (AllReadyH.cons (opAt rfl) (fun K hK=>?_) AllReadyH.nil)
 ·go_simp
  go_at_call 95;((with_reducible refine(HL.out _).mono ?_);rintro e wk ⟨rfl,hb⟩)
  have hq:=hid (zal hp.out hb)
  clear hp hb
  have hp:=hq
  clear hq
  (try go_wp2_with fail)
  refine hK.out _ _ (HC.out _ hp.out) (fun hHeld2=>?_)
  clear hK K hHeld
  have hHeld:=hHeld2
  clear hHeld2
  try simp only[Act.put,List.setIfInBounds_toArray,List.set_cons_zero,List.set_cons_succ]
  refine wpAnyH_take (i:=3) (v:=?_) (opAt rfl) (by kernel_rfl) (by kernel_rfl) (by kernel_rfl) (fun _ _ _ h=>h) (Or.inl ⟨by rfl,?_⟩) (by assumption) ?_
  rotate_left
  ·intro w' hSw;(try dsimp only at hSw);go_simp;(try with_reducible rfl)
  try simp only[Act.put,List.setIfInBounds_toArray,List.set_cons_zero,List.set_cons_succ]
  refine wpAnyH_take (i:=4) (v:=?_) (opAt rfl) (by kernel_rfl) (by kernel_rfl) (by kernel_rfl) (fun _ _ _ h=>h) (Or.inl ⟨by rfl,?_⟩) (by assumption) ?_
  rotate_left
  ·intro w' hSw;(try dsimp only at hSw);go_simp;(try with_reducible rfl)
  try simp only[Act.put,List.setIfInBounds_toArray,List.set_cons_zero,List.set_cons_succ]
  refine wpAnyH_ready (rs:=[5]) (by kernel_rfl) (by simp) ?_
  refine AllReadyH.cons (opAt rfl) (fun K hK=>?_) AllReadyH.nil
  go_simp
  have HK1:=hp
  have hq:=hid (bal hp.out (.cells #[.string {data:=#[]},.slice none 0 0,.slice none 0 0,.slice none 0 0] 47))
  clear hp
  have hp:=hq
  clear hq
  refine hK.out _ _ (HC.out _ hp.out) (fun hHeld2=>?_)
  clear hK K hHeld
  have hHeld:=hHeld2
  clear hHeld2
  try simp only[Act.put,List.setIfInBounds_toArray,List.set_cons_zero,List.set_cons_succ]
  refine wpAnyH_ready (rs:=[6]) (by kernel_rfl) (by simp) ?_
  refine AllReadyH.cons (opAt rfl) (fun K hK=>?_) AllReadyH.nil
  go_simp
  have hq:=hid (bal HK1.out (.cells #[.string l[k].name,.slice l[k].pa l[k].params.length l[k].pc,.slice l[k].va l[k].vars.length l[k].vc,.slice l[k].ba l[k].body.length l[k].bc] 47))
  clear hp
  have hp:=hq
  clear hq
  refine hK.out _ _ (HC.out _ hp.out) (fun hHeld2=>?_)
  clear hK K hHeld
  have hHeld:=hHeld2
  clear hHeld2
  try simp only[Act.put,List.setIfInBounds_toArray,List.set_cons_zero,List.set_cons_succ]
  refine wpAnyH_done (by kernel_rfl) ?_ _
  refine NoPanic.normal ?_
  by_cases hnm:l[k].name.data.toList=[109,97,105,110]
  ·have e1:l[k].name.toList=[109,97,105,110]:=by rw[ByteArray.toList_eq];exact hnm
   by_cases hpl:l[k].params.length=0
   ·have HV:Hid (e4 l[k]=0):=hid (by unfold e4;rw[if_pos ⟨hnm,hpl⟩])
    have e2:decide (0 < (l[k].params.length:Int))=false:=decide_eq_false (by omega)
    have e3:decide (0 < l[k].params.length)=false:=decide_eq_false (by omega)
    clear hnm hpl
    go_wp2_with (go_at_call 38;refine(zaF _ _ _).mono ?_;rintro e w' ⟨rfl,rfl⟩)
    go_ret
    exact⟨by rw[HV.out];rfl,hp.out⟩
   ·have HV:Hid (e4 l[k]=10):=hid (by unfold e4;rw[if_neg (fun h=>hpl h.2)])
    have e2:decide (0 < (l[k].params.length:Int))=true:=decide_eq_true (by omega)
    have e3:decide (0 < l[k].params.length)=true:=decide_eq_true (by omega)
    clear hnm hpl
    go_wp2_with (go_at_call 38;refine(zaF _ _ _).mono ?_;rintro e w' ⟨rfl,rfl⟩)
    go_ret
    exact⟨by rw[HV.out];rfl,hp.out⟩
  ·have HV:Hid (e4 l[k]=10):=hid (by unfold e4;rw[if_neg (fun h=>hnm h.1)])
   have e1:(l[k].name.toList==[109,97,105,110])=false:=by rw[ByteArray.toList_eq];simpa using hnm
   clear hnm
   go_wp2_with (go_at_call 38;refine(zaF _ _ _).mono ?_;rintro e w' ⟨rfl,rfl⟩)
   go_ret
   exact⟨by rw[HV.out];rfl,hp.out⟩
 ·go_simp
  have hq:=hid (bal hp.out (.cells #[.string {data:=#[]},.slice none 0 0,.slice none 0 0,.slice none 0 0] 47))
  clear hp
  have hp:=hq
  clear hq
  refine hK.out _ _ (HC.out _ hp.out) (fun hHeld2=>?_)
  clear hK K hHeld
  have hHeld:=hHeld2
  clear hHeld2
  try simp only[Act.put,List.setIfInBounds_toArray,List.set_cons_zero,List.set_cons_succ]
  refine wpAnyH_ready (rs:=[2]) (by kernel_rfl) (by simp) ?_
  refine AllReadyH.cons (opAt rfl) (fun K hK=>?_) AllReadyH.nil
  go_simp
  go_at_call 95;((with_reducible refine(HL.out _).mono ?_);rintro e wk ⟨rfl,hb⟩)
  have hq:=hid (zal hp.out hb)
  have hX:=bl hb (nb (.cells #[.string {data:=#[]},.slice none 0 0,.slice none 0 0,.slice none 0 0] 47) rfl)
  clear hp hb
  have hp:=hq
  clear hq
  (try go_wp2_with fail)
  have HX:=hid hX
  clear hX
  refine hK.out _ _ (HC.out _ hp.out) (fun hHeld2=>?_)
  clear hK K hHeld
  have hHeld:=hHeld2
  clear hHeld2
  try simp only[Act.put,List.setIfInBounds_toArray,List.set_cons_zero,List.set_cons_succ]
  refine wpAnyH_take (i:=3) (v:=?_) (opAt rfl) (by kernel_rfl) (by kernel_rfl) (by kernel_rfl) (fun _ _ _ h=>h) (Or.inl ⟨by rfl,?_⟩) (by assumption) ?_
  rotate_left
  ·intro w' hSw;(try dsimp only at hSw);go_simp;(try with_reducible rfl)
  try simp only[Act.put,List.setIfInBounds_toArray,List.set_cons_zero,List.set_cons_succ]
  refine wpAnyH_take (i:=4) (v:=?_) (opAt rfl) (by kernel_rfl) (by kernel_rfl) (by kernel_rfl) (fun _ _ _ h=>h) (Or.inl ⟨by rfl,?_⟩) (by assumption) ?_
  rotate_left
  ·intro w' hSw;(try dsimp only at hSw);go_simp;(try with_reducible rfl)
  try simp only[Act.put,List.setIfInBounds_toArray,List.set_cons_zero,List.set_cons_succ]
  refine wpAnyH_ready (rs:=[6]) (by kernel_rfl) (by simp) ?_
  refine AllReadyH.cons (opAt rfl) (fun K hK=>?_) AllReadyH.nil
  have z0:=zab (k:=0) HX.out rfl
  have z1:=zab (k:=1) HX.out rfl
  have z2:=zab (k:=2) HX.out rfl
  have z3:=zab (k:=3) HX.out rfl
  have y:=fun k=>zac (k:=k) HX.out
  go_simp
  have hq:=hid ((((hp.out.setCell (p:=⟨w.heap.size,0,none⟩) (Nat.le_refl _) (.string l[k].name)).setCell (p:=⟨w.heap.size,1,none⟩) (Nat.le_refl _) (.slice l[k].pa l[k].params.length l[k].pc)).setCell (p:=⟨w.heap.size,2,none⟩) (Nat.le_refl _) (.slice l[k].va l[k].vars.length l[k].vc)).setCell (p:=⟨w.heap.size,3,none⟩) (Nat.le_refl _) (.slice l[k].ba l[k].body.length l[k].bc))
  have hx4:=zaG (k:=3) (.slice l[k].ba l[k].body.length l[k].bc) (zaG (k:=2) (.slice l[k].va l[k].vars.length l[k].vc) (zaG (k:=1) (.slice l[k].pa l[k].params.length l[k].pc) (zaG (k:=0) (.string l[k].name) HX.out)))
  have d0:=zab (k:=0) hx4 rfl
  have d1:=zab (k:=1) hx4 rfl
  have dl:=zcR hx4
  clear hp z0 z1 z2 z3 y hx4
  have hp:=hq
  clear hq
  refine hK.out _ _ (HC.out _ hp.out) (fun hHeld2=>?_)
  clear hK K hHeld
  have hHeld:=hHeld2
  clear hHeld2
  try simp only[Act.put,List.setIfInBounds_toArray,List.set_cons_zero,List.set_cons_succ]
  refine wpAnyH_done (by kernel_rfl) ?_ _
  refine NoPanic.normal ?_
  by_cases hnm:l[k].name.data.toList=[109,97,105,110]
  ·have e1:l[k].name.toList=[109,97,105,110]:=by rw[ByteArray.toList_eq];exact hnm
   by_cases hpl:l[k].params.length=0
   ·have HV:Hid (e4 l[k]=0):=hid (by unfold e4;rw[if_pos ⟨hnm,hpl⟩])
    have e2:decide (0 < (l[k].params.length:Int))=false:=decide_eq_false (by omega)
    have e3:decide (0 < l[k].params.length)=false:=decide_eq_false (by omega)
    clear hnm hpl
    go_wp2_with (go_at_call 38;refine(zaF _ _ _).mono ?_;rintro e w' ⟨rfl,rfl⟩)
    go_ret
    exact⟨by rw[HV.out];rfl,hp.out⟩
   ·have HV:Hid (e4 l[k]=10):=hid (by unfold e4;rw[if_neg (fun h=>hpl h.2)])
    have e2:decide (0 < (l[k].params.length:Int))=true:=decide_eq_true (by omega)
    have e3:decide (0 < l[k].params.length)=true:=decide_eq_true (by omega)
    clear hnm hpl
    go_wp2_with (go_at_call 38;refine(zaF _ _ _).mono ?_;rintro e w' ⟨rfl,rfl⟩)
    go_ret
    exact⟨by rw[HV.out];rfl,hp.out⟩
  ·have HV:Hid (e4 l[k]=10):=hid (by unfold e4;rw[if_neg (fun h=>hnm h.1)])
   have e1:(l[k].name.toList==[109,97,105,110])=false:=by rw[ByteArray.toList_eq];simpa using hnm
   clear hnm
   go_wp2_with (go_at_call 38;refine(zaF _ _ _).mono ?_;rintro e w' ⟨rfl,rfl⟩)
   go_ret
   exact⟨by rw[HV.out];rfl,hp.out⟩
end Go.Proofs.YtljbbhhiiiepcaaGreatDoor.Ck
