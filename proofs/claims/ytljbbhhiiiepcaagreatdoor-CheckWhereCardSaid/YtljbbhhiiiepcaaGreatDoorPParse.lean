/- read, whole, for programs. -/
import Derived.Test.YtljbbhhiiiepcaaGreatDoorPText
import Derived.Test.YtljbbhhiiiepcaaGreatDoorPRead
import Derived.Test.YtljbbhhiiiepcaaGreatDoorPStE
set_option linter.unusedSimpArgs false
set_option linter.unusedVariables false
set_option maxHeartbeats 8000000
set_option maxRecDepth 100000
namespace Go.Proofs.YtljbbhhiiiepcaaGreatDoor.Pm
open Go Go.RowKit Go.Proofs.YtljbbhhiiiepcaaGreatDoor
open Go.Lib (hid)
theorem CFs.on {P:Nat→Prop} {r:List RF} {v:Value} {A A':Nat} {w1 w2:World} (h:CFs r v A w1) (hk:KeptP P w1 w2) (hP:∀b,A≤b→¬P b) (hA:A'≤A):CFs r v A' w2:=by
 obtain⟨a,c,l,e,h1,h2,h3,h4⟩:=h
 exact⟨a,c,l,e,h1,h2,(h3.keep fun p u hp hc=>hk.cell (hP _ hp) hc).mono hA,h4⟩
abbrev zP:Value:=.agg #[.slice none 0 0]
abbrev oP:Obj:=.cells #[.slice none 0 0] 24
section
variable {F:PC} {B f:Nat} {s:PS} {w W:World} {tmps:Array Value} {R ba be bp:Nat}
theorem outP {u0:Value} {k p n:Int} (h4:tmps[4]?=some (.pointer (some ⟨R,0,none⟩))) (h5:tmps[5]?=some (.int .i64 k)) (h6:tmps[6]?=some (.pointer (some ⟨ba,0,none⟩))) (h7:tmps[7]?=some (.pointer (some ⟨be,0,none⟩)))
  (q0:W.heap[R]?=some (.cells #[u0] 24 (0,0))) (q1:W.heap[ba]?=some (.cells #[.int .i64 p] 3 (0,0))) (q2:W.heap[be]?=some (.cells #[.int .i64 n] 33 (0,0))):
  (results Tryz.f51 tmps).run Tryz.prog W=.ok (.tuple #[.agg #[u0],.int .i64 k,.int .i64 p,.int .i64 n]) W:=by
 have c0:=zab (k:=0) q0 rfl
 have ca:=zab (k:=0) q1 rfl
 have cb:=zab (k:=0) q2 rfl
 simp[results,Tryz.results51,go_sem, *]
theorem doorP_bad (h4:tmps[4]?=some (.pointer (some ⟨R,0,none⟩))) (h5:tmps[5]?=some (.int .i64 0)) (h6:tmps[6]?=some (.pointer (some ⟨ba,0,none⟩))) (h7:tmps[7]?=some (.pointer (some ⟨be,0,none⟩)))
  (h:Pa F B f s W) {x y:Int} {n:Nat} (q0:W.heap[R]?=some (.cells #[.slice none 0 0] 24 (0,0))) (q1:W.heap[ba]?=some (.cells #[.int .i64 x] 3 (0,0))) (q2:W.heap[be]?=some (.cells #[.int .i64 y] 33 (0,0))) (q3:W.heap[bp]?=some (.cells #[ptrP f] 110 (0,0)))
  (n1:R≠ba) (n2:R≠be) (n3:ba≠be) (b1:w.heap.size≤ba) (b2:w.heap.size≤be) (hb:Below w.heap.size w W) {l:List UInt8} {r:Ans (List RF)} (hr:r=.bad (place F.z s) n):
  Leaves Tryz.prog Tryz.f51 tmps (ReadPost CFs zP l r w) [{target:=.fn (.func 77) #[.pointer (some ⟨bp,0,none⟩),.pointer (some ⟨ba,0,none⟩),.pointer (some ⟨be,0,none⟩)],args:=#[]}] (.panicking [{v:=errV n,recovered:=false}]) W:=by
 refine leaves_cons (f:=77) (args:=#[.pointer (some ⟨bp,0,none⟩),.pointer (some ⟨ba,0,none⟩),.pointer (some ⟨be,0,none⟩)]) (by simp) (by simp[go_sem]) ?_
 refine(catchP_bad h q3 q1 q2 n3 []).mono ?_
 rintro e u' w'' ⟨rfl,rfl,w1,hb1,rfl⟩
 have e0:=(hb1.block R (lt_of_block q0)).trans q0
 have e1:=(hb1.block ba (lt_of_block q1)).trans q1
 have e2:=(hb1.block be (lt_of_block q2)).trans q2
 refine⟨_,outP h4 h5 h6 h7 ((Below.heap_setCell _ _ _ _ n2).trans ((Below.heap_setCell _ _ _ _ n1).trans e0)) ((Below.heap_setCell _ _ _ _ n3).trans (zaH _ e1)) (zaH _ ((Below.heap_setCell _ _ _ _ n3.symm).trans e2)),?_⟩
 subst hr
 exact⟨((hb.trans (hb1.mono hb.size)).setCell b1 _).setCell b2 _,rfl⟩
theorem doorP_ok {u0:Value} (h4:tmps[4]?=some (.pointer (some ⟨R,0,none⟩))) {k p:Nat} (h5:tmps[5]?=some (.int .i64 k)) (h6:tmps[6]?=some (.pointer (some ⟨ba,0,none⟩))) (h7:tmps[7]?=some (.pointer (some ⟨be,0,none⟩)))
  (q0:W.heap[R]?=some (.cells #[u0] 24 (0,0))) (q1:W.heap[ba]?=some (.cells #[.int .i64 p] 3 (0,0))) (q2:W.heap[be]?=some (.cells #[.int .i64 0] 33 (0,0)))
  (hb:Below w.heap.size w W) {l:List UInt8} {a:(List RF)} {r:Ans (List RF)} (hl:l.length=p) (hr:r=.ok a k) (hC:CFs a (.agg #[u0]) w.heap.size W):
  Leaves Tryz.prog Tryz.f51 tmps (ReadPost CFs zP l r w) [{target:=.fn (.func 77) #[.pointer (some ⟨bp,0,none⟩),.pointer (some ⟨ba,0,none⟩),.pointer (some ⟨be,0,none⟩)],args:=#[]}] .returning W:=by
 refine leaves_cons (f:=77) (args:=#[.pointer (some ⟨bp,0,none⟩),.pointer (some ⟨ba,0,none⟩),.pointer (some ⟨be,0,none⟩)]) (by simp) (by simp[go_sem]) ?_
 refine(catchP_idle bp ba be _).mono ?_
 rintro e u' w'' ⟨rfl,rfl,rfl⟩
 refine⟨_,outP h4 h5 h6 h7 q0 q1 q2,?_⟩
 subst hr
 subst hl
 exact⟨hb,_,rfl,hC⟩
theorem doorP_lex (h4:tmps[4]?=some (.pointer (some ⟨R,0,none⟩))) {p n:Nat} (h5:tmps[5]?=some (.int .i64 0)) (h6:tmps[6]?=some (.pointer (some ⟨ba,0,none⟩))) (h7:tmps[7]?=some (.pointer (some ⟨be,0,none⟩)))
  (q0:W.heap[R]?=some (.cells #[.slice none 0 0] 24 (0,0))) (q1:W.heap[ba]?=some (.cells #[.int .i64 p] 3 (0,0))) (q2:W.heap[be]?=some (.cells #[.int .i64 n] 33 (0,0)))
  (hb:Below w.heap.size w W) {l:List UInt8} {r:Ans (List RF)} (hr:r=.bad p n):
  Leaves Tryz.prog Tryz.f51 tmps (ReadPost CFs zP l r w) [] .returning W:=by
 refine⟨_,outP h4 h5 h6 h7 q0 q1 q2,?_⟩
 subst hr
 exact⟨hb,rfl⟩
end
section
variable {w:World}
theorem readP_lex (m:Nat) (sb:ByteArray) (hs:sb.size≤8192) (H:Lx.Errs w) {p:Nat} (hx:lexP 0 sb.data.toList=(none,p)):
  Calls Tryz.prog 51 #[.string sb,.func (.func 52) #[] #[]] w (ReadPost CFs zP sb.data.toList (zbM m sb.data.toList) w):=by
 have hmf:∀(fn:Fn) (first cap:Array Value) (w:World),(Instr.makeFunc fn first cap).run Tryz.prog w=.ok (.func fn first cap) w:=fun _ _ _ _=>rfl
 have HN:Hid (zbM m sb.data.toList=.bad p 2):=hid (by show zb9 m zbI _=_;unfold zb9;rw[hx])
 have HX:=hid hx
 have HE:=hid (H.on (show Lx.Past w (((w.alloc oP).alloc (.cells #[.int .i64 0] 3)).alloc (.cells #[.int .i64 0] 33)) from((((Below.refl _ _).alloc (Nat.le_refl _) _).alloc (by simp<;>omega) _).alloc (by simp<;>omega) _)))
 have HS:=hid hs
 clear H hx hs
 go_enter_defers Tryz.func51,Tryz.ntmps51
 go_upto_region 3 with (go_at_call 76;refine(Lx.all_any sb HS.out _ HE.out).mono ?_;intro e w1 hq;unfold Lx.AllPost at hq;rw[HX.out] at hq;obtain⟨hb,rfl⟩:=hq;have HB:=hid hb;have h1:=(hb.block (w.heap.size+1) (by simp<;>omega)).trans (zai _ (zao _ (by simp)));have h2:=(hb.block (w.heap.size+1+1) (by simp<;>omega)).trans (zao _ (by simp));have y1:=fun k=>zac (k:=k) h1;have y2:=fun k=>zac (k:=k) h2;have xa:=zab (k:=0) h1 rfl;have xb:=zab (k:=0) h2 rfl;have l2:=lt_of_block h2;clear hb h1 h2)
 have hb:=HB.out
 have g0:=(hb.block w.heap.size (by simp<;>omega)).trans (zai _ (zai _ (zaj w oP)))
 have g1:=(hb.block (w.heap.size+1) (by simp<;>omega)).trans (zai _ (zao (.cells #[.int .i64 0] 3) (by simp)))
 have g2:=(hb.block (w.heap.size+1+1) (by simp<;>omega)).trans (zao (.cells #[.int .i64 0] 33) (by simp))
 have hw:Below w.heap.size w w1:=(((((Below.refl _ _).alloc (Nat.le_refl _) _).alloc (by simp<;>omega) _).alloc (by simp<;>omega) _)).trans (hb.mono (by simp<;>omega))
 have hw2:=(hw.setCell (p:=⟨w.heap.size+1,0,none⟩) (Nat.le_succ _) (.int .i64 (p:Nat))).setCell (p:=⟨w.heap.size+1+1,0,none⟩) (by show w.heap.size≤w.heap.size+1+1;omega) (.int .i64 2)
 have n1:w.heap.size≠w.heap.size+1:=by omega
 have n2:w.heap.size≠w.heap.size+1+1:=by omega
 have n3:w.heap.size+1≠w.heap.size+1+1:=by omega
 have e0:=(Below.heap_setCell (w1.setCell ⟨w.heap.size+1,0,none⟩ (.int .i64 (p:Nat))) ⟨w.heap.size+1+1,0,none⟩ (.int .i64 2) w.heap.size n2).trans ((Below.heap_setCell w1 ⟨w.heap.size+1,0,none⟩ (.int .i64 (p:Nat)) w.heap.size n1).trans g0)
 have e1:=(Below.heap_setCell (w1.setCell ⟨w.heap.size+1,0,none⟩ (.int .i64 (p:Nat))) ⟨w.heap.size+1+1,0,none⟩ (.int .i64 2) (w.heap.size+1) n3).trans (zaH (k:=0) (.int .i64 (p:Nat)) g1)
 have e2:=zaH (k:=0) (.int .i64 2) ((Below.heap_setCell w1 ⟨w.heap.size+1,0,none⟩ (.int .i64 (p:Nat)) (w.heap.size+1+1) n3.symm).trans g2)
 clear y1 y2 xa xb l2 hb g0 g1 g2 hw HB HE
 generalize (w1.setCell ⟨w.heap.size+1,0,none⟩ (.int .i64 (p:Nat))).setCell ⟨w.heap.size+1+1,0,none⟩ (.int .i64 2)=w2 at hw2 e0 e1 e2 ⊢
 have E0:Hid (w2.heap[w.heap.size]?=some (.cells #[.slice none 0 0] 24 (0,0))):=hid e0
 have E1:Hid (w2.heap[w.heap.size+1]?=some (.cells #[.int .i64 (p:Nat)] 3 (0,0))):=hid e1
 have E2:Hid (w2.heap[w.heap.size+1+1]?=some (.cells #[.int .i64 2] 33 (0,0))):=hid e2
 have HW:=hid hw2
 have y0:=fun k=>zac (k:=k) E0.out
 have y1:=fun k=>zac (k:=k) E1.out
 have y2:=fun k=>zac (k:=k) E2.out
 have x0:=zab (k:=0) E0.out rfl
 have xa:=zab (k:=0) E1.out rfl
 have xb:=zab (k:=0) E2.out rfl
 clear e0 e1 e2 hw2 n1 n2 n3
 go_region
 go_wp2
 clear y0 y1 y2 xa xb x0
 have a0:(w2.setCell ⟨w.heap.size,0,none⟩ (.slice none 0 0)).heap[w.heap.size]?=some (.cells #[.slice none 0 0] 24 (0,0)):=zaH (k:=0) (.slice none 0 0) E0.out
 have n1:w.heap.size≠w.heap.size+1:=by omega
 have n2:w.heap.size≠w.heap.size+1+1:=by omega
 have n3:w.heap.size+1≠w.heap.size+1+1:=by omega
 have p0:=(Below.heap_setCell w2 ⟨w.heap.size,0,none⟩ (.slice none 0 0) _ n1.symm).trans E1.out
 have q0:=(Below.heap_setCell w2 ⟨w.heap.size,0,none⟩ (.slice none 0 0) _ n2.symm).trans E2.out
 have z0:(((w2.setCell ⟨w.heap.size,0,none⟩ (.slice none 0 0)).setCell ⟨w.heap.size+1,0,none⟩ (.int .i64 (p:Nat))).setCell ⟨w.heap.size+1+1,0,none⟩ (.int .i64 2)).heap[w.heap.size]?=some (.cells #[.slice none 0 0] 24 (0,0)):=(Below.heap_setCell ((w2.setCell ⟨w.heap.size,0,none⟩ (.slice none 0 0)).setCell ⟨w.heap.size+1,0,none⟩ (.int .i64 (p:Nat))) ⟨w.heap.size+1+1,0,none⟩ (.int .i64 2) w.heap.size n2).trans ((Below.heap_setCell (w2.setCell ⟨w.heap.size,0,none⟩ (.slice none 0 0)) ⟨w.heap.size+1,0,none⟩ (.int .i64 (p:Nat)) w.heap.size n1).trans a0)
 have z1:(((w2.setCell ⟨w.heap.size,0,none⟩ (.slice none 0 0)).setCell ⟨w.heap.size+1,0,none⟩ (.int .i64 (p:Nat))).setCell ⟨w.heap.size+1+1,0,none⟩ (.int .i64 2)).heap[w.heap.size+1]?=some (.cells #[.int .i64 (p:Nat)] 3 (0,0)):=(Below.heap_setCell ((w2.setCell ⟨w.heap.size,0,none⟩ (.slice none 0 0)).setCell ⟨w.heap.size+1,0,none⟩ (.int .i64 (p:Nat))) ⟨w.heap.size+1+1,0,none⟩ (.int .i64 2) (w.heap.size+1) n3).trans (zaH (k:=0) (.int .i64 (p:Nat)) p0)
 have z2:(((w2.setCell ⟨w.heap.size,0,none⟩ (.slice none 0 0)).setCell ⟨w.heap.size+1,0,none⟩ (.int .i64 (p:Nat))).setCell ⟨w.heap.size+1+1,0,none⟩ (.int .i64 2)).heap[w.heap.size+1+1]?=some (.cells #[.int .i64 2] 33 (0,0)):=zaH (k:=0) (.int .i64 2) ((Below.heap_setCell (w2.setCell ⟨w.heap.size,0,none⟩ (.slice none 0 0)) ⟨w.heap.size+1,0,none⟩ (.int .i64 (p:Nat)) (w.heap.size+1+1) n3.symm).trans q0)
 have zb:=(((HW.out.setCell (p:=⟨w.heap.size,0,none⟩) (Nat.le_refl _) (.slice none 0 0)).setCell (p:=⟨w.heap.size+1,0,none⟩) (Nat.le_succ _) (.int .i64 (p:Nat))).setCell (p:=⟨w.heap.size+1+1,0,none⟩) (by show w.heap.size≤w.heap.size+1+1;omega) (.int .i64 2)).drew
 exact doorP_lex (W:=(((w2.setCell ⟨w.heap.size,0,none⟩ (.slice none 0 0)).setCell ⟨w.heap.size+1,0,none⟩ (.int .i64 (p:Nat))).setCell ⟨w.heap.size+1+1,0,none⟩ (.int .i64 2)).drew) (n:=2) rfl rfl rfl rfl (bkD z0) (bkD z1) (bkD z2) zb HN.out
end
section
variable {w:World}
theorem readP_words (m:Nat) (sb:ByteArray) (hs:sb.size≤8192) (H:Lx.Errs w) {ts:List Tok} {qq:Nat} (hx:lexP 0 sb.data.toList=(some ts,qq)) (hfin:FinA m zbI sb.data.toList):
  Calls Tryz.prog 51 #[.string sb,.func (.func 52) #[] #[]] w (ReadPost CFs zP sb.data.toList (zbM m sb.data.toList) w):=by
 have hmf:∀(fn:Fn) (first cap:Array Value) (w:World),(Instr.makeFunc fn first cap).run Tryz.prog w=.ok (.func fn first cap) w:=fun _ _ _ _=>rfl
 have HX:=hid hx
 have HE:=hid (H.on (show Lx.Past w (((w.alloc oP).alloc (.cells #[.int .i64 0] 3)).alloc (.cells #[.int .i64 0] 33)) from((((Below.refl _ _).alloc (Nat.le_refl _) _).alloc (by simp<;>omega) _).alloc (by simp<;>omega) _)))
 have HS:=hid hs
 have hlm:=lex_many (l:=sb.data.toList) (by show sb.size≤100000;omega) hx
 have HGD:=hid hlm.1
 have HTM:Hid (ts.length≤100000):=hid (by have h1:=hlm.2.1;have h2:sb.data.toList.length=sb.size:=rfl;omega)
 have HFI0:Hid (Fin (zbI sb.size m ⟨ts,0,0,0⟩)):=hid ((hfin ts qq hx).fst)
 have HEQ:Hid (zbM m sb.data.toList=zb9 m zbI sb.data.toList):=hid rfl
 clear H hx hs hlm hfin
 go_enter_defers Tryz.func51,Tryz.ntmps51
 go_upto_region 4 with (go_at_call 76;refine(Lx.all_any sb HS.out _ HE.out).mono ?_;intro e w1 hq;unfold Lx.AllPost at hq;rw[HX.out] at hq;obtain⟨hb,v,rfl,ho⟩:=hq;obtain⟨wa,cap,hv,hrow⟩:=tok_rows ho;subst hv;have HROW:=hid hrow;have HB:=hid hb;have h1:=(hb.block (w.heap.size+1) (by simp<;>omega)).trans (zai _ (zao _ (by simp)));have h2:=(hb.block (w.heap.size+1+1) (by simp<;>omega)).trans (zao _ (by simp));have y1:=fun k=>zac (k:=k) h1;have y2:=fun k=>zac (k:=k) h2;have xa:=zab (k:=0) h1 rfl;have xb:=zab (k:=0) h2 rfl;have l2:=lt_of_block h2;clear hb h1 h2 ho hrow)
 have hb:=HB.out
 have hz1:=hb.size
 have n1:w.heap.size≠w.heap.size+1:=by omega
 have n2:w.heap.size≠w.heap.size+1+1:=by omega
 have n3:w.heap.size+1≠w.heap.size+1+1:=by omega
 have g0:=(hb.block (w.heap.size) (by simp<;>omega)).trans (zai _ (zai _ (zaj w oP)))
 have g1:=(hb.block (w.heap.size+1) (by simp<;>omega)).trans (zai _ (zao (.cells #[.int .i64 0] 3) (by simp)))
 have g2:=(hb.block (w.heap.size+1+1) (by simp<;>omega)).trans (zao (.cells #[.int .i64 0] 33) (by simp))
 have hw:Below w.heap.size w w1:=(((((Below.refl _ _).alloc (Nat.le_refl _) _).alloc (by simp<;>omega) _).alloc (by simp<;>omega) _)).trans (hb.mono (by simp<;>omega))
 have hw2:=(hw.setCell (p:=⟨w.heap.size+1,0,none⟩) (Nat.le_succ _) (.int .i64 (sb.size:Nat))).setCell (p:=⟨w.heap.size+1+1,0,none⟩) (by show w.heap.size≤w.heap.size+1+1;omega) (.int .i64 0)
 have e0:=(Below.heap_setCell (w1.setCell ⟨w.heap.size+1,0,none⟩ (.int .i64 (sb.size:Nat))) ⟨w.heap.size+1+1,0,none⟩ (.int .i64 0) (w.heap.size) n2).trans ((Below.heap_setCell w1 ⟨w.heap.size+1,0,none⟩ (.int .i64 (sb.size:Nat)) (w.heap.size) n1).trans g0)
 have e1:=(Below.heap_setCell (w1.setCell ⟨w.heap.size+1,0,none⟩ (.int .i64 (sb.size:Nat))) ⟨w.heap.size+1+1,0,none⟩ (.int .i64 0) (w.heap.size+1) n3).trans (zaH (k:=0) (.int .i64 (sb.size:Nat)) g1)
 have e2:=zaH (k:=0) (.int .i64 0) ((Below.heap_setCell w1 ⟨w.heap.size+1,0,none⟩ (.int .i64 (sb.size:Nat)) (w.heap.size+1+1) n3.symm).trans g2)
 have kw:=(((KeptP.refl (fun b=>b=w.heap.size+1∨b=w.heap.size+1+1) w1).set (b:=w.heap.size+1) (Or.inl rfl) 0 (.int .i64 (sb.size:Nat))).set (b:=w.heap.size+1+1) (Or.inr rfl) 0 (.int .i64 0))
 have hro:=zcR kw (A:=w.heap.size+1+1+1) (fun b hb e=>by omega) (Nat.zero_le _) (by have:=HROW.out;simpa using this)
 have hsz:w.heap.size+1+1+1≤((w1.setCell ⟨w.heap.size+1,0,none⟩ (.int .i64 (sb.size:Nat))).setCell ⟨w.heap.size+1+1,0,none⟩ (.int .i64 0)).heap.size:=by simp at hz1 ⊢;omega
 clear y1 y2 xa xb l2 hb g0 g1 g2 hw HB HE HROW kw hz1
 generalize (w1.setCell ⟨w.heap.size+1,0,none⟩ (.int .i64 (sb.size:Nat))).setCell ⟨w.heap.size+1+1,0,none⟩ (.int .i64 0)=w2 at hw2 e0 e1 e2 hro hsz ⊢
 have E0:Hid (w2.heap[w.heap.size]?=some (.cells #[.slice none 0 0] 24 (0,0))):=hid e0
 have E1:Hid (w2.heap[w.heap.size+1]?=some (.cells #[.int .i64 (sb.size:Nat)] 3 (0,0))):=hid e1
 have E2:Hid (w2.heap[w.heap.size+1+1]?=some (.cells #[.int .i64 0] 33 (0,0))):=hid e2
 have HSZ:=hid hsz
 have E0':=hid (zai (.cells #[.pointer (some ⟨w2.heap.size,0,none⟩)] 110) (zai (.cells #[.slice wa ts.length cap,.int .i64 0,.int .i64 (sb.size:Nat),.int .i64 0,.int .i64 0,.int .i64 0] 144) E0.out))
 have E1':=hid (zai (.cells #[.pointer (some ⟨w2.heap.size,0,none⟩)] 110) (zai (.cells #[.slice wa ts.length cap,.int .i64 0,.int .i64 (sb.size:Nat),.int .i64 0,.int .i64 0,.int .i64 0] 144) E1.out))
 have E2':=hid (zai (.cells #[.pointer (some ⟨w2.heap.size,0,none⟩)] 110) (zai (.cells #[.slice wa ts.length cap,.int .i64 0,.int .i64 (sb.size:Nat),.int .i64 0,.int .i64 0,.int .i64 0] 144) E2.out))
 have E3':Hid (((w2.alloc (.cells #[.slice wa ts.length cap,.int .i64 0,.int .i64 (sb.size:Nat),.int .i64 0,.int .i64 0,.int .i64 0] 144)).alloc (.cells #[.pointer (some ⟨w2.heap.size,0,none⟩)] 110)).heap[w2.heap.size+1]?=some (.cells #[.pointer (some ⟨w2.heap.size,0,none⟩)] 110 (0,0))):=hid (zao (.cells #[.pointer (some ⟨w2.heap.size,0,none⟩)] 110) (by simp))
 have HW4:Hid (Below w.heap.size w ((w2.alloc (.cells #[.slice wa ts.length cap,.int .i64 0,.int .i64 (sb.size:Nat),.int .i64 0,.int .i64 0,.int .i64 0] 144)).alloc (.cells #[.pointer (some ⟨w2.heap.size,0,none⟩)] 110))):=hid ((hw2.alloc hw2.size _).alloc (by have:=hw2.size;simp;omega) _)
 have HN1:=hid n1
 have HN2:=hid n2
 have HN3:=hid n3
 have HLE2:Hid (w.heap.size≤w.heap.size+1+1):=hid (by omega)
 have HF2:Hid (w.heap.size≤w2.heap.size):=hid hw2.size
 have HL0:Hid (w.heap.size < ((w2.alloc (.cells #[.slice wa ts.length cap,.int .i64 0,.int .i64 (sb.size:Nat),.int .i64 0,.int .i64 0,.int .i64 0] 144)).alloc (.cells #[.pointer (some ⟨w2.heap.size,0,none⟩)] 110)).heap.size):=hid (by simp;omega)
 have HL1:Hid (w.heap.size+1 < ((w2.alloc (.cells #[.slice wa ts.length cap,.int .i64 0,.int .i64 (sb.size:Nat),.int .i64 0,.int .i64 0,.int .i64 0] 144)).alloc (.cells #[.pointer (some ⟨w2.heap.size,0,none⟩)] 110)).heap.size):=hid (by simp;omega)
 have HL2:Hid (w.heap.size+1+1 < ((w2.alloc (.cells #[.slice wa ts.length cap,.int .i64 0,.int .i64 (sb.size:Nat),.int .i64 0,.int .i64 0,.int .i64 0] 144)).alloc (.cells #[.pointer (some ⟨w2.heap.size,0,none⟩)] 110)).heap.size):=hid (by simp;omega)
 have HL3:Hid (w2.heap.size+1 < ((w2.alloc (.cells #[.slice wa ts.length cap,.int .i64 0,.int .i64 (sb.size:Nat),.int .i64 0,.int .i64 0,.int .i64 0] 144)).alloc (.cells #[.pointer (some ⟨w2.heap.size,0,none⟩)] 110)).heap.size):=hid (by simp)
 have HM0:Hid ((some (w.heap.size):Option Nat)≠some w2.heap.size):=hid (by simp;omega)
 have HM1:Hid ((some (w.heap.size+1):Option Nat)≠some w2.heap.size):=hid (by simp;omega)
 have HM2:Hid ((some (w.heap.size+1+1):Option Nat)≠some w2.heap.size):=hid (by simp;omega)
 have HM3:Hid ((some (w2.heap.size+1):Option Nat)≠some w2.heap.size):=hid (by simp)
 have HF3:Hid (w2.heap.size < ((w2.alloc (.cells #[.slice wa ts.length cap,.int .i64 0,.int .i64 (sb.size:Nat),.int .i64 0,.int .i64 0,.int .i64 0] 144)).alloc (.cells #[.pointer (some ⟨w2.heap.size,0,none⟩)] 110)).heap.size):=hid (by simp<;>omega)
 obtain⟨F,hF⟩:∃F:PC,F=⟨wa,cap,ts,sb.size⟩:=⟨_,rfl⟩
 have HP:Hid (Pa F ((w2.alloc (.cells #[.slice wa ts.length cap,.int .i64 0,.int .i64 (sb.size:Nat),.int .i64 0,.int .i64 0,.int .i64 0] 144)).alloc (.cells #[.pointer (some ⟨w2.heap.size,0,none⟩)] 110)).heap.size w2.heap.size ⟨ts,0,0,0⟩ ((w2.alloc (.cells #[.slice wa ts.length cap,.int .i64 0,.int .i64 (sb.size:Nat),.int .i64 0,.int .i64 0,.int .i64 0] 144)).alloc (.cells #[.pointer (some ⟨w2.heap.size,0,none⟩)] 110))):=hid (by rw[hF];exact pa_new (by have:=HS.out;omega) HTM.out HGD.out hro)
 have HZ:Hid (F.z=sb.size):=hid (by rw[hF])
 have HFI:Hid (Fin (zbI F.z m ⟨ts,0,0,0⟩)):=hid (by rw[HZ.out];exact HFI0.out)
 clear hF e0 e1 e2 hw2 n1 n2 n3 hro hsz HGD HTM HFI0
 go_upto_region 8 with (first
  | (go_at_call 79;refine(end_any HP3.out).mono ?_;intro e w5 hq;rcases hq.split with ⟨u5,s5,v5,hr,rfl,hC,hp,hg⟩ | ⟨n,s9,hr,rfl,hp,hg⟩;rotate_left;(exact doorP_bad (R:=w.heap.size) (ba:=w.heap.size+1) (be:=w.heap.size+1+1) (bp:=w2.heap.size+1) rfl rfl rfl rfl hp ((hg.block (w.heap.size) (lt_of_block (zai (.cells #[.slice ea l.length ec] 24) H30.out)) HM0.out).trans (zai (.cells #[.slice ea l.length ec] 24) H30.out)) ((hg.block (w.heap.size+1) (lt_of_block (zai (.cells #[.slice ea l.length ec] 24) H31.out)) HM1.out).trans (zai (.cells #[.slice ea l.length ec] 24) H31.out)) ((hg.block (w.heap.size+1+1) (lt_of_block (zai (.cells #[.slice ea l.length ec] 24) H32.out)) HM2.out).trans (zai (.cells #[.slice ea l.length ec] 24) H32.out)) ((hg.block (w2.heap.size+1) (lt_of_block (zai (.cells #[.slice ea l.length ec] 24) H33.out)) HM3.out).trans (zai (.cells #[.slice ea l.length ec] 24) H33.out)) HN1.out HN2.out HN3.out (Nat.le_succ _) HLE2.out (below_grow (HW5.out.alloc HS30.out (.cells #[.slice ea l.length ec] 24)) hg HF2.out) (by rw[HEQ.out];exact answer_end HX.out HZ.out HE3.out hr));obtain rfl:v5=.tuple #[]:=hC;have HE5:=hid hr;have HP5:=hid hp;have H50:=hid ((hg.block (w.heap.size) (lt_of_block (zai (.cells #[.slice ea l.length ec] 24) H30.out)) HM0.out).trans (zai (.cells #[.slice ea l.length ec] 24) H30.out));have H51:=hid ((hg.block (w.heap.size+1) (lt_of_block (zai (.cells #[.slice ea l.length ec] 24) H31.out)) HM1.out).trans (zai (.cells #[.slice ea l.length ec] 24) H31.out));have H52:=hid ((hg.block (w.heap.size+1+1) (lt_of_block (zai (.cells #[.slice ea l.length ec] 24) H32.out)) HM2.out).trans (zai (.cells #[.slice ea l.length ec] 24) H32.out));have H53:=hid ((hg.block (w2.heap.size+1) (lt_of_block (zai (.cells #[.slice ea l.length ec] 24) H33.out)) HM3.out).trans (zai (.cells #[.slice ea l.length ec] 24) H33.out));have H54:Hid (w5.heap[w3.heap.size]?=some (.cells #[.slice ea l.length ec] 24 (0,0))):=hid ((hg.block w3.heap.size (by simp) HM4.out).trans (zaj w3 (.cells #[.slice ea l.length ec] 24)));have HW6:=hid (below_grow (HW5.out.alloc HS30.out (.cells #[.slice ea l.length ec] 24)) hg HF2.out);have HK5:=hid (((KeptP.refl (fun b=>b < ((w2.alloc (.cells #[.slice wa ts.length cap,.int .i64 0,.int .i64 (sb.size:Nat),.int .i64 0,.int .i64 0,.int .i64 0] 144)).alloc (.cells #[.pointer (some ⟨w2.heap.size,0,none⟩)] 110)).heap.size) w3).alloc (.cells #[.slice ea l.length ec] 24)).grown HF3.out hg);clear c3 c3l hr hp hg hq)
  | (go_at_call 52;refine(zda m (fun k hk=>ruleS_all m k (Nat.le_of_lt hk)) HFI.out HP.out).mono ?_;intro e w3 hq;rcases hq.split with ⟨a,s3,v3,hr,rfl,hC,hp,hg⟩ | ⟨n,s9,hr,rfl,hp,hg⟩;rotate_left;(exact doorP_bad (R:=w.heap.size) (ba:=w.heap.size+1) (be:=w.heap.size+1+1) (bp:=w2.heap.size+1) rfl rfl rfl rfl hp ((hg.block (w.heap.size) HL0.out HM0.out).trans E0'.out) ((hg.block (w.heap.size+1) HL1.out HM1.out).trans E1'.out) ((hg.block (w.heap.size+1+1) HL2.out HM2.out).trans E2'.out) ((hg.block (w2.heap.size+1) HL3.out HM3.out).trans E3'.out) HN1.out HN2.out HN3.out (Nat.le_succ _) HLE2.out (below_grow HW4.out hg HF2.out) (by rw[HEQ.out];exact answer_bad HX.out HZ.out hr));obtain⟨ea,ec,l,hv,hT⟩:=hC;subst hv;have HT:=hid hT;have HE3:=hid hr;have HP3:=hid (hp.alloc (.cells #[.slice ea l.length ec] 24));have HS3:=hid hg.size;have HS30:Hid (w.heap.size≤w3.heap.size):=hid (Nat.le_trans HW4.out.size hg.size);have HM4:Hid ((some w3.heap.size:Option Nat)≠some w2.heap.size):=hid (by have h1:=hg.size;simp at h1 ⊢;omega);have H30:=hid ((hg.block (w.heap.size) HL0.out HM0.out).trans E0'.out);have H31:=hid ((hg.block (w.heap.size+1) HL1.out HM1.out).trans E1'.out);have H32:=hid ((hg.block (w.heap.size+1+1) HL2.out HM2.out).trans E2'.out);have H33:=hid ((hg.block (w2.heap.size+1) HL3.out HM3.out).trans E3'.out);have HW5:=hid (below_grow HW4.out hg HF2.out);have c3:=zab (k:=0) H33.out rfl;have c3l:=lt_of_block H33.out;clear hr hp hg hq hT))
 have y0:=fun k=>zac (k:=k) H50.out
 have y1:=fun k=>zac (k:=k) H51.out
 have y2:=fun k=>zac (k:=k) H52.out
 have x0:=zab (k:=0) H50.out rfl
 have xa:=zab (k:=0) H51.out rfl
 have xb:=zab (k:=0) H52.out rfl
 have t0:=zab (k:=0) H54.out rfl
 have c3:=zab (k:=0) H53.out rfl
 have m5:=HP5.out.c5
 have f5:=HP5.out.flt
 have l0:=lt_of_block H50.out
 have l1:=lt_of_block H51.out
 have l2:=lt_of_block H52.out
 have l3:=lt_of_block H53.out
 have l4:=lt_of_block H54.out
 have o1:=HSZ.out
 have o2:w2.heap.size+1 < w3.heap.size:=by have:=HS3.out;simp at this;omega
 go_region
 go_wp2
 clear y0 y1 y2 xa xb c3 m5 f5 l0 l1 l2 l3 l4 x0 t0
 have n1:=HN1.out
 have n2:=HN2.out
 have n3:=HN3.out
 have a0:(w5.setCell ⟨w.heap.size,0,none⟩ (.slice ea l.length ec)).heap[w.heap.size]?=some (.cells #[.slice ea l.length ec] 24 (0,0)):=zaH (k:=0) (.slice ea l.length ec) H50.out
 have p0:=(Below.heap_setCell w5 ⟨w.heap.size,0,none⟩ (.slice ea l.length ec) _ n1.symm).trans H51.out
 have q0:=(Below.heap_setCell w5 ⟨w.heap.size,0,none⟩ (.slice ea l.length ec) _ n2.symm).trans H52.out
 have z0:(((w5.setCell ⟨w.heap.size,0,none⟩ (.slice ea l.length ec)).setCell ⟨w.heap.size+1,0,none⟩ (.int .i64 (sb.size:Nat))).setCell ⟨w.heap.size+1+1,0,none⟩ (.int .i64 0)).heap[w.heap.size]?=some (.cells #[.slice ea l.length ec] 24 (0,0)):=(Below.heap_setCell ((w5.setCell ⟨w.heap.size,0,none⟩ (.slice ea l.length ec)).setCell ⟨w.heap.size+1,0,none⟩ (.int .i64 (sb.size:Nat))) ⟨w.heap.size+1+1,0,none⟩ (.int .i64 0) (w.heap.size) n2).trans ((Below.heap_setCell (w5.setCell ⟨w.heap.size,0,none⟩ (.slice ea l.length ec)) ⟨w.heap.size+1,0,none⟩ (.int .i64 (sb.size:Nat)) (w.heap.size) n1).trans a0)
 have z1:(((w5.setCell ⟨w.heap.size,0,none⟩ (.slice ea l.length ec)).setCell ⟨w.heap.size+1,0,none⟩ (.int .i64 (sb.size:Nat))).setCell ⟨w.heap.size+1+1,0,none⟩ (.int .i64 0)).heap[w.heap.size+1]?=some (.cells #[.int .i64 (sb.size:Nat)] 3 (0,0)):=(Below.heap_setCell ((w5.setCell ⟨w.heap.size,0,none⟩ (.slice ea l.length ec)).setCell ⟨w.heap.size+1,0,none⟩ (.int .i64 (sb.size:Nat))) ⟨w.heap.size+1+1,0,none⟩ (.int .i64 0) (w.heap.size+1) n3).trans (zaH (k:=0) (.int .i64 (sb.size:Nat)) p0)
 have z2:(((w5.setCell ⟨w.heap.size,0,none⟩ (.slice ea l.length ec)).setCell ⟨w.heap.size+1,0,none⟩ (.int .i64 (sb.size:Nat))).setCell ⟨w.heap.size+1+1,0,none⟩ (.int .i64 0)).heap[w.heap.size+1+1]?=some (.cells #[.int .i64 0] 33 (0,0)):=zaH (k:=0) (.int .i64 0) ((Below.heap_setCell (w5.setCell ⟨w.heap.size,0,none⟩ (.slice ea l.length ec)) ⟨w.heap.size+1,0,none⟩ (.int .i64 (sb.size:Nat)) (w.heap.size+1+1) n3.symm).trans q0)
 have zb:=(((HW6.out.setCell (p:=⟨w.heap.size,0,none⟩) (Nat.le_refl _) (.slice ea l.length ec)).setCell (p:=⟨w.heap.size+1,0,none⟩) (Nat.le_succ _) (.int .i64 (sb.size:Nat))).setCell (p:=⟨w.heap.size+1+1,0,none⟩) (by show w.heap.size≤w.heap.size+1+1;omega) (.int .i64 0)).drew
 have zk:=(((HK5.out.set (b:=w.heap.size) HL0.out 0 (.slice ea l.length ec)).set (b:=w.heap.size+1) HL1.out 0 (.int .i64 (sb.size:Nat))).set (b:=w.heap.size+1+1) HL2.out 0 (.int .i64 0)).drew
 exact doorP_ok (W:=(((w5.setCell ⟨w.heap.size,0,none⟩ (.slice ea l.length ec)).setCell ⟨w.heap.size+1,0,none⟩ (.int .i64 (sb.size:Nat))).setCell ⟨w.heap.size+1+1,0,none⟩ (.int .i64 0)).drew) (bp:=w2.heap.size+1) (k:=s5.mo) (p:=sb.size) rfl rfl rfl rfl (bkD z0) (bkD z1) (bkD z2) zb rfl (by rw[HEQ.out];exact answer_fine HX.out HZ.out HE3.out HE5.out) (CFs.on (A:=((w2.alloc (.cells #[.slice wa ts.length cap,.int .i64 0,.int .i64 (sb.size:Nat),.int .i64 0,.int .i64 0,.int .i64 0] 144)).alloc (.cells #[.pointer (some ⟨w2.heap.size,0,none⟩)] 110)).heap.size) ⟨ea,ec,l,rfl,HT.out⟩ zk (fun b hb e=>Nat.lt_irrefl _ (Nat.lt_of_lt_of_le e hb)) (Nat.le_of_lt HL0.out))
end
theorem readP_any {w:World} (m:Nat) (sb:ByteArray) (hs:sb.size≤8192) (H:Lx.Errs w) (hfin:FinA m zbI sb.data.toList):
  Calls Tryz.prog 51 #[.string sb,.func (.func 52) #[] #[]] w (ReadPost CFs zP sb.data.toList (zbM m sb.data.toList) w):=by
 rcases hx:lexP 0 sb.data.toList with ⟨_ | ts,q⟩
 ·exact readP_lex m sb hs H hx
 ·exact readP_words m sb hs H hx hfin
end Go.Proofs.YtljbbhhiiiepcaaGreatDoor.Pm
namespace Go.Proofs.YtljbbhhiiiepcaaGreatDoor.Pm
open Go Go.RowKit Go.Proofs.YtljbbhhiiiepcaaGreatDoor
open Go.Lib (hid)
def ParsePost {α:Type} (C:α→Value→Nat→World→Prop) (zero:Value) (l:List UInt8) (r:Ans α) (w:World) (e:Ending) (w':World):Prop:=Below w.heap.size w w'∧match r with
 | .ok a mo=>∃v,e=.returned (.tuple #[v,.int .i64 (l.length:Nat),.int .i64 0])∧C a v w.heap.size w'
 | .bad p n=>e=.returned (.tuple #[zero,.int .i64 (p:Nat),.int .i64 (n:Nat)])
section
variable {w:World}
theorem outParse {W:World} {tmps:Array Value} {R:Nat} {u0:Value} {p n:Int} (h2:tmps[2]?=some (.pointer (some ⟨R,0,none⟩))) (h3:tmps[3]?=some (.int .i64 p)) (h4:tmps[4]?=some (.int .i64 n)) (q0:W.heap[R]?=some (.cells #[u0] 24 (0,0))):
  (results Tryz.f23 tmps).run Tryz.prog W=.ok (.tuple #[.agg #[u0],.int .i64 p,.int .i64 n]) W:=by
 have c0:=zab (k:=0) q0 rfl
 simp[results,Tryz.results23,go_sem, *]
theorem pParse_any (m:Nat) (sb:ByteArray) (hs:sb.size≤8192) (H:Lx.Errs w) (hfin:FinA m zbI sb.data.toList):
  Calls Tryz.prog 23 #[.string sb] w (ParsePost CFs zP sb.data.toList (zbM m sb.data.toList) w):=by
 have HS:=hid hs
 have HE:Hid (Lx.Errs (w.alloc oP)):=hid (H.on (show Lx.Past w (w.alloc oP) from((Below.refl _ _).alloc (Nat.le_refl _) _)))
 have HF:=hid hfin
 clear hs H hfin
 rcases hn:zbM m sb.data.toList with ⟨a,mo⟩ | ⟨p,n⟩
 ·have HN:=hid hn
  clear hn
  go_enter Tryz.func23,Tryz.ntmps23
  go_upto_region 2 with (go_at_call 51;refine(readP_any m sb HS.out HE.out HF.out).mono ?_;intro e w1 hq;rw[HN.out] at hq;obtain⟨hb,v,rfl,hC⟩:=hq;obtain⟨ea,ec,l0,hv,hT⟩:=hC;subst hv;have HT:=hid hT;clear hT;have hr:=(hb.block w.heap.size (by simp)).trans (zaj w oP);have HR:=hid hr;have HB:=hid hb;have y:=fun k=>zac (k:=k) hr;have x0:=zab (k:=0) hr rfl;have l:=lt_of_block hr;clear hr hb)
  have hb:=HB.out
  have hw:Below w.heap.size w w1:=((Below.refl _ _).alloc (Nat.le_refl _) _).trans (hb.mono (by simp))
  have a0:(w1.setCell ⟨w.heap.size,0,none⟩ (.slice ea l0.length ec)).heap[w.heap.size]?=some (.cells #[.slice ea l0.length ec] 24 (0,0)):=zaH (k:=0) (.slice ea l0.length ec) HR.out
  have hw2:=(hw.setCell (p:=⟨w.heap.size,0,none⟩) (Nat.le_refl _) (.slice ea l0.length ec))
  have hk2:=(zdw (KeptP.refl (fun b=>b=w.heap.size) w1) 0 (.slice ea l0.length ec))
  clear y l x0
  generalize (w1.setCell ⟨w.heap.size,0,none⟩ (.slice ea l0.length ec))=w2 at a0 hw2 hk2 ⊢
  have E:Hid (w2.heap[w.heap.size]?=some (.cells #[.slice ea l0.length ec] 24 (0,0))):=hid a0
  have HW2:=hid hw2
  have HK2:=hid hk2
  have y:=fun k=>zac (k:=k) E.out
  have x0:=zab (k:=0) E.out rfl
  have l:=lt_of_block E.out
  clear a0 hw2 hk2 hw hb
  go_wp2
  clear y l x0
  have b0:(w2.setCell ⟨w.heap.size,0,none⟩ (.slice ea l0.length ec)).heap[w.heap.size]?=some (.cells #[.slice ea l0.length ec] 24 (0,0)):=zaH (k:=0) (.slice ea l0.length ec) E.out
  have zb:=(HW2.out.setCell (p:=⟨w.heap.size,0,none⟩) (Nat.le_refl _) (.slice ea l0.length ec))
  have zk:=(zdw HK2.out 0 (.slice ea l0.length ec))
  exact bodyPost_ret (v:=.tuple #[.agg #[.slice ea l0.length ec],.int .i64 (sb.size:Nat),.int .i64 0]) (outParse rfl rfl rfl b0) rfl ⟨zb,_,rfl,CFs.on (P:=fun b=>b=w.heap.size) (A:=(w.alloc oP).heap.size) (w1:=w1) ⟨ea,ec,l0,rfl,HT.out⟩ zk (fun b hb e=>by simp at hb;omega) (by simp)⟩
 ·have HN:=hid hn
  clear hn
  go_enter Tryz.func23,Tryz.ntmps23
  go_upto_region 2 with (go_at_call 51;refine(readP_any m sb HS.out HE.out HF.out).mono ?_;intro e w1 hq;rw[HN.out] at hq;obtain⟨hb,rfl⟩:=hq;have hr:=(hb.block w.heap.size (by simp)).trans (zaj w oP);have HR:=hid hr;have HB:=hid hb;have y:=fun k=>zac (k:=k) hr;have x0:=zab (k:=0) hr rfl;have l:=lt_of_block hr;clear hr hb)
  have hb:=HB.out
  have hw:Below w.heap.size w w1:=((Below.refl _ _).alloc (Nat.le_refl _) _).trans (hb.mono (by simp))
  have a0:(w1.setCell ⟨w.heap.size,0,none⟩ (.slice none 0 0)).heap[w.heap.size]?=some (.cells #[.slice none 0 0] 24 (0,0)):=zaH (k:=0) (.slice none 0 0) HR.out
  have hw2:=(hw.setCell (p:=⟨w.heap.size,0,none⟩) (Nat.le_refl _) (.slice none 0 0))
  have hk2:=(zdw (KeptP.refl (fun b=>b=w.heap.size) w1) 0 (.slice none 0 0))
  clear y l x0
  generalize (w1.setCell ⟨w.heap.size,0,none⟩ (.slice none 0 0))=w2 at a0 hw2 hk2 ⊢
  have E:Hid (w2.heap[w.heap.size]?=some (.cells #[.slice none 0 0] 24 (0,0))):=hid a0
  have HW2:=hid hw2
  have HK2:=hid hk2
  have y:=fun k=>zac (k:=k) E.out
  have x0:=zab (k:=0) E.out rfl
  have l:=lt_of_block E.out
  clear a0 hw2 hk2 hw hb
  go_wp2
  clear y l x0
  have b0:(w2.setCell ⟨w.heap.size,0,none⟩ (.slice none 0 0)).heap[w.heap.size]?=some (.cells #[.slice none 0 0] 24 (0,0)):=zaH (k:=0) (.slice none 0 0) E.out
  have zb:=(HW2.out.setCell (p:=⟨w.heap.size,0,none⟩) (Nat.le_refl _) (.slice none 0 0))
  have zk:=(zdw HK2.out 0 (.slice none 0 0))
  exact bodyPost_ret (v:=.tuple #[zP,.int .i64 (p:Nat),.int .i64 (n:Nat)]) (outParse rfl rfl rfl b0) rfl ⟨zb,rfl⟩
end
end Go.Proofs.YtljbbhhiiiepcaaGreatDoor.Pm
