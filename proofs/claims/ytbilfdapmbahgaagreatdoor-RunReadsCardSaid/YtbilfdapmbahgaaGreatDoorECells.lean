/- What Cells tells: a copy of each cell, and of its numbers. -/
import Derived.Test.YtbilfdapmbahgaaGreatDoorRCall
import Derived.Test.YtbilfdapmbahgaaGreatDoorRHeap
import Derived.Defers
import Derived.Recover
import Derived.Lib.SliceRun
set_option linter.unusedSimpArgs false
set_option linter.unusedVariables false
set_option maxHeartbeats 8000000
set_option maxRecDepth 100000
namespace Go.Proofs.YtbilfdapmbahgaaGreatDoor.Rn
open Go Go.RowKit Go.Proofs.YtbilfdapmbahgaaGreatDoor Go.Proofs.YtbilfdapmbahgaaGreatDoor.Ev
theorem zd7 {r:Int×Int} {s:MS} {k:Int→Out} (h:r.2=0):zca r s k=k r.1:=by unfold zca;rw[if_pos h]
theorem zc2 {r:Int×Int} {s:MS} {k:Int→Out} (h:r.2≠0):zca r s k=.trap r.2 s:=by unfold zca;rw[if_neg h]
theorem doG_asg (rec:Nat→Task→Fr→MS→Out) (fs:List RF) (d k:Nat) (f:Fr) (s:MS) (t:Nat) (n:List UInt8) (e:RE):doG rec fs d k f s (.asg t n e)=zca (evE f.L e) s fun v=>.go 0 ⟨setV f.L n false 0 v,f.r⟩ s:=by simp only[doG]
theorem doG_sto (rec:Nat→Task→Fr→MS→Out) (fs:List RF) (d k:Nat) (f:Fr) (s:MS) (t:Nat) (n:List UInt8) (i e:RE):doG rec fs d k f s (.sto t n i e)=zca (evE f.L i) s fun j=>zca (evE f.L e) s fun v=>if slot f.L n true j=none then .trap 3 s else .go 0 ⟨setV f.L n true j v,f.r⟩ s:=by simp only[doG]
theorem doG_rd (rec:Nat→Task→Fr→MS→Out) (fs:List RF) (d k:Nat) (f:Fr) (s:MS) (t:Nat) (n:List UInt8):doG rec fs d k f s (.rd t n)=.go 0 ⟨setV f.L n false 0 (s.inp.headD 0),f.r⟩ ⟨s.left,s.at',s.inp.tail,s.ev⟩:=by simp only[doG]
theorem doG_ife (rec:Nat→Task→Fr→MS→Out) (fs:List RF) (d k:Nat) (f:Fr) (s:MS) (t:Nat) (c:RE) (b l:List RS):doG rec fs d k f s (.ife t c b l)=zca (evE f.L c) s fun v=>if v=0 then rec d (.seq (k+1+nSs b) l) f s else rec d (.seq (k+1) b) f s:=by simp only[doG]
theorem doG_ret (rec:Nat→Task→Fr→MS→Out) (fs:List RF) (d k:Nat) (f:Fr) (s:MS) (t:Nat) (e:RE):doG rec fs d k f s (.ret t e)=zca (evE f.L e) s fun v=>.go 3 ⟨f.L,v⟩ s:=by simp only[doG]
theorem doG_ass (rec:Nat→Task→Fr→MS→Out) (fs:List RF) (d k:Nat) (f:Fr) (s:MS) (t:Nat) (e:RE):doG rec fs d k f s (.ass t e)=zca (evE f.L e) s fun v=>if v=0 then .trap 4 s else .go 0 f s:=by simp only[doG]
theorem es_row {ws:World} {ea:Option Addr} {T:ET} {l:List ET} (h:EsIn ws 0 ea 0 (T :: l)):∃kb ko,ea=some ⟨kb,ko,none⟩∧RowAt ws 0 (some ⟨kb,ko,none⟩) 0 5 T.cells∧T.In ws 0:=by
 rw[EsIn] at h
 obtain⟨hr,hi,-⟩:=h
 have h2:=hr
 obtain⟨kb,ko,rfl,-⟩:=h2
 exact⟨kb,ko,rfl,hr,hi⟩
theorem does_of {C:Cx} {wt:WtP} {ws:World} (W:Wat C ws wt) (hC:CxIn C ws) {g:Nat} (hR:∀g',g'≤g→RunC C wt ws g'):DoesC C wt ws g:=by
 intro X fp f s w nb no k sa i S h hN hI hr hok hm hg
 have hrr:=hr
 obtain⟨t,ht0,ht1,hh⟩:=zct hr
 obtain⟨tn,rfl⟩:=Int.eq_ofNat_of_zero_le ht0
 rcases hh with ⟨n,ea,ec,e,ba,bc,la,lc,hn,he,rfl⟩ | ⟨n,ea,ec,e,e2,ba,bc,la,lc,hn,he,he2,rfl⟩ | ⟨n,ea,ec,ba,bc,la,lc,hn,rfl⟩ | ⟨n,fn,ea,ec,es,ba,bc,la,lc,hn,hfn,hes,rfl⟩ | ⟨ea,ec,e,ba,bc,b,la,lc,l,he,hb,hl,rfl⟩ | ⟨ea,ec,e,ba,bc,b,la,lc,he,hb,rfl⟩ | ⟨ea,ec,ba,bc,la,lc,rfl⟩ | ⟨ea,ec,ba,bc,la,lc,rfl⟩ | ⟨ea,ec,e,ba,bc,la,lc,he,rfl⟩ | ⟨ea,ec,e,ba,bc,la,lc,he,rfl⟩
 all_goals
  rw[NIn] at hN
  obtain⟨ab,al,cb,cl,⟨nb',o',e0,-,hc⟩,hnb,hnl⟩:=hN
  cases e0
  simp only[Nat.zero_mul,Nat.add_zero] at hc
  rw[ST.In] at hI
  obtain⟨-,-,hie,hib,hil⟩:=hI
  rw[ST.rs] at hok ⊢
 ·obtain⟨kb,ko,rfl,hrow,hin⟩:=es_row hie
  show Calls Tryz.prog 140 _ _ (RQ C wt ws X fp w (doG (runG C.rf g) C.rf X.d k f s (.asg (tn:Int).toNat n.data.toList e.re)))
  rw[doG_asg]
  by_cases h0:(evE f.L e.re).2=0
  ·rw[zd7 h0]
   exact assign_ok W h (hc 2 _ rfl) (hc 4 _ rfl) hrow hin he (zbu hn) h0
  ·rw[zc2 h0]
   exact assign_bad W h (hc 2 _ rfl) (hc 4 _ rfl) hrow hin he (zbu hn) h0
 ·obtain⟨kb,ko,rfl,hrow,hin⟩:=es_row hie
  have hrow2:=(hie.nth 1 (by simp)).1
  have hin2:=(hie.nth 1 (by simp)).2
  show Calls Tryz.prog 141 _ _ (RQ C wt ws X fp w (doG (runG C.rf g) C.rf X.d k f s (.sto (tn:Int).toNat n.data.toList e.re e2.re)))
  rw[doG_sto]
  by_cases h0:(evE f.L e.re).2=0
  ·rw[zd7 h0]
   by_cases h1:(evE f.L e2.re).2=0
   ·rw[zd7 h1]
    by_cases h3:slot f.L n.data.toList true (evE f.L e.re).1=none
    ·rw[if_pos h3]
     exact store_out W h (hc 2 _ rfl) (hc 4 _ rfl) hrow hin he hrow2 hin2 he2 (zbu hn) h0 h1 h3
    ·rw[if_neg h3]
     exact store_ok W h (hc 2 _ rfl) (hc 4 _ rfl) hrow hin he hrow2 hin2 he2 (zbu hn) h0 h1 h3
   ·rw[zc2 h1]
    exact store_bad2 W h (hc 2 _ rfl) (hc 4 _ rfl) hrow hin he hrow2 hin2 he2 (zbu hn) h0 h1
  ·rw[zc2 h0]
   exact store_bad W h (hc 2 _ rfl) (hc 4 _ rfl) hrow hin he hrow2 hin2 he2 (zbu hn) h0
 ·show Calls Tryz.prog 142 _ _ (RQ C wt ws X fp w (doG (runG C.rf g) C.rf X.d k f s (.rd (tn:Int).toNat n.data.toList)))
  rw[doG_rd]
  exact read_any W hC.fuel h (hc 2 _ rfl) (zbu hn)
 ·show Calls Tryz.prog 143 _ _ (RQ C wt ws X fp w (doG (runG C.rf g) C.rf X.d k f s (.call (tn:Int).toNat n.data.toList fn.data.toList (res es))))
  have hkn:C.known fn.data.toList es.length=true:=by
   have h9:okC C.known (.call (tn:Int).toNat n.data.toList fn.data.toList (res es))=true:=hok
   rw[okC,res_len] at h9
   exact h9
  exact call_any W hC (hR g (Nat.le_refl _)) h (hc 2 _ rfl) (hc 3 _ rfl) (hc 4 _ rfl) hie hes (zbu hn) hkn (by omega)
 ·obtain⟨kb,ko,rfl,hrow,hin⟩:=es_row hie
  have h9:okC C.known (.ife (tn:Int).toNat e.re (rss b) (rss l))=true:=hok
  rw[okC,Bool.and_eq_true] at h9
  have hcb:=Ck.cnts_n hb
  have hm2:k+(1+(cnts b+cnts l))≤2000:=by rw[ST.cnt] at hm;exact hm
  show Calls Tryz.prog 144 _ _ (RQ C wt ws X fp w (doG (runG C.rf g) C.rf X.d k f s (.ife (tn:Int).toNat e.re (rss b) (rss l))))
  rw[doG_ife]
  by_cases h0:(evE f.L e.re).2=0
  ·rw[zd7 h0]
   by_cases h1:(evE f.L e.re).1=0
   ·rw[if_pos h1,←hcb]
    exact branch_no W h (hc 4 _ rfl) hrow hin he h0 h1 (hc 9 _ rfl) fun W2 h2=>hR g (Nat.le_refl _) X fp f s W2 al la cl (k+1+cnts b) l h2 ⟨hnl,hil,hl,h9.2,by omega⟩ (by omega)
   ·rw[if_neg h1]
    exact branch_yes W h (hc 4 _ rfl) hrow hin he h0 h1 (hc 8 _ rfl) fun W2 h2=>hR g (Nat.le_refl _) X fp f s W2 ab ba cb (k+1) b h2 ⟨hnb,hib,hb,h9.1,by omega⟩ (by omega)
  ·rw[zc2 h0]
   exact branch_bad W h (hc 4 _ rfl) hrow hin he h0
 ·obtain⟨kb,ko,rfl,hrow,hin⟩:=es_row hie
  have h9:okC C.known (.whl (tn:Int).toNat e.re (rss b))=true:=hok
  rw[okC] at h9
  have hm2:k+(1+(cnts b+cnts []))≤2000:=by rw[ST.cnt] at hm;exact hm
  have hx:=loop_of W hC.fuel (fun g' hg'=>hR g' (Nat.le_of_lt hg')) h (hc 4 _ rfl) hrow hin he (t:=tn) (hc 1 _ rfl) (hc 7 _ rfl) (hc 8 _ rfl) (k:=k) (⟨hnb,hib,hb,h9,by omega⟩:Lot C ws ab ba 0 (k+1) b) (by omega) (by omega) hg
  exact hx
 ·exact zcY h nb no
 ·exact resume_any h nb no
 ·obtain⟨kb,ko,rfl,hrow,hin⟩:=es_row hie
  show Calls Tryz.prog 148 _ _ (RQ C wt ws X fp w (doG (runG C.rf g) C.rf X.d k f s (.ret (tn:Int).toNat e.re)))
  rw[doG_ret]
  by_cases h0:(evE f.L e.re).2=0
  ·rw[zd7 h0]
   exact end_ok W h (hc 4 _ rfl) hrow hin he h0
  ·rw[zc2 h0]
   exact end_bad W h (hc 4 _ rfl) hrow hin he h0
 ·obtain⟨kb,ko,rfl,hrow,hin⟩:=es_row hie
  show Calls Tryz.prog 149 _ _ (RQ C wt ws X fp w (doG (runG C.rf g) C.rf X.d k f s (.ass (tn:Int).toNat e.re)))
  rw[doG_ass]
  by_cases h0:(evE f.L e.re).2=0
  ·rw[zd7 h0]
   by_cases h1:(evE f.L e.re).1=0
   ·rw[if_pos h1]
    exact assert_no W h (hc 4 _ rfl) hrow hin he h0 h1
   ·rw[if_neg h1]
    exact assert_ok W h (hc 4 _ rfl) hrow hin he h0 h1
  ·rw[zc2 h0]
   exact assert_bad W h (hc 4 _ rfl) hrow hin he h0
theorem run_all {C:Cx} {wt:WtP} {ws:World} (W:Wat C ws wt) (hC:CxIn C ws):∀g,RunC C wt ws g:=by
 have key:∀n g,g≤n→RunC C wt ws g:=by
  intro n
  induction n with
  | zero =>
   intro g hg
   exact run_of W hC.fuel fun g' hg'=>absurd hg' (by omega)
  | succ n ih =>
   intro g hg
   exact run_of W hC.fuel fun g' hg'=>does_of W hC fun g2 h2=>ih g2 (by omega)
 exact fun g=>key g g (Nat.le_refl _)
end Go.Proofs.YtbilfdapmbahgaaGreatDoor.Rn

namespace Go.Proofs.YtbilfdapmbahgaaGreatDoor.Rn
open Go Go.RowKit Go.Proofs.YtbilfdapmbahgaaGreatDoor Go.Proofs.YtbilfdapmbahgaaGreatDoor.Ev
open Go.Lib (hid)
def Out.trapN:Out→Int
 | .go _ _ _=>0
 | .trap t _=>t
def PlayQ (C:Cx) (wt:WtP) (ws:World) (Mb:Nat) (fp:Nat→Prop) (w:World) (o:Out) (e:Ending) (w':World):Prop:=
 e=.returned (.int .i64 o.trapN)∧∃fp',Hal C wt ws Mb fp' o.st w'∧(∀b,fp' b→fp b∨w.heap.size≤b)∧Old w.heap.size (fun b=>b=Mb∨fp b) w w'
theorem catch_bad {R:Nat} {x t:Int} {w:World} (hr:w.heap[R]?=some (.cells #[.int .i64 x] 33 (0,0))) (older:List PanicEntry):
  CallsD Tryz.prog 56 #[ptr R] (.panicking ({v:=zb5 t,recovered:=false} :: older)) w fun e u' w' =>
   e=.returned (.tuple #[])∧u'=.panicking ({v:=zb5 t,recovered:=true} :: older)∧w'=w.setCell ⟨R,0,none⟩ (.int .i64 t):=by
 have hta:∀w:World,(Instr.typeAssert (zb5 t) 20 33 true).run Tryz.prog w=.ok (.tuple #[.int .i64 t,.bool true]) w:=fun w=>by kernel_rfl
 refine callsD_of_wpS Tryz.func56 rfl fun c₀ cs hu=>?_
 apply wpS_seq
 apply wpS_region
 simp[wpOpsS,go_sem,recoverD,hu,hta,Tryz.ntmps56,Exit.thenS]
 apply wpS_seq
 apply wpS_region
 simp[wpOpsS,go_sem,Exit.thenS]
 refine wpS_cond (t:=true) (by simp[Act.eval]) ?_
 simp only[if_true]
 refine wpS_of_wp ?_
 have c0:=zab (k:=0) hr rfl
 have f0:=zaf (k:=0) hr
 have l0:=lt_of_block hr
 clear hr
 go_wp2
 simp[bodyPostS,results,Tryz.results56]
theorem catch_idle (R:Nat) (w:World):CallsD Tryz.prog 56 #[ptr R] .returning w fun e u' w'=>e=.returned (.tuple #[])∧u'=.returning∧w'=w:=by
 have hta:∀w:World,(Instr.typeAssert .nilIface 20 33 true).run Tryz.prog w=.ok (.tuple #[.int .i64 0,.bool false]) w:=fun w=>by kernel_rfl
 refine callsD_of_wpS Tryz.func56 rfl fun c₀ cs hu=>?_
 apply wpS_seq
 apply wpS_region
 simp[wpOpsS,go_sem,recoverD,hu,hta,Tryz.ntmps56,Exit.thenS]
 apply wpS_seq
 apply wpS_region
 simp[wpOpsS,go_sem,Exit.thenS]
 refine wpS_cond (t:=false) (by simp[Act.eval]) ?_
 simp only[Bool.false_eq_true,if_false]
 refine wpS_of_wp (wp_skip ?_)
 cases c₀
 simp_all [bodyPostS,results,Tryz.results56]
section
variable {w W:World} {tmps:Array Value} {R:Nat} {post:Ending→World→Prop}
theorem outR {t:Int} (h2:tmps[2]?=some (ptr R)) (q0:W.heap[R]?=some (.cells #[.int .i64 t] 33 (0,0))):(results Tryz.f34 tmps).run Tryz.prog W=.ok (.int .i64 t) W:=by
 have c0:=zab (k:=0) q0 rfl
 simp[results,Tryz.results34,go_sem, *]
theorem doorR_bad {x t:Int} (h2:tmps[2]?=some (ptr R)) (q0:W.heap[R]?=some (.cells #[.int .i64 x] 33 (0,0))) (hp:post (.returned (.int .i64 t)) (W.setCell ⟨R,0,none⟩ (.int .i64 t))):
  Leaves Tryz.prog Tryz.f34 tmps post [{target:=.fn (.func 56) #[ptr R],args:=#[]}] (.panicking [{v:=zb5 t,recovered:=false}]) W:=by
 refine leaves_cons (f:=56) (args:=#[ptr R]) (by simp) (by simp[go_sem]) ?_
 refine(catch_bad q0 []).mono ?_
 rintro e u' w'' ⟨rfl,rfl,rfl⟩
 exact⟨_,outR h2 (zat _ q0),hp⟩
theorem doorR_ok {t:Int} (h2:tmps[2]?=some (ptr R)) (q0:W.heap[R]?=some (.cells #[.int .i64 t] 33 (0,0))) (hp:post (.returned (.int .i64 t)) W):
  Leaves Tryz.prog Tryz.f34 tmps post [{target:=.fn (.func 56) #[ptr R],args:=#[]}] .returning W:=by
 refine leaves_cons (f:=56) (args:=#[ptr R]) (by simp) (by simp[go_sem]) ?_
 refine(catch_idle R _).mono ?_
 rintro e u' w'' ⟨rfl,rfl,rfl⟩
 exact⟨_,outR h2 q0,hp⟩
end
theorem play_out {C:Cx} {wt:WtP} {ws:World} {Mb:Nat} {fp fp':Nat→Prop} {w w1:World} {ob:Obj} {o:Out} {s2:MS} {e:Ending} (W:Wat C ws wt) (he:e=.returned (.int .i64 o.trapN)) (hlt:∀b,fp b→b < w.heap.size) (hm:Mb < w.heap.size) (hs:o.st=s2) (hh:Hal C wt ws Mb fp' s2 w1) (hn:∀b,fp' b→fp b∨(w.alloc ob).heap.size≤b) (ho:Old (w.alloc ob).heap.size (fun b=>b=Mb∨(True∧fp b)) (w.alloc ob) w1) (t:Int):PlayQ C wt ws Mb fp w o e (w1.setCell ⟨w.heap.size,0,none⟩ (.int .i64 t)):=by
 subst hs
 have hsz:(w.alloc ob).heap.size=w.heap.size+1:=by simp
 have hk:∀b,b≠w.heap.size→(w1.setCell ⟨w.heap.size,0,none⟩ (.int .i64 t)).heap[b]?=w1.heap[b]?:=fun b hb=>Below.heap_setCell _ _ _ _ hb
 have ho2:Old w.heap.size (fun b=>b=Mb∨fp b) w w1:=(Old.below ((Below.refl _ _).alloc (Nat.le_refl _) _)).trans (ho.mono (by omega) fun i _ hx=>hx.elim .inl fun h=>.inr h.2)
 refine⟨he,fp',⟨hh.mch.same (hk _ (by omega)),W.keep _ _ _ _ hh.wat fun b hb=>hk b ?_,hh.num⟩,fun b hb=>?_,ho2.set (.inl (Nat.le_refl _)) _ _⟩
 ·rintro rfl
  rcases hn _ hb with h | h
  ·have:=hlt _ h;omega
  ·omega
 ·rcases hn _ hb with h | h
  ·exact .inl h
  ·exact .inr (by omega)
theorem play_any {C:Cx} {wt:WtP} {ws:World} (W:Wat C ws wt) (hC:CxIn C ws) {Mb i:Nat} {fp:Nat→Prop} {s:MS} {w:World} (h:MI C wt ws Mb fp s w) (hi:C.l.length=i+1) {g:Nat} (hg:2*s.left+1≤g):
  Calls Tryz.prog 34 #[ptr Mb] w (PlayQ C wt ws Mb fp w (runG C.rf g 1 (.seq 0 (C.l[i]'(by omega)).rf.body) ⟨newR (C.l[i]'(by omega)).rf [],0⟩ s)):=by
 have hmf:∀(fn:Fn) (first cap:Array Value) (w:World),(Instr.makeFunc fn first cap).run Tryz.prog w=.ok (.func fn first cap) w:=fun _ _ _ _=>rfl
 obtain⟨iv,hiv,hb⟩:=h.mch.blk
 have hMl:=h.mlt
 have hen:∀W2,Below w.heap.size w W2→Calls Tryz.prog 57 #[ptr Mb,.int .i64 (i:Nat),.int .i64 1,.slice none 0 0] W2 (EQ C wt ws Mb 1 fp W2 (runG C.rf g 1 (.seq 0 (C.l[i]'(by omega)).rf.body) ⟨newR (C.l[i]'(by omega)).rf [],0⟩ s)):=by
  intro W2 hW2
  have hlt:=W.lt _ _ _ h.wat
  have hk:∀b,b < w.heap.size→W2.heap[b]?=w.heap[b]?:=hW2.block
  have hmi:MI C wt ws Mb fp s W2:=⟨⟨Nat.le_trans h.sta.size hW2.size,fun p v hp=>by have:=h.sta.cell p v hp;rw[World.cell?_of_block (w:=w) (hk _ (World.block_lt_of_cell? w p this))];exact this⟩,h.hid,Nat.lt_of_lt_of_le hMl hW2.size,h.mch.same (hk _ hMl),h.dj,W.keep _ _ _ _ h.wat fun b hb=>hk b (hlt b hb),h.num⟩
  exact enter_any (d:=1) W hC (run_all W hC g) hmi (by omega) (by decide) hg none 0 0 [] rowIn_none rfl (fun z hz=>by cases hz)
 have hCM:=hC.many
 have m0:w.cell? ⟨Mb,0,none⟩=some (.slice C.fa (i+1) C.fc):=by rw[←hi];exact zab hb rfl
 have hfpl:=W.lt _ _ _ h.wat
 have HF:=hid (And.intro hfpl h.dj)
 generalize runG C.rf g 1 (.seq 0 (C.l[i]'(by omega)).rf.body) ⟨newR (C.l[i]'(by omega)).rf [],0⟩ s=oo at hen ⊢
 have HEN:=hid hen
 have hil:i < 1000:=by omega
 clear hen hb hiv h hC hfpl hCM hi
 cases oo with
 | go v f2 s2 =>
  go_enter_defers Tryz.func34,Tryz.ntmps34
  go_wp2_with (go_at_call 57;(with_reducible refine(HEN.out _ ((Below.refl _ _).alloc (Nat.le_refl _) _)).mono ?_);rintro e w1 ⟨rfl,h64,fp',hh,hn,ho⟩;have r1:=(ho.block w.heap.size (by simp) (by rintro(e | ⟨-,e⟩);omega;have:=HF.out.1 _ e;omega)).trans (zah w _);have d0:=zab (k:=0) r1 rfl;have df:=zaf (k:=0) r1;have dl:=lt_of_block r1;have HR1:=hid r1;have HQ:=hid (show ∃fp',_∧_∧_ from⟨fp',hh,hn,ho⟩);clear r1 h64 hh hn ho)
  obtain⟨fp',hh,hn,ho⟩:=HQ.out
  have hx:PlayQ C wt ws Mb fp w (.go v f2 s2) (.returned (.int .i64 0)) (w1.setCell ⟨w.heap.size,0,none⟩ (.int .i64 0)):=play_out (o:=.go v f2 s2) W rfl HF.out.1 hMl rfl hh hn (ho.mono (Nat.le_refl _) fun i _ hx=>hx.imp id fun h=>⟨trivial,h.2⟩) 0
  exact doorR_ok (R:=w.heap.size) (t:=0) rfl (zat (k:=0) _ HR1.out) hx
 | trap t s2 =>
  go_enter_defers Tryz.func34,Tryz.ntmps34
  go_wp2_with (go_at_call 57;(with_reducible refine(HEN.out _ ((Below.refl _ _).alloc (Nat.le_refl _) _)).mono ?_);rintro e w1 ⟨rfl,fp',hh,hn,ho⟩;exact doorR_bad (R:=w.heap.size) (t:=t) rfl ((ho.block w.heap.size (by simp) (by rintro(e | ⟨-,e⟩);omega;have:=HF.out.1 _ e;omega)).trans (zah w _)) (play_out (o:=.trap t s2) W rfl HF.out.1 hMl rfl hh hn (ho.mono (Nat.le_refl _) fun i _ hx=>hx.imp id fun h=>⟨trivial,h.2⟩) t))
end Go.Proofs.YtbilfdapmbahgaaGreatDoor.Rn

namespace Go.Proofs.YtbilfdapmbahgaaGreatDoor.Ev
open Go Go.RowKit Go.Proofs.YtbilfdapmbahgaaGreatDoor
open Go.Lib (hid)
theorem zco {w:World} {B n sz:Nat} {e:TypeId} {ao:Option Addr} {cap:Nat} {xs:List Value} (h:w.ownsRow B e sz (.slice ao n cap) n xs):(ao=none∧cap=0∧n=0∧xs=[])∨∃g,ao=some ⟨g,0,none⟩∧g < w.heap.size∧∀j u,xs[j]?=some u→w.cell? ⟨g,j,none⟩=some u:=by
 rcases h.2 with ⟨e1,h0⟩ | ⟨g,cap',cur,e1,hg,hb,_⟩
 ·left
  simp only[Value.slice.injEq] at e1
  have:=h.1
  rw[h0] at this
  exact⟨e1.1,e1.2.2,h0,List.eq_nil_of_length_eq_zero (by simpa using this)⟩
 ·right
  simp only[Value.slice.injEq] at e1
  obtain⟨rfl,-,rfl⟩:=e1
  refine⟨g,rfl,lt_of_block hb,fun j u hj=>?_⟩
  have:=h.cells (g:=g) rfl j u hj
  rwa [zci] at this
theorem clone_cells {B n:Nat} {ao:Option Addr} {cap:Nat} {xs:List Value} {w:World} (h:w.ownsRow B 76 3 (.slice ao n cap) n xs) (hn:n≤100000) (h1:∀u∈xs,u.oneCell'=true):
  Calls Tryz.prog 63 #[.slice ao n cap] w fun e w'=>∃v,e=.returned v∧w'.ownsRow w.heap.size 76 3 v n xs∧Below w.heap.size w w':=by
 rcases zco h with ⟨rfl,rfl,rfl,rfl⟩ | ⟨g,rfl,hg,hc⟩
 ·clear h
  have hq:=fun W:World=>Lib.run_eql_slice_nil (P:=Tryz.prog) W 57 _ none 0 0 0 0 Tryz.underlying57
  simp only[Option.isNone_none] at hq
  go_enter Tryz.func63,Tryz.ntmps63
  go_wp2
  go_ret
  exact⟨_,rfl,World.ownsRow_nil _ _ _ _,Below.refl _ _⟩
 ·obtain⟨ei,hin,hz0,hz1,hz2⟩:=info_parts ze4
  have hc2:∀j u,xs[j]?=some u→(w.alloc (.cells #[] 76)).cell? ((⟨g,0,none⟩:Addr).add j)=some u:=fun j u hj=>by
   rw[zci,World.cell?_alloc_lt _ _ _ (by exact hg)]
   exact hc j u hj
  have h0:(w.alloc (.cells #[] 76)).ownsRow w.heap.size 76 3 (.slice (some ⟨w.heap.size,0,none⟩) 0 0) 0 []:=⟨rfl,.inr ⟨w.heap.size,0,#[],rfl,Nat.le_refl _,zah w _,Nat.le_refl _,Nat.zero_le _,rfl,rfl⟩⟩
  have hl:=h.1
  have H0:=hid h0
  have HC:=hid hc2
  have HL:=hid hl
  have HN:=hid hn
  have HO:=hid h1
  have hq:=fun W:World=>Lib.run_eql_slice_nil (P:=Tryz.prog) W 57 _ (some ⟨g,0,none⟩) n cap 0 0 Tryz.underlying57
  simp only[Option.isNone_some] at hq
  clear h h0 hc hc2 hl hn h1
  go_enter Tryz.func63,Tryz.ntmps63
  go_wp2_with (at_builtin;refine wpList_append_own _ rfl _ _ 57 rfl w.heap.size 76 ei _ 3 48 Tryz.underlying57 hin hz0 hz1 hz2 rfl (by decide) _ _ _ rfl H0.out ⟨g,0,none⟩ n cap xs rfl HL.out HC.out HO.out ?c1 ?c2 ?c3 ?_)
  case c1=>have:=HN.out;unfold maxLen;omega
  case c2=>have:=HN.out;omega
  case c3=>simp
  intro v' w2 hown hgrow _
  have hX:=hid (And.intro hown hgrow)
  clear hown hgrow
  go_wp2
  go_ret
  obtain⟨ho,hgr⟩:=hX.out
  exact⟨v',rfl,ho,((Below.refl _ _).alloc (Nat.le_refl _) _).grown hgr (by simp) (fun k hk=>by simp[Value.ownBlock] at hk;omega)⟩
theorem clone_nums {B n:Nat} {ao:Option Addr} {cap:Nat} {xs:List Value} {w:World} (h:w.ownsRow B 2 1 (.slice ao n cap) n xs) (hn:n≤100000) (h1:∀u∈xs,u.oneCell'=true):
  Calls Tryz.prog 64 #[.slice ao n cap] w fun e w'=>∃v,e=.returned v∧w'.ownsRow w.heap.size 2 1 v n xs∧Below w.heap.size w w':=by
 rcases zco h with ⟨rfl,rfl,rfl,rfl⟩ | ⟨g,rfl,hg,hc⟩
 ·clear h
  have hq:=fun W:World=>Lib.run_eql_slice_nil (P:=Tryz.prog) W 40 _ none 0 0 0 0 Tryz.underlying40
  simp only[Option.isNone_none] at hq
  go_enter Tryz.func64,Tryz.ntmps64
  go_wp2
  go_ret
  exact⟨_,rfl,World.ownsRow_nil _ _ _ _,Below.refl _ _⟩
 ·obtain⟨ei,hin,hz0,hz1,hz2⟩:=info_parts num_info
  have hc2:∀j u,xs[j]?=some u→(w.alloc (.cells #[] 2)).cell? ((⟨g,0,none⟩:Addr).add j)=some u:=fun j u hj=>by
   rw[zci,World.cell?_alloc_lt _ _ _ (by exact hg)]
   exact hc j u hj
  have h0:(w.alloc (.cells #[] 2)).ownsRow w.heap.size 2 1 (.slice (some ⟨w.heap.size,0,none⟩) 0 0) 0 []:=⟨rfl,.inr ⟨w.heap.size,0,#[],rfl,Nat.le_refl _,zah w _,Nat.le_refl _,Nat.zero_le _,rfl,rfl⟩⟩
  have hl:=h.1
  have H0:=hid h0
  have HC:=hid hc2
  have HL:=hid hl
  have HN:=hid hn
  have HO:=hid h1
  have hq:=fun W:World=>Lib.run_eql_slice_nil (P:=Tryz.prog) W 40 _ (some ⟨g,0,none⟩) n cap 0 0 Tryz.underlying40
  simp only[Option.isNone_some] at hq
  clear h h0 hc hc2 hl hn h1
  go_enter Tryz.func64,Tryz.ntmps64
  go_wp2_with (at_builtin;refine wpList_append_own _ rfl _ _ 40 rfl w.heap.size 2 ei _ 1 8 Tryz.underlying40 hin hz0 hz1 hz2 rfl (by decide) _ _ _ rfl H0.out ⟨g,0,none⟩ n cap xs rfl HL.out HC.out HO.out ?c1 ?c2 ?c3 ?_)
  case c1=>have:=HN.out;unfold maxLen;omega
  case c2=>have:=HN.out;omega
  case c3=>simp
  intro v' w2 hown hgrow _
  have hX:=hid (And.intro hown hgrow)
  clear hown hgrow
  go_wp2
  go_ret
  obtain⟨ho,hgr⟩:=hX.out
  exact⟨v',rfl,ho,((Below.refl _ _).alloc (Nat.le_refl _) _).grown hgr (by simp) (fun k hk=>by simp[Value.ownBlock] at hk;omega)⟩
def zbl (vs:Nat→Value):Nat→List PC→List Value
 | _,[]=>[]
 | k,c :: l=>.string ⟨c.name.toArray⟩ :: .bool c.arr :: vs k :: zbl vs (k+1) l
theorem toldRow_at (vs:Nat→Value):∀(l:List PC) (k m:Nat) (c:PC),l[m]?=some c→(zbl vs k l)[m*3]?=some (.string ⟨c.name.toArray⟩)∧(zbl vs k l)[m*3+1]?=some (.bool c.arr)∧(zbl vs k l)[m*3+2]?=some (vs (k+m))
 | c :: l,k,0,d,h=>by cases h;exact⟨rfl,rfl,rfl⟩
 | c :: l,k,m+1,d,h=>by
  have:=toldRow_at vs l (k+1) m d h
  rw[show(m+1)*3=m*3+1+1+1 by omega]
  simp only[zbl,List.getElem?_cons_succ]
  rw[show k+(m+1)=k+1+m by omega]
  exact this
theorem toldRow_eq {vs vs':Nat→Value}:∀(l:List PC) (k:Nat),(∀m,k≤m→m < k+l.length→vs m=vs' m)→zbl vs k l=zbl vs' k l
 | [],k,_=>rfl
 | c :: l,k,h=>by
  rw[zbl,zbl,h k (Nat.le_refl _) (by simp),toldRow_eq l (k+1) (fun m h1 h2=>h m (by omega) (by rw[List.length_cons];omega))]
theorem toldRow_set (vs:Nat→Value) (u:Value):∀(l:List PC) (k m:Nat),m < l.length→(zbl vs k l).set (m*3+2) u=zbl (fun j=>if j=k+m then u else vs j) k l
 | c :: l,k,0,_=>by
  rw[zbl,zbl]
  simp only[Nat.zero_mul,Nat.zero_add,List.set_cons_succ,List.set_cons_zero,Nat.add_zero,if_pos]
  rw[toldRow_eq l (k+1) (vs:=vs) (vs':=fun j=>if j=k then u else vs j) (fun m h1 _=>by rw[if_neg (by omega)])]
 | c :: l,k,m+1,h=>by
  have:=toldRow_set vs u l (k+1) m (by simpa using h)
  rw[show(m+1)*3+2=(m*3+2)+1+1+1 by omega]
  simp only[zbl,List.set_cons_succ]
  rw[this,if_neg (by omega)]
  rw[show k+1+m=k+(m+1) by omega]
theorem rowOf_told {blk:Nat→Nat} {vs:Nat→Value}:∀(l:List PC) (k:Nat),(∀m c,l[m]?=some c→vs (k+m)=.slice (some ⟨blk (k+m),0,none⟩) c.v.length c.v.length)→zbc blk k l=zbl vs k l
 | [],k,_=>rfl
 | c :: l,k,h=>by
  have h0:=h 0 c rfl
  rw[Nat.add_zero] at h0
  rw[zbc,zbl,h0,rowOf_told l (k+1) (fun m d hd=>by have:=h (m+1) d hd;rwa [show k+(m+1)=k+1+m by omega] at this)]
theorem own_base {w:World} {B B' n sz:Nat} {e:TypeId} {v:Value} {xs:List Value} (h:w.ownsRow B e sz v n xs) (hB:B'≤B):w.ownsRow B' e sz v n xs:=by
 refine⟨h.1,?_⟩
 rcases h.2 with h0 | ⟨g,cap,cur,h1,h2,h3⟩
 ·exact .inl h0
 ·exact .inr ⟨g,cap,cur,h1,by omega,h3⟩
theorem own_set {w:World} {B n sz g cap j:Nat} {e:TypeId} {xs:List Value} (h:w.ownsRow B e sz (.slice (some ⟨g,0,none⟩) n cap) n xs) (hj:j < n*sz) (u:Value):(w.setCell ⟨g,j,none⟩ u).ownsRow B e sz (.slice (some ⟨g,0,none⟩) n cap) n (xs.set j u):=by
 refine⟨by rw[List.length_set];exact h.1,?_⟩
 rcases h.2 with ⟨h0,-⟩ | ⟨g',cap',cur,h1,h2,h3,h4,h5,h6,h7⟩
 ·cases h0
 ·simp only[Value.slice.injEq,Option.some.injEq,Addr.mk.injEq,and_true,true_and] at h1
  obtain⟨rfl,rfl⟩:=h1
  refine .inr ⟨g,cap,cur.setIfInBounds j u,rfl,h2,zat _ h3,h4,h5,by simpa using h6,?_⟩
  rw[Array.toList_setIfInBounds,List.take_set,h7]
theorem zbn {w:World} {B n sz:Nat} {e:TypeId} {v:Value} {xs:List Value} (h:w.ownsRow B e sz v n xs):∃ao cap,v=.slice ao n cap:=by
 rcases h.2 with ⟨e,h9⟩ | ⟨g,cap,cur,e,_⟩
 ·exact⟨none,0,by rw[e,h9]⟩
 ·exact⟨_,_,e⟩
theorem own_free {w:World} {B n sz g cap:Nat} {e:TypeId} {xs:List Value} (h:w.ownsRow B e sz (.slice (some ⟨g,0,none⟩) n cap) n xs) (j:Nat):w.frozen? ⟨g,j,none⟩=false:=by
 rcases h.2 with ⟨h0,-⟩ | ⟨g',cap',cur,h1,h2,h3,-⟩
 ·cases h0
 ·simp only[Value.slice.injEq,Option.some.injEq,Addr.mk.injEq,and_true,true_and] at h1
  obtain⟨rfl,rfl⟩:=h1
  exact zaf h3
theorem own_on {w w':World} {B n sz:Nat} {e:TypeId} {v:Value} {xs:List Value} (h:w.ownsRow B e sz v n xs) (hb:Below w.heap.size w w'):w'.ownsRow B e sz v n xs:=
 h.kept (row:=none) ⟨hb.os,hb.tape,hb.output,hb.size,fun k hk _=>hb.block k hk⟩ (Classical.em _)
theorem own_nums {w:World} {b:Nat} {v:List Int} (h:w.heap[b]?=some (.cells (numV v) 2 (0,0))) (hv:v.length≤64):w.ownsRow b 2 1 (.slice (some ⟨b,0,none⟩) v.length v.length) v.length (v.map (Value.int .i64)):=
 ⟨by simp,.inr ⟨b,v.length,numV v,rfl,Nat.le_refl _,h,Nat.le_refl _,by unfold maxLen;omega,by simp[numV],by simp[numV,List.take_of_length_le]⟩⟩
theorem own_lt {w:World} {B n sz b:Nat} {e:TypeId} {v:Value} {xs:List Value} (h:w.ownsRow B e sz v n xs) (hb:v.ownBlock=some b):B≤b∧b < w.heap.size:=by
 rcases h.2 with ⟨rfl,-⟩ | ⟨g,cap,cur,rfl,h2,h3,-⟩
 ·cases hb
 ·simp only[Value.ownBlock,Option.some.injEq] at hb
  subst hb
  exact⟨h2,lt_of_block h3⟩
theorem own_far {w:World} {B n sz g B' n' sz' cap:Nat} {e e':TypeId} {v:Value} {xs xs':List Value} (h:w.ownsRow B e sz v n xs) (hg:w.ownsRow B' e' sz' (.slice (some ⟨g,0,none⟩) n' cap) n' xs') (he:e'≠e) (j:Nat) (u:Value):(w.setCell ⟨g,j,none⟩ u).ownsRow B e sz v n xs:=by
 refine h.kept (row:=some g) ⟨rfl,rfl,rfl,by simp[World.setCell],fun q _ hq=>Below.heap_setCell _ _ _ _ (fun e=>hq (by simp[e]))⟩ (.inr ?_)
 rcases hg.2 with ⟨h0,-⟩ | ⟨g',cap',cur,h1,h2,h3,-⟩
 ·cases h0
 ·simp only[Value.slice.injEq,Option.some.injEq,Addr.mk.injEq,and_true,true_and] at h1
  obtain⟨rfl,rfl⟩:=h1
  exact own_ne h h3 he
structure Told (B:Nat) (blk:Nat→Nat) (L:List PC) (k:Nat) (v:Value) (W:World):Prop where
 row:∃vs,W.ownsRow B 76 3 v L.length (zbl vs 0 L)∧(∀m c,L[m]?=some c→m < k→W.ownsRow B 2 1 (vs m) c.v.length (c.v.map (Value.int .i64))∧(∀j d,L[j]?=some d→j < k→j≠m→(vs j).ownBlock=none∨(vs j).ownBlock≠(vs m).ownBlock))∧∀m c,L[m]?=some c→k≤m→vs m=.slice (some ⟨blk m,0,none⟩) c.v.length c.v.length
theorem row_one {blk:Nat→Nat}:∀(L:List PC) (k:Nat),∀u∈zbc blk k L,u.oneCell'=true
 | [],k=>by simp[zbc]
 | c :: l,k=>by
  intro u hu
  simp only[zbc,List.mem_cons] at hu
  rcases hu with rfl | rfl | rfl | hu
  ·rfl
  ·rfl
  ·rfl
  ·exact row_one l (k+1) u hu
theorem Told.on {B k:Nat} {blk:Nat→Nat} {L:List PC} {v:Value} {W W':World} (h:Told B blk L k v W) (hb:Below W.heap.size W W'):Told B blk L k v W':=by
 obtain⟨vs,h1,h2,h3⟩:=h
 exact⟨vs,own_on h1 hb,fun m c hm hk=>⟨own_on (h2 m c hm hk).1 hb,(h2 m c hm hk).2⟩,h3⟩
theorem cells_any {B E:Nat} {blk:Nat→Nat} {L:List PC} {w:World} (h:EnvIn B E blk L w) (hl:L.length≤10000):
  Calls Tryz.prog 40 #[.pointer (some ⟨E,0,none⟩)] w fun e w'=>∃ao cap,e=.returned (.slice ao L.length cap)∧Told w.heap.size blk L L.length (.slice ao L.length cap) w'∧Below w.heap.size w w':=by
 obtain⟨u,M,h1,h0,h2,h3⟩:=h.cel
 obtain⟨uo,uc,rfl⟩:=zbn h2
 have c0:=zab (k:=0) h1 rfl
 have HC:=hid (clone_cells h2 (by omega) (row_one L 0))
 have HE:=hid h
 have HLn:=hid hl
 clear h1 h0 h2 h3 h
 go_enter Tryz.func40,Tryz.ntmps40
 go_wp2_with (go_at_call 63;refine HC.out.mono ?_;rintro e w1 ⟨v,rfl,hv,hb⟩;obtain⟨ao,cap,rfl⟩:=zbn hv;have HV:=hid hv;have HB:=hid hb;clear hv hb)
 go_loopw [4,5,13] (fun _ _ i wr=>∃k:Nat,k≤L.length∧i=.int .i64 k∧Told w.heap.size blk L k (.slice ao L.length cap) wr∧Below w.heap.size w wr) (fun _ _ i _=>L.length - (intOf i).toNat)
 case atStart =>
  refine⟨0,Nat.zero_le _,rfl,⟨fun m=>match L[m]? with | some c=>.slice (some ⟨blk m,0,none⟩) c.v.length c.v.length | none=>undef,?_,fun m c _ hk=>absurd hk (Nat.not_lt_zero _),fun m c hm _=>by simp only[hm]⟩,HB.out⟩
  rw[←rowOf_told (blk:=blk) L 0 (fun m c hm=>by simp only[Nat.zero_add,hm])]
  exact HV.out
 case round =>
  obtain⟨k,hk,rfl,hT,hB⟩:=hrel
  by_cases hlt:k < L.length
  ·obtain⟨c,hc⟩:∃c,L[k]?=some c:=⟨_,List.getElem?_eq_getElem hlt⟩
   obtain⟨vs,r1,r2,r3⟩:=hT
   rcases zco r1 with ⟨-,-,e0,-⟩ | ⟨g,rfl,hg,hcl⟩
   ·omega
   obtain⟨t0,t1,t2⟩:=toldRow_at vs L 0 k c hc
   rw[Nat.zero_add,r3 k c hc (Nat.le_refl _)] at t2
   have d0:=hcl _ _ t0
   have d1:=hcl _ _ t1
   have d2:=hcl _ _ t2
   have hbl:=HE.out.bl k c hc
   have hlc:=(HE.out.nums.get hc).2
   have hbw:(wr.alloc (.cells #[.string ⟨c.name.toArray⟩,.bool c.arr,.slice (some ⟨blk k,0,none⟩) c.v.length c.v.length] 76)).heap[blk k]?=some (.cells (numV c.v) 2 (0,0)):=zak _ ((hB.block _ (lt_of_block hbl.2)).trans hbl.2)
   have HN:=hid (clone_nums (own_nums hbw hlc) (by omega) (by intro u hu;rw[List.mem_map] at hu;obtain⟨x,-,rfl⟩:=hu;rfl))
   have HT:=hid (show _∧_∧_ from⟨r1,r2,r3⟩)
   have HBB:=hid hB
   have HBA:Hid (Below wr.heap.size wr (wr.alloc (.cells #[.string ⟨c.name.toArray⟩,.bool c.arr,.slice (some ⟨blk k,0,none⟩) c.v.length c.v.length] 76))):=hid ((Below.refl _ _).alloc (Nat.le_refl _) _)
   have HCC:=hid hc
   have HCL:=hid (show g < wr.heap.size∧_ from⟨hg,own_free r1 (k*3+2)⟩)
   clear hbl hbw r1 r2 r3 t0 t1 t2 hcl hB hc
   generalize hvn:c.v.length=n at *
   have HVN:=hid hvn
   clear hvn
   go_wp2_with (go_at_call 64;refine HN.out.mono ?_;rintro e w2 ⟨v2,rfl,hv2,hb2⟩;obtain⟨ao2,cap2,rfl⟩:=zbn hv2;have z0:=cellB hb2 (show(wr.alloc (.cells #[.string ⟨c.name.toArray⟩,.bool c.arr,.slice (some ⟨blk k,0,none⟩) n n] 76)).cell? ⟨g,k*3+2,none⟩=_ from(World.cell?_alloc_lt _ _ _ HCL.out.1).trans d2);have zl:=World.block_lt_of_cell? _ _ z0;have hrow:=own_on (own_on HT.out.1 HBA.out) hb2;have zf:=own_free hrow (k*3+2);have HRW:=hid hrow;clear hrow;have HV2:=hid hv2;have HB2:=hid hb2;clear hv2 hb2)
   go_round
   case rel =>
    refine⟨k+1,by omega,by go_num,?_,?_⟩
    ·obtain⟨r1,r2,r3⟩:=HT.out
     have hrow:=HRW.out
     have hv2:=HV2.out
     have hba:=HBA.out
     have hb2:=HB2.out
     have hsz:w.heap.size≤wr.heap.size:=HBB.out.size
     have hsz2:wr.heap.size+1=(wr.alloc (.cells #[.string ⟨c.name.toArray⟩,.bool c.arr,.slice (some ⟨blk k,0,none⟩) n n] 76)).heap.size:=by simp
     refine⟨fun j=>if j=0+k then .slice ao2 n cap2 else vs j,?_,fun m d hm hk2=>⟨?_,fun j d2 hj hjk hne=>?_⟩,fun m d hm hk2=>?_⟩
     ·rw[←toldRow_set vs _ L 0 k hlt]
      exact own_set hrow (by omega) _
     ·dsimp only
      by_cases e:m=0+k
      ·rw[if_pos e]
       have e':m=k:=by omega
       subst e'
       rw[HCC.out] at hm
       cases hm
       rw[HVN.out]
       exact own_far (own_base hv2 (by omega)) hrow (by decide) _ _
      ·rw[if_neg e]
       exact own_far (own_on (own_on (r2 m d hm (by omega)).1 hba) hb2) hrow (by decide) _ _
     ·have key:∀(m:Nat) (d:PC),L[m]?=some d→m < k→(vs m).ownBlock≠(Value.slice ao2 n cap2).ownBlock∨(vs m).ownBlock=none:=by
       intro m d hm hk3
       cases hq:(vs m).ownBlock with
       | none=>exact .inr rfl
       | some b =>
        left
        intro e
        have a1:=own_lt (r2 m d hm hk3).1 hq
        have a2:=own_lt hv2 e.symm
        omega
      dsimp only
      by_cases e1:j=0+k
      ·by_cases e2:m=0+k
       ·omega
       ·rw[if_pos e1,if_neg e2]
        rcases key m d hm (by omega) with h | h
        ·exact .inr (fun e=>h e.symm)
        ·cases hq:(Value.slice ao2 n cap2).ownBlock with
         | none=>exact .inl rfl
         | some b=>right;rw[h];simp
      ·by_cases e2:m=0+k
       ·rw[if_neg e1,if_pos e2]
        rcases key j d2 hj (by omega) with h | h
        ·exact .inr h
        ·exact .inl h
       ·rw[if_neg e1,if_neg e2]
        exact(r2 m d hm (by omega)).2 j d2 hj (by omega) hne
     ·dsimp only
      rw[if_neg (by omega)]
      exact r3 m d hm (by omega)
    ·have h9:=own_lt HT.out.1 (b:=g) rfl
     exact(stepB (stepB HBB.out HBA.out) HB2.out).setCell (p:=⟨g,k*3+2,none⟩) h9.1 _
   case measure=>simp[intOf];omega
  ·obtain rfl:k=L.length:=by omega
   have HX:=hid (And.intro hT hB)
   clear hT hB
   go_wp2
   go_ret
   exact⟨ao,cap,rfl,HX.out.1,HX.out.2⟩
end Go.Proofs.YtbilfdapmbahgaaGreatDoor.Ev
