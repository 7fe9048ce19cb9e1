/- Small rules for statements: the tag, the sign at the end, the test, break, continue, return, assert, read. -/
import Derived.Test.YtljbbhhiiiepcaaGreatDoorPBound
import Derived.Deep.RegionHeld3
set_option linter.unusedSimpArgs false
set_option linter.unusedVariables false
set_option maxHeartbeats 8000000
set_option maxRecDepth 100000
namespace Go.Proofs.YtljbbhhiiiepcaaGreatDoor.Pm
open Go Go.RowKit Go.Proofs.YtljbbhhiiiepcaaGreatDoor
open Go.Lib (hid)
def CQ:RE→Value→Nat→World→Prop:=fun r v A w=>∃(N:Nat) (T:ET),v=.slice (some ⟨N,0,none⟩) 1 1∧T.re=r∧T.rightB=true∧EsIn w A (some ⟨N,0,none⟩) 0 [T]
theorem bkD {w:World} {b:Nat} {x:Obj} (h:w.heap[b]?=some x):w.drew.heap[b]?=some x:=h
section
variable {F:PC} {B f:Nat} {s:PS} {w:World}
theorem zbs (k t:Int) (n g:ByteArray) (ea:Option Addr) (en ec:Nat) (ba:Option Addr) (bn bc:Nat) (la:Option Addr) (ln lc:Nat) (h:Pa F B f s w):Calls Tryz.prog 264 #[ptrP f,.agg #[.int .i64 k,.int .i64 t,.string n,.string g,.slice ea en ec,.slice ba bn bc,.slice la ln lc]] w (QPost F B f (fun _ v _ _=>v=.agg #[.int .i64 k,.int .i64 t,.string n,.string g,.slice ea en ec,.slice ba bn bc,.slice la ln lc]) (take F.z [59] s) w):=by
 have HX:=hid (zaJ ((h.alloc (.cells #[.int .i64 k,.int .i64 t,.string n,.string g,.slice ea en ec,.slice ba bn bc,.slice la ln lc] 66)).alloc (.cells #[.int .i64 0,.int .i64 0,.string ⟨#[]⟩,.string ⟨#[]⟩,.slice none 0 0,.slice none 0 0,.slice none 0 0] 66)) {data:=#[59]} [59] rfl (by simp) (fun e=>by cases e))
 have HLT:=hid h.lt
 have HLE:=hid h.le
 clear h
 go_enter Tryz.func264,Tryz.ntmps264
 go_wp2_with (go_at_call 119;refine HX.out.mono ?_;intro e w1 hq;rcases hq.split with ⟨a,s1,v,hr,rfl,hC,hp,hg⟩ | ⟨m,s',hr,rfl,hp,hg⟩;rotate_left;(exact⟨rfl,QPost.wrong hr hp (zaa (zad (zad (zaf w (some f)) (.cells #[.int .i64 k,.int .i64 t,.string n,.string g,.slice ea en ec,.slice ba bn bc,.slice la ln lc] 66)) (.cells #[.int .i64 0,.int .i64 0,.string ⟨#[]⟩,.string ⟨#[]⟩,.slice none 0 0,.slice none 0 0,.slice none 0 0] 66)) hg)⟩);obtain rfl:v=.tuple #[]:=hC;have HQ:=hid (And.intro hr (And.intro hp hg));have hr8:=(hg.block w.heap.size (by simp;omega) (by have:=HLT.out;have:=HLE.out;simp;omega)).trans (zai (.cells #[.int .i64 0,.int .i64 0,.string ⟨#[]⟩,.string ⟨#[]⟩,.slice none 0 0,.slice none 0 0,.slice none 0 0] 66) (zaj w (.cells #[.int .i64 k,.int .i64 t,.string n,.string g,.slice ea en ec,.slice ba bn bc,.slice la ln lc] 66)));have hr9:=(hg.block (w.heap.size+1) (by simp) (by have:=HLT.out;have:=HLE.out;simp;omega)).trans (zao (.cells #[.int .i64 0,.int .i64 0,.string ⟨#[]⟩,.string ⟨#[]⟩,.slice none 0 0,.slice none 0 0,.slice none 0 0] 66) (by simp));have x0:=zab (k:=0) hr8 rfl;have z0:=zab (k:=0) hr9 rfl;have x1:=zab (k:=1) hr8 rfl;have z1:=zab (k:=1) hr9 rfl;have x2:=zab (k:=2) hr8 rfl;have z2:=zab (k:=2) hr9 rfl;have x3:=zab (k:=3) hr8 rfl;have z3:=zab (k:=3) hr9 rfl;have x4:=zab (k:=4) hr8 rfl;have z4:=zab (k:=4) hr9 rfl;have x5:=zab (k:=5) hr8 rfl;have z5:=zab (k:=5) hr9 rfl;have x6:=zab (k:=6) hr8 rfl;have z6:=zab (k:=6) hr9 rfl;have yy:=fun k=>zac (k:=k) hr8;have yz:=fun k=>zac (k:=k) hr9;have l8:=lt_of_block hr8;have l9:=lt_of_block hr9;clear hr hp hg hq hr8 hr9)
 obtain⟨hr,hp,hg⟩:=HQ.out
 have hle:=HLE.out
 have G1:=zaa (zad (zad (zaf w (some f)) (.cells #[.int .i64 k,.int .i64 t,.string n,.string g,.slice ea en ec,.slice ba bn bc,.slice la ln lc] 66)) (.cells #[.int .i64 0,.int .i64 0,.string ⟨#[]⟩,.string ⟨#[]⟩,.slice none 0 0,.slice none 0 0,.slice none 0 0] 66)) hg
 refine bodyPost_ret (v:=.agg #[.int .i64 k,.int .i64 t,.string n,.string g,.slice ea en ec,.slice ba bn bc,.slice la ln lc]) (by simp[results,Tryz.results264,go_sem, *]) rfl (QPost.good hr rfl ?_ ?_)
 ·repeat (first | with_reducible exact hp | (with_reducible refine Pa.far ?_ (Nat.le_succ_of_le hle) _ _))
 ·repeat (first | with_reducible exact G1 | (with_reducible refine zag ?_ (Nat.le_succ _) _ _))
theorem cs_mk {k:Int} {n g:ByteArray} {ea:Option Addr} {en ec:Nat} {e:List ET} {r:RS} {A:Nat} {w':World} (hin:EsIn w' A ea 0 e) (hl:e.length=en) (hn:en≤100000) (hr:(ST.mk k 0 n g ea ec e none 0 [] none 0 []).rs=r) (hb:(ST.mk k 0 n g ea ec e none 0 [] none 0 []).rightB=true):
  CS r (.agg #[.int .i64 k,.int .i64 0,.string n,.string g,.slice ea en ec,.slice none 0 0,.slice none 0 0]) A w':=by
 subst hl
 refine⟨.mk k 0 n g ea ec e none 0 [] none 0 [],rfl,hr,hb,?_⟩
 rw[ST.In]
 exact⟨by decide,⟨by omega,by simp,by simp⟩,hin,by rw[SsIn];trivial,by rw[SsIn];trivial⟩
theorem es_nil {w':World} {A:Nat}:EsIn w' A none 0 []:=by rw[EsIn];trivial
theorem es_kept {P:Nat→Prop} {T:ET} {wa wb:World} {A N A':Nat} (hk:KeptP P wa wb) (hP:∀b,A≤b→¬P b) (hA:A'≤A) (hT:T.In wa A) (h2:wb.heap[N]?=some (.cells (five T) 68 (0,0))) (hN:A'≤N):EsIn wb A' (some ⟨N,0,none⟩) 0 [T]:=zbw h2 ((hk.et hP hT).mono hA) hN
theorem breakOff_any (h:Pa F B f s w) :Calls Tryz.prog 226 #[ptrP f] w (QPost F B f CS (zdI F.z s) w):=by
 obtain⟨HP0,HG0,HRr0⟩:=zby h
 have HLT:=hid h.lt
 have HLE:=hid h.le
 clear h
 go_enter Tryz.func226,Tryz.ntmps226
 go_wp2_with (first
  | (go_at_call 264;refine(zbs 6 0 ⟨#[]⟩ ⟨#[]⟩ none 0 0 none 0 0 none 0 0 HP1.out).mono ?_;intro e w2 hq;rcases hq.split with ⟨a2,s2,v2,hr,rfl,hC,hp,hg⟩ | ⟨n,s',hr,rfl,hp,hg⟩;rotate_left;(exact⟨rfl,QPost.wrong (by unfold zdI;rw[HE1.out];show zaE _ _ _=_;unfold zaE;rw[hr];rfl) hp (zaa HG1.out hg)⟩);have HE2:=hid hr;have HP2:=hid hp;obtain rfl:=hC;have HG2:Hid (w.grownBy w2 (some f)):=hid (zaa HG1.out hg);have HS2:=hid hg.size;have hrr:=(hg.block w.heap.size (lt_of_block HRr1.out) (by have h0:=HLT.out;have h1:=HLE.out;have h2:=HP0.out.le;simp;omega)).trans HRr1.out;have HRr2:=hid hrr;clear ry rx0 rx1 rx2 rx3 rx4 rx5 rx6 rl;obtain⟨ry,rx0,rx1,rx2,rx3,rx4,rx5,rx6,rl⟩:=zax hrr;clear hrr;clear hg hr hp hq)
  | (go_at_call 119;refine(zaJ HP0.out {data:=#[98,114,101,97,107]} kBreak rfl (by decide) (fun e=>by cases e)).mono ?_;intro e w1 hq;rcases hq.split with ⟨a1,s1,v1,hr,rfl,hC,hp,hg⟩ | ⟨n,s',hr,rfl,hp,hg⟩;rotate_left;(exact⟨rfl,QPost.wrong (by unfold zdI;rw[hr];rfl) hp (zaa HG0.out hg)⟩);have HE1:=hid hr;have HP1:=hid hp;obtain rfl:v1=.tuple #[]:=hC;have HG1:Hid (w.grownBy w1 (some f)):=hid (zaa HG0.out hg);have HS1:=hid hg.size;have hrr:=(hg.block w.heap.size (lt_of_block HRr0.out) (by have h0:=HLT.out;have h1:=HLE.out;have h2:=HP0.out.le;simp;omega)).trans HRr0.out;have HRr1:=hid hrr;obtain⟨ry,rx0,rx1,rx2,rx3,rx4,rx5,rx6,rl⟩:=zax hrr;clear hrr;clear hg hr hp hq))
 have hle:=HLE.out
 have hlt:=HLT.out
 refine bodyPost_ret (v:=.agg #[.int .i64 6,.int .i64 0,.string ⟨#[]⟩,.string ⟨#[]⟩,.slice none 0 0,.slice none 0 0,.slice none 0 0]) (by simp[results,Tryz.results226,go_sem, *]) rfl (QPost.good (by unfold zdI;rw[HE1.out];show zaE _ _ _=_;unfold zaE;rw[HE2.out];rfl) (cs_mk es_nil rfl (by decide) (by rw[ST.rs];rfl) (by simp[ST.rightB,zaO,zbg,zaU,zam,zak])) ?_ ?_)
 ·repeat (first | with_reducible exact HP2.out | (with_reducible refine Pa.far ?_ hle _ _) | (with_reducible refine Pa.alloc ?_ _))
 ·repeat (first | with_reducible exact HG2.out | (with_reducible refine zag ?_ (Nat.le_refl _) _ _) | (with_reducible refine zad ?_ _))
theorem goOn_any (h:Pa F B f s w) :Calls Tryz.prog 227 #[ptrP f] w (QPost F B f CS (goOn F.z s) w):=by
 obtain⟨HP0,HG0,HRr0⟩:=zby h
 have HLT:=hid h.lt
 have HLE:=hid h.le
 clear h
 go_enter Tryz.func227,Tryz.ntmps227
 go_wp2_with (first
  | (go_at_call 264;refine(zbs 7 0 ⟨#[]⟩ ⟨#[]⟩ none 0 0 none 0 0 none 0 0 HP1.out).mono ?_;intro e w2 hq;rcases hq.split with ⟨a2,s2,v2,hr,rfl,hC,hp,hg⟩ | ⟨n,s',hr,rfl,hp,hg⟩;rotate_left;(exact⟨rfl,QPost.wrong (by unfold goOn;rw[HE1.out];show zaE _ _ _=_;unfold zaE;rw[hr];rfl) hp (zaa HG1.out hg)⟩);have HE2:=hid hr;have HP2:=hid hp;obtain rfl:=hC;have HG2:Hid (w.grownBy w2 (some f)):=hid (zaa HG1.out hg);have HS2:=hid hg.size;have hrr:=(hg.block w.heap.size (lt_of_block HRr1.out) (by have h0:=HLT.out;have h1:=HLE.out;have h2:=HP0.out.le;simp;omega)).trans HRr1.out;have HRr2:=hid hrr;clear ry rx0 rx1 rx2 rx3 rx4 rx5 rx6 rl;obtain⟨ry,rx0,rx1,rx2,rx3,rx4,rx5,rx6,rl⟩:=zax hrr;clear hrr;clear hg hr hp hq)
  | (go_at_call 119;refine(zaJ HP0.out {data:=#[99,111,110,116,105,110,117,101]} zb3 rfl (by decide) (fun e=>by cases e)).mono ?_;intro e w1 hq;rcases hq.split with ⟨a1,s1,v1,hr,rfl,hC,hp,hg⟩ | ⟨n,s',hr,rfl,hp,hg⟩;rotate_left;(exact⟨rfl,QPost.wrong (by unfold goOn;rw[hr];rfl) hp (zaa HG0.out hg)⟩);have HE1:=hid hr;have HP1:=hid hp;obtain rfl:v1=.tuple #[]:=hC;have HG1:Hid (w.grownBy w1 (some f)):=hid (zaa HG0.out hg);have HS1:=hid hg.size;have hrr:=(hg.block w.heap.size (lt_of_block HRr0.out) (by have h0:=HLT.out;have h1:=HLE.out;have h2:=HP0.out.le;simp;omega)).trans HRr0.out;have HRr1:=hid hrr;obtain⟨ry,rx0,rx1,rx2,rx3,rx4,rx5,rx6,rl⟩:=zax hrr;clear hrr;clear hg hr hp hq))
 have hle:=HLE.out
 have hlt:=HLT.out
 refine bodyPost_ret (v:=.agg #[.int .i64 7,.int .i64 0,.string ⟨#[]⟩,.string ⟨#[]⟩,.slice none 0 0,.slice none 0 0,.slice none 0 0]) (by simp[results,Tryz.results227,go_sem, *]) rfl (QPost.good (by unfold goOn;rw[HE1.out];show zaE _ _ _=_;unfold zaE;rw[HE2.out];rfl) (cs_mk es_nil rfl (by decide) (by rw[ST.rs];rfl) (by simp[ST.rightB,zaO,zbg,zaU,zam,zak])) ?_ ?_)
 ·repeat (first | with_reducible exact HP2.out | (with_reducible refine Pa.far ?_ hle _ _) | (with_reducible refine Pa.alloc ?_ _))
 ·repeat (first | with_reducible exact HG2.out | (with_reducible refine zag ?_ (Nat.le_refl _) _ _) | (with_reducible refine zad ?_ _))
theorem giveBack_any (h:Pa F B f s w) (m:Nat) (hfin:Fin (zcc F.z m s)):Calls Tryz.prog 228 #[ptrP f] w (QPost F B f CS (zcc F.z m s) w):=by
 obtain⟨HP0,HG0,HRr0⟩:=zby h
 have HLT:=hid h.lt
 have HLE:=hid h.le
 have HFU:=hfin
 unfold zcc at HFU
 have HFIN:=hid HFU
 clear h HFU hfin
 go_enter Tryz.func228,Tryz.ntmps228
 go_wp2_with (first
  | (go_at_call 264;refine(zbs 8 0 ⟨#[]⟩ ⟨#[]⟩ (some ⟨w2.heap.size,0,none⟩) 1 1 none 0 0 none 0 0 (HP2.out.alloc (.cells (five T2) 68))).mono ?_;intro e w3 hq;rcases hq.split with ⟨a3,s3,v3,hr,rfl,hC,hp,hg⟩ | ⟨n,s',hr,rfl,hp,hg⟩;rotate_left;(exact⟨rfl,QPost.wrong (by unfold zcc;rw[HE1.out];show(expr _ _ _).bind _=_;rw[HE2.out];show zaE _ _ _=_;unfold zaE;rw[hr];rfl) hp (zaa (zad HG2.out (.cells (five T2) 68)) hg)⟩);have HE3:=hid hr;have HP3:=hid hp;obtain rfl:=hC;have HG3:Hid (w.grownBy w3 (some f)):=hid (zaa (zad HG2.out (.cells (five T2) 68)) hg);have HS3:=hid hg.size;have hrr:=(hg.block w.heap.size (lt_of_block (zai (.cells (five T2) 68) HRr2.out)) (by have h0:=HLT.out;have h1:=HLE.out;have h2:=HP0.out.le;simp;omega)).trans (zai (.cells (five T2) 68) HRr2.out);have HRr3:=hid hrr;clear ry rx0 rx1 rx2 rx3 rx4 rx5 rx6 rl;obtain⟨ry,rx0,rx1,rx2,rx3,rx4,rx5,rx6,rl⟩:=zax hrr;clear hrr;have hrq:=(hg.block (w2.heap.size) (by simp<;>omega) (by have h0:=HP2.out.flt;have h3:=HLT.out;have h4:=HLE.out;simp at h0 ⊢;omega)).trans (zao (.cells (five T2) 68) (by simp));have HRq3:=hid hrq;obtain⟨qy,qx0,qx1,qx2,qx3,qx4,ql⟩:=zaL hrq;clear hrq;have HK2_3:=hid ((HK2_2.out.alloc (.cells (five T2) 68)).grown (Or.inl rfl) hg);clear hg hr hp hq)
  | (go_at_call 265;refine(zbf m s1 _ HP1.out ((HFIN.out.snd HE1.out).fst)).mono ?_;intro e w2 hq;rcases hq.split with ⟨a2,s2,v2,hr,rfl,hC,hp,hg⟩ | ⟨n,s',hr,rfl,hp,hg⟩;rotate_left;(exact⟨rfl,QPost.wrong (by unfold zcc;rw[HE1.out];show(expr _ _ _).bind _=_;rw[hr];rfl) hp (zaa HG1.out hg)⟩);have HE2:=hid hr;have HP2:=hid hp;obtain⟨T2,hv,hT⟩:=hC;rw[ET.val_is] at hv;subst hv;have HT2:=hid hT;have HG2:Hid (w.grownBy w2 (some f)):=hid (zaa HG1.out hg);have HS2:=hid hg.size;have hrr:=(hg.block w.heap.size (lt_of_block HRr1.out) (by have h0:=HLT.out;have h1:=HLE.out;have h2:=HP0.out.le;simp;omega)).trans HRr1.out;have HRr2:=hid hrr;clear ry rx0 rx1 rx2 rx3 rx4 rx5 rx6 rl;obtain⟨ry,rx0,rx1,rx2,rx3,rx4,rx5,rx6,rl⟩:=zax hrr;clear hrr;have HK2_2:=hid (KeptP.refl (Two f w.heap.size) w2);clear hg hr hp hq hT)
  | (go_at_call 119;refine(zaJ HP0.out {data:=#[114,101,116,117,114,110]} zdq rfl (by decide) (fun e=>by cases e)).mono ?_;intro e w1 hq;rcases hq.split with ⟨a1,s1,v1,hr,rfl,hC,hp,hg⟩ | ⟨n,s',hr,rfl,hp,hg⟩;rotate_left;(exact⟨rfl,QPost.wrong (by unfold zcc;rw[hr];rfl) hp (zaa HG0.out hg)⟩);have HE1:=hid hr;have HP1:=hid hp;obtain rfl:v1=.tuple #[]:=hC;have HG1:Hid (w.grownBy w1 (some f)):=hid (zaa HG0.out hg);have HS1:=hid hg.size;have hrr:=(hg.block w.heap.size (lt_of_block HRr0.out) (by have h0:=HLT.out;have h1:=HLE.out;have h2:=HP0.out.le;simp;omega)).trans HRr0.out;have HRr1:=hid hrr;obtain⟨ry,rx0,rx1,rx2,rx3,rx4,rx5,rx6,rl⟩:=zax hrr;clear hrr;clear hg hr hp hq))
 have hle:=HLE.out
 have hlt:=HLT.out
 have hr1:=lt_of_block HRr1.out
 have hq:=lt_of_block HRr2.out
 obtain⟨t1,t2,t3⟩:=HT2.out
 refine bodyPost_ret (v:=.agg #[.int .i64 8,.int .i64 0,.string ⟨#[]⟩,.string ⟨#[]⟩,.slice (some ⟨w2.heap.size,0,none⟩) 1 1,.slice none 0 0,.slice none 0 0]) (by simp[results,Tryz.results228,go_sem, *]) rfl (QPost.good (by unfold zcc;rw[HE1.out];show(expr _ _ _).bind _=_;rw[HE2.out];show zaE _ _ _=_;unfold zaE;rw[HE3.out];rfl) (cs_mk (es_kept (P:=Two f w.heap.size) (wa:=w2) (T:=T2) ?_ (zbj (by omega) hr1) (Nat.le_of_lt hr1) t3 ?_ (Nat.le_of_lt hq)) rfl (by decide) (by rw[ST.rs];show RS.ret 0 T2.re=_;rw[t1]) (by simp[ST.rightB,zaO,zbg,zaU,zam,zak,t2])) ?_ ?_)
 ·repeat (first | with_reducible exact HK2_3.out | (with_reducible refine KeptP.set ?_ (Or.inr rfl) _ _))
 ·repeat (first | with_reducible exact HRq3.out | (with_reducible refine(Below.heap_setCell _ _ _ _ (Nat.ne_of_gt hq)).trans ?_))
 ·repeat (first | with_reducible exact HP3.out | (with_reducible refine Pa.far ?_ hle _ _) | (with_reducible refine Pa.alloc ?_ _))
 ·repeat (first | with_reducible exact HG3.out | (with_reducible refine zag ?_ (Nat.le_refl _) _ _) | (with_reducible refine zad ?_ _))
theorem zc9 (h:Pa F B f s w) (m:Nat) (t:ByteArray) (l:List UInt8) (ht:t.data.toList=l) (hne:l≠[]) (hns:za9 l=false) (hfin:Fin (test F.z m l s)):Calls Tryz.prog 262 #[ptrP f,.string t] w (QPost F B f CQ (test F.z m l s) w):=by
 have HP0:=hid h
 have HG0:Hid (w.grownBy w (some f)):=hid (zaf w (some f))
 have HLT:=hid h.lt
 have HLE:=hid h.le
 have HFU:=hfin
 unfold test at HFU
 have HFIN:=hid HFU
 have HTT:=hid ht
 have HNE:=hid hne
 have HNS:=hid hns
 clear h HFU hfin ht hne hns
 go_enter Tryz.func262,Tryz.ntmps262
 go_wp2_with (first
  | (go_at_call 282;refine(zdZ (expr F.z m) (zbf m) ((zch F.z m).2.1 1) {data:=#[40]} {data:=#[41]} [40] [41] rfl rfl rfl rfl rfl rfl (by simp) (by simp) HP1.out (HFIN.out.snd HE1.out)).mono ?_;intro e w2 hq;rcases hq.split with ⟨a2,s2,v2,hr,rfl,hC,hp,hg⟩ | ⟨n,s',hr,rfl,hp,hg⟩;rotate_left;(exact⟨rfl,QPost.wrong (by unfold test;rw[HE1.out];exact hr) hp (zaa HG1.out hg)⟩);have HE2:=hid hr;have HP2:=hid hp;obtain⟨T2,hv,hT⟩:=hC;rw[ET.val_is] at hv;subst hv;have HT2:=hid hT;have HG2:Hid (w.grownBy w2 (some f)):=hid (zaa HG1.out hg);have HS2:=hid hg.size;have HK2_2:=hid (KeptP.refl (Two f f) w2);clear hg hr hp hq hT)
  | (go_at_call 119;refine(zaJ HP0.out t l HTT.out HNE.out (fun e=>by rw[HNS.out] at e;cases e)).mono ?_;intro e w1 hq;rcases hq.split with ⟨a1,s1,v1,hr,rfl,hC,hp,hg⟩ | ⟨n,s',hr,rfl,hp,hg⟩;rotate_left;(exact⟨rfl,QPost.wrong (by unfold test;rw[hr];rfl) hp (zaa HG0.out hg)⟩);have HE1:=hid hr;have HP1:=hid hp;obtain rfl:v1=.tuple #[]:=hC;have HG1:Hid (w.grownBy w1 (some f)):=hid (zaa HG0.out hg);have HS1:=hid hg.size;clear hg hr hp hq))
 have hlt:=HLT.out
 have hle:=HLE.out
 have h1:=HG1.out.size
 have h2:=HS2.out
 obtain⟨t1,t2,t3⟩:=HT2.out
 go_ret
 refine QPost.good (by unfold test;rw[HE1.out];exact HE2.out) ⟨w2.heap.size,T2,rfl,t1,t2,es_kept (P:=Two f f) (wa:=w2) (T:=T2) ((KeptP.refl _ _).alloc _) (zbj (by omega) (by omega)) h1 t3 (zaj _ _) (by omega)⟩ (HP2.out.alloc _) (zad HG2.out _)
theorem zd0 {P:Nat→Prop} {a:Option Addr} {j:Nat} {l:List ET} {wa wb:World} {A A':Nat} (hk:KeptP P wa wb) (hP:∀b,A≤b→¬P b) (hA:A'≤A) (h:EsIn wa A a j l):EsIn wb A' a j l:=(h.keep fun p v hp hc=>hk.cell (hP _ hp) hc).mono hA
def CI:Nat→Value→Nat→World→Prop:=fun n v _ _=>v=.int .i64 (n:Nat)
theorem assertion_any (h:Pa F B f s w) (m:Nat) (hfin:Fin (zb4 F.z m s)):Calls Tryz.prog 229 #[ptrP f] w (QPost F B f CS (zb4 F.z m s) w):=by
 obtain⟨HP0,HG0,HRr0⟩:=zby h
 have HLT:=hid h.lt
 have HLE:=hid h.le
 have HFU:=hfin
 unfold zb4 at HFU
 have HFIN:=hid HFU
 clear h HFU hfin
 go_enter Tryz.func229,Tryz.ntmps229
 go_wp2_with (first
  | (go_at_call 264;refine(zbs 9 0 ⟨#[]⟩ ⟨#[]⟩ (some ⟨N1,0,none⟩) 1 1 none 0 0 none 0 0 HP1.out).mono ?_;intro e w2 hq;rcases hq.split with ⟨a2,s2,v2,hr,rfl,hC,hp,hg⟩ | ⟨n,s',hr,rfl,hp,hg⟩;rotate_left;(exact⟨rfl,QPost.wrong (by unfold zb4;rw[HE1.out];show zaE _ _ _=_;unfold zaE;rw[hr];rfl) hp (zaa HG1.out hg)⟩);have HE2:=hid hr;have HP2:=hid hp;obtain rfl:=hC;have HG2:Hid (w.grownBy w2 (some f)):=hid (zaa HG1.out hg);have HS2:=hid hg.size;have hrr:=(hg.block w.heap.size (lt_of_block HRr1.out) (by have h0:=HLT.out;have h1:=HLE.out;have h2:=HP0.out.le;simp;omega)).trans HRr1.out;have HRr2:=hid hrr;clear ry rx0 rx1 rx2 rx3 rx4 rx5 rx6 rl;obtain⟨ry,rx0,rx1,rx2,rx3,rx4,rx5,rx6,rl⟩:=zax hrr;clear hrr;have HK1_2:=hid (HK1_1.out.grown (Or.inl rfl) hg);clear hg hr hp hq)
  | (go_at_call 262;refine(zc9 HP0.out m {data:=#[97,115,115,101,114,116]} zdr rfl (by decide) (by decide) HFIN.out.fst).mono ?_;intro e w1 hq;rcases hq.split with ⟨a1,s1,v1,hr,rfl,hC,hp,hg⟩ | ⟨n,s',hr,rfl,hp,hg⟩;rotate_left;(exact⟨rfl,QPost.wrong (by unfold zb4;rw[hr];rfl) hp (zaa HG0.out hg)⟩);have HE1:=hid hr;have HP1:=hid hp;obtain⟨N1,T1,hv,hT⟩:=hC;subst hv;have HT1:=hid hT;have HG1:Hid (w.grownBy w1 (some f)):=hid (zaa HG0.out hg);have HS1:=hid hg.size;have hrr:=(hg.block w.heap.size (lt_of_block HRr0.out) (by have h0:=HLT.out;have h1:=HLE.out;have h2:=HP0.out.le;simp;omega)).trans HRr0.out;have HRr1:=hid hrr;obtain⟨ry,rx0,rx1,rx2,rx3,rx4,rx5,rx6,rl⟩:=zax hrr;clear hrr;have HK1_1:=hid (KeptP.refl (Two f w.heap.size) w1);clear hg hr hp hq hT))
 have hle:=HLE.out
 have hlt:=HLT.out
 have hr1:=lt_of_block HRr1.out
 obtain⟨t1,t2,t3⟩:=HT1.out
 refine bodyPost_ret (v:=.agg #[.int .i64 9,.int .i64 0,.string ⟨#[]⟩,.string ⟨#[]⟩,.slice (some ⟨N1,0,none⟩) 1 1,.slice none 0 0,.slice none 0 0]) (by simp[results,Tryz.results229,go_sem, *]) rfl (QPost.good (by unfold zb4;rw[HE1.out];show zaE _ _ _=_;unfold zaE;rw[HE2.out];rfl) (cs_mk (zd0 (P:=Two f w.heap.size) (wa:=w1) (A:=w.heap.size+1) ?_ (zbj (by omega) (by omega)) (Nat.le_succ _) (by simpa using t3)) rfl (by decide) (by rw[ST.rs];show RS.ass 0 T1.re=_;rw[t1]) (by simp[ST.rightB,zaO,zbg,zaU,zam,zak,t2])) ?_ ?_)
 ·repeat (first | with_reducible exact HK1_2.out | (with_reducible refine KeptP.set ?_ (Or.inr rfl) _ _))
 ·repeat (first | with_reducible exact HP2.out | (with_reducible refine Pa.far ?_ hle _ _) | (with_reducible refine Pa.alloc ?_ _))
 ·repeat (first | with_reducible exact HG2.out | (with_reducible refine zag ?_ (Nat.le_refl _) _ _) | (with_reducible refine zad ?_ _))
theorem input_any (h:Pa F B f s w) (x:List UInt8) (hx:zaK x=true):Calls Tryz.prog 267 #[ptrP f,.string (bs x)] w (QPost F B f CS (input F.z x s) w):=by
 obtain⟨HP0,HG0,HRr0⟩:=zby h
 have HLT:=hid h.lt
 have HLE:=hid h.le
 have HNM:=hid hx
 clear h hx
 go_enter Tryz.func267,Tryz.ntmps267
 go_wp2_with (first
  | (go_at_call 264;refine(zbs 2 0 (bs x) ⟨#[]⟩ none 0 0 none 0 0 none 0 0 HP3.out).mono ?_;intro e w4 hq;rcases hq.split with ⟨a4,s4,v4,hr,rfl,hC,hp,hg⟩ | ⟨n,s',hr,rfl,hp,hg⟩;rotate_left;(exact⟨rfl,QPost.wrong (by unfold input;rw[HE1.out];show(take _ _ _).bind _=_;rw[HE2.out];show(take _ _ _).bind _=_;rw[HE3.out];show zaE _ _ _=_;unfold zaE;rw[hr];rfl) hp (zaa HG3.out hg)⟩);have HE4:=hid hr;have HP4:=hid hp;obtain rfl:=hC;have HG4:Hid (w.grownBy w4 (some f)):=hid (zaa HG3.out hg);have HS4:=hid hg.size;have hrr:=(hg.block w.heap.size (lt_of_block HRr3.out) (by have h0:=HLT.out;have h1:=HLE.out;have h2:=HP0.out.le;simp;omega)).trans HRr3.out;have HRr4:=hid hrr;clear ry rx0 rx1 rx2 rx3 rx4 rx5 rx6 rl;obtain⟨ry,rx0,rx1,rx2,rx3,rx4,rx5,rx6,rl⟩:=zax hrr;clear hrr;clear hg hr hp hq)
  | (go_at_call 119;refine(zaJ HP2.out {data:=#[41]} [41] rfl (by simp) (fun _=>by have:=(zbr HE2.out rfl).2;omega)).mono ?_;intro e w3 hq;rcases hq.split with ⟨a3,s3,v3,hr,rfl,hC,hp,hg⟩ | ⟨n,s',hr,rfl,hp,hg⟩;rotate_left;(exact⟨rfl,QPost.wrong (by unfold input;rw[HE1.out];show(take _ _ _).bind _=_;rw[HE2.out];show(take _ _ _).bind _=_;rw[hr];rfl) hp (zaa HG2.out hg)⟩);have HE3:=hid hr;have HP3:=hid hp;obtain rfl:v3=.tuple #[]:=hC;have HG3:Hid (w.grownBy w3 (some f)):=hid (zaa HG2.out hg);have HS3:=hid hg.size;have hrr:=(hg.block w.heap.size (lt_of_block HRr2.out) (by have h0:=HLT.out;have h1:=HLE.out;have h2:=HP0.out.le;simp;omega)).trans HRr2.out;have HRr3:=hid hrr;clear ry rx0 rx1 rx2 rx3 rx4 rx5 rx6 rl;obtain⟨ry,rx0,rx1,rx2,rx3,rx4,rx5,rx6,rl⟩:=zax hrr;clear hrr;clear hg hr hp hq)
  | (go_at_call 119;refine(zaJ HP1.out {data:=#[40]} [40] rfl (by simp) (fun e=>by cases e)).mono ?_;intro e w2 hq;rcases hq.split with ⟨a2,s2,v2,hr,rfl,hC,hp,hg⟩ | ⟨n,s',hr,rfl,hp,hg⟩;rotate_left;(exact⟨rfl,QPost.wrong (by unfold input;rw[HE1.out];show(take _ _ _).bind _=_;rw[hr];rfl) hp (zaa HG1.out hg)⟩);have HE2:=hid hr;have HP2:=hid hp;obtain rfl:v2=.tuple #[]:=hC;have HG2:Hid (w.grownBy w2 (some f)):=hid (zaa HG1.out hg);have HS2:=hid hg.size;have hrr:=(hg.block w.heap.size (lt_of_block HRr1.out) (by have h0:=HLT.out;have h1:=HLE.out;have h2:=HP0.out.le;simp;omega)).trans HRr1.out;have HRr2:=hid hrr;clear ry rx0 rx1 rx2 rx3 rx4 rx5 rx6 rl;obtain⟨ry,rx0,rx1,rx2,rx3,rx4,rx5,rx6,rl⟩:=zax hrr;clear hrr;clear hg hr hp hq)
  | (go_at_call 119;refine(zaJ HP0.out {data:=#[114,101,97,100]} zec rfl (by decide) (fun e=>by cases e)).mono ?_;intro e w1 hq;rcases hq.split with ⟨a1,s1,v1,hr,rfl,hC,hp,hg⟩ | ⟨n,s',hr,rfl,hp,hg⟩;rotate_left;(exact⟨rfl,QPost.wrong (by unfold input;rw[hr];rfl) hp (zaa HG0.out hg)⟩);have HE1:=hid hr;have HP1:=hid hp;obtain rfl:v1=.tuple #[]:=hC;have HG1:Hid (w.grownBy w1 (some f)):=hid (zaa HG0.out hg);have HS1:=hid hg.size;have hrr:=(hg.block w.heap.size (lt_of_block HRr0.out) (by have h0:=HLT.out;have h1:=HLE.out;have h2:=HP0.out.le;simp;omega)).trans HRr0.out;have HRr1:=hid hrr;obtain⟨ry,rx0,rx1,rx2,rx3,rx4,rx5,rx6,rl⟩:=zax hrr;clear hrr;clear hg hr hp hq))
 have hle:=HLE.out
 have hlt:=HLT.out
 refine bodyPost_ret (v:=.agg #[.int .i64 2,.int .i64 0,.string (bs x),.string ⟨#[]⟩,.slice none 0 0,.slice none 0 0,.slice none 0 0]) (by simp[results,Tryz.results267,go_sem, *]) rfl (QPost.good (by unfold input;rw[HE1.out];show(take _ _ _).bind _=_;rw[HE2.out];show(take _ _ _).bind _=_;rw[HE3.out];show zaE _ _ _=_;unfold zaE;rw[HE4.out];rfl) (cs_mk es_nil rfl (by decide) (by rw[ST.rs];show RS.rd 0 (bs x).data.toList=_;simp[bs]) (by have:=HNM.out;simp[ST.rightB,zaO,zcb,zaU,zam,zak,nmB,bs,this])) ?_ ?_)
 ·repeat (first | with_reducible exact HP4.out | (with_reducible refine Pa.far ?_ hle _ _) | (with_reducible refine Pa.alloc ?_ _))
 ·repeat (first | with_reducible exact HG4.out | (with_reducible refine zag ?_ (Nat.le_refl _) _ _) | (with_reducible refine zad ?_ _))
theorem store_any (h:Pa F B f s w) (m:Nat) (x:List UInt8) (hx:zaK x=true) (hfin:Fin (store F.z m x s)):Calls Tryz.prog 266 #[ptrP f,.string (bs x)] w (QPost F B f CS (store F.z m x s) w):=by
 obtain⟨HP0,HG0,HRr0⟩:=zby h
 have HLT:=hid h.lt
 have HLE:=hid h.le
 have HFU:=hfin
 unfold store at HFU
 have HFIN:=hid HFU
 have HNM:=hid hx
 clear h HFU hfin hx
 go_enter Tryz.func266,Tryz.ntmps266
 go_wp2_with (first
  | (go_at_call 119;refine(zaJ (HP1.out.alloc (.cells (five T1) 68)) {data:=#[61]} [61] rfl (by simp) (fun e=>by cases e)).mono ?_;intro e w2 hq;rcases hq.split with ⟨a2,s2,v2,hr,rfl,hC,hp,hg⟩ | ⟨n,s',hr,rfl,hp,hg⟩;rotate_left;(exact⟨rfl,QPost.wrong (by unfold store;rw[HE1.out];show(take _ _ _).bind _=_;rw[hr];rfl) hp (zaa (zad HG1.out (.cells (five T1) 68)) hg)⟩);have HE2:=hid hr;have HP2:=hid hp;obtain rfl:v2=.tuple #[]:=hC;have HG2:Hid (w.grownBy w2 (some f)):=hid (zaa (zad HG1.out (.cells (five T1) 68)) hg);have HS2:=hid hg.size;have hrr:=(hg.block w.heap.size (lt_of_block (zai (.cells (five T1) 68) HRr1.out)) (by have h0:=HLT.out;have h1:=HLE.out;have h2:=HP0.out.le;simp;omega)).trans (zai (.cells (five T1) 68) HRr1.out);have HRr2:=hid hrr;clear ry rx0 rx1 rx2 rx3 rx4 rx5 rx6 rl;obtain⟨ry,rx0,rx1,rx2,rx3,rx4,rx5,rx6,rl⟩:=zax hrr;clear hrr;have hrq:=(hg.block (w1.heap.size) (by simp<;>omega) (by have h0:=HP1.out.flt;have h3:=HLT.out;have h4:=HLE.out;simp at h0 ⊢;omega)).trans (zao (.cells (five T1) 68) (by simp));have HRq2:=hid hrq;obtain⟨qy,qx0,qx1,qx2,qx3,qx4,ql⟩:=zaL hrq;clear hrq;have HK1_2:=hid ((HK1_1.out.alloc (.cells (five T1) 68)).grown (Or.inl rfl) hg);clear hg hr hp hq)
  | (go_at_call 285;refine(zef (expr F.z m) (zbf m) ((zch F.z m).2.1 1) HP0.out HFIN.out.fst).mono ?_;intro e w1 hq;rcases hq.split with ⟨a1,s1,v1,hr,rfl,hC,hp,hg⟩ | ⟨n,s',hr,rfl,hp,hg⟩;rotate_left;(exact⟨rfl,QPost.wrong (by unfold store;rw[hr];rfl) hp (zaa HG0.out hg)⟩);have HE1:=hid hr;have HP1:=hid hp;obtain⟨T1,hv,hT⟩:=hC;rw[ET.val_is] at hv;subst hv;have HT1:=hid hT;have HG1:Hid (w.grownBy w1 (some f)):=hid (zaa HG0.out hg);have HS1:=hid hg.size;have hrr:=(hg.block w.heap.size (lt_of_block HRr0.out) (by have h0:=HLT.out;have h1:=HLE.out;have h2:=HP0.out.le;simp;omega)).trans HRr0.out;have HRr1:=hid hrr;obtain⟨ry,rx0,rx1,rx2,rx3,rx4,rx5,rx6,rl⟩:=zax hrr;clear hrr;have HK1_1:=hid (KeptP.refl (Two f w.heap.size) w1);clear hg hr hp hq hT))
 go_region_with (first
  | (go_at_call 264;refine(zbs 1 0 (bs x) ⟨#[]⟩ (some ⟨w3.heap.size,0,none⟩) 2 2 none 0 0 none 0 0 (HP3.out.alloc (.cells (ten T1 T3) 68))).mono ?_;intro e w4 hq;rcases hq.split with ⟨a4,s4,v4,hr,rfl,hC,hp,hg⟩ | ⟨n,s',hr,rfl,hp,hg⟩;rotate_left;(exact⟨rfl,QPost.wrong (by unfold store;rw[HE1.out];show(take _ _ _).bind _=_;rw[HE2.out];show(expr _ _ _).bind _=_;rw[HE3.out];show zaE _ _ _=_;unfold zaE;rw[hr];rfl) hp (zaa (zad HG3.out (.cells (ten T1 T3) 68)) hg)⟩);have HE4:=hid hr;have HP4:=hid hp;obtain rfl:=hC;have HG4:Hid (w.grownBy w4 (some f)):=hid (zaa (zad HG3.out (.cells (ten T1 T3) 68)) hg);have HS4:=hid hg.size;have hrr:=(hg.block w.heap.size (lt_of_block (zai (.cells (ten T1 T3) 68) HRr3.out)) (by have h0:=HLT.out;have h1:=HLE.out;have h2:=HP0.out.le;simp;omega)).trans (zai (.cells (ten T1 T3) 68) HRr3.out);have HRr4:=hid hrr;clear ry rx0 rx1 rx2 rx3 rx4 rx5 rx6 rl;obtain⟨ry,rx0,rx1,rx2,rx3,rx4,rx5,rx6,rl⟩:=zax hrr;clear hrr;have hrq:=(hg.block (w1.heap.size) (lt_of_block (zai (.cells (ten T1 T3) 68) HRq3.out)) (by have h0:=HLT.out;have h1:=HLE.out;have h2:=HP0.out.le;have q0:=HP0.out.flt;have q1:=HP1.out.flt;have q2:=HP2.out.flt;have q3:=HP3.out.flt;simp at *;omega)).trans (zai (.cells (ten T1 T3) 68) HRq3.out);have HRq4:=hid hrq;clear qy qx0 qx1 qx2 qx3 qx4 ql;obtain⟨qy,qx0,qx1,qx2,qx3,qx4,ql⟩:=zaL hrq;clear hrq;have hrt:=(hg.block (w3.heap.size) (by simp<;>omega) (by have h0:=HP3.out.flt;have h3:=HLT.out;have h4:=HLE.out;simp at h0 ⊢;omega)).trans (zao (.cells (ten T1 T3) 68) (by simp));have HRt4:=hid hrt;have ty:=fun k=>zac (k:=k) hrt;have tx0:=zab (k:=0) hrt rfl;have tx1:=zab (k:=1) hrt rfl;have tx2:=zab (k:=2) hrt rfl;have tx3:=zab (k:=3) hrt rfl;have tx4:=zab (k:=4) hrt rfl;have tx5:=zab (k:=5) hrt rfl;have tx6:=zab (k:=6) hrt rfl;have tx7:=zab (k:=7) hrt rfl;have tx8:=zab (k:=8) hrt rfl;have tx9:=zab (k:=9) hrt rfl;have tl:=lt_of_block hrt;clear hrt;have HK1_4:=hid ((HK1_3.out.alloc (.cells (ten T1 T3) 68)).grown (Or.inl rfl) hg);have HK3_4:=hid ((HK3_3.out.alloc (.cells (ten T1 T3) 68)).grown (Or.inl rfl) hg);clear hg hr hp hq)
  | (go_at_call 265;refine(zbf m s2 _ (HP2.out.drew) (((HFIN.out.snd HE1.out).snd HE2.out).fst)).mono ?_;intro e w3 hq;rcases hq.split with ⟨a3,s3,v3,hr,rfl,hC,hp,hg⟩ | ⟨n,s',hr,rfl,hp,hg⟩;rotate_left;(exact⟨rfl,QPost.wrong (by unfold store;rw[HE1.out];show(take _ _ _).bind _=_;rw[HE2.out];show(expr _ _ _).bind _=_;rw[hr];rfl) hp (zaa (zal HG2.out) hg)⟩);have HE3:=hid hr;have HP3:=hid hp;obtain⟨T3,hv,hT⟩:=hC;rw[ET.val_is] at hv;subst hv;have HT3:=hid hT;have HG3:Hid (w.grownBy w3 (some f)):=hid (zaa (zal HG2.out) hg);have HS3:=hid hg.size;have hrr:=(hg.block w.heap.size (lt_of_block (bkD HRr2.out)) (by have h0:=HLT.out;have h1:=HLE.out;have h2:=HP0.out.le;simp;omega)).trans (bkD HRr2.out);have HRr3:=hid hrr;clear ry rx0 rx1 rx2 rx3 rx4 rx5 rx6 rl;obtain⟨ry,rx0,rx1,rx2,rx3,rx4,rx5,rx6,rl⟩:=zax hrr;clear hrr;have hrq:=(hg.block (w1.heap.size) (lt_of_block (bkD HRq2.out)) (by have h0:=HLT.out;have h1:=HLE.out;have h2:=HP0.out.le;have q0:=HP0.out.flt;have q1:=HP1.out.flt;have q2:=HP2.out.flt;simp at *;omega)).trans (bkD HRq2.out);have HRq3:=hid hrq;clear qy qx0 qx1 qx2 qx3 qx4 ql;obtain⟨qy,qx0,qx1,qx2,qx3,qx4,ql⟩:=zaL hrq;clear hrq;have HK1_3:=hid ((HK1_2.out.drew).grown (Or.inl rfl) hg);have HK3_3:=hid (KeptP.refl (Two f w.heap.size) w3);clear hg hr hp hq hT))
 all_goals
  go_wp2
  have hle:=HLE.out
  have hlt:=HLT.out
  have hr1:=lt_of_block HRr1.out
  have hr2:=lt_of_block HRr2.out
  have hq:=lt_of_block HRr3.out
  obtain⟨t1,t2,t3⟩:=HT1.out
  obtain⟨u1,u2,u3⟩:=HT3.out
  refine bodyPost_ret (v:=.agg #[.int .i64 1,.int .i64 0,.string (bs x),.string ⟨#[]⟩,.slice (some ⟨w3.heap.size,0,none⟩) 2 2,.slice none 0 0,.slice none 0 0]) (by simp[results,Tryz.results266,go_sem, *]) rfl (QPost.good (by unfold store;rw[HE1.out];show(take _ _ _).bind _=_;rw[HE2.out];show(expr _ _ _).bind _=_;rw[HE3.out];show zaE _ _ _=_;unfold zaE;rw[HE4.out];rfl) (cs_mk (zd6 (T:=T1) (U:=T3) (t:=68) (fr:=(0,0)) (cs:=ten T1 T3) (N:=w3.heap.size) (B':=w.heap.size) ?_ (fun _ _ h=>h) ((KeptP.et (P:=Two f w.heap.size) (w:=w1) (A:=w.heap.size+1) ?_ (zbj (by omega) (by omega)) (by simpa using t3)).mono (Nat.le_succ _)) ((KeptP.et (P:=Two f w.heap.size) (w:=w3) (A:=w2.heap.size) ?_ (zbj (by omega) hr2) u3).mono (Nat.le_of_lt hr2)) (Nat.le_of_lt hq)) rfl (by decide) (by rw[ST.rs];show RS.sto 0 (bs x).data.toList T1.re T3.re=_;rw[t1,u1];simp[bs]) (by have:=HNM.out;simp[ST.rightB,zaO,zcb,zaU,zam,zak,nmB,bs,this,t2,u2])) ?_ ?_)
  ·repeat (first | with_reducible exact HRt4.out | (with_reducible refine(Below.heap_setCell _ _ _ _ (Nat.ne_of_gt hq)).trans ?_))
  ·repeat (first | with_reducible exact HK1_4.out | (with_reducible refine KeptP.set ?_ (Or.inr rfl) _ _))
  ·repeat (first | with_reducible exact HK3_4.out | (with_reducible refine KeptP.set ?_ (Or.inr rfl) _ _))
  ·repeat (first | with_reducible exact HP4.out | (with_reducible refine Pa.far ?_ hle _ _) | (with_reducible refine Pa.alloc ?_ _))
  ·repeat (first | with_reducible exact HG4.out | (with_reducible refine zag ?_ (Nat.le_refl _) _ _) | (with_reducible refine zad ?_ _))
theorem tag_none (h:Pa F B f s w) (k3:((cur F.z s).kind==3)=false):Calls Tryz.prog 211 #[ptrP f] w (QPost F B f CI (tag F.z s) w):=by
 have HX:=hid (zbc h 3 _ k3)
 have HH:=hid h
 have HN:Hid (tag F.z s=.ok 0 s):=hid (by unfold tag;rw[if_neg (by simp[k3])])
 clear h k3
 go_enter Tryz.func211,Tryz.ntmps211
 go_wp2_with (go_at_call 208;refine HX.out.mono ?_;rintro e w1 ⟨rfl,hb⟩;have HB:=hid hb;clear hb)
 go_ret
 exact QPost.good HN.out rfl (HH.out.on HB.out) (zae HB.out _)
theorem tag_zero (h:Pa F B f s w) (k3:((cur F.z s).kind==3)=true) (n0:¬0 < (cur F.z s).n):Calls Tryz.prog 211 #[ptrP f] w (QPost F B f CI (tag F.z s) w):=by
 have HP0:=hid h
 have HG0:Hid (w.grownBy w (some f)):=hid (zaf w (some f))
 have HLT:=hid h.lt
 have HLE:=hid h.le
 have HK3:=hid k3
 have hk:=(show(cur F.z s).kind=3 by simpa using k3)
 have hfl:=(zbb h).fl (by omega)
 have htg:=(zbb h).tg hk
 have HFL:=hid hfl
 have HTG:=hid htg
 have HTH:Hid (s.ws≠[]):=hid (zci (F:=F) hk (by decide))
 have hfd:=fld_n
 have HN:Hid (tag F.z s=.bad 3 s):=hid (by unfold tag;rw[if_pos k3,if_neg n0])
 have hd:decide (0 < ((cur F.z s).n:Int))=false:=by simp;omega
 have hd2:decide (0 < (cur F.z s).n)=false:=by simp;omega
 clear h k3 hk hfl htg n0
 go_enter Tryz.func211,Tryz.ntmps211
 go_wp2_with (first
  | (go_at_call 118;refine(zc8 _).mono ?_;rintro e wz ⟨rfl,rfl⟩)
  | (go_at_call 117;refine(za3 HP1.out).mono ?_;rintro e w2 ⟨rfl,hb⟩;have hg:=zae hb (some f);have HP2:=hid (HP1.out.on hb);have HG2:Hid (w.grownBy w2 (some f)):=hid (zaa HG1.out hg);have HS2:=hid hg.size;clear hg hb)
  | (go_at_call 208;refine(zbc HP0.out 3 _ HK3.out).mono ?_;rintro e w1 ⟨rfl,hb⟩;have hg:=zae hb (some f);have HP1:=hid (HP0.out.on hb);have HG1:Hid (w.grownBy w1 (some f)):=hid (zaa HG0.out hg);have HS1:=hid hg.size;clear hg hb))
 exact⟨rfl,QPost.wrong HN.out HP2.out HG2.out⟩
theorem tag_some (h:Pa F B f s w) (k3:((cur F.z s).kind==3)=true) (n0:0 < (cur F.z s).n):Calls Tryz.prog 211 #[ptrP f] w (QPost F B f CI (tag F.z s) w):=by
 have HP0:=hid h
 have HG0:Hid (w.grownBy w (some f)):=hid (zaf w (some f))
 have HLT:=hid h.lt
 have HLE:=hid h.le
 have HK3:=hid k3
 have hk:=(show(cur F.z s).kind=3 by simpa using k3)
 have hfl:=(zbb h).fl (by omega)
 have htg:=(zbb h).tg hk
 have HFL:=hid hfl
 have HTG:=hid htg
 have HTH:Hid (s.ws≠[]):=hid (zci (F:=F) hk (by decide))
 have hfd:=fld_n
 have HN:Hid (tag F.z s=.ok (cur F.z s).n (skip s)):=hid (by unfold tag;rw[if_pos k3,if_pos n0])
 have hd:decide (0 < ((cur F.z s).n:Int))=true:=by simp;omega
 have hd2:decide (0 < (cur F.z s).n)=true:=by simp;omega
 have hx1:((cur F.z s).n:Int)≤1000000:=by omega
 clear h k3 hk hfl htg n0
 go_enter Tryz.func211,Tryz.ntmps211
 go_wp2_with (first
  | (go_at_call 175;refine(zaV HP2.out HTH.out HFL.out.1 HFL.out.2).mono ?_;rintro e w3 ⟨rfl,hp,hg⟩;have HP3:Hid (Pa F B f (skip s) w3):=hid hp;have HG3:Hid (w.grownBy w3 (some f)):=hid (zaa HG2.out hg);have HS3:=hid hg.size;clear hg hp)
  | (go_at_call 118;refine(zcx _).mono ?_;rintro e wz ⟨rfl,rfl⟩)
  | (go_at_call 117;refine(za3 HP1.out).mono ?_;rintro e w2 ⟨rfl,hb⟩;have hg:=zae hb (some f);have HP2:=hid (HP1.out.on hb);have HG2:Hid (w.grownBy w2 (some f)):=hid (zaa HG1.out hg);have HS2:=hid hg.size;clear hg hb)
  | (go_at_call 208;refine(zbc HP0.out 3 _ HK3.out).mono ?_;rintro e w1 ⟨rfl,hb⟩;have hg:=zae hb (some f);have HP1:=hid (HP0.out.on hb);have HG1:Hid (w.grownBy w1 (some f)):=hid (zaa HG0.out hg);have HS1:=hid hg.size;clear hg hb))
 go_ret
 exact QPost.good HN.out rfl HP3.out HG3.out
theorem tag_any (h:Pa F B f s w):Calls Tryz.prog 211 #[ptrP f] w (QPost F B f CI (tag F.z s) w):=by
 rcases k3:((cur F.z s).kind==3) with _ | _
 ·exact tag_none h k3
 ·by_cases n0:0 < (cur F.z s).n
  ·exact tag_some h k3 n0
  ·exact tag_zero h k3 n0
end
end Go.Proofs.YtljbbhhiiiepcaaGreatDoor.Pm
