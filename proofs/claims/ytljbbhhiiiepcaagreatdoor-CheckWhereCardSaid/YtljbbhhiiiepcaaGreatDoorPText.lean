/- The words of a text are good, and no more than it has bytes. -/
import Derived.Test.YtljbbhhiiiepcaaGreatDoorPStC
import Derived.Test.YtljbbhhiiiepcaaGreatDoorPVars2
import Derived.Test.YtljbbhhiiiepcaaGreatDoorLAll
import Derived.Test.YtljbbhhiiiepcaaGreatDoorPFin
import Derived.Test.YtljbbhhiiiepcaaGreatDoorPTake
set_option linter.unusedSimpArgs false
set_option linter.unusedVariables false
set_option maxHeartbeats 8000000
set_option maxRecDepth 100000
namespace Go.Proofs.YtljbbhhiiiepcaaGreatDoor.Pm
open Go Go.RowKit Go.Proofs.YtljbbhhiiiepcaaGreatDoor
open Go.Lib (hid)
section
variable {F:PC} {B f:Nat} {s:PS} {w:World}
theorem cf_mk {x:List UInt8} (hx:zaK x=true) {pa va ba:Option Addr} {pc vc bc:Nat} {ps:List (List UInt8)} {vs:List (List UInt8×Nat)} {l:List ST} {b:List RS} {A:Nat} {w':World}
  (p1:∀a∈ps,zaK a=true) (p2:RowsG KN w' A pa ps) (p3:ps.length≤200000) (v1:∀a∈vs,okD a) (v2:RowsG KD w' A va vs) (v3:vs.length≤200000) (b1:rss l=b) (b2:zak l=true) (b3:SsIn w' A ba 0 l) (b4:l.length≤200000):
  CF ⟨x,ps,vs,b⟩ (.agg #[.string (bs x),.slice pa ps.length pc,.slice va vs.length vc,.slice ba l.length bc]) A w':=by
 refine⟨⟨bs x,pa,pc,ps.map bs,va,vc,vs.map fun d=>(bs d.1,(d.2:Int)),ba,bc,l⟩,by simp[FT.val,FT.cells],?_,?_,?_⟩
 ·simp only[FT.rf,List.map_map,RF.mk.injEq,b1,and_true]
  refine⟨by simp[bs],?_,?_⟩
  all_goals
   rw[List.map_congr_left (g:=id) (fun a _=>by simp[bs])];simp
 ·simp only[FT.rightB,Bool.and_eq_true,List.all_map,List.all_eq_true]
  refine⟨by simpa[nmB,bs] using hx,fun a ha=>by simpa[nmB,bs] using p1 a ha,fun d hd=>?_,b2⟩
  show zcC (bs d.1,(d.2:Int))=true
  simp only[zcC,Bool.and_eq_true,decide_eq_true_eq]
  exact⟨by simpa[nmB,bs] using (v1 d hd).1,by omega⟩
 ·refine⟨by simp;omega,by simp;omega,by simp;omega,fun i hi=>?_,fun i hi=>?_,fun i hi=>?_,b3⟩
  ·simp only[List.length_map] at hi
   obtain⟨b,o,e,hB,hc⟩:=(p2 i hi).1
   refine⟨b,o,e,hB,?_⟩
   have:=hc 0 (.string (bs ps[i])) rfl
   rw[show o+i*KN.z+0=o+i by show o+i*1+0=o+i;omega] at this
   simpa using this
  ·simp only[List.length_map] at hi
   simpa[KD] using (v2 i hi).1
  ·simp only[List.length_map] at hi
   have:=(v1 vs[i] (List.getElem_mem hi)).2
   simp only[List.getElem_map]
   omega
theorem zb2 (m:Nat) (hm:∀k,k < m→RuleS F B f (stmt F.z k)) (hfin:Fin (zba F.z m s)) (h:Pa F B f s w):Calls Tryz.prog 80 #[ptrP f] w (QPost F B f CF (zba F.z m s) w):=by
 have HP0:=hid (h.alloc (.cells #[.string ⟨#[]⟩,.slice none 0 0,.slice none 0 0,.slice none 0 0] 47))
 have HG0:Hid (w.grownBy (w.alloc (.cells #[.string ⟨#[]⟩,.slice none 0 0,.slice none 0 0,.slice none 0 0] 47)) (some f)):=hid (zad (zaf w (some f)) _)
 have HRr0:Hid ((w.alloc (.cells #[.string ⟨#[]⟩,.slice none 0 0,.slice none 0 0,.slice none 0 0] 47)).heap[w.heap.size]?=some (.cells #[.string ⟨#[]⟩,.slice none 0 0,.slice none 0 0,.slice none 0 0] 47 (0,0))):=hid (zaj w _)
 have HBr:Hid (B≤w.heap.size):=hid h.le
 have HNr:Hid ((some w.heap.size:Option Nat)≠some f):=hid (by have h1:=h.lt;have h2:=h.le;simp;omega)
 have HWr:Hid (w.heap.size≤w.heap.size):=hid (Nat.le_refl _)
 have HLT:=hid h.lt
 have HLE:=hid h.le
 have HFU:=hfin
 unfold zba at HFU
 have HFIN:=hid HFU
 have HM:=hid hm
 clear h HFU hfin hm
 go_enter Tryz.func80,Tryz.ntmps80
 go_wp2_with (first
  | (go_at_call 119;have HOP:Hid (0 < s6.op):=hid (by have h1:=((kr_stmts F.z m).2.2.2 _ _ _ _ HE6.out).2.1;have h2:=(kr_vars _ _ _ _ _ HE5.out).2.1;have h3:=(zbr HE4.out rfl).2;omega);refine(zaJ (HP6.out.far HBq.out 3 (.slice ea6 l6.length ec6)) {data:=#[125]} [125] rfl (by decide) (fun _=>HOP.out)).mono ?_;intro e w7 hq;rcases hq.split with ⟨a7,s7,v7,hr,rfl,hC,hp,hg⟩ | ⟨n,s',hr,rfl,hp,hg⟩;rotate_left;(exact⟨rfl,QPost.wrong (by unfold zba;rw[HE1.out];show(name F.z s1).bind _=_;rw[HE2.out];show(args F.z m (name F.z) s2).bind _=_;rw[HE3.out];show(take F.z [123] s3).bind _=_;rw[HE4.out];show(vars F.z m s4).bind _=_;rw[HE5.out];show(block F.z m [] s5).bind _=_;rw[HE6.out];show(take F.z [125] s6).bind _=_;rw[hr];rfl) hp (zaa (zag HG6.out HWq.out 3 (.slice ea6 l6.length ec6)) hg)⟩);have HE7:=hid hr;have HP7:=hid hp;obtain rfl:v7=.tuple #[]:=hC;have HG7:Hid (w.grownBy w7 (some f)):=hid (zaa (zag HG6.out HWq.out 3 (.slice ea6 l6.length ec6)) hg);have HS7:=hid hg.size;have hrr:w7.heap[w.heap.size]?=some (.cells #[.string ⟨#[]⟩,.slice none 0 0,.slice none 0 0,.slice none 0 0] 47 (0,0)):=(hg.block w.heap.size (lt_of_block ((Below.heap_setCell _ _ _ _ (Nat.ne_of_lt HQrq.out)).trans HRr6.out)) HNr.out).trans ((Below.heap_setCell _ _ _ _ (Nat.ne_of_lt HQrq.out)).trans HRr6.out);have HRr7:=hid hrr;clear ry rx0 rx1 rx2 rx3 rl;obtain⟨ry,rx0,rx1,rx2,rx3,rl⟩:=zcN hrr;clear hrr;have hrq:w7.heap[w2.heap.size]?=some (.cells #[.string (bs a2),(.slice ea3 l3.length ec3),(.slice ea5 l5.length ec5),(.slice ea6 l6.length ec6)] 47 (0,0)):=(hg.block w2.heap.size (lt_of_block (zaH (.slice ea6 l6.length ec6) HRq6.out)) HNq.out).trans (zaH (.slice ea6 l6.length ec6) HRq6.out);have HRq7:=hid hrq;clear qy qx0 qx1 qx2 qx3 ql;obtain⟨qy,qx0,qx1,qx2,qx3,ql⟩:=zcN hrq;clear hrq;have HK3_7:=hid ((HK3_6.out.set (Or.inr (Or.inr rfl)) 3 (.slice ea6 l6.length ec6)).grown (Or.inl rfl) hg);have HK5_7:=hid ((HK5_6.out.set (Or.inr (Or.inr rfl)) 3 (.slice ea6 l6.length ec6)).grown (Or.inl rfl) hg);have HK6_7:=hid ((HK6_6.out.set (Or.inr (Or.inr rfl)) 3 (.slice ea6 l6.length ec6)).grown (Or.inl rfl) hg);clear hg hr hp hq)
  | (go_at_call 123;refine(block_any m HM.out (HP5.out.far HBq.out 2 (.slice ea5 l5.length ec5)) ((((((HFIN.out.snd HE1.out).snd HE2.out).snd HE3.out).snd HE4.out).snd HE5.out).fst)).mono ?_;intro e w6 hq;rcases hq.split with ⟨a6,s6,v6,hr,rfl,hC,hp,hg⟩ | ⟨n,s',hr,rfl,hp,hg⟩;rotate_left;(exact⟨rfl,QPost.wrong (by unfold zba;rw[HE1.out];show(name F.z s1).bind _=_;rw[HE2.out];show(args F.z m (name F.z) s2).bind _=_;rw[HE3.out];show(take F.z [123] s3).bind _=_;rw[HE4.out];show(vars F.z m s4).bind _=_;rw[HE5.out];show(block F.z m [] s5).bind _=_;rw[hr];rfl) hp (zaa (zag HG5.out HWq.out 2 (.slice ea5 l5.length ec5)) hg)⟩);have HE6:=hid hr;have HP6:=hid hp;obtain⟨ea6,ec6,l6,hv,hT⟩:=hC;subst hv;have HT6:=hid hT;clear hT;have HG6:Hid (w.grownBy w6 (some f)):=hid (zaa (zag HG5.out HWq.out 2 (.slice ea5 l5.length ec5)) hg);have HS6:=hid hg.size;have hrr:w6.heap[w.heap.size]?=some (.cells #[.string ⟨#[]⟩,.slice none 0 0,.slice none 0 0,.slice none 0 0] 47 (0,0)):=(hg.block w.heap.size (lt_of_block ((Below.heap_setCell _ _ _ _ (Nat.ne_of_lt HQrq.out)).trans HRr5.out)) HNr.out).trans ((Below.heap_setCell _ _ _ _ (Nat.ne_of_lt HQrq.out)).trans HRr5.out);have HRr6:=hid hrr;clear ry rx0 rx1 rx2 rx3 rl;obtain⟨ry,rx0,rx1,rx2,rx3,rl⟩:=zcN hrr;clear hrr;have hrq:w6.heap[w2.heap.size]?=some (.cells #[.string (bs a2),(.slice ea3 l3.length ec3),(.slice ea5 l5.length ec5),.slice none 0 0] 47 (0,0)):=(hg.block w2.heap.size (lt_of_block (zaH (.slice ea5 l5.length ec5) HRq5.out)) HNq.out).trans (zaH (.slice ea5 l5.length ec5) HRq5.out);have HRq6:=hid hrq;clear qy qx0 qx1 qx2 qx3 ql;obtain⟨qy,qx0,qx1,qx2,qx3,ql⟩:=zcN hrq;clear hrq;have HK3_6:=hid ((HK3_5.out.set (Or.inr (Or.inr rfl)) 2 (.slice ea5 l5.length ec5)).grown (Or.inl rfl) hg);have HK5_6:=hid ((HK5_5.out.set (Or.inr (Or.inr rfl)) 2 (.slice ea5 l5.length ec5)).grown (Or.inl rfl) hg);have HK6_6:=hid (KeptP.refl (Tri f w.heap.size w2.heap.size) w6);clear hg hr hp hq)
  | (go_at_call 122;refine(vars_any m HP4.out (((((HFIN.out.snd HE1.out).snd HE2.out).snd HE3.out).snd HE4.out).fst)).mono ?_;intro e w5 hq;rcases hq.split with ⟨a5,s5,v5,hr,rfl,hC,hp,hg⟩ | ⟨n,s',hr,rfl,hp,hg⟩;rotate_left;(exact⟨rfl,QPost.wrong (by unfold zba;rw[HE1.out];show(name F.z s1).bind _=_;rw[HE2.out];show(args F.z m (name F.z) s2).bind _=_;rw[HE3.out];show(take F.z [123] s3).bind _=_;rw[HE4.out];show(vars F.z m s4).bind _=_;rw[hr];rfl) hp (zaa HG4.out hg)⟩);have HE5:=hid hr;have HP5:=hid hp;obtain⟨ea5,ec5,l5,hv,hT⟩:=hC;subst hv;have HT5:=hid hT;clear hT;have HG5:Hid (w.grownBy w5 (some f)):=hid (zaa HG4.out hg);have HS5:=hid hg.size;have hrr:w5.heap[w.heap.size]?=some (.cells #[.string ⟨#[]⟩,.slice none 0 0,.slice none 0 0,.slice none 0 0] 47 (0,0)):=(hg.block w.heap.size (lt_of_block HRr4.out) HNr.out).trans HRr4.out;have HRr5:=hid hrr;clear ry rx0 rx1 rx2 rx3 rl;obtain⟨ry,rx0,rx1,rx2,rx3,rl⟩:=zcN hrr;clear hrr;have hrq:w5.heap[w2.heap.size]?=some (.cells #[.string (bs a2),(.slice ea3 l3.length ec3),.slice none 0 0,.slice none 0 0] 47 (0,0)):=(hg.block w2.heap.size (lt_of_block HRq4.out) HNq.out).trans HRq4.out;have HRq5:=hid hrq;clear qy qx0 qx1 qx2 qx3 ql;obtain⟨qy,qx0,qx1,qx2,qx3,ql⟩:=zcN hrq;clear hrq;have HK3_5:=hid (HK3_4.out.grown (Or.inl rfl) hg);have HK5_5:=hid (KeptP.refl (Tri f w.heap.size w2.heap.size) w5);clear hg hr hp hq)
  | (go_at_call 119;refine(zaJ (HP3.out.far HBq.out 1 (.slice ea3 l3.length ec3)) {data:=#[123]} [123] rfl (by decide) (fun e=>by cases e)).mono ?_;intro e w4 hq;rcases hq.split with ⟨a4,s4,v4,hr,rfl,hC,hp,hg⟩ | ⟨n,s',hr,rfl,hp,hg⟩;rotate_left;(exact⟨rfl,QPost.wrong (by unfold zba;rw[HE1.out];show(name F.z s1).bind _=_;rw[HE2.out];show(args F.z m (name F.z) s2).bind _=_;rw[HE3.out];show(take F.z [123] s3).bind _=_;rw[hr];rfl) hp (zaa (zag HG3.out HWq.out 1 (.slice ea3 l3.length ec3)) hg)⟩);have HE4:=hid hr;have HP4:=hid hp;obtain rfl:v4=.tuple #[]:=hC;have HG4:Hid (w.grownBy w4 (some f)):=hid (zaa (zag HG3.out HWq.out 1 (.slice ea3 l3.length ec3)) hg);have HS4:=hid hg.size;have hrr:w4.heap[w.heap.size]?=some (.cells #[.string ⟨#[]⟩,.slice none 0 0,.slice none 0 0,.slice none 0 0] 47 (0,0)):=(hg.block w.heap.size (lt_of_block ((Below.heap_setCell _ _ _ _ (Nat.ne_of_lt HQrq.out)).trans HRr3.out)) HNr.out).trans ((Below.heap_setCell _ _ _ _ (Nat.ne_of_lt HQrq.out)).trans HRr3.out);have HRr4:=hid hrr;clear ry rx0 rx1 rx2 rx3 rl;obtain⟨ry,rx0,rx1,rx2,rx3,rl⟩:=zcN hrr;clear hrr;have hrq:w4.heap[w2.heap.size]?=some (.cells #[.string (bs a2),(.slice ea3 l3.length ec3),.slice none 0 0,.slice none 0 0] 47 (0,0)):=(hg.block w2.heap.size (lt_of_block (zaH (.slice ea3 l3.length ec3) HRq3.out)) HNq.out).trans (zaH (.slice ea3 l3.length ec3) HRq3.out);have HRq4:=hid hrq;clear qy qx0 qx1 qx2 qx3 ql;obtain⟨qy,qx0,qx1,qx2,qx3,ql⟩:=zcN hrq;clear hrq;have HK3_4:=hid ((HK3_3.out.set (Or.inr (Or.inr rfl)) 1 (.slice ea3 l3.length ec3)).grown (Or.inl rfl) hg);clear hg hr hp hq)
  | (go_at_call 121;refine(argsN_any m (HP2.out.alloc (.cells #[.string (bs a2),.slice none 0 0,.slice none 0 0,.slice none 0 0] 47)) ((((HFIN.out.snd HE1.out).snd HE2.out)).fst)).mono ?_;intro e w3 hq;rcases hq.split with ⟨a3,s3,v3,hr,rfl,hC,hp,hg⟩ | ⟨n,s',hr,rfl,hp,hg⟩;rotate_left;(exact⟨rfl,QPost.wrong (by unfold zba;rw[HE1.out];show(name F.z s1).bind _=_;rw[HE2.out];show(args F.z m (name F.z) s2).bind _=_;rw[hr];rfl) hp (zaa (zad HG2.out (.cells #[.string (bs a2),.slice none 0 0,.slice none 0 0,.slice none 0 0] 47)) hg)⟩);have HE3:=hid hr;have HP3:=hid hp;obtain⟨ea3,ec3,l3,hv,hT⟩:=hC;subst hv;have HT3:=hid hT;clear hT;have HG3:Hid (w.grownBy w3 (some f)):=hid (zaa (zad HG2.out (.cells #[.string (bs a2),.slice none 0 0,.slice none 0 0,.slice none 0 0] 47)) hg);have HS3:=hid hg.size;have HNq:Hid ((some (w2.heap.size):Option Nat)≠some f):=hid (by have h0:=HP2.out.flt;simp at h0 ⊢;omega);have HBq:Hid (B≤w2.heap.size):=hid (by have h0:=HP2.out.le;simp at h0 ⊢;omega);have HWq:Hid (w.heap.size≤w2.heap.size):=hid (by have h0:=HG2.out.size;simp at h0 ⊢;omega);have HQrq:Hid (w.heap.size < w2.heap.size):=hid (by have h0:=lt_of_block HRr2.out;simp at h0 ⊢;omega);have nqrq:=Nat.ne_of_lt HQrq.out;have hrr:w3.heap[w.heap.size]?=some (.cells #[.string ⟨#[]⟩,.slice none 0 0,.slice none 0 0,.slice none 0 0] 47 (0,0)):=(hg.block w.heap.size (lt_of_block (zai (.cells #[.string (bs a2),.slice none 0 0,.slice none 0 0,.slice none 0 0] 47) HRr2.out)) HNr.out).trans (zai (.cells #[.string (bs a2),.slice none 0 0,.slice none 0 0,.slice none 0 0] 47) HRr2.out);have HRr3:=hid hrr;clear ry rx0 rx1 rx2 rx3 rl;obtain⟨ry,rx0,rx1,rx2,rx3,rl⟩:=zcN hrr;clear hrr;have hrq:w3.heap[w2.heap.size]?=some (.cells #[.string (bs a2),.slice none 0 0,.slice none 0 0,.slice none 0 0] 47 (0,0)):=(hg.block w2.heap.size (lt_of_block (zao (.cells #[.string (bs a2),.slice none 0 0,.slice none 0 0,.slice none 0 0] 47) (by simp))) HNq.out).trans (zao (.cells #[.string (bs a2),.slice none 0 0,.slice none 0 0,.slice none 0 0] 47) (by simp));have HRq3:=hid hrq;obtain⟨qy,qx0,qx1,qx2,qx3,ql⟩:=zcN hrq;clear hrq;have HK3_3:=hid (KeptP.refl (Tri f w.heap.size w2.heap.size) w3);clear hg hr hp hq)
  | (go_at_call 120;refine(zcy HP1.out).mono ?_;intro e w2 hq;rcases hq.split with ⟨a2,s2,v2,hr,rfl,hC,hp,hg⟩ | ⟨n,s',hr,rfl,hp,hg⟩;rotate_left;(exact⟨rfl,QPost.wrong (by unfold zba;rw[HE1.out];show(name F.z s1).bind _=_;rw[hr];rfl) hp (zaa HG1.out hg)⟩);have HE2:=hid hr;have HP2:=hid hp;obtain rfl:v2=.string (bs a2):=hC;have HG2:Hid (w.grownBy w2 (some f)):=hid (zaa HG1.out hg);have HS2:=hid hg.size;have hrr:w2.heap[w.heap.size]?=some (.cells #[.string ⟨#[]⟩,.slice none 0 0,.slice none 0 0,.slice none 0 0] 47 (0,0)):=(hg.block w.heap.size (lt_of_block HRr1.out) HNr.out).trans HRr1.out;have HRr2:=hid hrr;clear ry rx0 rx1 rx2 rx3 rl;obtain⟨ry,rx0,rx1,rx2,rx3,rl⟩:=zcN hrr;clear hrr;clear hg hr hp hq)
  | (go_at_call 119;refine(zaJ HP0.out {data:=#[102,117,110,99]} kFunc rfl (by decide) (fun e=>by cases e)).mono ?_;intro e w1 hq;rcases hq.split with ⟨a1,s1,v1,hr,rfl,hC,hp,hg⟩ | ⟨n,s',hr,rfl,hp,hg⟩;rotate_left;(exact⟨rfl,QPost.wrong (by unfold zba;rw[hr];rfl) hp (zaa HG0.out hg)⟩);have HE1:=hid hr;have HP1:=hid hp;obtain rfl:v1=.tuple #[]:=hC;have HG1:Hid (w.grownBy w1 (some f)):=hid (zaa HG0.out hg);have HS1:=hid hg.size;have hrr:w1.heap[w.heap.size]?=some (.cells #[.string ⟨#[]⟩,.slice none 0 0,.slice none 0 0,.slice none 0 0] 47 (0,0)):=(hg.block w.heap.size (lt_of_block HRr0.out) HNr.out).trans HRr0.out;have HRr1:=hid hrr;obtain⟨ry,rx0,rx1,rx2,rx3,rl⟩:=zcN hrr;clear hrr;clear hg hr hp hq))
 have hq:=HQrq.out
 have hn:=name_ok HP1.out HE2.out
 have hs2:=HG2.out.size
 have hlt:=HLT.out
 have hle:=HLE.out
 obtain⟨p0,p1,p2,p3⟩:=HT3.out
 obtain⟨v0,v1,v2,v3⟩:=HT5.out
 obtain⟨b1,b2,b3,b4⟩:=HT6.out
 have m3:=HS3.out
 have m4:=HS4.out
 have m5:=HS5.out
 have m6:=HS6.out
 simp at m3 m4 m5 m6
 subst p0
 subst v0
 have hno:∀A,w2.heap.size < A→∀b,A≤b→¬Tri f w.heap.size w2.heap.size b:=fun A hA b hb e=>by unfold Tri at e;omega
 refine bodyPost_ret (v:=.agg #[.string (bs a2),.slice ea3 l3.length ec3,.slice ea5 l5.length ec5,.slice ea6 l6.length ec6]) (by simp[results,Tryz.results80,go_sem, *]) rfl (QPost.good (by unfold zba;rw[HE1.out];show(name F.z s1).bind _=_;rw[HE2.out];show(args F.z m (name F.z) s2).bind _=_;rw[HE3.out];show(take F.z [123] s3).bind _=_;rw[HE4.out];show(vars F.z m s4).bind _=_;rw[HE5.out];show(block F.z m [] s5).bind _=_;rw[HE6.out];show(take F.z [125] s6).bind _=_;rw[HE7.out]; rfl) (cf_mk hn p1 (zcR (P:=Tri f w.heap.size w2.heap.size) (wa:=w3) ?_ (hno _ (by first | omega | (simp;done) | (simp;omega))) (by first | omega | (simp;done) | (simp;omega)) p2) p3 v1 (zcR (P:=Tri f w.heap.size w2.heap.size) (wa:=w5) ?_ (hno _ (by first | omega | (simp;done) | (simp;omega))) (by first | omega | (simp;done) | (simp;omega)) v2) v3 b1 b2 (ss_move (P:=Tri f w.heap.size w2.heap.size) (wa:=w6) ?_ (hno _ (by first | omega | (simp;done) | (simp;omega))) (by first | omega | (simp;done) | (simp;omega)) b3) b4) ?_ ?_)
 ·repeat (first | with_reducible exact HK3_7.out | (with_reducible refine KeptP.set ?_ (Or.inr (Or.inl rfl)) _ _))
 ·repeat (first | with_reducible exact HK5_7.out | (with_reducible refine KeptP.set ?_ (Or.inr (Or.inl rfl)) _ _))
 ·repeat (first | with_reducible exact HK6_7.out | (with_reducible refine KeptP.set ?_ (Or.inr (Or.inl rfl)) _ _))
 ·repeat (first | with_reducible exact HP7.out | (with_reducible refine Pa.far ?_ HBr.out _ _) | (with_reducible refine Pa.alloc ?_ _))
 ·repeat (first | with_reducible exact HG7.out | (with_reducible refine zag ?_ (Nat.le_refl _) _ _) | (with_reducible refine zad ?_ _))
end
end Go.Proofs.YtljbbhhiiiepcaaGreatDoor.Pm
namespace Go.Proofs.YtljbbhhiiiepcaaGreatDoor.Pm
open Go Go.RowKit Go.Proofs.YtljbbhhiiiepcaaGreatDoor
open Go.Lib (hid)
theorem fun_info:(Tryz.prog.info? 47).map (fun i=>(i.zero,i.size,i.bytes))=some (some (.agg #[.string {data:=#[]},.slice none 0 0,.slice none 0 0,.slice none 0 0]),4,88):=by kernel_rfl
abbrev four (T:FT):Array Value:=#[.string T.name,.slice T.pa T.params.length T.pc,.slice T.va T.vars.length T.vc,.slice T.ba T.body.length T.bc]
theorem ft_val (T:FT):T.val=.agg (four T):=rfl
theorem four_one (T:FT):∀u∈(four T).toList,u.oneCell'=true:=by
 intro u hu
 simp only[four,List.mem_cons,List.not_mem_nil,or_false] at hu
 rcases hu with rfl | rfl | rfl | rfl<;>rfl
structure PInv (F:PC) (B f m:Nat) (all:PR (List RF)) (w wr:World) (v:Value) (n:Nat) (s':PS) (l:List FT):Prop where
 tl:funcs F.z m n (l.map FT.rf) s'=all
 pa:Pa F B f s' wr
 gr:w.grownBy wr (some f)
 md:MadeG KF (w.heap.size+1) v l wr
 rt:l.all FT.rightB=true
 ln:l.length+s'.ws.length≤F.ws.length+1
 sz:w.heap.size+1≤wr.heap.size
 r0:wr.heap[w.heap.size]?=some (.cells #[.slice none 0 0] 24 (0,0))
def PRel (F:PC) (B f m:Nat) (all:PR (List RF)) (w:World) (v:Value) (wr:World):Prop:=∃(n:Nat) (s':PS) (l:List FT),PInv F B f m all w wr v n s' l
theorem new_hid {w:World} (o:Obj) {p:Addr} {u:Value} (hc:w.cell? p=some u):(hide (some w.heap.size) (w.alloc o)).cell? p=some u:=by
 have hlt:=World.block_lt_of_cell? w p hc
 refine zav.2 ⟨fun e=>by simp at e;omega,?_⟩
 rw[World.cell?_alloc_lt _ _ _ hlt]
 exact hc
theorem zdw {R:Nat} {a w:World} (h:KeptP (fun b=>b=R) a w) (k:Nat) (u:Value):KeptP (fun b=>b=R) a (w.setCell ⟨R,k,none⟩ u):=h.set rfl k u
theorem fs_of {w:World} {B:Nat} {a:Option Addr} {l:List FT} (h:RowsG KF w B a l) (hl:l.length≤9223372036854775807):FsIn w B a l:=
 ⟨hl,fun i hi=>by simpa[KF] using (h i hi).1,fun i hi=>(h i hi).2⟩
section
variable {F:PC} {B f:Nat} {s:PS} {w:World}
theorem ended_at (h:Pa F B f s w) {b:Bool} (e:s.ws.isEmpty=b):Calls Tryz.prog 81 #[ptrP f] w fun e w'=>e=.returned (.bool b)∧Below w.heap.size w w':=by rw[←e];exact zdg h
theorem zda (m:Nat) (hm:∀k,k < m→RuleS F B f (stmt F.z k)) (hfin:Fin (zbI F.z m s)) (h:Pa F B f s w):
  Calls Tryz.prog 52 #[ptrP f] w (QPost F B f CFs (zbI F.z m s) w):=by
 have HP0:=hid (h.alloc (.cells #[.slice none 0 0] 24))
 have HG0:Hid (w.grownBy (w.alloc (.cells #[.slice none 0 0] 24)) (some f)):=hid (zad (zaf w (some f)) _)
 have HR0:Hid ((w.alloc (.cells #[.slice none 0 0] 24)).heap[w.heap.size]?=some (.cells #[.slice none 0 0] 24 (0,0))):=hid (zaj w _)
 have HNr:Hid ((some w.heap.size:Option Nat)≠some f):=hid (by have h1:=h.lt;have h2:=h.le;simp;omega)
 have HM:=hid hm
 have HFIN:=hid hfin
 have HLT:=hid h.lt
 have HLE:=hid h.le
 obtain⟨ei,hi,hz0,hz1,hz2⟩:=info_parts fun_info
 clear hm hfin h
 go_enter Tryz.func52,Tryz.ntmps52
 go_wp2_with (go_at_call 80;refine(zb2 m HM.out HFIN.out.fst HP0.out).mono ?_;intro e w1 hq;rcases hq.split with ⟨a,s1,v,hr,rfl,hC,hp,hg⟩ | ⟨k,s',hr,rfl,hp,hg⟩;rotate_left;(exact⟨rfl,QPost.wrong (by unfold zbI;rw[hr];rfl) hp (zaa HG0.out hg)⟩);obtain⟨T,hv,hT⟩:=hC;rw[ft_val] at hv;subst hv;have HT:=hid hT;have HE1:=hid hr;have HP1:=hid hp;have HG1:Hid (w.grownBy w1 (some f)):=hid (zaa HG0.out hg);have HS1:=hid hg.size;have hrr:=(hg.block w.heap.size (lt_of_block HR0.out) HNr.out).trans HR0.out;have HR1:=hid hrr;have ry:=fun k=>zac (k:=k) hrr;have rx:=zab (k:=0) hrr rfl;have rl:=lt_of_block hrr;clear hr hp hg hq hT hrr)
 have HS0:Hid (PRel F B f m (zbI F.z m s) w (.slice (some ⟨w1.heap.size,0,none⟩) 1 1) (w1.alloc (.cells (four T) 47))):=hid ⟨m,s1,[T],⟨by unfold zbI;rw[HE1.out];show funcs F.z m m [T.rf] s1=funcs F.z m m [a] s1;rw[HT.out.1],HP1.out.alloc _,zad HG1.out _,made_oneG KF (c:=four T) rfl (zaj _ _) (by have:=HS1.out;simpa using this) ?_,by simp[HT.out.2.1],by have h1:=HP1.out.len;simp;omega,by have:=HS1.out;simp at this ⊢;omega,zai _ HR1.out⟩⟩
 rotate_left
 ·exact FT.In.mono (HT.out.2.2.keep fun p u _ hc=>new_hid _ hc) (by simp)
 clear HE1 HP1 HG1 HT HS1 HR1 rx ry rl
 go_loopw [3] (fun v wr=>PRel F B f m (zbI F.z m s) w v wr) (fun _ wr=>F.ws.length - posW f wr)
 case atStart=>exact HS0.out
 case round =>
  clear HS0
  obtain⟨n1,s',l,hI⟩:=hrel
  have HTL:=hid hI.tl
  have HP1:=hid hI.pa
  have HG1:=hid hI.gr
  have HMD:=hid hI.md
  have HRT:=hid hI.rt
  have HLN:=hid hI.ln
  have HSZ:=hid hI.sz
  have HR1:=hid hI.r0
  have HMY:=hid hI.pa.many
  clear hI
  obtain⟨n2,rfl⟩:∃n2,n1=n2+1:=by
   cases n1 with
   | zero=>exact absurd (by rw[←HTL.out,funcs]) (HFIN.out s')
   | succ n2=>exact⟨n2,rfl⟩
  rcases hat:s'.ws.isEmpty with _ | _
  ·have HTT:Hid (funcs F.z m (n2+1) (l.map FT.rf) s'=(zba F.z m s').bind fun x s2=>funcs F.z m n2 (l.map FT.rf++[x]) s2):=hid (by rw[funcs,if_neg (by simp[hat])])
   have HAT:=hid hat
   have HFI:Hid (Fin (zba F.z m s')):=hid (by have:=HFIN.out;rw[←HTL.out,HTT.out] at this;exact this.fst)
   clear hat
   go_wp2_with (first
    | (at_builtin;refine wpList_append_own_at _ rfl _ _ 22 rfl (w.heap.size+1) 47 ei _ 4 88 Tryz.underlying22 hi hz0 hz1 hz2 rfl (by decide) _ l.length _ rfl (HMD4.out.1.alloc _) ⟨w4.heap.size,0,none⟩ 1 1 (four T).toList rfl rfl (World.news_of_block (zaj w4 (.cells (four T) 47))) (four_one T) (by have h1:=HLN.out;have h2:=HMY.out;unfold maxLen;omega) (by have h1:=HLN.out;have h2:=HMY.out;omega) (by have:=HSZ4.out;simp;omega) ?_;intro v' w5 hown hgrow hnil hat;have HO5:=hid (And.intro hown (And.intro hgrow hat));clear hown hgrow hnil hat)
    | (go_at_call 80;refine(zb2 m HM.out HFI.out HP2.out).mono ?_;intro e w4 hq;rcases hq.split with ⟨a,s4,v4,hr,rfl,hC,hp,hg⟩ | ⟨k,s9,hr,rfl,hp,hg⟩;rotate_left;(exact⟨rfl,QPost.wrong (by rw[←HTL.out,HTT.out,hr];rfl) hp (zaa HG2.out hg)⟩);obtain⟨T,hv,hT⟩:=hC;rw[ft_val] at hv;subst hv;have HT:=hid hT;have HE4:=hid hr;have HP4:=hid hp;have HG4:=hid (zaa HG2.out hg);have HMD4:=hid (HMD2.out.grown hg (by have:=HLT.out;have:=HLE.out;omega));have HSZ4:Hid (w.heap.size+1≤w4.heap.size):=hid (Nat.le_trans HSZ2.out hg.size);have HR4:=hid ((hg.block w.heap.size (lt_of_block HR2.out) HNr.out).trans HR2.out);clear hr hp hg hq hT)
    | (go_at_call 81;refine(ended_at HP1.out HAT.out).mono ?_;rintro e w2 ⟨rfl,hb⟩;have HP2:=hid (HP1.out.on hb);have HG2:=hid (zaa HG1.out (zae hb (some f)));have HMD2:=hid (HMD.out.grown (zae hb (some f)) (by have:=HLT.out;have:=HLE.out;omega));have HSZ2:Hid (w.heap.size+1≤w2.heap.size):=hid (Nat.le_trans HSZ.out hb.size);have HR2:=hid ((hb.block w.heap.size (lt_of_block HR1.out)).trans HR1.out);clear hb))
   obtain⟨o1,o2,o3⟩:=HO5.out
   have hle:=HLE.out
   have hlt:=HLT.out
   obtain⟨t1,t2,t3⟩:=HT.out
   have hne:=fun R hR=>(HMD4.out.1.lt R hR).1
   have hp5:Pa F B f s4 w5:=(HP4.out.alloc _).grownR (fun R hR=>by have:=hne R hR;omega) o2
   have h2:=(function_less HE4.out).1
   have h1:=HLN.out
   have h3:=HSZ2.out
   have h4:=HSZ4.out
   have h5:=o2.size
   go_roundw
   case rel =>
    refine⟨n2,s4,l++[T],⟨by rw[←HTL.out,HTT.out,HE4.out];show funcs F.z m n2 ((l++[T]).map FT.rf) s4=funcs F.z m n2 (l.map FT.rf++[a]) s4;rw[List.map_append];simp[t1],hp5,zdv (zad HG4.out _) o2 (fun k hk=>by have:=hne k hk;omega),(HMD4.out.alloc _).snoc (S:=T) (A:=w2.heap.size) (t3.keep (zaP ((Below.refl _ _).alloc (Nat.le_refl _) _))) h3 (fun k hk=>(HMD2.out.1.lt _ hk).2) o1 o2 o3,by simp[HRT.out,t2],by simp;omega,by simp at h5;omega,?_⟩⟩
    rw[o2.block w.heap.size (by have:=lt_of_block HR4.out;simp;omega) (fun e=>by have:=hne _ e.symm;omega)]
    exact zai _ HR4.out
   case measure=>exact meas (s2:=s4) hp5 HP1.out (by omega)
  ·have HTT:Hid (funcs F.z m (n2+1) (l.map FT.rf) s'=.ok (l.map FT.rf) s'):=hid (by rw[funcs,if_pos hat])
   obtain⟨a,c,e,he⟩:=HMD.out.rows
   subst e
   have HRO:=hid he
   clear he
   have HAT:=hid hat
   clear hat
   go_wp2_with (go_at_call 81;refine(ended_at HP1.out HAT.out).mono ?_;rintro e w2 ⟨rfl,hb⟩;have HB2:=hid hb;have hrr:=(hb.block w.heap.size (lt_of_block HR1.out)).trans HR1.out;have ry:=fun k=>zac (k:=k) hrr;have rx:=zab (k:=0) hrr rfl;have rl:=lt_of_block hrr;clear hb hrr)
   have he:=HRO.out
   have hle:=HLE.out
   have h1:=HLN.out
   have h2:=HMY.out
   refine bodyPost_ret (v:=.agg #[.slice a l.length c]) (by simp[results,Tryz.results52,go_sem, *]) rfl (QPost.good (by rw[←HTL.out,HTT.out]) ⟨a,c,l,rfl,rfl,HRT.out,fs_of ((zcR (P:=fun b=>b=w.heap.size) (wa:=w2) ?_ (fun b hb e=>by omega) (Nat.le_succ _) (he.on HB2.out))) (by omega),by omega⟩ ?_ ?_)
   ·repeat (first | with_reducible exact KeptP.refl _ _ | (with_reducible refine zdw ?_ _ _))
   ·repeat (first | with_reducible exact HP1.out.on HB2.out | (with_reducible refine Pa.far ?_ hle _ _))
   ·repeat (first | with_reducible exact zaa HG1.out (zae HB2.out _) | (with_reducible refine zag ?_ (Nat.le_refl _) _ _))
end
end Go.Proofs.YtljbbhhiiiepcaaGreatDoor.Pm

namespace Go.Proofs.YtljbbhhiiiepcaaGreatDoor.Pm
open Go
open Go.Proofs.YtljbbhhiiiepcaaGreatDoor.Lx (zcZ zdj wordOf_tag zcs)
theorem numOf_le {most:Nat} {l:List UInt8} {u:Nat} (h:zbC most l=some u):u≤most:=by
 unfold zbC at h
 split at h
 ·cases h
 ·split at h
  ·split at h
   ·cases h
   ·cases h;omega
  ·cases h
theorem word_good {c:UInt8} {r:List UInt8} {k len n p:Nat} (h:za6 (c :: r)=some (k,len,n)) (hp:p≤100000):Good ⟨k,(c :: r).take len,n,p⟩:=by
 have tk:∀(q:UInt8→Bool),(c :: r).take ((c :: r).takeWhile q).length=(c :: r).takeWhile q:=fun q=>tw_take _
 have hall:∀(q:UInt8→Bool) (l:List UInt8),(l.takeWhile q).all q=true:=fun q l=>by
  exact List.all_takeWhile
 have brk:∀(l:List UInt8),l.head?.any (fun x=>isLt x||isDg x||x.toNat==64)=true→za8 l=false∧za9 l=false:=fun l hl=>by
  cases l with
  | nil=>cases hl
  | cons a t =>
   simp only[List.head?_cons,Option.any_some] at hl
   have ne:∀x:UInt8,(isLt x||isDg x||x.toNat==64)=false→a≠x:=fun x hx e=>by rw[e,hx] at hl;cases hl
   have h1:=ne 40 (by decide)
   have h2:=ne 91 (by decide)
   have h3:=ne 123 (by decide)
   have h4:=ne 41 (by decide)
   have h5:=ne 93 (by decide)
   have h6:=ne 125 (by decide)
   simp[za8,za9,h1,h2,h3,h4,h5,h6]
 by_cases hl:isLt c=true
 ·have e:=zcZ (r:=r) hl
  rw[e] at h
  have hpt:isPt c=true:=by simp[isPt,hl]
  have hd:((c :: r).takeWhile isPt).head?=some c:=by rw[List.takeWhile_cons_of_pos hpt];rfl
  by_cases hk:zbn ((c :: r).takeWhile isPt)=true
  ·rw[if_pos hk] at h
   simp only[Option.some.injEq,Prod.mk.injEq] at h
   obtain⟨rfl,rfl,rfl⟩:=h
   rw[tk]
   exact⟨by simp,by simp,by simp,by simp,fun _=>brk _ (by rw[hd];simp[hl]),by simp,hp⟩
  ·rw[if_neg hk] at h
   by_cases hb:24 < ((c :: r).takeWhile isPt).length
   ·rw[if_pos hb] at h;cases h
   ·rw[if_neg hb] at h
    simp only[Option.some.injEq,Prod.mk.injEq] at h
    obtain⟨rfl,rfl,rfl⟩:=h
    rw[tk]
    refine⟨fun _=>?_,by simp,by simp,by simp,fun _=>brk _ (by rw[hd];simp[hl]),by simp,hp⟩
    show zaK ((c :: r).takeWhile isPt)=true
    have h0:0 < ((c :: r).takeWhile isPt).length:=by rw[List.takeWhile_cons_of_pos hpt];simp
    simp only[zaK,Bool.and_eq_true,decide_eq_true_eq,Bool.not_eq_true']
    exact⟨⟨⟨⟨h0,by omega⟩,by simpa using hk⟩,by rw[hd];simpa using hl⟩,hall _ _⟩
 ·have hl':isLt c=false:=by simpa using hl
  by_cases hd:isDg c=true
  ·rw[zdj hl' hd] at h
   cases hn:zbC 9223372036854775808 ((c :: r).takeWhile isDg) with
   | none=>rw[hn] at h;cases h
   | some m =>
    rw[hn] at h
    simp only[Option.map_some,Option.some.injEq,Prod.mk.injEq] at h
    obtain⟨rfl,rfl,rfl⟩:=h
    rw[tk]
    have hm:=numOf_le hn
    exact⟨by simp,hm,by simp,by simp,fun _=>brk _ (by rw[List.takeWhile_cons_of_pos hd];simp[hd]),by simp,hp⟩
  ·have hd':isDg c=false:=by simpa using hd
   by_cases h64:(c.toNat==64)=true
   ·rw[wordOf_tag hl' hd' h64] at h
    cases hn:zbC 1000000 (r.takeWhile isDg) with
    | none=>rw[hn] at h;cases h
    | some m =>
     rw[hn] at h
     simp only[Option.map_some,Option.some.injEq,Prod.mk.injEq] at h
     obtain⟨rfl,rfl,rfl⟩:=h
     have hm:=numOf_le hn
     refine⟨by simp,by show m≤_;omega,fun _=>hm,by simp,fun _=>brk _ ?_,by simp,hp⟩
     rw[Nat.add_comm,List.take_succ_cons]
     simp[h64]
   ·rw[zcs hl' hd' (by simpa using h64)] at h
    by_cases hne:zaB (c :: r)=[]
    ·rw[if_pos hne] at h;cases h
    ·rw[if_neg hne] at h
     simp only[Option.some.injEq,Prod.mk.injEq] at h
     obtain⟨rfl,rfl,rfl⟩:=h
     have hlt:(c :: r).take (zaB (c :: r)).length=zaB (c :: r):=(List.prefix_iff_eq_take.1 (zbP (c :: r)).2).symm
     rw[hlt]
     have hin:zaB (c :: r)∈zaX:=(zbP (c :: r)).1.resolve_left hne
     generalize zaB (c :: r)=q at hin
     exact⟨by simp,by simp,by simp,by simp,(fun h=>(h rfl).elim),(fun _=>hin),hp⟩
theorem lex_good:∀(n p:Nat) (l:List UInt8),l.length < n→p+l.length≤100000→∀ts q,lexP p l=(some ts,q)→(∀t∈ts,Good t)∧ts.length≤l.length∧(∀t∈ts,t.at' < p+l.length):=by
 intro n
 induction n with
 | zero=>intro p l h;omega
 | succ n ih =>
  intro p l hl hp ts q e
  cases l with
  | nil=>rw[lexP_nil] at e;cases e;simp
  | cons c r =>
   simp only[List.length_cons] at hl hp ⊢
   cases h:isSp c with
   | true =>
    rw[zdC p r h] at e
    obtain⟨h1,h2,h3⟩:=ih (p+1) r (by omega) (by omega) ts q e
    exact⟨h1,by omega,fun t ht=>by have:=h3 t ht;omega⟩
   | false =>
    cases hw:za6 (c :: r) with
    | none=>rw[lexP_bad p r h hw] at e;cases e
    | some x =>
     obtain⟨k,len,m⟩:=x
     have hlen:=zce hw
     simp only[List.length_cons] at hlen
     rw[zd1 p r h hw] at e
     cases e2:lexP (p+len) ((c :: r).drop len) with
     | mk o q' =>
      rw[e2] at e
      cases o with
      | none=>cases e
      | some ts' =>
       simp only[pre,Option.map_some,Prod.mk.injEq,Option.some.injEq] at e
       obtain⟨rfl,rfl⟩:=e
       have hd:((c :: r).drop len).length=r.length+1 - len:=by simp
       obtain⟨h1,h2,h3⟩:=ih (p+len) ((c :: r).drop len) (by omega) (by omega) ts' q' e2
       refine⟨fun t ht=>?_,by simp only[List.length_cons];omega,fun t ht=>?_⟩
       ·rcases List.mem_cons.1 ht with rfl | ht
        ·exact word_good hw (by omega)
        ·exact h1 t ht
       ·rcases List.mem_cons.1 ht with rfl | ht
        ·show p < _;omega
        ·have:=h3 t ht;omega
inductive Ans (α:Type) where
 | ok (a:α) (mo:Nat)
 | bad (at' e:Nat)
deriving DecidableEq
def zb9 {α:Type} (m:Nat) (rule:Nat→Nat→PS→PR α) (l:List UInt8):Ans α:=match lexP 0 l with
 | (none,p)=>.bad p 2
 | (some ws,_)=>match whole l.length (rule l.length m) ws with
  | .ok a s=>.ok a s.mo
  | .bad n s=>.bad (place l.length s) n
def FinA {α:Type} (m:Nat) (rule:Nat→Nat→PS→PR α) (l:List UInt8):Prop:=∀ws q,lexP 0 l=(some ws,q)→Fin (whole l.length (rule l.length m) ws)
theorem finA_ok {α:Type} {m:Nat} {rule:Nat→Nat→PS→PR α} {l:List UInt8} {a:α} {n:Nat} (h:zb9 m rule l=.ok a n):FinA m rule l:=fun ws q e s' e'=>by
 unfold zb9 at h
 rw[e] at h
 simp only at h
 rw[e'] at h
 cases h
theorem lex_many {l:List UInt8} (hl:l.length≤100000) {ws:List Tok} {q:Nat} (h:lexP 0 l=(some ws,q)):(∀t∈ws,Good t)∧ws.length≤l.length∧q=l.length:=by
 obtain⟨h1,h2,-⟩:=lex_good (l.length+1) 0 l (by omega) (by omega) ws q h
 have:=(lexP_at (l.length+1) 0 l (by omega)).2 ws (by rw[h])
 rw[h] at this
 exact⟨h1,h2,by simpa using this⟩
def zbM (m:Nat) (l:List UInt8):Ans (List RF):=zb9 m zbI l
end Go.Proofs.YtljbbhhiiiepcaaGreatDoor.Pm
namespace Go.Proofs.YtljbbhhiiiepcaaGreatDoor.Pm
open Go
end Go.Proofs.YtljbbhhiiiepcaaGreatDoor.Pm
