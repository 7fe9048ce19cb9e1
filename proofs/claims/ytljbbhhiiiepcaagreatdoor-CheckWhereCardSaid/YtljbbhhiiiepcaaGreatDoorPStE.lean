/- Statements that hold statements: if. -/
import Derived.Test.YtljbbhhiiiepcaaGreatDoorPFin
import Derived.Test.YtljbbhhiiiepcaaGreatDoorPStC
set_option linter.unusedSimpArgs false
set_option linter.unusedVariables false
set_option maxHeartbeats 8000000
set_option maxRecDepth 100000
namespace Go.Proofs.YtljbbhhiiiepcaaGreatDoor.Pm
open Go Go.RowKit Go.Proofs.YtljbbhhiiiepcaaGreatDoor
open Go.Lib (hid)
theorem es_moveX {f R X A A':Nat} {a:Option Addr} {j:Nat} {l:List ET} {wa wb:World} (hk:KeptP (fun b=>b=f∨b=R∨b=X) wa wb) (hX:wa.heap.size≤X) (h1:f < A) (h2:R < A) (hA:A'≤A) (h:EsIn wa A a j l):EsIn wb A' a j l:=(h.keep fun p v hp hc=>hk.cell (fun e=>by have:=World.block_lt_of_cell? wa p hc;omega) hc).mono hA
theorem ss_moveX {f R X A A':Nat} {a:Option Addr} {j:Nat} {l:List ST} {wa wb:World} (hk:KeptP (fun b=>b=f∨b=R∨b=X) wa wb) (hX:wa.heap.size≤X) (h1:f < A) (h2:R < A) (hA:A'≤A) (h:SsIn wa A a j l):SsIn wb A' a j l:=(h.keep fun p v hp hc=>hk.cell (fun e=>by have:=World.block_lt_of_cell? wa p hc;omega) hc).mono hA
section
variable {F:PC} {B f:Nat} {s:PS} {w:World}
theorem branch_a (h:Pa F B f s w) (m:Nat) (hm:∀k,k < m→RuleS F B f (stmt F.z k)) (hfin:Fin (zbd F.z (m+1) s)) {n:Nat} {s1:PS} (e1:test F.z m kIf s=.bad n s1):Calls Tryz.prog 224 #[ptrP f] w (QPost F B f CS (zbd F.z (m+1) s) w):=by
 obtain⟨HP0,HG0,HRr0⟩:=zby h
 have HLT:=hid h.lt
 have HLE:=hid h.le
 have HFU:=hfin
 rw[zbd] at HFU
 have HF1:=hid HFU.fst
 have HM:=hid hm
 have HE1:=hid e1
 clear h HFU hfin hm e1
 go_enter Tryz.func224,Tryz.ntmps224
 go_wp2_with (go_at_call 262;refine(zc9 HP0.out m {data:=#[105,102]} kIf rfl (by decide) (by decide) HF1.out).mono ?_;intro e w1 hq;rw[HE1.out] at hq;obtain⟨rfl,hp,hg⟩:=hq;exact⟨rfl,QPost.wrong (by rw[zbd,HE1.out];rfl) hp (zaa HG0.out hg)⟩)
theorem branch_b (h:Pa F B f s w) (m:Nat) (hm:∀k,k < m→RuleS F B f (stmt F.z k)) (hfin:Fin (zbd F.z (m+1) s)) {n:Nat} {c:RE} {s1 s2:PS} (e1:test F.z m kIf s=.ok c s1) (e2:zap F.z [123] (block F.z m []) [125] s1=.bad n s2):Calls Tryz.prog 224 #[ptrP f] w (QPost F B f CS (zbd F.z (m+1) s) w):=by
 obtain⟨HP0,HG0,HRr0⟩:=zby h
 have HLT:=hid h.lt
 have HLE:=hid h.le
 have HFU:=hfin
 rw[zbd] at HFU
 have HF1:=hid HFU.fst
 have HM:=hid hm
 have HE1:=hid e1
 have HF2:=hid (HFU.snd e1).fst
 have HE2:=hid e2
 clear h HFU hfin hm e1 e2
 go_enter Tryz.func224,Tryz.ntmps224
 go_wp2_with (first
  | (go_at_call 263;refine(zbU m HM.out HP1.out HF2.out).mono ?_;intro e w2 hq;rw[HE2.out] at hq;obtain⟨rfl,hp,hg⟩:=hq;exact⟨rfl,QPost.wrong (by rw[zbd,HE1.out];show(zap _ _ _ _ _).bind _=_;rw[HE2.out];rfl) hp (zaa HG1.out hg)⟩)
  | (go_at_call 262;refine(zc9 HP0.out m {data:=#[105,102]} kIf rfl (by decide) (by decide) HF1.out).mono ?_;intro e w1 hq;rw[HE1.out] at hq;obtain⟨v1,rfl,hC,hp,hg⟩:=hq;obtain⟨N1,T1,hv,hT⟩:=hC;subst hv;have HT1:=hid hT;have HP1:=hid hp;have HG1:Hid (w.grownBy w1 (some f)):=hid (zaa HG0.out hg);have HS1:=hid hg.size;have hrr:=(hg.block w.heap.size (lt_of_block HRr0.out) (by have h0:=HLT.out;have h1:=HLE.out;have h2:=HP0.out.le;simp;omega)).trans HRr0.out;have HRr1:=hid hrr;obtain⟨ry,rx0,rx1,rx2,rx3,rx4,rx5,rx6,rl⟩:=zax hrr;clear hrr;have HK1:=hid (KeptP.refl (Two f w.heap.size) w1);clear hg hp hT))
theorem branch_c (h:Pa F B f s w) (m:Nat) (hm:∀k,k < m→RuleS F B f (stmt F.z k)) (hfin:Fin (zbd F.z (m+1) s)) {c:RE} {b:List RS} {s1 s2:PS} (e1:test F.z m kIf s=.ok c s1) (e2:zap F.z [123] (block F.z m []) [125] s1=.ok b s2) (e3:at' F.z kElse s2=false):Calls Tryz.prog 224 #[ptrP f] w (QPost F B f CS (zbd F.z (m+1) s) w):=by
 obtain⟨HP0,HG0,HRr0⟩:=zby h
 have HLT:=hid h.lt
 have HLE:=hid h.le
 have HFU:=hfin
 rw[zbd] at HFU
 have HF1:=hid HFU.fst
 have HM:=hid hm
 have HE1:=hid e1
 have HF2:=hid (HFU.snd e1).fst
 have HE2:=hid e2
 have HE3:=hid e3
 clear h HFU hfin hm e1 e2 e3
 go_enter Tryz.func224,Tryz.ntmps224
 go_wp2_with (first
  | (go_at_call 174;refine(zaD (HP2.out.alloc (.cells #[.int .i64 4,.int .i64 0,.string ⟨#[]⟩,.string ⟨#[]⟩,.slice (some ⟨N1,0,none⟩) 1 1,.slice ea2 l2.length ec2,.slice none 0 0] 66)) {data:=#[101,108,115,101]} kElse rfl _ HE3.out).mono ?_;rintro e w3 ⟨rfl,hb⟩;have hg:=zae hb (some f);have HP3:=hid ((HP2.out.alloc (.cells #[.int .i64 4,.int .i64 0,.string ⟨#[]⟩,.string ⟨#[]⟩,.slice (some ⟨N1,0,none⟩) 1 1,.slice ea2 l2.length ec2,.slice none 0 0] 66)).on hb);have HG3:Hid (w.grownBy w3 (some f)):=hid (zaa (zad HG2.out (.cells #[.int .i64 4,.int .i64 0,.string ⟨#[]⟩,.string ⟨#[]⟩,.slice (some ⟨N1,0,none⟩) 1 1,.slice ea2 l2.length ec2,.slice none 0 0] 66)) hg);have HRW:=hid (lt_of_block HRr2.out);have hrr:=(hb.block w.heap.size (lt_of_block (zai (.cells #[.int .i64 4,.int .i64 0,.string ⟨#[]⟩,.string ⟨#[]⟩,.slice (some ⟨N1,0,none⟩) 1 1,.slice ea2 l2.length ec2,.slice none 0 0] 66) HRr2.out))).trans (zai (.cells #[.int .i64 4,.int .i64 0,.string ⟨#[]⟩,.string ⟨#[]⟩,.slice (some ⟨N1,0,none⟩) 1 1,.slice ea2 l2.length ec2,.slice none 0 0] 66) HRr2.out);have hrq:=(hb.block w2.heap.size (by simp)).trans (zaj w2 (.cells #[.int .i64 4,.int .i64 0,.string ⟨#[]⟩,.string ⟨#[]⟩,.slice (some ⟨N1,0,none⟩) 1 1,.slice ea2 l2.length ec2,.slice none 0 0] 66));have HRr3:=hid hrr;have HRq3:=hid hrq;clear ry rx0 rx1 rx2 rx3 rx4 rx5 rx6 rl;obtain⟨ry,rx0,rx1,rx2,rx3,rx4,rx5,rx6,rl⟩:=zax hrr;clear hrr;obtain⟨qy,qx0,qx1,qx2,qx3,qx4,qx5,qx6,ql⟩:=zax hrq;clear hrq;have HK3:=hid ((HK2.out.alloc (.cells #[.int .i64 4,.int .i64 0,.string ⟨#[]⟩,.string ⟨#[]⟩,.slice (some ⟨N1,0,none⟩) 1 1,.slice ea2 l2.length ec2,.slice none 0 0] 66)).grown (Or.inl rfl) hg);have HL3:=hid ((HL2.out.alloc (.cells #[.int .i64 4,.int .i64 0,.string ⟨#[]⟩,.string ⟨#[]⟩,.slice (some ⟨N1,0,none⟩) 1 1,.slice ea2 l2.length ec2,.slice none 0 0] 66)).grown (Or.inl rfl) hg);clear hb hg)
  | (go_at_call 263;refine(zbU m HM.out HP1.out HF2.out).mono ?_;intro e w2 hq;rw[HE2.out] at hq;obtain⟨v2,rfl,hC,hp,hg⟩:=hq;obtain⟨ea2,ec2,l2,hv,hT⟩:=hC;subst hv;have HT2:=hid hT;have HP2:=hid hp;have HG2:Hid (w.grownBy w2 (some f)):=hid (zaa HG1.out hg);have HS2:=hid hg.size;have hrr:=(hg.block w.heap.size (lt_of_block HRr1.out) (by have h0:=HLT.out;have h1:=HLE.out;have h2:=HP0.out.le;simp;omega)).trans HRr1.out;have HRr2:=hid hrr;clear ry rx0 rx1 rx2 rx3 rx4 rx5 rx6 rl;obtain⟨ry,rx0,rx1,rx2,rx3,rx4,rx5,rx6,rl⟩:=zax hrr;clear hrr;have HK2:=hid (HK1.out.grown (Or.inl rfl) hg);have HL2:=hid (KeptP.refl (fun b=>b=f∨b=w.heap.size∨b=w2.heap.size) w2);clear hg hp hT)
  | (go_at_call 262;refine(zc9 HP0.out m {data:=#[105,102]} kIf rfl (by decide) (by decide) HF1.out).mono ?_;intro e w1 hq;rw[HE1.out] at hq;obtain⟨v1,rfl,hC,hp,hg⟩:=hq;obtain⟨N1,T1,hv,hT⟩:=hC;subst hv;have HT1:=hid hT;have HP1:=hid hp;have HG1:Hid (w.grownBy w1 (some f)):=hid (zaa HG0.out hg);have HS1:=hid hg.size;have hrr:=(hg.block w.heap.size (lt_of_block HRr0.out) (by have h0:=HLT.out;have h1:=HLE.out;have h2:=HP0.out.le;simp;omega)).trans HRr0.out;have HRr1:=hid hrr;obtain⟨ry,rx0,rx1,rx2,rx3,rx4,rx5,rx6,rl⟩:=zax hrr;clear hrr;have HK1:=hid (KeptP.refl (Two f w.heap.size) w1);clear hg hp hT))
 have hle:=HLE.out
 have hlt:=HLT.out
 have hr1:=lt_of_block HRr1.out
 have hr2:=HRW.out
 obtain⟨t1,t2,t3⟩:=HT1.out
 obtain⟨u1,u2,u3,u4⟩:=HT2.out
 have m1:=HS1.out
 have m2:=HS2.out
 simp at m1 m2
 have t4:=zd0 (P:=Two f w.heap.size) (wa:=w1) (wb:=w2) (A:=w.heap.size+1) (A':=w.heap.size+1) HK2.out (zbj (by omega) (by omega)) (Nat.le_refl _) (by simpa using t3)
 refine bodyPost_ret (v:=.agg #[.int .i64 4,.int .i64 0,.string ⟨#[]⟩,.string ⟨#[]⟩,.slice (some ⟨N1,0,none⟩) 1 1,.slice ea2 l2.length ec2,.slice none 0 0]) (by simp[results,Tryz.results224,go_sem, *]) rfl (QPost.good (by rw[zbd,HE1.out];show(zap _ _ _ _ _).bind _=_;rw[HE2.out];show(if at' F.z kElse s2=true then _ else _)=_;rw[if_neg (by rw[HE3.out];decide)]) (cs_ife (q:=[]) (d:=[]) t1 t2 (es_moveX (f:=f) (R:=w.heap.size) (X:=w2.heap.size) (A:=w.heap.size+1) (wa:=w2) ?_ (Nat.le_refl _) (by omega) (by omega) (Nat.le_succ _) t4) u1 u2 (ss_moveX (f:=f) (R:=w.heap.size) (X:=w2.heap.size) (A:=w1.heap.size) (wa:=w2) ?_ (Nat.le_refl _) (by omega) (by omega) (by omega) u3) u4 (by simp[rss]) (by simp[zak]) (by rw[SsIn];trivial) (by simp)) ?_ ?_)
 ·repeat (first | with_reducible exact HL3.out | (with_reducible refine KeptP.set ?_ (Or.inr (Or.inl rfl)) _ _))
 ·repeat (first | with_reducible exact HL3.out | (with_reducible refine KeptP.set ?_ (Or.inr (Or.inl rfl)) _ _))
 ·repeat (first | with_reducible exact HP3.out | (with_reducible refine Pa.far ?_ hle _ _) | (with_reducible refine Pa.alloc ?_ _))
 ·repeat (first | with_reducible exact HG3.out | (with_reducible refine zag ?_ (Nat.le_refl _) _ _) | (with_reducible refine zad ?_ _))
theorem branch_d (h:Pa F B f s w) (m:Nat) (hm:∀k,k < m→RuleS F B f (stmt F.z k)) (hfin:Fin (zbd F.z (m+1) s)) {c:RE} {b:List RS} {s1 s2:PS} (e1:test F.z m kIf s=.ok c s1) (e2:zap F.z [123] (block F.z m []) [125] s1=.ok b s2) (e3:at' F.z kElse s2=true) {n:Nat} {s5:PS} (e5:zap F.z [123] (block F.z m []) [125] (skip s2)=.bad n s5):Calls Tryz.prog 224 #[ptrP f] w (QPost F B f CS (zbd F.z (m+1) s) w):=by
 obtain⟨HP0,HG0,HRr0⟩:=zby h
 have HLT:=hid h.lt
 have HLE:=hid h.le
 have HFU:=hfin
 rw[zbd] at HFU
 have HF1:=hid HFU.fst
 have HM:=hid hm
 have HE1:=hid e1
 have HF2:=hid (HFU.snd e1).fst
 have HE2:=hid e2
 have HE3:=hid e3
 have HE5:=hid e5
 have htx:=zcq e3
 have HTH:=hid (zbx htx (by decide))
 have HFL:Hid (za8 (cur F.z s2).text=false∧za9 (cur F.z s2).text=false):=hid (by rw[htx];exact⟨rfl,rfl⟩)
 have HF5:Hid (Fin (zap F.z [123] (block F.z m []) [125] (skip s2))):=hid (by have hh:=(HFU.snd e1).snd e2;rw[if_pos e3] at hh;exact hh.fst)
 have HNr:Hid ((some w.heap.size:Option Nat)≠some f):=hid (by have h1:=h.lt;have h2:=h.le;simp;omega)
 clear h HFU hfin hm e1 e2 e3 e5 htx
 go_enter Tryz.func224,Tryz.ntmps224
 go_wp2_with (first
  | (go_at_call 263;refine(zbU m HM.out HP4.out HF5.out).mono ?_;intro e w5 hq;rw[HE5.out] at hq;obtain⟨rfl,hp,hg⟩:=hq;exact⟨rfl,QPost.wrong (by rw[zbd,HE1.out];show(zap _ _ _ _ _).bind _=_;rw[HE2.out];show(if at' F.z kElse s2=true then (zap _ _ _ _ (skip s2)).bind _ else _)=_;rw[if_pos HE3.out,HE5.out];rfl) hp (zaa HG4.out hg)⟩)
  | (go_at_call 175;refine(zaV HP3.out HTH.out HFL.out.1 HFL.out.2).mono ?_;rintro e w4 ⟨rfl,hp,hg⟩;have HP4:Hid (Pa F B f (skip s2) w4):=hid hp;have HG4:Hid (w.grownBy w4 (some f)):=hid (zaa HG3.out hg);have hrr:=(hg.block w.heap.size (lt_of_block HRr3.out) HNr.out).trans HRr3.out;have hrq:=(hg.block w2.heap.size (lt_of_block HRq3.out) (by have h0:=HLT.out;have h1:=HLE.out;have h2:=HRW.out;simp;omega)).trans HRq3.out;have HRr4:=hid hrr;have HRq4:=hid hrq;clear ry rx0 rx1 rx2 rx3 rx4 rx5 rx6 rl;obtain⟨ry,rx0,rx1,rx2,rx3,rx4,rx5,rx6,rl⟩:=zax hrr;clear hrr;clear qy qx0 qx1 qx2 qx3 qx4 qx5 qx6 ql;obtain⟨qy,qx0,qx1,qx2,qx3,qx4,qx5,qx6,ql⟩:=zax hrq;clear hrq;have HS4:=hid hg.size;have HL4:=hid (HL3.out.grown (Or.inl rfl) hg);clear hp hg)
  | (go_at_call 174;refine(zaD (HP2.out.alloc (.cells #[.int .i64 4,.int .i64 0,.string ⟨#[]⟩,.string ⟨#[]⟩,.slice (some ⟨N1,0,none⟩) 1 1,.slice ea2 l2.length ec2,.slice none 0 0] 66)) {data:=#[101,108,115,101]} kElse rfl _ HE3.out).mono ?_;rintro e w3 ⟨rfl,hb⟩;have hg:=zae hb (some f);have HP3:=hid ((HP2.out.alloc (.cells #[.int .i64 4,.int .i64 0,.string ⟨#[]⟩,.string ⟨#[]⟩,.slice (some ⟨N1,0,none⟩) 1 1,.slice ea2 l2.length ec2,.slice none 0 0] 66)).on hb);have HG3:Hid (w.grownBy w3 (some f)):=hid (zaa (zad HG2.out (.cells #[.int .i64 4,.int .i64 0,.string ⟨#[]⟩,.string ⟨#[]⟩,.slice (some ⟨N1,0,none⟩) 1 1,.slice ea2 l2.length ec2,.slice none 0 0] 66)) hg);have HRW:=hid (lt_of_block HRr2.out);have hrr:=(hb.block w.heap.size (lt_of_block (zai (.cells #[.int .i64 4,.int .i64 0,.string ⟨#[]⟩,.string ⟨#[]⟩,.slice (some ⟨N1,0,none⟩) 1 1,.slice ea2 l2.length ec2,.slice none 0 0] 66) HRr2.out))).trans (zai (.cells #[.int .i64 4,.int .i64 0,.string ⟨#[]⟩,.string ⟨#[]⟩,.slice (some ⟨N1,0,none⟩) 1 1,.slice ea2 l2.length ec2,.slice none 0 0] 66) HRr2.out);have hrq:=(hb.block w2.heap.size (by simp)).trans (zaj w2 (.cells #[.int .i64 4,.int .i64 0,.string ⟨#[]⟩,.string ⟨#[]⟩,.slice (some ⟨N1,0,none⟩) 1 1,.slice ea2 l2.length ec2,.slice none 0 0] 66));have HRr3:=hid hrr;have HRq3:=hid hrq;clear ry rx0 rx1 rx2 rx3 rx4 rx5 rx6 rl;obtain⟨ry,rx0,rx1,rx2,rx3,rx4,rx5,rx6,rl⟩:=zax hrr;clear hrr;obtain⟨qy,qx0,qx1,qx2,qx3,qx4,qx5,qx6,ql⟩:=zax hrq;clear hrq;have HK3:=hid ((HK2.out.alloc (.cells #[.int .i64 4,.int .i64 0,.string ⟨#[]⟩,.string ⟨#[]⟩,.slice (some ⟨N1,0,none⟩) 1 1,.slice ea2 l2.length ec2,.slice none 0 0] 66)).grown (Or.inl rfl) hg);have HL3:=hid ((HL2.out.alloc (.cells #[.int .i64 4,.int .i64 0,.string ⟨#[]⟩,.string ⟨#[]⟩,.slice (some ⟨N1,0,none⟩) 1 1,.slice ea2 l2.length ec2,.slice none 0 0] 66)).grown (Or.inl rfl) hg);clear hb hg)
  | (go_at_call 263;refine(zbU m HM.out HP1.out HF2.out).mono ?_;intro e w2 hq;rw[HE2.out] at hq;obtain⟨v2,rfl,hC,hp,hg⟩:=hq;obtain⟨ea2,ec2,l2,hv,hT⟩:=hC;subst hv;have HT2:=hid hT;have HP2:=hid hp;have HG2:Hid (w.grownBy w2 (some f)):=hid (zaa HG1.out hg);have HS2:=hid hg.size;have hrr:=(hg.block w.heap.size (lt_of_block HRr1.out) (by have h0:=HLT.out;have h1:=HLE.out;have h2:=HP0.out.le;simp;omega)).trans HRr1.out;have HRr2:=hid hrr;clear ry rx0 rx1 rx2 rx3 rx4 rx5 rx6 rl;obtain⟨ry,rx0,rx1,rx2,rx3,rx4,rx5,rx6,rl⟩:=zax hrr;clear hrr;have HK2:=hid (HK1.out.grown (Or.inl rfl) hg);have HL2:=hid (KeptP.refl (fun b=>b=f∨b=w.heap.size∨b=w2.heap.size) w2);clear hg hp hT)
  | (go_at_call 262;refine(zc9 HP0.out m {data:=#[105,102]} kIf rfl (by decide) (by decide) HF1.out).mono ?_;intro e w1 hq;rw[HE1.out] at hq;obtain⟨v1,rfl,hC,hp,hg⟩:=hq;obtain⟨N1,T1,hv,hT⟩:=hC;subst hv;have HT1:=hid hT;have HP1:=hid hp;have HG1:Hid (w.grownBy w1 (some f)):=hid (zaa HG0.out hg);have HS1:=hid hg.size;have hrr:=(hg.block w.heap.size (lt_of_block HRr0.out) (by have h0:=HLT.out;have h1:=HLE.out;have h2:=HP0.out.le;simp;omega)).trans HRr0.out;have HRr1:=hid hrr;obtain⟨ry,rx0,rx1,rx2,rx3,rx4,rx5,rx6,rl⟩:=zax hrr;clear hrr;have HK1:=hid (KeptP.refl (Two f w.heap.size) w1);clear hg hp hT))
theorem branch_e (h:Pa F B f s w) (m:Nat) (hm:∀k,k < m→RuleS F B f (stmt F.z k)) (hfin:Fin (zbd F.z (m+1) s)) {c:RE} {b:List RS} {s1 s2:PS} (e1:test F.z m kIf s=.ok c s1) (e2:zap F.z [123] (block F.z m []) [125] s1=.ok b s2) (e3:at' F.z kElse s2=true) {d:List RS} {s5:PS} (e5:zap F.z [123] (block F.z m []) [125] (skip s2)=.ok d s5):Calls Tryz.prog 224 #[ptrP f] w (QPost F B f CS (zbd F.z (m+1) s) w):=by
 obtain⟨HP0,HG0,HRr0⟩:=zby h
 have HLT:=hid h.lt
 have HLE:=hid h.le
 have HFU:=hfin
 rw[zbd] at HFU
 have HF1:=hid HFU.fst
 have HM:=hid hm
 have HE1:=hid e1
 have HF2:=hid (HFU.snd e1).fst
 have HE2:=hid e2
 have HE3:=hid e3
 have HE5:=hid e5
 have htx:=zcq e3
 have HTH:=hid (zbx htx (by decide))
 have HFL:Hid (za8 (cur F.z s2).text=false∧za9 (cur F.z s2).text=false):=hid (by rw[htx];exact⟨rfl,rfl⟩)
 have HF5:Hid (Fin (zap F.z [123] (block F.z m []) [125] (skip s2))):=hid (by have hh:=(HFU.snd e1).snd e2;rw[if_pos e3] at hh;exact hh.fst)
 have HNr:Hid ((some w.heap.size:Option Nat)≠some f):=hid (by have h1:=h.lt;have h2:=h.le;simp;omega)
 clear h HFU hfin hm e1 e2 e3 e5 htx
 go_enter Tryz.func224,Tryz.ntmps224
 go_upto_region 5 with (first
  | (go_at_call 263;refine(zbU m HM.out HP4.out HF5.out).mono ?_;intro e w5 hq;rw[HE5.out] at hq;obtain⟨v5,rfl,hC,hp,hg⟩:=hq;obtain⟨ea5,ec5,l5,hv,hT⟩:=hC;subst hv;have HT5:=hid hT;have HP5:=hid hp;have HG5:Hid (w.grownBy w5 (some f)):=hid (zaa HG4.out hg);have HS5:=hid hg.size;have hrr:=(hg.block w.heap.size (lt_of_block HRr4.out) HNr.out).trans HRr4.out;have hrq:=(hg.block w2.heap.size (lt_of_block HRq4.out) (by have h0:=HLT.out;have h1:=HLE.out;have h2:=HRW.out;simp;omega)).trans HRq4.out;have HRr5:=hid hrr;have HRq5:=hid hrq;clear ry rx0 rx1 rx2 rx3 rx4 rx5 rx6 rl;obtain⟨ry,rx0,rx1,rx2,rx3,rx4,rx5,rx6,rl⟩:=zax hrr;clear hrr;clear qy qx0 qx1 qx2 qx3 qx4 qx5 qx6 ql;obtain⟨qy,qx0,qx1,qx2,qx3,qx4,qx5,qx6,ql⟩:=zax hrq;clear hrq;have HL5:=hid (HL4.out.grown (Or.inl rfl) hg);have HM5:=hid (KeptP.refl (fun b=>b=f∨b=w.heap.size∨b=w2.heap.size) w5);clear hg hp hT)
  | (go_at_call 175;refine(zaV HP3.out HTH.out HFL.out.1 HFL.out.2).mono ?_;rintro e w4 ⟨rfl,hp,hg⟩;have HP4:Hid (Pa F B f (skip s2) w4):=hid hp;have HG4:Hid (w.grownBy w4 (some f)):=hid (zaa HG3.out hg);have hrr:=(hg.block w.heap.size (lt_of_block HRr3.out) HNr.out).trans HRr3.out;have hrq:=(hg.block w2.heap.size (lt_of_block HRq3.out) (by have h0:=HLT.out;have h1:=HLE.out;have h2:=HRW.out;simp;omega)).trans HRq3.out;have HRr4:=hid hrr;have HRq4:=hid hrq;clear ry rx0 rx1 rx2 rx3 rx4 rx5 rx6 rl;obtain⟨ry,rx0,rx1,rx2,rx3,rx4,rx5,rx6,rl⟩:=zax hrr;clear hrr;clear qy qx0 qx1 qx2 qx3 qx4 qx5 qx6 ql;obtain⟨qy,qx0,qx1,qx2,qx3,qx4,qx5,qx6,ql⟩:=zax hrq;clear hrq;have HS4:=hid hg.size;have HL4:=hid (HL3.out.grown (Or.inl rfl) hg);clear hp hg)
  | (go_at_call 174;refine(zaD (HP2.out.alloc (.cells #[.int .i64 4,.int .i64 0,.string ⟨#[]⟩,.string ⟨#[]⟩,.slice (some ⟨N1,0,none⟩) 1 1,.slice ea2 l2.length ec2,.slice none 0 0] 66)) {data:=#[101,108,115,101]} kElse rfl _ HE3.out).mono ?_;rintro e w3 ⟨rfl,hb⟩;have hg:=zae hb (some f);have HP3:=hid ((HP2.out.alloc (.cells #[.int .i64 4,.int .i64 0,.string ⟨#[]⟩,.string ⟨#[]⟩,.slice (some ⟨N1,0,none⟩) 1 1,.slice ea2 l2.length ec2,.slice none 0 0] 66)).on hb);have HG3:Hid (w.grownBy w3 (some f)):=hid (zaa (zad HG2.out (.cells #[.int .i64 4,.int .i64 0,.string ⟨#[]⟩,.string ⟨#[]⟩,.slice (some ⟨N1,0,none⟩) 1 1,.slice ea2 l2.length ec2,.slice none 0 0] 66)) hg);have HRW:=hid (lt_of_block HRr2.out);have hrr:=(hb.block w.heap.size (lt_of_block (zai (.cells #[.int .i64 4,.int .i64 0,.string ⟨#[]⟩,.string ⟨#[]⟩,.slice (some ⟨N1,0,none⟩) 1 1,.slice ea2 l2.length ec2,.slice none 0 0] 66) HRr2.out))).trans (zai (.cells #[.int .i64 4,.int .i64 0,.string ⟨#[]⟩,.string ⟨#[]⟩,.slice (some ⟨N1,0,none⟩) 1 1,.slice ea2 l2.length ec2,.slice none 0 0] 66) HRr2.out);have hrq:=(hb.block w2.heap.size (by simp)).trans (zaj w2 (.cells #[.int .i64 4,.int .i64 0,.string ⟨#[]⟩,.string ⟨#[]⟩,.slice (some ⟨N1,0,none⟩) 1 1,.slice ea2 l2.length ec2,.slice none 0 0] 66));have HRr3:=hid hrr;have HRq3:=hid hrq;clear ry rx0 rx1 rx2 rx3 rx4 rx5 rx6 rl;obtain⟨ry,rx0,rx1,rx2,rx3,rx4,rx5,rx6,rl⟩:=zax hrr;clear hrr;obtain⟨qy,qx0,qx1,qx2,qx3,qx4,qx5,qx6,ql⟩:=zax hrq;clear hrq;have HK3:=hid ((HK2.out.alloc (.cells #[.int .i64 4,.int .i64 0,.string ⟨#[]⟩,.string ⟨#[]⟩,.slice (some ⟨N1,0,none⟩) 1 1,.slice ea2 l2.length ec2,.slice none 0 0] 66)).grown (Or.inl rfl) hg);have HL3:=hid ((HL2.out.alloc (.cells #[.int .i64 4,.int .i64 0,.string ⟨#[]⟩,.string ⟨#[]⟩,.slice (some ⟨N1,0,none⟩) 1 1,.slice ea2 l2.length ec2,.slice none 0 0] 66)).grown (Or.inl rfl) hg);clear hb hg)
  | (go_at_call 263;refine(zbU m HM.out HP1.out HF2.out).mono ?_;intro e w2 hq;rw[HE2.out] at hq;obtain⟨v2,rfl,hC,hp,hg⟩:=hq;obtain⟨ea2,ec2,l2,hv,hT⟩:=hC;subst hv;have HT2:=hid hT;have HP2:=hid hp;have HG2:Hid (w.grownBy w2 (some f)):=hid (zaa HG1.out hg);have HS2:=hid hg.size;have hrr:=(hg.block w.heap.size (lt_of_block HRr1.out) (by have h0:=HLT.out;have h1:=HLE.out;have h2:=HP0.out.le;simp;omega)).trans HRr1.out;have HRr2:=hid hrr;clear ry rx0 rx1 rx2 rx3 rx4 rx5 rx6 rl;obtain⟨ry,rx0,rx1,rx2,rx3,rx4,rx5,rx6,rl⟩:=zax hrr;clear hrr;have HK2:=hid (HK1.out.grown (Or.inl rfl) hg);have HL2:=hid (KeptP.refl (fun b=>b=f∨b=w.heap.size∨b=w2.heap.size) w2);clear hg hp hT)
  | (go_at_call 262;refine(zc9 HP0.out m {data:=#[105,102]} kIf rfl (by decide) (by decide) HF1.out).mono ?_;intro e w1 hq;rw[HE1.out] at hq;obtain⟨v1,rfl,hC,hp,hg⟩:=hq;obtain⟨N1,T1,hv,hT⟩:=hC;subst hv;have HT1:=hid hT;have HP1:=hid hp;have HG1:Hid (w.grownBy w1 (some f)):=hid (zaa HG0.out hg);have HS1:=hid hg.size;have hrr:=(hg.block w.heap.size (lt_of_block HRr0.out) (by have h0:=HLT.out;have h1:=HLE.out;have h2:=HP0.out.le;simp;omega)).trans HRr0.out;have HRr1:=hid hrr;obtain⟨ry,rx0,rx1,rx2,rx3,rx4,rx5,rx6,rl⟩:=zax hrr;clear hrr;have HK1:=hid (KeptP.refl (Two f w.heap.size) w1);clear hg hp hT))
 have hrr:=(Below.heap_setCell w5 ⟨w2.heap.size,6,none⟩ (.slice ea5 l5.length ec5) w.heap.size (Nat.ne_of_lt HRW.out)).trans HRr5.out
 have hrq:=zaH (k:=6) (.slice ea5 l5.length ec5) HRq5.out
 have HP6:Hid (Pa F B f s5 (w5.setCell ⟨w2.heap.size,6,none⟩ (.slice ea5 l5.length ec5))):=hid (HP5.out.far (Nat.le_trans HLE.out (Nat.le_of_lt HRW.out)) _ _)
 have HG6:Hid (w.grownBy (w5.setCell ⟨w2.heap.size,6,none⟩ (.slice ea5 l5.length ec5)) (some f)):=hid (zag HG5.out (Nat.le_of_lt HRW.out) _ _)
 have HL6:=hid (HL5.out.set (Or.inr (Or.inr rfl)) 6 (.slice ea5 l5.length ec5))
 have HM6:=hid (HM5.out.set (Or.inr (Or.inr rfl)) 6 (.slice ea5 l5.length ec5))
 clear ry rx0 rx1 rx2 rx3 rx4 rx5 rx6 rl qy qx0 qx1 qx2 qx3 qx4 qx5 qx6 ql
 generalize w5.setCell ⟨w2.heap.size,6,none⟩ (.slice ea5 l5.length ec5)=w6 at hrr hrq HP6 HG6 HL6 HM6 ⊢
 obtain⟨ry,rx0,rx1,rx2,rx3,rx4,rx5,rx6,rl⟩:=zax hrr
 clear hrr
 have hrq:w6.heap[w2.heap.size]?=some (.cells #[.int .i64 4,.int .i64 0,.string ⟨#[]⟩,.string ⟨#[]⟩,.slice (some ⟨N1,0,none⟩) 1 1,.slice ea2 l2.length ec2,.slice ea5 l5.length ec5] 66 (0,0)):=hrq
 obtain⟨qy,qx0,qx1,qx2,qx3,qx4,qx5,qx6,ql⟩:=zax hrq
 clear hrq
 go_wp2
 have hle:=HLE.out
 have hlt:=HLT.out
 have hr1:=lt_of_block HRr1.out
 have hr2:=HRW.out
 obtain⟨t1,t2,t3⟩:=HT1.out
 obtain⟨u1,u2,u3,u4⟩:=HT2.out
 have m1:=HS1.out
 have m2:=HS2.out
 simp at m1 m2
 have t4:=zd0 (P:=Two f w.heap.size) (wa:=w1) (wb:=w2) (A:=w.heap.size+1) (A':=w.heap.size+1) HK2.out (zbj (by omega) (by omega)) (Nat.le_refl _) (by simpa using t3)
 obtain⟨d1,d2,d3,d4⟩:=HT5.out
 have m4:=HS4.out
 have hq4:=lt_of_block HRq4.out
 refine bodyPost_ret (v:=.agg #[.int .i64 4,.int .i64 0,.string ⟨#[]⟩,.string ⟨#[]⟩,.slice (some ⟨N1,0,none⟩) 1 1,.slice ea2 l2.length ec2,.slice ea5 l5.length ec5]) (by simp[results,Tryz.results224,go_sem, *]) rfl (QPost.good (by rw[zbd,HE1.out];show(zap _ _ _ _ _).bind _=_;rw[HE2.out];show(if at' F.z kElse s2=true then (zap _ _ _ _ (skip s2)).bind _ else _)=_;rw[if_pos HE3.out,HE5.out];rfl) (cs_ife t1 t2 (es_moveX (f:=f) (R:=w.heap.size) (X:=w2.heap.size) (A:=w.heap.size+1) (wa:=w2) ?_ (Nat.le_refl _) (by omega) (by omega) (Nat.le_succ _) t4) u1 u2 (ss_moveX (f:=f) (R:=w.heap.size) (X:=w2.heap.size) (A:=w1.heap.size) (wa:=w2) ?_ (Nat.le_refl _) (by omega) (by omega) (by omega) u3) u4 d1 d2 (ss_move (P:=fun b=>b=f∨b=w.heap.size∨b=w2.heap.size) (A:=w4.heap.size) (wa:=w5) ?_ (fun b hb e=>by omega) (by omega) d3) d4) ?_ ?_)
 ·repeat (first | with_reducible exact HL6.out | (with_reducible refine KeptP.set ?_ (Or.inr (Or.inl rfl)) _ _) | (with_reducible refine KeptP.set ?_ (Or.inr (Or.inr rfl)) _ _))
 ·repeat (first | with_reducible exact HL6.out | (with_reducible refine KeptP.set ?_ (Or.inr (Or.inl rfl)) _ _) | (with_reducible refine KeptP.set ?_ (Or.inr (Or.inr rfl)) _ _))
 ·repeat (first | with_reducible exact HM6.out | (with_reducible refine KeptP.set ?_ (Or.inr (Or.inl rfl)) _ _) | (with_reducible refine KeptP.set ?_ (Or.inr (Or.inr rfl)) _ _))
 ·repeat (first | with_reducible exact HP6.out | (with_reducible refine Pa.far ?_ hle _ _) | (with_reducible refine Pa.far ?_ (Nat.le_trans hle (Nat.le_of_lt hr2)) _ _))
 ·repeat (first | with_reducible exact HG6.out | (with_reducible refine zag ?_ (Nat.le_refl _) _ _) | (with_reducible refine zag ?_ (Nat.le_of_lt hr2) _ _))
theorem branch_any (h:Pa F B f s w) (m:Nat) (hm:∀k,k < m→RuleS F B f (stmt F.z k)) (hfin:Fin (zbd F.z (m+1) s)):Calls Tryz.prog 224 #[ptrP f] w (QPost F B f CS (zbd F.z (m+1) s) w):=by
 rcases e1:test F.z m kIf s with ⟨c,s1⟩ | ⟨n,s1⟩
 ·rcases e2:zap F.z [123] (block F.z m []) [125] s1 with ⟨b,s2⟩ | ⟨n,s2⟩
  ·rcases e3:at' F.z kElse s2 with _ | _
   ·exact branch_c h m hm hfin e1 e2 e3
   ·rcases e5:zap F.z [123] (block F.z m []) [125] (skip s2) with ⟨d,s5⟩ | ⟨n,s5⟩
    ·exact branch_e h m hm hfin e1 e2 e3 e5
    ·exact branch_d h m hm hfin e1 e2 e3 e5
  ·exact branch_b h m hm hfin e1 e2
 ·exact branch_a h m hm hfin e1
end
end Go.Proofs.YtljbbhhiiiepcaaGreatDoor.Pm
namespace Go.Proofs.YtljbbhhiiiepcaaGreatDoor.Pm
open Go Go.RowKit Go.Proofs.YtljbbhhiiiepcaaGreatDoor
open Go.Lib (hid)
def tagged (t:Int):ST→ST
 | .mk k _ n g ea ec e ba bc b la lc l=>.mk k t n g ea ec e ba bc b la lc l
theorem tagged_rs (t:Nat) (S:ST):(tagged (t:Int) S).rs=RS.put t S.rs:=by
 obtain⟨k,t0,n,g,ea,ec,e,ba,bc,b,la,lc,l⟩:=S
 rw[tagged,ST.rs,ST.rs]
 simp only[Int.toNat_natCast]
 split
 ·rfl
 ·split
  ·rfl
  ·split
   ·rfl
   ·split
    ·rfl
    ·split
     ·rfl
     ·split
      ·rfl
      ·split
       ·rfl
       ·split
        ·rfl
        ·split
         all_goals
          rfl
theorem tagged_right {t:Nat} (ht:t≤1000000) {S:ST} (h:S.rightB=true):(tagged (t:Int) S).rightB=true:=by
 obtain⟨k,t0,n,g,ea,ec,e,ba,bc,b,la,lc,l⟩:=S
 rw[ST.rightB] at h
 rw[tagged,ST.rightB]
 simp only[Bool.and_eq_true] at h ⊢
 refine⟨⟨⟨?_,h.1.1.2⟩,h.1.2⟩,h.2⟩
 have h1:=h.1.1.1
 unfold zaO at h1 ⊢
 rw[if_neg (by omega)]
 by_cases h0:t0 < 0∨1000000 < t0
 ·rw[if_pos h0] at h1;cases h1
 ·rw[if_neg h0] at h1;exact h1
theorem tagged_in {t:Nat} (ht:t≤1000000) {S:ST} {w:World} {A:Nat} (h:S.In w A):(tagged (t:Int) S).In w A:=by
 obtain⟨k,t0,n,g,ea,ec,e,ba,bc,b,la,lc,l⟩:=S
 rw[ST.In] at h
 rw[tagged,ST.In]
 exact⟨⟨by omega,by omega⟩,h.2⟩
theorem tagged_val (t:Int) (S:ST):(tagged t S).val=.agg #[.int .i64 S.kind,.int .i64 t,.string S.name,.string S.func,.slice S.ea S.en S.ec,.slice S.ba S.bn S.bc,.slice S.la S.ln S.lc]:=by
 obtain⟨k,t0,n,g,ea,ec,e,ba,bc,b,la,lc,l⟩:=S
 rfl
section
variable {F:PC} {B f:Nat} {s:PS} {w:World}
theorem tag_le (h:Pa F B f s w) {t:Nat} {s1:PS} (e:tag F.z s=.ok t s1):t≤1000000:=by
 unfold tag at e
 split at e
 ·rename_i hk
  split at e
  ·cases e;exact(zbb h).tg (by simpa using hk)
  ·cases e
 ·cases e;omega
theorem ruleF_any (m:Nat) (hm:∀k,k < m→RuleS F B f (stmt F.z k)) (h:Pa F B f s w) (hfin:Fin (bodyR F.z m s)):
  Calls Tryz.prog (zcF (cur F.z s).text) #[ptrP f] w (QPost F B f CS (bodyR F.z m s) w):=by
 have e:∀u,at' F.z u s=((cur F.z s).text==u):=fun _=>rfl
 unfold zcF
 unfold bodyR at hfin ⊢
 simp only[e] at hfin ⊢
 by_cases c1:((cur F.z s).text==kIf)=true
 ·rw[if_pos c1] at hfin ⊢
  rw[if_pos c1]
  cases m with
  | zero=>exact absurd (by rw[zbd]) (hfin s)
  | succ m=>exact branch_any h m (fun k hk=>hm k (by omega)) hfin
 ·rw[if_neg c1] at hfin ⊢
  rw[if_neg c1]
  by_cases c2:((cur F.z s).text==kWhile)=true
  ·rw[if_pos c2] at hfin ⊢
   rw[if_pos c2]
   cases m with
   | zero=>exact absurd (by rw[loop]) (hfin s)
   | succ m=>exact loop_any h m (fun k hk=>hm k (by omega)) hfin
  ·rw[if_neg c2] at hfin ⊢
   rw[if_neg c2]
   by_cases c3:((cur F.z s).text==kBreak)=true
   ·rw[if_pos c3] at hfin ⊢
    rw[if_pos c3]
    exact breakOff_any h
   ·rw[if_neg c3] at hfin ⊢
    rw[if_neg c3]
    by_cases c4:((cur F.z s).text==zb3)=true
    ·rw[if_pos c4] at hfin ⊢
     rw[if_pos c4]
     exact goOn_any h
    ·rw[if_neg c4] at hfin ⊢
     rw[if_neg c4]
     by_cases c5:((cur F.z s).text==zdq)=true
     ·rw[if_pos c5] at hfin ⊢
      rw[if_pos c5]
      exact giveBack_any h m hfin
     ·rw[if_neg c5] at hfin ⊢
      rw[if_neg c5]
      by_cases c6:((cur F.z s).text==zdr)=true
      ·rw[if_pos c6] at hfin ⊢
       rw[if_pos c6]
       exact assertion_any h m hfin
      ·rw[if_neg c6] at hfin ⊢
       rw[if_neg c6]
       exact setting_any m h hfin
theorem stmt_eq (z m:Nat) (s:PS):stmt z (m+1) s=(tag z s).bind fun t s1=>(bodyR z m s1).bind fun r s2=>.ok (RS.put t r) s2:=by rw[stmt];rfl
theorem cs_tag {S:ST} {t:Nat} {a:RS} {wa w':World} {A A' g R X:Nat} (ht:t≤1000000) (h:S.rs=a∧S.rightB=true∧S.In wa A) (hk:KeptP (fun b=>b=g∨b=R∨b=X) wa w') (hX:wa.heap.size≤X) (h1:g < A) (h2:R < A) (hA:A'≤A):CS (RS.put t a) (.agg #[.int .i64 S.kind,.int .i64 (t:Nat),.string S.name,.string S.func,.slice S.ea S.en S.ec,.slice S.ba S.bn S.bc,.slice S.la S.ln S.lc]) A' w':=
 ⟨tagged (t:Int) S,(tagged_val _ _).symm,by rw[tagged_rs,h.1],tagged_right ht h.2.1,tagged_in ht ((h.2.2.keep fun p v hp hc=>hk.cell (fun e=>by have:=World.block_lt_of_cell? wa p hc;omega) hc).mono hA)⟩
theorem ruleF_enters (t:List UInt8) (args:Array Value) (w:World):(callFunc (zcF t) args).run Tryz.prog w=.ok (.enter (zcF t) args) w:=by
 unfold zcF
 repeat' split
 all_goals (first | kernel_rfl | simp[go_sem])
theorem stmt_any (m:Nat) (hm:∀k,k < m→RuleS F B f (stmt F.z k)) (h:Pa F B f s w) (hfin:Fin (stmt F.z (m+1) s)):
  Calls Tryz.prog 182 #[ptrP f] w (QPost F B f CS (stmt F.z (m+1) s) w):=by
 have HFU:=hfin
 rw[stmt_eq] at HFU
 have HFIN:=hid HFU
 obtain⟨HP0,HG0,HRr0⟩:=zby h
 have HNr:Hid ((some w.heap.size:Option Nat)≠some f):=hid (by have h1:=h.lt;have h2:=h.le;simp;omega)
 have HLT:=hid h.lt
 have HLE:=hid h.le
 have HTG:Hid (∀(t:Nat) (s1:PS),tag F.z s=.ok t s1→t≤1000000):=hid fun t s1 e=>tag_le h e
 have HM:Hid (∀(s1:PS) (w1:World),Pa F B f s1 w1→Fin (bodyR F.z m s1)→Calls Tryz.prog (zcF (cur F.z s1).text) #[ptrP f] w1 (QPost F B f CS (bodyR F.z m s1) w1)):=hid fun s1 w1 h1 hf=>ruleF_any m hm h1 hf
 clear h hm hfin HFU
 have hcf:=ruleF_enters
 go_enter Tryz.func182,Tryz.ntmps182
 go_upto_region 4 with (first
  | (refine(HM.out s1 w2 HP2.out HFI.out).mono ?_;intro e w3 hq;rcases hq.split with ⟨a,s3,v3,hr,rfl,hC,hp,hg⟩ | ⟨n,s',hr,rfl,hp,hg⟩;rotate_left;(exact⟨rfl,QPost.wrong (by rw[stmt_eq,HE1.out];show(bodyR F.z m s1).bind _=_;rw[hr];rfl) hp (zaa HG2.out hg)⟩);obtain⟨S,hv,hT⟩:=hC;rw[st_val] at hv;subst hv;have HT:=hid hT;have HE3:=hid hr;have HP3:=hid hp;have HG3:=hid (zaa HG2.out hg);have HS3:=hid hg.size;have hrr:=(hg.block w.heap.size (lt_of_block HRr2.out) HNr.out).trans HRr2.out;have HRr3:=hid hrr;clear ry rx0 rx1 rx2 rx3 rx4 rx5 rx6 rl;obtain⟨ry,rx0,rx1,rx2,rx3,rx4,rx5,rx6,rl⟩:=zax hrr;clear hrr;clear hr hp hg hq hT)
  | (go_at_call 212;refine(rule_any HP1.out).mono ?_;rintro e w2 ⟨rfl,hb⟩;have HP2:=hid (HP1.out.on hb);have HG2:=hid (zaa HG1.out (zae hb (some f)));have hrr:=(hb.block w.heap.size (lt_of_block HRr1.out)).trans HRr1.out;have HRr2:=hid hrr;have HS2:=hid hb.size;clear ry rx0 rx1 rx2 rx3 rx4 rx5 rx6 rl;obtain⟨ry,rx0,rx1,rx2,rx3,rx4,rx5,rx6,rl⟩:=zax hrr;clear hrr;clear hb)
  | (go_at_call 211;refine(tag_any HP0.out).mono ?_;intro e w1 hq;rcases hq.split with ⟨t,s1,v1,hr,rfl,hC,hp,hg⟩ | ⟨n,s',hr,rfl,hp,hg⟩;rotate_left;(exact⟨rfl,QPost.wrong (by rw[stmt_eq,hr];rfl) hp (zaa HG0.out hg)⟩);obtain rfl:v1=.int .i64 (t:Nat):=hC;have HE1:=hid hr;have HP1:=hid hp;have HG1:=hid (zaa HG0.out hg);have HFI:Hid (Fin (bodyR F.z m s1)):=hid ((HFIN.out.snd hr).fst);have hrr:=(hg.block w.heap.size (lt_of_block HRr0.out) HNr.out).trans HRr0.out;have HRr1:=hid hrr;obtain⟨ry,rx0,rx1,rx2,rx3,rx4,rx5,rx6,rl⟩:=zax hrr;clear hrr;clear hr hp hg hq))
 have hr3:=lt_of_block HRr3.out
 have hrr:=zai (.cells #[.int .i64 S.kind,.int .i64 (t:Nat),.string S.name,.string S.func,.slice S.ea S.en S.ec,.slice S.ba S.bn S.bc,.slice S.la S.ln S.lc] 66) HRr3.out
 have hrq:=zaj w3 (.cells #[.int .i64 S.kind,.int .i64 (t:Nat),.string S.name,.string S.func,.slice S.ea S.en S.ec,.slice S.ba S.bn S.bc,.slice S.la S.ln S.lc] 66)
 have HP4:Hid (Pa F B f s3 (w3.alloc (.cells #[.int .i64 S.kind,.int .i64 (t:Nat),.string S.name,.string S.func,.slice S.ea S.en S.ec,.slice S.ba S.bn S.bc,.slice S.la S.ln S.lc] 66))):=hid (HP3.out.alloc _)
 have HG4:Hid (w.grownBy (w3.alloc (.cells #[.int .i64 S.kind,.int .i64 (t:Nat),.string S.name,.string S.func,.slice S.ea S.en S.ec,.slice S.ba S.bn S.bc,.slice S.la S.ln S.lc] 66)) (some f)):=hid (zad HG3.out _)
 have HK4:Hid (KeptP (fun b=>b=f∨b=w.heap.size∨b=w3.heap.size) w3 (w3.alloc (.cells #[.int .i64 S.kind,.int .i64 (t:Nat),.string S.name,.string S.func,.slice S.ea S.en S.ec,.slice S.ba S.bn S.bc,.slice S.la S.ln S.lc] 66))):=hid ((KeptP.refl _ _).alloc _)
 have hz3:=hid hr3
 clear ry rx0 rx1 rx2 rx3 rx4 rx5 rx6 rl hr3 hcf
 generalize w3.alloc (.cells #[.int .i64 S.kind,.int .i64 (t:Nat),.string S.name,.string S.func,.slice S.ea S.en S.ec,.slice S.ba S.bn S.bc,.slice S.la S.ln S.lc] 66)=w4 at hrr hrq HP4 HG4 HK4 ⊢
 obtain⟨ry,rx0,rx1,rx2,rx3,rx4,rx5,rx6,rl⟩:=zax hrr
 clear hrr
 have hrq:w4.heap[w3.heap.size]?=some (.cells #[.int .i64 S.kind,.int .i64 (t:Nat),.string S.name,.string S.func,.slice S.ea S.en S.ec,.slice S.ba S.bn S.bc,.slice S.la S.ln S.lc] 66 (0,0)):=hrq
 obtain⟨qy,qx0,qx1,qx2,qx3,qx4,qx5,qx6,ql⟩:=zax hrq
 clear hrq
 go_wp2
 have hle:=HLE.out
 have hlt:=HLT.out
 have h3:=hz3.out
 have ht:=HTG.out _ _ HE1.out
 have h2:=HG2.out.size
 have h4:=lt_of_block HRr2.out
 refine bodyPost_ret (v:=.agg #[.int .i64 S.kind,.int .i64 (t:Nat),.string S.name,.string S.func,.slice S.ea S.en S.ec,.slice S.ba S.bn S.bc,.slice S.la S.ln S.lc]) (by simp[results,Tryz.results182,go_sem, *]) rfl (QPost.good (by rw[stmt_eq,HE1.out];show(bodyR F.z m s1).bind _=_;rw[HE3.out];rfl) (cs_tag (g:=f) (R:=w.heap.size) (X:=w3.heap.size) (wa:=w3) (A:=w2.heap.size) ht HT.out ?_ (Nat.le_refl _) (by omega) (by omega) h2) ?_ ?_)
 ·repeat (first | with_reducible exact HK4.out | (with_reducible refine KeptP.set ?_ (Or.inr (Or.inl rfl)) _ _))
 ·repeat (first | with_reducible exact HP4.out | (with_reducible refine Pa.far ?_ hle _ _))
 ·repeat (first | with_reducible exact HG4.out | (with_reducible refine zag ?_ (Nat.le_refl _) _ _))
theorem ruleS_all:∀(m:Nat),∀k,k≤m→RuleS F B f (stmt F.z k):=by
 intro m
 induction m with
 | zero =>
  intro k hk s1 w1 h1 hf
  obtain rfl:k=0:=by omega
  exact absurd (by rw[stmt]) (hf s1)
 | succ m ih =>
  intro k hk
  rcases Nat.lt_or_ge m k with h1 | h1
  ·obtain rfl:k=m+1:=by omega
   exact fun s1 w1 h2 hf=>stmt_any m (fun j hj=>ih j (by omega)) h2 hf
  ·exact ih k h1
end
end Go.Proofs.YtljbbhhiiiepcaaGreatDoor.Pm
