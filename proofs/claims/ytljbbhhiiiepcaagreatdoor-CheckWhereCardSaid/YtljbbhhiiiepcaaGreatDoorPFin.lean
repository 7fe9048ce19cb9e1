/- How much fuel the plain parser needs: enough for each word. -/
import Derived.Test.YtljbbhhiiiepcaaGreatDoorPStA
import Derived.Test.YtljbbhhiiiepcaaGreatDoorPUps
import Derived.Deep.AppendLies
set_option linter.unusedSimpArgs false
set_option linter.unusedVariables false
set_option maxHeartbeats 8000000
set_option maxRecDepth 100000
namespace Go.Proofs.YtljbbhhiiiepcaaGreatDoor.Pm
open Go Go.RowKit Go.Proofs.YtljbbhhiiiepcaaGreatDoor
open Go.Lib (hid)
theorem expr_info:(Tryz.prog.info? 68).map (fun i=>(i.zero,i.size,i.bytes))=some (some (.agg #[.int .i64 0,.string {data:=#[]},.int .i64 0,.string {data:=#[]},.slice none 0 0]),5,72):=by kernel_rfl
theorem five_one (T:ET):∀u∈(five T).toList,u.oneCell'=true:=by
 intro u hu
 simp only[five,List.mem_cons,List.not_mem_nil,or_false] at hu
 rcases hu with rfl | rfl | rfl | rfl | rfl<;>rfl
theorem keeps_more {α:Type} {z:Nat} {m:PS→PR α} (hm:Keeps m):∀n (l:List α) s a s',more z m n l s=.ok a s'→s'.ws.length≤s.ws.length∧s'.op=s.op:=by
 intro n
 induction n with
 | zero=>intro l s a s' h;rw[more] at h;cases h
 | succ n ih =>
  intro l s a s' h
  rw[more] at h
  split at h
  ·obtain⟨x,s1,h1,h⟩:=zaN h
   have k1:=hm _ _ _ h1
   have k2:=ih _ _ _ _ h
   have k3:=zcd s
   omega
  ·cases h;exact⟨Nat.le_refl _,rfl⟩
theorem keeps_list {α:Type} {z n:Nat} {m:PS→PR α} (hm:Keeps m):Keeps (list z n m):=by
 intro s a s' h
 unfold list at h
 obtain⟨x,s1,h1,h⟩:=zaN h
 have k1:=hm _ _ _ h1
 have k2:=keeps_more hm _ _ _ _ _ h
 omega
structure LInv (F:PC) (B f:Nat) (m:PS→PR RE) (n0:Nat) (all:PR (List RE)) (w wr:World) (v:Value) (n:Nat) (s':PS) (l:List ET):Prop where
 tl:more F.z m n (res l) s'=all
 pa:Pa F B f s' wr
 gr:w.grownBy wr (some f)
 md:MadeE w.heap.size v l wr
 rt:zam l=true
 ln:l.length+s'.ws.length≤F.ws.length+1
def LRel (F:PC) (B f:Nat) (m:PS→PR RE) (n0:Nat) (all:PR (List RE)) (w:World) (v:Value) (wr:World):Prop:=∃(n:Nat) (s':PS) (l:List ET),LInv F B f m n0 all w wr v n s' l
theorem zdv {w v v':World} {n r:Option Nat} (h:w.grownBy v n) (hg:v.grownBy v' r) (hr:∀k,r=some k→w.heap.size≤k):w.grownBy v' n:=
 ⟨hg.os.trans h.os,hg.tape.trans h.tape,hg.output.trans h.output,Nat.le_trans h.size hg.size,fun i hi hne=>(hg.block i (Nat.lt_of_lt_of_le hi h.size) (fun e=>by have:=hr i e.symm;omega)).trans (h.block i hi hne)⟩
section
variable {F:PC} {B f:Nat} {s:PS} {w:World}
theorem listE_any (m:PS→PR RE) (hm:RuleE F B f m) (hkp:Keeps m) (n:Nat) (h:Pa F B f s w) (hfin:Fin (list F.z n m s)):
  Calls Tryz.prog 297 #[ptrP f,.func (.func 265) #[] #[]] w (QPost F B f CEs (list F.z n m s) w):=by
 have HH:=hid h
 have HM:=hid hm
 have HKP:=hid hkp
 have HFIN:=hid hfin
 have HLT:=hid h.lt
 have HLE:=hid h.le
 obtain⟨ei,hi,hz0,hz1,hz2⟩:=info_parts expr_info
 clear hm hkp hfin h
 go_enter Tryz.func297,Tryz.ntmps297
 go_wp2_with (go_at_call 265;refine(HM.out s w HH.out HFIN.out.fst).mono ?_;intro e w1 hq;rcases hq.split with ⟨a,s1,v,hr,rfl,hC,hp,hg⟩ | ⟨k,s',hr,rfl,hp,hg⟩;rotate_left;(exact⟨rfl,QPost.wrong (by unfold list;rw[hr];rfl) hp hg⟩);obtain⟨T,hv,hT⟩:=hC;rw[ET.val_is] at hv;subst hv;have HT:=hid hT;have HE1:=hid hr;have HP1:=hid hp;have HG1:=hid hg;clear hr hp hg hq hT)
 have HS0:Hid (LRel F B f m n (list F.z n m s) w (.slice (some ⟨w1.heap.size,0,none⟩) 1 1) (w1.alloc (.cells (five T) 68))):=hid ⟨n,s1,[T],⟨by unfold list;rw[HE1.out];show more F.z m n (res [T]) s1=more F.z m n [a] s1;rw[show res [T]=[a] by simp[res,HT.out.1]],HP1.out.alloc _,zad HG1.out _,⟨?_,?_⟩,by simp[zam,HT.out.2.1],by have h1:=HP1.out.len;simp;omega⟩⟩
 rotate_left
 ·refine⟨by simp[ET.cells_is],Or.inr ⟨w1.heap.size,1,five T,rfl,HG1.out.size,zaj _ _,Nat.le_refl _,by decide,rfl,by simp[ET.cells_is]⟩⟩
 ·intro S hS
  simp only[List.mem_singleton] at hS
  subst hS
  exact hid_new ((KeptP.refl (fun _=>False) w1).alloc _) (fun _ _ h=>h) (fun b _ hb e=>by have e':b=w1.heap.size:=e;omega) HT.out.2.2
 clear HE1 HP1 HG1 HT HH
 go_loopw [5] (fun v wr=>LRel F B f m n (list F.z n m s) w v wr) (fun _ wr=>F.ws.length - posW f wr)
 case atStart=>exact HS0.out
 case round =>
  clear HS0
  obtain⟨n1,s',l,hI⟩:=hrel
  have HTL:=hid hI.tl
  have HP1:=hid hI.pa
  have HG1:=hid hI.gr
  have HMD:=hid hI.md
  have HRT:=hid hI.rt
  have HLN:=hid hI.ln
  have HMY:=hid hI.pa.many
  clear hI
  obtain⟨n2,rfl⟩:∃n2,n1=n2+1:=by
   cases n1 with
   | zero=>exact absurd (by rw[←HTL.out,more]) (HFIN.out s')
   | succ n2=>exact⟨n2,rfl⟩
  rcases hat:at' F.z [44] s' with _ | _
  ·have HTT:Hid (more F.z m (n2+1) (res l) s'=.ok (res l) s'):=hid (by rw[more,if_neg (by simp[hat])])
   have HAT:=hid hat
   clear hat
   go_wp2_with (go_at_call 174;refine(zaD HP1.out {data:=#[44]} [44] rfl _ HAT.out).mono ?_;rintro e w2 ⟨rfl,hb⟩;have HB2:=hid hb;clear hb)
   go_ret
   obtain⟨a,c,e,he⟩:=HMD.out.es
   have hle:=HLE.out
   have hlt:=HLT.out
   refine QPost.good (by rw[←HTL.out,HTT.out]) ⟨a,c,l,e,rfl,HRT.out,he.on HB2.out,by have h1:=HLN.out;have h2:=HMY.out;omega⟩ (HP1.out.on HB2.out) (zaa HG1.out (zae HB2.out _))
  ·have htx:=zcq hat
   have HTT:Hid (more F.z m (n2+1) (res l) s'=(m (skip s')).bind fun x s2=>more F.z m n2 (res l++[x]) s2):=hid (by rw[more,if_pos hat])
   have HAT:=hid hat
   have HTH:Hid (s'.ws≠[]):=hid (zbx htx (by simp))
   have HFL:Hid (za8 (cur F.z s').text=false∧za9 (cur F.z s').text=false):=hid (by rw[htx];exact⟨rfl,rfl⟩)
   have HFI:Hid (Fin (m (skip s'))):=hid (by have:=HFIN.out;rw[←HTL.out,HTT.out] at this;exact this.fst)
   clear hat htx
   go_wp2_with (first
    | (at_builtin;refine wpList_append_own_at _ rfl _ _ 64 rfl w.heap.size 68 ei _ 5 72 Tryz.underlying64 hi hz0 hz1 hz2 rfl (by decide) _ l.length _ rfl (HMD4.out.1.alloc _) ⟨w4.heap.size,0,none⟩ 1 1 (five T).toList rfl rfl (World.news_of_block (zaj w4 (.cells (five T) 68))) (five_one T) (by have h1:=HLN.out;have h2:=HMY.out;unfold maxLen;omega) (by have h1:=HLN.out;have h2:=HMY.out;omega) (by have:=HG4.out.size;simp;omega) ?_;intro v' w5 hown hgrow hnil hat;have HO5:=hid (And.intro hown (And.intro hgrow hat));clear hown hgrow hnil hat)
    | (go_at_call 265;refine(HM.out (skip s') w3 HP3.out HFI.out).mono ?_;intro e w4 hq;rcases hq.split with ⟨a,s4,v4,hr,rfl,hC,hp,hg⟩ | ⟨k,s9,hr,rfl,hp,hg⟩;rotate_left;(exact⟨rfl,QPost.wrong (by rw[←HTL.out,HTT.out,hr];rfl) hp (zaa HG3.out hg)⟩);obtain⟨T,hv,hT⟩:=hC;rw[ET.val_is] at hv;subst hv;have HT:=hid hT;have HE4:=hid hr;have HP4:=hid hp;have HG4:=hid (zaa HG3.out hg);have HMD4:=hid (HMD3.out.grown hg (by have:=HLT.out;have:=HLE.out;omega));clear hr hp hg hq hT)
    | (go_at_call 175;refine(zaV HP2.out HTH.out HFL.out.1 HFL.out.2).mono ?_;rintro e w3 ⟨rfl,hp,hg⟩;have HP3:Hid (Pa F B f (skip s') w3):=hid hp;have HG3:=hid (zaa HG2.out hg);have HMD3:=hid (HMD2.out.grown hg (by have:=HLT.out;have:=HLE.out;omega));clear hp hg)
    | (go_at_call 174;refine(zaD HP1.out {data:=#[44]} [44] rfl _ HAT.out).mono ?_;rintro e w2 ⟨rfl,hb⟩;have HP2:=hid (HP1.out.on hb);have HG2:=hid (zaa HG1.out (zae hb (some f)));have HMD2:=hid (HMD.out.grown (zae hb (some f)) (by have:=HLT.out;have:=HLE.out;omega));clear hb))
   obtain⟨o1,o2,o3⟩:=HO5.out
   have hle:=HLE.out
   have hlt:=HLT.out
   obtain⟨t1,t2,t3⟩:=HT.out
   have hp5:Pa F B f s4 w5:=(HP4.out.alloc _).grownR (fun R hR=>by have:=(HMD4.out.1.lt _ hR).1;omega) o2
   have ho5:=o1
   rw[show(five T)=T.cells from(ET.cells_is T).symm] at ho5
   go_roundw
   case rel =>
    refine⟨n2,s4,l++[T],⟨by rw[←HTL.out,HTT.out,HE4.out];show more F.z m n2 (res (l++[T])) s4=more F.z m n2 (res l++[a]) s4;rw[show res (l++[T])=res l++[a] by simp[res,t1]],hp5,?_,(HMD4.out.alloc _).snoc (S:=T) (A:=w3.heap.size) (t3.on ((Below.refl _ _).alloc (Nat.le_refl _) _)) (by have:=HG3.out.size;omega) (fun k hk=>(HMD3.out.1.lt _ hk).2) ho5 o2 o3,?_,?_⟩⟩
    ·exact zdv (zad HG4.out _) o2 (fun k hk=>(HMD4.out.1.lt _ hk).1)
    ·rw[zdW]
     intro X hX
     rcases List.mem_append.1 hX with h1 | h1
     ·exact(zdW l).1 HRT.out X h1
     ·simp only[List.mem_singleton] at h1;subst h1;exact t2
    ·have h1:=HLN.out
     have h2:=(HKP.out _ _ _ HE4.out).1
     have h3:(skip s').ws=s'.ws.tail:=rfl
     have h4:0 < s'.ws.length:=List.length_pos_iff.2 HTH.out
     rw[h3,List.length_tail] at h2
     simp
     omega
   case measure =>
    refine meas (s2:=s4) hp5 HP1.out ?_
    have h2:=(HKP.out _ _ _ HE4.out).1
    have h3:(skip s').ws=s'.ws.tail:=rfl
    have h4:0 < s'.ws.length:=List.length_pos_iff.2 HTH.out
    rw[h3,List.length_tail] at h2
    omega
end
end Go.Proofs.YtljbbhhiiiepcaaGreatDoor.Pm
namespace Go.Proofs.YtljbbhhiiiepcaaGreatDoor.Pm
open Go Go.RowKit Go.Proofs.YtljbbhhiiiepcaaGreatDoor
open Go.Lib (hid)
theorem CEs.on {P:Nat→Prop} {r:List RE} {v:Value} {A A':Nat} {w1 w2:World} (h:CEs r v A w1) (hk:KeptP P w1 w2) (hP:∀b,A≤b→¬P b) (hA:A'≤A):CEs r v A' w2:=by
 obtain⟨a,c,l,e,h1,h2,h3,h4⟩:=h
 exact⟨a,c,l,e,h1,h2,zd0 hk hP hA h3,h4⟩
def zcz (z n:Nat) (m:PS→PR RE) (s:PS):PR (List RE):=if at' z [41] s then .ok [] s else list z n m s
theorem keeps_inArgs {z n:Nat} {m:PS→PR RE} (hm:Keeps m):Keeps (zcz z n m):=by
 intro s a s' h
 unfold zcz at h
 split at h
 ·cases h;exact⟨Nat.le_refl _,rfl⟩
 ·exact keeps_list hm _ _ _ h
def Box (bx:Nat) (w:World):Prop:=w.heap[bx]?=some (.cells #[.func (.func 265) #[] #[]] 281 (0,0))
section
variable {F:PC} {B f:Nat} {s:PS} {w:World}
theorem closE_any (m:PS→PR RE) (hm:RuleE F B f m) (hkp:Keeps m) (n:Nat) (bx:Nat) (hx:Box bx w) (h:Pa F B f s w) (hfin:Fin (zcz F.z n m s)):
  Calls Tryz.prog 296 #[ptrP f,.pointer (some ⟨bx,0,none⟩)] w (QPost F B f CEs (zcz F.z n m s) w):=by
 have HP0:=hid h
 have HX:=hid hx
 have HM:=hid hm
 have HKP:=hid hkp
 have hbl:=lt_of_block hx
 rcases hat:at' F.z [41] s with _ | _
 ·have HN:Hid (zcz F.z n m s=list F.z n m s):=hid (by unfold zcz;rw[if_neg (by simp[hat])])
  have HFI:Hid (Fin (list F.z n m s)):=hid (by rw[←HN.out];exact hfin)
  have HAT:=hid hat
  clear hat h hx hm hkp hfin
  go_enter Tryz.func296,Tryz.ntmps296
  go_wp2_with (first
   | (go_at_call 297;refine(listE_any m HM.out HKP.out n (HP0.out.on HB.out) HFI.out).mono ?_;intro e w2 hq;rcases hq.split with ⟨a,s2,v,hr,rfl,hC,hp,hg⟩ | ⟨k,s',hr,rfl,hp,hg⟩;rotate_left;(exact⟨rfl,QPost.wrong (by rw[HN.out,hr]) hp (zaa (zae HB.out _) hg)⟩);obtain⟨ea,ec,l,hv,hC⟩:=hC;subst hv;have HQ:=hid (And.intro hr (And.intro hp (And.intro hg hC)));clear hr hp hg hq hC)
   | (go_at_call 174;refine(zaD HP0.out {data:=#[41]} [41] rfl _ HAT.out).mono ?_;rintro e w1 ⟨rfl,hb⟩;have HB:=hid hb;have b0:=zab (k:=0) ((hb.block bx hbl).trans HX.out) rfl;have hbl1:=lt_of_block ((hb.block bx hbl).trans HX.out);clear hb))
  go_ret
  obtain⟨hr,hp,hg,hC⟩:=HQ.out
  refine QPost.good (by rw[HN.out,hr]) ⟨ea,ec,l,rfl,hC.1,hC.2.1,hC.2.2.1.mono HB.out.size,hC.2.2.2⟩ hp (zaa (zae HB.out _) hg)
 ·have HN:Hid (zcz F.z n m s=.ok [] s):=hid (by unfold zcz;rw[if_pos hat])
  have HAT:=hid hat
  clear hat h hx hm hkp hfin
  go_enter Tryz.func296,Tryz.ntmps296
  go_wp2_with (go_at_call 174;refine(zaD HP0.out {data:=#[41]} [41] rfl _ HAT.out).mono ?_;rintro e w1 ⟨rfl,hb⟩;have HB:=hid hb;clear hb)
  go_ret
  exact QPost.good HN.out ⟨none,0,[],rfl,rfl,by simp[zam],by rw[EsIn];trivial,by simp⟩ (HP0.out.on HB.out) (zae HB.out _)
theorem withinEs_any (m:PS→PR RE) (hm:RuleE F B f m) (hkp:Keeps m) (n:Nat) (bx:Nat) (hbx:B≤bx) (hx:Box bx w) (h:Pa F B f s w) (hfin:Fin (zap F.z [40] (zcz F.z n m) [41] s)):
  Calls Tryz.prog 295 #[ptrP f,.string {data:=#[40]},.func (.func 296) #[] #[.pointer (some ⟨bx,0,none⟩)],.string {data:=#[41]}] w (QPost F B f CEs (zap F.z [40] (zcz F.z n m) [41] s) w):=by
 have HP0:=hid h
 have HX:=hid hx
 have HM:=hid hm
 have HKP:=hid hkp
 have HFIN:=hid hfin
 have HNE:Hid (some bx≠some f):=hid (by have:=h.lt;simp;omega)
 have HFL:=hid h.flt
 clear h hx hm hkp hfin
 go_enter Tryz.func295,Tryz.ntmps295
 go_wp2_with (first
  | (go_at_call 119;refine(zaJ HP2.out {data:=#[41]} [41] rfl (by simp) (fun _=>HOP.out)).mono ?_;intro e w3 hq;rcases hq.split with ⟨a,s3,v,hr,rfl,hC,hp,hg⟩ | ⟨k,s',hr,rfl,hp,hg⟩;rotate_left;(exact⟨rfl,QPost.wrong (by unfold zap;rw[HE1.out];show(zcz F.z n m s1).bind _=_;rw[HE2.out];show(take F.z [41] s2).bind _=_;rw[hr];rfl) hp (zaa HG2.out hg)⟩);obtain rfl:v=.tuple #[]:=hC;have HE3:=hid hr;have HP3:=hid hp;have HG3:=hid (zaa HG2.out hg);have HK3:=hid ((KeptP.refl (fun b=>b=f) w2).grown rfl hg);clear hr hp hg hq)
  | (go_at_call 296;refine(closE_any m HM.out HKP.out n bx HX1.out HP1.out ((HFIN.out.snd HE1.out).fst)).mono ?_;intro e w2 hq;rcases hq.split with ⟨a,s2,v,hr,rfl,hC,hp,hg⟩ | ⟨k,s',hr,rfl,hp,hg⟩;rotate_left;(exact⟨rfl,QPost.wrong (by unfold zap;rw[HE1.out];show(zcz F.z n m s1).bind _=_;rw[hr];rfl) hp (zaa HG1.out hg)⟩);obtain⟨ea,ec,l,hv,hC⟩:=hC;subst hv;have HC:=hid hC;have HE2:=hid hr;have HP2:=hid hp;have HG2:=hid (zaa HG1.out hg);have HOP:Hid (0 < s2.op):=hid (by have:=(keeps_inArgs HKP.out _ _ _ hr).2;have:=(zbr HE1.out rfl).2;omega);clear hr hp hg hq hC)
  | (go_at_call 119;refine(zaJ HP0.out {data:=#[40]} [40] rfl (by simp) (fun e=>by cases e)).mono ?_;intro e w1 hq;rcases hq.split with ⟨a,s1,v,hr,rfl,hC,hp,hg⟩ | ⟨k,s',hr,rfl,hp,hg⟩;rotate_left;(exact⟨rfl,QPost.wrong (by unfold zap;rw[hr];rfl) hp hg⟩);obtain rfl:v=.tuple #[]:=hC;have HE1:=hid hr;have HP1:=hid hp;have HG1:=hid hg;have HX1:Hid (Box bx w1):=hid ((hg.block bx (lt_of_block HX.out) HNE.out).trans HX.out);clear hr hp hg hq))
 go_ret
 obtain⟨h1,h2,h3,h4⟩:=HC.out
 have h5:=HG1.out.size
 exact QPost.good (by unfold zap;rw[HE1.out];show(zcz F.z n m s1).bind _=_;rw[HE2.out];show(take F.z [41] s2).bind _=_;rw[HE3.out];rfl) ⟨ea,ec,l,rfl,h1,h2,zd0 HK3.out (fun b hb e=>by have:=HFL.out;omega) h5 h3,h4⟩ HP3.out HG3.out
theorem argsE_any (m:PS→PR RE) (hm:RuleE F B f m) (hkp:Keeps m) (n:Nat) (h:Pa F B f s w) (hfin:Fin (args F.z n m s)):
  Calls Tryz.prog 286 #[ptrP f,.func (.func 265) #[] #[]] w (QPost F B f CEs (args F.z n m s) w):=by
 have hmf:∀(fn:Fn) (first cap:Array Value) (w:World),(Instr.makeFunc fn first cap).run Tryz.prog w=.ok (.func fn first cap) w:=fun _ _ _ _=>rfl
 have e0:args F.z n m s=zap F.z [40] (zcz F.z n m) [41] s:=rfl
 have HX:=hid (withinEs_any m hm hkp n w.heap.size h.le (zaj w _) (h.alloc (.cells #[.func (.func 265) #[] #[]] 281)) (by rw[←e0];exact hfin))
 have HN:=hid e0
 clear h hm hkp hfin e0
 go_enter Tryz.func286,Tryz.ntmps286
 go_wp2_with (go_at_call 295;refine HX.out.mono ?_;intro e w1 hq;rcases hq.split with ⟨a,s1,v,hr,rfl,hC,hp,hg⟩ | ⟨k,s',hr,rfl,hp,hg⟩;rotate_left;(exact⟨rfl,QPost.wrong (by rw[HN.out,hr]) hp (zaa (zad (zaf w _) _) hg)⟩);obtain⟨ea,ec,l,hv,hC⟩:=hC;subst hv;have HQ:=hid (And.intro hr (And.intro hp (And.intro hg hC)));clear hr hp hg hq hC)
 go_ret
 obtain⟨hr,hp,hg,hC⟩:=HQ.out
 exact QPost.good (by rw[HN.out,hr]) ⟨ea,ec,l,rfl,hC.1,hC.2.1,hC.2.2.1.mono (by simp),hC.2.2.2⟩ hp (zaa (zad (zaf w (some f)) _) hg)
end
end Go.Proofs.YtljbbhhiiiepcaaGreatDoor.Pm

namespace Go.Proofs.YtljbbhhiiiepcaaGreatDoor.Pm
open Go
abbrev wd (t:Tok):Wd:=(t.kind,t.text,t.n)
abbrev wds (l:List Tok):List Wd:=l.map wd
def adv (s:PS) (k n c:Nat):PS:=⟨s.ws.drop k,s.sts+c,s.op,max s.mo (s.op+n)⟩
def Rds {α:Type} (f:PS→PR α) (l t:List Wd) (n:Nat) (a:α):Prop:=∀s,wds s.ws=l++t→s.op≤s.mo→s.op+n≤40→f s=.ok a (adv s l.length n 0)
def noIdx (t:List Wd):Prop:=∀x,t.head?=some x→x.2.1≠[91]
def Ops (z:Nat) (l:List Wd) (n:Nat) (e:RE):Prop:=∃m0,∀m,m0≤m→∀t,noIdx t→Rds (zaw z m) l t n e
end Go.Proofs.YtljbbhhiiiepcaaGreatDoor.Pm
namespace Go.Proofs.YtljbbhhiiiepcaaGreatDoor.Pm
open Go
def Rdc {α:Type} (f:PS→PR α) (l t:List Wd) (n c:Nat) (a:α):Prop:=∀s,wds s.ws=l++t→s.op≤s.mo→s.op+n≤40→s.sts+c≤400→f s=.ok a (adv s l.length n c)
section
variable {α β:Type} {f:PS→PR α} {l t:List Wd} {n c:Nat} {a:α}
theorem Rds.cc (h:Rds f l t n a):Rdc f l t n 0 a:=fun s h1 h2 h3 _=>h s h1 h2 h3
theorem Rdc.cast (h:Rdc f l t n c a) {l':List Wd} {n' c':Nat} (h1:l'=l) (h2:n'=n) (h3:c'=c):Rdc f l' t n' c' a:=by subst h1;subst h2;subst h3;exact h
end
def bodyR (z m:Nat) (s1:PS):PR RS:=
 if at' z kIf s1=true then zbd z m s1
 else if at' z kWhile s1=true then loop z m s1
 else if at' z kBreak s1=true then zdI z s1
 else if at' z zb3 s1=true then goOn z s1
 else if at' z zdq s1=true then zcc z m s1
 else if at' z zdr s1=true then zb4 z m s1
 else zaM z m s1
section
variable {z m:Nat} {l t:List Wd} {n c:Nat} {a:RS} {x:Wd} {r:List Wd}
end
def RF.ok (f:RF):Prop:=f.wf=true∧∀d∈f.vars,d.2≤1000000
def nP (p:List RF):Nat:=p.foldr (fun f k=>nSs f.body+k) 0
end Go.Proofs.YtljbbhhiiiepcaaGreatDoor.Pm

namespace Go.Proofs.YtljbbhhiiiepcaaGreatDoor.Pm
open Go
theorem take_less {z:Nat} {l:List UInt8} {s s':PS} {u:Unit} (hl:l≠[]) (h:take z l s=.ok u s'):s'.ws.length+1=s.ws.length:=by
 obtain⟨e,hp⟩:=take_ok h
 have h1:=(zds hp).2.1
 have h2:s.ws≠[]:=fun e2=>hl (by rw[←e];unfold cur;rw[e2];rfl)
 have h3:=List.length_pos_iff.2 h2
 rw[h1,List.length_tail];omega
theorem kr_length (z:Nat) (s:PS):KR s (length z s):=by
 unfold length
 split
 ·exact zcE (zcD _ _)
 ·exact zcu _ _ _
theorem kr_decl (z:Nat) (s:PS):KR s (decl z s):=by
 refine zaI (zdY _ _) fun x s1=>?_
 split
 ·exact zaI (zbJ rfl rfl rfl (kr_length z) _) fun _ _=>zcD _ _
 ·exact zcD _ _
theorem kr_vars (z m:Nat) (s:PS):KR s (vars z m s):=by
 unfold vars
 split
 ·exact zcE (zaI (kr_list (kr_decl z) _) fun _ _=>zaI (zdt rfl rfl _) fun _ _=>zcD _ _)
 ·exact zcD _ _
theorem function_less {z m:Nat} {s s':PS} {f:RF} (h:zba z m s=.ok f s'):s'.ws.length < s.ws.length∧s'.op=s.op∧s.sts≤s'.sts:=by
 unfold zba at h
 obtain⟨u1,s1,h1,h⟩:=zaN h
 obtain⟨x,s2,h2,h⟩:=zaN h
 obtain⟨ps,s3,h3,h⟩:=zaN h
 obtain⟨u4,s4,h4,h⟩:=zaN h
 obtain⟨vs,s5,h5,h⟩:=zaN h
 obtain⟨b,s6,h6,h⟩:=zaN h
 obtain⟨u7,s7,h7,h⟩:=zaN h
 cases h
 have k1:=take_less (by decide) h1
 have q1:=take_flat h1 rfl rfl
 have p1:=zcv h1
 have k2:=zdY _ _ _ _ h2
 have k3:=kr_args (zdY z) _ _ _ h3
 have q4:=zbr h4 rfl
 have p4:=zcv h4
 have k5:=kr_vars _ _ _ _ _ h5
 have k6:=(kr_stmts z m).2.2.2 _ _ _ _ h6
 have q7:=zed h7 rfl rfl
 have p7:=zcv h7
 omega
end Go.Proofs.YtljbbhhiiiepcaaGreatDoor.Pm
