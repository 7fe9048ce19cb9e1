/- Statements that begin with a name: calls, and all the others. -/
import Derived.Test.YtljbbhhiiiepcaaGreatDoorPFin
import Derived.Test.YtljbbhhiiiepcaaGreatDoorTStRight2
set_option linter.unusedSimpArgs false
set_option linter.unusedVariables false
set_option maxHeartbeats 8000000
set_option maxRecDepth 100000
namespace Go.Proofs.YtljbbhhiiiepcaaGreatDoor.Pm
open Go Go.RowKit Go.Proofs.YtljbbhhiiiepcaaGreatDoor
open Go.Lib (hid)
theorem st_val (S:ST):S.val=.agg #[.int .i64 S.kind,.int .i64 S.tag,.string S.name,.string S.func,.slice S.ea S.en S.ec,.slice S.ba S.bn S.bc,.slice S.la S.ln S.lc]:=by show Value.agg S.cells=_;rw[ST.cells_eq]
theorem CS.on {P:Nat→Prop} {r:RS} {v:Value} {A A':Nat} {w1 w2:World} (h:CS r v A w1) (hk:KeptP P w1 w2) (hP:∀b,A≤b→¬P b) (hA:A'≤A):CS r v A' w2:=by
 obtain⟨S,rfl,h1,h2,h3⟩:=h
 exact⟨S,rfl,h1,h2,(h3.keep fun p u hp hc=>hk.cell (hP _ hp) hc).mono hA⟩
section
variable {F:PC} {B f:Nat} {s:PS} {w:World}
theorem name_ok (h:Pa F B f s w) {a:List UInt8} {s1:PS} (e:name F.z s=.ok a s1):zaK a=true:=by
 unfold name at e
 split at e
 ·rename_i hk
  cases e
  exact(zbb h).nm (by simpa using hk)
 ·cases e
theorem cs_call {x g:List UInt8} (hx:zaK x=true) (hg:zaK g=true) {ea:Option Addr} {ec:Nat} {l:List ET} {r:List RE} {A:Nat} {w':World} (hin:EsIn w' A ea 0 l) (hl:l.length≤200000) (hr:res l=r) (hb:zam l=true):
  CS (.call 0 x g r) (.agg #[.int .i64 3,.int .i64 0,.string (bs x),.string (bs g),.slice ea l.length ec,.slice none 0 0,.slice none 0 0]) A w':=by
 refine⟨.mk 3 0 (bs x) (bs g) ea ec l none 0 [] none 0 [],rfl,by rw[ST.rs];show RS.call 0 (bs x).data.toList (bs g).data.toList (res l)=_;rw[hr];simp[bs],by simp[ST.rightB,zaO,zaU,zak,nmB,bs,hx,hg,hb],?_⟩
 rw[ST.In]
 exact⟨by decide,⟨by omega,by simp,by simp⟩,hin,by rw[SsIn];trivial,by rw[SsIn];trivial⟩
theorem call_any (h:Pa F B f s w) (m:Nat) (x:List UInt8) (hx:zaK x=true) (hfin:Fin (call F.z m x s)):Calls Tryz.prog 268 #[ptrP f,.string (bs x)] w (QPost F B f CS (call F.z m x s) w):=by
 obtain⟨HP0,HG0,HRr0⟩:=zby h
 have HLT:=hid h.lt
 have HLE:=hid h.le
 have HFU:=hfin
 unfold call at HFU
 have HFIN:=hid HFU
 have HNM:=hid hx
 clear h HFU hfin hx
 go_enter Tryz.func268,Tryz.ntmps268
 go_wp2_with (first
  | (go_at_call 264;refine(zbs 3 0 (bs x) (bs a1) ea2 l2.length ec2 none 0 0 none 0 0 (HP2.out.far HLX.out 4 (.slice ea2 l2.length ec2))).mono ?_;intro e w3 hq;rcases hq.split with ⟨a3,s3,v3,hr,rfl,hC,hp,hg⟩ | ⟨n,s',hr,rfl,hp,hg⟩;rotate_left;(exact⟨rfl,QPost.wrong (by unfold call;rw[HE1.out];show(args _ _ _ _).bind _=_;rw[HE2.out];show zaE _ _ _=_;unfold zaE;rw[hr];rfl) hp (zaa (zag HG2.out HLW.out 4 (.slice ea2 l2.length ec2)) hg)⟩);obtain rfl:=hC;have HE3:=hid hr;have HP3:=hid hp;have HG3:=hid (zaa (zag HG2.out HLW.out 4 (.slice ea2 l2.length ec2)) hg);have HK3:=hid ((HK2_2.out.set (Or.inr (Or.inr rfl)) 4 (.slice ea2 l2.length ec2)).grown (Or.inl rfl) hg);have hrr:=(hg.block w.heap.size (by have:=lt_of_block HRr2.out;simpa[World.setCell] using this) (by have h0:=HLT.out;have h1:=HLE.out;simp;omega)).trans ((Below.heap_setCell _ _ _ _ (Nat.ne_of_lt HRW.out)).trans HRr2.out);clear ry rx0 rx1 rx2 rx3 rx4 rx5 rx6 rl;obtain⟨ry,rx0,rx1,rx2,rx3,rx4,rx5,rx6,rl⟩:=zax hrr;clear hrr;clear hr hp hg hq)
  | (go_at_call 286;refine(argsE_any (expr F.z m) (zbf m) ((zch F.z m).2.1 1) m (HP1.out.alloc (.cells #[.int .i64 3,.int .i64 0,.string (bs x),.string (bs a1),.slice none 0 0,.slice none 0 0,.slice none 0 0] 66)) ((HFIN.out.snd HE1.out).fst)).mono ?_;intro e w2 hq;rcases hq.split with ⟨a2,s2,v2,hr,rfl,hC,hp,hg⟩ | ⟨n,s',hr,rfl,hp,hg⟩;rotate_left;(exact⟨rfl,QPost.wrong (by unfold call;rw[HE1.out];show(args _ _ _ _).bind _=_;rw[hr];rfl) hp (zaa (zad HG1.out (.cells #[.int .i64 3,.int .i64 0,.string (bs x),.string (bs a1),.slice none 0 0,.slice none 0 0,.slice none 0 0] 66)) hg)⟩);have HE2:=hid hr;have HP2:=hid hp;obtain⟨ea2,ec2,l2,hv,hT⟩:=hC;subst hv;have HT2:=hid hT;have HG2:Hid (w.grownBy w2 (some f)):=hid (zaa (zad HG1.out (.cells #[.int .i64 3,.int .i64 0,.string (bs x),.string (bs a1),.slice none 0 0,.slice none 0 0,.slice none 0 0] 66)) hg);have HS2:=hid hg.size;have hrr:=(hg.block w.heap.size (lt_of_block (zai (.cells #[.int .i64 3,.int .i64 0,.string (bs x),.string (bs a1),.slice none 0 0,.slice none 0 0,.slice none 0 0] 66) HRr1.out)) (by have h0:=HLT.out;have h1:=HLE.out;have h2:=HP0.out.le;simp;omega)).trans (zai (.cells #[.int .i64 3,.int .i64 0,.string (bs x),.string (bs a1),.slice none 0 0,.slice none 0 0,.slice none 0 0] 66) HRr1.out);have HRr2:=hid hrr;clear ry rx0 rx1 rx2 rx3 rx4 rx5 rx6 rl;obtain⟨ry,rx0,rx1,rx2,rx3,rx4,rx5,rx6,rl⟩:=zax hrr;clear hrr;have hrq:=(hg.block (w1.heap.size) (by simp<;>omega) (by have h0:=HP1.out.flt;have h3:=HLT.out;have h4:=HLE.out;simp at h0 ⊢;omega)).trans (zao (.cells #[.int .i64 3,.int .i64 0,.string (bs x),.string (bs a1),.slice none 0 0,.slice none 0 0,.slice none 0 0] 66) (by simp));have HRq2:=hid hrq;obtain⟨qy,qx0,qx1,qx2,qx3,qx4,qx5,qx6,ql⟩:=zax hrq;clear hrq;have HK2_2:=hid (KeptP.refl (Tri f w.heap.size w1.heap.size) w2);clear hg hr hp hq hT)
  | (go_at_call 120;refine(zcy HP0.out).mono ?_;intro e w1 hq;rcases hq.split with ⟨a1,s1,v1,hr,rfl,hC,hp,hg⟩ | ⟨n,s',hr,rfl,hp,hg⟩;rotate_left;(exact⟨rfl,QPost.wrong (by unfold call;rw[hr];rfl) hp (zaa HG0.out hg)⟩);have HE1:=hid hr;have HP1:=hid hp;obtain rfl:v1=.string (bs a1):=hC;have HG1:Hid (w.grownBy w1 (some f)):=hid (zaa HG0.out hg);have HS1:=hid hg.size;have hrr:=(hg.block w.heap.size (lt_of_block HRr0.out) (by have h0:=HLT.out;have h1:=HLE.out;have h2:=HP0.out.le;simp;omega)).trans HRr0.out;have HRr1:=hid hrr;obtain⟨ry,rx0,rx1,rx2,rx3,rx4,rx5,rx6,rl⟩:=zax hrr;clear hrr;clear hg hr hp hq;have HRW:=hid (lt_of_block HRr1.out);have HLX:Hid (B≤w1.heap.size):=hid (by have:=HLE.out;have h2:=HRW.out;omega);have HLW:Hid (w.heap.size≤w1.heap.size):=hid (Nat.le_of_lt HRW.out)))
 have hle:=HLE.out
 have hlt:=HLT.out
 have hrw:=HRW.out
 obtain⟨t1,t2,t3,t4⟩:=HT2.out
 refine bodyPost_ret (v:=.agg #[.int .i64 3,.int .i64 0,.string (bs x),.string (bs a1),.slice ea2 l2.length ec2,.slice none 0 0,.slice none 0 0]) (by simp[results,Tryz.results268,go_sem, *]) rfl (QPost.good (by unfold call;rw[HE1.out];show(args _ _ _ _).bind _=_;rw[HE2.out];show zaE _ _ _=_;unfold zaE;rw[HE3.out];rfl) (cs_call HNM.out (name_ok HP0.out HE1.out) (zd0 (P:=Tri f w.heap.size w1.heap.size) (wa:=w2) (A:=w1.heap.size+1) ?_ (fun b hb h=>by unfold Tri at h;omega) (by omega) (by simpa using t3)) t4 t1 t2) ?_ ?_)
 ·repeat (first | with_reducible exact HK3.out | (with_reducible refine KeptP.set ?_ (Or.inr (Or.inl rfl)) _ _))
 ·repeat (first | with_reducible exact HP3.out | (with_reducible refine Pa.far ?_ hle _ _))
 ·repeat (first | with_reducible exact HG3.out | (with_reducible refine zag ?_ (Nat.le_refl _) _ _))
theorem zcj (h:Pa F B f s w) (hk:(cur F.z s).kind=1):Calls Tryz.prog 120 #[ptrP f] w fun e w'=>e=.returned (.string (bs (cur F.z s).text))∧Pa F B f (skip s) w'∧w.grownBy w' (some f):=by
 have hx:=zcy h
 rw[zee hk] at hx
 refine hx.mono ?_
 rintro e w' ⟨v,rfl,hC,hp,hg⟩
 obtain rfl:v=.string (bs (cur F.z s).text):=hC
 exact⟨rfl,hp,hg⟩
theorem name_fails (h:Pa F B f s w) (hk:¬(cur F.z s).kind=1):Calls Tryz.prog 120 #[ptrP f] w fun e w'=>e=.panicked [{v:=errV 3,recovered:=false}]∧Pa F B f s w'∧w.grownBy w' (some f):=by
 have hx:=zcy h
 rw[name_not hk] at hx
 exact hx
theorem zdJ (h:Pa F B f s w) (t:ByteArray) (l:List UInt8) (hl:t.data.toList=l) (hne:l≠[]) (ho:za8 l=false) (hs:za9 l=false) (hat:at' F.z l s=true):Calls Tryz.prog 119 #[ptrP f,.string t] w fun e w'=>e=.returned (.tuple #[])∧Pa F B f (skip s) w'∧w.grownBy w' (some f):=by
 have hx:=zaJ h t l hl hne (fun e=>by rw[hs] at e;cases e)
 have e:=zcq hat
 rw[take_yes hat,pass_skip (by rw[e];exact ho) (by rw[e];exact hs)] at hx
 refine hx.mono ?_
 rintro e w' ⟨v,rfl,hC,hp,hg⟩
 obtain rfl:v=.tuple #[]:=hC
 exact⟨rfl,hp,hg⟩
theorem take_fails (h:Pa F B f s w) (t:ByteArray) (l:List UInt8) (hl:t.data.toList=l) (hne:l≠[]) (hs:za9 l=false) (hat:at' F.z l s=false):Calls Tryz.prog 119 #[ptrP f,.string t] w fun e w'=>e=.panicked [{v:=errV 3,recovered:=false}]∧Pa F B f s w'∧w.grownBy w' (some f):=by
 have hx:=zaJ h t l hl hne (fun e=>by rw[hs] at e;cases e)
 rw[take_no hat] at hx
 exact hx
theorem set_is (m:Nat) (hk:(cur F.z s).kind=1):zaM F.z m s=if at' F.z [91] (skip s) then store F.z m (cur F.z s).text (skip s) else (take F.z [61] (skip s)).bind fun _ s2=>if at' F.z zec s2 then input F.z (cur F.z s).text s2 else if (cur F.z s2).kind==1&&(nxt F.z s2).text==[40] then call F.z m (cur F.z s).text s2 else (expr F.z m s2).bind fun e s3=>zaE F.z (.asg 0 (cur F.z s).text e) s3:=by
 unfold zaM
 rw[zee hk]
 rfl
theorem set_eq (m:Nat) (hk:(cur F.z s).kind=1) (h91:at' F.z [91] (skip s)=false) (h61:at' F.z [61] (skip s)=true):zaM F.z m s=if at' F.z zec (skip (skip s)) then input F.z (cur F.z s).text (skip (skip s)) else if (cur F.z (skip (skip s))).kind==1&&(nxt F.z (skip (skip s))).text==[40] then call F.z m (cur F.z s).text (skip (skip s)) else (expr F.z m (skip (skip s))).bind fun e s3=>zaE F.z (.asg 0 (cur F.z s).text e) s3:=by
 have e:=zcq h61
 rw[set_is m hk,if_neg (by simp[h91]),take_yes h61,pass_skip (by rw[e];rfl) (by rw[e];rfl)]
 rfl
theorem set_a (h:Pa F B f s w) (m:Nat) (hk:¬(cur F.z s).kind=1):Calls Tryz.prog 230 #[ptrP f] w (QPost F B f CS (zaM F.z m s) w):=by
 obtain⟨HP0,HG0,HRr0⟩:=zby h
 have HLT:=hid h.lt
 have HLE:=hid h.le
 have HN:Hid (zaM F.z m s=.bad 3 s):=hid (by unfold zaM;rw[name_not hk];rfl)
 have HK:=hid hk
 clear h hk
 go_enter Tryz.func230,Tryz.ntmps230
 go_wp2_with (go_at_call 120;refine(name_fails HP0.out HK.out).mono ?_;rintro e w1 ⟨rfl,hp,hg⟩;have HP1:Hid (Pa F B f (s) w1):=hid hp;have HG1:Hid (w.grownBy w1 (some f)):=hid (zaa HG0.out hg);have HS1:=hid hg.size;have hrr:=(hg.block w.heap.size (lt_of_block HRr0.out) (by have h0:=HLT.out;have h1:=HLE.out;have h2:=HP0.out.le;simp;omega)).trans HRr0.out;have HRr1:=hid hrr;obtain⟨ry,rx0,rx1,rx2,rx3,rx4,rx5,rx6,rl⟩:=zax hrr;clear hrr;clear hg hp)
 exact⟨rfl,QPost.wrong HN.out HP1.out HG1.out⟩
theorem set_b (h:Pa F B f s w) (m:Nat) (hk:(cur F.z s).kind=1) (h91:at' F.z [91] (skip s)=true) (hfin:Fin (zaM F.z m s)):Calls Tryz.prog 230 #[ptrP f] w (QPost F B f CS (zaM F.z m s) w):=by
 obtain⟨HP0,HG0,HRr0⟩:=zby h
 have HLT:=hid h.lt
 have HLE:=hid h.le
 have HNM:=hid ((zbb h).nm hk)
 have HN:Hid (zaM F.z m s=store F.z m (cur F.z s).text (skip s)):=hid (by rw[set_is m hk,if_pos h91])
 have HFI:Hid (Fin (store F.z m (cur F.z s).text (skip s))):=hid (by rw[HN.out] at hfin;exact hfin)
 have HK:=hid hk
 have H91:=hid h91
 have hfd:=zbK
 clear h hfin hk h91
 go_enter Tryz.func230,Tryz.ntmps230
 go_wp2_with (first
  | (go_at_call 266;refine(store_any HP2.out m (cur F.z s).text HNM.out HFI.out).mono ?_;intro e w3 hq;rcases hq.split with ⟨a3,s3,v3,hr,rfl,hC,hp,hg⟩ | ⟨n,s',hr,rfl,hp,hg⟩;rotate_left;(exact⟨rfl,QPost.wrong (by rw[HN.out,hr]) hp (zaa HG2.out hg)⟩);have HE3:=hid hr;have HP3:=hid hp;obtain⟨S3,hv,hT⟩:=hC;rw[st_val] at hv;subst hv;have HT3:=hid hT;have HG3:Hid (w.grownBy w3 (some f)):=hid (zaa HG2.out hg);have HS3:=hid hg.size;have hrr:=(hg.block w.heap.size (lt_of_block HRr2.out) (by have h0:=HLT.out;have h1:=HLE.out;have h2:=HP0.out.le;simp;omega)).trans HRr2.out;have HRr3:=hid hrr;clear ry rx0 rx1 rx2 rx3 rx4 rx5 rx6 rl;obtain⟨ry,rx0,rx1,rx2,rx3,rx4,rx5,rx6,rl⟩:=zax hrr;clear hrr;have HK3_3:=hid (KeptP.refl (Two f w.heap.size) w3);clear hg hr hp hq hT)
  | (go_at_call 174;refine(zaD HP1.out {data:=#[91]} [91] rfl _ H91.out).mono ?_;rintro e w2 ⟨rfl,hb⟩;have hg:=zae hb (some f);have HP2:=hid (HP1.out.on hb);have HG2:Hid (w.grownBy w2 (some f)):=hid (zaa HG1.out hg);have HS2:=hid hg.size;have hrr:=(hg.block w.heap.size (lt_of_block HRr1.out) (by have h0:=HLT.out;have h1:=HLE.out;have h2:=HP0.out.le;simp;omega)).trans HRr1.out;have HRr2:=hid hrr;clear ry rx0 rx1 rx2 rx3 rx4 rx5 rx6 rl;obtain⟨ry,rx0,rx1,rx2,rx3,rx4,rx5,rx6,rl⟩:=zax hrr;clear hrr;clear hg hb)
  | (go_at_call 120;refine(zcj HP0.out HK.out).mono ?_;rintro e w1 ⟨rfl,hp,hg⟩;have HP1:Hid (Pa F B f (skip s) w1):=hid hp;have HG1:Hid (w.grownBy w1 (some f)):=hid (zaa HG0.out hg);have HS1:=hid hg.size;have hrr:=(hg.block w.heap.size (lt_of_block HRr0.out) (by have h0:=HLT.out;have h1:=HLE.out;have h2:=HP0.out.le;simp;omega)).trans HRr0.out;have HRr1:=hid hrr;obtain⟨ry,rx0,rx1,rx2,rx3,rx4,rx5,rx6,rl⟩:=zax hrr;clear hrr;clear hg hp))
 have hle:=HLE.out
 have hlt:=HLT.out
 have hq:=lt_of_block HRr2.out
 obtain⟨t1,t2,t3⟩:=HT3.out
 refine bodyPost_ret (v:=.agg #[.int .i64 S3.kind,.int .i64 S3.tag,.string S3.name,.string S3.func,.slice S3.ea S3.en S3.ec,.slice S3.ba S3.bn S3.bc,.slice S3.la S3.ln S3.lc]) (by simp[results,Tryz.results230,go_sem, *]) rfl (QPost.good (by rw[HN.out,HE3.out]) (CS.on (P:=Two f w.heap.size) (w1:=w3) ⟨S3,by rw[st_val],t1,t2,t3⟩ (w2:=_) ?_ (zbj (f:=f) (R:=w.heap.size) (by omega) hq) (Nat.le_of_lt hq)) ?_ ?_)
 ·repeat (first | with_reducible exact KeptP.refl _ _ | (with_reducible refine KeptP.set ?_ (Or.inr rfl) _ _))
 ·repeat (first | with_reducible exact HP3.out | (with_reducible refine Pa.far ?_ hle _ _))
 ·repeat (first | with_reducible exact HG3.out | (with_reducible refine zag ?_ (Nat.le_refl _) _ _))
theorem set_c (h:Pa F B f s w) (m:Nat) (hk:(cur F.z s).kind=1) (h91:at' F.z [91] (skip s)=false) (h61:at' F.z [61] (skip s)=false) (hfin:Fin (zaM F.z m s)):Calls Tryz.prog 230 #[ptrP f] w (QPost F B f CS (zaM F.z m s) w):=by
 obtain⟨HP0,HG0,HRr0⟩:=zby h
 have HLT:=hid h.lt
 have HLE:=hid h.le
 have HNM:=hid ((zbb h).nm hk)
 have HN:Hid (zaM F.z m s=.bad 3 (skip s)):=hid (by rw[set_is m hk,if_neg (by simp[h91]),take_no h61];rfl)
 have HK:=hid hk
 have H91:=hid h91
 have H61:=hid h61
 have hfd:=zbK
 clear h hfin hk h91 h61
 go_enter Tryz.func230,Tryz.ntmps230
 go_wp2_with (first
  | (go_at_call 119;refine(take_fails HP2.out {data:=#[61]} [61] rfl (by simp) rfl H61.out).mono ?_;rintro e w3 ⟨rfl,hp,hg⟩;have HP3:Hid (Pa F B f (skip s) w3):=hid hp;have HG3:Hid (w.grownBy w3 (some f)):=hid (zaa HG2.out hg);have HS3:=hid hg.size;have hrr:=(hg.block w.heap.size (lt_of_block HRr2.out) (by have h0:=HLT.out;have h1:=HLE.out;have h2:=HP0.out.le;simp;omega)).trans HRr2.out;have HRr3:=hid hrr;clear ry rx0 rx1 rx2 rx3 rx4 rx5 rx6 rl;obtain⟨ry,rx0,rx1,rx2,rx3,rx4,rx5,rx6,rl⟩:=zax hrr;clear hrr;clear hg hp)
  | (go_at_call 174;refine(zaD HP1.out {data:=#[91]} [91] rfl _ H91.out).mono ?_;rintro e w2 ⟨rfl,hb⟩;have hg:=zae hb (some f);have HP2:=hid (HP1.out.on hb);have HG2:Hid (w.grownBy w2 (some f)):=hid (zaa HG1.out hg);have HS2:=hid hg.size;have hrr:=(hg.block w.heap.size (lt_of_block HRr1.out) (by have h0:=HLT.out;have h1:=HLE.out;have h2:=HP0.out.le;simp;omega)).trans HRr1.out;have HRr2:=hid hrr;clear ry rx0 rx1 rx2 rx3 rx4 rx5 rx6 rl;obtain⟨ry,rx0,rx1,rx2,rx3,rx4,rx5,rx6,rl⟩:=zax hrr;clear hrr;clear hg hb)
  | (go_at_call 120;refine(zcj HP0.out HK.out).mono ?_;rintro e w1 ⟨rfl,hp,hg⟩;have HP1:Hid (Pa F B f (skip s) w1):=hid hp;have HG1:Hid (w.grownBy w1 (some f)):=hid (zaa HG0.out hg);have HS1:=hid hg.size;have hrr:=(hg.block w.heap.size (lt_of_block HRr0.out) (by have h0:=HLT.out;have h1:=HLE.out;have h2:=HP0.out.le;simp;omega)).trans HRr0.out;have HRr1:=hid hrr;obtain⟨ry,rx0,rx1,rx2,rx3,rx4,rx5,rx6,rl⟩:=zax hrr;clear hrr;clear hg hp))
 exact⟨rfl,QPost.wrong HN.out HP3.out HG3.out⟩
theorem set_d (h:Pa F B f s w) (m:Nat) (hk:(cur F.z s).kind=1) (h91:at' F.z [91] (skip s)=false) (h61:at' F.z [61] (skip s)=true) (hrd:at' F.z zec (skip (skip s))=true) (hfin:Fin (zaM F.z m s)):Calls Tryz.prog 230 #[ptrP f] w (QPost F B f CS (zaM F.z m s) w):=by
 obtain⟨HP0,HG0,HRr0⟩:=zby h
 have HLT:=hid h.lt
 have HLE:=hid h.le
 have HNM:=hid ((zbb h).nm hk)
 have HN:Hid (zaM F.z m s=input F.z (cur F.z s).text (skip (skip s))):=hid (by rw[set_eq m hk h91 h61,if_pos hrd])
 have HK:=hid hk
 have H91:=hid h91
 have H61:=hid h61
 have HRD:=hid hrd
 have hfd:=zbK
 clear h hfin hk h91 h61 hrd
 go_enter Tryz.func230,Tryz.ntmps230
 go_wp2_with (first
  | (go_at_call 267;refine(input_any HP4.out (cur F.z s).text HNM.out).mono ?_;intro e w5 hq;rcases hq.split with ⟨a5,s5,v5,hr,rfl,hC,hp,hg⟩ | ⟨n,s',hr,rfl,hp,hg⟩;rotate_left;(exact⟨rfl,QPost.wrong (by rw[HN.out,hr]) hp (zaa HG4.out hg)⟩);have HE5:=hid hr;have HP5:=hid hp;obtain⟨S5,hv,hT⟩:=hC;rw[st_val] at hv;subst hv;have HT5:=hid hT;have HG5:Hid (w.grownBy w5 (some f)):=hid (zaa HG4.out hg);have HS5:=hid hg.size;have hrr:=(hg.block w.heap.size (lt_of_block HRr4.out) (by have h0:=HLT.out;have h1:=HLE.out;have h2:=HP0.out.le;simp;omega)).trans HRr4.out;have HRr5:=hid hrr;clear ry rx0 rx1 rx2 rx3 rx4 rx5 rx6 rl;obtain⟨ry,rx0,rx1,rx2,rx3,rx4,rx5,rx6,rl⟩:=zax hrr;clear hrr;have HK5_5:=hid (KeptP.refl (Two f w.heap.size) w5);clear hg hr hp hq hT)
  | (go_at_call 174;refine(zaD HP3.out {data:=#[114,101,97,100]} zec rfl _ HRD.out).mono ?_;rintro e w4 ⟨rfl,hb⟩;have hg:=zae hb (some f);have HP4:=hid (HP3.out.on hb);have HG4:Hid (w.grownBy w4 (some f)):=hid (zaa HG3.out hg);have HS4:=hid hg.size;have hrr:=(hg.block w.heap.size (lt_of_block HRr3.out) (by have h0:=HLT.out;have h1:=HLE.out;have h2:=HP0.out.le;simp;omega)).trans HRr3.out;have HRr4:=hid hrr;clear ry rx0 rx1 rx2 rx3 rx4 rx5 rx6 rl;obtain⟨ry,rx0,rx1,rx2,rx3,rx4,rx5,rx6,rl⟩:=zax hrr;clear hrr;clear hg hb)
  | (go_at_call 119;refine(zdJ HP2.out {data:=#[61]} [61] rfl (by simp) rfl rfl H61.out).mono ?_;rintro e w3 ⟨rfl,hp,hg⟩;have HP3:Hid (Pa F B f (skip (skip s)) w3):=hid hp;have HG3:Hid (w.grownBy w3 (some f)):=hid (zaa HG2.out hg);have HS3:=hid hg.size;have hrr:=(hg.block w.heap.size (lt_of_block HRr2.out) (by have h0:=HLT.out;have h1:=HLE.out;have h2:=HP0.out.le;simp;omega)).trans HRr2.out;have HRr3:=hid hrr;clear ry rx0 rx1 rx2 rx3 rx4 rx5 rx6 rl;obtain⟨ry,rx0,rx1,rx2,rx3,rx4,rx5,rx6,rl⟩:=zax hrr;clear hrr;clear hg hp)
  | (go_at_call 174;refine(zaD HP1.out {data:=#[91]} [91] rfl _ H91.out).mono ?_;rintro e w2 ⟨rfl,hb⟩;have hg:=zae hb (some f);have HP2:=hid (HP1.out.on hb);have HG2:Hid (w.grownBy w2 (some f)):=hid (zaa HG1.out hg);have HS2:=hid hg.size;have hrr:=(hg.block w.heap.size (lt_of_block HRr1.out) (by have h0:=HLT.out;have h1:=HLE.out;have h2:=HP0.out.le;simp;omega)).trans HRr1.out;have HRr2:=hid hrr;clear ry rx0 rx1 rx2 rx3 rx4 rx5 rx6 rl;obtain⟨ry,rx0,rx1,rx2,rx3,rx4,rx5,rx6,rl⟩:=zax hrr;clear hrr;clear hg hb)
  | (go_at_call 120;refine(zcj HP0.out HK.out).mono ?_;rintro e w1 ⟨rfl,hp,hg⟩;have HP1:Hid (Pa F B f (skip s) w1):=hid hp;have HG1:Hid (w.grownBy w1 (some f)):=hid (zaa HG0.out hg);have HS1:=hid hg.size;have hrr:=(hg.block w.heap.size (lt_of_block HRr0.out) (by have h0:=HLT.out;have h1:=HLE.out;have h2:=HP0.out.le;simp;omega)).trans HRr0.out;have HRr1:=hid hrr;obtain⟨ry,rx0,rx1,rx2,rx3,rx4,rx5,rx6,rl⟩:=zax hrr;clear hrr;clear hg hp))
 have hle:=HLE.out
 have hlt:=HLT.out
 have hq:=lt_of_block HRr4.out
 obtain⟨t1,t2,t3⟩:=HT5.out
 refine bodyPost_ret (v:=.agg #[.int .i64 S5.kind,.int .i64 S5.tag,.string S5.name,.string S5.func,.slice S5.ea S5.en S5.ec,.slice S5.ba S5.bn S5.bc,.slice S5.la S5.ln S5.lc]) (by simp[results,Tryz.results230,go_sem, *]) rfl (QPost.good (by rw[HN.out,HE5.out]) (CS.on (P:=Two f w.heap.size) (w1:=w5) ⟨S5,by rw[st_val],t1,t2,t3⟩ (w2:=_) ?_ (zbj (f:=f) (R:=w.heap.size) (by omega) hq) (Nat.le_of_lt hq)) ?_ ?_)
 ·repeat (first | with_reducible exact KeptP.refl _ _ | (with_reducible refine KeptP.set ?_ (Or.inr rfl) _ _))
 ·repeat (first | with_reducible exact HP5.out | (with_reducible refine Pa.far ?_ hle _ _))
 ·repeat (first | with_reducible exact HG5.out | (with_reducible refine zag ?_ (Nat.le_refl _) _ _))
theorem set_e (h:Pa F B f s w) (m:Nat) (hk:(cur F.z s).kind=1) (h91:at' F.z [91] (skip s)=false) (h61:at' F.z [61] (skip s)=true) (hrd:at' F.z zec (skip (skip s))=false) (hk1:((cur F.z (skip (skip s))).kind==1)=true) (h40:(nxt F.z (skip (skip s))).text=[40]) (hfin:Fin (zaM F.z m s)):Calls Tryz.prog 230 #[ptrP f] w (QPost F B f CS (zaM F.z m s) w):=by
 obtain⟨HP0,HG0,HRr0⟩:=zby h
 have HLT:=hid h.lt
 have HLE:=hid h.le
 have HNM:=hid ((zbb h).nm hk)
 have d40:((bs (nxt F.z (skip (skip s))).text).toList==[40])=true:=zcQ h40
 have HN:Hid (zaM F.z m s=call F.z m (cur F.z s).text (skip (skip s))):=hid (by rw[set_eq m hk h91 h61,if_neg (by simp[hrd]),if_pos (by simp[hk1,h40])])
 have HFI:Hid (Fin (call F.z m (cur F.z s).text (skip (skip s)))):=hid (by rw[HN.out] at hfin;exact hfin)
 have HK:=hid hk
 have H91:=hid h91
 have H61:=hid h61
 have HRD:=hid hrd
 have HK1:=hid hk1
 have hfd:=zbK
 clear h hfin hk h91 h61 hrd hk1 h40
 go_enter Tryz.func230,Tryz.ntmps230
 go_wp2_with (first
  | (go_at_call 268;refine(call_any HP6.out m (cur F.z s).text HNM.out HFI.out).mono ?_;intro e w7 hq;rcases hq.split with ⟨a7,s7,v7,hr,rfl,hC,hp,hg⟩ | ⟨n,s',hr,rfl,hp,hg⟩;rotate_left;(exact⟨rfl,QPost.wrong (by rw[HN.out,hr]) hp (zaa HG6.out hg)⟩);have HE7:=hid hr;have HP7:=hid hp;obtain⟨S7,hv,hT⟩:=hC;rw[st_val] at hv;subst hv;have HT7:=hid hT;have HG7:Hid (w.grownBy w7 (some f)):=hid (zaa HG6.out hg);have HS7:=hid hg.size;have hrr:=(hg.block w.heap.size (lt_of_block HRr6.out) (by have h0:=HLT.out;have h1:=HLE.out;have h2:=HP0.out.le;simp;omega)).trans HRr6.out;have HRr7:=hid hrr;clear ry rx0 rx1 rx2 rx3 rx4 rx5 rx6 rl;obtain⟨ry,rx0,rx1,rx2,rx3,rx4,rx5,rx6,rl⟩:=zax hrr;clear hrr;have HK7_7:=hid (KeptP.refl (Two f w.heap.size) w7);clear hg hr hp hq hT)
  | (go_at_call 173;refine(ahead1 HP5.out).mono ?_;rintro e w6 ⟨rfl,hb⟩;have hg:=zae hb (some f);have HP6:=hid (HP5.out.on hb);have HG6:Hid (w.grownBy w6 (some f)):=hid (zaa HG5.out hg);have HS6:=hid hg.size;have hrr:=(hg.block w.heap.size (lt_of_block HRr5.out) (by have h0:=HLT.out;have h1:=HLE.out;have h2:=HP0.out.le;simp;omega)).trans HRr5.out;have HRr6:=hid hrr;clear ry rx0 rx1 rx2 rx3 rx4 rx5 rx6 rl;obtain⟨ry,rx0,rx1,rx2,rx3,rx4,rx5,rx6,rl⟩:=zax hrr;clear hrr;clear hg hb)
  | (go_at_call 208;refine(zbc HP4.out 1 _ HK1.out).mono ?_;rintro e w5 ⟨rfl,hb⟩;have hg:=zae hb (some f);have HP5:=hid (HP4.out.on hb);have HG5:Hid (w.grownBy w5 (some f)):=hid (zaa HG4.out hg);have HS5:=hid hg.size;have hrr:=(hg.block w.heap.size (lt_of_block HRr4.out) (by have h0:=HLT.out;have h1:=HLE.out;have h2:=HP0.out.le;simp;omega)).trans HRr4.out;have HRr5:=hid hrr;clear ry rx0 rx1 rx2 rx3 rx4 rx5 rx6 rl;obtain⟨ry,rx0,rx1,rx2,rx3,rx4,rx5,rx6,rl⟩:=zax hrr;clear hrr;clear hg hb)
  | (go_at_call 174;refine(zaD HP3.out {data:=#[114,101,97,100]} zec rfl _ HRD.out).mono ?_;rintro e w4 ⟨rfl,hb⟩;have hg:=zae hb (some f);have HP4:=hid (HP3.out.on hb);have HG4:Hid (w.grownBy w4 (some f)):=hid (zaa HG3.out hg);have HS4:=hid hg.size;have hrr:=(hg.block w.heap.size (lt_of_block HRr3.out) (by have h0:=HLT.out;have h1:=HLE.out;have h2:=HP0.out.le;simp;omega)).trans HRr3.out;have HRr4:=hid hrr;clear ry rx0 rx1 rx2 rx3 rx4 rx5 rx6 rl;obtain⟨ry,rx0,rx1,rx2,rx3,rx4,rx5,rx6,rl⟩:=zax hrr;clear hrr;clear hg hb)
  | (go_at_call 119;refine(zdJ HP2.out {data:=#[61]} [61] rfl (by simp) rfl rfl H61.out).mono ?_;rintro e w3 ⟨rfl,hp,hg⟩;have HP3:Hid (Pa F B f (skip (skip s)) w3):=hid hp;have HG3:Hid (w.grownBy w3 (some f)):=hid (zaa HG2.out hg);have HS3:=hid hg.size;have hrr:=(hg.block w.heap.size (lt_of_block HRr2.out) (by have h0:=HLT.out;have h1:=HLE.out;have h2:=HP0.out.le;simp;omega)).trans HRr2.out;have HRr3:=hid hrr;clear ry rx0 rx1 rx2 rx3 rx4 rx5 rx6 rl;obtain⟨ry,rx0,rx1,rx2,rx3,rx4,rx5,rx6,rl⟩:=zax hrr;clear hrr;clear hg hp)
  | (go_at_call 174;refine(zaD HP1.out {data:=#[91]} [91] rfl _ H91.out).mono ?_;rintro e w2 ⟨rfl,hb⟩;have hg:=zae hb (some f);have HP2:=hid (HP1.out.on hb);have HG2:Hid (w.grownBy w2 (some f)):=hid (zaa HG1.out hg);have HS2:=hid hg.size;have hrr:=(hg.block w.heap.size (lt_of_block HRr1.out) (by have h0:=HLT.out;have h1:=HLE.out;have h2:=HP0.out.le;simp;omega)).trans HRr1.out;have HRr2:=hid hrr;clear ry rx0 rx1 rx2 rx3 rx4 rx5 rx6 rl;obtain⟨ry,rx0,rx1,rx2,rx3,rx4,rx5,rx6,rl⟩:=zax hrr;clear hrr;clear hg hb)
  | (go_at_call 120;refine(zcj HP0.out HK.out).mono ?_;rintro e w1 ⟨rfl,hp,hg⟩;have HP1:Hid (Pa F B f (skip s) w1):=hid hp;have HG1:Hid (w.grownBy w1 (some f)):=hid (zaa HG0.out hg);have HS1:=hid hg.size;have hrr:=(hg.block w.heap.size (lt_of_block HRr0.out) (by have h0:=HLT.out;have h1:=HLE.out;have h2:=HP0.out.le;simp;omega)).trans HRr0.out;have HRr1:=hid hrr;obtain⟨ry,rx0,rx1,rx2,rx3,rx4,rx5,rx6,rl⟩:=zax hrr;clear hrr;clear hg hp))
 have hle:=HLE.out
 have hlt:=HLT.out
 have hq:=lt_of_block HRr6.out
 obtain⟨t1,t2,t3⟩:=HT7.out
 refine bodyPost_ret (v:=.agg #[.int .i64 S7.kind,.int .i64 S7.tag,.string S7.name,.string S7.func,.slice S7.ea S7.en S7.ec,.slice S7.ba S7.bn S7.bc,.slice S7.la S7.ln S7.lc]) (by simp[results,Tryz.results230,go_sem, *]) rfl (QPost.good (by rw[HN.out,HE7.out]) (CS.on (P:=Two f w.heap.size) (w1:=w7) ⟨S7,by rw[st_val],t1,t2,t3⟩ (w2:=_) ?_ (zbj (f:=f) (R:=w.heap.size) (by omega) hq) (Nat.le_of_lt hq)) ?_ ?_)
 ·repeat (first | with_reducible exact KeptP.refl _ _ | (with_reducible refine KeptP.set ?_ (Or.inr rfl) _ _))
 ·repeat (first | with_reducible exact HP7.out | (with_reducible refine Pa.far ?_ hle _ _))
 ·repeat (first | with_reducible exact HG7.out | (with_reducible refine zag ?_ (Nat.le_refl _) _ _))
theorem set_f (h:Pa F B f s w) (m:Nat) (hk:(cur F.z s).kind=1) (h91:at' F.z [91] (skip s)=false) (h61:at' F.z [61] (skip s)=true) (hrd:at' F.z zec (skip (skip s))=false) (hk1:((cur F.z (skip (skip s))).kind==1)=false) (hfin:Fin (zaM F.z m s)):Calls Tryz.prog 230 #[ptrP f] w (QPost F B f CS (zaM F.z m s) w):=by
 obtain⟨HP0,HG0,HRr0⟩:=zby h
 have HLT:=hid h.lt
 have HLE:=hid h.le
 have HNM:=hid ((zbb h).nm hk)
 have HN:Hid (zaM F.z m s=(expr F.z m (skip (skip s))).bind fun e s3=>zaE F.z (.asg 0 (cur F.z s).text e) s3):=hid (by rw[set_eq m hk h91 h61,if_neg (by simp[hrd]),if_neg (by simp[hk1])])
 have HFI:Hid (Fin (expr F.z m (skip (skip s)))):=hid (by rw[HN.out] at hfin;exact hfin.fst)
 have HK:=hid hk
 have H91:=hid h91
 have H61:=hid h61
 have HRD:=hid hrd
 have HK1:=hid hk1
 have hfd:=zbK
 clear h hfin hk h91 h61 hrd hk1
 go_enter Tryz.func230,Tryz.ntmps230
 go_wp2_with (first
  | (go_at_call 264;refine(zbs 0 0 (bs (cur F.z s).text) ⟨#[]⟩ (some ⟨w6.heap.size,0,none⟩) 1 1 none 0 0 none 0 0 (HP6.out.alloc (.cells (five T6) 68))).mono ?_;intro e w7 hq;rcases hq.split with ⟨a7,s7,v7,hr,rfl,hC,hp,hg⟩ | ⟨n,s',hr,rfl,hp,hg⟩;rotate_left;(exact⟨rfl,QPost.wrong (by rw[HN.out];show(expr _ _ _).bind _=_;rw[HE6.out];show zaE _ _ _=_;unfold zaE;rw[hr];rfl) hp (zaa (zad HG6.out (.cells (five T6) 68)) hg)⟩);have HE7:=hid hr;have HP7:=hid hp;obtain rfl:=hC;have HG7:Hid (w.grownBy w7 (some f)):=hid (zaa (zad HG6.out (.cells (five T6) 68)) hg);have HS7:=hid hg.size;have hrr:=(hg.block w.heap.size (lt_of_block (zai (.cells (five T6) 68) HRr6.out)) (by have h0:=HLT.out;have h1:=HLE.out;have h2:=HP0.out.le;simp;omega)).trans (zai (.cells (five T6) 68) HRr6.out);have HRr7:=hid hrr;clear ry rx0 rx1 rx2 rx3 rx4 rx5 rx6 rl;obtain⟨ry,rx0,rx1,rx2,rx3,rx4,rx5,rx6,rl⟩:=zax hrr;clear hrr;have hrq:=(hg.block (w6.heap.size) (by simp<;>omega) (by have h0:=HP6.out.flt;have h3:=HLT.out;have h4:=HLE.out;simp at h0 ⊢;omega)).trans (zao (.cells (five T6) 68) (by simp));have HRq7:=hid hrq;obtain⟨qy,qx0,qx1,qx2,qx3,qx4,ql⟩:=zaL hrq;clear hrq;have HK6_7:=hid ((HK6_6.out.alloc (.cells (five T6) 68)).grown (Or.inl rfl) hg);clear hg hr hp hq)
  | (go_at_call 265;refine(zbf m (skip (skip s)) _ HP5.out HFI.out).mono ?_;intro e w6 hq;rcases hq.split with ⟨a6,s6,v6,hr,rfl,hC,hp,hg⟩ | ⟨n,s',hr,rfl,hp,hg⟩;rotate_left;(exact⟨rfl,QPost.wrong (by rw[HN.out];show(expr _ _ _).bind _=_;rw[hr];rfl) hp (zaa HG5.out hg)⟩);have HE6:=hid hr;have HP6:=hid hp;obtain⟨T6,hv,hT⟩:=hC;rw[ET.val_is] at hv;subst hv;have HT6:=hid hT;have HG6:Hid (w.grownBy w6 (some f)):=hid (zaa HG5.out hg);have HS6:=hid hg.size;have hrr:=(hg.block w.heap.size (lt_of_block HRr5.out) (by have h0:=HLT.out;have h1:=HLE.out;have h2:=HP0.out.le;simp;omega)).trans HRr5.out;have HRr6:=hid hrr;clear ry rx0 rx1 rx2 rx3 rx4 rx5 rx6 rl;obtain⟨ry,rx0,rx1,rx2,rx3,rx4,rx5,rx6,rl⟩:=zax hrr;clear hrr;have HK6_6:=hid (KeptP.refl (Two f w.heap.size) w6);clear hg hr hp hq hT)
  | (go_at_call 208;refine(zbc HP4.out 1 _ HK1.out).mono ?_;rintro e w5 ⟨rfl,hb⟩;have hg:=zae hb (some f);have HP5:=hid (HP4.out.on hb);have HG5:Hid (w.grownBy w5 (some f)):=hid (zaa HG4.out hg);have HS5:=hid hg.size;have hrr:=(hg.block w.heap.size (lt_of_block HRr4.out) (by have h0:=HLT.out;have h1:=HLE.out;have h2:=HP0.out.le;simp;omega)).trans HRr4.out;have HRr5:=hid hrr;clear ry rx0 rx1 rx2 rx3 rx4 rx5 rx6 rl;obtain⟨ry,rx0,rx1,rx2,rx3,rx4,rx5,rx6,rl⟩:=zax hrr;clear hrr;clear hg hb)
  | (go_at_call 174;refine(zaD HP3.out {data:=#[114,101,97,100]} zec rfl _ HRD.out).mono ?_;rintro e w4 ⟨rfl,hb⟩;have hg:=zae hb (some f);have HP4:=hid (HP3.out.on hb);have HG4:Hid (w.grownBy w4 (some f)):=hid (zaa HG3.out hg);have HS4:=hid hg.size;have hrr:=(hg.block w.heap.size (lt_of_block HRr3.out) (by have h0:=HLT.out;have h1:=HLE.out;have h2:=HP0.out.le;simp;omega)).trans HRr3.out;have HRr4:=hid hrr;clear ry rx0 rx1 rx2 rx3 rx4 rx5 rx6 rl;obtain⟨ry,rx0,rx1,rx2,rx3,rx4,rx5,rx6,rl⟩:=zax hrr;clear hrr;clear hg hb)
  | (go_at_call 119;refine(zdJ HP2.out {data:=#[61]} [61] rfl (by simp) rfl rfl H61.out).mono ?_;rintro e w3 ⟨rfl,hp,hg⟩;have HP3:Hid (Pa F B f (skip (skip s)) w3):=hid hp;have HG3:Hid (w.grownBy w3 (some f)):=hid (zaa HG2.out hg);have HS3:=hid hg.size;have hrr:=(hg.block w.heap.size (lt_of_block HRr2.out) (by have h0:=HLT.out;have h1:=HLE.out;have h2:=HP0.out.le;simp;omega)).trans HRr2.out;have HRr3:=hid hrr;clear ry rx0 rx1 rx2 rx3 rx4 rx5 rx6 rl;obtain⟨ry,rx0,rx1,rx2,rx3,rx4,rx5,rx6,rl⟩:=zax hrr;clear hrr;clear hg hp)
  | (go_at_call 174;refine(zaD HP1.out {data:=#[91]} [91] rfl _ H91.out).mono ?_;rintro e w2 ⟨rfl,hb⟩;have hg:=zae hb (some f);have HP2:=hid (HP1.out.on hb);have HG2:Hid (w.grownBy w2 (some f)):=hid (zaa HG1.out hg);have HS2:=hid hg.size;have hrr:=(hg.block w.heap.size (lt_of_block HRr1.out) (by have h0:=HLT.out;have h1:=HLE.out;have h2:=HP0.out.le;simp;omega)).trans HRr1.out;have HRr2:=hid hrr;clear ry rx0 rx1 rx2 rx3 rx4 rx5 rx6 rl;obtain⟨ry,rx0,rx1,rx2,rx3,rx4,rx5,rx6,rl⟩:=zax hrr;clear hrr;clear hg hb)
  | (go_at_call 120;refine(zcj HP0.out HK.out).mono ?_;rintro e w1 ⟨rfl,hp,hg⟩;have HP1:Hid (Pa F B f (skip s) w1):=hid hp;have HG1:Hid (w.grownBy w1 (some f)):=hid (zaa HG0.out hg);have HS1:=hid hg.size;have hrr:=(hg.block w.heap.size (lt_of_block HRr0.out) (by have h0:=HLT.out;have h1:=HLE.out;have h2:=HP0.out.le;simp;omega)).trans HRr0.out;have HRr1:=hid hrr;obtain⟨ry,rx0,rx1,rx2,rx3,rx4,rx5,rx6,rl⟩:=zax hrr;clear hrr;clear hg hp))
 have hle:=HLE.out
 have hlt:=HLT.out
 have hr1:=lt_of_block HRr5.out
 have hq:=lt_of_block HRr6.out
 obtain⟨t1,t2,t3⟩:=HT6.out
 refine bodyPost_ret (v:=.agg #[.int .i64 0,.int .i64 0,.string (bs (cur F.z s).text),.string ⟨#[]⟩,.slice (some ⟨w6.heap.size,0,none⟩) 1 1,.slice none 0 0,.slice none 0 0]) (by simp[results,Tryz.results230,go_sem, *]) rfl (QPost.good (by rw[HN.out];show(expr _ _ _).bind _=_;rw[HE6.out];show zaE _ _ _=_;unfold zaE;rw[HE7.out];rfl) (cs_mk (es_kept (P:=Two f w.heap.size) (wa:=w6) (T:=T6) ?_ (zbj (by omega) hr1) (Nat.le_of_lt hr1) t3 ?_ (Nat.le_of_lt hq)) rfl (by decide) (by rw[ST.rs];show RS.asg 0 (bs (cur F.z s).text).data.toList T6.re=_;rw[t1];simp[bs]) (by have:=HNM.out;simp[ST.rightB,zaO,zcb,zaU,zam,zak,nmB,bs,this,t2])) ?_ ?_)
 ·repeat (first | with_reducible exact HK6_7.out | (with_reducible refine KeptP.set ?_ (Or.inr rfl) _ _))
 ·repeat (first | with_reducible exact HRq7.out | (with_reducible refine(Below.heap_setCell _ _ _ _ (Nat.ne_of_gt hq)).trans ?_))
 ·repeat (first | with_reducible exact HP7.out | (with_reducible refine Pa.far ?_ hle _ _) | (with_reducible refine Pa.alloc ?_ _))
 ·repeat (first | with_reducible exact HG7.out | (with_reducible refine zag ?_ (Nat.le_refl _) _ _) | (with_reducible refine zad ?_ _))
theorem set_g (h:Pa F B f s w) (m:Nat) (hk:(cur F.z s).kind=1) (h91:at' F.z [91] (skip s)=false) (h61:at' F.z [61] (skip s)=true) (hrd:at' F.z zec (skip (skip s))=false) (hk1:((cur F.z (skip (skip s))).kind==1)=true) (h40:¬(nxt F.z (skip (skip s))).text=[40]) (hfin:Fin (zaM F.z m s)):Calls Tryz.prog 230 #[ptrP f] w (QPost F B f CS (zaM F.z m s) w):=by
 obtain⟨HP0,HG0,HRr0⟩:=zby h
 have HLT:=hid h.lt
 have HLE:=hid h.le
 have HNM:=hid ((zbb h).nm hk)
 have d40:((bs (nxt F.z (skip (skip s))).text).toList==[40])=false:=zbL (by simpa[bs] using h40)
 have HN:Hid (zaM F.z m s=(expr F.z m (skip (skip s))).bind fun e s3=>zaE F.z (.asg 0 (cur F.z s).text e) s3):=hid (by rw[set_eq m hk h91 h61,if_neg (by simp[hrd]),if_neg (by simp[hk1,h40])])
 have HFI:Hid (Fin (expr F.z m (skip (skip s)))):=hid (by rw[HN.out] at hfin;exact hfin.fst)
 have HK:=hid hk
 have H91:=hid h91
 have H61:=hid h61
 have HRD:=hid hrd
 have HK1:=hid hk1
 have hfd:=zbK
 clear h hfin hk h91 h61 hrd hk1 h40
 go_enter Tryz.func230,Tryz.ntmps230
 go_wp2_with (first
  | (go_at_call 264;refine(zbs 0 0 (bs (cur F.z s).text) ⟨#[]⟩ (some ⟨w7.heap.size,0,none⟩) 1 1 none 0 0 none 0 0 (HP7.out.alloc (.cells (five T7) 68))).mono ?_;intro e w8 hq;rcases hq.split with ⟨a8,s8,v8,hr,rfl,hC,hp,hg⟩ | ⟨n,s',hr,rfl,hp,hg⟩;rotate_left;(exact⟨rfl,QPost.wrong (by rw[HN.out];show(expr _ _ _).bind _=_;rw[HE7.out];show zaE _ _ _=_;unfold zaE;rw[hr];rfl) hp (zaa (zad HG7.out (.cells (five T7) 68)) hg)⟩);have HE8:=hid hr;have HP8:=hid hp;obtain rfl:=hC;have HG8:Hid (w.grownBy w8 (some f)):=hid (zaa (zad HG7.out (.cells (five T7) 68)) hg);have HS8:=hid hg.size;have hrr:=(hg.block w.heap.size (lt_of_block (zai (.cells (five T7) 68) HRr7.out)) (by have h0:=HLT.out;have h1:=HLE.out;have h2:=HP0.out.le;simp;omega)).trans (zai (.cells (five T7) 68) HRr7.out);have HRr8:=hid hrr;clear ry rx0 rx1 rx2 rx3 rx4 rx5 rx6 rl;obtain⟨ry,rx0,rx1,rx2,rx3,rx4,rx5,rx6,rl⟩:=zax hrr;clear hrr;have hrq:=(hg.block (w7.heap.size) (by simp<;>omega) (by have h0:=HP7.out.flt;have h3:=HLT.out;have h4:=HLE.out;simp at h0 ⊢;omega)).trans (zao (.cells (five T7) 68) (by simp));have HRq8:=hid hrq;obtain⟨qy,qx0,qx1,qx2,qx3,qx4,ql⟩:=zaL hrq;clear hrq;have HK7_8:=hid ((HK7_7.out.alloc (.cells (five T7) 68)).grown (Or.inl rfl) hg);clear hg hr hp hq)
  | (go_at_call 265;refine(zbf m (skip (skip s)) _ HP6.out HFI.out).mono ?_;intro e w7 hq;rcases hq.split with ⟨a7,s7,v7,hr,rfl,hC,hp,hg⟩ | ⟨n,s',hr,rfl,hp,hg⟩;rotate_left;(exact⟨rfl,QPost.wrong (by rw[HN.out];show(expr _ _ _).bind _=_;rw[hr];rfl) hp (zaa HG6.out hg)⟩);have HE7:=hid hr;have HP7:=hid hp;obtain⟨T7,hv,hT⟩:=hC;rw[ET.val_is] at hv;subst hv;have HT7:=hid hT;have HG7:Hid (w.grownBy w7 (some f)):=hid (zaa HG6.out hg);have HS7:=hid hg.size;have hrr:=(hg.block w.heap.size (lt_of_block HRr6.out) (by have h0:=HLT.out;have h1:=HLE.out;have h2:=HP0.out.le;simp;omega)).trans HRr6.out;have HRr7:=hid hrr;clear ry rx0 rx1 rx2 rx3 rx4 rx5 rx6 rl;obtain⟨ry,rx0,rx1,rx2,rx3,rx4,rx5,rx6,rl⟩:=zax hrr;clear hrr;have HK7_7:=hid (KeptP.refl (Two f w.heap.size) w7);clear hg hr hp hq hT)
  | (go_at_call 173;refine(ahead1 HP5.out).mono ?_;rintro e w6 ⟨rfl,hb⟩;have hg:=zae hb (some f);have HP6:=hid (HP5.out.on hb);have HG6:Hid (w.grownBy w6 (some f)):=hid (zaa HG5.out hg);have HS6:=hid hg.size;have hrr:=(hg.block w.heap.size (lt_of_block HRr5.out) (by have h0:=HLT.out;have h1:=HLE.out;have h2:=HP0.out.le;simp;omega)).trans HRr5.out;have HRr6:=hid hrr;clear ry rx0 rx1 rx2 rx3 rx4 rx5 rx6 rl;obtain⟨ry,rx0,rx1,rx2,rx3,rx4,rx5,rx6,rl⟩:=zax hrr;clear hrr;clear hg hb)
  | (go_at_call 208;refine(zbc HP4.out 1 _ HK1.out).mono ?_;rintro e w5 ⟨rfl,hb⟩;have hg:=zae hb (some f);have HP5:=hid (HP4.out.on hb);have HG5:Hid (w.grownBy w5 (some f)):=hid (zaa HG4.out hg);have HS5:=hid hg.size;have hrr:=(hg.block w.heap.size (lt_of_block HRr4.out) (by have h0:=HLT.out;have h1:=HLE.out;have h2:=HP0.out.le;simp;omega)).trans HRr4.out;have HRr5:=hid hrr;clear ry rx0 rx1 rx2 rx3 rx4 rx5 rx6 rl;obtain⟨ry,rx0,rx1,rx2,rx3,rx4,rx5,rx6,rl⟩:=zax hrr;clear hrr;clear hg hb)
  | (go_at_call 174;refine(zaD HP3.out {data:=#[114,101,97,100]} zec rfl _ HRD.out).mono ?_;rintro e w4 ⟨rfl,hb⟩;have hg:=zae hb (some f);have HP4:=hid (HP3.out.on hb);have HG4:Hid (w.grownBy w4 (some f)):=hid (zaa HG3.out hg);have HS4:=hid hg.size;have hrr:=(hg.block w.heap.size (lt_of_block HRr3.out) (by have h0:=HLT.out;have h1:=HLE.out;have h2:=HP0.out.le;simp;omega)).trans HRr3.out;have HRr4:=hid hrr;clear ry rx0 rx1 rx2 rx3 rx4 rx5 rx6 rl;obtain⟨ry,rx0,rx1,rx2,rx3,rx4,rx5,rx6,rl⟩:=zax hrr;clear hrr;clear hg hb)
  | (go_at_call 119;refine(zdJ HP2.out {data:=#[61]} [61] rfl (by simp) rfl rfl H61.out).mono ?_;rintro e w3 ⟨rfl,hp,hg⟩;have HP3:Hid (Pa F B f (skip (skip s)) w3):=hid hp;have HG3:Hid (w.grownBy w3 (some f)):=hid (zaa HG2.out hg);have HS3:=hid hg.size;have hrr:=(hg.block w.heap.size (lt_of_block HRr2.out) (by have h0:=HLT.out;have h1:=HLE.out;have h2:=HP0.out.le;simp;omega)).trans HRr2.out;have HRr3:=hid hrr;clear ry rx0 rx1 rx2 rx3 rx4 rx5 rx6 rl;obtain⟨ry,rx0,rx1,rx2,rx3,rx4,rx5,rx6,rl⟩:=zax hrr;clear hrr;clear hg hp)
  | (go_at_call 174;refine(zaD HP1.out {data:=#[91]} [91] rfl _ H91.out).mono ?_;rintro e w2 ⟨rfl,hb⟩;have hg:=zae hb (some f);have HP2:=hid (HP1.out.on hb);have HG2:Hid (w.grownBy w2 (some f)):=hid (zaa HG1.out hg);have HS2:=hid hg.size;have hrr:=(hg.block w.heap.size (lt_of_block HRr1.out) (by have h0:=HLT.out;have h1:=HLE.out;have h2:=HP0.out.le;simp;omega)).trans HRr1.out;have HRr2:=hid hrr;clear ry rx0 rx1 rx2 rx3 rx4 rx5 rx6 rl;obtain⟨ry,rx0,rx1,rx2,rx3,rx4,rx5,rx6,rl⟩:=zax hrr;clear hrr;clear hg hb)
  | (go_at_call 120;refine(zcj HP0.out HK.out).mono ?_;rintro e w1 ⟨rfl,hp,hg⟩;have HP1:Hid (Pa F B f (skip s) w1):=hid hp;have HG1:Hid (w.grownBy w1 (some f)):=hid (zaa HG0.out hg);have HS1:=hid hg.size;have hrr:=(hg.block w.heap.size (lt_of_block HRr0.out) (by have h0:=HLT.out;have h1:=HLE.out;have h2:=HP0.out.le;simp;omega)).trans HRr0.out;have HRr1:=hid hrr;obtain⟨ry,rx0,rx1,rx2,rx3,rx4,rx5,rx6,rl⟩:=zax hrr;clear hrr;clear hg hp))
 have hle:=HLE.out
 have hlt:=HLT.out
 have hr1:=lt_of_block HRr6.out
 have hq:=lt_of_block HRr7.out
 obtain⟨t1,t2,t3⟩:=HT7.out
 refine bodyPost_ret (v:=.agg #[.int .i64 0,.int .i64 0,.string (bs (cur F.z s).text),.string ⟨#[]⟩,.slice (some ⟨w7.heap.size,0,none⟩) 1 1,.slice none 0 0,.slice none 0 0]) (by simp[results,Tryz.results230,go_sem, *]) rfl (QPost.good (by rw[HN.out];show(expr _ _ _).bind _=_;rw[HE7.out];show zaE _ _ _=_;unfold zaE;rw[HE8.out];rfl) (cs_mk (es_kept (P:=Two f w.heap.size) (wa:=w7) (T:=T7) ?_ (zbj (by omega) hr1) (Nat.le_of_lt hr1) t3 ?_ (Nat.le_of_lt hq)) rfl (by decide) (by rw[ST.rs];show RS.asg 0 (bs (cur F.z s).text).data.toList T7.re=_;rw[t1];simp[bs]) (by have:=HNM.out;simp[ST.rightB,zaO,zcb,zaU,zam,zak,nmB,bs,this,t2])) ?_ ?_)
 ·repeat (first | with_reducible exact HK7_8.out | (with_reducible refine KeptP.set ?_ (Or.inr rfl) _ _))
 ·repeat (first | with_reducible exact HRq8.out | (with_reducible refine(Below.heap_setCell _ _ _ _ (Nat.ne_of_gt hq)).trans ?_))
 ·repeat (first | with_reducible exact HP8.out | (with_reducible refine Pa.far ?_ hle _ _) | (with_reducible refine Pa.alloc ?_ _))
 ·repeat (first | with_reducible exact HG8.out | (with_reducible refine zag ?_ (Nat.le_refl _) _ _) | (with_reducible refine zad ?_ _))
theorem setting_any (m:Nat) (h:Pa F B f s w) (hfin:Fin (zaM F.z m s)):Calls Tryz.prog 230 #[ptrP f] w (QPost F B f CS (zaM F.z m s) w):=by
 by_cases hk:(cur F.z s).kind=1
 ·rcases h91:at' F.z [91] (skip s) with _ | _
  ·rcases h61:at' F.z [61] (skip s) with _ | _
   ·exact set_c h m hk h91 h61 hfin
   ·rcases hrd:at' F.z zec (skip (skip s)) with _ | _
    ·rcases hk1:((cur F.z (skip (skip s))).kind==1) with _ | _
     ·exact set_f h m hk h91 h61 hrd hk1 hfin
     ·by_cases h40:(nxt F.z (skip (skip s))).text=[40]
      ·exact set_e h m hk h91 h61 hrd hk1 h40 hfin
      ·exact set_g h m hk h91 h61 hrd hk1 h40 hfin
    ·exact set_d h m hk h91 h61 hrd hfin
  ·exact set_b h m hk h91 hfin
 ·exact set_a h m hk
end
end Go.Proofs.YtljbbhhiiiepcaaGreatDoor.Pm
