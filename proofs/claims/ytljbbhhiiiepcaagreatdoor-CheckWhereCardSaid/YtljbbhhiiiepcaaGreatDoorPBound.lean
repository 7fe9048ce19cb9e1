/- Expressions that are parsed: what stands within brackets, numbers, names, operations of one. -/
import Derived.Test.YtljbbhhiiiepcaaGreatDoorPTake
set_option linter.unusedSimpArgs false
set_option linter.unusedVariables false
set_option maxHeartbeats 8000000
set_option maxRecDepth 100000
namespace Go.Proofs.YtljbbhhiiiepcaaGreatDoor.Pm
open Go Go.RowKit Go.Proofs.YtljbbhhiiiepcaaGreatDoor
open Go.Lib (hid)
def Two (f R b:Nat):Prop:=b=f∨b=R
theorem zbj {f R A:Nat} (h1:f < A) (h2:R < A):∀b,A≤b→¬Two f R b:=fun b hb h=>by unfold Two at h;omega
theorem CE.on {P:Nat→Prop} {r:RE} {v:Value} {A A':Nat} {w1 w2:World} (h:CE r v A w1) (hk:KeptP P w1 w2) (hP:∀b,A≤b→¬P b) (hA:A'≤A):CE r v A' w2:=by
 obtain⟨T,rfl,h1,h2,h3⟩:=h
 exact⟨T,rfl,h1,h2,(hk.et hP h3).mono hA⟩
section
variable {F:PC} {B f:Nat} {s:PS} {w:World}
def RuleE (F:PC) (B f:Nat) (m:PS→PR RE):Prop:=∀(s1:PS) (w1:World),Pa F B f s1 w1→Fin (m s1)→Calls Tryz.prog 265 #[ptrP f] w1 (QPost F B f CE (m s1) w1)
theorem zdZ (m:PS→PR RE) (hm:RuleE F B f m) (hk:Keeps m) (o c:ByteArray) (lo lc:List UInt8) (ho:o.data.toList=lo) (hc:c.data.toList=lc) (h1:za8 lo=true) (h2:za8 lc=false) (h3:za9 lc=true) (h4:za9 lo=false) (h5:lo≠[]) (h6:lc≠[])
  (h:Pa F B f s w) (hfin:Fin (zap F.z lo m lc s)):
  Calls Tryz.prog 282 #[ptrP f,.string o,.func (.func 265) #[] #[],.string c] w (QPost F B f CE (zap F.z lo m lc s) w):=by
 have HX:=hid (zaJ (h.alloc (.cells #[.int .i64 0,.string ⟨#[]⟩,.int .i64 0,.string ⟨#[]⟩,.slice none 0 0] 68)) o lo ho h5 (fun e=>by rw[h4] at e;cases e))
 have HM:=hid hm
 have HFIN:=hid hfin
 have HLT:=hid h.lt
 have HLE:=hid h.le
 have HKP:=hid hk
 have HC:=hid hc
 have H1:=hid h1
 have H2:=hid h2
 have H3:=hid h3
 have H6:=hid h6
 clear hm hfin h hk hc h1 h2 h3 h4 h5 h6 ho
 go_enter Tryz.func282,Tryz.ntmps282
 go_wp2_with (first
  | (go_at_call 119;refine(zaJ (HP2.out.alloc _) c lc HC.out H6.out (fun _=>HOP.out)).mono ?_;intro e w3 hq;rcases hq.split with ⟨a,s3,v,hr,rfl,hC,hp,hg⟩ | ⟨n,s',hr,rfl,hp,hg⟩;rotate_left;(exact⟨rfl,QPost.wrong (by unfold zap;rw[HE1.out];show(m s1).bind _=_;rw[HE2.out];show(take F.z lc s2).bind _=_;rw[hr];rfl) hp (zaa (zad HG2.out _) hg)⟩);obtain rfl:v=.tuple #[]:=hC;have HE3:=hid hr;have HP3:=hid hp;have HG3:=hid (zaa (zad HG2.out _) hg);have HK3:=hid (((KeptP.refl (Two f w.heap.size) w2).alloc (.cells (five T) 68)).grown (Or.inl rfl) hg);have hr8:=(hg.block w.heap.size (by have:=lt_of_block HR2.out;simp;omega) (by have:=HLT.out;have:=HLE.out;simp;omega)).trans (zai (.cells (five T) 68) HR2.out);have hr9:=(hg.block w2.heap.size (by simp) (by have:=HP2.out.flt;simp;omega)).trans (zaj w2 (.cells (five T) 68));have y0:=fun k=>zac (k:=k) hr8;have x0:=zab (k:=0) hr8 rfl;have x1:=zab (k:=1) hr8 rfl;have x2:=zab (k:=2) hr8 rfl;have x3:=zab (k:=3) hr8 rfl;have x4:=zab (k:=4) hr8 rfl;have z0:=zab (k:=0) hr9 rfl;have z1:=zab (k:=1) hr9 rfl;have z2:=zab (k:=2) hr9 rfl;have z3:=zab (k:=3) hr9 rfl;have z4:=zab (k:=4) hr9 rfl;have l8:=lt_of_block hr8;have l9:=lt_of_block hr9;clear hr hp hg hq hr8 hr9)
  | (go_at_call 265;refine(HM.out s1 w1 HP1.out ((HFIN.out.snd HE1.out).fst)).mono ?_;intro e w2 hq;rcases hq.split with ⟨a,s2,v,hr,rfl,hC,hp,hg⟩ | ⟨n,s',hr,rfl,hp,hg⟩;rotate_left;(exact⟨rfl,QPost.wrong (by unfold zap;rw[HE1.out];show(m s1).bind _=_;rw[hr];rfl) hp (zaa HG1.out hg)⟩);obtain⟨T,hv,hT⟩:=hC;rw[ET.val_is] at hv;subst hv;have HT:=hid hT;have HE2:=hid hr;have HP2:=hid hp;have HG2:=hid (zaa HG1.out hg);have HOP:Hid (0 < s2.op):=hid (by have:=(HKP.out _ _ _ hr).2;have:=(zbr HE1.out H1.out).2;omega);have HR2:=hid ((hg.block w.heap.size (lt_of_block HR1.out) (by have:=HLT.out;have:=HLE.out;simp;omega)).trans HR1.out);clear hr hp hg hq hT)
  | (go_at_call 119;refine HX.out.mono ?_;intro e w1 hq;rcases hq.split with ⟨a,s1,v,hr,rfl,hC,hp,hg⟩ | ⟨n,s',hr,rfl,hp,hg⟩;rotate_left;(exact⟨rfl,QPost.wrong (by unfold zap;rw[hr];rfl) hp (zaa (zad (zaf w _) _) hg)⟩);obtain rfl:v=.tuple #[]:=hC;have HE1:=hid hr;have HP1:=hid hp;have HG1:=hid (zaa (zad (zaf w (some f)) _) hg);have HR1:=hid ((hg.block w.heap.size (by simp) (by have:=HLT.out;have:=HLE.out;simp;omega)).trans (zaj w _));clear hr hp hg hq))
 have hle:=HLE.out
 have hlt:=HLT.out
 have hr1:=lt_of_block HR1.out
 obtain⟨t1,t2,t3⟩:=HT.out
 refine bodyPost_ret (v:=.agg (five T)) (by simp[results,Tryz.results282,go_sem, *]) rfl (QPost.good (by unfold zap;rw[HE1.out];show(m s1).bind _=_;rw[HE2.out];show(take F.z lc s2).bind _=_;rw[HE3.out];rfl) (CE.on (A:=w1.heap.size) ⟨T,by rw[ET.val_is],t1,t2,t3⟩ (w2:=_) ?_ (zbj (f:=f) (R:=w.heap.size) (by omega) hr1) (by omega)) ?_ ?_)
 ·repeat (first | with_reducible exact HK3.out | (with_reducible refine KeptP.set ?_ (Or.inr rfl) _ _))
 ·repeat (first | with_reducible exact HP3.out | (with_reducible refine Pa.far ?_ hle _ _))
 ·repeat (first | with_reducible exact HG3.out | (with_reducible refine zag ?_ (Nat.le_refl _) _ _))
theorem zef (m:PS→PR RE) (hm:RuleE F B f m) (hk:Keeps m) (h:Pa F B f s w) (hfin:Fin (zap F.z [91] m [93] s)):
  Calls Tryz.prog 285 #[ptrP f] w (QPost F B f CE (zap F.z [91] m [93] s) w):=by
 have HX:=hid (zdZ m hm hk {data:=#[91]} {data:=#[93]} [91] [93] rfl rfl rfl rfl rfl rfl (by simp) (by simp) (h.alloc (.cells #[.int .i64 0,.string ⟨#[]⟩,.int .i64 0,.string ⟨#[]⟩,.slice none 0 0] 68)) hfin)
 have HLT:=hid h.lt
 have HLE:=hid h.le
 clear h hm hk hfin
 go_enter Tryz.func285,Tryz.ntmps285
 go_wp2_with (go_at_call 282;refine HX.out.mono ?_;intro e w1 hq;rcases hq.split with ⟨a,s1,v,hr,rfl,hC,hp,hg⟩ | ⟨n,s',hr,rfl,hp,hg⟩;rotate_left;(exact⟨rfl,QPost.wrong hr hp (zaa (zad (zaf w _) _) hg)⟩);obtain⟨T,hv,hT⟩:=hC;rw[ET.val_is] at hv;subst hv;have HT:=hid hT;have HE1:=hid hr;have HP1:=hid hp;have HG1:=hid (zaa (zad (zaf w (some f)) _) hg);have hr8:=(hg.block w.heap.size (by simp) (by have:=HLT.out;have:=HLE.out;simp;omega)).trans (zaj w _);obtain⟨y0,x0,x1,x2,x3,x4,l8⟩:=zaL hr8;clear hr hp hg hq hT hr8)
 have hle:=HLE.out
 have hlt:=HLT.out
 obtain⟨t1,t2,t3⟩:=HT.out
 refine bodyPost_ret (v:=.agg (five T)) (by simp[results,Tryz.results285,go_sem, *]) rfl (QPost.good HE1.out (CE.on (P:=Two f w.heap.size) (A:=w.heap.size+1) ⟨T,by rw[ET.val_is],t1,t2,(by simpa using t3)⟩ (w2:=_) ?_ (zbj (f:=f) (R:=w.heap.size) (by omega) (by omega)) (by omega)) ?_ ?_)
 ·repeat (first | with_reducible exact KeptP.refl _ _ | (with_reducible refine KeptP.set ?_ (Or.inr rfl) _ _))
 ·repeat (first | with_reducible exact HP1.out | (with_reducible refine Pa.far ?_ hle _ _))
 ·repeat (first | with_reducible exact HG1.out | (with_reducible refine zag ?_ (Nat.le_refl _) _ _))
theorem num_ce {n:Int} (h:-9223372036854775808≤n∧n≤9223372036854775807) (A:Nat) (w':World):CE (.num n) (.agg #[.int .i64 0,.string ⟨#[]⟩,.int .i64 n,.string ⟨#[]⟩,.slice none 0 0]) A w':=
 ⟨.mk 0 mE n mE none 0 [],rfl,by rw[ET.re];rfl,by simp[ET.rightB,zam,zbt],num_in h w' A⟩
theorem number_any (h:Pa F B f s w) (hk:(cur F.z s).kind=2):Calls Tryz.prog 304 #[ptrP f] w (QPost F B f CE (zdP F.z s) w):=by
 have HW:=hid (za3 (h.alloc (.cells #[.int .i64 0,.string ⟨#[]⟩,.int .i64 0,.string ⟨#[]⟩,.slice none 0 0] 68)))
 have HH:=hid (h.alloc (.cells #[.int .i64 0,.string ⟨#[]⟩,.int .i64 0,.string ⟨#[]⟩,.slice none 0 0] 68))
 have fl:=(zbb h).fl (by omega)
 have F1:=hid fl.1
 have F2:=hid fl.2
 have HT:=hid (zci hk (by decide))
 have HLT:=hid h.lt
 have HLE:=hid h.le
 have hfd:=fld_n
 clear h hk fl
 by_cases hn:(cur F.z s).n < 9223372036854775808
 ·have HN:Hid (zdP F.z s=.ok (.num (cur F.z s).n) (skip s)):=hid (by unfold zdP;rw[if_pos hn])
  have hx1:((cur F.z s).n:Int)≤9223372036854775807:=by omega
  have hx2:((cur F.z s).n:Int) < 9223372036854775808:=by omega
  have hd:decide (((cur F.z s).n:Int) < 9223372036854775808)=true:=by simpa using hx2
  have HB1:=hid hx1
  clear hn hx2
  go_enter Tryz.func304,Tryz.ntmps304
  go_wp2_with (first
   | (go_at_call 175;refine(zaV HP1.out HT.out F1.out F2.out).mono ?_;rintro e w2 ⟨rfl,hp,hg⟩;have HP2:Hid (Pa F B f (skip s) w2):=hid hp;have HG2:=hid (zaa HG1.out hg);have hr8:=(hg.block w.heap.size (lt_of_block HR1.out) (by have:=HLT.out;have:=HLE.out;simp;omega)).trans HR1.out;clear y0 x0 x1 x2 x3 x4 l8;obtain⟨y0,x0,x1,x2,x3,x4,l8⟩:=zaL hr8;clear hp hg hr8)
   | (go_at_call 118;refine(zcx _).mono ?_;rintro e w2 ⟨rfl,rfl⟩)
   | (go_at_call 117;refine HW.out.mono ?_;rintro e w1 ⟨rfl,hb⟩;have HB:=hid hb;have HP1:=hid (HH.out.on hb);have HG1:=hid (zaa (zad (zaf w (some f)) _) (zae hb (some f)));have hr8:=(hb.block w.heap.size (by simp)).trans (zaj w _);have HR1:=hid hr8;obtain⟨y0,x0,x1,x2,x3,x4,l8⟩:=zaL hr8;clear hb hr8))
  have hle:=HLE.out
  refine bodyPost_ret (v:=.agg #[.int .i64 0,.string ⟨#[]⟩,.int .i64 ((cur F.z s).n:Int),.string ⟨#[]⟩,.slice none 0 0]) (by simp[results,Tryz.results304,go_sem, *]) rfl (QPost.good HN.out (num_ce ⟨by omega,HB1.out⟩ _ _) ?_ ?_)
  ·repeat (first | with_reducible exact HP2.out | (with_reducible refine Pa.far ?_ hle _ _))
  ·repeat (first | with_reducible exact HG2.out | (with_reducible refine zag ?_ (Nat.le_refl _) _ _))
 ·have HN:Hid (zdP F.z s=.bad 3 s):=hid (by unfold zdP;rw[if_neg hn])
  have hd:decide (((cur F.z s).n:Int) < 9223372036854775808)=false:=by simp;omega
  clear hn
  go_enter Tryz.func304,Tryz.ntmps304
  go_wp2_with (first
   | (go_at_call 118;refine(zc8 _).mono ?_;rintro e w2 ⟨rfl,rfl⟩)
   | (go_at_call 117;refine HW.out.mono ?_;rintro e w1 ⟨rfl,hb⟩;have HB:=hid hb;have HP1:=hid (HH.out.on hb);have HG1:=hid (zaa (zad (zaf w (some f)) _) (zae hb (some f)));have hr8:=(hb.block w.heap.size (by simp)).trans (zaj w _);have HR1:=hid hr8;obtain⟨y0,x0,x1,x2,x3,x4,l8⟩:=zaL hr8;clear hb hr8))
  exact⟨rfl,QPost.wrong HN.out HP1.out HG1.out⟩
theorem negative_any (h:Pa F B f s w) (ht:(cur F.z s).text=[45]) (hk:(nxt F.z s).kind=2):Calls Tryz.prog 306 #[ptrP f] w (QPost F B f CE (zc7 F.z s) w):=by
 have HH:=hid (h.alloc (.cells #[.int .i64 0,.string ⟨#[]⟩,.int .i64 0,.string ⟨#[]⟩,.slice none 0 0] 68))
 have fl:za8 (cur F.z s).text=false∧za9 (cur F.z s).text=false:=by rw[ht];exact⟨rfl,rfl⟩
 have F1:=hid fl
 have gd:Good (nxt F.z s):=by rw[nxt_is];exact h.good' 1
 have F2:Hid (za8 (cur F.z (skip s)).text=false∧za9 (cur F.z (skip s)).text=false):=hid (gd.fl (by omega))
 have HT:=hid (zbx ht (by simp))
 have HT2:Hid ((skip s).ws≠[]):=hid (zci (F:=F) (s:=skip s) (k:=2) hk (by decide))
 have HLT:=hid h.lt
 have HLE:=hid h.le
 have hfd:=fld_n
 have hn:((nxt F.z s).n:Int)≤9223372036854775808:=by have:=gd.num;omega
 have hcn:cur F.z (skip s)=nxt F.z s:=rfl
 have HN:Hid (zc7 F.z s=.ok (.num (-((nxt F.z s).n:Int))) (skip (skip s))):=hid rfl
 have HNN:=hid hn
 obtain⟨x,hx⟩:∃x:Int,((cur F.z (skip s)).n:Int)=x:=⟨_,rfl⟩
 clear h ht hk fl gd hn hcn
 go_enter Tryz.func306,Tryz.ntmps306
 go_wp2_with (first
  | (go_at_call 175;refine(zaV HP1.out HT2.out F2.out.1 F2.out.2).mono ?_;rintro e w2 ⟨rfl,hp,hg⟩;have HP2:Hid (Pa F B f (skip (skip s)) w2):=hid hp;have HG2:=hid (zaa HG1.out hg);have hr8:=(hg.block w.heap.size (lt_of_block HR1.out) (by have:=HLT.out;have:=HLE.out;simp;omega)).trans HR1.out;clear y0 x0 x1 x2 x3 x4 l8;obtain⟨y0,x0,x1,x2,x3,x4,l8⟩:=zaL hr8;clear hp hg hr8)
  | (go_at_call 175;refine(zaV HH.out HT.out F1.out.1 F1.out.2).mono ?_;rintro e w1 ⟨rfl,hp,hg⟩;have HP1:Hid (Pa F B f (skip s) w1):=hid hp;have HG1:=hid (zaa (zad (zaf w (some f)) _) hg);have hr8:=(hg.block w.heap.size (by simp) (by have:=HLT.out;have:=HLE.out;simp;omega)).trans (zaj w _);have HR1:=hid hr8;obtain⟨y0,x0,x1,x2,x3,x4,l8⟩:=zaL hr8;clear hp hg hr8))
 have hle:=HLE.out
 have hxn:((nxt F.z s).n:Int)=x:=hx
 have HW2:Hid (wrap64 (IntKind.u64.wrap (-x))=-((nxt F.z s).n:Int)):=hid (by have:=HNN.out;rw[show IntKind.u64.wrap (-x)=-x % 18446744073709551616 from rfl];unfold wrap64;omega)
 clear hxn hx
 generalize wrap64 (IntKind.u64.wrap (-x))=y at HW2 ⊢
 refine bodyPost_ret (v:=.agg #[.int .i64 0,.string ⟨#[]⟩,.int .i64 y,.string ⟨#[]⟩,.slice none 0 0]) (by simp[results,Tryz.results306,go_sem, *]) rfl (QPost.good HN.out (by rw[HW2.out];exact num_ce ⟨by have:=HNN.out;omega,by omega⟩ _ _) ?_ ?_)
 ·repeat (first | with_reducible exact HP2.out | (with_reducible refine Pa.far ?_ hle _ _))
 ·repeat (first | with_reducible exact HG2.out | (with_reducible refine zag ?_ (Nat.le_refl _) _ _))
theorem var_ce {l:List UInt8} (h:zaK l=true) (A:Nat) (w':World):CE (.var l) (.agg #[.int .i64 1,.string ⟨#[]⟩,.int .i64 0,.string (bs l),.slice none 0 0]) A w':=
 ⟨.mk 1 mE 0 (bs l) none 0 [],rfl,by rw[ET.re];rfl,by simp[ET.rightB,zam,zbt,zbo,nmB,bs,h],var_in (bs l) w' A⟩
theorem idx_ce {l:List UInt8} (h:zaK l=true) {T:ET} {r:RE} (hr:T.re=r) (hb:T.rightB=true) {w':World} {N R:Nat} (hT:T.In w' R) (hN:R≤N) (h2:w'.heap[N]?=some (.cells (five T) 68 (0,0))):
  CE (.idx l r) (.agg #[.int .i64 2,.string ⟨#[]⟩,.int .i64 0,.string (bs l),.slice (some ⟨N,0,none⟩) 1 1]) R w':=
 ⟨.mk 2 mE 0 (bs l) (some ⟨N,0,none⟩) 1 [T],rfl,by rw[ET.re,hr];rfl,by simp[ET.rightB,zam,zbt,zbo,nmB,bs,h,hb],by rw[ET.In];exact⟨by decide,by simp,zbw h2 hT hN⟩⟩
theorem zdu (m:PS→PR RE) (hm:RuleE F B f m) (hkp:Keeps m) (h:Pa F B f s w) (hk:(cur F.z s).kind=1) (hfin:Fin (named F.z m s)):Calls Tryz.prog 305 #[ptrP f] w (QPost F B f CE (named F.z m s) w):=by
 have hx:=zcy (h.alloc (.cells #[.int .i64 0,.string ⟨#[]⟩,.int .i64 0,.string ⟨#[]⟩,.slice none 0 0] 68))
 rw[zee hk] at hx
 have HX:=hid hx
 have HNM:=hid ((zbb h).nm hk)
 have HLT:=hid h.lt
 have HLE:=hid h.le
 have HM:=hid hm
 have HKP:=hid hkp
 have e0:named F.z m s=if at' F.z [91] (skip s) then (zap F.z [91] m [93] (skip s)).bind fun e s2=>.ok (.idx (cur F.z s).text e) s2 else .ok (.var (cur F.z s).text) (skip s):=by unfold named;rw[zee hk];rfl
 rcases hat:at' F.z [91] (skip s) with _ | _
 ·have HN:Hid (named F.z m s=.ok (.var (cur F.z s).text) (skip s)):=hid (by rw[e0,hat];rfl)
  have HAT:=hid hat
  clear hat e0 hx h hk hfin hm hkp
  go_enter Tryz.func305,Tryz.ntmps305
  go_wp2_with (first
   | (go_at_call 174;have hx:=at_is HP1.out {data:=#[91]} [91] rfl;rw[HAT.out] at hx;refine hx.mono ?_;clear hx;rintro e w2 ⟨rfl,hb⟩;have HP2:=hid (HP1.out.on hb);have HG2:=hid (zaa HG1.out (zae hb (some f)));have hr8:=(hb.block w.heap.size (lt_of_block HR1.out)).trans HR1.out;have HR2:=hid hr8;clear y0 x0 x1 x2 x3 x4 l8;obtain⟨y0,x0,x1,x2,x3,x4,l8⟩:=zaL hr8;clear hb hr8)
   | (go_at_call 120;refine HX.out.mono ?_;rintro e w1 ⟨v,rfl,hC,hp,hg⟩;obtain rfl:v=.string (bs (cur F.z s).text):=hC;have HP1:=hid hp;have HG1:=hid (zaa (zad (zaf w (some f)) _) hg);have hr8:=(hg.block w.heap.size (by simp) (by have:=HLT.out;have:=HLE.out;simp;omega)).trans (zaj w _);have HR1:=hid hr8;obtain⟨y0,x0,x1,x2,x3,x4,l8⟩:=zaL hr8;clear hp hg hr8))
  have hle:=HLE.out
  refine bodyPost_ret (v:=.agg #[.int .i64 1,.string ⟨#[]⟩,.int .i64 0,.string (bs (cur F.z s).text),.slice none 0 0]) (by simp[results,Tryz.results305,go_sem, *]) rfl (QPost.good HN.out (var_ce HNM.out _ _) ?_ ?_)
  ·repeat (first | with_reducible exact HP2.out | (with_reducible refine Pa.far ?_ hle _ _))
  ·repeat (first | with_reducible exact HG2.out | (with_reducible refine zag ?_ (Nat.le_refl _) _ _))
 ·have HN:Hid (named F.z m s=(zap F.z [91] m [93] (skip s)).bind fun e s2=>.ok (.idx (cur F.z s).text e) s2):=hid (by rw[e0,hat];rfl)
  have HFI:Hid (Fin (zap F.z [91] m [93] (skip s))):=hid (by rw[HN.out] at hfin;exact hfin.fst)
  have HAT:=hid hat
  clear hat e0 hx h hk hfin hm hkp
  go_enter Tryz.func305,Tryz.ntmps305
  go_wp2_with (first
   | (go_at_call 285;refine(zef m HM.out HKP.out HP2.out HFI.out).mono ?_;intro e w3 hq;rcases hq.split with ⟨a,s3,v,hr,rfl,hC,hp,hg⟩ | ⟨n,s',hr,rfl,hp,hg⟩;rotate_left;(exact⟨rfl,QPost.wrong (by rw[HN.out,hr];rfl) hp (zaa HG2.out hg)⟩);obtain⟨T,hv,hT⟩:=hC;rw[ET.val_is] at hv;subst hv;have HT:=hid hT;have HE3:=hid hr;have HP3:=hid hp;have HG3:=hid (zaa HG2.out hg);have HS3:=hid hg.size;have hr8:=(hg.block w.heap.size (lt_of_block HR2.out) (by have:=HLT.out;have:=HLE.out;simp;omega)).trans HR2.out;clear y0 x0 x1 x2 x3 x4 l8;obtain⟨y0,x0,x1,x2,x3,x4,l8⟩:=zaL hr8;clear hr hp hg hq hT hr8)
   | (go_at_call 174;have hx:=at_is HP1.out {data:=#[91]} [91] rfl;rw[HAT.out] at hx;refine hx.mono ?_;clear hx;rintro e w2 ⟨rfl,hb⟩;have HP2:=hid (HP1.out.on hb);have HG2:=hid (zaa HG1.out (zae hb (some f)));have hr8:=(hb.block w.heap.size (lt_of_block HR1.out)).trans HR1.out;have HR2:=hid hr8;clear y0 x0 x1 x2 x3 x4 l8;obtain⟨y0,x0,x1,x2,x3,x4,l8⟩:=zaL hr8;clear hb hr8)
   | (go_at_call 120;refine HX.out.mono ?_;rintro e w1 ⟨v,rfl,hC,hp,hg⟩;obtain rfl:v=.string (bs (cur F.z s).text):=hC;have HP1:=hid hp;have HG1:=hid (zaa (zad (zaf w (some f)) _) hg);have hr8:=(hg.block w.heap.size (by simp) (by have:=HLT.out;have:=HLE.out;simp;omega)).trans (zaj w _);have HR1:=hid hr8;obtain⟨y0,x0,x1,x2,x3,x4,l8⟩:=zaL hr8;clear hp hg hr8))
  have hle:=HLE.out
  have hlt:=HLT.out
  have hr2:=lt_of_block HR2.out
  obtain⟨t1,t2,t3⟩:=HT.out
  have hs3:=HG3.out.size
  refine bodyPost_ret (v:=.agg #[.int .i64 2,.string ⟨#[]⟩,.int .i64 0,.string (bs (cur F.z s).text),.slice (some ⟨w3.heap.size,0,none⟩) 1 1]) (by simp[results,Tryz.results305,go_sem, *]) rfl (QPost.good (by rw[HN.out,HE3.out];rfl) (idx_ce HNM.out t1 t2 ((KeptP.et (P:=Two f w.heap.size) (w:=w3) ?_ (zbj (by omega) hr2) t3).mono (Nat.le_of_lt hr2)) (by have:=HS3.out;omega) ?_) ?_ ?_)
  ·repeat (first | with_reducible exact KeptP.refl _ _ | (with_reducible refine KeptP.set ?_ (Or.inr rfl) _ _) | (with_reducible refine KeptP.alloc ?_ _))
  ·exact zao _ (by simp[World.setCell])
  ·repeat (first | with_reducible exact HP3.out | (with_reducible refine Pa.far ?_ hle _ _) | (with_reducible refine Pa.alloc ?_ _))
  ·repeat (first | with_reducible exact HG3.out | (with_reducible refine zag ?_ (Nat.le_refl _) _ _) | (with_reducible refine zad ?_ _))
def RuleO (F:PC) (B f:Nat) (m:PS→PR RE):Prop:=∀(s1:PS) (w1:World),Pa F B f s1 w1→Fin (m s1)→Calls Tryz.prog 294 #[ptrP f] w1 (QPost F B f CE (m s1) w1)
def deep (s:PS):PS:={s with op:=s.op+1,mo:=max s.mo (s.op+1)}
theorem un_ce {l:List UInt8} (h:isUn l=true) {T:ET} {r:RE} (hr:T.re=r) (hb:T.rightB=true) {w':World} {N R:Nat} (hT:T.In w' R) (hN:R≤N) (h2:w'.heap[N]?=some (.cells (five T) 68 (0,0))):
  CE (.un (l.headD 0) r) (.agg #[.int .i64 3,.string (bs l),.int .i64 0,.string ⟨#[]⟩,.slice (some ⟨N,0,none⟩) 1 1]) R w':=
 ⟨.mk 3 (bs l) 0 mE (some ⟨N,0,none⟩) 1 [T],rfl,by rw[ET.re,hr];simp[bs],by
  have hu:unB (bs l)=true:=by unfold unB;simpa[bs,isUn] using h
  simp[ET.rightB,zam,zbt,zcm,hu,hb],by rw[ET.In];exact⟨by decide,by simp,zbw h2 hT hN⟩⟩
theorem un_flat {l:List UInt8} (h:isUn l=true):za8 l=false∧za9 l=false∧l≠[]:=by
 simp only[isUn,Bool.or_eq_true,beq_iff_eq] at h
 rcases h with (rfl | rfl) | rfl<;>exact⟨rfl,rfl,by simp⟩
theorem unary_rule (m:PS→PR RE) (hm:RuleO F B f m) (hkp:Keeps m) (h:Pa F B f s w) (hfin:Fin (zdL F.z m s)):Calls Tryz.prog 307 #[ptrP f] w (QPost F B f CE (zdL F.z m s) w):=by
 have HW:=hid (za3 (h.alloc (.cells #[.int .i64 0,.string ⟨#[]⟩,.int .i64 0,.string ⟨#[]⟩,.slice none 0 0] 68)))
 have HH:=hid (h.alloc (.cells #[.int .i64 0,.string ⟨#[]⟩,.int .i64 0,.string ⟨#[]⟩,.slice none 0 0] 68))
 have HLT:=hid h.lt
 have HLE:=hid h.le
 have HM:=hid hm
 have HKP:=hid hkp
 have hfd:=zbK
 have hub:unB (bs (cur F.z s).text)=isUn (cur F.z s).text:=by unfold unB isUn;simp[bs]
 rcases hun:isUn (cur F.z s).text with _ | _
 ·have HN:Hid (zdL F.z m s=.bad 3 s):=hid (by unfold zdL;rw[if_neg (by simp[hun])])
  have HU:=hid (hub.trans hun)
  clear hun hub h hm hkp hfin
  go_enter Tryz.func307,Tryz.ntmps307
  go_wp2_with (first
   | (go_at_call 118;refine(zc8 _).mono ?_;rintro e w9 ⟨rfl,rfl⟩)
   | (go_at_call 200;have hx:=un_any (bs (cur F.z s).text) 0 (by decide) w1;rw[HU.out] at hx;refine hx.mono ?_;clear hx;rintro e w2 ⟨rfl,hb⟩;have HP2:=hid (HP1.out.on hb);have HG2:=hid (zaa HG1.out (zae hb (some f)));have hr8:=(hb.block w.heap.size (lt_of_block HR1.out)).trans HR1.out;have HR2:=hid hr8;clear y0 x0 x1 x2 x3 x4 l8;obtain⟨y0,x0,x1,x2,x3,x4,l8⟩:=zaL hr8;clear hb hr8)
   | (go_at_call 117;refine HW.out.mono ?_;rintro e w1 ⟨rfl,hb⟩;have HP1:=hid (HH.out.on hb);have HG1:=hid (zaa (zad (zaf w (some f)) _) (zae hb (some f)));have hr8:=(hb.block w.heap.size (by simp)).trans (zaj w _);have HR1:=hid hr8;obtain⟨y0,x0,x1,x2,x3,x4,l8⟩:=zaL hr8;clear hb hr8))
  exact⟨rfl,QPost.wrong HN.out HP2.out HG2.out⟩
 ·have HUN:=hid hun
  have HU:=hid (hub.trans hun)
  have fl:=un_flat hun
  by_cases h40:s.op=40
  ·have HN:Hid (zdL F.z m s=.bad 4 s):=hid (by unfold zdL;rw[if_pos hun];unfold enter;rw[if_pos h40];rfl)
   have H40:=hid h40
   clear hun hub h hm hkp hfin fl h40
   go_enter Tryz.func307,Tryz.ntmps307
   go_wp2_with (first
    | (go_at_call 206;refine(enter_no HP2.out H40.out).mono ?_;rintro e w9 ⟨rfl,rfl⟩)
    | (go_at_call 118;refine(zcx _).mono ?_;rintro e w9 ⟨rfl,rfl⟩)
    | (go_at_call 200;have hx:=un_any (bs (cur F.z s).text) 0 (by decide) w1;rw[HU.out] at hx;refine hx.mono ?_;clear hx;rintro e w2 ⟨rfl,hb⟩;have HP2:=hid (HP1.out.on hb);have HG2:=hid (zaa HG1.out (zae hb (some f)));have hr8:=(hb.block w.heap.size (lt_of_block HR1.out)).trans HR1.out;have HR2:=hid hr8;clear y0 x0 x1 x2 x3 x4 l8;obtain⟨y0,x0,x1,x2,x3,x4,l8⟩:=zaL hr8;clear hb hr8)
    | (go_at_call 117;refine HW.out.mono ?_;rintro e w1 ⟨rfl,hb⟩;have HP1:=hid (HH.out.on hb);have HG1:=hid (zaa (zad (zaf w (some f)) _) (zae hb (some f)));have hr8:=(hb.block w.heap.size (by simp)).trans (zaj w _);have HR1:=hid hr8;obtain⟨y0,x0,x1,x2,x3,x4,l8⟩:=zaL hr8;clear hb hr8))
   exact⟨rfl,QPost.wrong HN.out HP2.out HG2.out⟩
  ·have HN:Hid (zdL F.z m s=(m (skip (deep s))).bind fun e s3=>.ok (.un ((cur F.z s).text.headD 0) e) (leave s3)):=hid (by unfold zdL;rw[if_pos hun];unfold enter;rw[if_neg h40];rfl)
   have HFI:Hid (Fin (m (skip (deep s)))):=hid (by rw[HN.out] at hfin;exact hfin.fst)
   have H40:=hid h40
   have HT0:Hid ((deep s).ws≠[]):=hid (zbx (F:=F) (s:=s) rfl fl.2.2)
   have FL:Hid (za8 (cur F.z (deep s)).text=false∧za9 (cur F.z (deep s)).text=false):=hid ⟨fl.1,fl.2.1⟩
   clear hun hub h hm hkp hfin fl h40
   go_enter Tryz.func307,Tryz.ntmps307
   go_wp2_with (first
    | (go_at_call 207;refine(leave_any (HP5.out.alloc (.cells (five T) 68)) HOP.out).mono ?_;rintro e w6 ⟨rfl,hp,hg⟩;have HP6:=hid hp;have HG6:=hid (zaa (zad HG5.out (.cells (five T) 68)) hg);have HS6:=hid hg.size;have HK6:=hid (((KeptP.refl (Two f w.heap.size) w5).alloc (.cells (five T) 68)).grown (Or.inl rfl) hg);have hr8:=(hg.block w.heap.size (by have:=lt_of_block HR5.out;simp;omega) (by have:=HLT.out;have:=HLE.out;simp;omega)).trans (zai (.cells (five T) 68) HR5.out);have hr9:=(hg.block w5.heap.size (by simp) (by have:=HP5.out.flt;simp;omega)).trans (zaj w5 (.cells (five T) 68));clear y0 x0 x1 x2 x3 x4 l8;obtain⟨y0,x0,x1,x2,x3,x4,l8⟩:=zaL hr8;have z0:=zab (k:=0) hr9 rfl;have z1:=zab (k:=1) hr9 rfl;have z2:=zab (k:=2) hr9 rfl;have z3:=zab (k:=3) hr9 rfl;have z4:=zab (k:=4) hr9 rfl;have l9:=lt_of_block hr9;clear hp hg hr8 hr9)
    | (go_at_call 294;refine(HM.out _ w4 HP4.out HFI.out).mono ?_;intro e w5 hq;rcases hq.split with ⟨a,s5,v,hr,rfl,hC,hp,hg⟩ | ⟨n,s',hr,rfl,hp,hg⟩;rotate_left;(exact⟨rfl,QPost.wrong (by rw[HN.out,hr];rfl) hp (zaa HG4.out hg)⟩);obtain⟨T,hv,hT⟩:=hC;rw[ET.val_is] at hv;subst hv;have HT:=hid hT;have HE5:=hid hr;have HOP:Hid (0 < s5.op):=hid (by have:=(HKP.out _ _ _ hr).2;have e2:(skip (deep s)).op=s.op+1:=rfl;omega);have HP5:=hid hp;have HG5:=hid (zaa HG4.out hg);have HS5:=hid hg.size;have hr8:=(hg.block w.heap.size (lt_of_block HR4.out) (by have:=HLT.out;have:=HLE.out;simp;omega)).trans HR4.out;have HR5:=hid hr8;clear y0 x0 x1 x2 x3 x4 l8;obtain⟨y0,x0,x1,x2,x3,x4,l8⟩:=zaL hr8;clear hr hp hg hq hT hr8)
    | (go_at_call 175;refine(zaV HP3.out HT0.out FL.out.1 FL.out.2).mono ?_;rintro e w4 ⟨rfl,hp,hg⟩;have HP4:Hid (Pa F B f (skip (deep s)) w4):=hid hp;have HG4:=hid (zaa HG3.out hg);have hr8:=(hg.block w.heap.size (lt_of_block HR3.out) (by have:=HLT.out;have:=HLE.out;simp;omega)).trans HR3.out;have HR4:=hid hr8;clear y0 x0 x1 x2 x3 x4 l8;obtain⟨y0,x0,x1,x2,x3,x4,l8⟩:=zaL hr8;clear hp hg hr8)
    | (go_at_call 206;refine(enter_yes HP2.out H40.out).mono ?_;rintro e w3 ⟨rfl,hp,hg⟩;have HP3:=hid hp;have HG3:=hid (zaa HG2.out hg);have hr8:=(hg.block w.heap.size (lt_of_block HR2.out) (by have:=HLT.out;have:=HLE.out;simp;omega)).trans HR2.out;have HR3:=hid hr8;clear y0 x0 x1 x2 x3 x4 l8;obtain⟨y0,x0,x1,x2,x3,x4,l8⟩:=zaL hr8;clear hp hg hr8)
    | (go_at_call 118;refine(zcx _).mono ?_;rintro e w9 ⟨rfl,rfl⟩)
    | (go_at_call 200;have hx:=un_any (bs (cur F.z s).text) 0 (by decide) w1;rw[HU.out] at hx;refine hx.mono ?_;clear hx;rintro e w2 ⟨rfl,hb⟩;have HP2:=hid (HP1.out.on hb);have HG2:=hid (zaa HG1.out (zae hb (some f)));have hr8:=(hb.block w.heap.size (lt_of_block HR1.out)).trans HR1.out;have HR2:=hid hr8;clear y0 x0 x1 x2 x3 x4 l8;obtain⟨y0,x0,x1,x2,x3,x4,l8⟩:=zaL hr8;clear hb hr8)
    | (go_at_call 117;refine HW.out.mono ?_;rintro e w1 ⟨rfl,hb⟩;have HP1:=hid (HH.out.on hb);have HG1:=hid (zaa (zad (zaf w (some f)) _) (zae hb (some f)));have hr8:=(hb.block w.heap.size (by simp)).trans (zaj w _);have HR1:=hid hr8;obtain⟨y0,x0,x1,x2,x3,x4,l8⟩:=zaL hr8;clear hb hr8))
   have hcc:cur F.z {ws:=s.ws,sts:=s.sts,op:=s.op+1,mo:=max s.mo (s.op+1)}=cur F.z s:=rfl
   have hle:=HLE.out
   have hlt:=HLT.out
   have hr4:=lt_of_block HR4.out
   obtain⟨t1,t2,t3⟩:=HT.out
   refine bodyPost_ret (v:=.agg #[.int .i64 3,.string (bs (cur F.z s).text),.int .i64 0,.string ⟨#[]⟩,.slice (some ⟨w6.heap.size,0,none⟩) 1 1]) (by simp[results,Tryz.results307,go_sem, *]) rfl (QPost.good (by rw[HN.out,HE5.out];rfl) (un_ce HUN.out t1 t2 ((KeptP.et (P:=Two f w.heap.size) (w:=w5) ?_ (zbj (by omega) hr4) t3).mono (Nat.le_of_lt hr4)) (by have h6:=HS6.out;have h5:=HS5.out;simp at h6;omega) ?_) ?_ ?_)
   ·repeat (first | with_reducible exact HK6.out | (with_reducible refine KeptP.set ?_ (Or.inr rfl) _ _) | (with_reducible refine KeptP.alloc ?_ _))
   ·exact zao _ (by simp[World.setCell])
   ·repeat (first | with_reducible exact HP6.out | (with_reducible refine Pa.far ?_ hle _ _) | (with_reducible refine Pa.alloc ?_ _))
   ·repeat (first | with_reducible exact HG6.out | (with_reducible refine zag ?_ (Nat.le_refl _) _ _) | (with_reducible refine zad ?_ _))
end
end Go.Proofs.YtljbbhhiiiepcaaGreatDoor.Pm
namespace Go.Proofs.YtljbbhhiiiepcaaGreatDoor.Pm
open Go Go.RowKit Go.Proofs.YtljbbhhiiiepcaaGreatDoor
open Go.Lib (hid)
section
variable {F:PC} {B f:Nat} {s:PS} {w:World}
theorem zbc (h:Pa F B f s w) (k:Nat) (b:Bool) (e:((cur F.z s).kind==k)=b):Calls Tryz.prog 208 #[ptrP f,.int .i64 (k:Nat)] w fun e w'=>e=.returned (.bool b)∧Below w.heap.size w w':=by rw[←e];exact kind_is h k
theorem zaD (h:Pa F B f s w) (t:ByteArray) (l:List UInt8) (hl:t.data.toList=l) (b:Bool) (e:at' F.z l s=b):Calls Tryz.prog 174 #[ptrP f,.string t] w fun e w'=>e=.returned (.bool b)∧Below w.heap.size w w':=by rw[←e];exact at_is h t l hl
theorem oper_number (h:Pa F B f s w) (m:Nat) (k2:((cur F.z s).kind==2)=true):Calls Tryz.prog 294 #[ptrP f] w (QPost F B f CE (zaw F.z (m+1) s) w):=by
 obtain⟨HP0,HG0,HR0⟩:=start5 h
 have HLT:=hid h.lt
 have HLE:=hid h.le
 have hfd:=zcw
 have HN:Hid (zaw F.z (m+1) s=zdP F.z s):=hid (by rw[zaw,if_pos k2])
 have k2e:(cur F.z s).kind=2:=by simpa using k2
 have Hk2:=hid k2
 have Hk2e:=hid k2e
 clear h k2 k2e
 go_enter Tryz.func294,Tryz.ntmps294
 go_wp2_with (first
  | (go_at_call 304;refine(number_any HP1.out Hk2e.out).mono ?_;intro e w2 hq;rcases hq.split with ⟨a,s3,v,hr,rfl,hC,hp,hg⟩ | ⟨n,s',hr,rfl,hp,hg⟩;rotate_left;(exact⟨rfl,QPost.wrong (by rw[HN.out,hr]) hp (zaa HG1.out hg)⟩);obtain⟨T,hv,hT⟩:=hC;rw[ET.val_is] at hv;subst hv;have HT:=hid hT;have HEZ:=hid hr;have HPZ:=hid hp;have HGZ:=hid (zaa HG1.out hg);have hr8:=(hg.block w.heap.size (lt_of_block HR1.out) (by have:=HLT.out;have:=HLE.out;simp;omega)).trans HR1.out;have HRB:=hid (lt_of_block HR1.out);clear y0 x0 x1 x2 x3 x4 l8;obtain⟨y0,x0,x1,x2,x3,x4,l8⟩:=zaL hr8;clear hr hp hg hq hT hr8)
  | (go_at_call 208;have hx:=zbc HP0.out 2 _ Hk2.out;refine hx.mono ?_;clear hx;rintro e w1 ⟨rfl,hb⟩;have HP1:=hid (HP0.out.on hb);have HG1:=hid (zaa HG0.out (zae hb (some f)));have hr8:=(hb.block w.heap.size (lt_of_block HR0.out)).trans HR0.out;have HR1:=hid hr8;obtain⟨y0,x0,x1,x2,x3,x4,l8⟩:=zaL hr8;clear hb hr8))
 have hle:=HLE.out
 have hlt:=HLT.out
 obtain⟨t1,t2,t3⟩:=HT.out
 refine bodyPost_ret (v:=.agg (five T)) (by simp[results,Tryz.results294,go_sem, *]) rfl (QPost.good (by rw[HN.out,HEZ.out]) (CE.on (P:=Two f w.heap.size) ⟨T,by rw[ET.val_is],t1,t2,t3⟩ (w2:=_) ?_ (zbj (f:=f) (R:=w.heap.size) (by have:=HRB.out;omega) HRB.out) (Nat.le_of_lt HRB.out)) ?_ ?_)
 ·repeat (first | with_reducible exact KeptP.refl _ _ | (with_reducible refine KeptP.set ?_ (Or.inr rfl) _ _))
 ·repeat (first | with_reducible exact HPZ.out | (with_reducible refine Pa.far ?_ hle _ _))
 ·repeat (first | with_reducible exact HGZ.out | (with_reducible refine zag ?_ (Nat.le_refl _) _ _))
theorem oper_named (h:Pa F B f s w) (m:Nat) (hm:RuleE F B f (zbm F.z m 1)) (hkp:Keeps (zbm F.z m 1)) (k2:((cur F.z s).kind==2)=false) (k1:((cur F.z s).kind==1)=true) (hfin:Fin (named F.z (zbm F.z m 1) s)):Calls Tryz.prog 294 #[ptrP f] w (QPost F B f CE (zaw F.z (m+1) s) w):=by
 obtain⟨HP0,HG0,HR0⟩:=start5 h
 have HLT:=hid h.lt
 have HLE:=hid h.le
 have hfd:=zcw
 have HN:Hid (zaw F.z (m+1) s=named F.z (zbm F.z m 1) s):=hid (by rw[zaw,if_neg (by simp[k2]),if_pos k1])
 have k1e:(cur F.z s).kind=1:=by simpa using k1
 have Hk2:=hid k2
 have Hk1:=hid k1
 have Hk1e:=hid k1e
 have Hhm:=hid hm
 have Hhkp:=hid hkp
 have Hhfin:=hid hfin
 clear h k2 k1 k1e hm hkp hfin
 go_enter Tryz.func294,Tryz.ntmps294
 go_wp2_with (first
  | (go_at_call 305;refine(zdu _ Hhm.out Hhkp.out HP2.out Hk1e.out Hhfin.out).mono ?_;intro e w3 hq;rcases hq.split with ⟨a,s3,v,hr,rfl,hC,hp,hg⟩ | ⟨n,s',hr,rfl,hp,hg⟩;rotate_left;(exact⟨rfl,QPost.wrong (by rw[HN.out,hr]) hp (zaa HG2.out hg)⟩);obtain⟨T,hv,hT⟩:=hC;rw[ET.val_is] at hv;subst hv;have HT:=hid hT;have HEZ:=hid hr;have HPZ:=hid hp;have HGZ:=hid (zaa HG2.out hg);have hr8:=(hg.block w.heap.size (lt_of_block HR2.out) (by have:=HLT.out;have:=HLE.out;simp;omega)).trans HR2.out;have HRB:=hid (lt_of_block HR2.out);clear y0 x0 x1 x2 x3 x4 l8;obtain⟨y0,x0,x1,x2,x3,x4,l8⟩:=zaL hr8;clear hr hp hg hq hT hr8)
  | (go_at_call 208;have hx:=zbc HP1.out 1 _ Hk1.out;refine hx.mono ?_;clear hx;rintro e w2 ⟨rfl,hb⟩;have HP2:=hid (HP1.out.on hb);have HG2:=hid (zaa HG1.out (zae hb (some f)));have hr8:=(hb.block w.heap.size (lt_of_block HR1.out)).trans HR1.out;have HR2:=hid hr8;clear y0 x0 x1 x2 x3 x4 l8;obtain⟨y0,x0,x1,x2,x3,x4,l8⟩:=zaL hr8;clear hb hr8)
  | (go_at_call 208;have hx:=zbc HP0.out 2 _ Hk2.out;refine hx.mono ?_;clear hx;rintro e w1 ⟨rfl,hb⟩;have HP1:=hid (HP0.out.on hb);have HG1:=hid (zaa HG0.out (zae hb (some f)));have hr8:=(hb.block w.heap.size (lt_of_block HR0.out)).trans HR0.out;have HR1:=hid hr8;obtain⟨y0,x0,x1,x2,x3,x4,l8⟩:=zaL hr8;clear hb hr8))
 have hle:=HLE.out
 have hlt:=HLT.out
 obtain⟨t1,t2,t3⟩:=HT.out
 refine bodyPost_ret (v:=.agg (five T)) (by simp[results,Tryz.results294,go_sem, *]) rfl (QPost.good (by rw[HN.out,HEZ.out]) (CE.on (P:=Two f w.heap.size) ⟨T,by rw[ET.val_is],t1,t2,t3⟩ (w2:=_) ?_ (zbj (f:=f) (R:=w.heap.size) (by have:=HRB.out;omega) HRB.out) (Nat.le_of_lt HRB.out)) ?_ ?_)
 ·repeat (first | with_reducible exact KeptP.refl _ _ | (with_reducible refine KeptP.set ?_ (Or.inr rfl) _ _))
 ·repeat (first | with_reducible exact HPZ.out | (with_reducible refine Pa.far ?_ hle _ _))
 ·repeat (first | with_reducible exact HGZ.out | (with_reducible refine zag ?_ (Nat.le_refl _) _ _))
theorem oper_negative (h:Pa F B f s w) (m:Nat) (k2:((cur F.z s).kind==2)=false) (k1:((cur F.z s).kind==1)=false) (t45:at' F.z [45] s=true) (n2:((nxt F.z s).kind==2)=true):Calls Tryz.prog 294 #[ptrP f] w (QPost F B f CE (zaw F.z (m+1) s) w):=by
 obtain⟨HP0,HG0,HR0⟩:=start5 h
 have HLT:=hid h.lt
 have HLE:=hid h.le
 have hfd:=zcw
 have HN:Hid (zaw F.z (m+1) s=zc7 F.z s):=hid (by rw[zaw,if_neg (by simp[k2]),if_neg (by simp[k1]),if_pos (by simp[t45,n2])])
 have n2e:(nxt F.z s).kind=2:=by simpa using n2
 have n2b:(((nxt F.z s).kind:Int)==2)=true:=by simp[n2e]
 have t45e:=zcq t45
 have Hk2:=hid k2
 have Hk1:=hid k1
 have Ht45:=hid t45
 have Hn2e:=hid n2e
 have Ht45e:=hid t45e
 clear h k2 k1 t45 n2e t45e n2
 go_enter Tryz.func294,Tryz.ntmps294
 go_wp2_with (first
  | (go_at_call 306;refine(negative_any HP4.out Ht45e.out Hn2e.out).mono ?_;intro e w5 hq;rcases hq.split with ⟨a,s3,v,hr,rfl,hC,hp,hg⟩ | ⟨n,s',hr,rfl,hp,hg⟩;rotate_left;(exact⟨rfl,QPost.wrong (by rw[HN.out,hr]) hp (zaa HG4.out hg)⟩);obtain⟨T,hv,hT⟩:=hC;rw[ET.val_is] at hv;subst hv;have HT:=hid hT;have HEZ:=hid hr;have HPZ:=hid hp;have HGZ:=hid (zaa HG4.out hg);have hr8:=(hg.block w.heap.size (lt_of_block HR4.out) (by have:=HLT.out;have:=HLE.out;simp;omega)).trans HR4.out;have HRB:=hid (lt_of_block HR4.out);clear y0 x0 x1 x2 x3 x4 l8;obtain⟨y0,x0,x1,x2,x3,x4,l8⟩:=zaL hr8;clear hr hp hg hq hT hr8)
  | (go_at_call 173;have hx:=ahead1 HP3.out;refine hx.mono ?_;clear hx;rintro e w4 ⟨rfl,hb⟩;have HP4:=hid (HP3.out.on hb);have HG4:=hid (zaa HG3.out (zae hb (some f)));have hr8:=(hb.block w.heap.size (lt_of_block HR3.out)).trans HR3.out;have HR4:=hid hr8;clear y0 x0 x1 x2 x3 x4 l8;obtain⟨y0,x0,x1,x2,x3,x4,l8⟩:=zaL hr8;clear hb hr8)
  | (go_at_call 174;have hx:=zaD HP2.out {data:=#[45]} [45] rfl _ Ht45.out;refine hx.mono ?_;clear hx;rintro e w3 ⟨rfl,hb⟩;have HP3:=hid (HP2.out.on hb);have HG3:=hid (zaa HG2.out (zae hb (some f)));have hr8:=(hb.block w.heap.size (lt_of_block HR2.out)).trans HR2.out;have HR3:=hid hr8;clear y0 x0 x1 x2 x3 x4 l8;obtain⟨y0,x0,x1,x2,x3,x4,l8⟩:=zaL hr8;clear hb hr8)
  | (go_at_call 208;have hx:=zbc HP1.out 1 _ Hk1.out;refine hx.mono ?_;clear hx;rintro e w2 ⟨rfl,hb⟩;have HP2:=hid (HP1.out.on hb);have HG2:=hid (zaa HG1.out (zae hb (some f)));have hr8:=(hb.block w.heap.size (lt_of_block HR1.out)).trans HR1.out;have HR2:=hid hr8;clear y0 x0 x1 x2 x3 x4 l8;obtain⟨y0,x0,x1,x2,x3,x4,l8⟩:=zaL hr8;clear hb hr8)
  | (go_at_call 208;have hx:=zbc HP0.out 2 _ Hk2.out;refine hx.mono ?_;clear hx;rintro e w1 ⟨rfl,hb⟩;have HP1:=hid (HP0.out.on hb);have HG1:=hid (zaa HG0.out (zae hb (some f)));have hr8:=(hb.block w.heap.size (lt_of_block HR0.out)).trans HR0.out;have HR1:=hid hr8;obtain⟨y0,x0,x1,x2,x3,x4,l8⟩:=zaL hr8;clear hb hr8))
 have hle:=HLE.out
 have hlt:=HLT.out
 obtain⟨t1,t2,t3⟩:=HT.out
 refine bodyPost_ret (v:=.agg (five T)) (by simp[results,Tryz.results294,go_sem, *]) rfl (QPost.good (by rw[HN.out,HEZ.out]) (CE.on (P:=Two f w.heap.size) ⟨T,by rw[ET.val_is],t1,t2,t3⟩ (w2:=_) ?_ (zbj (f:=f) (R:=w.heap.size) (by have:=HRB.out;omega) HRB.out) (Nat.le_of_lt HRB.out)) ?_ ?_)
 ·repeat (first | with_reducible exact KeptP.refl _ _ | (with_reducible refine KeptP.set ?_ (Or.inr rfl) _ _))
 ·repeat (first | with_reducible exact HPZ.out | (with_reducible refine Pa.far ?_ hle _ _))
 ·repeat (first | with_reducible exact HGZ.out | (with_reducible refine zag ?_ (Nat.le_refl _) _ _))
theorem oper_within (h:Pa F B f s w) (m:Nat) (hm:RuleE F B f (zbm F.z m 1)) (hkp:Keeps (zbm F.z m 1)) (k2:((cur F.z s).kind==2)=false) (k1:((cur F.z s).kind==1)=false) (t45:at' F.z [45] s=false) (t40:at' F.z [40] s=true) (hfin:Fin (zap F.z [40] (zbm F.z m 1) [41] s)):Calls Tryz.prog 294 #[ptrP f] w (QPost F B f CE (zaw F.z (m+1) s) w):=by
 obtain⟨HP0,HG0,HR0⟩:=start5 h
 have HLT:=hid h.lt
 have HLE:=hid h.le
 have hfd:=zcw
 have HN:Hid (zaw F.z (m+1) s=zap F.z [40] (zbm F.z m 1) [41] s):=hid (by rw[zaw,if_neg (by simp[k2]),if_neg (by simp[k1]),if_neg (by simp[t45]),if_pos t40])
 have Hk2:=hid k2
 have Hk1:=hid k1
 have Ht45:=hid t45
 have Ht40:=hid t40
 have Hhm:=hid hm
 have Hhkp:=hid hkp
 have Hhfin:=hid hfin
 clear h k2 k1 t45 t40 hm hkp hfin
 go_enter Tryz.func294,Tryz.ntmps294
 go_wp2_with (first
  | (go_at_call 282;refine(zdZ _ Hhm.out Hhkp.out {data:=#[40]} {data:=#[41]} [40] [41] rfl rfl rfl rfl rfl rfl (by simp) (by simp) HP4.out Hhfin.out).mono ?_;intro e w5 hq;rcases hq.split with ⟨a,s3,v,hr,rfl,hC,hp,hg⟩ | ⟨n,s',hr,rfl,hp,hg⟩;rotate_left;(exact⟨rfl,QPost.wrong (by rw[HN.out,hr]) hp (zaa HG4.out hg)⟩);obtain⟨T,hv,hT⟩:=hC;rw[ET.val_is] at hv;subst hv;have HT:=hid hT;have HEZ:=hid hr;have HPZ:=hid hp;have HGZ:=hid (zaa HG4.out hg);have hr8:=(hg.block w.heap.size (lt_of_block HR4.out) (by have:=HLT.out;have:=HLE.out;simp;omega)).trans HR4.out;have HRB:=hid (lt_of_block HR4.out);clear y0 x0 x1 x2 x3 x4 l8;obtain⟨y0,x0,x1,x2,x3,x4,l8⟩:=zaL hr8;clear hr hp hg hq hT hr8)
  | (go_at_call 174;have hx:=zaD HP3.out {data:=#[40]} [40] rfl _ Ht40.out;refine hx.mono ?_;clear hx;rintro e w4 ⟨rfl,hb⟩;have HP4:=hid (HP3.out.on hb);have HG4:=hid (zaa HG3.out (zae hb (some f)));have hr8:=(hb.block w.heap.size (lt_of_block HR3.out)).trans HR3.out;have HR4:=hid hr8;clear y0 x0 x1 x2 x3 x4 l8;obtain⟨y0,x0,x1,x2,x3,x4,l8⟩:=zaL hr8;clear hb hr8)
  | (go_at_call 174;have hx:=zaD HP2.out {data:=#[45]} [45] rfl _ Ht45.out;refine hx.mono ?_;clear hx;rintro e w3 ⟨rfl,hb⟩;have HP3:=hid (HP2.out.on hb);have HG3:=hid (zaa HG2.out (zae hb (some f)));have hr8:=(hb.block w.heap.size (lt_of_block HR2.out)).trans HR2.out;have HR3:=hid hr8;clear y0 x0 x1 x2 x3 x4 l8;obtain⟨y0,x0,x1,x2,x3,x4,l8⟩:=zaL hr8;clear hb hr8)
  | (go_at_call 208;have hx:=zbc HP1.out 1 _ Hk1.out;refine hx.mono ?_;clear hx;rintro e w2 ⟨rfl,hb⟩;have HP2:=hid (HP1.out.on hb);have HG2:=hid (zaa HG1.out (zae hb (some f)));have hr8:=(hb.block w.heap.size (lt_of_block HR1.out)).trans HR1.out;have HR2:=hid hr8;clear y0 x0 x1 x2 x3 x4 l8;obtain⟨y0,x0,x1,x2,x3,x4,l8⟩:=zaL hr8;clear hb hr8)
  | (go_at_call 208;have hx:=zbc HP0.out 2 _ Hk2.out;refine hx.mono ?_;clear hx;rintro e w1 ⟨rfl,hb⟩;have HP1:=hid (HP0.out.on hb);have HG1:=hid (zaa HG0.out (zae hb (some f)));have hr8:=(hb.block w.heap.size (lt_of_block HR0.out)).trans HR0.out;have HR1:=hid hr8;obtain⟨y0,x0,x1,x2,x3,x4,l8⟩:=zaL hr8;clear hb hr8))
 have hle:=HLE.out
 have hlt:=HLT.out
 obtain⟨t1,t2,t3⟩:=HT.out
 refine bodyPost_ret (v:=.agg (five T)) (by simp[results,Tryz.results294,go_sem, *]) rfl (QPost.good (by rw[HN.out,HEZ.out]) (CE.on (P:=Two f w.heap.size) ⟨T,by rw[ET.val_is],t1,t2,t3⟩ (w2:=_) ?_ (zbj (f:=f) (R:=w.heap.size) (by have:=HRB.out;omega) HRB.out) (Nat.le_of_lt HRB.out)) ?_ ?_)
 ·repeat (first | with_reducible exact KeptP.refl _ _ | (with_reducible refine KeptP.set ?_ (Or.inr rfl) _ _))
 ·repeat (first | with_reducible exact HPZ.out | (with_reducible refine Pa.far ?_ hle _ _))
 ·repeat (first | with_reducible exact HGZ.out | (with_reducible refine zag ?_ (Nat.le_refl _) _ _))
theorem oper_unary (h:Pa F B f s w) (m:Nat) (hm:RuleO F B f (zaw F.z m)) (hkp:Keeps (zaw F.z m)) (k2:((cur F.z s).kind==2)=false) (k1:((cur F.z s).kind==1)=false) (t45:at' F.z [45] s=false) (t40:at' F.z [40] s=false) (hfin:Fin (zdL F.z (zaw F.z m) s)):Calls Tryz.prog 294 #[ptrP f] w (QPost F B f CE (zaw F.z (m+1) s) w):=by
 obtain⟨HP0,HG0,HR0⟩:=start5 h
 have HLT:=hid h.lt
 have HLE:=hid h.le
 have hfd:=zcw
 have HN:Hid (zaw F.z (m+1) s=zdL F.z (zaw F.z m) s):=hid (by rw[zaw,if_neg (by simp[k2]),if_neg (by simp[k1]),if_neg (by simp[t45]),if_neg (by simp[t40])])
 have Hk2:=hid k2
 have Hk1:=hid k1
 have Ht45:=hid t45
 have Ht40:=hid t40
 have Hhm:=hid hm
 have Hhkp:=hid hkp
 have Hhfin:=hid hfin
 clear h k2 k1 t45 t40 hm hkp hfin
 go_enter Tryz.func294,Tryz.ntmps294
 go_wp2_with (first
  | (go_at_call 307;refine(unary_rule _ Hhm.out Hhkp.out HP4.out Hhfin.out).mono ?_;intro e w5 hq;rcases hq.split with ⟨a,s3,v,hr,rfl,hC,hp,hg⟩ | ⟨n,s',hr,rfl,hp,hg⟩;rotate_left;(exact⟨rfl,QPost.wrong (by rw[HN.out,hr]) hp (zaa HG4.out hg)⟩);obtain⟨T,hv,hT⟩:=hC;rw[ET.val_is] at hv;subst hv;have HT:=hid hT;have HEZ:=hid hr;have HPZ:=hid hp;have HGZ:=hid (zaa HG4.out hg);have hr8:=(hg.block w.heap.size (lt_of_block HR4.out) (by have:=HLT.out;have:=HLE.out;simp;omega)).trans HR4.out;have HRB:=hid (lt_of_block HR4.out);clear y0 x0 x1 x2 x3 x4 l8;obtain⟨y0,x0,x1,x2,x3,x4,l8⟩:=zaL hr8;clear hr hp hg hq hT hr8)
  | (go_at_call 174;have hx:=zaD HP3.out {data:=#[40]} [40] rfl _ Ht40.out;refine hx.mono ?_;clear hx;rintro e w4 ⟨rfl,hb⟩;have HP4:=hid (HP3.out.on hb);have HG4:=hid (zaa HG3.out (zae hb (some f)));have hr8:=(hb.block w.heap.size (lt_of_block HR3.out)).trans HR3.out;have HR4:=hid hr8;clear y0 x0 x1 x2 x3 x4 l8;obtain⟨y0,x0,x1,x2,x3,x4,l8⟩:=zaL hr8;clear hb hr8)
  | (go_at_call 174;have hx:=zaD HP2.out {data:=#[45]} [45] rfl _ Ht45.out;refine hx.mono ?_;clear hx;rintro e w3 ⟨rfl,hb⟩;have HP3:=hid (HP2.out.on hb);have HG3:=hid (zaa HG2.out (zae hb (some f)));have hr8:=(hb.block w.heap.size (lt_of_block HR2.out)).trans HR2.out;have HR3:=hid hr8;clear y0 x0 x1 x2 x3 x4 l8;obtain⟨y0,x0,x1,x2,x3,x4,l8⟩:=zaL hr8;clear hb hr8)
  | (go_at_call 208;have hx:=zbc HP1.out 1 _ Hk1.out;refine hx.mono ?_;clear hx;rintro e w2 ⟨rfl,hb⟩;have HP2:=hid (HP1.out.on hb);have HG2:=hid (zaa HG1.out (zae hb (some f)));have hr8:=(hb.block w.heap.size (lt_of_block HR1.out)).trans HR1.out;have HR2:=hid hr8;clear y0 x0 x1 x2 x3 x4 l8;obtain⟨y0,x0,x1,x2,x3,x4,l8⟩:=zaL hr8;clear hb hr8)
  | (go_at_call 208;have hx:=zbc HP0.out 2 _ Hk2.out;refine hx.mono ?_;clear hx;rintro e w1 ⟨rfl,hb⟩;have HP1:=hid (HP0.out.on hb);have HG1:=hid (zaa HG0.out (zae hb (some f)));have hr8:=(hb.block w.heap.size (lt_of_block HR0.out)).trans HR0.out;have HR1:=hid hr8;obtain⟨y0,x0,x1,x2,x3,x4,l8⟩:=zaL hr8;clear hb hr8))
 have hle:=HLE.out
 have hlt:=HLT.out
 obtain⟨t1,t2,t3⟩:=HT.out
 refine bodyPost_ret (v:=.agg (five T)) (by simp[results,Tryz.results294,go_sem, *]) rfl (QPost.good (by rw[HN.out,HEZ.out]) (CE.on (P:=Two f w.heap.size) ⟨T,by rw[ET.val_is],t1,t2,t3⟩ (w2:=_) ?_ (zbj (f:=f) (R:=w.heap.size) (by have:=HRB.out;omega) HRB.out) (Nat.le_of_lt HRB.out)) ?_ ?_)
 ·repeat (first | with_reducible exact KeptP.refl _ _ | (with_reducible refine KeptP.set ?_ (Or.inr rfl) _ _))
 ·repeat (first | with_reducible exact HPZ.out | (with_reducible refine Pa.far ?_ hle _ _))
 ·repeat (first | with_reducible exact HGZ.out | (with_reducible refine zag ?_ (Nat.le_refl _) _ _))
theorem oper_minus (h:Pa F B f s w) (m:Nat) (hm:RuleO F B f (zaw F.z m)) (hkp:Keeps (zaw F.z m)) (k2:((cur F.z s).kind==2)=false) (k1:((cur F.z s).kind==1)=false) (t45:at' F.z [45] s=true) (n2:((nxt F.z s).kind==2)=false) (t40:at' F.z [40] s=false) (hfin:Fin (zdL F.z (zaw F.z m) s)):Calls Tryz.prog 294 #[ptrP f] w (QPost F B f CE (zaw F.z (m+1) s) w):=by
 obtain⟨HP0,HG0,HR0⟩:=start5 h
 have HLT:=hid h.lt
 have HLE:=hid h.le
 have hfd:=zcw
 have HN:Hid (zaw F.z (m+1) s=zdL F.z (zaw F.z m) s):=hid (by rw[zaw,if_neg (by simp[k2]),if_neg (by simp[k1]),if_neg (by simp[t45,n2]),if_neg (by simp[t40])])
 have n2b:(((nxt F.z s).kind:Int)==2)=false:=by simp at n2 ⊢;omega
 have Hk2:=hid k2
 have Hk1:=hid k1
 have Ht45:=hid t45
 have Ht40:=hid t40
 have Hhm:=hid hm
 have Hhkp:=hid hkp
 have Hhfin:=hid hfin
 clear h k2 k1 t45 t40 hm hkp hfin n2
 go_enter Tryz.func294,Tryz.ntmps294
 go_wp2_with (first
  | (go_at_call 307;refine(unary_rule _ Hhm.out Hhkp.out HP5.out Hhfin.out).mono ?_;intro e w6 hq;rcases hq.split with ⟨a,s3,v,hr,rfl,hC,hp,hg⟩ | ⟨n,s',hr,rfl,hp,hg⟩;rotate_left;(exact⟨rfl,QPost.wrong (by rw[HN.out,hr]) hp (zaa HG5.out hg)⟩);obtain⟨T,hv,hT⟩:=hC;rw[ET.val_is] at hv;subst hv;have HT:=hid hT;have HEZ:=hid hr;have HPZ:=hid hp;have HGZ:=hid (zaa HG5.out hg);have hr8:=(hg.block w.heap.size (lt_of_block HR5.out) (by have:=HLT.out;have:=HLE.out;simp;omega)).trans HR5.out;have HRB:=hid (lt_of_block HR5.out);clear y0 x0 x1 x2 x3 x4 l8;obtain⟨y0,x0,x1,x2,x3,x4,l8⟩:=zaL hr8;clear hr hp hg hq hT hr8)
  | (go_at_call 174;have hx:=zaD HP4.out {data:=#[40]} [40] rfl _ Ht40.out;refine hx.mono ?_;clear hx;rintro e w5 ⟨rfl,hb⟩;have HP5:=hid (HP4.out.on hb);have HG5:=hid (zaa HG4.out (zae hb (some f)));have hr8:=(hb.block w.heap.size (lt_of_block HR4.out)).trans HR4.out;have HR5:=hid hr8;clear y0 x0 x1 x2 x3 x4 l8;obtain⟨y0,x0,x1,x2,x3,x4,l8⟩:=zaL hr8;clear hb hr8)
  | (go_at_call 173;have hx:=ahead1 HP3.out;refine hx.mono ?_;clear hx;rintro e w4 ⟨rfl,hb⟩;have HP4:=hid (HP3.out.on hb);have HG4:=hid (zaa HG3.out (zae hb (some f)));have hr8:=(hb.block w.heap.size (lt_of_block HR3.out)).trans HR3.out;have HR4:=hid hr8;clear y0 x0 x1 x2 x3 x4 l8;obtain⟨y0,x0,x1,x2,x3,x4,l8⟩:=zaL hr8;clear hb hr8)
  | (go_at_call 174;have hx:=zaD HP2.out {data:=#[45]} [45] rfl _ Ht45.out;refine hx.mono ?_;clear hx;rintro e w3 ⟨rfl,hb⟩;have HP3:=hid (HP2.out.on hb);have HG3:=hid (zaa HG2.out (zae hb (some f)));have hr8:=(hb.block w.heap.size (lt_of_block HR2.out)).trans HR2.out;have HR3:=hid hr8;clear y0 x0 x1 x2 x3 x4 l8;obtain⟨y0,x0,x1,x2,x3,x4,l8⟩:=zaL hr8;clear hb hr8)
  | (go_at_call 208;have hx:=zbc HP1.out 1 _ Hk1.out;refine hx.mono ?_;clear hx;rintro e w2 ⟨rfl,hb⟩;have HP2:=hid (HP1.out.on hb);have HG2:=hid (zaa HG1.out (zae hb (some f)));have hr8:=(hb.block w.heap.size (lt_of_block HR1.out)).trans HR1.out;have HR2:=hid hr8;clear y0 x0 x1 x2 x3 x4 l8;obtain⟨y0,x0,x1,x2,x3,x4,l8⟩:=zaL hr8;clear hb hr8)
  | (go_at_call 208;have hx:=zbc HP0.out 2 _ Hk2.out;refine hx.mono ?_;clear hx;rintro e w1 ⟨rfl,hb⟩;have HP1:=hid (HP0.out.on hb);have HG1:=hid (zaa HG0.out (zae hb (some f)));have hr8:=(hb.block w.heap.size (lt_of_block HR0.out)).trans HR0.out;have HR1:=hid hr8;obtain⟨y0,x0,x1,x2,x3,x4,l8⟩:=zaL hr8;clear hb hr8))
 have hle:=HLE.out
 have hlt:=HLT.out
 obtain⟨t1,t2,t3⟩:=HT.out
 refine bodyPost_ret (v:=.agg (five T)) (by simp[results,Tryz.results294,go_sem, *]) rfl (QPost.good (by rw[HN.out,HEZ.out]) (CE.on (P:=Two f w.heap.size) ⟨T,by rw[ET.val_is],t1,t2,t3⟩ (w2:=_) ?_ (zbj (f:=f) (R:=w.heap.size) (by have:=HRB.out;omega) HRB.out) (Nat.le_of_lt HRB.out)) ?_ ?_)
 ·repeat (first | with_reducible exact KeptP.refl _ _ | (with_reducible refine KeptP.set ?_ (Or.inr rfl) _ _))
 ·repeat (first | with_reducible exact HPZ.out | (with_reducible refine Pa.far ?_ hle _ _))
 ·repeat (first | with_reducible exact HGZ.out | (with_reducible refine zag ?_ (Nat.le_refl _) _ _))
end
end Go.Proofs.YtljbbhhiiiepcaaGreatDoor.Pm
namespace Go.Proofs.YtljbbhhiiiepcaaGreatDoor.Pm
open Go Go.RowKit Go.Proofs.YtljbbhhiiiepcaaGreatDoor
open Go.Lib (hid)
theorem hide_block {w:World} {X N:Nat} (h:N≠X):(hide (some X) w).heap[N]?=w.heap[N]?:=by simp[hide,Array.getElem?_modify,Ne.symm h]
theorem levelV_le (s:ByteArray):zar s≤10:=by
 unfold zar
 repeat (first | (split;decide) | (split;· decide))
 all_goals (first | decide | omega)
theorem lev_flat {t:List UInt8} (h:1≤zar (bs t)):za8 t=false∧za9 t=false∧t≠[]:=by
 have key:∀x:List UInt8,x∈[[40],[91],[123],[41],[93],[125],[]]→zar (bs x)=0:=by decide
 have no:∀x,x∈[[40],[91],[123],[41],[93],[125],[]]→t≠x:=fun x hx e=>by
  have:=key x hx
  rw[e] at h
  omega
 refine⟨?_,?_,no [] (by simp)⟩
 ·simp only[za8,Bool.or_eq_false_iff,beq_eq_false_iff_ne]
  exact⟨⟨no _ (by simp),no _ (by simp)⟩,no _ (by simp)⟩
 ·simp only[za9,Bool.or_eq_false_iff,beq_eq_false_iff_ne]
  exact⟨⟨no _ (by simp),no _ (by simp)⟩,no _ (by simp)⟩
theorem hid_move {P:Nat→Prop} {X A:Nat} {T:ET} {wa wb:World} (hk:KeptP P wa wb) (hP:∀b,A≤b→b≠X→¬P b) (hT:T.In (hide (some X) wa) A):T.In (hide (some X) wb) A:=hT.keep fun p u hp hc=>by
 rw[zav] at hc ⊢
 exact⟨hc.1,hk.cell (hP _ hp fun e=>hc.1 (by rw[e])) hc.2⟩
theorem hid_new {P:Nat→Prop} {X A:Nat} {T:ET} {wa wb:World} (hk:KeptP P wa wb) (hP:∀b,A≤b→¬P b) (hX:∀b,A≤b→b < wa.heap.size→b≠X) (hT:T.In wa A):T.In (hide (some X) wb) A:=hT.keep fun p u hp hc=>by
 rw[zav]
 exact⟨fun e=>hX _ hp (World.block_lt_of_cell? wa p hc) (by simpa using e),hk.cell (hP _ hp) hc⟩
theorem hid_out {X A A':Nat} {T:ET} {w:World} (hT:T.In (hide (some X) w) A) (hA:A'≤A):T.In w A':=(hT.keep fun p u hp hc=>(zav.1 hc).2).mono hA
structure BInv (F:PC) (B f:Nat) (all:PR RE) (k:Int) (m R X:Nat) (w wr:World) (mm:Nat) (s':PS) (r:RE) (T:ET):Prop where
 tl:tail F.z mm k r s'=all
 le:mm≤m
 pa:Pa F B f s' wr
 gr:w.grownBy wr (some f)
 rb:wr.heap[R]?=some (.cells #[.int .i64 0,.string ⟨#[]⟩,.int .i64 0,.string ⟨#[]⟩,.slice none 0 0] 68 (0,0))
 xb:wr.heap[X]?=some (.cells (five T) 68 (0,0))
 re:T.re=r
 rt:T.rightB=true
 tin:T.In (hide (some X) wr) (R+1)
def BRel (F:PC) (B f:Nat) (all:PR RE) (k:Int) (m R X:Nat) (w wr:World):Prop:=∃(mm:Nat) (s':PS) (r:RE) (T:ET),BInv F B f all k m R X w wr mm s' r T
def posW (f:Nat) (w:World):Nat:=(intOf ((w.cell? ⟨f,1,none⟩).getD (.bool false))).toNat
def Tri (f R X b:Nat):Prop:=b=f∨b=R∨b=X
section
variable {F:PC} {B f:Nat} {s:PS} {w:World}
theorem posW_is (h:Pa F B f s w):posW f w=posOf F s:=by unfold posW;rw[h.c1];simp[intOf]
theorem bin_ce {l:List UInt8} (h:1≤zar (bs l)) {T U:ET} {r q:RE} (hr:T.re=r) (hq:U.re=q) (hb:T.rightB=true) (hb':U.rightB=true) (N:Nat):
  (ET.mk 4 (bs l) 0 mE (some ⟨N,0,none⟩) 2 [T,U]).re=.bin l r q∧(ET.mk 4 (bs l) 0 mE (some ⟨N,0,none⟩) 2 [T,U]).rightB=true:=by
 refine⟨by rw[ET.re,hr,hq];simp[bs],?_⟩
 have h0:0 < zar (bs l):=by omega
 simp[ET.rightB,zam,zbt,zcm,hb,hb',h0]
theorem meas {wf wr:World} {s2 s1:PS} (h2:Pa F B f s2 wf) (h1:Pa F B f s1 wr) (hl:s2.ws.length < s1.ws.length):F.ws.length - posW f wf < F.ws.length - posW f wr:=by
 rw[posW_is h2,posW_is h1]
 have:=h1.len
 have:=h2.len
 unfold posOf
 omega
theorem five_copy {w1:World} {X:Nat} {a0 a1 a2 a3 a4 b0 b1 b2 b3 b4:Value} {t:TypeId} (hY:w1.heap[X]?=some (.cells #[a0,a1,a2,a3,a4] t (0,0))):
  (((((w1.setCell ⟨X,0,none⟩ b0).setCell ⟨X,1,none⟩ b1).setCell ⟨X,2,none⟩ b2).setCell ⟨X,3,none⟩ b3).setCell ⟨X,4,none⟩ b4).heap[X]?=some (.cells #[b0,b1,b2,b3,b4] t (0,0)):=
 zaH (k:=4) b4 (zaH (k:=3) b3 (zaH (k:=2) b2 (zaH (k:=1) b1 (zaH (k:=0) b0 hY))))
def RuleB (F:PC) (B f m:Nat):Prop:=∀(k:Int) (s1:PS) (w1:World),Pa F B f s1 w1→Fin (zbm F.z m k s1)→(1≤k∧k≤11)→Calls Tryz.prog 284 #[ptrP f,.int .i64 k] w1 (QPost F B f CE (zbm F.z m k s1) w1)
theorem bound_go (m:Nat) (ho:RuleO F B f (zaw F.z m)) (hb:∀j,j < m→RuleB F B f j) (k:Int) (hk:1≤k∧k≤11) (h:Pa F B f s w) (hfin:Fin (zbm F.z (m+1) k s)):
  Calls Tryz.prog 284 #[ptrP f,.int .i64 k] w (QPost F B f CE (zbm F.z (m+1) k s) w):=by
 have HP0:=hid (h.alloc (.cells #[.int .i64 0,.string ⟨#[]⟩,.int .i64 0,.string ⟨#[]⟩,.slice none 0 0] 68))
 have HG0:Hid (w.grownBy (w.alloc (.cells #[.int .i64 0,.string ⟨#[]⟩,.int .i64 0,.string ⟨#[]⟩,.slice none 0 0] 68)) (some f)):=hid (zad (zaf w (some f)) _)
 have HLT:=hid h.lt
 have HLE:=hid h.le
 have HO:=hid ho
 have HB:Hid (∀j,j < m→∀(k:Int) (s1:PS) (w1:World),Pa F B f s1 w1→Fin (zbm F.z j k s1)→(1≤k∧k≤11)→Calls Tryz.prog 284 #[ptrP f,.int .i64 k] w1 (QPost F B f CE (zbm F.z j k s1) w1)):=hid hb
 have HFIN:=hid hfin
 have HFO:Hid (Fin (zaw F.z m s)):=hid (by rw[zbm] at hfin;exact hfin.fst)
 have hk1:=hk.1
 have hk2:=hk.2
 have hfd:=zbK
 clear h ho hb hfin hk
 go_enter Tryz.func284,Tryz.ntmps284
 go_wp2_with (go_at_call 294;refine(HO.out s _ HP0.out HFO.out).mono ?_;intro e w1 hq;rcases hq.split with ⟨a,s1,v,hr,rfl,hC,hp,hg⟩ | ⟨n,s',hr,rfl,hp,hg⟩;rotate_left;(exact⟨rfl,QPost.wrong (by rw[zbm,hr];rfl) hp (zaa HG0.out hg)⟩);obtain⟨T,hv,hT⟩:=hC;rw[ET.val_is] at hv;subst hv;have HT:=hid hT;have HE1:=hid hr;have HP1:=hid hp;have HG1:=hid (zaa HG0.out hg);have HR1:=hid ((hg.block w.heap.size (by simp) (by have:=HLT.out;have:=HLE.out;simp;omega)).trans (zaj w _));clear hr hp hg hq hT)
 have hr1:=lt_of_block HR1.out
 have hlt:=HLT.out
 have hle:=HLE.out
 obtain⟨t1,t2,t3⟩:=HT.out
 have HS0:Hid (BRel F B f (zbm F.z (m+1) k s) k m w.heap.size w1.heap.size w (w1.alloc (.cells (five T) 68))):=hid ⟨m,s1,a,T,⟨by rw[zbm,HE1.out];rfl,Nat.le_refl _,HP1.out.alloc _,zad HG1.out _,zai _ HR1.out,zaj _ _,t1,t2,by
  have t4:T.In w1 (w.heap.size+1):=by simpa using t3
  exact hid_new ((KeptP.refl (fun _=>False) w1).alloc _) (fun _ _ h=>h) (fun b _ hb e=>by omega) t4⟩⟩
 have HRF:Hid (w.heap.size≠f):=hid (by omega)
 have HXF:Hid (some w1.heap.size≠some f):=hid (by simp;omega)
 have HRF:Hid (some w.heap.size≠some f):=hid (by simp;omega)
 have HR1L:=hid hr1
 clear HT t1 t2 t3 HP1 HG1 HE1 HP0 HG0 HO HFO hr1 hlt hle
 go_loopw [6,7] (fun _ _ wr=>BRel F B f (zbm F.z (m+1) k s) k m w.heap.size w1.heap.size w wr) (fun _ _ wr=>F.ws.length - posW f wr)
 case atStart=>exact HS0.out
 case round =>
  obtain⟨mm0,s',r,T,hI⟩:=hrel
  have HTL:=hid hI.tl
  have HML:=hid hI.le
  have HP11:=hid hI.pa
  have HG11:=hid hI.gr
  have HR11:=hid hI.rb
  have HX11:=hid hI.xb
  have HTI:=hid (And.intro hI.re (And.intro hI.rt hI.tin))
  have HK11:=hid (KeptP.refl (Tri f w.heap.size w1.heap.size) wr)
  have hr8:=hI.rb
  have hrx:=hI.xb
  obtain⟨y0,x0,x1,x2,x3,x4,l8⟩:=zaL hr8
  have u0:=zab (k:=0) hrx rfl;have u1:=zab (k:=1) hrx rfl;have u2:=zab (k:=2) hrx rfl;have u3:=zab (k:=3) hrx rfl;have u4:=zab (k:=4) hrx rfl;have uy:=fun k=>zac (k:=k) hrx;have lx:=lt_of_block hrx
  have hl0:=levelV_le (bs (cur F.z s').text)
  clear hr8 hrx hI
  obtain⟨mm,rfl⟩:∃mm,mm0=mm+1:=by
   cases mm0 with
   | zero=>exact absurd (by rw[←HTL.out,tail]) (HFIN.out s')
   | succ mm=>exact⟨mm,rfl⟩
  by_cases hlv:k≤zar (bs (cur F.z s').text)
  ·have hfl:=lev_flat (t:=(cur F.z s').text) (by omega)
   have HTT:Hid (tail F.z (mm+1) k r s'=(zbm F.z mm (zar (bs (cur F.z s').text)+1) (skip s')).bind fun y s2=>tail F.z mm k (.bin (cur F.z s').text r y) s2):=hid (by rw[tail];exact if_pos hlv)
   have HFI:Hid (Fin (zbm F.z mm (zar (bs (cur F.z s').text)+1) (skip s'))):=hid (by have:=HFIN.out;rw[←HTL.out,HTT.out] at this;exact this.fst)
   have HMM:Hid (mm < m):=hid (by have:=HML.out;omega)
   have HLV:Hid (1≤zar (bs (cur F.z s').text)+1∧zar (bs (cur F.z s').text)+1≤11):=hid (by omega)
   have HL1:Hid (1≤zar (bs (cur F.z s').text)):=hid (by omega)
   have HTH:Hid (s'.ws≠[]):=hid (zbx (F:=F) (s:=s') rfl hfl.2.2)
   have HFL:Hid (za8 (cur F.z s').text=false∧za9 (cur F.z s').text=false):=hid ⟨hfl.1,hfl.2.1⟩
   clear hfl
   go_wp2_with (first
    | (go_at_call 284;refine(HB.out mm HMM.out _ (skip s') w15 HP15.out HFI.out HLV.out).mono ?_;intro e w16 hq;rcases hq.split with ⟨a,s2,v,hr,rfl,hC,hp,hg⟩ | ⟨n,s9,hr,rfl,hp,hg⟩;rotate_left;(exact⟨rfl,QPost.wrong (by rw[←HTL.out,HTT.out,hr];rfl) hp (zaa HG15.out hg)⟩);obtain⟨U,hv,hU⟩:=hC;rw[ET.val_is] at hv;subst hv;have HU:=hid hU;have HE16:=hid hr;have HP16:=hid hp;have HG16:=hid (zaa HG15.out hg);have HK16:=hid (HK15.out.grown (Or.inl rfl) hg);have HS16:=hid hg.size;have hr8:=(hg.block w.heap.size (lt_of_block HR15.out) HRF.out).trans HR15.out;have HR16:=hid hr8;have hrx:=(hg.block w1.heap.size (lt_of_block HX15.out) HXF.out).trans HX15.out;have HX16:=hid hrx;have HLX:=hid (lt_of_block HX15.out);clear y0 x0 x1 x2 x3 x4 l8;clear u0 u1 u2 u3 u4 uy lx;obtain⟨y0,x0,x1,x2,x3,x4,l8⟩:=zaL hr8;have u0:=zab (k:=0) hrx rfl;have u1:=zab (k:=1) hrx rfl;have u2:=zab (k:=2) hrx rfl;have u3:=zab (k:=3) hrx rfl;have u4:=zab (k:=4) hrx rfl;have uy:=fun k=>zac (k:=k) hrx;have lx:=lt_of_block hrx;clear hr hp hg hq hU hr8 hrx)
    | (go_at_call 202;refine(zcl (bs (cur F.z s').text) w14).mono ?_;rintro e w15 ⟨rfl,hb⟩;have HP15:=hid (HP14.out.on hb);have HG15:=hid (zaa HG14.out (zae hb (some f)));have HK15:=hid (HK14.out.grown (Or.inl rfl) (zae hb (some f)));have hr8:=(hb.block w.heap.size (lt_of_block HR14.out)).trans HR14.out;have HR15:=hid hr8;have hrx:=(hb.block w1.heap.size (lt_of_block HX14.out)).trans HX14.out;have HX15:=hid hrx;clear y0 x0 x1 x2 x3 x4 l8;clear u0 u1 u2 u3 u4 uy lx;obtain⟨y0,x0,x1,x2,x3,x4,l8⟩:=zaL hr8;have u0:=zab (k:=0) hrx rfl;have u1:=zab (k:=1) hrx rfl;have u2:=zab (k:=2) hrx rfl;have u3:=zab (k:=3) hrx rfl;have u4:=zab (k:=4) hrx rfl;have uy:=fun k=>zac (k:=k) hrx;have lx:=lt_of_block hrx;clear hb hr8 hrx)
    | (go_at_call 175;refine(zaV HP13.out HTH.out HFL.out.1 HFL.out.2).mono ?_;rintro e w14 ⟨rfl,hp,hg⟩;have HP14:Hid (Pa F B f (skip s') w14):=hid hp;have HG14:=hid (zaa HG13.out hg);have HK14:=hid (HK13.out.grown (Or.inl rfl) hg);have hr8:=(hg.block w.heap.size (lt_of_block HR13.out) HRF.out).trans HR13.out;have HR14:=hid hr8;have hrx:=(hg.block w1.heap.size (lt_of_block HX13.out) HXF.out).trans HX13.out;have HX14:=hid hrx;clear y0 x0 x1 x2 x3 x4 l8;clear u0 u1 u2 u3 u4 uy lx;obtain⟨y0,x0,x1,x2,x3,x4,l8⟩:=zaL hr8;have u0:=zab (k:=0) hrx rfl;have u1:=zab (k:=1) hrx rfl;have u2:=zab (k:=2) hrx rfl;have u3:=zab (k:=3) hrx rfl;have u4:=zab (k:=4) hrx rfl;have uy:=fun k=>zac (k:=k) hrx;have lx:=lt_of_block hrx;clear hp hg hr8 hrx)
    | (go_at_call 202;refine(zcl (bs (cur F.z s').text) w12).mono ?_;rintro e w13 ⟨rfl,hb⟩;have HP13:=hid (HP12.out.on hb);have HG13:=hid (zaa HG12.out (zae hb (some f)));have HK13:=hid (HK12.out.grown (Or.inl rfl) (zae hb (some f)));have hr8:=(hb.block w.heap.size (lt_of_block HR12.out)).trans HR12.out;have HR13:=hid hr8;have hrx:=(hb.block w1.heap.size (lt_of_block HX12.out)).trans HX12.out;have HX13:=hid hrx;clear y0 x0 x1 x2 x3 x4 l8;clear u0 u1 u2 u3 u4 uy lx;obtain⟨y0,x0,x1,x2,x3,x4,l8⟩:=zaL hr8;have u0:=zab (k:=0) hrx rfl;have u1:=zab (k:=1) hrx rfl;have u2:=zab (k:=2) hrx rfl;have u3:=zab (k:=3) hrx rfl;have u4:=zab (k:=4) hrx rfl;have uy:=fun k=>zac (k:=k) hrx;have lx:=lt_of_block hrx;clear hb hr8 hrx)
    | (go_at_call 117;refine(za3 HP11.out).mono ?_;rintro e w12 ⟨rfl,hb⟩;have HP12:=hid (HP11.out.on hb);have HG12:=hid (zaa HG11.out (zae hb (some f)));have HK12:=hid (HK11.out.grown (Or.inl rfl) (zae hb (some f)));have hr8:=(hb.block w.heap.size (lt_of_block HR11.out)).trans HR11.out;have HR12:=hid hr8;have hrx:=(hb.block w1.heap.size (lt_of_block HX11.out)).trans HX11.out;have HX12:=hid hrx;clear y0 x0 x1 x2 x3 x4 l8;clear u0 u1 u2 u3 u4 uy lx;obtain⟨y0,x0,x1,x2,x3,x4,l8⟩:=zaL hr8;have u0:=zab (k:=0) hrx rfl;have u1:=zab (k:=1) hrx rfl;have u2:=zab (k:=2) hrx rfl;have u3:=zab (k:=3) hrx rfl;have u4:=zab (k:=4) hrx rfl;have uy:=fun k=>zac (k:=k) hrx;have lx:=lt_of_block hrx;clear hb hr8 hrx))
   go_roundw
   case rel =>
    have hlt:=HLT.out
    have hle:=HLE.out
    have hr1:=HR1L.out
    have hlx:=HLX.out
    have hs16:=HS16.out
    obtain⟨t1,t2,t3⟩:=HTI.out
    obtain⟨u1,u2,u3⟩:=HU.out
    obtain⟨b1,b2⟩:=bin_ce HL1.out t1 u1 t2 u2 (w16.heap.size+1)
    refine⟨mm,s2,_,_,⟨by rw[←HTL.out,HTT.out,HE16.out];rfl,by have:=HMM.out;omega,?_,?_,?_,zai _ (zai _ (five_copy HX16.out)),b1,b2,?_⟩⟩
    ·repeat (first | with_reducible exact HP16.out | (with_reducible refine Pa.far ?_ (Nat.le_trans hle (Nat.le_of_lt hr1)) _ _) | (with_reducible refine Pa.alloc ?_ _))
    ·repeat (first | with_reducible exact HG16.out | (with_reducible refine zag ?_ (Nat.le_of_lt hr1) _ _) | (with_reducible refine zad ?_ _))
    ·repeat (first | with_reducible exact HR16.out | (with_reducible refine zai _ ?_) | (with_reducible refine(Below.heap_setCell _ _ _ _ (Nat.ne_of_lt hr1)).trans ?_))
    ·rw[ET.In]
     refine⟨by decide,by simp,zd6 ((hide_block (by omega)).trans (zao _ (by simp[World.setCell]))) (fun _ _ h=>h) (hid_move (P:=Tri f w.heap.size w1.heap.size) (wa:=wr) ?_ (fun b hb hx h=>by unfold Tri at h;omega) t3) ((hid_new (P:=Tri f w.heap.size w1.heap.size) (wa:=w16) ?_ (fun b hb h=>by unfold Tri at h;omega) (fun b hb _=>by omega) u3).mono (by omega)) (by omega)⟩
     ·repeat (first | with_reducible exact HK16.out | (with_reducible refine KeptP.set ?_ (Or.inr (Or.inr rfl)) _ _) | (with_reducible refine KeptP.alloc ?_ _))
     ·repeat (first | with_reducible exact KeptP.refl _ _ | (with_reducible refine KeptP.set ?_ (Or.inr (Or.inr rfl)) _ _) | (with_reducible refine KeptP.alloc ?_ _))
   case measure =>
    have hr1:=HR1L.out
    have hle:=HLE.out
    refine meas (s2:=s2) ?_ HP11.out ?_
    ·repeat (first | with_reducible exact HP16.out | (with_reducible refine Pa.far ?_ (Nat.le_trans hle (Nat.le_of_lt hr1)) _ _) | (with_reducible refine Pa.alloc ?_ _))
    ·have h1:=((zch F.z mm).2.1 _ _ _ _ HE16.out).1
     have h2:=HTH.out
     have h3:(skip s').ws=s'.ws.tail:=rfl
     rw[h3,List.length_tail] at h1
     have:0 < s'.ws.length:=List.length_pos_iff.2 h2
     omega
  ·have HTT:Hid (tail F.z (mm+1) k r s'=.ok r s'):=hid (by rw[tail];exact if_neg hlv)
   go_wp2_with (first
    | (go_at_call 202;refine(zcl (bs (cur F.z s').text) w12).mono ?_;rintro e w13 ⟨rfl,hb⟩;have HP13:=hid (HP12.out.on hb);have HG13:=hid (zaa HG12.out (zae hb (some f)));have HK13:=hid (HK12.out.grown (Or.inl rfl) (zae hb (some f)));have hr8:=(hb.block w.heap.size (lt_of_block HR12.out)).trans HR12.out;have HR13:=hid hr8;have hrx:=(hb.block w1.heap.size (lt_of_block HX12.out)).trans HX12.out;have HX13:=hid hrx;clear y0 x0 x1 x2 x3 x4 l8;clear u0 u1 u2 u3 u4 uy lx;obtain⟨y0,x0,x1,x2,x3,x4,l8⟩:=zaL hr8;have u0:=zab (k:=0) hrx rfl;have u1:=zab (k:=1) hrx rfl;have u2:=zab (k:=2) hrx rfl;have u3:=zab (k:=3) hrx rfl;have u4:=zab (k:=4) hrx rfl;have uy:=fun k=>zac (k:=k) hrx;have lx:=lt_of_block hrx;clear hb hr8 hrx)
    | (go_at_call 117;refine(za3 HP11.out).mono ?_;rintro e w12 ⟨rfl,hb⟩;have HP12:=hid (HP11.out.on hb);have HG12:=hid (zaa HG11.out (zae hb (some f)));have HK12:=hid (HK11.out.grown (Or.inl rfl) (zae hb (some f)));have hr8:=(hb.block w.heap.size (lt_of_block HR11.out)).trans HR11.out;have HR12:=hid hr8;have hrx:=(hb.block w1.heap.size (lt_of_block HX11.out)).trans HX11.out;have HX12:=hid hrx;clear y0 x0 x1 x2 x3 x4 l8;clear u0 u1 u2 u3 u4 uy lx;obtain⟨y0,x0,x1,x2,x3,x4,l8⟩:=zaL hr8;have u0:=zab (k:=0) hrx rfl;have u1:=zab (k:=1) hrx rfl;have u2:=zab (k:=2) hrx rfl;have u3:=zab (k:=3) hrx rfl;have u4:=zab (k:=4) hrx rfl;have uy:=fun k=>zac (k:=k) hrx;have lx:=lt_of_block hrx;clear hb hr8 hrx))
   have hle:=HLE.out
   obtain⟨t1,t2,t3⟩:=HTI.out
   refine bodyPost_ret (v:=.agg (five T)) (by simp[results,Tryz.results284,go_sem, *]) rfl (QPost.good (by rw[←HTL.out,HTT.out]) ⟨T,by rw[ET.val_is],t1,t2,hid_out (X:=w1.heap.size) (hid_move (P:=Tri f w.heap.size w1.heap.size) (wa:=wr) ?_ (fun b hb hx h=>by have:=HLT.out;unfold Tri at h;omega) t3) (Nat.le_succ _)⟩ ?_ ?_)
   ·repeat (first | with_reducible exact HK13.out | (with_reducible refine KeptP.set ?_ (Or.inr (Or.inl rfl)) _ _))
   ·repeat (first | with_reducible exact HP13.out | (with_reducible refine Pa.far ?_ hle _ _))
   ·repeat (first | with_reducible exact HG13.out | (with_reducible refine zag ?_ (Nat.le_refl _) _ _))
theorem expr_of (h:Pa F B f s w) (m:Nat) (hb:RuleB F B f m) (hfin:Fin (zbm F.z m 1 s)):Calls Tryz.prog 265 #[ptrP f] w (QPost F B f CE (expr F.z m s) w):=by
 obtain⟨HP0,HG0,HR0⟩:=start5 h
 have HLT:=hid h.lt
 have HLE:=hid h.le
 have hfd:=zcw
 have HN:Hid (expr F.z m s=zbm F.z m 1 s):=hid rfl
 have Hhb:Hid (∀(k:Int) (s1:PS) (w1:World),Pa F B f s1 w1→Fin (zbm F.z m k s1)→(1≤k∧k≤11)→Calls Tryz.prog 284 #[ptrP f,.int .i64 k] w1 (QPost F B f CE (zbm F.z m k s1) w1)):=hid hb
 have Hhfin:=hid hfin
 clear h hb hfin
 go_enter Tryz.func265,Tryz.ntmps265
 go_wp2_with (first
  | (go_at_call 284;refine(Hhb.out 1 s _ HP0.out Hhfin.out (by omega)).mono ?_;intro e w1 hq;rcases hq.split with ⟨a,s3,v,hr,rfl,hC,hp,hg⟩ | ⟨n,s',hr,rfl,hp,hg⟩;rotate_left;(exact⟨rfl,QPost.wrong (by rw[HN.out,hr]) hp (zaa HG0.out hg)⟩);obtain⟨T,hv,hT⟩:=hC;rw[ET.val_is] at hv;subst hv;have HT:=hid hT;have HEZ:=hid hr;have HPZ:=hid hp;have HGZ:=hid (zaa HG0.out hg);have hr8:=(hg.block w.heap.size (lt_of_block HR0.out) (by have:=HLT.out;have:=HLE.out;simp;omega)).trans HR0.out;have HRB:=hid (lt_of_block HR0.out);obtain⟨y0,x0,x1,x2,x3,x4,l8⟩:=zaL hr8;clear hr hp hg hq hT hr8))
 have hle:=HLE.out
 have hlt:=HLT.out
 obtain⟨t1,t2,t3⟩:=HT.out
 refine bodyPost_ret (v:=.agg (five T)) (by simp[results,Tryz.results265,go_sem, *]) rfl (QPost.good (by rw[HN.out,HEZ.out]) (CE.on (P:=Two f w.heap.size) ⟨T,by rw[ET.val_is],t1,t2,t3⟩ (w2:=_) ?_ (zbj (f:=f) (R:=w.heap.size) (by have:=HRB.out;omega) HRB.out) (Nat.le_of_lt HRB.out)) ?_ ?_)
 ·repeat (first | with_reducible exact KeptP.refl _ _ | (with_reducible refine KeptP.set ?_ (Or.inr rfl) _ _))
 ·repeat (first | with_reducible exact HPZ.out | (with_reducible refine Pa.far ?_ hle _ _))
 ·repeat (first | with_reducible exact HGZ.out | (with_reducible refine zag ?_ (Nat.le_refl _) _ _))
theorem oper_all (m:Nat) (hb:RuleB F B f m) (ho:RuleO F B f (zaw F.z m)):RuleO F B f (zaw F.z (m+1)):=by
 intro s w h hfin
 have he:RuleE F B f (zbm F.z m 1):=fun s1 w1 h1 hf=>expr_of h1 m hb hf
 have k1:=(zch F.z m).1
 have k2:=(zch F.z m).2.1 1
 rw[zaw] at hfin
 rcases c2:((cur F.z s).kind==2) with _ | _
 ·rw[if_neg (by simp[c2])] at hfin
  rcases c1:((cur F.z s).kind==1) with _ | _
  ·rw[if_neg (by simp[c1])] at hfin
   rcases c45:at' F.z [45] s with _ | _
   ·rw[if_neg (by simp[c45])] at hfin
    rcases c40:at' F.z [40] s with _ | _
    ·rw[if_neg (by simp[c40])] at hfin
     exact oper_unary h m ho k1 c2 c1 c45 c40 hfin
    ·rw[if_pos c40] at hfin
     exact oper_within h m he k2 c2 c1 c45 c40 hfin
   ·rcases n2:((nxt F.z s).kind==2) with _ | _
    ·rw[if_neg (by simp[c45,n2])] at hfin
     have c40:at' F.z [40] s=false:=by
      have e:=zcq c45
      unfold at'
      rw[e]
      decide
     rw[if_neg (by simp[c40])] at hfin
     exact oper_minus h m ho k1 c2 c1 c45 n2 c40 hfin
    ·exact oper_negative h m c2 c1 c45 n2
  ·rw[if_pos c1] at hfin
   exact oper_named h m he k2 c2 c1 hfin
 ·exact oper_number h m c2
theorem expr_all:∀m,∀j,j≤m→RuleO F B f (zaw F.z j)∧RuleB F B f j:=by
 intro m
 induction m with
 | zero =>
  intro j hj
  obtain rfl:j=0:=by omega
  refine⟨fun s1 w1 h hf=>?_,fun k s1 w1 h hf hk=>?_⟩
  ·exact absurd (by rw[zaw]) (hf s1)
  ·exact absurd (by rw[zbm]) (hf s1)
 | succ m ih =>
  intro j hj
  rcases Nat.lt_or_ge j (m+1) with h1 | h1
  ·exact ih j (by omega)
  ·obtain rfl:j=m+1:=by omega
   obtain⟨o1,o2⟩:=ih m (Nat.le_refl _)
   exact⟨oper_all m o2 o1,fun k s1 w1 h hf hk=>bound_go m o1 (fun i hi=>(ih i (by omega)).2) k hk h hf⟩
theorem zbf (m:Nat):RuleE F B f (expr F.z m):=fun s1 w1 h hf=>expr_of h m (expr_all m m (Nat.le_refl _)).2 hf
end
end Go.Proofs.YtljbbhhiiiepcaaGreatDoor.Pm
