/- Statements that are read up to the bracket that shuts them: the contract of block. -/
import Derived.Test.YtljbbhhiiiepcaaGreatDoorPStB
set_option linter.unusedSimpArgs false
set_option linter.unusedVariables false
set_option maxHeartbeats 8000000
set_option maxRecDepth 100000
namespace Go.Proofs.YtljbbhhiiiepcaaGreatDoor.Pm
open Go Go.RowKit Go.Proofs.YtljbbhhiiiepcaaGreatDoor
open Go.Lib (hid)
theorem zdp:(Tryz.prog.info? 66).map (fun i=>(i.zero,i.size,i.bytes))=some (some (.agg #[.int .i64 0,.int .i64 0,.string {data:=#[]},.string {data:=#[]},.slice none 0 0,.slice none 0 0,.slice none 0 0]),7,120):=by kernel_rfl
abbrev seven (S:ST):Array Value:=#[.int .i64 S.kind,.int .i64 S.tag,.string S.name,.string S.func,.slice S.ea S.en S.ec,.slice S.ba S.bn S.bc,.slice S.la S.ln S.lc]
theorem seven_is (S:ST):S.cells=seven S:=ST.cells_eq S
theorem seven_one (S:ST):∀u∈(seven S).toList,u.oneCell'=true:=by
 intro u hu
 simp only[seven,List.mem_cons,List.not_mem_nil,or_false] at hu
 rcases hu with rfl | rfl | rfl | rfl | rfl | rfl | rfl<;>rfl
def RuleS (F:PC) (B f:Nat) (m:PS→PR RS):Prop:=∀(s1:PS) (w1:World),Pa F B f s1 w1→Fin (m s1)→Calls Tryz.prog 182 #[ptrP f] w1 (QPost F B f CS (m s1) w1)
def lenV:Value→Nat
 | .slice _ n _=>n
 | _=>0
structure KInv (F:PC) (B f:Nat) (N:Nat) (all:PR (List RS)) (w wr:World) (v:Value) (n:Nat) (s':PS) (l:List ST):Prop where
 le:n≤N
 tl:block F.z n (rss l) s'=all
 pa:Pa F B f s' wr
 gr:w.grownBy wr (some f)
 md:MadeL w.heap.size v l wr
 rt:zak l=true
 ln:l.length≤s'.sts
def KRel (F:PC) (B f:Nat) (N:Nat) (all:PR (List RS)) (w:World) (v:Value) (wr:World):Prop:=∃(n:Nat) (s':PS) (l:List ST),KInv F B f N all w wr v n s' l
theorem lenV_made {B0:Nat} {v:Value} {l:List ST} {w:World} (h:MadeL B0 v l w):lenV v=l.length:=by
 obtain⟨a,c,e,-⟩:=h.ss
 rw[e];rfl
theorem zd7 (l:List ST) (S:ST):rss (l++[S])=rss l++[S.rs]:=by
 induction l with
 | nil=>simp[rss]
 | cons a l ih=>simp[rss,ih]
theorem zdm {l:List ST} {S:ST} (h1:zak l=true) (h2:S.rightB=true):zak (l++[S])=true:=by
 induction l with
 | nil=>simp[zak,h2]
 | cons a l ih =>
  simp only[zak,Bool.and_eq_true] at h1
  simp[zak,h1.1,ih h1.2]
section
variable {F:PC} {B f:Nat} {s:PS} {w:World}
theorem block_any (N:Nat) (hm:∀k,k < N→RuleS F B f (stmt F.z k)) (h:Pa F B f s w) (hfin:Fin (block F.z N [] s)):
  Calls Tryz.prog 123 #[ptrP f] w (QPost F B f CSs (block F.z N [] s) w):=by
 have HM:=hid hm
 have HFIN:=hid hfin
 have HLT:=hid h.lt
 have HLE:=hid h.le
 have HS0:Hid (KRel F B f N (block F.z N [] s) w (.slice none 0 0) w):=hid ⟨N,s,[],⟨Nat.le_refl _,rfl,h,zaf w _,made_nil _ _,by simp[zak],Nat.zero_le _⟩⟩
 obtain⟨ei,hi,hz0,hz1,hz2⟩:=info_parts zdp
 clear hm hfin h
 go_enter Tryz.func123,Tryz.ntmps123
 go_wp2
 go_loopw [2] (fun v wr=>KRel F B f N (block F.z N [] s) w v wr) (fun v wr=>400 - lenV v)
 case atStart=>exact HS0.out
 case round =>
  clear HS0
  obtain⟨n1,s',l,hI⟩:=hrel
  have HNL:=hid hI.le
  have HTL:=hid hI.tl
  have HP1:=hid hI.pa
  have HG1:=hid hI.gr
  have HMD:=hid hI.md
  have HRT:=hid hI.rt
  have HLN:=hid hI.ln
  have HLV:=hid (lenV_made hI.md)
  clear hI
  obtain⟨n2,rfl⟩:∃n2,n1=n2+1:=by
   cases n1 with
   | zero=>exact absurd (by rw[←HTL.out,block]) (HFIN.out s')
   | succ n2=>exact⟨n2,rfl⟩
  rcases hat:at' F.z [125] s' with _ | _
  ·by_cases h4:s'.sts=400
   ·have HTT:Hid (block F.z (n2+1) (rss l) s'=.bad 5 s'):=hid (by rw[block,if_neg (by simp[hat]),if_pos h4])
    have HAT:=hid hat
    have H4:=hid h4
    clear hat h4
    go_wp2_with (go_at_call 174;refine(zaD HP1.out {data:=#[125]} [125] rfl _ HAT.out).mono ?_;rintro e w2 ⟨rfl,hb⟩;have HP2:=hid (HP1.out.on hb);have HG2:=hid (zaa HG1.out (zae hb (some f)));have c3:=HP2.out.c3;rw[H4.out] at c3;have flt:=HP2.out.flt;clear hb)
    exact⟨rfl,QPost.wrong (by rw[←HTL.out,HTT.out]) HP2.out HG2.out⟩
   ·have HTT:Hid (block F.z (n2+1) (rss l) s'=(stmt F.z n2 {s' with sts:=s'.sts+1}).bind fun r s1=>block F.z n2 (rss l++[r]) s1):=hid (by rw[block,if_neg (by simp[hat]),if_neg h4])
    have HAT:=hid hat
    have H4:Hid (s'.sts+1≤400):=hid (by have:=HP1.out.sts;omega)
    have h4b:((s'.sts:Int)==400)=false:=by simp;omega
    have h4c:(s'.sts:Int) < 400:=by have:=H4.out;omega
    have HFI:Hid (Fin (stmt F.z n2 {s' with sts:=s'.sts+1})):=hid (by have:=HFIN.out;rw[←HTL.out,HTT.out] at this;exact this.fst)
    clear hat h4
    go_wp2_with (first
     | (at_builtin;refine wpList_append_own_at _ rfl _ _ 45 rfl w.heap.size 66 ei _ 7 120 Tryz.underlying45 hi hz0 hz1 hz2 rfl (by decide) _ l.length _ rfl (HMD4.out.1.alloc _) ⟨w4.heap.size,0,none⟩ 1 1 (seven S).toList rfl rfl (World.news_of_block (zaj w4 (.cells (seven S) 66))) (seven_one S) (by have h1:=HLN.out;have h2:=H4.out;unfold maxLen;omega) (by have h1:=HLN.out;have h2:=H4.out;omega) (by have:=HG4.out.size;simp;omega) ?_;intro v' w5 hown hgrow hnil hat;have HO5:=hid (And.intro hown (And.intro hgrow hat));clear hown hgrow hnil hat)
     | (go_at_call 182;have HP3:Hid (Pa F B f {s' with sts:=s'.sts+1} (w2.setCell ⟨f,3,none⟩ (.int .i64 ((s'.sts:Int)+1)))):=hid (HP2.out.one (s':={s' with sts:=s'.sts+1}) 3 (.int .i64 ((s'.sts:Int)+1)) rfl rfl H4.out HP2.out.op HP2.out.mo);have HG3:=hid (zat HG2.out 3 (.int .i64 ((s'.sts:Int)+1)));have HMD3:=hid (HMD2.out.grown (zaZ w2 f 3 (.int .i64 ((s'.sts:Int)+1))) (by have:=HLT.out;have:=HLE.out;omega));refine(HM.out n2 (by have:=HNL.out;omega) _ _ HP3.out HFI.out).mono ?_;intro e w4 hq;rcases hq.split with ⟨a,s4,v4,hr,rfl,hC,hp,hg⟩ | ⟨k,s9,hr,rfl,hp,hg⟩;rotate_left;(exact⟨rfl,QPost.wrong (by rw[←HTL.out,HTT.out,hr];rfl) hp (zaa HG3.out hg)⟩);obtain⟨S,hv,hT⟩:=hC;rw[st_val] at hv;subst hv;have HT:=hid hT;have HE4:=hid hr;have HP4:=hid hp;have HG4:=hid (zaa HG3.out hg);have HMD4:=hid (HMD3.out.grown hg (by have:=HLT.out;have:=HLE.out;omega));clear hr hp hg hq hT)
     | (go_at_call 174;refine(zaD HP1.out {data:=#[125]} [125] rfl _ HAT.out).mono ?_;rintro e w2 ⟨rfl,hb⟩;have HP2:=hid (HP1.out.on hb);have HG2:=hid (zaa HG1.out (zae hb (some f)));have HMD2:=hid (HMD.out.grown (zae hb (some f)) (by have:=HLT.out;have:=HLE.out;omega));have c3:=HP2.out.c3;have fr3:=HP2.out.fr 3;have flt:=HP2.out.flt;clear hb))
    obtain⟨o1,o2,o3⟩:=HO5.out
    have hle:=HLE.out
    have hlt:=HLT.out
    obtain⟨t1,t2,t3⟩:=HT.out
    have t3:S.In w4 w2.heap.size:=by simpa using t3
    have hp5:Pa F B f s4 w5:=(HP4.out.alloc _).grownR (fun R hR=>by have:=(HMD4.out.1.lt _ hR).1;omega) o2
    have ho5:=o1
    rw[show(seven S)=S.cells from(seven_is S).symm] at ho5
    have HMD5:=hid ((HMD4.out.alloc _).snoc (S:=S) (A:=w2.heap.size) (t3.on ((Below.refl _ _).alloc (Nat.le_refl _) _)) (by have:=HG2.out.size;omega) (fun k hk=>(HMD2.out.1.lt _ hk).2) ho5 o2 o3)
    have HL5:Hid (l.length+1≤s4.sts):=hid (by have h1:=((kr_stmts F.z n2).2.2.1 _ _ _ HE4.out).2.2;have h2:=HLN.out;simp only at h1;omega)
    go_roundw
    case rel =>
     refine⟨n2,s4,l++[S],⟨by have:=HNL.out;omega,by rw[←HTL.out,HTT.out,HE4.out];show block F.z n2 (rss (l++[S])) s4=block F.z n2 (rss l++[a]) s4;rw[zd7,t1],hp5,?_,HMD5.out,zdm HRT.out t2,by simpa using HL5.out⟩⟩
     exact zdv (zad HG4.out _) o2 (fun k hk=>(HMD4.out.1.lt _ hk).1)
    case measure =>
     rw[lenV_made HMD5.out,HLV.out]
     have h1:=HL5.out
     have h2:=hp5.sts
     simp
     omega
  ·have HTT:Hid (block F.z (n2+1) (rss l) s'=.ok (rss l) s'):=hid (by rw[block,if_pos hat])
   have HAT:=hid hat
   clear hat
   go_wp2_with (go_at_call 174;refine(zaD HP1.out {data:=#[125]} [125] rfl _ HAT.out).mono ?_;rintro e w2 ⟨rfl,hb⟩;have HB2:=hid hb;clear hb)
   go_ret
   obtain⟨a,c,e,he,-⟩:=HMD.out.ss
   have h1:=HLN.out
   have h2:=HP1.out.sts
   refine QPost.good (by rw[←HTL.out,HTT.out]) ⟨a,c,l,e,rfl,HRT.out,he.on HB2.out,by omega⟩ (HP1.out.on HB2.out) (zaa HG1.out (zae HB2.out _))
end
end Go.Proofs.YtljbbhhiiiepcaaGreatDoor.Pm
namespace Go.Proofs.YtljbbhhiiiepcaaGreatDoor.Pm
open Go Go.RowKit Go.Proofs.YtljbbhhiiiepcaaGreatDoor
open Go.Lib (hid)
theorem CSs.on {P:Nat→Prop} {r:List RS} {v:Value} {A A':Nat} {w1 w2:World} (h:CSs r v A w1) (hk:KeptP P w1 w2) (hP:∀b,A≤b→¬P b) (hA:A'≤A):CSs r v A' w2:=by
 obtain⟨a,c,l,e,h1,h2,h3,h4⟩:=h
 exact⟨a,c,l,e,h1,h2,(h3.keep fun p u hp hc=>hk.cell (hP _ hp) hc).mono hA,h4⟩
section
variable {F:PC} {B f:Nat} {s:PS} {w:World}
theorem withinSs_any (N:Nat) (hm:∀k,k < N→RuleS F B f (stmt F.z k)) (h:Pa F B f s w) (hfin:Fin (zap F.z [123] (block F.z N []) [125] s)):
  Calls Tryz.prog 283 #[ptrP f,.string {data:=#[123]},.func (.func 123) #[] #[],.string {data:=#[125]}] w (QPost F B f CSs (zap F.z [123] (block F.z N []) [125] s) w):=by
 have HP0:=hid h
 have HM:=hid hm
 have HFIN:=hid hfin
 have HFL:=hid h.flt
 clear h hm hfin
 go_enter Tryz.func283,Tryz.ntmps283
 go_wp2_with (first
  | (go_at_call 119;refine(zaJ HP2.out {data:=#[125]} [125] rfl (by simp) (fun _=>HOP.out)).mono ?_;intro e w3 hq;rcases hq.split with ⟨a,s3,v,hr,rfl,hC,hp,hg⟩ | ⟨k,s',hr,rfl,hp,hg⟩;rotate_left;(exact⟨rfl,QPost.wrong (by unfold zap;rw[HE1.out];show(block F.z N [] s1).bind _=_;rw[HE2.out];show(take F.z [125] s2).bind _=_;rw[hr];rfl) hp (zaa HG2.out hg)⟩);obtain rfl:v=.tuple #[]:=hC;have HE3:=hid hr;have HP3:=hid hp;have HG3:=hid (zaa HG2.out hg);have HK3:=hid ((KeptP.refl (fun b=>b=f) w2).grown rfl hg);clear hr hp hg hq)
  | (go_at_call 123;refine(block_any N HM.out HP1.out ((HFIN.out.snd HE1.out).fst)).mono ?_;intro e w2 hq;rcases hq.split with ⟨q,s2,v,hr,rfl,hC,hp,hg⟩ | ⟨k,s',hr,rfl,hp,hg⟩;rotate_left;(exact⟨rfl,QPost.wrong (by unfold zap;rw[HE1.out];show(block F.z N [] s1).bind _=_;rw[hr];rfl) hp (zaa HG1.out hg)⟩);obtain⟨ea,ec,l,hv,hC⟩:=hC;subst hv;have HC:=hid hC;have HE2:=hid hr;have HP2:=hid hp;have HG2:=hid (zaa HG1.out hg);have HOP:Hid (0 < s2.op):=hid (by have:=((kr_stmts F.z N).2.2.2 _ _ _ _ hr).2.1;have:=(zbr HE1.out rfl).2;omega);clear hr hp hg hq hC)
  | (go_at_call 119;refine(zaJ HP0.out {data:=#[123]} [123] rfl (by simp) (fun e=>by cases e)).mono ?_;intro e w1 hq;rcases hq.split with ⟨a,s1,v,hr,rfl,hC,hp,hg⟩ | ⟨k,s',hr,rfl,hp,hg⟩;rotate_left;(exact⟨rfl,QPost.wrong (by unfold zap;rw[hr];rfl) hp hg⟩);obtain rfl:v=.tuple #[]:=hC;have HE1:=hid hr;have HP1:=hid hp;have HG1:=hid hg;clear hr hp hg hq))
 go_ret
 have hC:CSs q (.slice ea l.length ec) w1.heap.size w2:=⟨ea,ec,l,rfl,HC.out⟩
 exact QPost.good (by unfold zap;rw[HE1.out];show(block F.z N [] s1).bind _=_;rw[HE2.out];show(take F.z [125] s2).bind _=_;rw[HE3.out];rfl) (hC.on HK3.out (fun b hb e=>by have h1:=HFL.out;have h2:=HG1.out.size;omega) HG1.out.size) HP3.out HG3.out
theorem zbU (N:Nat) (hm:∀k,k < N→RuleS F B f (stmt F.z k)) (h:Pa F B f s w) (hfin:Fin (zap F.z [123] (block F.z N []) [125] s)):
  Calls Tryz.prog 263 #[ptrP f] w (QPost F B f CSs (zap F.z [123] (block F.z N []) [125] s) w):=by
 have HX:=hid (withinSs_any N hm h hfin)
 clear h hm hfin
 go_enter Tryz.func263,Tryz.ntmps263
 go_wp2_with (go_at_call 283;refine HX.out.mono ?_;intro e w1 hq;rcases hq.split with ⟨a,s1,v,hr,rfl,hC,hp,hg⟩ | ⟨k,s',hr,rfl,hp,hg⟩;rotate_left;(exact⟨rfl,QPost.wrong hr hp hg⟩);obtain⟨ea,ec,l,hv,hC⟩:=hC;subst hv;have HQ:=hid (And.intro hr (And.intro hp (And.intro hg hC)));clear hr hp hg hq hC)
 go_ret
 obtain⟨hr,hp,hg,hC⟩:=HQ.out
 exact QPost.good hr ⟨ea,ec,l,rfl,hC⟩ hp hg
def zcF (t:List UInt8):Nat:=
 if t==kIf then 224
 else if t==kWhile then 225
 else if t==kBreak then 226
 else if t==zb3 then 227
 else if t==zdq then 228
 else if t==zdr then 229
 else 230
theorem bs_eq (t l:List UInt8):((bs t).toList==l)=(t==l):=by
 rw[ByteArray.toList_eq]
 simp[bs]
theorem rule_any (h:Pa F B f s w):Calls Tryz.prog 212 #[ptrP f] w fun e w'=>e=.returned (.func (.func (zcF (cur F.z s).text)) #[] #[])∧Below w.heap.size w w':=by
 have HX:=hid (za3 h)
 have hfd:=zbK
 clear h
 generalize cur F.z s=T at HX ⊢
 have q1:((bs T.text).toList==[105,102])=(T.text==kIf):=bs_eq T.text _
 have q2:((bs T.text).toList==[119,104,105,108,101])=(T.text==kWhile):=bs_eq T.text _
 have q3:((bs T.text).toList==[98,114,101,97,107])=(T.text==kBreak):=bs_eq T.text _
 have q4:((bs T.text).toList==[99,111,110,116,105,110,117,101])=(T.text==zb3):=bs_eq T.text _
 have q5:((bs T.text).toList==[114,101,116,117,114,110])=(T.text==zdq):=bs_eq T.text _
 have q6:((bs T.text).toList==[97,115,115,101,114,116])=(T.text==zdr):=bs_eq T.text _
 rcases e1:(T.text==kIf) with _ | _
 ·rcases e2:(T.text==kWhile) with _ | _
  ·rcases e3:(T.text==kBreak) with _ | _
   ·rcases e4:(T.text==zb3) with _ | _
    ·rcases e5:(T.text==zdq) with _ | _
     ·rcases e6:(T.text==zdr) with _ | _
      ·have HK:Hid (zcF T.text=230):=hid (by unfold zcF;simp[e1,e2,e3,e4,e5,e6])
       rw[e1] at q1;rw[e2] at q2;rw[e3] at q3;rw[e4] at q4;rw[e5] at q5;rw[e6] at q6
       clear e1 e2 e3 e4 e5 e6
       go_enter Tryz.func212,Tryz.ntmps212
       go_wp2_with (go_at_call 117;refine HX.out.mono ?_;rintro e w1 ⟨rfl,hb⟩;have HB:=hid hb;clear hb)
       go_ret
       exact⟨by rw[HK.out];rfl,HB.out⟩
      ·have HK:Hid (zcF T.text=229):=hid (by unfold zcF;simp[e1,e2,e3,e4,e5,e6])
       rw[e1] at q1;rw[e2] at q2;rw[e3] at q3;rw[e4] at q4;rw[e5] at q5;rw[e6] at q6
       clear e1 e2 e3 e4 e5 e6
       go_enter Tryz.func212,Tryz.ntmps212
       go_wp2_with (go_at_call 117;refine HX.out.mono ?_;rintro e w1 ⟨rfl,hb⟩;have HB:=hid hb;clear hb)
       go_ret
       exact⟨by rw[HK.out];rfl,HB.out⟩
     ·have HK:Hid (zcF T.text=228):=hid (by unfold zcF;simp[e1,e2,e3,e4,e5])
      rw[e1] at q1;rw[e2] at q2;rw[e3] at q3;rw[e4] at q4;rw[e5] at q5
      clear e1 e2 e3 e4 e5 q6
      go_enter Tryz.func212,Tryz.ntmps212
      go_wp2_with (go_at_call 117;refine HX.out.mono ?_;rintro e w1 ⟨rfl,hb⟩;have HB:=hid hb;clear hb)
      go_ret
      exact⟨by rw[HK.out];rfl,HB.out⟩
    ·have HK:Hid (zcF T.text=227):=hid (by unfold zcF;simp[e1,e2,e3,e4])
     rw[e1] at q1;rw[e2] at q2;rw[e3] at q3;rw[e4] at q4
     clear e1 e2 e3 e4 q5 q6
     go_enter Tryz.func212,Tryz.ntmps212
     go_wp2_with (go_at_call 117;refine HX.out.mono ?_;rintro e w1 ⟨rfl,hb⟩;have HB:=hid hb;clear hb)
     go_ret
     exact⟨by rw[HK.out];rfl,HB.out⟩
   ·have HK:Hid (zcF T.text=226):=hid (by unfold zcF;simp[e1,e2,e3])
    rw[e1] at q1;rw[e2] at q2;rw[e3] at q3
    clear e1 e2 e3 q4 q5 q6
    go_enter Tryz.func212,Tryz.ntmps212
    go_wp2_with (go_at_call 117;refine HX.out.mono ?_;rintro e w1 ⟨rfl,hb⟩;have HB:=hid hb;clear hb)
    go_ret
    exact⟨by rw[HK.out];rfl,HB.out⟩
  ·have HK:Hid (zcF T.text=225):=hid (by unfold zcF;simp[e1,e2])
   rw[e1] at q1;rw[e2] at q2
   clear e1 e2 q3 q4 q5 q6
   go_enter Tryz.func212,Tryz.ntmps212
   go_wp2_with (go_at_call 117;refine HX.out.mono ?_;rintro e w1 ⟨rfl,hb⟩;have HB:=hid hb;clear hb)
   go_ret
   exact⟨by rw[HK.out];rfl,HB.out⟩
 ·have HK:Hid (zcF T.text=224):=hid (by unfold zcF;simp[e1])
  rw[e1] at q1
  clear e1 q2 q3 q4 q5 q6
  go_enter Tryz.func212,Tryz.ntmps212
  go_wp2_with (go_at_call 117;refine HX.out.mono ?_;rintro e w1 ⟨rfl,hb⟩;have HB:=hid hb;clear hb)
  go_ret
  exact⟨by rw[HK.out];rfl,HB.out⟩
end
end Go.Proofs.YtljbbhhiiiepcaaGreatDoor.Pm
namespace Go.Proofs.YtljbbhhiiiepcaaGreatDoor.Pm
open Go Go.RowKit Go.Proofs.YtljbbhhiiiepcaaGreatDoor
open Go.Lib (hid)
theorem ss_move {P:Nat→Prop} {a:Option Addr} {j:Nat} {l:List ST} {wa wb:World} {A A':Nat} (hk:KeptP P wa wb) (hP:∀b,A≤b→¬P b) (hA:A'≤A) (h:SsIn wa A a j l):SsIn wb A' a j l:=(h.keep fun p v hp hc=>hk.cell (hP _ hp) hc).mono hA
theorem cs_whl {N:Nat} {T:ET} {c:RE} {ea:Option Addr} {ec:Nat} {l:List ST} {b:List RS} {A:Nat} {w':World} (h1:T.re=c) (h2:T.rightB=true) (h3:EsIn w' A (some ⟨N,0,none⟩) 0 [T]) (g1:rss l=b) (g2:zak l=true) (g3:SsIn w' A ea 0 l) (g4:l.length≤200000):
  CS (.whl 0 c b) (.agg #[.int .i64 5,.int .i64 0,.string ⟨#[]⟩,.string ⟨#[]⟩,.slice (some ⟨N,0,none⟩) 1 1,.slice ea l.length ec,.slice none 0 0]) A w':=by
 refine⟨.mk 5 0 ⟨#[]⟩ ⟨#[]⟩ (some ⟨N,0,none⟩) 1 [T] ea ec l none 0 [],rfl,by rw[ST.rs];show RS.whl 0 T.re (rss l)=_;rw[h1,g1],by simp[ST.rightB,zaO,zaU,zam,zak,nmB,zbg,h2,g2],?_⟩
 rw[ST.In]
 exact⟨by decide,⟨by simp,by omega,by simp⟩,h3,g3,by rw[SsIn];trivial⟩
theorem cs_ife {N:Nat} {T:ET} {c:RE} {ea:Option Addr} {ec:Nat} {l:List ST} {b:List RS} {la:Option Addr} {lc:Nat} {q:List ST} {d:List RS} {A:Nat} {w':World} (h1:T.re=c) (h2:T.rightB=true) (h3:EsIn w' A (some ⟨N,0,none⟩) 0 [T]) (g1:rss l=b) (g2:zak l=true) (g3:SsIn w' A ea 0 l) (g4:l.length≤200000) (k1:rss q=d) (k2:zak q=true) (k3:SsIn w' A la 0 q) (k4:q.length≤200000):
  CS (.ife 0 c b d) (.agg #[.int .i64 4,.int .i64 0,.string ⟨#[]⟩,.string ⟨#[]⟩,.slice (some ⟨N,0,none⟩) 1 1,.slice ea l.length ec,.slice la q.length lc]) A w':=by
 refine⟨.mk 4 0 ⟨#[]⟩ ⟨#[]⟩ (some ⟨N,0,none⟩) 1 [T] ea ec l la lc q,rfl,by rw[ST.rs];show RS.ife 0 T.re (rss l) (rss q)=_;rw[h1,g1,k1],by simp[ST.rightB,zaO,zaU,zam,zak,nmB,zbg,h2,g2,k2],?_⟩
 rw[ST.In]
 exact⟨by decide,⟨by simp,by omega,by omega⟩,h3,g3,k3⟩
section
variable {F:PC} {B f:Nat} {s:PS} {w:World}
theorem loop_any (h:Pa F B f s w) (m:Nat) (hm:∀k,k < m→RuleS F B f (stmt F.z k)) (hfin:Fin (loop F.z (m+1) s)):Calls Tryz.prog 225 #[ptrP f] w (QPost F B f CS (loop F.z (m+1) s) w):=by
 obtain⟨HP0,HG0,HRr0⟩:=zby h
 have HLT:=hid h.lt
 have HLE:=hid h.le
 have HFU:=hfin
 rw[loop] at HFU
 have HFIN:=hid HFU
 have HM:=hid hm
 clear h HFU hfin hm
 go_enter Tryz.func225,Tryz.ntmps225
 go_wp2_with (first
  | (go_at_call 263;refine(zbU m HM.out HP1.out ((HFIN.out.snd HE1.out).fst)).mono ?_;intro e w2 hq;rcases hq.split with ⟨a2,s2,v2,hr,rfl,hC,hp,hg⟩ | ⟨n,s',hr,rfl,hp,hg⟩;rotate_left;(exact⟨rfl,QPost.wrong (by rw[loop,HE1.out];show(zap _ _ _ _ _).bind _=_;rw[hr];rfl) hp (zaa HG1.out hg)⟩);have HE2:=hid hr;have HP2:=hid hp;obtain⟨ea2,ec2,l2,hv,hT⟩:=hC;subst hv;have HT2:=hid hT;have HG2:Hid (w.grownBy w2 (some f)):=hid (zaa HG1.out hg);have HS2:=hid hg.size;have hrr:=(hg.block w.heap.size (lt_of_block HRr1.out) (by have h0:=HLT.out;have h1:=HLE.out;have h2:=HP0.out.le;simp;omega)).trans HRr1.out;have HRr2:=hid hrr;clear ry rx0 rx1 rx2 rx3 rx4 rx5 rx6 rl;obtain⟨ry,rx0,rx1,rx2,rx3,rx4,rx5,rx6,rl⟩:=zax hrr;clear hrr;have HK1_2:=hid (HK1_1.out.grown (Or.inl rfl) hg);have HK2_2:=hid (KeptP.refl (Two f w.heap.size) w2);clear hg hr hp hq hT)
  | (go_at_call 262;refine(zc9 HP0.out m {data:=#[119,104,105,108,101]} kWhile rfl (by decide) (by decide) HFIN.out.fst).mono ?_;intro e w1 hq;rcases hq.split with ⟨a1,s1,v1,hr,rfl,hC,hp,hg⟩ | ⟨n,s',hr,rfl,hp,hg⟩;rotate_left;(exact⟨rfl,QPost.wrong (by rw[loop,hr];rfl) hp (zaa HG0.out hg)⟩);have HE1:=hid hr;have HP1:=hid hp;obtain⟨N1,T1,hv,hT⟩:=hC;subst hv;have HT1:=hid hT;have HG1:Hid (w.grownBy w1 (some f)):=hid (zaa HG0.out hg);have HS1:=hid hg.size;have hrr:=(hg.block w.heap.size (lt_of_block HRr0.out) (by have h0:=HLT.out;have h1:=HLE.out;have h2:=HP0.out.le;simp;omega)).trans HRr0.out;have HRr1:=hid hrr;obtain⟨ry,rx0,rx1,rx2,rx3,rx4,rx5,rx6,rl⟩:=zax hrr;clear hrr;have HK1_1:=hid (KeptP.refl (Two f w.heap.size) w1);clear hg hr hp hq hT))
 have hle:=HLE.out
 have hlt:=HLT.out
 have hr1:=lt_of_block HRr1.out
 obtain⟨t1,t2,t3⟩:=HT1.out
 obtain⟨u1,u2,u3,u4⟩:=HT2.out
 refine bodyPost_ret (v:=.agg #[.int .i64 5,.int .i64 0,.string ⟨#[]⟩,.string ⟨#[]⟩,.slice (some ⟨N1,0,none⟩) 1 1,.slice ea2 l2.length ec2,.slice none 0 0]) (by simp[results,Tryz.results225,go_sem, *]) rfl (QPost.good (by rw[loop,HE1.out];show(zap _ _ _ _ _).bind _=_;rw[HE2.out];rfl) (cs_whl t1 t2 (zd0 (P:=Two f w.heap.size) (wa:=w1) (A:=w.heap.size+1) ?_ (zbj (by omega) (by omega)) (Nat.le_succ _) (by simpa using t3)) u1 u2 (ss_move (P:=Two f w.heap.size) (wa:=w2) (A:=w1.heap.size) ?_ (zbj (by omega) hr1) (Nat.le_of_lt hr1) u3) u4) ?_ ?_)
 ·repeat (first | with_reducible exact HK1_2.out | (with_reducible refine KeptP.set ?_ (Or.inr rfl) _ _))
 ·repeat (first | with_reducible exact HK2_2.out | (with_reducible refine KeptP.set ?_ (Or.inr rfl) _ _))
 ·repeat (first | with_reducible exact HP2.out | (with_reducible refine Pa.far ?_ hle _ _) | (with_reducible refine Pa.alloc ?_ _))
 ·repeat (first | with_reducible exact HG2.out | (with_reducible refine zag ?_ (Nat.le_refl _) _ _) | (with_reducible refine zad ?_ _))
end
end Go.Proofs.YtljbbhhiiiepcaaGreatDoor.Pm
