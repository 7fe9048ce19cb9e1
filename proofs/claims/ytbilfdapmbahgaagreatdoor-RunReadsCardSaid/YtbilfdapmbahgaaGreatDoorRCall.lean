/- What a Call does, given what functions do. -/
import Derived.Test.YtbilfdapmbahgaaGreatDoorRRun
import Derived.Test.YtbilfdapmbahgaaGreatDoorTFeedS
import Derived.Test.YtbilfdapmbahgaaGreatDoorKTags
import Derived.Deep.RegionHeld
set_option linter.unusedSimpArgs false
set_option linter.unusedVariables false
set_option maxHeartbeats 8000000
set_option maxRecDepth 100000
namespace Go.Proofs.YtbilfdapmbahgaaGreatDoor.Rn
open Go Go.RowKit Go.Proofs.YtbilfdapmbahgaaGreatDoor Go.Proofs.YtbilfdapmbahgaaGreatDoor.Ev
open Go.Lib (hid)
section
variable {C:Cx} {wt:WtP} {ws:World} {X:Fx} {fp:Nat→Prop} {f:Fr} {s:MS} {w:World}
theorem RQ.up {fp1:Nat→Prop} {w1 w':World} {o:Out} {e:Ending} (hg:Gone X fp fp1 w w1) (hB:X.B0≤w.heap.size) (h:RQ C wt ws X fp1 w1 o e w'):RQ C wt ws X fp w o e w':=by
 cases o with
 | go k f s=>obtain⟨rfl,fp',h1,h2⟩:=h;exact⟨rfl,fp',h1,hg.trans h2 hB⟩
 | trap t s=>obtain⟨rfl,fp',h1,h2⟩:=h;exact⟨rfl,fp',h1,hg.trans h2 hB⟩
theorem branch_yes (W:Wat C ws wt) (h:FS C wt ws X fp f s w) {T:ET} {kb ko ec nb no:Nat} (h4:ws.cell? ⟨nb,no+4,none⟩=some (.slice (some ⟨kb,ko,none⟩) 1 ec)) (hrow:RowAt ws 0 (some ⟨kb,ko,none⟩) 0 5 T.cells) (hin:T.In ws 0) (hr:T.rightB=true) (h0:(evE f.L T.re).2=0) (h1:(evE f.L T.re).1≠0) {v:Value} (h8:ws.cell? ⟨nb,no+8,none⟩=some v) {oo:Out} (hrun:∀W2,FS C wt ws X fp f s W2→Calls Tryz.prog 94 #[ptr X.Fb,v] W2 (RQ C wt ws X fp W2 oo)):
  Calls Tryz.prog 144 #[ptr X.Fb,nptr nb no] w (RQ C wt ws X fp w oo):=by
 have HH:=hid (zd5 h h4 hrow hin hr h0)
 rw[show((evE f.L T.re).1 != 0)=true by simpa using h1] at HH
 have HS:=hid h
 have HB:=hid h.size
 have HR:=hid hrun
 have H8:=hid h8
 clear h h4 hrow hin hr h0 h1 hrun h8
 match oo with
 | .go k f2 s2 =>
  go_enter Tryz.func144,Tryz.ntmps144
  go_wp2_with (first
   | (go_at_call 94;(with_reducible refine(HR.out _ HS1.out).mono ?_);rintro e w2 ⟨rfl,hq⟩;have HQ:=hid hq;clear hq)
   | (go_at_call 201;refine HH.out.mono ?_;rintro e w1 ⟨rfl,hb⟩;have HS1:=hid (HS.out.on W hb);have HG1:=hid (zaI (X:=X) (fp:=fp) hb HB.out);have n8:=HS1.out.sta.cell _ _ H8.out;have nl:=World.block_lt_of_cell? _ _ n8;clear hb))
  go_ret
  exact RQ.up (o:=.go k f2 s2) HG1.out HB.out ⟨rfl,HQ.out⟩
 | .trap t s2 =>
  go_enter Tryz.func144,Tryz.ntmps144
  go_wp2_with (first
   | (go_at_call 94;(with_reducible refine(HR.out _ HS1.out).mono ?_);rintro e w2 ⟨rfl,hq⟩;exact⟨rfl,RQ.up (o:=.trap t s2) HG1.out HB.out ⟨rfl,hq⟩⟩)
   | (go_at_call 201;refine HH.out.mono ?_;rintro e w1 ⟨rfl,hb⟩;have HS1:=hid (HS.out.on W hb);have HG1:=hid (zaI (X:=X) (fp:=fp) hb HB.out);have n8:=HS1.out.sta.cell _ _ H8.out;have nl:=World.block_lt_of_cell? _ _ n8;clear hb))
theorem branch_no (W:Wat C ws wt) (h:FS C wt ws X fp f s w) {T:ET} {kb ko ec nb no:Nat} (h4:ws.cell? ⟨nb,no+4,none⟩=some (.slice (some ⟨kb,ko,none⟩) 1 ec)) (hrow:RowAt ws 0 (some ⟨kb,ko,none⟩) 0 5 T.cells) (hin:T.In ws 0) (hr:T.rightB=true) (h0:(evE f.L T.re).2=0) (h1:(evE f.L T.re).1=0) {v:Value} (h8:ws.cell? ⟨nb,no+9,none⟩=some v) {oo:Out} (hrun:∀W2,FS C wt ws X fp f s W2→Calls Tryz.prog 94 #[ptr X.Fb,v] W2 (RQ C wt ws X fp W2 oo)):
  Calls Tryz.prog 144 #[ptr X.Fb,nptr nb no] w (RQ C wt ws X fp w oo):=by
 have HH:=hid (zd5 h h4 hrow hin hr h0)
 rw[show((evE f.L T.re).1 != 0)=false by simpa using h1] at HH
 have HS:=hid h
 have HB:=hid h.size
 have HR:=hid hrun
 have H8:=hid h8
 clear h h4 hrow hin hr h0 h1 hrun h8
 match oo with
 | .go k f2 s2 =>
  go_enter Tryz.func144,Tryz.ntmps144
  go_wp2_with (first
   | (go_at_call 94;(with_reducible refine(HR.out _ HS1.out).mono ?_);rintro e w2 ⟨rfl,hq⟩;have HQ:=hid hq;clear hq)
   | (go_at_call 201;refine HH.out.mono ?_;rintro e w1 ⟨rfl,hb⟩;have HS1:=hid (HS.out.on W hb);have HG1:=hid (zaI (X:=X) (fp:=fp) hb HB.out);have n8:=HS1.out.sta.cell _ _ H8.out;have nl:=World.block_lt_of_cell? _ _ n8;clear hb))
  go_ret
  exact RQ.up (o:=.go k f2 s2) HG1.out HB.out ⟨rfl,HQ.out⟩
 | .trap t s2 =>
  go_enter Tryz.func144,Tryz.ntmps144
  go_wp2_with (first
   | (go_at_call 94;(with_reducible refine(HR.out _ HS1.out).mono ?_);rintro e w2 ⟨rfl,hq⟩;exact⟨rfl,RQ.up (o:=.trap t s2) HG1.out HB.out ⟨rfl,hq⟩⟩)
   | (go_at_call 201;refine HH.out.mono ?_;rintro e w1 ⟨rfl,hb⟩;have HS1:=hid (HS.out.on W hb);have HG1:=hid (zaI (X:=X) (fp:=fp) hb HB.out);have n8:=HS1.out.sta.cell _ _ H8.out;have nl:=World.block_lt_of_cell? _ _ n8;clear hb))
theorem branch_bad (W:Wat C ws wt) (h:FS C wt ws X fp f s w) {T:ET} {kb ko ec nb no:Nat} (h4:ws.cell? ⟨nb,no+4,none⟩=some (.slice (some ⟨kb,ko,none⟩) 1 ec)) (hrow:RowAt ws 0 (some ⟨kb,ko,none⟩) 0 5 T.cells) (hin:T.In ws 0) (hr:T.rightB=true) (h0:(evE f.L T.re).2≠0):
  Calls Tryz.prog 144 #[ptr X.Fb,nptr nb no] w (RQ C wt ws X fp w (.trap (evE f.L T.re).2 s)):=by
 have HH:=hid (holds_bad h h4 hrow hin hr h0)
 have HS:=hid h
 have HB:=hid h.size
 clear h h4 hrow hin hr h0
 go_enter Tryz.func144,Tryz.ntmps144
 go_wp2_with (go_at_call 201;refine HH.out.mono ?_;rintro e w1 ⟨rfl,hb⟩;exact⟨rfl,RQ.fall (HS.out.on W hb).hal (zaI hb HB.out)⟩)
def leftOf (fuel Mb:Nat) (w:World):Nat:=match w.cell? ⟨Mb,4,none⟩ with
 | some (.int _ n)=>fuel - n.toNat
 | _=>0
theorem FS.leftOf (h:FS C wt ws X fp f s w):leftOf C.fuel X.Mb w=s.left:=by
 obtain⟨iv,-,hb⟩:=h.mc
 have c4:w.cell? ⟨X.Mb,4,none⟩=some (.int .i64 ((C.fuel - s.left:Nat):Int)):=zab hb rfl
 have:=h.mch.left
 unfold Rn.leftOf
 rw[c4]
 simp only[Int.toNat_natCast]
 omega
theorem rndO_other {v:Nat} {f:Fr} {s:MS} {d k:Nat} {K:Fr→MS→Out} (h1:v≠1) (h3:v≠3):rndO (.go v f s) d k K=if s.left=0 then .trap 6 (stop d k s) else K f s:=by
 match v,h1,h3 with
 | 0,_,_=>rfl
 | 2,_,_=>rfl
 | v+4,_,_=>rfl
structure LopR (C:Cx) (wt:WtP) (ws:World) (X:Fx) (fp:Nat→Prop) (w wr:World) (k t:Nat) (c:RE) (b:List RS) (o:Out) (g:Nat):Prop where
 ex:∃f1 s1 fp1 g1,FS C wt ws X fp1 f1 s1 wr∧Gone X fp fp1 w wr∧2*s1.left+2≤g1∧g1≤g∧o=runG C.rf g1 X.d (.loop k t c b) f1 s1
theorem loop_of (W:Wat C ws wt) (hC:C.fuel≤1048576) {g:Nat} (hR:∀g',g' < g→RunC C wt ws g') (h:FS C wt ws X fp f s w) {T:ET} {b:List ST} {ab sa:Option Addr} {kb ko ec nb no cb k t:Nat} (h4:ws.cell? ⟨nb,no+4,none⟩=some (.slice (some ⟨kb,ko,none⟩) 1 ec)) (hrow:RowAt ws 0 (some ⟨kb,ko,none⟩) 0 5 T.cells) (hin:T.In ws 0) (hr:T.rightB=true)
  (h1:ws.cell? ⟨nb,no+1,none⟩=some (.int .i64 (t:Nat))) (h7:ws.cell? ⟨nb,no+7,none⟩=some (.int .i64 (k:Nat))) (h8:ws.cell? ⟨nb,no+8,none⟩=some (.slice ab b.length cb)) (hlot:Lot C ws ab sa 0 (k+1) b) (hk:k≤2000) (ht:t≤1000000) (hg:2*s.left+2≤g):
  Calls Tryz.prog 145 #[ptr X.Fb,nptr nb no] w (RQ C wt ws X fp w (runG C.rf g X.d (.loop k t T.re (rss b)) f s)):=by
 have HS:=hid h
 have hsz:=h.size
 have HN:=hid (And.intro h4 (And.intro hrow (And.intro hin hr)))
 have HA:=hid (And.intro h1 (And.intro h7 h8))
 have HLT:=hid hlot
 have HR:=hid hR
 have HK:=hid (And.intro hk (And.intro ht (And.intro hg hC)))
 clear h h4 hrow hin hr h1 h7 h8 hlot hR hk ht hg hC
 go_enter Tryz.func145,Tryz.ntmps145
 go_wp2
 go_loopw [4] (fun v wr=>v=.int .i64 0∧LopR C wt ws X fp w wr k t T.re (rss b) (runG C.rf g X.d (.loop k t T.re (rss b)) f s) g) (fun _ wr=>leftOf C.fuel X.Mb wr)
 case atStart=>exact⟨rfl,⟨f,s,fp,g,HS.out,Gone.refl ..,HK.out.2.2.1,Nat.le_refl _,rfl⟩⟩
 case round =>
  obtain⟨rfl,⟨f1,s1,fp1,g1,hfs,hgo,hg1,hg2,hr⟩⟩:=hrel
  obtain⟨g1,rfl⟩:∃g2,g1=g2+1:=⟨g1 - 1,by omega⟩
  rw[runG] at hr
  have HGO:=hid hgo
  have HF:=hid hfs
  by_cases h0:(evE f1.L T.re).2=0
  ·by_cases h1:(evE f1.L T.re).1=0
   ·have HH:=hid (zd5 hfs HN.out.1 HN.out.2.1 HN.out.2.2.1 HN.out.2.2.2 h0)
    rw[show((evE f1.L T.re).1 != 0)=false by simpa using h1] at HH
    have HE:Hid (runG C.rf g X.d (.loop k t T.re (rss b)) f s=.go 0 f1 s1):=hid (by rw[hr];unfold zca;rw[if_pos h0];exact if_pos h1)
    clear hr hgo hfs h0 h1 hg1 hg2
    go_wp2_with (go_at_call 201;refine HH.out.mono ?_;rintro e w1 ⟨rfl,hb⟩;have HB:=hid hb;clear hb)
    go_ret
    rw[HE.out]
    exact RQ.go (HF.out.on W HB.out) (HGO.out.trans (zaI HB.out HF.out.size) hsz)
   ·have HH:=hid (zd5 hfs HN.out.1 HN.out.2.1 HN.out.2.2.1 HN.out.2.2.2 h0)
    rw[show((evE f1.L T.re).1 != 0)=true by simpa using h1] at HH
    have hr2:runG C.rf g X.d (.loop k t T.re (rss b)) f s=rndO (runG C.rf g1 X.d (.seq (k+1) (rss b)) f1 s1) X.d k fun f' s'=>runG C.rf g1 X.d (.loop k t T.re (rss b)) f' (came X.d k t f'.L s'):=by rw[hr];unfold zca;rw[if_pos h0];exact if_neg h1
    have hd1:∀W2,FS C wt ws X fp1 f1 s1 W2→Calls Tryz.prog 94 #[ptr X.Fb,.slice ab b.length cb] W2 (RQ C wt ws X fp1 W2 (runG C.rf g1 X.d (.seq (k+1) (rss b)) f1 s1)):=fun W2 h2=>HR.out g1 (by omega) X fp1 f1 s1 W2 ab sa cb (k+1) b h2 HLT.out (by omega)
    have hm:=runG_mo C.rf g1 X.d (.seq (k+1) (rss b)) f1 s1
    generalize runG C.rf g1 X.d (.seq (k+1) (rss b)) f1 s1=oo at hr2 hd1 hm
    have HD:=hid hd1
    have HLL:=hid hfs.leftOf
    have HG:=hid (And.intro hg1 hg2)
    clear hr hgo hfs h0 h1 hd1 hg1 hg2
    cases oo with
    | trap t2 s2 =>
     have HE:Hid (runG C.rf g X.d (.loop k t T.re (rss b)) f s=.trap t2 s2):=hid hr2
     clear hr2 hm
     go_wp2_with (first | (go_at_call 94;(with_reducible refine(HD.out _ HS1.out).mono ?_);rintro e w2 ⟨rfl,fp2,h2,hg2⟩;exact⟨rfl,by rw[HE.out];exact RQ.fall h2 (HG1.out.trans hg2 hsz)⟩) | (go_at_call 201;(with_reducible refine HH.out.mono ?_);rintro e w1 ⟨rfl,hb⟩;have HS1:=hid (HF.out.on W hb);have HG1:=hid (HGO.out.trans (zaI (X:=X) (fp:=fp1) hb HF.out.size) hsz);have n8:=HS1.out.sta.cell _ _ HA.out.2.2;have nl:=World.block_lt_of_cell? _ _ n8;clear hb))
    | go v f2 s2 =>
     by_cases hv1:v=1
     ·subst hv1
      have HE:Hid (runG C.rf g X.d (.loop k t T.re (rss b)) f s=.go 0 f2 s2):=hid hr2
      clear hr2 hm
      go_wp2_with (first | (go_at_call 94;(with_reducible refine(HD.out _ HS1.out).mono ?_);rintro e w2 ⟨rfl,fp2,h2,hg2⟩;have HS2:=hid h2;have HG2:=hid (HG1.out.trans hg2 hsz);clear h2 hg2) | (go_at_call 201;(with_reducible refine HH.out.mono ?_);rintro e w1 ⟨rfl,hb⟩;have HS1:=hid (HF.out.on W hb);have HG1:=hid (HGO.out.trans (zaI (X:=X) (fp:=fp1) hb HF.out.size) hsz);have n8:=HS1.out.sta.cell _ _ HA.out.2.2;have nl:=World.block_lt_of_cell? _ _ n8;clear hb))
      go_ret
      rw[HE.out]
      exact RQ.go HS2.out HG2.out
     ·by_cases hv3:v=3
      ·subst hv3
       have HE:Hid (runG C.rf g X.d (.loop k t T.re (rss b)) f s=.go 3 f2 s2):=hid hr2
       clear hr2 hm hv1
       go_wp2_with (first | (go_at_call 94;(with_reducible refine(HD.out _ HS1.out).mono ?_);rintro e w2 ⟨rfl,fp2,h2,hg2⟩;have HS2:=hid h2;have HG2:=hid (HG1.out.trans hg2 hsz);clear h2 hg2) | (go_at_call 201;(with_reducible refine HH.out.mono ?_);rintro e w1 ⟨rfl,hb⟩;have HS1:=hid (HF.out.on W hb);have HG1:=hid (HGO.out.trans (zaI (X:=X) (fp:=fp1) hb HF.out.size) hsz);have n8:=HS1.out.sta.cell _ _ HA.out.2.2;have nl:=World.block_lt_of_cell? _ _ n8;clear hb))
       go_ret
       rw[HE.out]
       exact RQ.go HS2.out HG2.out
      ·rw[rndO_other hv1 hv3] at hr2
       have e1:((v:Int)==1)=false:=by rw[beq_eq_false_iff_ne];omega
       have e3:((v:Int)==3)=false:=by rw[beq_eq_false_iff_ne];omega
       have HM:Hid (s2.left≤s1.left):=hid hm.left
       by_cases h0:s2.left=0
       ·rw[if_pos h0] at hr2
        have HE:Hid (runG C.rf g X.d (.loop k t T.re (rss b)) f s=.trap 6 (stop X.d k s2)):=hid hr2
        have H0:=hid h0
        clear hr2 hm hv1 hv3 h0
        go_wp2_with (first | (go_at_call 150;(with_reducible refine(come_stop W HS2.out H0.out nb no k HA.out.2.1 HK.out.1).mono ?_);rintro e w3 ⟨rfl,h3,hg3⟩;exact⟨rfl,by rw[HE.out];exact RQ.fall h3 (HG2.out.trans hg3 hsz)⟩) | (go_at_call 94;(with_reducible refine(HD.out _ HS1.out).mono ?_);rintro e w2 ⟨rfl,fp2,h2,hg2⟩;have HS2:=hid h2;have HG2:=hid (HG1.out.trans hg2 hsz);clear h2 hg2) | (go_at_call 201;(with_reducible refine HH.out.mono ?_);rintro e w1 ⟨rfl,hb⟩;have HS1:=hid (HF.out.on W hb);have HG1:=hid (HGO.out.trans (zaI (X:=X) (fp:=fp1) hb HF.out.size) hsz);have n8:=HS1.out.sta.cell _ _ HA.out.2.2;have nl:=World.block_lt_of_cell? _ _ n8;clear hb))
       ·rw[if_neg h0] at hr2
        have HE:=hid hr2
        have H0:=hid h0
        clear hr2 hm hv1 hv3 h0
        go_wp2_with (first | (go_at_call 150;(with_reducible refine(come_any W HK.out.2.2.2 HS2.out H0.out nb no k t HA.out.1 HA.out.2.1 HK.out.1 HK.out.2.1).mono ?_);rintro e w3 ⟨rfl,fp3,h3,hg3⟩;have HS3:=hid h3;have HG3:=hid (HG2.out.trans hg3 hsz);clear h3 hg3) | (go_at_call 94;(with_reducible refine(HD.out _ HS1.out).mono ?_);rintro e w2 ⟨rfl,fp2,h2,hg2⟩;have HS2:=hid h2;have HG2:=hid (HG1.out.trans hg2 hsz);clear h2 hg2) | (go_at_call 201;(with_reducible refine HH.out.mono ?_);rintro e w1 ⟨rfl,hb⟩;have HS1:=hid (HF.out.on W hb);have HG1:=hid (HGO.out.trans (zaI (X:=X) (fp:=fp1) hb HF.out.size) hsz);have n8:=HS1.out.sta.cell _ _ HA.out.2.2;have nl:=World.block_lt_of_cell? _ _ n8;clear hb))
        go_round
        case rel =>
         obtain⟨a1,a2⟩:=HG.out
         have a3:=HM.out
         have a4:=H0.out
         exact⟨rfl,⟨f2,_,fp3,g1,HS3.out,HG3.out,by show 2*(s2.left - 1)+2≤g1;omega,by omega,HE.out⟩⟩
        case measure =>
         have a3:=HM.out
         have a4:=H0.out
         have a5:=HS3.out.leftOf
         have a6:=HLL.out
         have a7:(came X.d k t f2.L s2).left=s2.left - 1:=rfl
         omega
  ·have HH:=hid (holds_bad hfs HN.out.1 HN.out.2.1 HN.out.2.2.1 HN.out.2.2.2 h0)
   have HE:Hid (runG C.rf g X.d (.loop k t T.re (rss b)) f s=.trap (evE f1.L T.re).2 s1):=hid (by rw[hr];unfold zca;rw[if_neg h0])
   clear hr hgo hfs h0 hg1 hg2
   go_wp2_with (go_at_call 201;refine HH.out.mono ?_;rintro e w1 ⟨rfl,hb⟩;exact⟨rfl,by rw[HE.out];exact RQ.fall (HF.out.on W hb).hal (HGO.out.trans (zaI hb HF.out.size) hsz)⟩)
end
end Go.Proofs.YtbilfdapmbahgaaGreatDoor.Rn

namespace Go.Proofs.YtbilfdapmbahgaaGreatDoor.Rn
open Go Go.RowKit Go.Proofs.YtbilfdapmbahgaaGreatDoor Go.Proofs.YtbilfdapmbahgaaGreatDoor.Ev
open Go.Lib (hid)
theorem argsE_bad {L:List PC}:∀{l:List RE} {n:Nat} (h:n < l.length),(∀i (hi:i < n),(evE L (l[i]'(by omega))).2=0)→(evE L l[n]).2≠0→(zeB L l).2=(evE L l[n]).2
 | e :: l,0,h,_,hn=>by
  have hn':(evE L e).2≠0:=hn
  rw[zeB,if_neg hn'];rfl
 | e :: l,n+1,h,hz,hn=>by
  have h0:=hz 0 (by omega)
  rw[zeB,if_pos (by simpa using h0)]
  exact argsE_bad (l:=l) (n:=n) (by simpa using h) (fun i hi=>by have:=hz (i+1) (by omega);simpa using this) (by simpa using hn)
theorem argsE_ok {L:List PC}:∀{l:List RE},(∀i (hi:i < l.length),(evE L l[i]).2=0)→zeB L l=(l.map fun e=>(evE L e).1,0)
 | [],_=>rfl
 | e :: l,hz=>by
  have h0:=hz 0 (by simp)
  rw[zeB,if_pos (by simpa using h0),argsE_ok (l:=l) fun i hi=>by have:=hz (i+1) (by simpa using hi);simpa using this]
  rfl
theorem runG_ev (fs:List RF):∀(g d:Nat) (T:Task) (f:Fr) (s:MS),d≠1→1≤d→(runG fs g d T f s).st.ev=s.ev:=by
 intro g
 induction g with
 | zero=>intro d T f s _ _;cases T<;>rfl
 | succ g ih =>
  have hw:∀(r:Int×Int) (s0:MS) (k:Int→Out) (ev:List Vis),s0.ev=ev→(∀v,(k v).st.ev=ev)→(zca r s0 k).st.ev=ev:=by
   intro r s0 k ev h0 h
   unfold zca
   split
   ·exact h _
   ·exact h0
  intro d T f s hd h1
  have hc:∀k t L (s:MS),(came d k t L s).ev=s.ev:=fun k t L s=>by show(if d=1 then _ else _)=_;rw[if_neg hd]
  match T with
  | .seq k []=>rfl
  | .seq k (x :: l) =>
   rw[runG]
   split
   ·rfl
   ·have hdo:∀s1:MS,(doG (runG fs g) fs d k f s1 x).st.ev=s1.ev:=by
     intro s1
     cases x<;>simp only[doG]
     case asg t n e=>exact hw _ _ _ _ rfl fun v=>rfl
     case sto t n i e=>exact hw _ _ _ _ rfl fun v=>hw _ _ _ _ rfl fun v=>by split<;>rfl
     case rd t n=>rfl
     case call t n gn es =>
      split
      ·split
       ·rfl
       ·split
        ·rfl
        ·rename_i F _
         have:=ih (d+1) (.seq 0 F.body) ⟨newR F (zeB f.L es).1,0⟩ s1 (by omega) (by omega)
         generalize runG fs g (d+1) (.seq 0 F.body) ⟨newR F (zeB f.L es).1,0⟩ s1=o at this
         cases o<;>exact this
      ·rfl
     case ife t c b l=>exact hw _ _ _ _ rfl fun v=>by split<;>exact ih _ _ _ _ hd h1
     case whl t c b=>exact ih _ _ _ _ hd h1
     case brk t=>rfl
     case cnt t=>rfl
     case ret t e=>exact hw _ _ _ _ rfl fun v=>rfl
     case ass t e=>exact hw _ _ _ _ rfl fun v=>by split<;>rfl
    have h2:=(hdo (came d k x.tag f.L s)).trans (hc ..)
    generalize doG (runG fs g) fs d k f (came d k x.tag f.L s) x=o at h2
    match o,h2 with
    | .go 0 f' s',h2=>exact(ih _ _ _ _ hd h1).trans h2
    | .go (w+1) f' s',h2=>exact h2
    | .trap t s',h2=>exact h2
  | .loop k t c b =>
   rw[runG]
   refine hw _ _ _ _ rfl fun v=>?_
   split
   ·rfl
   ·have h2:=ih d (.seq (k+1) b) f s hd h1
    generalize runG fs g d (.seq (k+1) b) f s=o at h2
    cases o with
    | trap t s'=>exact h2
    | go v f' s' =>
     by_cases e1:v=1
     ·subst e1;exact h2
     ·by_cases e3:v=3
      ·subst e3;exact h2
      ·rw[rndO_other e1 e3]
       split
       ·exact h2
       ·exact(ih _ _ _ _ hd h1).trans ((hc ..).trans h2)
theorem made_many (n:Nat) (hn:n≤1000) (W:World):(Instr.makeSlice 40 (.int .i64 (n:Nat)) (.int .i64 (n:Nat))).run Tryz.prog W=.ok (.slice (some ⟨W.heap.size,0,none⟩) n n) (W.alloc (.cells (madeCells #[.int .i64 0] n) 2)):=by
 obtain⟨ei,hin,hz0,hz1,hz2⟩:=info_parts num_info
 have h:=run_make (P:=Tryz.prog) (w:=W) 40 2 ei _ Tryz.underlying40 hin hz0 .i64 .i64 (n:Nat) (n:Nat) (by omega) (by omega) (by rw[hz2];omega) (by omega)
 rw[hz1] at h
 rw[show madeCells #[Value.int .i64 0] n=madeCells (Value.int .i64 0).cells n from rfl]
 simpa using h
theorem zd6 {k:IntKind} {w W:World} {a:Option Addr} {n:Nat} {zs:List Int} (h:RowIn k w a n zs) (hp:Past w W):RowIn k W a n zs:=by
 refine⟨h.1,fun h0=>?_⟩
 obtain⟨b,o,e,hb,hc⟩:=h.2 h0
 exact⟨b,o,e,Nat.lt_of_lt_of_le hb hp.size,fun i hi=>⟨by rw[World.cell?_of_block (w:=w) (hp.block b hb)];exact(hc i hi).1,(hc i hi).2⟩⟩
structure ArgR (L:List PC) (es:List ET) (w wr:World) (n:Nat):Prop where
 below:Below w.heap.size w wr
 fine:∀i (h:i < es.length),i < n→(evE L es[i].re).2=0
 row:∃cur,wr.heap[w.heap.size]?=some (.cells cur 2 (0,0))∧cur.size=es.length∧∀i (h:i < es.length),i < n→cur[i]?=some (.int .i64 (evE L es[i].re).1)
theorem res_get {es:List ET} {i:Nat} (h:i < (res es).length):(res es)[i]=(es[i]'(by simpa[res] using h)).re:=by simp[res]
theorem res_len (es:List ET):(res es).length=es.length:=by simp[res]
theorem call_any {C:Cx} {wt:WtP} {ws:World} {X:Fx} {fp:Nat→Prop} {f:Fr} {s:MS} {w:World} (W:Wat C ws wt) (hC:CxIn C ws) {g:Nat} (hR:RunC C wt ws g) (h:FS C wt ws X fp f s w) {nm gn:ByteArray} {ea:Option Addr} {es:List ET} {ec nb no k t:Nat} (h2:ws.cell? ⟨nb,no+2,none⟩=some (.string nm)) (h3:ws.cell? ⟨nb,no+3,none⟩=some (.string gn)) (h4:ws.cell? ⟨nb,no+4,none⟩=some (.slice ea es.length ec)) (hin:EsIn ws 0 ea 0 es) (hr:zaq es=true) (hnm:nm.size≤maxLen) (hkn:C.known gn.data.toList es.length=true) (hg:2*s.left+1≤g):
  Calls Tryz.prog 143 #[ptr X.Fb,nptr nb no] w (RQ C wt ws X fp w (doG (runG C.rf g) C.rf X.d k f s (.call t nm.data.toList gn.data.toList (res es)))):=by
 have hk2:=hkn
 unfold Cx.known at hk2
 rw[decide_eq_true_eq] at hk2
 have hlen:=hk2.2
 have hmk:=fun W=>made_many es.length (by omega) W
 have HS:=hid h
 have hsz:=h.size
 have f2:=h.f2
 have fl:=h.flt
 have n4:=h.sta.cell _ _ h4
 have nl:=World.block_lt_of_cell? w _ n4
 have HIN:=hid hin
 have HRE:=hid ((zet es).1 hr)
 have HN:=hid (And.intro h2 h3)
 have HK:=hid (And.intro hk2.1 (And.intro hg hnm))
 have HRC:=hid hR
 have HCX:=hid hC
 obtain⟨tot,htot⟩:∃tot,doG (runG C.rf g) C.rf X.d k f s (.call t nm.data.toList gn.data.toList (res es))=tot:=⟨_,rfl⟩
 rw[htot]
 have HT:=hid htot
 clear h h2 h3 h4 hin hr hnm hkn hk2 hg hR hC htot
 go_enter Tryz.func143,Tryz.ntmps143
 go_wp2
 go_loopw [6,7,21] (fun _ _ i wr=>∃n:Nat,n≤es.length∧i=.int .i64 n∧ArgR f.L es w wr n) (fun _ _ i _=>es.length - (intOf i).toNat)
 case atStart=>exact⟨0,Nat.zero_le _,rfl,⟨(Below.refl _ _).alloc (Nat.le_refl _) _,fun i _ h=>by omega,⟨_,zah w _,size_madeCells _ _,fun i _ h=>by omega⟩⟩⟩
 case round =>
  clear hmk
  obtain⟨n,hn,rfl,hb,hfine,⟨cur,hcur,hcs,hcv⟩⟩:=hrel
  by_cases hlt:n < es.length
  ·obtain⟨hrow,hTin⟩:=HIN.out.nth n hlt
   have hTr:=HRE.out _ (List.getElem_mem hlt)
   rw[Nat.zero_add] at hrow
   have hrow2:=hrow
   obtain⟨kb,ko,rfl,-⟩:=hrow2
   have hfs:=HS.out.on W hb
   rw[ET.cells_is] at hrow
   obtain⟨c0,c1,c2,c3,c4,cl⟩:=zaF (hrow.keep hfs.sta.keep) (Past.refl wr)
   have hA:=zab (k:=n) hcur (Array.getElem?_eq_getElem (by omega))
   generalize cur[n]'(by omega)=vA at hA
   have HW:=hid (show _∧_∧_ from⟨hb,hfine,hcv⟩)
   have HCU:=hid (And.intro hcur hcs)
   have HLT:=hid hlt
   have hAl:=lt_of_block hcur
   by_cases ht:(evE f.L es[n].re).2=0
   ·have HRK:Hid (∀W2,Past wr W2→Calls Tryz.prog 197 #[ptr X.Fb,es[n].val] W2 fun e w'=>e=.returned (.int .i64 (evE f.L es[n].re).1)∧Below W2.heap.size W2 w'):=hid fun W2 hW2=>zbL (hfs.on W hW2) hTin hTr ht
    have HTZ:=hid ht
    rw[ET.val_is] at HRK
    have HVL:Hid ((evE f.L es[n].re).1=(evE f.L es[n].re).1):=hid rfl
    generalize hv:(evE f.L es[n].re).1=v1 at HRK HVL
    have HV1:=hid hv
    clear hb hfine hcv hrow hfs hTin hTr hcur hcs ht HVL hv
    generalize es[n].kind=k' at *
    generalize es[n].op=o' at *
    generalize es[n].n=n' at *
    generalize es[n].name=nn' at *
    generalize es[n].kaddr=ka' at *
    generalize es[n].kids.length=kl' at *
    generalize es[n].kcap=kc' at *
    go_wp2_with (go_at_call 197;(with_reducible refine(HRK.out _ ((Past.refl _).alloc _)).mono ?_);rintro e w5 ⟨rfl,hb5⟩;have r5:=(hb5.block w.heap.size (by have:=lt_of_block HCU.out.1;simp;omega)).trans (zak _ HCU.out.1);have hA5:w5.cell? ⟨w.heap.size,n,none⟩=some vA:=(by rw[World.cell?_of_block (w:=wr) (r5.trans HCU.out.1.symm)];exact hA);have fA5:=zaf (k:=n) r5;have lA5:=lt_of_block r5;have HR5:=hid r5;have HB5:=hid hb5;clear r5 hb5)
    go_round
    case rel =>
     obtain⟨hb,hfine,hcv⟩:=HW.out
     have hcs:=HCU.out.2
     have hlt:=HLT.out
     refine⟨n+1,by omega,by go_num,⟨((hb.trans ((((Below.refl _ _).alloc (Nat.le_refl _) _).trans (HB5.out.mono (by simp))).mono hb.size))).setCell (p:=⟨w.heap.size,n,none⟩) (Nat.le_refl _) _,fun i h hi=>?_,⟨_,zat (k:=n) (.int .i64 v1) HR5.out,by simpa using hcs,fun i h hi=>?_⟩⟩⟩
     ·by_cases e:i=n
      ·subst e;exact HTZ.out
      ·exact hfine i h (by omega)
     ·rw[Array.getElem?_setIfInBounds]
      by_cases e:n=i
      ·subst e;rw[if_pos rfl,if_pos (by omega)];exact congrArg (fun x=>some (Value.int .i64 x)) HV1.out.symm
      ·rw[if_neg e];exact hcv i h (by omega)
    case measure=>simp[intOf];have:=HLT.out;omega
   ·have HRK:Hid (∀W2,Past wr W2→Calls Tryz.prog 197 #[ptr X.Fb,es[n].val] W2 fun e w'=>e=.panicked [{v:=zb5 (evE f.L es[n].re).2,recovered:=false}]∧Below W2.heap.size W2 w'):=hid fun W2 hW2=>zch (hfs.on W hW2) hTin hTr ht
    have HTT:Hid (tot=.trap (evE f.L es[n].re).2 s):=hid (by
     have hx:=argsE_bad (L:=f.L) (l:=res es) (n:=n) (by rw[res_len];exact hlt) (fun i hi=>by rw[res_get];exact hfine i (by omega) hi) (by rw[res_get];exact ht)
     rw[res_get] at hx
     rw[←HT.out]
     simp only[doG]
     rw[if_neg (by rw[hx];exact ht),hx]
     rfl)
    rw[ET.val_is] at HRK
    generalize (evE f.L es[n].re).2=t1 at HRK HTT
    clear hb hfine hcv hrow hfs hTin hTr hcur hcs ht
    generalize es[n].kind=k' at *
    generalize es[n].op=o' at *
    generalize es[n].n=n' at *
    generalize es[n].name=nn' at *
    generalize es[n].kaddr=ka' at *
    generalize es[n].kids.length=kl' at *
    generalize es[n].kcap=kc' at *
    go_wp2_with (go_at_call 197;(with_reducible refine(HRK.out _ ((Past.refl _).alloc _)).mono ?_);rintro e w5 ⟨rfl,hb5⟩;exact⟨rfl,by rw[HTT.out];exact RQ.fall (HS.out.on W (HW.out.1.trans ((((Below.refl _ _).alloc (Nat.le_refl _) _).trans (hb5.mono (by simp))).mono HW.out.1.size))).hal (zaI (HW.out.1.trans ((((Below.refl _ _).alloc (Nat.le_refl _) _).trans (hb5.mono (by simp))).mono HW.out.1.size)) hsz)⟩)
  ·obtain rfl:n=es.length:=by omega
   have hfs:=HS.out.on W hb
   have hargs:zeB f.L (res es)=((res es).map fun e=>(evE f.L e).1,0):=argsE_ok fun i hi=>by rw[res_get];exact hfine i (by rw[res_len] at hi;exact hi) (by rw[res_len] at hi;exact hi)
   have HTT:Hid (tot=if X.d=40 then .trap 5 s else match C.rf[Ck.zbx C.rf gn.data.toList]? with
    | none=>.trap 7 s
    | some F=>backO nm.data.toList f (runG C.rf g (X.d+1) (.seq 0 F.body) ⟨newR F ((res es).map fun e=>(evE f.L e).1),0⟩ s)):=hid (by
     rw[←HT.out]
     simp only[doG]
     rw[hargs,if_pos rfl]
     rfl)
   have HFS:=hid hfs
   have g2:=hfs.f2
   have gl:=hfs.flt
   have HB:=hid hb
   by_cases hd:X.d=40
   ·have e0:((X.d:Int)==40)=true:=by rw[beq_iff_eq];omega
    rw[if_pos hd] at HTT
    have hdd:=hfs.dep
    clear hb hfine hcv hcur hcs hfs hargs hd
    go_wp2
    exact⟨rfl,by rw[HTT.out];exact RQ.fall HFS.out.hal (zaI HB.out hsz)⟩
   ·have e0:((X.d:Int)==40)=false:=by rw[beq_eq_false_iff_ne];omega
    rw[if_neg hd] at HTT
    have hdd:=hfs.dep
    have hfk:Ck.zbx C.rf gn.data.toList < C.l.length:=HK.out.1
    have hget:C.rf[Ck.zbx C.rf gn.data.toList]?=some C.l[Ck.zbx C.rf gn.data.toList].rf:=by
     rw[List.getElem?_map,List.getElem?_eq_getElem hfk];rfl
    rw[hget] at HTT
    have HZ:Hid (RowIn .i64 wr (some ⟨w.heap.size,0,none⟩) es.length ((res es).map fun e=>(evE f.L e).1)∧((res es).map fun e=>(evE f.L e).1).length=es.length∧∀z∈(res es).map fun e=>(evE f.L e).1,in64 z):=hid (by
     have hin64:∀z∈(res es).map fun e=>(evE f.L e).1,in64 z:=by
      intro z hz
      obtain⟨e,he,rfl⟩:=List.mem_map.1 hz
      obtain⟨T,hT,rfl⟩:=List.mem_map.1 he
      obtain⟨j,hj,rfl⟩:=List.mem_iff_getElem.1 hT
      exact ev_in hfs.env.nums _ _ (Nat.le_refl _) (HRE.out _ hT) (HIN.out.nth j hj).2
     have hlz:((res es).map fun e=>(evE f.L e).1).length=es.length:=by rw[List.length_map,res_len]
     refine⟨⟨by omega,fun _=>⟨w.heap.size,0,rfl,lt_of_block hcur,fun i hi=>?_⟩⟩,hlz,hin64⟩
     have hgd:((res es).map fun e=>(evE f.L e).1).getD i 0=(evE f.L es[i].re).1:=by
      rw[List.getD_eq_getElem?_getD,List.getElem?_eq_getElem (by omega),List.getElem_map,res_get];rfl
     rw[hgd,Nat.zero_add]
     exact⟨zab hcur (hcv i hi hi),WalkArith.wf_i64 (by have:=hin64 _ (List.mem_map.2 ⟨_,List.mem_map.2 ⟨_,List.getElem_mem hi,rfl⟩,rfl⟩);exact this)⟩)
    generalize (res es).map (fun e=>(evE f.L e).1)=zs at HTT HZ
    have hff:∀W2,Past wr W2→Calls Tryz.prog 200 #[.agg #[.slice C.fa C.l.length C.fc],.string gn] W2 fun e w'=>e=.returned (.int .i64 ((Ck.zbx C.rf gn.data.toList:Nat):Int))∧Below W2.heap.size W2 w':=by
     intro W2 hW2
     have hfd:=Ck.find_any (w0:=wr) (HCX.out.fs.keep hfs.sta.keep) C.fc gn W2 hW2
     have hv:Ck.zeP C.l gn=((Ck.zbx C.rf gn.data.toList:Nat):Int):=by
      unfold Ck.zeP
      rw[Ck.find_rf,if_pos hfk]
     rwa [hv] at hfd
    have hen:∀W2,FS C wt ws X fp f s W2→Past wr W2→Calls Tryz.prog 57 #[ptr X.Mb,.int .i64 ((Ck.zbx C.rf gn.data.toList:Nat):Int),.int .i64 ((X.d:Int)+1),.slice (some ⟨w.heap.size,0,none⟩) es.length es.length] W2 (EQ C wt ws X.Mb (X.d+1) fp W2 (runG C.rf g (X.d+1) (.seq 0 C.l[Ck.zbx C.rf gn.data.toList].rf.body) ⟨newR C.l[Ck.zbx C.rf gn.data.toList].rf zs,0⟩ s)):=by
     intro W2 h2 hP2
     have hz2:=zd6 HZ.out.1 hP2
     have hmi:MI C wt ws X.Mb fp s W2:=⟨h2.sta,h2.hid,h2.mlt,h2.mch,h2.dj.1,h2.wat,h2.num⟩
     have hx:=enter_any (d:=X.d+1) W HCX.out HRC.out hmi hfk ⟨by omega,by omega⟩ HK.out.2.1 (some ⟨w.heap.size,0,none⟩) es.length es.length zs hz2 HZ.out.2.1 HZ.out.2.2
     rw[show(((X.d+1:Nat)):Int)=(X.d:Int)+1 by omega] at hx
     exact hx
    have hev:=runG_ev C.rf g (X.d+1) (.seq 0 C.l[Ck.zbx C.rf gn.data.toList].rf.body) ⟨newR C.l[Ck.zbx C.rf gn.data.toList].rf zs,0⟩ s (by omega) (by omega)
    have hmo:=runG_mo C.rf g (X.d+1) (.seq 0 C.l[Ck.zbx C.rf gn.data.toList].rf.body) ⟨newR C.l[Ck.zbx C.rf gn.data.toList].rf zs,0⟩ s
    have HTT2:Hid (tot=backO nm.data.toList f (runG C.rf g (X.d+1) (.seq 0 C.l[Ck.zbx C.rf gn.data.toList].rf.body) ⟨newR C.l[Ck.zbx C.rf gn.data.toList].rf zs,0⟩ s)):=hid HTT.out
    generalize runG C.rf g (X.d+1) (.seq 0 C.l[Ck.zbx C.rf gn.data.toList].rf.body) ⟨newR C.l[Ck.zbx C.rf gn.data.toList].rf zs,0⟩ s=oo at HTT2 hen hev hmo
    generalize hki:Ck.zbx C.rf gn.data.toList=ki at *
    have HEN:=hid hen
    have HFF:=hid hff
    have HEV:=hid (And.intro hev hmo)
    clear HTT hb hfine hcv hcur hcs hfs hargs hd hget hff hen hev hmo
    have hsum:IntKind.i64.wrap ((X.d:Int)+1)=(X.d:Int)+1:=IntWalk.i64_in _ (by omega)
    have HP0:=hid ((Past.refl wr).drew)
    have HF0:=hid (HFS.out.drew W)
    have HG0:=hid (zbt (zaI (X:=X) (fp:=fp) HB.out hsz))
    have HC9:Hid (∀(f':Fr) (s':MS) (fp':Nat→Prop) (W2:World),FS C wt ws X fp' f' s' W2→W2.cell? ⟨X.Fb,0,none⟩=some (ptr X.Mb)∧W2.cell? ⟨X.Fb,1,none⟩=some (ptr X.E)∧W2.cell? ⟨X.Fb,2,none⟩=some (.int .i64 (X.d:Nat))∧W2.cell? ⟨X.Mb,0,none⟩=some (.slice C.fa C.l.length C.fc)∧W2.cell? ⟨nb,no+2,none⟩=some (.string nm)∧W2.cell? ⟨nb,no+3,none⟩=some (.string gn)):=hid fun f' s' fp' W2 hW=>⟨hW.f0,hW.f1,hW.f2,by obtain⟨iv,-,hb⟩:=hW.mc;exact zab hb rfl,hW.sta.cell _ _ HN.out.1,hW.sta.cell _ _ HN.out.2⟩
    have ml:=HFS.out.mlt
    have nl2:nb < wr.heap.size:=World.block_lt_of_cell? wr _ (HFS.out.sta.cell _ _ HN.out.1)
    cases oo with
    | go v f2 s2 =>
     have HSE:Hid (∀W2,in64 f2.r→FS C wt ws X fp f s2 W2→Calls Tryz.prog 196 #[ptr X.E,.string nm,.int .i64 f2.r] W2 fun e w'=>e=.returned (.bool (slot f.L nm.data.toList false 0).isSome)∧FS C wt ws X fp ⟨setV f.L nm.data.toList false 0 f2.r,f.r⟩ s2 w'∧Gone X fp fp W2 w'):=hid fun W2 hi hW2=>(set_any hW2.env.env nm HK.out.2.2 hi).mono fun e w' hq=>by
      obtain⟨a,b,c⟩:=hW2.setE W hq
      exact⟨c,a,b⟩
     go_wp2
     have HP:=HP0
     have HF:=HF0
     have HG:=HG0
     clear HP0 HF0 HG0
     go_region_held3 (fun W2=>W2.cell? ⟨X.Fb,0,none⟩=some (ptr X.Mb)∧W2.cell? ⟨X.Fb,1,none⟩=some (ptr X.E)∧W2.cell? ⟨X.Fb,2,none⟩=some (.int .i64 (X.d:Nat))∧W2.cell? ⟨X.Mb,0,none⟩=some (.slice C.fa C.l.length C.fc)∧W2.cell? ⟨nb,no+2,none⟩=some (.string nm)∧W2.cell? ⟨nb,no+3,none⟩=some (.string gn)) ((with_reducible exact HC9.out _ _ _ _ HF.out)) ((first
      | (go_at_call 196;(with_reducible refine(HSE.out _ H64.out HF.out).mono ?_);rintro e w5 ⟨rfl,h3,h4⟩;have HG2:=hid (Gone.trans HG.out h4 hsz);clear HF HG;have HF:=hid h3;have HG:=HG2;clear h3 h4 HG2)
      | (go_at_call 57;(with_reducible refine(HEN.out _ HF.out HP.out).mono ?_);rintro e w4 ⟨rfl,h64,fp3,hh,hn,ho⟩;have H64:=hid h64;have ho2:=ho.mono (Nat.le_refl _) (X':=(·=X.Mb)) (fun i _ hx=>hx.elim id (fun h=>absurd h.1 (by omega)));have HF2:=hid (HF.out.turn W ho2 hh.mch HEV.out.1 HEV.out.2.left);have HG2:=hid (Gone.trans HG.out (zdP (fp:=fp) ho2 HF.out.size) hsz);clear HF HG HP hh hn ho ho2 h64;have HF:=HF2;have HG:=HG2;clear HF2 HG2)
      | (go_at_call 200;(with_reducible refine(HFF.out _ HP.out).mono ?_);rintro e w3 ⟨rfl,hb3⟩;have HF2:=hid (HF.out.on W hb3);have HG2:=hid (Gone.trans HG.out (zaI (X:=X) (fp:=fp) hb3 HF.out.size) hsz);have HP2:=hid (HP.out.on hb3);clear HF HG HP hb3;have HF:=HF2;have HG:=HG2;have HP:=HP2;clear HF2 HG2 HP2)))
     go_wp2
     go_ret
     rw[HTT2.out]
     exact RQ.go HF.out HG.out
    | trap t2 s2 =>
     have HEN2:Hid (∀W2,FS C wt ws X fp f s W2→Past wr W2→Calls Tryz.prog 57 #[ptr X.Mb,.int .i64 (ki:Nat),.int .i64 ((X.d:Int)+1),.slice (some ⟨w.heap.size,0,none⟩) es.length es.length] W2 fun e w'=>(e=.returned (.int .i64 0)∧False)∨(e=.panicked [{v:=zb5 t2,recovered:=false}]∧Hal C wt ws X.Mb fp s2 w'∧Gone X fp fp W2 w')):=hid fun W2 h2 hP2=>(HEN.out W2 h2 hP2).mono fun e w' hq=>.inr (by
      obtain⟨he,fp3,hh,hn,ho⟩:=hq
      have ho2:=ho.mono (Nat.le_refl _) (X':=(·=X.Mb)) (fun i _ hx=>hx.elim id (fun h=>absurd h.1 (by have:=h2.dep;omega)))
      exact⟨he,(h2.turn W ho2 hh.mch HEV.out.1 HEV.out.2.left).hal,zdP (fp:=fp) ho2 h2.size⟩)
     have HZE:Hid (False→∀(W2:World) (v:Value),Calls Tryz.prog 196 #[ptr X.E,.string nm,v] W2 fun e w'=>e=.returned (.bool true)∧w'=W2):=hid fun hf=>hf.elim
     clear HEN
     go_wp2
     have HP:=HP0
     have HF:=HF0
     have HG:=HG0
     clear HP0 HF0 HG0
     go_region_held (fun W2=>W2.cell? ⟨X.Fb,0,none⟩=some (ptr X.Mb)∧W2.cell? ⟨X.Fb,1,none⟩=some (ptr X.E)∧W2.cell? ⟨X.Fb,2,none⟩=some (.int .i64 (X.d:Nat))∧W2.cell? ⟨X.Mb,0,none⟩=some (.slice C.fa C.l.length C.fc)∧W2.cell? ⟨nb,no+2,none⟩=some (.string nm)∧W2.cell? ⟨nb,no+3,none⟩=some (.string gn)) ((with_reducible exact HC9.out _ _ _ _ HF.out)) ((first
      | (go_at_call 196;(with_reducible refine(HZE.out HFL.out _ _).mono ?_);rintro e w5 ⟨rfl,rfl⟩)
      | (go_at_call 57;(with_reducible refine(HEN2.out _ HF.out HP.out).mono ?_);intro e w4 hq;rcases hq with ⟨rfl,hf⟩ | ⟨rfl,hh,hgn⟩;rotate_left;(exact⟨rfl,by rw[HTT2.out];exact RQ.fall hh (HG.out.trans hgn hsz)⟩);have HFL:=hid hf;have HF2:Hid (FS C wt ws X fp f s w4):=hid hf.elim;clear hf HF HG HP;have HF:=HF2;clear HF2)
      | (go_at_call 200;(with_reducible refine(HFF.out _ HP.out).mono ?_);rintro e w3 ⟨rfl,hb3⟩;have HF2:=hid (HF.out.on W hb3);have HG2:=hid (Gone.trans HG.out (zaI (X:=X) (fp:=fp) hb3 HF.out.size) hsz);have HP2:=hid (HP.out.on hb3);clear HF HG HP hb3;have HF:=HF2;have HG:=HG2;have HP:=HP2;clear HF2 HG2 HP2)))
     all_goals exact HFL.out.elim
end Go.Proofs.YtbilfdapmbahgaaGreatDoor.Rn
