/- Rows of numbers that came in. -/
import Derived.Test.YtbilfdapmbahgaaGreatDoorREx
import Derived.Test.YtbilfdapmbahgaaGreatDoorTRight2
import Derived.Test.YtbilfdapmbahgaaGreatDoorTStHeap
import Derived.Test.YtbilfdapmbahgaaGreatDoorRSame
import Derived.ChangeArms
import Derived.ChangeSame
import Derived.OpenShut
set_option linter.unusedSimpArgs false
set_option linter.unusedVariables false
set_option maxHeartbeats 8000000
set_option maxRecDepth 100000
namespace Go.Proofs.YtbilfdapmbahgaaGreatDoor.Rn
open Go Go.RowKit Go.Proofs.YtbilfdapmbahgaaGreatDoor Go.Proofs.YtbilfdapmbahgaaGreatDoor.Ev
open Go.Lib (hid)
open Go.Proofs.YtbilfdapmbahgaaGreatDoor.Pm (Wo)
open Go.Lib (hid)
open Go.Proofs.YtbilfdapmbahgaaGreatDoor.Ck (bal bre nb ob bl zbB PBox)
open Go.Lib (hid)
def wB (la lb:List (List Int)) (k:Nat):Bool:=decide (la.length≤lb.length)&&decide (la.take k=lb.take k)
theorem wB_zero (la lb:List (List Int)):wB la lb 0=decide (la.length≤lb.length):=by simp[wB]
theorem wB_all (la lb:List (List Int)):wB la lb la.length=zaW la lb:=by simp[wB,zaW]
theorem wB_true {la lb:List (List Int)} {k:Nat} (h:wB la lb k=true):la.length≤lb.length∧la.take k=lb.take k:=by
 unfold wB at h
 rw[Bool.and_eq_true,decide_eq_true_eq,decide_eq_true_eq] at h
 exact h
theorem wB_false {la lb:List (List Int)} {k:Nat} (hk:k≤la.length) (h:wB la lb k=false):zaW la lb=false:=by
 cases hb:zaW la lb with
 | false=>rfl
 | true =>
  unfold zaW at hb
  rw[Bool.and_eq_true,decide_eq_true_eq,decide_eq_true_eq] at hb
  obtain⟨h1,h2⟩:=hb
  have:wB la lb k=true:=by
   unfold wB
   rw[Bool.and_eq_true,decide_eq_true_eq,decide_eq_true_eq]
   refine⟨h1,?_⟩
   have e:=congrArg (List.take k) h2
   rw[List.take_take,Nat.min_eq_left hk] at e
   exact e
  rw[h] at this;cases this
def vB (r s:List Int) (j:Nat):Bool:=decide (r.length=s.length)&&decide (r.take j=s.take j)
theorem vB_zero (r s:List Int):vB r s 0=decide (r.length=s.length):=by simp[vB]
theorem vB_true {r s:List Int} {j:Nat} (h:vB r s j=true):r.length=s.length∧r.take j=s.take j:=by
 unfold vB at h
 rw[Bool.and_eq_true,decide_eq_true_eq,decide_eq_true_eq] at h
 exact h
theorem vB_next {r s:List Int} {j:Nat} (h:vB r s j=true) (hj:j < r.length) (hj':j < s.length):vB r s (j+1)=decide (r[j]=s[j]):=by
 obtain⟨h1,h2⟩:=vB_true h
 unfold vB
 rw[decide_eq_true h1,Bool.true_and,decide_eq_decide]
 exact zcE hj hj' h2
theorem vB_all (r s:List Int):vB r s r.length=decide (r=s):=by
 unfold vB
 rw[List.take_length]
 by_cases h:r.length=s.length
 ·rw[decide_eq_true h,Bool.true_and,h,List.take_length]
 ·rw[decide_eq_false h,Bool.false_and,decide_eq_false (fun e=>h (by rw[e]))]
theorem vB_false {r s:List Int} {j:Nat} (hj:j≤r.length) (h:vB r s j=false):decide (r=s)=false:=by
 by_cases e:r=s
 ·subst e
  unfold vB at h
  simp at h
 ·exact decide_eq_false e
theorem wB_next {la lb:List (List Int)} {k:Nat} (h:wB la lb k=true) (hk:k < la.length) (hk':k < lb.length):wB la lb (k+1)=decide (la[k]=lb[k]):=by
 obtain⟨h1,h2⟩:=wB_true h
 unfold wB
 rw[decide_eq_true h1,Bool.true_and,decide_eq_decide]
 exact zcE hk hk' h2
theorem same_is (la lb:List (List Int)):decide ((⟨0,0,0,la⟩:Res)=⟨0,0,0,lb⟩)=(zaW la lb&&decide (la.length=lb.length)):=by
 have e:((⟨0,0,0,la⟩:Res)=⟨0,0,0,lb⟩)↔la=lb:=by simp
 rw[Bool.eq_iff_iff]
 simp only[decide_eq_true_eq,e,zaW,Bool.and_eq_true]
 constructor
 ·rintro rfl;simp
 ·rintro⟨⟨h1,h2⟩,h3⟩
  rw[h3,List.take_length] at h2
  exact h2
structure BgR (w0:World) (A B:Option Addr) (n m ca cb:Nat) (x y:Bool):Prop where
 ab:∀W,Past w0 W→Calls Tryz.prog 25 #[.slice A n ca,.slice B m cb] W fun e w'=>e=.returned (.bool x)∧Below W.heap.size W w'
 aa:∀W,Past w0 W→Calls Tryz.prog 25 #[.slice A n ca,.slice A n ca] W fun e w'=>e=.returned (.bool true)∧Below W.heap.size W w'
 na:∀W,Past w0 W→Calls Tryz.prog 25 #[.slice none 0 0,.slice A n ca] W fun e w'=>e=.returned (.bool true)∧Below W.heap.size W w'
 same:∀W,Past w0 W→Calls Tryz.prog 23 #[.agg #[.int .i64 0,.int .i64 0,.int .i64 0,.slice A n ca],.agg #[.int .i64 0,.int .i64 0,.int .i64 0,.slice B m cb]] W fun e w'=>e=.returned (.bool y)∧Below W.heap.size W w'
theorem bg_r {w0:World} {A B:Option Addr} {n m ca cb:Nat} {la lb:List (List Int)} (hA:RowsAt w0 A la) (hB:RowsAt w0 B lb) (hn:la.length=n) (hm:lb.length=m) (hca:n≤ca∧ca≤9223372036854775807) (hcb:m≤cb∧cb≤9223372036854775807) {x:Bool} (hx:zaW la lb=x):BgR w0 A B n m ca cb x (x&&decide (n=m)):=by
 subst hx
 subst hn
 subst hm
 have e1:zaW la la=true:=by simp[zaW]
 have e2:zaW [] la=true:=by simp[zaW]
 refine⟨fun W hW=>zc4 A B ca cb la lb (by omega) (by omega) hcb.1 hcb.2 hA hB W hW,fun W hW=>?_,fun W hW=>?_,fun W hW=>?_⟩
 ·have h:=zc4 A A ca ca la la (by omega) (by omega) hca.1 hca.2 hA hA W hW
  rw[e1] at h;exact h
 ·have h:=zc4 none A 0 ca [] la (by decide) (by omega) hca.1 hca.2 rows_none hA W hW
  rw[e2] at h;exact h
 ·have h:=same_any A B ca cb ⟨0,0,0,la⟩ ⟨0,0,0,lb⟩ (by show la.length≤_;omega) (by show lb.length≤_;omega) hA hB W hW
  rw[same_is] at h
  exact h
theorem begins_no (A B:Option Addr) (n0 m0 ca cb:Nat) (la lb:List (List Int)) (ct:Int) (w:World) (H:Wo w) (hA:RowsAt w A la) (hB:RowsAt w B lb) (hn:la.length=n0) (hm:lb.length=m0) (hca:n0≤ca∧ca≤9223372036854775807) (hcb:m0≤cb∧cb≤9223372036854775807):
  Calls Tryz.prog 6 #[.slice A n0 ca,.slice B m0 cb,.bool false,.int .u8 ct] w fun e w'=>e=.returned (.bool true)∧Below w.heap.size w w':=by
 have HO:=hid H
 have RA:=hid hA
 have RB:=hid hB
 have HLA:=hid hn
 have HLB:=hid hm
 have HCA:=hid hca
 have HCB:=hid hcb
 clear H hA hB
 go_enter Tryz.func6,Tryz.ntmps6
 go_wp2_with (go_at_call 10;refine(ex_any HO.out).mono ?_;rintro e w1 ⟨rfl,hb1⟩;have HB2:Hid (Below w.heap.size w w1):=hid hb1;clear hb1)
 go_loopw [10,11,12] (fun v i _ wr=>∃k:Nat,k≤n0∧i=.int .i64 k∧v=.bool (wB la lb k)∧Below w.heap.size w wr) (fun _ i _ _=>n0 - (intOf i).toNat)
 case atStart=>exact⟨0,Nat.zero_le _,rfl,by rw[wB_zero,HLA.out,HLB.out]<;>simp<;>omega,HB2.out⟩
 case round =>
  clear HB2
  obtain⟨k,hk,rfl,rfl,hb⟩:=hrel
  have HB:=hid hb
  clear hb
  obtain⟨c,hc⟩:∃c,wB la lb k=c:=⟨_,rfl⟩
  rw[hc]
  have HC:=hid hc
  clear hc
  by_cases hlt:k < n0
  ·have k1:decide ((k:Int) < n0)=true:=by simpa using hlt
   have k1':decide (k < n0)=true:=by simpa using hlt
   cases c
   ·have HX:Hid (zaW la lb=false):=hid (wB_false (by rw[HLA.out];omega) HC.out)
    by_cases hnm:n0=m0
    ·have kk:decide ((n0:Int)=m0)=true:=by rw[decide_eq_true_eq];omega
     have kk':((n0:Int)==m0)=true:=by rw[beq_iff_eq];omega
     have HBG:Hid (BgR w A B n0 m0 ca cb false false):=hid (by have h:=bg_r RA.out RB.out HLA.out HLB.out HCA.out HCB.out (x:=false) (HX.out);rw[decide_eq_true hnm] at h;exact h)
     have HQ0:Hid (Past w wr):=hid HB.out
     clear hnm
     go_wp2_with (first
      | (go_at_call 23;((refine(HBG.out.same _ HQ3.out).mono ?_);rintro e w9 ⟨rfl,hb⟩);have HQ4:Hid (Past w w9):=hid (zae HQ3.out hb);clear hb)
      | (go_at_call 25;((with_reducible refine(HBG.out.na _ HQ2.out).mono ?_);rintro e w8 ⟨rfl,hb⟩);have HQ3:Hid (Past w w8):=hid (zae HQ2.out hb);clear hb)
      | (go_at_call 25;((with_reducible refine(HBG.out.aa _ HQ1.out).mono ?_);rintro e w7 ⟨rfl,hb⟩);have HQ2:Hid (Past w w7):=hid (zae HQ1.out hb);clear hb)
      | (go_at_call 25;((with_reducible refine(HBG.out.ab _ HQ0.out).mono ?_);rintro e w6 ⟨rfl,hb⟩);have HQ1:Hid (Past w w6):=hid (zae HQ0.out hb);clear hb))
     go_ret
     exact⟨rfl,HQ4.out⟩
    ·have kk:decide ((n0:Int)=m0)=false:=by simp;omega
     have kk':((n0:Int)==m0)=false:=by simp;omega
     have HBG:Hid (BgR w A B n0 m0 ca cb false false):=hid (by have h:=bg_r RA.out RB.out HLA.out HLB.out HCA.out HCB.out (x:=false) (HX.out);rw[decide_eq_false hnm] at h;exact h)
     have HQ0:Hid (Past w wr):=hid HB.out
     clear hnm
     go_wp2_with (first
      | (go_at_call 23;((refine(HBG.out.same _ HQ3.out).mono ?_);rintro e w9 ⟨rfl,hb⟩);have HQ4:Hid (Past w w9):=hid (zae HQ3.out hb);clear hb)
      | (go_at_call 25;((with_reducible refine(HBG.out.na _ HQ2.out).mono ?_);rintro e w8 ⟨rfl,hb⟩);have HQ3:Hid (Past w w8):=hid (zae HQ2.out hb);clear hb)
      | (go_at_call 25;((with_reducible refine(HBG.out.aa _ HQ1.out).mono ?_);rintro e w7 ⟨rfl,hb⟩);have HQ2:Hid (Past w w7):=hid (zae HQ1.out hb);clear hb)
      | (go_at_call 25;((with_reducible refine(HBG.out.ab _ HQ0.out).mono ?_);rintro e w6 ⟨rfl,hb⟩);have HQ1:Hid (Past w w6):=hid (zae HQ0.out hb);clear hb))
     go_ret
     exact⟨rfl,HQ4.out⟩
   ·have hkm:k < m0:=by have:=(wB_true HC.out).1;rw[HLA.out,HLB.out] at this;omega
    have k2:decide ((k:Int) < m0)=true:=by simp;omega
    obtain⟨bb,bo,x1,x2,hA1,a1,al0,aN⟩:=RA.out k (by rw[HLA.out];exact hlt)
    obtain⟨cb1,co,y1,y2,hB1,c1,-,cN⟩:=RB.out k (by rw[HLB.out];exact hkm)
    cases hA1
    cases hB1
    have HN0:=hid (wB_next HC.out (by rw[HLA.out];exact hlt) (by rw[HLB.out];exact hkm))
    generalize la[k]'(by rw[HLA.out];exact hlt)=ra at a1 al0 aN HN0
    generalize lb[k]'(by rw[HLB.out];exact hkm)=sa at c1 cN HN0
    have HN:Hid (wB la lb (k+1)=decide (ra=sa)):=HN0
    have AN:=hid aN
    have CN:=hid cN
    obtain⟨p,hp⟩:∃p,ra.length=p:=⟨_,rfl⟩
    obtain⟨q,hq⟩:∃q,sa.length=q:=⟨_,rfl⟩
    rw[hp] at a1 al0
    rw[hq] at c1
    have HPP:=hid (And.intro hp hq)
    have A0:=hid a1
    have C0:=hid c1
    replace a1:=zan HB.out (B:=0) _ _ (Nat.zero_le _) a1
    replace c1:=zan HB.out (B:=0) _ _ (Nat.zero_le _) c1
    have al1:=World.block_lt_of_cell? wr _ a1
    have cl1:=World.block_lt_of_cell? wr _ c1
    clear aN cN hp hq HN0
    by_cases hpq:p=q
    ·have k3:((p:Int) != q)=false:=by simp;omega
     go_wp2
     go_quiet (fail)
     go_wp2
     go_loopw [10,12] (fun v j wr=>∃q0:Nat,q0≤p∧j=.int .i64 q0∧v=.bool (vB ra sa q0)∧Below w.heap.size w wr) (fun _ j _=>p - (intOf j).toNat)
     case atStart=>exact⟨0,Nat.zero_le _,rfl,by rw[vB_zero,HPP.out.1,HPP.out.2];simp[hpq],zae HB.out (zcD _ _)⟩
     case round =>
      obtain⟨j,hj,rfl,rfl,hb⟩:=hrel
      have HB3:=hid hb
      clear hb
      have a2:=zan HB3.out (B:=0) _ _ (Nat.zero_le _) A0.out
      have c2:=zan HB3.out (B:=0) _ _ (Nat.zero_le _) C0.out
      have al2:=World.block_lt_of_cell? wr _ a2
      have cl2:=World.block_lt_of_cell? wr _ c2
      obtain⟨d,hd⟩:∃d,vB ra sa j=d:=⟨_,rfl⟩
      rw[hd]
      have HD:=hid hd
      clear hd
      by_cases hjp:j < p
      ·have k3:decide ((j:Int) < p)=true:=by simpa using hjp
       have k3':decide (j < p)=true:=by simpa using hjp
       cases d
       ·have HE:Hid (wB la lb (k+1)=false):=hid (by rw[HN.out];exact vB_false (by rw[HPP.out.1];exact hj) HD.out)
        go_wp2
        all_goals
         go_round
         ·exact⟨k+1,by omega,by go_num,by rw[HE.out],HB3.out⟩
         ·simp[intOf];omega
       ·have hpq2:p=q:=by have:=(vB_true HD.out).1;rw[HPP.out.1,HPP.out.2] at this;exact this
        have hjq:j < q:=by omega
        obtain⟨nb1,no1,hx1,u1⟩:=AN.out j (by rw[HPP.out.1];exact hjp)
        obtain⟨nb2,no2,hy1,u2⟩:=CN.out j (by rw[HPP.out.2];exact hjq)
        cases hx1
        cases hy1
        replace u1:=zan HB3.out (B:=0) _ _ (Nat.zero_le _) u1
        replace u2:=zan HB3.out (B:=0) _ _ (Nat.zero_le _) u2
        have ul1:=World.block_lt_of_cell? wr _ u1
        have ul2:=World.block_lt_of_cell? wr _ u2
        have HV:=hid (vB_next HD.out (by rw[HPP.out.1];exact hjp) (by rw[HPP.out.2];exact hjq))
        generalize ra[j]'(by rw[HPP.out.1];exact hjp)=z1 at u1 HV
        generalize sa[j]'(by rw[HPP.out.2];exact hjq)=z2 at u2 HV
        have k4:decide ((j:Int) < q)=true:=by simp;omega
        by_cases hz:z1=z2
        ·subst hz
         go_wp2
         go_quiet (fail)
         go_wp2
         go_round
         case rel=>exact⟨j+1,by omega,by go_num,by rw[HV.out];simp,zae HB3.out (zcD _ _)⟩
         case measure=>simp[intOf];omega
        ·have k5:(z1==z2)=false:=by simpa using hz
         go_wp2
         go_quiet (fail)
         go_wp2
         go_round
         case rel=>exact⟨j+1,by omega,by go_num,by rw[HV.out,decide_eq_false hz],zae HB3.out (zcD _ _)⟩
         case measure=>simp[intOf];omega
      ·obtain rfl:j=p:=by omega
       have k3:decide ((j:Int) < j)=false:=by simp
       have HE:Hid (wB la lb (k+1)=d):=hid (by rw[HN.out,←HD.out,←vB_all,HPP.out.1])
       go_wp2
       all_goals
        go_round
        ·exact⟨k+1,by omega,by go_num,by rw[HE.out],HB3.out⟩
        ·simp[intOf];omega
    ·have k3:((p:Int) != q)=true:=by simp;omega
     go_wp2
     go_quiet (fail)
     go_wp2
     go_loopw [10,12] (fun v j wr=>∃q0:Nat,q0≤p∧j=.int .i64 q0∧v=.bool (vB ra sa q0)∧Below w.heap.size w wr) (fun _ j _=>p - (intOf j).toNat)
     case atStart=>exact⟨0,Nat.zero_le _,rfl,by rw[vB_zero,HPP.out.1,HPP.out.2];simp[hpq],zae HB.out (zcD _ _)⟩
     case round =>
      obtain⟨j,hj,rfl,rfl,hb⟩:=hrel
      have HB3:=hid hb
      clear hb
      have a2:=zan HB3.out (B:=0) _ _ (Nat.zero_le _) A0.out
      have c2:=zan HB3.out (B:=0) _ _ (Nat.zero_le _) C0.out
      have al2:=World.block_lt_of_cell? wr _ a2
      have cl2:=World.block_lt_of_cell? wr _ c2
      obtain⟨d,hd⟩:∃d,vB ra sa j=d:=⟨_,rfl⟩
      rw[hd]
      have HD:=hid hd
      clear hd
      by_cases hjp:j < p
      ·have k3:decide ((j:Int) < p)=true:=by simpa using hjp
       have k3':decide (j < p)=true:=by simpa using hjp
       cases d
       ·have HE:Hid (wB la lb (k+1)=false):=hid (by rw[HN.out];exact vB_false (by rw[HPP.out.1];exact hj) HD.out)
        go_wp2
        all_goals
         go_round
         ·exact⟨k+1,by omega,by go_num,by rw[HE.out],HB3.out⟩
         ·simp[intOf];omega
       ·exact absurd (by have:=(vB_true HD.out).1;rw[HPP.out.1,HPP.out.2] at this;exact this) hpq
      ·obtain rfl:j=p:=by omega
       have k3:decide ((j:Int) < j)=false:=by simp
       have HE:Hid (wB la lb (k+1)=d):=hid (by rw[HN.out,←HD.out,←vB_all,HPP.out.1])
       go_wp2
       all_goals
        go_round
        ·exact⟨k+1,by omega,by go_num,by rw[HE.out],HB3.out⟩
        ·simp[intOf];omega
  ·obtain rfl:k=n0:=by omega
   have k1:decide ((k:Int) < k)=false:=by simp
   cases c
   ·have HX:Hid (zaW la lb=false):=hid (by rw[←wB_all,HLA.out];exact HC.out)
    by_cases hnm:k=m0
    ·have kk:decide ((k:Int)=m0)=true:=by rw[decide_eq_true_eq];omega
     have kk':((k:Int)==m0)=true:=by rw[beq_iff_eq];omega
     have HBG:Hid (BgR w A B k m0 ca cb false false):=hid (by have h:=bg_r RA.out RB.out HLA.out HLB.out HCA.out HCB.out (x:=false) (HX.out);rw[decide_eq_true hnm] at h;exact h)
     have HQ0:Hid (Past w wr):=hid HB.out
     clear hnm
     go_wp2_with (first
      | (go_at_call 23;((refine(HBG.out.same _ HQ3.out).mono ?_);rintro e w9 ⟨rfl,hb⟩);have HQ4:Hid (Past w w9):=hid (zae HQ3.out hb);clear hb)
      | (go_at_call 25;((with_reducible refine(HBG.out.na _ HQ2.out).mono ?_);rintro e w8 ⟨rfl,hb⟩);have HQ3:Hid (Past w w8):=hid (zae HQ2.out hb);clear hb)
      | (go_at_call 25;((with_reducible refine(HBG.out.aa _ HQ1.out).mono ?_);rintro e w7 ⟨rfl,hb⟩);have HQ2:Hid (Past w w7):=hid (zae HQ1.out hb);clear hb)
      | (go_at_call 25;((with_reducible refine(HBG.out.ab _ HQ0.out).mono ?_);rintro e w6 ⟨rfl,hb⟩);have HQ1:Hid (Past w w6):=hid (zae HQ0.out hb);clear hb))
     go_ret
     exact⟨rfl,HQ4.out⟩
    ·have kk:decide ((k:Int)=m0)=false:=by simp;omega
     have kk':((k:Int)==m0)=false:=by simp;omega
     have HBG:Hid (BgR w A B k m0 ca cb false false):=hid (by have h:=bg_r RA.out RB.out HLA.out HLB.out HCA.out HCB.out (x:=false) (HX.out);rw[decide_eq_false hnm] at h;exact h)
     have HQ0:Hid (Past w wr):=hid HB.out
     clear hnm
     go_wp2_with (first
      | (go_at_call 23;((refine(HBG.out.same _ HQ3.out).mono ?_);rintro e w9 ⟨rfl,hb⟩);have HQ4:Hid (Past w w9):=hid (zae HQ3.out hb);clear hb)
      | (go_at_call 25;((with_reducible refine(HBG.out.na _ HQ2.out).mono ?_);rintro e w8 ⟨rfl,hb⟩);have HQ3:Hid (Past w w8):=hid (zae HQ2.out hb);clear hb)
      | (go_at_call 25;((with_reducible refine(HBG.out.aa _ HQ1.out).mono ?_);rintro e w7 ⟨rfl,hb⟩);have HQ2:Hid (Past w w7):=hid (zae HQ1.out hb);clear hb)
      | (go_at_call 25;((with_reducible refine(HBG.out.ab _ HQ0.out).mono ?_);rintro e w6 ⟨rfl,hb⟩);have HQ1:Hid (Past w w6):=hid (zae HQ0.out hb);clear hb))
     go_ret
     exact⟨rfl,HQ4.out⟩
   ·have HX:Hid (zaW la lb=true):=hid (by rw[←wB_all,HLA.out];exact HC.out)
    by_cases hnm:k=m0
    ·have kk:decide ((k:Int)=m0)=true:=by rw[decide_eq_true_eq];omega
     have kk':((k:Int)==m0)=true:=by rw[beq_iff_eq];omega
     have HBG:Hid (BgR w A B k m0 ca cb true true):=hid (by have h:=bg_r RA.out RB.out HLA.out HLB.out HCA.out HCB.out (x:=true) (HX.out);rw[decide_eq_true hnm] at h;exact h)
     have HQ0:Hid (Past w wr):=hid HB.out
     clear hnm
     go_wp2_with (first
      | (go_at_call 23;((refine(HBG.out.same _ HQ3.out).mono ?_);rintro e w9 ⟨rfl,hb⟩);have HQ4:Hid (Past w w9):=hid (zae HQ3.out hb);clear hb)
      | (go_at_call 25;((with_reducible refine(HBG.out.na _ HQ2.out).mono ?_);rintro e w8 ⟨rfl,hb⟩);have HQ3:Hid (Past w w8):=hid (zae HQ2.out hb);clear hb)
      | (go_at_call 25;((with_reducible refine(HBG.out.aa _ HQ1.out).mono ?_);rintro e w7 ⟨rfl,hb⟩);have HQ2:Hid (Past w w7):=hid (zae HQ1.out hb);clear hb)
      | (go_at_call 25;((with_reducible refine(HBG.out.ab _ HQ0.out).mono ?_);rintro e w6 ⟨rfl,hb⟩);have HQ1:Hid (Past w w6):=hid (zae HQ0.out hb);clear hb))
     go_ret
     exact⟨rfl,HQ4.out⟩
    ·have kk:decide ((k:Int)=m0)=false:=by simp;omega
     have kk':((k:Int)==m0)=false:=by simp;omega
     have HBG:Hid (BgR w A B k m0 ca cb true false):=hid (by have h:=bg_r RA.out RB.out HLA.out HLB.out HCA.out HCB.out (x:=true) (HX.out);rw[decide_eq_false hnm] at h;exact h)
     have HQ0:Hid (Past w wr):=hid HB.out
     clear hnm
     go_wp2_with (first
      | (go_at_call 23;((refine(HBG.out.same _ HQ3.out).mono ?_);rintro e w9 ⟨rfl,hb⟩);have HQ4:Hid (Past w w9):=hid (zae HQ3.out hb);clear hb)
      | (go_at_call 25;((with_reducible refine(HBG.out.na _ HQ2.out).mono ?_);rintro e w8 ⟨rfl,hb⟩);have HQ3:Hid (Past w w8):=hid (zae HQ2.out hb);clear hb)
      | (go_at_call 25;((with_reducible refine(HBG.out.aa _ HQ1.out).mono ?_);rintro e w7 ⟨rfl,hb⟩);have HQ2:Hid (Past w w7):=hid (zae HQ1.out hb);clear hb)
      | (go_at_call 25;((with_reducible refine(HBG.out.ab _ HQ0.out).mono ?_);rintro e w6 ⟨rfl,hb⟩);have HQ1:Hid (Past w w6):=hid (zae HQ0.out hb);clear hb))
     go_ret
     exact⟨rfl,HQ4.out⟩
end Go.Proofs.YtbilfdapmbahgaaGreatDoor.Rn

namespace Go.Proofs.YtbilfdapmbahgaaGreatDoor
open Go Go.RowKit
theorem mapM_get {α β:Type} {f:α→Option β}:∀{l:List α} {m:List β},l.mapM f=some m→m.length=l.length∧∀(i:Nat) (a:α),l[i]?=some a→f a=m[i]?
 | [],m,h=>by
  simp at h
  subst h
  exact⟨rfl,fun i a h=>by simp at h⟩
 | x :: l,m,h=>by
  simp only[List.mapM_cons,Option.pure_def,Option.bind_eq_bind] at h
  cases hx:f x with
  | none=>rw[hx] at h;simp at h
  | some y =>
   cases hl:l.mapM f with
   | none=>rw[hx,hl] at h;simp at h
   | some n =>
    rw[hx,hl] at h
    simp only[Option.bind_some,Option.some.injEq] at h
    subst h
    obtain⟨h1,h2⟩:=mapM_get hl
    refine⟨by simp[h1],fun i a hi=>?_⟩
    cases i with
    | zero=>simp at hi;subst hi;simpa using hx
    | succ i=>exact h2 i a (by simpa using hi)
theorem cells_of {W:World} {base n:Nat} {a:Addr} {cs:List Value} (h:W.cells? base a n=some cs):cs.length=n∧∀j v,cs[j]?=some v→W.cell? (a.add j)=some v:=by
 unfold World.cells? at h
 split at h
 ·obtain⟨h1,h2⟩:=mapM_get h
  rw[List.length_range] at h1
  refine⟨h1,fun j v hj=>?_⟩
  have hlt:j < n:=by have:=(List.getElem?_eq_some_iff.1 hj).1;omega
  rw[h2 j j (by simp[hlt]),hj]
 ·cases h
theorem add_at (b o k:Nat):(⟨b,o,none⟩:Addr).add k=⟨b,o+k,none⟩:=by
 unfold Addr.add
 split
 ·rename_i e;subst e;rfl
 ·rfl
end Go.Proofs.YtbilfdapmbahgaaGreatDoor

namespace Go.Proofs.YtbilfdapmbahgaaGreatDoor
open Go Go.RowKit
abbrev TR {H:Type} (enc:TypeId×Value→H) (W:World) (n:Nat) (t:TypeId) (cs:List Value) (y:DataW H×List MemPlace):Prop:=DataW.trod enc Tryz.prog W 0 (fun _=>true) true n t cs=some y
theorem slice_read {H:Type} {enc:TypeId×Value→H} {W:World} {X:Type} (C:X→Array Value) (Q:X→Prop) {t e:TypeId} {sz:Nat} (d:X) (hu:Tryz.prog.underlying t=some (.slice e)) (hc:Tryz.prog.cellsOf e=sz) (hz:0 < sz)
  {n:Nat} (ih:∀k,k < n→∀cs x,TR enc W k e cs x→∃T:X,cs=(C T).toList∧Q T) {c:Value} {y:DataW H×List MemPlace} (h:TR enc W n t [c] y):
  ∃(a:Option Addr) (l:List X) (cap:Nat),c=.slice a l.length cap∧l.length≤9223372036854775807∧(∀T∈l,Q T)∧∀j T,l[j]?=some T→RowAt W 0 a j sz (C T):=by
 rcases DataW.trod_slice hu h with ⟨e4,-⟩ | ⟨a,len,cap,elems,rest,n',rfl,e4,-,-,hlc,hcm,hel,hee,-,-⟩
 ·obtain rfl:=(List.cons.inj e4).1
  exact⟨none,[],0,rfl,by simp,by simp,by simp⟩
 ·obtain rfl:=(List.cons.inj e4).1
  have hx:∀i,i < len→∃(T:X) (cs:List Value),W.cells? 0 (a.add (i*sz)) sz=some cs∧cs=(C T).toList∧Q T:=fun i hi=>by
   have hi2:=hee i hi
   rw[hc] at hi2
   have hlt:i < elems.length:=by omega
   rw[List.getElem?_eq_getElem hlt] at hi2
   cases hcs:W.cells? 0 (a.add (i*sz)) sz with
   | none=>rw[hcs] at hi2;simp at hi2
   | some cs =>
    rw[hcs] at hi2
    simp only[Option.bind_some] at hi2
    obtain⟨T,h1,h2⟩:=ih n' (by omega) cs _ hi2
    exact⟨T,cs,rfl,h1,h2⟩
  obtain⟨f,hf2⟩:∃f:Nat→X,∀i,i < len→∃cs:List Value,W.cells? 0 (a.add (i*sz)) sz=some cs∧cs=(C (f i)).toList∧Q (f i):=
   ⟨fun i=>if h:i < len then Classical.choose (hx i h) else d,fun i hi=>by
    simp only[dif_pos hi]
    exact Classical.choose_spec (hx i hi)⟩
  have hll:((List.range len).map f).length=len:=by simp
  refine⟨some a,(List.range len).map f,cap,by rw[hll],by rw[hll];unfold maxLen at hcm;omega,fun T hT=>?_,fun j T hT=>?_⟩
  ·obtain⟨i,hi,rfl⟩:=List.mem_map.1 hT
   obtain⟨cs,-,-,g4⟩:=hf2 i (by simpa using hi)
   exact g4
  ·have hj:j < len:=by have:=(List.getElem?_eq_some_iff.1 hT).1;rw[hll] at this;exact this
   have hT2:f j=T:=by simpa[hj] using hT
   subst hT2
   obtain⟨cs,g1,rfl,-⟩:=hf2 j hj
   obtain⟨cs0,g10,g20,-⟩:=hf2 0 (by omega)
   obtain⟨l0,q0⟩:=cells_of g10
   have hs:=World.cell?_spot (q0 0 _ (List.getElem?_eq_getElem (by omega)))
   obtain⟨b,off,spot⟩:=a
   have hsp:spot=none:=by simpa[Addr.add] using hs
   subst hsp
   obtain⟨-,q⟩:=cells_of g1
   refine⟨b,off,rfl,Nat.zero_le _,fun i v hv=>?_⟩
   have:=q i v (by rw[Array.getElem?_toList];exact hv)
   rw[add_at,add_at] at this
   exact this
end Go.Proofs.YtbilfdapmbahgaaGreatDoor

namespace Go.Proofs.YtbilfdapmbahgaaGreatDoor
open Go Go.RowKit
def RowsIn (w:World) (v:Value):Prop:=∃(a:Option Addr) (rows:List (List Int)) (cap:Nat),v=.slice a rows.length cap∧(rows.length≤cap∧cap≤9223372036854775807)∧(a=none→cap=0)∧Rn.RowsAt w a rows
theorem numAt_none {w:World}:Rn.NumAt w none []:=fun i h=>absurd h (by simp)
theorem numAt_row {w:World} {a:Option Addr} {len:Nat} {zs:List Int} (h:RowIn .i64 w a len zs) (hz:len≤zs.length):(zs.take len).length=len∧Rn.NumAt w a (zs.take len):=by
 have hl:(zs.take len).length=len:=by rw[List.length_take];omega
 refine⟨hl,fun i hi=>?_⟩
 rw[hl] at hi
 obtain⟨b,o,e,-,hc⟩:=h.2 (by omega)
 refine⟨b,o,e,?_⟩
 rw[(hc i hi).1,List.getElem_take,List.getD_eq_getElem?_getD,List.getElem?_eq_getElem (by omega)]
 rfl
theorem rows_open {H:Type} {enc:TypeId×Value→H} {W:World} {t e i:TypeId} (hu:Tryz.prog.underlying t=some (.slice e)) (he:Tryz.prog.underlying e=some (.slice i)) (hi:Tryz.prog.underlying i=some (.int .i64)) (hc:Tryz.prog.cellsOf e=1∧Tryz.prog.cellsOf i=1)
  {n:Nat} {a:Option Addr} {len cap:Nat} {y:DataW H×List MemPlace} (h:DataW.trod enc Tryz.prog W 0 (fun _=>true) true n t [.slice a len cap]=some y):RowsIn W (.slice a len cap):=by
 have hcap:len≤cap∧cap≤9223372036854775807∧(a=none→cap=0):=by
  rcases DataW.trod_slice hu h with ⟨e4,-⟩ | ⟨x,l,c,elems,rest,n',e3,e4,-,-,hlc,hcm,-⟩
  ·obtain⟨e5,-⟩:=List.cons.inj e4
   simp only[Value.slice.injEq] at e5
   obtain⟨-,rfl,rfl⟩:=e5
   exact⟨Nat.le_refl _,Nat.zero_le _,fun _=>rfl⟩
  ·obtain⟨e5,-⟩:=List.cons.inj e4
   simp only[Value.slice.injEq] at e5
   obtain⟨rfl,rfl,rfl⟩:=e5
   unfold maxLen at hcm
   exact⟨by omega,by omega,fun h=>by cases h⟩
 obtain⟨a',l,cap',e,-,hq,hr⟩:=slice_read (X:=Value×List Int) (fun T=>#[T.1]) (fun T=>∃a c,T.1=.slice a T.2.length c∧T.2.length≤9223372036854775807∧Rn.NumAt W a T.2) (.slice none 0 0,[]) hu hc.1 (by decide)
  (fun k hk cs x hx=>by
   rcases Go.ChangeShapes.open_ints he hi hc.2 hx with ⟨hcs,_⟩ | ⟨x,l,c',zs,hcs,_,hl,hm,hz,_,hcell,hwz⟩
   ·exact⟨(.slice none 0 0,[]),hcs,none,0,rfl,by decide,numAt_none⟩
   ·have hri:=rowIn_some hl hm (by simpa using hz) hcell hwz
    have hz':zs.length=c':=by simpa using hz
    obtain⟨h1,h2⟩:=numAt_row hri (by omega)
    exact⟨(.slice (some x) l c',zs.take l),hcs,some x,c',by rw[h1],by rw[h1];exact hri.1,h2⟩) h
 refine⟨a',l.map (·.2),cap,?_,?_,?_,fun j hj=>?_⟩
 ·simp only[Value.slice.injEq] at e
  rw[List.length_map]
  simp only[Value.slice.injEq]
  exact⟨e.1,e.2.1,trivial⟩
 ·simp only[Value.slice.injEq] at e
  rw[List.length_map]
  omega
 ·simp only[Value.slice.injEq] at e
  rw[←e.1]
  exact hcap.2.2
 ·rw[List.length_map] at hj
  obtain⟨b,o,e1,-,hcell⟩:=hr j l[j] (List.getElem?_eq_getElem hj)
  obtain⟨ra,rc,e2,e3,e4⟩:=hq l[j] (List.getElem_mem hj)
  have h5:W.cell? ⟨b,o+j*1+0,none⟩=some l[j].1:=hcell 0 _ rfl
  rw[e2] at h5
  refine⟨b,o,ra,rc,e1,?_,?_,?_⟩
  ·rw[List.getElem_map,show o+j=o+j*1+0 by omega];exact h5
  ·rw[List.getElem_map];exact e3
  ·rw[List.getElem_map];exact e4
end Go.Proofs.YtbilfdapmbahgaaGreatDoor
