/- RunBegins walks: where one trace is cut out of the other. -/
import Derived.Test.YtbilfdapmbahgaaGreatDoorRRows
set_option linter.unusedSimpArgs false
set_option linter.unusedVariables false
set_option maxHeartbeats 8000000
set_option maxRecDepth 100000
namespace Go.Proofs.YtbilfdapmbahgaaGreatDoor.Rn
open Go Go.RowKit Go.Proofs.YtbilfdapmbahgaaGreatDoor Go.Proofs.YtbilfdapmbahgaaGreatDoor.Ev
open Go.Lib (hid)
open Go.Proofs.YtbilfdapmbahgaaGreatDoor.Pm (Wo)
open Go.Lib (hid)
open Go.Proofs.YtbilfdapmbahgaaGreatDoor.Ck (bal bre nb ob bl zbB PBox)
open Go.Lib (hid)
theorem begins_own (A0 xo:Option Addr) (p0 c0 n0 m0 cb c:Nat) (lb:List (List Int)) (ct:Int) (w:World) (H:Wo w) (hB:RowsAt w xo lb) (hm:lb.length=m0) (hcb:m0≤cb∧cb≤9223372036854775807) (hc:ct.tmod 8=(c:Int)) (hc8:c < 8) (hk:min (c:Int) (m0:Int)=(n0:Int)):
  Calls Tryz.prog 6 #[.slice A0 p0 c0,.slice xo m0 cb,.bool true,.int .u8 ct] w fun e w'=>e=.returned (.bool true)∧Below w.heap.size w w':=by
 have HO:=hid H
 obtain⟨la,hla⟩:∃la,lb.take n0=la:=⟨_,rfl⟩
 have hn:la.length=n0:=by rw[←hla,List.length_take];omega
 have hA:RowsAt w xo la:=by rw[←hla];exact hB.take _
 have hnm0:n0≤m0:=by omega
 have hncb:n0≤cb:=by omega
 have wc:IntKind.i64.wrap (c:Int)=c:=IntWalk.i64_in _ (by omega)
 have RA:=hid hA
 have RB:=hid hB
 have HLA:=hid hn
 have HLB:=hid hm
 have HCA:Hid (n0≤cb∧cb≤9223372036854775807):=hid ⟨hncb,hcb.2⟩
 have HCB:=hid hcb
 have HBL:Hid (zaW la lb=true):=hid (by unfold zaW;rw[hn,hla,hm,decide_eq_true hnm0];simp)
 clear H hA hB hla
 go_enter Tryz.func6,Tryz.ntmps6
 go_wp2_with (go_at_call 10;refine(ex_any HO.out).mono ?_;rintro e w1 ⟨rfl,hb1⟩;have HB2:Hid (Below w.heap.size w w1):=hid hb1;clear hb1)
 go_loopw [10,11,12] (fun v i _ wr=>∃k:Nat,k≤n0∧i=.int .i64 k∧v=.bool true∧Below w.heap.size w wr) (fun _ i _ _=>n0 - (intOf i).toNat)
 case atStart=>exact⟨0,Nat.zero_le _,rfl,by first | rfl | (simp<;>omega),HB2.out⟩
 case round =>
  clear HB2
  obtain⟨k,hk,rfl,rfl,hb⟩:=hrel
  have HB:=hid hb
  clear hb
  by_cases hlt:k < n0
  ·have k1:decide ((k:Int) < n0)=true:=by simpa using hlt
   have k1':decide (k < n0)=true:=by simpa using hlt
   have hkm:k < m0:=by omega
   have k2:decide ((k:Int) < m0)=true:=by simp;omega
   obtain⟨bb,bo,x1,x2,hA1,a1,al0,aN⟩:=RB.out k (by rw[HLB.out];exact hkm)
   cases hA1
   generalize lb[k]'(by rw[HLB.out];exact hkm)=ra at a1 al0 aN
   have AN:=hid aN
   obtain⟨p,hp⟩:∃p,ra.length=p:=⟨_,rfl⟩
   rw[hp] at a1 al0
   have HPP:=hid hp
   have A0:=hid a1
   replace a1:=zan HB.out (B:=0) _ _ (Nat.zero_le _) a1
   have al1:=World.block_lt_of_cell? wr _ a1
   have k3:((p:Int) != p)=false:=by simp
   clear aN hp
   go_wp2
   go_quiet (fail)
   go_wp2
   go_loopw [10,12] (fun v j wr=>∃q0:Nat,q0≤p∧j=.int .i64 q0∧v=.bool true∧Below w.heap.size w wr) (fun _ j _=>p - (intOf j).toNat)
   case atStart=>exact⟨0,Nat.zero_le _,rfl,by first | rfl | simp,zae HB.out (zcD _ _)⟩
   case round =>
    obtain⟨j,hj,rfl,rfl,hb⟩:=hrel
    have HB3:=hid hb
    clear hb
    have a2:=zan HB3.out (B:=0) _ _ (Nat.zero_le _) A0.out
    have al2:=World.block_lt_of_cell? wr _ a2
    by_cases hjp:j < p
    ·have k4:decide ((j:Int) < p)=true:=by simpa using hjp
     have k4':decide (j < p)=true:=by simpa using hjp
     obtain⟨nb1,no1,hx1,u1⟩:=AN.out j (by rw[HPP.out];exact hjp)
     cases hx1
     replace u1:=zan HB3.out (B:=0) _ _ (Nat.zero_le _) u1
     have ul1:=World.block_lt_of_cell? wr _ u1
     generalize ra[j]'(by rw[HPP.out];exact hjp)=z1 at u1
     go_wp2
     go_quiet (fail)
     go_wp2
     all_goals
      go_round
      ·exact⟨j+1,by omega,by go_num,by first | rfl | simp,zae HB3.out (zcD _ _)⟩
      ·simp[intOf];omega
    ·obtain rfl:j=p:=by omega
     have k4:decide ((j:Int) < j)=false:=by simp
     go_wp2
     all_goals
      go_round
      ·exact⟨k+1,by omega,by go_num,rfl,HB3.out⟩
      ·simp[intOf];omega
  ·obtain rfl:k=n0:=by omega
   have k1:decide ((k:Int) < k)=false:=by simp
   have HX:Hid (zaW la lb=true):=hid HBL.out
   by_cases hnm:k=m0
   ·have kk:decide ((k:Int)=m0)=true:=by rw[decide_eq_true_eq];omega
    have kk':((k:Int)==m0)=true:=by rw[beq_iff_eq];omega
    have HBG:Hid (BgR w xo xo k m0 cb cb true true):=hid (by have h:=bg_r RA.out RB.out HLA.out HLB.out HCA.out HCB.out (x:=true) (HX.out);rw[decide_eq_true hnm] at h;exact h)
    have HQ0:Hid (Past w wr):=hid HB.out
    clear hnm
    go_wp2_with (first
     | (go_at_call 23;((refine(HBG.out.same _ HQ3.out).mono ?_);rintro e w9 ⟨rfl,hb⟩);have HQ4:Hid (Past w w9):=hid (zae HQ3.out hb);clear hb)
     | (go_at_call 25;((with_reducible refine(HBG.out.na _ HQ2.out).mono ?_);rintro e w8 ⟨rfl,hb⟩);have HQ3:Hid (Past w w8):=hid (zae HQ2.out hb);clear hb)
     | (go_at_call 25;((with_reducible refine(HBG.out.aa _ HQ1.out).mono ?_);rintro e w7 ⟨rfl,hb⟩);have HQ2:Hid (Past w w7):=hid (zae HQ1.out hb);clear hb)
     | (go_at_call 25;((with_reducible refine(HBG.out.ab _ HQ0.out).mono ?_);rintro e w6 ⟨rfl,hb⟩);have HQ1:Hid (Past w w6):=hid (zae HQ0.out hb);clear hb))
    go_ret
    exact⟨rfl,HQ4.out⟩
   ·have kk:decide ((k:Int)=m0)=false:=by simp;omega
    have kk':((k:Int)==m0)=false:=by simp;omega
    have HBG:Hid (BgR w xo xo k m0 cb cb true false):=hid (by have h:=bg_r RA.out RB.out HLA.out HLB.out HCA.out HCB.out (x:=true) (HX.out);rw[decide_eq_false hnm] at h;exact h)
    have HQ0:Hid (Past w wr):=hid HB.out
    clear hnm
    go_wp2_with (first
     | (go_at_call 23;((refine(HBG.out.same _ HQ3.out).mono ?_);rintro e w9 ⟨rfl,hb⟩);have HQ4:Hid (Past w w9):=hid (zae HQ3.out hb);clear hb)
     | (go_at_call 25;((with_reducible refine(HBG.out.na _ HQ2.out).mono ?_);rintro e w8 ⟨rfl,hb⟩);have HQ3:Hid (Past w w8):=hid (zae HQ2.out hb);clear hb)
     | (go_at_call 25;((with_reducible refine(HBG.out.aa _ HQ1.out).mono ?_);rintro e w7 ⟨rfl,hb⟩);have HQ2:Hid (Past w w7):=hid (zae HQ1.out hb);clear hb)
     | (go_at_call 25;((with_reducible refine(HBG.out.ab _ HQ0.out).mono ?_);rintro e w6 ⟨rfl,hb⟩);have HQ1:Hid (Past w w6):=hid (zae HQ0.out hb);clear hb))
    go_ret
    exact⟨rfl,HQ4.out⟩
end Go.Proofs.YtbilfdapmbahgaaGreatDoor.Rn
namespace Go.Proofs.YtbilfdapmbahgaaGreatDoor
open Go Go.RowKit
open Go.Lib (hid)
theorem runBegins_walk (v0 v1:Value) (a2:Bool) (a3:Int) (w3:(Lit.int .u8 a3).wf=true) (w:World) (H:Pm.Wo w) (c0:RowsIn w v0) (c1:RowsIn w v1):
  Calls Tryz.prog 6 #[v0,v1,.bool a2,.int .u8 a3] w fun e w'=>e=.returned (.bool true)∧Below w.heap.size w w':=by
 have h3:0≤a3∧a3≤255:=by
  simp only[Lit.wf,IntKind.min,IntKind.max,Bool.and_eq_true] at w3
  exact⟨of_decide_eq_true w3.1,of_decide_eq_true w3.2⟩
 obtain⟨A,la,ca,rfl,hca,-,hA⟩:=c0
 obtain⟨B,lb,cb,rfl,hcb,-,hB⟩:=c1
 cases a2 with
 | false=>exact Rn.begins_no A B la.length lb.length ca cb la lb a3 w H hA hB rfl rfl hca hcb
 | true =>
  have hc:a3.tmod 8=((a3 % 8).toNat:Int):=by rw[Int.tmod_eq_emod_of_nonneg h3.1];omega
  exact Rn.begins_own A B la.length ca (min (a3 % 8).toNat lb.length) lb.length cb (a3 % 8).toNat lb a3 w H hB rfl hcb hc (by omega) (by omega)
end Go.Proofs.YtbilfdapmbahgaaGreatDoor
