/- RunReads walks. -/
import Derived.Test.YtbilfdapmbahgaaGreatDoorREx
import Derived.Test.YtbilfdapmbahgaaGreatDoorRReadH
set_option linter.unusedSimpArgs false
set_option linter.unusedVariables false
set_option maxHeartbeats 8000000
set_option maxRecDepth 100000
namespace Go.Proofs.YtbilfdapmbahgaaGreatDoor.Rn
open Go Go.RowKit Go.Proofs.YtbilfdapmbahgaaGreatDoor Go.Proofs.YtbilfdapmbahgaaGreatDoor.Ev
open Go.Lib (hid)
open Go.Proofs.YtbilfdapmbahgaaGreatDoor.Pm (Wo)
open Go.Lib (hid)
open Go.Proofs.YtbilfdapmbahgaaGreatDoor.Ck (bal bre nb ob bl zbB PBox)
open Go.Lib (hid)
structure RdI (w w1:World) (k:Nat) (v:Value) (l:List ST) (wr:World):Prop where
 b:Below w.heap.size w wr
 p:w1.heap.size≤wr.heap.size
 m:MadeL w1.heap.size v l wr
 l:RdL k l
theorem RdI.next {w w1 wr w3:World} {k:Nat} {v v':Value} {l:List ST} (h:RdI w w1 k v l wr) (hk:k < 15) (hw:w.heap.size≤w1.heap.size) {o2:Obj}
  (hown:w3.ownsRow w1.heap.size 84 7 v' (2*k+2) ((l.flatMap fun S=>S.cells.toList)++(cell14 wr.heap.size).toList)) (hg:((wr.alloc (.cells (cell10 (k:Nat)) 86)).alloc o2).grownBy w3 v.ownBlock) (hat:v'.ownBlock=v.ownBlock∨v'.ownBlock=some ((wr.alloc (.cells (cell10 (k:Nat)) 86)).alloc o2).heap.size):RdI w w1 (k+1) v' (l++[rdS,stoS (k:Nat) wr.heap.size]) w3:=by
 have hp:=h.p
 refine⟨Below.grown (bal (bal h.b _) _) hg (by have:=h.b.size;simp;omega) (fun i hi=>Nat.le_trans hw (h.m.1.lt i hi).1),Nat.le_trans hp (Nat.le_trans (by simp;omega) hg.size),?_,h.l.next _⟩
 refine made_cat (A:=wr.heap.size) ((h.m.alloc _).alloc _) (fun S hS=>?_) hp (fun i hi=>(h.m.1.lt i hi).2) (by rw[two_cells,h.l.len];exact hown) hg hat
 simp only[List.mem_cons,List.not_mem_nil,or_false] at hS
 rcases hS with rfl | rfl
 ·exact rdS_in _ _
 ·exact stoS_in (by omega) (ob _ (nb _ rfl)) (Nat.le_refl _)
theorem rd_end {w w1 wr w3:World} {k:Nat} {v:Value} {ba:Option Addr} {bc:Nat} {l:List ST} (h:RdI w w1 k v l wr) (hw:w.heap.size≤w1.heap.size)
  (hown:w3.ownsRow w1.heap.size 84 7 (.slice ba (2*k+1) bc) (2*k+1) ((l.flatMap fun S=>S.cells.toList)++cell7.toList)) (hg:(wr.alloc (.cells cell7 84)).grownBy w3 v.ownBlock) (hat:(Value.slice ba (2*k+1) bc).ownBlock=v.ownBlock∨(Value.slice ba (2*k+1) bc).ownBlock=some (wr.alloc (.cells cell7 84)).heap.size):Below w.heap.size w w3∧RdL k l∧SsIn w3 0 ba 0 (l++[brS]):=by
 have hm:=made_cat (A:=wr.heap.size) (m:=[brS]) (h.m.alloc _) (fun S hS=>by simp only[List.mem_singleton] at hS;subst hS;exact brS_in _ _) h.p (fun i hi=>(h.m.1.lt i hi).2) (by rw[br_cells,h.l.len];exact hown) hg hat
 obtain⟨a,c,e,hs⟩:=hm.ss
 simp only[Value.slice.injEq] at e
 obtain⟨rfl,-,rfl⟩:=e
 exact⟨Below.grown (bal h.b _) hg (by have:=h.b.size;simp;omega) (fun i hi=>Nat.le_trans hw (h.m.1.lt i hi).1),h.l,hs.mono (Nat.zero_le _)⟩
def rdZ (m:Nat) (zs:List Int):List Int:=(List.range m).map fun i=>zs.getD i 0
theorem rdZ_get (m:Nat) (zs:List Int) (i:Nat):(rdZ m zs).getD i 0=if i < m then zs.getD i 0 else 0:=by
 unfold rdZ
 rw[List.getD_eq_getElem?_getD,List.getElem?_map]
 by_cases h:i < m
 ·rw[if_pos h,List.getElem?_range h];rfl
 ·rw[if_neg h,List.getElem?_eq_none (by simpa using h)];rfl
theorem rz_of {w:World} {A:Option Addr} {m len:Nat} {zs:List Int} (h:RowIn .i64 w A len zs) (hm:m≤len):RowIn .i64 w A m (rdZ m zs):=by
 refine⟨by have:=h.1;omega,fun hp=>?_⟩
 obtain⟨b,o,e,hb,hc⟩:=h.2 (by omega)
 refine⟨b,o,e,hb,fun i hi=>?_⟩
 rw[rdZ_get,if_pos hi]
 exact hc i (by omega)
theorem rzz_of {w:World} {A:Option Addr} {m len:Nat} {zs:List Int} (h:RowIn .i64 w A len zs) (hm:m≤len):∀z∈rdZ m zs,in64 z:=by
 intro z hz
 unfold rdZ at hz
 obtain⟨i,hi,rfl⟩:=List.mem_map.1 hz
 rw[List.mem_range] at hi
 obtain⟨b,o,e,hb,hc⟩:=h.2 (by omega)
 have:=(hc i (by omega)).2
 simp only[Lit.wf,IntKind.min,IntKind.max,Bool.and_eq_true] at this
 exact⟨of_decide_eq_true this.1,of_decide_eq_true this.2⟩
theorem rd_all {w w3:World} {k m len cap:Nat} {zs:List Int} {A ba:Option Addr} {bc:Nat} {l:List ST} (hb:Below w.heap.size w w3) (hl:RdL k l) (hs:SsIn w3 0 ba 0 (l++[brS])) (hk:k < 15) (hz:RowIn .i64 w A m (rdZ m zs)) (hzz:∀z∈rdZ m zs,in64 z) (hm:m≤len) (hc1:len≤cap) (hc2:cap≤9223372036854775807):
  RdR ((((((w3.alloc (.cells (zcb 1) 86)).alloc (.cells (zcb 0) 86)).alloc (.cells (cellM w3.heap.size ba (2*k+1) bc (w3.heap.size+1)) 84)).alloc (.cells #[.string nA1,.int .i64 0,.string nXs1,.int .i64 15] 88)).alloc (.cells (rdC (w3.heap.size+1+1+1) (w3.heap.size+1+1)) 74)).alloc (.cells #[.slice (some ⟨w3.heap.size+1+1+1+1,0,none⟩) 1 1] 24)) k (2*k+2) (rdZ m zs) (some ⟨w3.heap.size+1+1+1+1,0,none⟩) A m cap∧Below w.heap.size w ((((((w3.alloc (.cells (zcb 1) 86)).alloc (.cells (zcb 0) 86)).alloc (.cells (cellM w3.heap.size ba (2*k+1) bc (w3.heap.size+1)) 84)).alloc (.cells #[.string nA1,.int .i64 0,.string nXs1,.int .i64 15] 88)).alloc (.cells (rdC (w3.heap.size+1+1+1) (w3.heap.size+1+1)) 74)).alloc (.cells #[.slice (some ⟨w3.heap.size+1+1+1+1,0,none⟩) 1 1] 24))∧((((((w3.alloc (.cells (zcb 1) 86)).alloc (.cells (zcb 0) 86)).alloc (.cells (cellM w3.heap.size ba (2*k+1) bc (w3.heap.size+1)) 84)).alloc (.cells #[.string nA1,.int .i64 0,.string nXs1,.int .i64 15] 88)).alloc (.cells (rdC (w3.heap.size+1+1+1) (w3.heap.size+1+1)) 74)).alloc (.cells #[.slice (some ⟨w3.heap.size+1+1+1+1,0,none⟩) 1 1] 24)).heap[w3.heap.size+1+1+1+1+1]?=some (.cells #[.slice (some ⟨w3.heap.size+1+1+1+1,0,none⟩) 1 1] 24 (0,0)):=by
 have hp:Past w3 ((((((w3.alloc (.cells (zcb 1) 86)).alloc (.cells (zcb 0) 86)).alloc (.cells (cellM w3.heap.size ba (2*k+1) bc (w3.heap.size+1)) 84)).alloc (.cells #[.string nA1,.int .i64 0,.string nXs1,.int .i64 15] 88)).alloc (.cells (rdC (w3.heap.size+1+1+1) (w3.heap.size+1+1)) 74)).alloc (.cells #[.slice (some ⟨w3.heap.size+1+1+1+1,0,none⟩) 1 1] 24)):=((((((Past.refl _).alloc _).alloc _).alloc _).alloc _).alloc _).alloc _
 have hB:Below w.heap.size w ((((((w3.alloc (.cells (zcb 1) 86)).alloc (.cells (zcb 0) 86)).alloc (.cells (cellM w3.heap.size ba (2*k+1) bc (w3.heap.size+1)) 84)).alloc (.cells #[.string nA1,.int .i64 0,.string nXs1,.int .i64 15] 88)).alloc (.cells (rdC (w3.heap.size+1+1+1) (w3.heap.size+1+1)) 74)).alloc (.cells #[.slice (some ⟨w3.heap.size+1+1+1+1,0,none⟩) 1 1] 24)):=zae hb hp
 obtain⟨L,hL⟩:=rd_in (w:=(((((w3.alloc (.cells (zcb 1) 86)).alloc (.cells (zcb 0) 86)).alloc (.cells (cellM w3.heap.size ba (2*k+1) bc (w3.heap.size+1)) 84)).alloc (.cells #[.string nA1,.int .i64 0,.string nXs1,.int .i64 15] 88)).alloc (.cells (rdC (w3.heap.size+1+1+1) (w3.heap.size+1+1)) 74)).alloc (.cells #[.slice (some ⟨w3.heap.size+1+1+1+1,0,none⟩) 1 1] 24)) (n:=k) (ba:=ba) (bn:=2*k+1) (bc:=bc) (e:=w3.heap.size) (e':=w3.heap.size+1) (q:=w3.heap.size+1+1) (v:=w3.heap.size+1+1+1) (g:=w3.heap.size+1+1+1+1) hl hk rfl (hs.on hp)
  (ob _ (ob _ (ob _ (ob _ (ob _ (nb _ rfl)))))) (ob _ (ob _ (ob _ (ob _ (nb _ (by simp)))))) (ob _ (ob _ (ob _ (nb _ (by simp))))) (ob _ (ob _ (nb _ (by simp)))) (ob _ (nb _ (by simp)))
 exact⟨rd_r hL hk rfl (hz.on hB) (by simp[rdZ]) hzz (by omega),hB,nb _ (by simp)⟩
theorem reads_go (A:Option Addr) (len cap:Nat) (zs:List Int) (x:Int) (hx:0≤x∧x≤255) (w:World) (H:Wo w) (r0:RowIn .i64 w A len zs) (hc1:len≤cap) (hc2:cap≤9223372036854775807):
  Calls Tryz.prog 8 #[.slice A len cap,.int .u8 x] w fun e w'=>e=.returned (.bool true)∧Below w.heap.size w w':=by
 obtain⟨ei,hi,hz0,hz1,hz2⟩:=info_parts stmt_info
 have HO:=hid H
 obtain⟨n,hn⟩:∃n:Nat,x.tmod 15=n:=⟨(x % 15).toNat,by rw[Int.tmod_eq_emod_of_nonneg hx.1];omega⟩
 have hn15:n < 15:=by rw[Int.tmod_eq_emod_of_nonneg hx.1] at hn;omega
 obtain⟨m,hm⟩:∃m:Nat,min (len:Int) 10=m:=⟨min len 10,by omega⟩
 have hm1:m≤len:=by omega
 have hm2:m≤10:=by omega
 have wn:IntKind.i64.wrap (n:Int)=n:=IntWalk.i64_in _ (by omega)
 have RZ:Hid (RowIn .i64 w A m (rdZ m zs)):=hid (rz_of r0 hm1)
 have HZZ:Hid (∀z∈rdZ m zs,in64 z):=hid (rzz_of r0 hm1)
 clear H r0
 go_enter Tryz.func8,Tryz.ntmps8
 go_wp2_with (go_at_call 10;refine(ex_any HO.out).mono ?_;rintro e w1 ⟨rfl,hb1⟩;have HB1:=hid hb1;clear hb1)
 go_loopw [7,8] (fun v i wr=>∃(k:Nat) (l:List ST),k≤n∧i=.int .i64 k∧RdI w w1 k v l wr) (fun _ i _=>n - (intOf i).toNat)
 case atStart=>exact⟨0,[],Nat.zero_le _,rfl,HB1.out,Nat.le_refl _,made_nil _ _,rdL_nil⟩
 case round =>
  obtain⟨k,l,hk,rfl,hI⟩:=hrel
  have hv0:=zbn hI.m.1
  obtain⟨va,vc,hv0⟩:=hv0
  rw[hI.l.len] at hv0
  subst hv0
  have HI:=hid hI
  have OWN:Hid (wr.ownsRow w1.heap.size 84 7 (.slice va (2*k) vc) (2*k) (l.flatMap fun S=>S.cells.toList)):=hid (by have h:=hI.m.1;rw[hI.l.len] at h;exact h)
  clear hI
  by_cases hlt:k < n
  ·have k1:decide ((k:Int) < n)=true:=by simpa using hlt
   have k1':decide (k < n)=true:=by simpa using hlt
   go_wp2_with (at_builtin;refine wpList_append_own_at _ rfl _ _ 72 rfl w1.heap.size 84 ei _ 7 120 Tryz.underlying72 hi hz0 hz1 hz2 rfl (by decide) _ (2*k) _ rfl ((OWN.out.alloc _).alloc _) ⟨wr.heap.size+1,0,none⟩ 2 2 (cell14 wr.heap.size).toList rfl rfl (World.news_of_block (nb (.cells (cell14 wr.heap.size) 84) (by simp))) (fun u hu=>by simp only[cell14,Array.toList,List.mem_cons,List.not_mem_nil,or_false] at hu;rcases hu with rfl | rfl | rfl | rfl | rfl | rfl | rfl | rfl | rfl | rfl | rfl | rfl | rfl | rfl<;>rfl) (by unfold maxLen;omega) (by omega) (by have:=HI.out.p;simp;omega) ?_;intro v' w3 hown hgrow hnil hat;have HX:=hid (HI.out.next (by omega) HB1.out.size hown hgrow hat);clear hown hgrow hnil hat)
   go_round
   case rel=>exact⟨k+1,_,by omega,by go_num,HX.out⟩
   case measure=>simp[intOf];omega
  ·obtain rfl:k=n:=by omega
   have k1:decide ((k:Int) < k)=false:=by simp
   go_upto_region 14 with (at_builtin;refine wpList_append_own_at _ rfl _ _ 72 rfl w1.heap.size 84 ei _ 7 120 Tryz.underlying72 hi hz0 hz1 hz2 rfl (by decide) _ (2*k) _ rfl (OWN.out.alloc _) ⟨wr.heap.size,0,none⟩ 1 1 cell7.toList rfl rfl (World.news_of_block (nb (.cells cell7 84) rfl)) (fun u hu=>by simp only[cell7,Array.toList,List.mem_cons,List.not_mem_nil,or_false] at hu;rcases hu with rfl | rfl | rfl | rfl | rfl | rfl | rfl<;>rfl) (by unfold maxLen;omega) (by omega) (by have:=HI.out.p;simp;omega) ?_;intro v' w3 hown hgrow hnil hat;obtain⟨ba,bc,rfl⟩:=zbn hown;have HX:=hid (rd_end HI.out HB1.out.size hown hgrow hat);clear hown hgrow hnil hat)
   have HF:Hid (RdR ((((((w3.alloc (.cells (zcb 1) 86)).alloc (.cells (zcb 0) 86)).alloc (.cells (cellM w3.heap.size ba (2*k+1) bc (w3.heap.size+1)) 84)).alloc (.cells #[.string nA1,.int .i64 0,.string nXs1,.int .i64 15] 88)).alloc (.cells (rdC (w3.heap.size+1+1+1) (w3.heap.size+1+1)) 74)).alloc (.cells #[.slice (some ⟨w3.heap.size+1+1+1+1,0,none⟩) 1 1] 24)) k (2*k+2) (rdZ m zs) (some ⟨w3.heap.size+1+1+1+1,0,none⟩) A m cap∧Below w.heap.size w ((((((w3.alloc (.cells (zcb 1) 86)).alloc (.cells (zcb 0) 86)).alloc (.cells (cellM w3.heap.size ba (2*k+1) bc (w3.heap.size+1)) 84)).alloc (.cells #[.string nA1,.int .i64 0,.string nXs1,.int .i64 15] 88)).alloc (.cells (rdC (w3.heap.size+1+1+1) (w3.heap.size+1+1)) 74)).alloc (.cells #[.slice (some ⟨w3.heap.size+1+1+1+1,0,none⟩) 1 1] 24))∧((((((w3.alloc (.cells (zcb 1) 86)).alloc (.cells (zcb 0) 86)).alloc (.cells (cellM w3.heap.size ba (2*k+1) bc (w3.heap.size+1)) 84)).alloc (.cells #[.string nA1,.int .i64 0,.string nXs1,.int .i64 15] 88)).alloc (.cells (rdC (w3.heap.size+1+1+1) (w3.heap.size+1+1)) 74)).alloc (.cells #[.slice (some ⟨w3.heap.size+1+1+1+1,0,none⟩) 1 1] 24)).heap[w3.heap.size+1+1+1+1+1]?=some (.cells #[.slice (some ⟨w3.heap.size+1+1+1+1,0,none⟩) 1 1] 24 (0,0))):=hid (rd_all HX.out.1 HX.out.2.1 HX.out.2.2 hn15 RZ.out HZZ.out hm1 hc1 hc2)
   generalize (((((w3.alloc (.cells (zcb 1) 86)).alloc (.cells (zcb 0) 86)).alloc (.cells (cellM w3.heap.size ba (2*k+1) bc (w3.heap.size+1)) 84)).alloc (.cells #[.string nA1,.int .i64 0,.string nXs1,.int .i64 15] 88)).alloc (.cells (rdC (w3.heap.size+1+1+1) (w3.heap.size+1+1)) 74)).alloc (.cells #[.slice (some ⟨w3.heap.size+1+1+1+1,0,none⟩) 1 1] 24)=wB at HF ⊢
   generalize w3.heap.size+1+1+1+1+1=P at HF ⊢
   generalize w3.heap.size+1+1+1+1=G at HF ⊢
   have HR:Hid (RdR wB k (2*k+2) (rdZ m zs) (some ⟨G,0,none⟩) A m cap):=hid HF.out.1
   have HPW:Hid (∀W,Past wB W→Below w.heap.size w W):=hid fun W hW=>zae HF.out.2.1 hW
   have HCP:Hid (∀W,Past wB W→W.cell? ⟨P,0,none⟩=some (.slice (some ⟨G,0,none⟩) 1 1)∧P < W.heap.size):=hid fun W hW=>⟨zab (k:=0) (bl hW HF.out.2.2) rfl,zbB (bl hW HF.out.2.2)⟩
   obtain⟨p0,pl⟩:=HCP.out _ (Past.refl wB)
   clear HF HX HI OWN HB1 HO
   obtain⟨N,hN⟩:∃N,2*k+2=N:=⟨_,rfl⟩
   rw[hN] at HR
   have q1:IntKind.i64.wrap (2*(k:Int))=2*(k:Int):=IntWalk.i64_in _ (by omega)
   have q2:IntKind.i64.wrap (2*(k:Int)+3)=(N:Int)+1:=by rw[IntWalk.i64_in _ (by omega)];omega
   have q3:IntKind.i64.wrap ((N:Int)+1 - 1)=(N:Int):=by rw[IntWalk.i64_in _ (by omega)];omega
   have q4:2*(k:Int)+3=(N:Int)+1:=by omega
   have HNN:=hid hN
   clear hN
   go_upto_region 19 with (first
    | (go_at_call 16;((refine(HR.out.vis _ (HP2.out.alloc _)).mono ?_);rintro e w5 ⟨⟨g,g2,g3,tc,c2,c3,rfl,x1,x2,x3⟩,hb⟩);have HP3:Hid (Past wB w5):=hid ((HP2.out.alloc _).on hb);have hr5:=bl hb (nb _ rfl);have r0:=zab (k:=0) hr5 rfl;have r1:=zab (k:=1) hr5 rfl;have rl:=zbB hr5;have xl1:=World.block_lt_of_cell? _ _ x1;have xl2:=World.block_lt_of_cell? _ _ x2;have X3:=hid x3;clear hb hr5 x3)
    | (go_at_call 12;((refine(HR.out.run _ (Past.refl wB)).mono ?_);rintro e w4 ⟨⟨rp,rva,rvn,rvc,rfl⟩,hb⟩);have HP2:Hid (Past wB w4):=hid hb;obtain⟨p0,pl⟩:=HCP.out _ HP2.out;clear hb))
   have wl3:=World.block_lt_of_cell? _ _ (X3.out 0 (by omega))
   have HX12:=hid (And.intro x1 x2)
   go_upto_region 22 with (fail)
   go_loopw [15,16] (fun i _ wr=>∃j:Nat,j≤15∧i=.int .i64 j∧Past w5 wr) (fun i _ _=>15 - (intOf i).toNat)
   case atStart=>exact⟨0,Nat.zero_le _,rfl,Past.refl _⟩
   case round =>
    clear p0 pl r0 r1 rl x1 x2 xl1 xl2 wl3
    obtain⟨j,hj,rfl,hb⟩:=hrel
    have HJ:=hid (HP3.out.on hb)
    have x2:=zan hb (B:=0) _ _ (Nat.zero_le _) HX12.out.2
    have xl2:=World.block_lt_of_cell? _ _ x2
    have HB5:=hid hb
    by_cases hj15:j < 15
    ·have k1:decide ((j:Int) < 15)=true:=by simp;omega
     have k1':decide (j < 15)=true:=by simpa using hj15
     have x3:=zan hb (B:=0) _ _ (Nat.zero_le _) (X3.out j hj15)
     have xl3:=World.block_lt_of_cell? _ _ x3
     rw[rdZ_get] at x3
     clear hb
     by_cases hjk:j < k
     ·have k2:decide ((j:Int) < k)=true:=by simpa using hjk
      have k2':decide (j < k)=true:=by simpa using hjk
      rw[if_pos hjk] at x3
      by_cases hjm:j < m
      ·have k3:decide ((j:Int) < m)=true:=by simpa using hjm
       have k3':decide (j < m)=true:=by simpa using hjm
       rw[if_pos hjm] at x3
       obtain⟨ob1,oo1,hA,-,hcl⟩:=RZ.out.2 (by omega)
       cases hA
       obtain⟨z0,-⟩:=hcl j hjm
       rw[rdZ_get,if_pos hjm] at z0
       replace z0:=zan (HPW.out _ HJ.out) (B:=0) _ _ (Nat.zero_le _) z0
       have zl:=World.block_lt_of_cell? _ _ z0
       generalize zs.getD j 0=z at x3 z0
       go_wp2
       go_round
       ·exact⟨j+1,by omega,by go_num,HB5.out⟩
       ·simp[intOf];omega
      ·have k3:decide ((j:Int) < m)=false:=by simpa using hjm
       have k3':decide (j < m)=false:=by simpa using hjm
       rw[if_neg hjm] at x3
       go_wp2
       go_round
       ·exact⟨j+1,by omega,by go_num,HB5.out⟩
       ·simp[intOf];omega
     ·have k2:decide ((j:Int) < k)=false:=by simpa using hjk
      have k2':decide (j < k)=false:=by simpa using hjk
      rw[if_neg hjk] at x3
      go_wp2
      go_round
      ·exact⟨j+1,by omega,by go_num,HB5.out⟩
      ·simp[intOf];omega
    ·obtain rfl:j=15:=by omega
     clear hb
     go_wp2
     go_ret
     exact⟨rfl,HPW.out _ HJ.out⟩
end Go.Proofs.YtbilfdapmbahgaaGreatDoor.Rn
namespace Go.Proofs.YtbilfdapmbahgaaGreatDoor
open Go Go.RowKit
open Go.Lib (hid)
theorem runReads_walk (a0:Option Addr) (len0 cap0:Nat) (z0:List Int) (a1:Int) (w1:(Lit.int .u8 a1).wf=true) (w:World) (H:Pm.Wo w) (r0:RowIn .i64 w a0 len0 z0) (e0:len0≤cap0∧cap0≤maxLen∧(a0=none→cap0=0)):
  Calls Tryz.prog 8 #[.slice a0 len0 cap0,.int .u8 a1] w fun e w'=>e=.returned (.bool true)∧Below w.heap.size w w':=by
 have h1:0≤a1∧a1≤255:=by
  simp only[Lit.wf,IntKind.min,IntKind.max,Bool.and_eq_true] at w1
  exact⟨of_decide_eq_true w1.1,of_decide_eq_true w1.2⟩
 exact Rn.reads_go a0 len0 cap0 z0 a1 h1 w H r0 e0.1 (by have:=e0.2.1;unfold maxLen at this;omega)
end Go.Proofs.YtbilfdapmbahgaaGreatDoor
