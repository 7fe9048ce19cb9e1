/- Statements that run one behind the other: given what each of them does. -/
import Derived.Test.YtbilfdapmbahgaaGreatDoorTFeed
import Derived.Test.YtbilfdapmbahgaaGreatDoorEPlace
import Derived.Test.YtbilfdapmbahgaaGreatDoorRDo
import Derived.Deep.AppendLies
import Derived.OwnWalk
import Derived.Deep.RegionLaw
import Derived.OpenShut
set_option linter.unusedSimpArgs false
set_option linter.unusedVariables false
set_option maxHeartbeats 8000000
set_option maxRecDepth 100000
namespace Go.Proofs.YtbilfdapmbahgaaGreatDoor
open Go Go.RowKit
section
variable {F:FeedC} {B f:Nat}
end
end Go.Proofs.YtbilfdapmbahgaaGreatDoor
namespace Go.Proofs.YtbilfdapmbahgaaGreatDoor
open Go Go.RowKit
section
variable {F:FeedC} {B f:Nat}
theorem expr_info:(Tryz.prog.info? 86).map (fun i=>(i.zero,i.size,i.bytes))=some (some (.agg #[.int .i64 0,.string {data:=#[]},.int .i64 0,.string {data:=#[]},.slice none 0 0]),5,72):=by kernel_rfl
theorem KeptP.mono {P Q:Nat→Prop} {w w':World} (h:KeptP P w w') (hPQ:∀b,P b→Q b):KeptP Q w w':=⟨h.os,h.tape,h.output,h.size,fun k hk hq=>h.block k hk fun hp=>hq (hPQ k hp)⟩
theorem five_one (U:ET):∀u∈(five U).toList,u.oneCell'=true:=by
 intro u hu
 simp at hu
 rcases hu with rfl | rfl | rfl | rfl | rfl<;>rfl
end
end Go.Proofs.YtbilfdapmbahgaaGreatDoor

namespace Go.Proofs.YtbilfdapmbahgaaGreatDoor.Rn
open Go Go.RowKit Go.Proofs.YtbilfdapmbahgaaGreatDoor Go.Proofs.YtbilfdapmbahgaaGreatDoor.Ev
open Go.Lib (hid)
def fnK (k:Nat):Nat:=match k with
 | 0=>140
 | 1=>141
 | 2=>142
 | 3=>143
 | 4=>144
 | 5=>145
 | 6=>146
 | 7=>147
 | 8=>148
 | _=>149
theorem fnK_ent {k:Nat} (h:k < 10):∀args w,(callFunc (fnK k) args).run Tryz.prog w=.ok (.enter (fnK k) args) w:=by
 match k,h with
 | 0,_=>exact enters_of Tryz.func140 (by kernel_rfl) rfl
 | 1,_=>exact enters_of Tryz.func141 (by kernel_rfl) rfl
 | 2,_=>exact enters_of Tryz.func142 (by kernel_rfl) rfl
 | 3,_=>exact enters_of Tryz.func143 (by kernel_rfl) rfl
 | 4,_=>exact enters_of Tryz.func144 (by kernel_rfl) rfl
 | 5,_=>exact enters_of Tryz.func145 (by kernel_rfl) rfl
 | 6,_=>exact enters_of Tryz.func146 (by kernel_rfl) rfl
 | 7,_=>exact enters_of Tryz.func147 (by kernel_rfl) rfl
 | 8,_=>exact enters_of Tryz.func148 (by kernel_rfl) rfl
 | 9,_=>exact enters_of Tryz.func149 (by kernel_rfl) rfl
 | k+10,h=>omega
theorem fnK_cell {w:World} {Mb Fb E d:Nat} {r:Int} (h:w.heap[Fb]?=some (.cells (fcl Mb Fb E d r) 192 (0,0))) {k:Nat} (hk:k < 10):w.cell? ⟨Fb,3+k,none⟩=some (.func (.func (fnK k)) #[ptr Fb] #[]):=by
 match k,hk with
 | 0,_=>exact zab h rfl
 | 1,_=>exact zab h rfl
 | 2,_=>exact zab h rfl
 | 3,_=>exact zab h rfl
 | 4,_=>exact zab h rfl
 | 5,_=>exact zab h rfl
 | 6,_=>exact zab h rfl
 | 7,_=>exact zab h rfl
 | 8,_=>exact zab h rfl
 | 9,_=>exact zab h rfl
 | k+10,h=>omega
section
variable {C:Cx} {wt:WtP} {ws:World} {X:Fx} {fp:Nat→Prop} {f:Fr} {s:MS} {w:World}
theorem come_any (W:Wat C ws wt) (hC:C.fuel≤1048576) (h:FS C wt ws X fp f s w) (h0:s.left≠0) (nb no k t:Nat) (hn1:ws.cell? ⟨nb,no+1,none⟩=some (.int .i64 (t:Nat))) (hn7:ws.cell? ⟨nb,no+7,none⟩=some (.int .i64 (k:Nat))) (hk:k≤2000) (ht:t≤1000000):
  Calls Tryz.prog 150 #[ptr X.Fb,nptr nb no] w fun e w'=>e=.returned (.tuple #[])∧∃fp',FS C wt ws X fp' f (came X.d k t f.L s) w'∧Gone X fp fp' w w':=by
 by_cases hd:X.d=1
 ·exact come_main W hC h hd h0 nb no k t hn1 hn7 hk ht
 ·exact(come_low W hC h hd h0 nb no k t).mono fun e w' hq=>⟨hq.1,fp,hq.2⟩
theorem come_stop (W:Wat C ws wt) (h:FS C wt ws X fp f s w) (h0:s.left=0) (nb no k:Nat) (hn7:ws.cell? ⟨nb,no+7,none⟩=some (.int .i64 (k:Nat))) (hk:k≤2000):
  Calls Tryz.prog 150 #[ptr X.Fb,nptr nb no] w fun e w'=>e=.panicked [{v:=zb5 6,recovered:=false}]∧Hal C wt ws X.Mb fp (stop X.d k s) w'∧Gone X fp fp w w':=by
 by_cases hd:X.d=1
 ·exact come_mainstop W h hd h0 nb no k hn7 hk
 ·exact come_lowstop W h hd h0 nb no k
end
structure Lot (C:Cx) (ws:World) (na sa:Option Addr) (i k:Nat) (l:List ST):Prop where
 ns:NsIn ws 0 na i k l
 ss:SsIn ws 0 sa i l
 right:zam l=true
 calls:okCs C.known (rss l)=true
 many:k+cnts l≤2000
def RunC (C:Cx) (wt:WtP) (ws:World) (g:Nat):Prop:=∀(X:Fx) (fp:Nat→Prop) (f:Fr) (s:MS) (w:World) (na sa:Option Addr) (c k:Nat) (l:List ST),FS C wt ws X fp f s w→Lot C ws na sa 0 k l→2*s.left+1≤g →
 Calls Tryz.prog 94 #[ptr X.Fb,.slice na l.length c] w (RQ C wt ws X fp w (runG C.rf g X.d (.seq k (rss l)) f s))
def DoesC (C:Cx) (wt:WtP) (ws:World) (g:Nat):Prop:=∀(X:Fx) (fp:Nat→Prop) (f:Fr) (s:MS) (w:World) (nb no k:Nat) (sa:Option Addr) (i:Nat) (S:ST),FS C wt ws X fp f s w→NIn ws 0 (some ⟨nb,no,none⟩) 0 k S→S.In ws 0→S.rightB=true→okC C.known S.rs=true→k+S.cnt≤2000→2*s.left+2≤g →
 Calls Tryz.prog (fnK S.kind.toNat) #[ptr X.Fb,nptr nb no] w (RQ C wt ws X fp w (doG (runG C.rf g) C.rf X.d k f s S.rs))
theorem cnt_rs {S:ST} (h:S.rightB=true):S.cnt=1+nB S.rs:=by
 have h1:=Ck.cnts_n (l:=[S]) (by simp[zam,h])
 rw[cnts,cnts,rss,rss,nSs,nSs] at h1
 omega
theorem rss_drop {l:List ST} {n:Nat} (h:n < l.length):rss (l.drop n)=l[n].rs :: rss (l.drop (n+1)):=by
 rw[List.drop_eq_getElem_cons h,rss]
theorem zeS {l:List ST} {n:Nat} (h:n < l.length):cnts (l.take (n+1))=cnts (l.take n)+l[n].cnt:=by
 induction l generalizing n with
 | nil=>simp at h
 | cons S l ih =>
  cases n with
  | zero=>simp[cnts]
  | succ n =>
   have:=ih (n:=n) (by simpa using h)
   simp only[List.take_succ_cons,cnts,List.getElem_cons_succ] at this ⊢
   omega
theorem cnts_take_le (l:List ST) (n:Nat):cnts (l.take n)≤cnts l:=by
 induction l generalizing n with
 | nil=>simp[cnts]
 | cons S l ih =>
  cases n with
  | zero=>simp[cnts]
  | succ n=>have:=ih n;simp only[List.take_succ_cons,cnts];omega
theorem okCs_nth {P:List UInt8→Nat→Bool}:∀{l:List ST},okCs P (rss l)=true→∀n (h:n < l.length),okC P l[n].rs=true
 | S :: l,h,n,hn=>by
  rw[rss,okCs,Bool.and_eq_true] at h
  cases n with
  | zero=>exact h.1
  | succ n=>exact okCs_nth h.2 n (by simpa using hn)
theorem nod_cells {ws:World} {na:Option Addr} {i k:Nat} {S:ST} (h:NIn ws 0 na i k S):∃nb o,na=some ⟨nb,o,none⟩∧ws.cell? ⟨nb,o+i*10,none⟩=some (.int .i64 S.kind)∧ws.cell? ⟨nb,o+i*10+1,none⟩=some (.int .i64 S.tag)∧ws.cell? ⟨nb,o+i*10+7,none⟩=some (.int .i64 (k:Nat))∧NIn ws 0 (some ⟨nb,o+i*10,none⟩) 0 k S:=by
 obtain⟨kd,t,n,f,ea,ec,e,ba,bc,b,la,lc,l⟩:=S
 rw[NIn] at h
 obtain⟨ab,al,cb,cl,⟨nb,o,rfl,hB,hc⟩,h2,h3⟩:=h
 refine⟨nb,o,rfl,hc 0 _ rfl,hc 1 _ rfl,hc 7 _ rfl,?_⟩
 rw[NIn]
 exact⟨ab,al,cb,cl,⟨nb,o+i*10,rfl,hB,fun j v hv=>by rw[Nat.zero_mul,Nat.add_zero];exact hc j v hv⟩,h2,h3⟩
theorem kind_rs {S:ST} (h:S.rightB=true):∃kn tn:Nat,S.kind=(kn:Nat)∧kn < 10∧S.tag=(tn:Nat)∧tn≤1000000∧S.rs.tag=tn:=by
 obtain⟨t,h0,h1,hh⟩:=zct h
 rcases hh with ⟨n,ea,ec,e,ba,bc,la,lc,-,-,rfl⟩ | ⟨n,ea,ec,e,e2,ba,bc,la,lc,-,-,-,rfl⟩ | ⟨n,ea,ec,ba,bc,la,lc,-,rfl⟩ | ⟨n,f,ea,ec,e,ba,bc,la,lc,-,-,-,rfl⟩ | ⟨ea,ec,e,ba,bc,b,la,lc,l,-,-,-,rfl⟩ | ⟨ea,ec,e,ba,bc,b,la,lc,-,-,rfl⟩ | ⟨ea,ec,ba,bc,la,lc,rfl⟩ | ⟨ea,ec,ba,bc,la,lc,rfl⟩ | ⟨ea,ec,e,ba,bc,la,lc,-,rfl⟩ | ⟨ea,ec,e,ba,bc,la,lc,-,rfl⟩
 all_goals exact⟨_,t.toNat,rfl,by decide,by show t=_;omega,by omega,by rw[ST.rs];rfl⟩
structure RunR (C:Cx) (wt:WtP) (ws:World) (X:Fx) (fp:Nat→Prop) (w wr:World) (k:Nat) (l:List ST) (o:Out) (n g:Nat):Prop where
 ex:∃f1 s1 fp1 g1,FS C wt ws X fp1 f1 s1 wr∧Gone X fp fp1 w wr∧2*s1.left+1≤g1∧g1≤g∧o=runG C.rf g1 X.d (.seq (k+cnts (l.take n)) (rss (l.drop n))) f1 s1
theorem run_of {C:Cx} {wt:WtP} {ws:World} (W:Wat C ws wt) (hC:C.fuel≤1048576) {g:Nat} (hD:∀g',g' < g→DoesC C wt ws g'):RunC C wt ws g:=by
 intro X fp f s w na sa c k l hfs hlot hg
 have HD:=hid hD
 have HL:=hid hlot
 have H0:=hid hfs
 have hlen:l.length≤2000:=by have:=hlot.many;have:=zdW l;omega
 have HGG:=hid hg
 have HSZ:=hid hfs.size
 have HFU:=hid hC
 clear hD hlot hfs hg hC
 go_enter Tryz.func94,Tryz.ntmps94
 go_wp2
 go_loopw [5,6,7,10] (fun _ _ _ i wr=>∃n:Nat,n≤l.length∧i=.int .i64 n∧RunR C wt ws X fp w wr k l (runG C.rf g X.d (.seq k (rss l)) f s) n g) (fun _ _ _ i _=>l.length - (intOf i).toNat)
 case atStart=>exact⟨0,Nat.zero_le _,rfl,⟨f,s,fp,g,H0.out,Gone.refl ..,HGG.out,Nat.le_refl _,by simp[cnts]⟩⟩
 case round =>
  obtain⟨n,hn,rfl,⟨f1,s1,fp1,g1,hfs,hgo,hg1,hg2,hr⟩⟩:=hrel
  have hsz:=HSZ.out
  obtain⟨g1,rfl⟩:∃g2,g1=g2+1:=⟨g1 - 1,by omega⟩
  by_cases hlt:n < l.length
  ·have hNI:=HL.out.ns.nth n hlt
   have hSI:=HL.out.ss.nth n hlt
   have hRB:=(rightSs_all l).1 HL.out.right _ (List.getElem_mem hlt)
   have hOK:=okCs_nth HL.out.calls n hlt
   have hcn:=zeS hlt
   have hcm:=cnts_take_le l (n+1)
   have hmany:=HL.out.many
   rw[rss_drop hlt] at hr
   have hcr:=cnt_rs hRB
   obtain⟨nb,o,hna,q0,q1,q7,hNI2⟩:=nod_cells hNI
   rw[Nat.zero_add] at q0 q1 q7 hNI2
   obtain⟨kn,tn,e1,e2,e3,e4,e5⟩:=kind_rs hRB
   rw[e1] at q0
   rw[e3] at q1
   have hSI2:=hSI.2
   clear hNI hSI
   have HE:=hid (And.intro e1 e5)
   generalize hK:k+cnts (l.take n)=kk at *
   have hkk:kk≤2000:=by omega
   by_cases h0:s1.left=0
   ·have HST:=hid (come_stop W hfs h0 nb (o+n*10) kk q7 hkk)
    have HR:Hid (runG C.rf g X.d (.seq k (rss l)) f s=.trap 6 (stop X.d kk s1)):=hid (by rw[hr,runG,if_pos h0])
    have HGO:=hid hgo
    subst hna
    clear hr hgo hfs q0 q1 q7 hNI2 hSI2 hRB hOK hcn hcm hmany hcr h0 hK e1 e3 e4 e5 hg1 hg2 hkk
    go_wp2_with (go_at_call 150;refine HST.out.mono ?_;rintro e w1 ⟨rfl,hh,hgn⟩;exact⟨rfl,by rw[HR.out];exact RQ.fall hh (Gone.trans HGO.out hgn hsz)⟩)
   ·have HCO:=hid (come_any W HFU.out hfs h0 nb (o+n*10) kk tn q1 q7 hkk e4)
    have hd1:∀(fp2:Nat→Prop) (W2:World),FS C wt ws X fp2 f1 (came X.d kk tn f1.L s1) W2→Calls Tryz.prog (fnK kn) #[ptr X.Fb,nptr nb (o+n*10)] W2 (RQ C wt ws X fp2 W2 (doG (runG C.rf g1) C.rf X.d kk f1 (came X.d kk tn f1.L s1) l[n].rs)):=by
     intro fp2 W2 h2
     have:=HD.out g1 (by omega) X fp2 f1 _ W2 nb (o+n*10) kk sa n l[n] h2 hNI2 hSI2 hRB hOK (by omega) (by show 2*(s1.left - 1)+2≤g1;omega)
     rwa [e1,Int.toNat_natCast] at this
    have hr2:runG C.rf g X.d (.seq k (rss l)) f s=seqO (doG (runG C.rf g1) C.rf X.d kk f1 (came X.d kk tn f1.L s1) l[n].rs) fun f' s'=>runG C.rf g1 X.d (.seq (kk+1+nB l[n].rs) (rss (l.drop (n+1)))) f' s':=by
     rw[hr,runG,if_neg h0,e5]
    have hdl:=mo_do (runG_mo C.rf g1) C.rf X.d kk f1 (came X.d kk tn f1.L s1) l[n].rs
    have hcl:(came X.d kk tn f1.L s1).left=s1.left - 1:=rfl
    generalize hoo:doG (runG C.rf g1) C.rf X.d kk f1 (came X.d kk tn f1.L s1) l[n].rs=oo at hd1 hr2 hdl
    have hk2:k+cnts (l.take (n+1))=kk+1+nB l[n].rs:=by omega
    have HGO:=hid hgo
    have HK2:=hid hk2
    have HDO:=hid hd1
    have HKC:Hid (∀(fp2:Nat→Prop) (f2:Fr) (s2:MS) (W2:World),FS C wt ws X fp2 f2 s2 W2→W2.cell? ⟨nb,o+n*10,none⟩=some (.int .i64 (kn:Nat))∧W2.cell? ⟨X.Fb,3+kn,none⟩=some (.func (.func (fnK kn)) #[ptr X.Fb] #[])):=hid fun fp2 f2 s2 W2 h2=>⟨h2.sta.cell _ _ q0,fnK_cell h2.frm e2⟩
    have eg:=fnK_ent e2
    generalize fnK kn=g0 at eg HDO HKC
    subst hna
    clear hd1 hr hgo hfs q0 q1 q7 hNI2 hSI2 hRB hOK hcn hcm hmany hcr hK e1 e3 e4 e5 hkk hoo hk2
    match oo with
    | .go 0 f2 s2 =>
     have HL2:Hid (s2.left≤s1.left - 1):=hid hdl.left
     have HR2:=hid hr2
     have HG1:=hid (And.intro h0 (And.intro hg1 hg2))
     clear hdl hr2 h0 hg1 hg2 hcl
     go_wp2_with (go_at_call 150;refine HCO.out.mono ?_;rintro e w1 ⟨rfl,fp2,h2,hgn⟩;obtain⟨t0,t1⟩:=HKC.out _ _ _ _ h2;have tl:=h2.flt;have tn9:=World.block_lt_of_cell? _ _ t0;have H2:=hid h2;have HGN:=hid (Gone.trans HGO.out hgn hsz);clear h2 hgn)
     go_region_with (go_at_fn g0;refine(HDO.out _ _ (H2.out.drew W)).mono ?_;rintro e w2 ⟨rfl,fp3,h3,h4⟩;have H3:=hid h3;have H4:=hid (Gone.trans (zbt HGN.out) h4 hsz);clear h3 h4)
     all_goals
      go_wp2
      go_round
      case rel =>
       obtain⟨a1,a2,a3⟩:=HG1.out
       have a4:=HL2.out
       exact⟨n+1,by omega,by go_num,⟨f2,s2,fp3,g1,H3.out,H4.out,by omega,by omega,by rw[HR2.out,HK2.out];rfl⟩⟩
      case measure=>simp[intOf];omega
    | .go (v+1) f2 s2 =>
     have HR2:Hid (runG C.rf g X.d (.seq k (rss l)) f s=.go (v+1) f2 s2):=hid hr2
     have ew:(((v+1:Nat):Int) != 0)=true:=by rw[bne_iff_ne];omega
     generalize v+1=vv at HR2 ew HDO
     clear hdl hr2 h0 hg1 hg2 hcl
     go_wp2_with (go_at_call 150;refine HCO.out.mono ?_;rintro e w1 ⟨rfl,fp2,h2,hgn⟩;obtain⟨t0,t1⟩:=HKC.out _ _ _ _ h2;have tl:=h2.flt;have tn9:=World.block_lt_of_cell? _ _ t0;have H2:=hid h2;have HGN:=hid (Gone.trans HGO.out hgn hsz);clear h2 hgn)
     go_region_with (go_at_fn g0;refine(HDO.out _ _ (H2.out.drew W)).mono ?_;rintro e w2 ⟨rfl,fp3,h3,h4⟩;have H3:=hid h3;have H4:=hid (Gone.trans (zbt HGN.out) h4 hsz);clear h3 h4)
     all_goals
      go_wp2
      go_ret
      rw[HR2.out]
      exact RQ.go H3.out H4.out
    | .trap t2 s2 =>
     have HR2:Hid (runG C.rf g X.d (.seq k (rss l)) f s=.trap t2 s2):=hid hr2
     have HDO2:Hid (∀(fp2:Nat→Prop) (W2:World),FS C wt ws X fp2 f1 (came X.d kk tn f1.L s1) W2→Calls Tryz.prog g0 #[ptr X.Fb,nptr nb (o+n*10)] W2 fun e w'=>(e=.returned (.int .i64 1)∧False)∨(e=.panicked [{v:=zb5 t2,recovered:=false}]∧∃fp3,Hal C wt ws X.Mb fp3 s2 w'∧Gone X fp2 fp3 W2 w')):=hid fun fp2 W2 h2=>(HDO.out fp2 W2 h2).mono fun e w' hq=>.inr hq
     clear hdl hr2 h0 hg1 hg2 hcl HDO
     go_wp2_with (go_at_call 150;refine HCO.out.mono ?_;rintro e w1 ⟨rfl,fp2,h2,hgn⟩;obtain⟨t0,t1⟩:=HKC.out _ _ _ _ h2;have tl:=h2.flt;have tn9:=World.block_lt_of_cell? _ _ t0;have H2:=hid h2;have HGN:=hid (Gone.trans HGO.out hgn hsz);clear h2 hgn)
     go_region_with (go_at_fn g0;refine(HDO2.out _ _ (H2.out.drew W)).mono ?_;intro e w2 hq;rcases hq with ⟨rfl,hf⟩ | ⟨rfl,fp3,h3,h4⟩;rotate_left;(exact⟨rfl,by rw[HR2.out];exact RQ.fall h3 (Gone.trans (zbt HGN.out) h4 hsz)⟩);have HF:=hid hf;clear hf)
     all_goals exact HF.out.elim
  ·obtain rfl:n=l.length:=by omega
   have HR:Hid (runG C.rf g X.d (.seq k (rss l)) f s=.go 0 f1 s1):=hid (by rw[hr,List.drop_length,rss,runG])
   have HF:=hid (And.intro hfs hgo)
   clear hr hfs hgo hg1 hg2 hsz
   go_wp2
   go_ret
   rw[HR.out]
   exact RQ.go HF.out.1 HF.out.2
end Go.Proofs.YtbilfdapmbahgaaGreatDoor.Rn
