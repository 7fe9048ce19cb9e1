/- Statements are counted, are right, and the same, as their parts are; in two lists they are put one behind the other: the walk of TreeStmts. -/
import Derived.Test.YtljbbhhiiiepcaaGreatDoorTProg3
import Derived.Test.YtljbbhhiiiepcaaGreatDoorTCodeP
import Derived.Lib.LaidU8
import Derived.ProofKit
set_option linter.unusedSimpArgs false
set_option linter.unusedVariables false
set_option maxHeartbeats 8000000
set_option maxRecDepth 100000
namespace Go.Proofs.YtljbbhhiiiepcaaGreatDoor
open Go Go.RowKit
open Go.Lib (hid)
mutual
def ST.cnt:ST→Nat
 | .mk _ _ _ _ _ _ _ _ _ b _ _ l=>1+(cnts b+cnts l)
def cnts:List ST→Nat
 | []=>0
 | S :: l=>S.cnt+cnts l
end
def under (l:List ST):Nat:=(l.map fun S=>S.cnt - 1).sum
theorem cnts_under (l:List ST):cnts l=l.length+under l:=by
 induction l with
 | nil=>rfl
 | cons S l ih =>
  rw[cnts,ih]
  have:1≤S.cnt:=by cases S;rw[ST.cnt];omega
  simp only[under,List.map_cons,List.sum_cons,List.length_cons]
  omega
theorem under_take {l:List ST} {n:Nat} (hn:n < l.length):under (l.take (n+1))=under (l.take n)+(l[n].cnt - 1):=by
 rw[List.take_succ_eq_append_getElem hn,under,List.map_append,List.sum_append,under];simp
def ST.body:ST→List ST
 | .mk _ _ _ _ _ _ _ _ _ b _ _ _=>b
def ST.els:ST→List ST
 | .mk _ _ _ _ _ _ _ _ _ _ _ _ l=>l
theorem cnt_parts (S:ST):S.cnt=1+(cnts S.body+cnts S.els):=by cases S;rw[ST.cnt];rfl
theorem bn_is (S:ST):S.bn=S.body.length:=by cases S;rfl
theorem ln_is (S:ST):S.ln=S.els.length:=by cases S;rfl
theorem in_body {w:World} {B:Nat} {S:ST} (h:S.In w B):SsIn w B S.ba 0 S.body∧S.body.length≤9223372036854775807:=by
 cases S;rw[ST.In] at h;exact⟨h.2.2.2.1,h.2.1.2.1⟩
theorem in_els {w:World} {B:Nat} {S:ST} (h:S.In w B):SsIn w B S.la 0 S.els∧S.els.length≤9223372036854775807:=by
 cases S;rw[ST.In] at h;exact⟨h.2.2.2.2,h.2.1.2.2⟩
theorem body_sz (S:ST):Szs S.body < S.sz∧Szs S.els < S.sz:=by
 cases S;simp only[ST.body,ST.els,ST.sz];omega
theorem wrap_small (n:Nat) (h:n≤9223372036854775807):wrap64 (n:Int)=(n:Int):=by unfold wrap64;omega
theorem wrap_step (a b c:Nat):wrap64 (wrap64 (a:Int)+wrap64 (wrap64 (b:Int)+wrap64 (c:Int)))=wrap64 ((a+(b+c):Nat):Int):=by unfold wrap64;omega
theorem count_any {w0:World}:∀(m:Nat) (a:Option Addr) (c:Nat) (l:List ST),Szs l < m→l.length≤9223372036854775807→SsIn w0 0 a 0 l→∀w,Past w0 w →
  Calls Tryz.prog 135 #[.slice a l.length c] w fun e w'=>e=.returned (.int .i64 (wrap64 (cnts l:Nat)))∧Below w.heap.size w w':=by
 intro m
 induction m with
 | zero=>intro a c l hm;omega
 | succ m ih =>
  intro a c l hm hl hin w hp
  have HC:Hid (∀(n:Nat) (hn:n < l.length) (W:World),Past w0 W→Calls Tryz.prog 135 #[.slice l[n].ba l[n].bn l[n].bc] W fun e w'=>e=.returned (.int .i64 (wrap64 (cnts l[n].body:Nat)))∧Below W.heap.size W w'):=hid fun n hn W hW=>by
   have h1:=in_body (hin.nth n hn).2
   rw[bn_is]
   exact ih l[n].ba l[n].bc l[n].body (by have:=body_sz l[n];have:=zdU hn;omega) h1.2 h1.1 W hW
  have HD:Hid (∀(n:Nat) (hn:n < l.length) (W:World),Past w0 W→Calls Tryz.prog 135 #[.slice l[n].la l[n].ln l[n].lc] W fun e w'=>e=.returned (.int .i64 (wrap64 (cnts l[n].els:Nat)))∧Below W.heap.size W w'):=hid fun n hn W hW=>by
   have h1:=in_els (hin.nth n hn).2
   rw[ln_is]
   exact ih l[n].la l[n].lc l[n].els (by have:=body_sz l[n];have:=zdU hn;omega) h1.2 h1.1 W hW
  have HI:=hid hin
  have HP:=hid hp
  clear hin hp ih hm
  go_enter Tryz.func135,Tryz.ntmps135
  go_wp2
  go_loopw [3,5,10] (fun v _ i wr=>∃n:Nat,n≤l.length∧i=.int .i64 n∧v=.int .i64 (wrap64 ((l.length+under (l.take n):Nat):Int))∧Below w.heap.size w wr) (fun _ _ i _=>l.length - (intOf i).toNat)
  case atStart=>exact⟨0,Nat.zero_le _,rfl,by rw[show l.length+under (l.take 0)=l.length from rfl,wrap_small _ hl],Below.refl _ _⟩
  case round =>
   obtain⟨n,hn,rfl,rfl,hb⟩:=hrel
   have HB:=hid hb
   clear hb
   by_cases hlt:n < l.length
   ·obtain⟨hrow,-⟩:=HI.out.nth n hlt
    have hrow':=hrow
    obtain⟨kb,ko,rfl,-⟩:=hrow'
    rw[ST.cells_eq,Nat.zero_add] at hrow
    obtain⟨r0,r1,r2,r3,r4,r5,r6,hkb⟩:=zdG hrow (HP.out.on HB.out)
    have hc1:=HC.out n hlt
    have hc2:=HD.out n hlt
    have hu:=under_take hlt
    rw[cnt_parts] at hu
    obtain⟨x,hx⟩:∃x,wrap64 ((l.length+under (l.take n):Nat):Int)=x:=⟨_,rfl⟩
    obtain⟨v1,hv1⟩:∃v1,wrap64 ((cnts l[n].body:Nat):Int)=v1:=⟨_,rfl⟩
    obtain⟨v2,hv2⟩:∃v2,wrap64 ((cnts l[n].els:Nat):Int)=v2:=⟨_,rfl⟩
    obtain⟨s,hs⟩:∃s,wrap64 (v1+v2)=s:=⟨_,rfl⟩
    obtain⟨t,ht⟩:∃t,wrap64 (x+s)=t:=⟨_,rfl⟩
    have HR:Hid (t=wrap64 ((l.length+under (l.take (n+1)):Nat):Int)):=hid (by
     rw[←ht,←hs,←hv1,←hv2,←hx,hu,wrap_step]
     congr 2
     omega)
    have e1:IntKind.i64.wrap (v1+v2)=s:=by rw[←hs,i64_wrap]
    have e2:IntKind.i64.wrap (x+s)=t:=by rw[←ht,i64_wrap]
    rw[hv1] at hc1
    rw[hv2] at hc2
    rw[hx]
    have HC1:=hid hc1
    have HC2:=hid hc2
    clear hc1 hc2 hrow hu hx hv1 hv2 hs ht HC HD
    have P0:Hid (Past w0 (wr.alloc (.cells #[.int .i64 l[n].kind,.int .i64 l[n].tag,.string l[n].name,.string l[n].func,.slice l[n].ea l[n].en l[n].ec,.slice l[n].ba l[n].bn l[n].bc,.slice l[n].la l[n].ln l[n].lc] 66)).drew):=hid (((HP.out.on HB.out).alloc _).drew)
    have B0:Hid (Below w.heap.size w (wr.alloc (.cells #[.int .i64 l[n].kind,.int .i64 l[n].tag,.string l[n].name,.string l[n].func,.slice l[n].ea l[n].en l[n].ec,.slice l[n].ba l[n].bn l[n].bc,.slice l[n].la l[n].ln l[n].lc] 66)).drew):=hid (Below.drew (HB.out.alloc HB.out.size _))
    have X0:Hid ((wr.alloc (.cells #[.int .i64 l[n].kind,.int .i64 l[n].tag,.string l[n].name,.string l[n].func,.slice l[n].ea l[n].en l[n].ec,.slice l[n].ba l[n].bn l[n].bc,.slice l[n].la l[n].ln l[n].lc] 66)).drew.heap[wr.heap.size]?=some (.cells #[.int .i64 l[n].kind,.int .i64 l[n].tag,.string l[n].name,.string l[n].func,.slice l[n].ea l[n].en l[n].ec,.slice l[n].ba l[n].bn l[n].bc,.slice l[n].la l[n].ln l[n].lc] 66 (0,0))):=hid (zaj wr _)
    go_wp2
    go_region_with (first
     | (go_at_call 135;have hx:=HC2.out _ P1.out;refine hx.mono ?_;clear hx;rintro e w3 ⟨rfl,hb3⟩;have B2:=hid (zan B1.out hb3);clear hb3)
     | (go_at_call 135;have hx:=HC1.out _ P1.out;refine hx.mono ?_;clear hx;rintro e w3 ⟨rfl,hb3⟩;have B2:=hid (zan B1.out hb3);clear hb3)
     | (go_at_call 135;have hx:=HC1.out _ P0.out;refine hx.mono ?_;clear hx;rintro e w2 ⟨rfl,hb2⟩;have P1:=hid (P0.out.on hb2);have B1:=hid (zan B0.out hb2);obtain⟨c0,c1,c2,c3,c4,c5,c6⟩:=zbB ((hb2.block wr.heap.size (lt_of_block X0.out)).trans X0.out);clear hb2)
     | (go_at_call 135;have hx:=HC2.out _ P0.out;refine hx.mono ?_;clear hx;rintro e w2 ⟨rfl,hb2⟩;have P1:=hid (P0.out.on hb2);have B1:=hid (zan B0.out hb2);obtain⟨c0,c1,c2,c3,c4,c5,c6⟩:=zbB ((hb2.block wr.heap.size (lt_of_block X0.out)).trans X0.out);clear hb2))
    all_goals
     go_wp2_with fail
     go_round
     case rel=>exact⟨n+1,by omega,by go_num,by rw[HR.out],B2.out⟩
     case measure=>simp[intOf];omega
   ·obtain rfl:n=l.length:=by omega
    have HE:Hid (wrap64 ((l.length+under (l.take l.length):Nat):Int)=wrap64 ((cnts l:Nat):Int)):=hid (by rw[List.take_length,cnts_under])
    go_wp2
    go_ret
    exact⟨by rw[←HE.out];rfl,HB.out⟩
end Go.Proofs.YtljbbhhiiiepcaaGreatDoor
namespace Go.Proofs.YtljbbhhiiiepcaaGreatDoor
open Go Go.RowKit
open Go.Lib (hid)
theorem Pow.on {w0 w:World} (H:Pow w0) (h:Past w0 w):Pow w:=fun w' h'=>H w' (h.on h')
end Go.Proofs.YtljbbhhiiiepcaaGreatDoor
namespace Go.Proofs.YtljbbhhiiiepcaaGreatDoor
open Go Go.RowKit
open Go.Lib (hid)
end Go.Proofs.YtljbbhhiiiepcaaGreatDoor
namespace Go.Proofs.YtljbbhhiiiepcaaGreatDoor
open Go Go.RowKit
open Go.Lib (hid)
end Go.Proofs.YtljbbhhiiiepcaaGreatDoor
namespace Go.Proofs.YtljbbhhiiiepcaaGreatDoor
open Go Go.RowKit
open Go.Lib (hid)
theorem gPow:Tryz.prog.globalNamed "internal/strconv.uint64pow10"=some 2:=by kernel_rfl
theorem laid_facts {l:List (String×DataW Unit)} {W:World} (h:laidMet Tryz.prog l W) (hm:("internal/strconv.uint64pow10",(Lib.tabData .u64 Lib.pow10Tab:DataW Unit))∈l:=by first | exact .head _ | exact .tail _ (.head _) | exact .tail _ (.tail _ (.head _))):Pow W:=by
 obtain⟨g,ty,cs,fuel,q,hg,hty,hv,hd⟩:=Lib.laidMet.reads h hm
 obtain rfl:=Option.some.inj (gPow.symm.trans hg)
 obtain rfl:300=ty:=Option.some.inj ((show(Tryz.prog.globals[2]?).map (·.type)=some 300 by kernel_rfl).symm.trans hty)
 refine Lib.tabBelow_of_tabIs ?_
 unfold Lib.TabIs
 rw[hv,←Lib.cells_of_tab Tryz.underlying300 Tryz.underlying173 (by kernel_rfl) (by kernel_rfl) hd]
end Go.Proofs.YtljbbhhiiiepcaaGreatDoor

namespace Go.Proofs.YtljbbhhiiiepcaaGreatDoor
open Go Go.RowKit
open Go.Lib (hid)
theorem list_names {w0:World}  (a:Option Addr) (c:Nat) (l:List ByteArray) (hl:l.length≤9223372036854775807)
  (B b:Nat) (bs:List UInt8) (k:Int) (w:World) (hB:w0.heap.size≤B) (h:Wr B b bs k w) (hp:Past w0 w) (hlen:bs.length+(zay [44,32] nmT l).length≤140737488355328) (hin:∀(i:Nat) (h:i < l.length),StrAt w0 0 a i l[i]):
  Calls Tryz.prog 125 #[ptrW b,.slice a l.length c,.func (.func 126) #[] #[]] w fun e w'=>e=.returned (.tuple #[])∧Went B b (bs++zay [44,32] nmT l) k w w':=by
 have HI:=hid hin
 have HP:=hid hp
 have HW:=hid h
 have HB:=hid hB
 have HL:=hid hlen
 clear hin hp h hB hlen
 go_enter Tryz.func125,Tryz.ntmps125
 go_wp2
 go_loopw [6,7,10] (fun _ _ i wr=>∃n:Nat,n≤l.length∧i=.int .i64 n∧Went B b (bs++zay [44,32] nmT (l.take n)) k w wr) (fun _ _ i _=>l.length - (intOf i).toNat)
 case atStart=>exact⟨0,Nat.zero_le _,rfl,HW.out.went.cast (by simp[zay])⟩
 case round =>
  obtain⟨n,hn,rfl,hw⟩:=hrel
  have HN:=hid hw
  clear hw
  by_cases hlt:n < l.length
  ·obtain⟨kb,ko,rfl,-,hc0⟩:=HI.out n hlt
   have hc:=zaP (HP.out.went HB.out HN.out) (B:=0) _ _ (Nat.zero_le _) hc0
   have hkb:=zdl hc
   clear hc0
   have et:=zdX [44,32] nmT l n hlt
   have el:=zcp [44,32] nmT l (n+1)
   have ET':=hid et
   have htot:Hid ((bs++zay [44,32] nmT (l.take n)).length+(((if n=0 then [] else [44,32]):List UInt8).length+(nmT l[n]).length)≤140737488355328):=hid (by
    rw[et,List.length_append,List.length_append] at el
    have:=HL.out
    rw[List.length_append];omega)
   clear et el
   by_cases h0:n=0
   ·have h0':decide (0 < n)=false:=decide_eq_false (by omega)
    have h0n:¬0 < n:=by omega
    have L1:Hid ((bs++zay [44,32] nmT (l.take n)).length+(nmT l[n]).length≤140737488355328):=hid (by have:=htot.out;rw[if_pos h0] at this;simp at this ⊢;omega)
    have HF:Hid (zay [44,32] nmT (l.take (n+1))=zay [44,32] nmT (l.take n)++nmT l[n]):=hid (by rw[ET'.out,if_pos h0];rfl)
    clear h0 htot ET'
    go_wp2_with (go_at_call 126;have hx:=wname_any HN.out.wr l[n] L1.out;refine hx.mono ?_;clear hx;rintro e w2 ⟨rfl,g2⟩;have G2:=hid (HN.out.trans g2);clear g2)
    go_round
    case rel=>exact⟨n+1,by omega,by go_num,G2.out.cast (by rw[HF.out,List.append_assoc])⟩
    case measure=>simp[intOf];omega
   ·have hpos:decide ((0:Int) < (n:Int))=true:=decide_eq_true (by omega)
    have ec:catB [{data:=#[44,32]}]=[44,32]:=by simp[catB]
    have EC:=hid ec
    have L1:Hid ((bs++zay [44,32] nmT (l.take n)).length+(catB [{data:=#[44,32]}]).length≤140737488355328):=hid (by have:=htot.out;rw[if_neg h0] at this;rw[ec];simp at this ⊢;omega)
    have L2:Hid (((bs++zay [44,32] nmT (l.take n))++catB [{data:=#[44,32]}]).length+(nmT l[n]).length≤140737488355328):=hid (by have:=htot.out;rw[if_neg h0] at this;rw[ec];simp at this ⊢;omega)
    have HF:Hid (zay [44,32] nmT (l.take (n+1))=zay [44,32] nmT (l.take n)++([44,32]++nmT l[n])):=hid (by rw[ET'.out,if_neg h0])
    have hltb:=hid HN.out.wr.lt
    clear ec htot ET'
    go_wp2_with (first
     | (go_at_call 126;have hx:=wname_any G1.out.wr l[n] L2.out;refine hx.mono ?_;clear hx;rintro e w2 ⟨rfl,g2⟩;have G2:=hid (G1.out.trans g2);clear g2)
     | (go_at_call 124;have hx:=zaF (HN.out.wr.alloc (.cells #[.string {data:=#[44,32]}] 9)) wr.heap.size 1 [{data:=#[44,32]}] _ (zaj _ _) rfl (by simp) L1.out;refine hx.mono ?_;clear hx;rintro e w1 ⟨rfl,g1⟩;have G1:=hid ((HN.out.alloc _).trans g1);clear g1))
    go_round
    case rel=>exact⟨n+1,by omega,by go_num,G2.out.cast (by rw[HF.out,EC.out];simp)⟩
    case measure=>simp[intOf];omega
  ·obtain rfl:n=l.length:=by omega
   go_wp2
   go_end0
   exact⟨rfl,HN.out.cast (by rw[List.take_length])⟩
theorem list_decls {w0:World} (H:Pow w0) (a:Option Addr) (c:Nat) (l:List (ByteArray×Int)) (hl:l.length≤9223372036854775807)
  (B b:Nat) (bs:List UInt8) (k:Int) (w:World) (hB:w0.heap.size≤B) (h:Wr B b bs k w) (hp:Past w0 w) (hlen:bs.length+(zay [44,32] dcT l).length≤140737488355328) (hin:∀(i:Nat) (h:i < l.length),RowAt w0 0 a i 2 #[.string l[i].1,.int .i64 l[i].2]) (hrg:∀(i:Nat) (h:i < l.length),0≤l[i].2∧l[i].2≤9223372036854775807):
  Calls Tryz.prog 185 #[ptrW b,.slice a l.length c,.func (.func 186) #[] #[]] w fun e w'=>e=.returned (.tuple #[])∧Went B b (bs++zay [44,32] dcT l) k w w':=by
 have HI:=hid hin
 have HR:=hid hrg
 have HPw:=hid H
 clear hrg H
 have HP:=hid hp
 have HW:=hid h
 have HB:=hid hB
 have HL:=hid hlen
 clear hin hp h hB hlen
 go_enter Tryz.func185,Tryz.ntmps185
 go_wp2
 go_loopw [6,7,10] (fun _ _ i wr=>∃n:Nat,n≤l.length∧i=.int .i64 n∧Went B b (bs++zay [44,32] dcT (l.take n)) k w wr) (fun _ _ i _=>l.length - (intOf i).toNat)
 case atStart=>exact⟨0,Nat.zero_le _,rfl,HW.out.went.cast (by simp[zay])⟩
 case round =>
  obtain⟨n,hn,rfl,hw⟩:=hrel
  have HN:=hid hw
  clear hw
  by_cases hlt:n < l.length
  ·have hrow:=HI.out n hlt
   have hrow':=hrow
   obtain⟨kb,ko,rfl,-⟩:=hrow'
   obtain⟨r0,r1,hkb⟩:=zcP hrow (HP.out.went HB.out HN.out)
   have HRn:=hid (HR.out n hlt)
   clear hrow
   have et:=zdX [44,32] dcT l n hlt
   have el:=zcp [44,32] dcT l (n+1)
   have ET':=hid et
   have htot:Hid ((bs++zay [44,32] dcT (l.take n)).length+(((if n=0 then [] else [44,32]):List UInt8).length+(dcT l[n]).length)≤140737488355328):=hid (by
    rw[et,List.length_append,List.length_append] at el
    have:=HL.out
    rw[List.length_append];omega)
   clear et el
   by_cases h0:n=0
   ·have h0':decide (0 < n)=false:=decide_eq_false (by omega)
    have h0n:¬0 < n:=by omega
    have L1:Hid ((bs++zay [44,32] dcT (l.take n)).length+(dcT l[n]).length≤140737488355328):=hid (by have:=htot.out;rw[if_pos h0] at this;simp at this ⊢;omega)
    have HF:Hid (zay [44,32] dcT (l.take (n+1))=zay [44,32] dcT (l.take n)++dcT l[n]):=hid (by rw[ET'.out,if_pos h0];rfl)
    clear h0 htot ET'
    go_wp2_with (go_at_call 186;have hx:=zeb HPw.out HB.out ((HP.out.went HB.out HN.out).alloc (.cells #[.string l[n].1,.int .i64 l[n].2] 76)) ((HN.out.alloc (.cells #[.string l[n].1,.int .i64 l[n].2] 76)).wr) l[n].1 l[n].2 HRn.out.1 HRn.out.2 L1.out;refine hx.mono ?_;clear hx;rintro e w2 ⟨rfl,g2⟩;have G2:=hid ((HN.out.alloc _).trans g2);clear g2)
    go_round
    case rel=>exact⟨n+1,by omega,by go_num,G2.out.cast (by rw[HF.out,List.append_assoc])⟩
    case measure=>simp[intOf];omega
   ·have hpos:decide ((0:Int) < (n:Int))=true:=decide_eq_true (by omega)
    have ec:catB [{data:=#[44,32]}]=[44,32]:=by simp[catB]
    have EC:=hid ec
    have L1:Hid ((bs++zay [44,32] dcT (l.take n)).length+(catB [{data:=#[44,32]}]).length≤140737488355328):=hid (by have:=htot.out;rw[if_neg h0] at this;rw[ec];simp at this ⊢;omega)
    have L2:Hid (((bs++zay [44,32] dcT (l.take n))++catB [{data:=#[44,32]}]).length+(dcT l[n]).length≤140737488355328):=hid (by have:=htot.out;rw[if_neg h0] at this;rw[ec];simp at this ⊢;omega)
    have HF:Hid (zay [44,32] dcT (l.take (n+1))=zay [44,32] dcT (l.take n)++([44,32]++dcT l[n])):=hid (by rw[ET'.out,if_neg h0])
    have hltb:=hid HN.out.wr.lt
    clear ec htot ET'
    go_wp2_with (first
     | (go_at_call 186;have hx:=zeb HPw.out HB.out (HP.out.went HB.out G1.out) G1.out.wr l[n].1 l[n].2 HRn.out.1 HRn.out.2 L2.out;refine hx.mono ?_;clear hx;rintro e w2 ⟨rfl,g2⟩;have G2:=hid (G1.out.trans g2);clear g2)
     | (go_at_call 124;have hx:=zaF ((HN.out.alloc (.cells #[.string l[n].1,.int .i64 l[n].2] 76)).wr.alloc (.cells #[.string {data:=#[44,32]}] 9)) (wr.heap.size+1) 1 [{data:=#[44,32]}] _ (zao _ (by simp)) rfl (by simp) L1.out;refine hx.mono ?_;clear hx;rintro e w1 ⟨rfl,g1⟩;have G1:=hid (((HN.out.alloc _).alloc _).trans g1);have hbox:=g1.keeps.box (zai _ (zaj wr _)) (Nat.ne_of_gt hltb.out) (by decide);obtain⟨d0,d1⟩:=cells2 hbox;clear g1 hbox))
    go_round
    case rel=>exact⟨n+1,by omega,by go_num,G2.out.cast (by rw[HF.out,EC.out];simp)⟩
    case measure=>simp[intOf];omega
  ·obtain rfl:n=l.length:=by omega
   go_wp2
   go_end0
   exact⟨rfl,HN.out.cast (by rw[List.take_length])⟩
end Go.Proofs.YtljbbhhiiiepcaaGreatDoor
namespace Go.Proofs.YtljbbhhiiiepcaaGreatDoor
open Go Go.RowKit
open Go.Lib (hid)
def varsT (l:List (ByteArray×Int)):List UInt8:=if l.isEmpty then [] else 9 :: ([118,97,114]++32 :: (zay [44,32] dcT l++[59,10]))
theorem varsT_is (l:List (ByteArray×Int)):putV (l.map fun d=>(d.1.data.toList,d.2.toNat))=varsT l:=by
 unfold putV varsT
 rw[commas_map]
 cases l<;>rfl
theorem vars_any {w0:World} (H:Pow w0) (a:Option Addr) (c:Nat) (l:List (ByteArray×Int)) (hl:l.length≤9223372036854775807)
  (B b:Nat) (bs:List UInt8) (w:World) (hB:w0.heap.size≤B) (h:Wr B b bs ((1:Nat):Int) w) (hp:Past w0 w) (hlen:bs.length+(varsT l).length≤140737488355328)
  (hin:∀(i:Nat) (h:i < l.length),RowAt w0 0 a i 2 #[.string l[i].1,.int .i64 l[i].2]) (hrg:∀(i:Nat) (h:i < l.length),0≤l[i].2∧l[i].2≤9223372036854775807):
  Calls Tryz.prog 128 #[ptrW b,.slice a l.length c] w fun e w'=>e=.returned (.tuple #[])∧Went B b (bs++varsT l) ((1:Nat):Int) w w':=by
 have HW:=hid h
 have HP:=hid hp
 have HB:=hid hB
 by_cases h0:l.length=0
 ·obtain rfl:l=[]:=List.length_eq_zero_iff.1 h0
  clear h hp hB hlen hin hrg H
  go_enter Tryz.func128,Tryz.ntmps128
  go_wp2_with fail
  exact bodyPost_ret (v:=.tuple #[]) (by simp[results,Tryz.results128,go_sem]) rfl ⟨rfl,HW.out.went.cast (by simp[varsT])⟩
 ·have hne:((l.length:Int)==0)=false:=by rw[show((l.length:Int)==0)=(l.length==0) from zcO l.length 0];simpa using h0
  have ev:varsT l=za4 1++([118,97,114,32]++(zay [44,32] dcT l++[59,10])):=by
   unfold varsT
   cases l with
   | nil=>exact absurd rfl h0
   | cons d l=>rfl
  have ec1:catB [{data:=#[118,97,114,32]}]=[118,97,114,32]:=by simp[catB]
  have ec2:catB [{data:=#[59,10]}]=[59,10]:=by simp[catB]
  rw[ev] at hlen ⊢
  have L0:Hid (bs.length+1≤140737488355328):=hid (by simp only[List.length_append,za2,List.length_cons,List.length_nil] at hlen;omega)
  have L1:Hid ((bs++za4 1).length+(catB [{data:=#[118,97,114,32]}]).length≤140737488355328):=hid (by rw[ec1];simp only[List.length_append,za2,List.length_cons,List.length_nil] at hlen ⊢;omega)
  have L2:Hid (((bs++za4 1)++catB [{data:=#[118,97,114,32]}]).length+(zay [44,32] dcT l).length≤140737488355328):=hid (by rw[ec1];simp only[List.length_append,za2,List.length_cons,List.length_nil] at hlen ⊢;omega)
  have L3:Hid ((((bs++za4 1)++catB [{data:=#[118,97,114,32]}])++zay [44,32] dcT l).length+(catB [{data:=#[59,10]}]).length≤140737488355328):=hid (by rw[ec1,ec2];simp only[List.length_append,za2,List.length_cons,List.length_nil] at hlen ⊢;omega)
  have EC:=hid (And.intro ec1 ec2)
  have HD:=hid (fun W hW hP hL=>list_decls H a c l hl B b ((bs++za4 1)++catB [{data:=#[118,97,114,32]}]) ((1:Nat):Int) W hB hW hP hL hin hrg)
  clear h hp hB hlen hin hrg H ev ec1 ec2
  go_enter Tryz.func128,Tryz.ntmps128
  go_wp2_with (first
   | (go_at_call 124;have hx:=zaF (G3.out.wr.alloc (.cells #[.string {data:=#[59,10]}] 9)) w3.heap.size 1 [{data:=#[59,10]}] _ (zaj _ _) rfl (by simp) L3.out;refine hx.mono ?_;clear hx;rintro e w4 ⟨rfl,g4⟩;have G4:=hid ((G3.out.alloc _).trans g4);clear g4)
   | (go_at_call 185;have hx:=HD.out _ G2.out.wr (HP.out.went HB.out G2.out) L2.out;refine hx.mono ?_;clear hx;rintro e w3 ⟨rfl,g3⟩;have G3:=hid (G2.out.trans g3);clear g3)
   | (go_at_call 124;have hx:=zaF (G1.out.wr.alloc (.cells #[.string {data:=#[118,97,114,32]}] 9)) w1.heap.size 1 [{data:=#[118,97,114,32]}] _ (zaj _ _) rfl (by simp) L1.out;refine hx.mono ?_;clear hx;rintro e w2 ⟨rfl,g2⟩;have G2:=hid ((G1.out.alloc _).trans g2);clear g2)
   | (go_at_call 184;have hx:=tabs_any HW.out L0.out;refine hx.mono ?_;clear hx;rintro e w1 ⟨rfl,g1⟩;have G1:=hid g1;clear g1))
  go_end0
  refine⟨rfl,G4.out.cast ?_⟩
  rw[EC.out.1,EC.out.2]
  simp only[List.append_assoc,List.cons_append,List.nil_append]
def FT.text (F:FT):List UInt8:=putF levL F.rf
theorem text_parts (F:FT):F.text=catB [{data:=#[102,117,110,99,32]},F.name,{data:=#[40]}]++(zay [44,32] nmT F.params++(catB [{data:=#[41]}]++([32,123,10]++(varsT F.vars++(putL levL 1 (rss F.body)++((za4 0++[125])++catB [{data:=#[10]}])))))):=by
 unfold FT.text putF
 simp only[FT.rf,varsT_is]
 rw[commas_map]
 simp only[catB,List.flatMap_cons,List.flatMap_nil,List.append_nil,za4,List.replicate_zero,List.nil_append,List.cons_append,List.append_assoc]
 rfl
theorem zb2 {w0:World} (H:Pow w0) (F:FT) (hin:F.In w0 0) (hr:F.rightB=true)
  (B b:Nat) (bs:List UInt8) (w:World) (hB:w0.heap.size≤B) (h:Wr B b bs ((0:Nat):Int) w) (hp:Past w0 w) (hlen:bs.length+F.text.length≤140737488355328):
  Calls Tryz.prog 83 #[ptrW b,F.val] w fun e w'=>e=.returned (.tuple #[])∧Went B b (bs++F.text) ((0:Nat):Int) w w':=by
 simp only[FT.rightB,Bool.and_eq_true,List.all_eq_true] at hr
 obtain⟨hr1,hr2,hr3,hr4⟩:=hr
 have hrg:∀(i:Nat) (h:i < F.vars.length),0≤F.vars[i].2∧F.vars[i].2≤9223372036854775807:=fun i hi=>by
  have h1:=hr3 _ (List.getElem_mem hi)
  have h2:=hin.vr i hi
  simp only[zcC,Bool.and_eq_true,decide_eq_true_eq] at h1
  exact⟨h1.2,h2.2⟩
 rw[text_parts] at hlen ⊢
 obtain⟨p1,hp1⟩:∃p1,catB [{data:=#[102,117,110,99,32]},F.name,{data:=#[40]}]=p1:=⟨_,rfl⟩
 obtain⟨p2,hp2⟩:∃p2,zay [44,32] nmT F.params=p2:=⟨_,rfl⟩
 obtain⟨p3,hp3⟩:∃p3,catB [{data:=#[41]}]=p3:=⟨_,rfl⟩
 obtain⟨p5,hp5⟩:∃p5,varsT F.vars=p5:=⟨_,rfl⟩
 obtain⟨p6,hp6⟩:∃p6,putL levL 1 (rss F.body)=p6:=⟨_,rfl⟩
 obtain⟨p8,hp8⟩:∃p8,catB [{data:=#[10]}]=p8:=⟨_,rfl⟩
 rw[hp1,hp2,hp3,hp5,hp6,hp8] at hlen ⊢
 simp only[List.length_append,List.length_cons,List.length_nil,za2] at hlen
 have L1:Hid (bs.length+(catB [{data:=#[102,117,110,99,32]},F.name,{data:=#[40]}]).length≤140737488355328):=hid (by rw[hp1];omega)
 have L2:Hid ((bs++p1).length+(zay [44,32] nmT F.params).length≤140737488355328):=hid (by rw[hp2,List.length_append];omega)
 have L3:Hid (((bs++p1)++p2).length+(catB [{data:=#[41]}]).length≤140737488355328):=hid (by rw[hp3];simp only[List.length_append];omega)
 have L4:Hid ((((bs++p1)++p2)++p3).length+3≤140737488355328):=hid (by simp only[List.length_append];omega)
 have L5:Hid (((((bs++p1)++p2)++p3)++[32,123,10]).length+(varsT F.vars).length≤140737488355328):=hid (by rw[hp5];simp only[List.length_append,List.length_cons,List.length_nil];omega)
 have L6:Hid ((((((bs++p1)++p2)++p3)++[32,123,10])++p5).length+p6.length≤140737488355328):=hid (by simp only[List.length_append,List.length_cons,List.length_nil];omega)
 have L7:Hid (((((((bs++p1)++p2)++p3)++[32,123,10])++p5)++p6).length+0+1≤140737488355328):=hid (by simp only[List.length_append,List.length_cons,List.length_nil];omega)
 have L8:Hid ((((((((bs++p1)++p2)++p3)++[32,123,10])++p5)++p6)++(za4 0++[125])).length+(catB [{data:=#[10]}]).length≤140737488355328):=hid (by rw[hp8];simp only[List.length_append,List.length_cons,List.length_nil,za2];omega)
 have HN:Hid (∀W,Wr B b (bs++p1) ((0:Nat):Int) W→Past w0 W→Calls Tryz.prog 125 #[ptrW b,.slice F.pa F.params.length F.pc,.func (.func 126) #[] #[]] W fun e w'=>e=.returned (.tuple #[])∧Went B b ((bs++p1)++p2) ((0:Nat):Int) W w'):=hid fun W hW hP=>by
  have:=list_names F.pa F.pc F.params hin.pl B b (bs++p1) ((0:Nat):Int) W hB hW hP L2.out hin.ps
  rwa [hp2] at this
 have HV:Hid (∀W,Wr B b ((((bs++p1)++p2)++p3)++[32,123,10]) ((1:Nat):Int) W→Past w0 W→Calls Tryz.prog 128 #[ptrW b,.slice F.va F.vars.length F.vc] W fun e w'=>e=.returned (.tuple #[])∧Went B b (((((bs++p1)++p2)++p3)++[32,123,10])++p5) ((1:Nat):Int) W w'):=hid fun W hW hP=>by
  have:=vars_any H F.va F.vc F.vars hin.vl B b ((((bs++p1)++p2)++p3)++[32,123,10]) W hB hW hP L5.out hin.vs hrg
  rwa [hp5] at this
 have HS:Hid (StmtsDoes w0 1 (.slice F.ba F.body.length F.bc) p6):=hid (by
  have:=stmts_any H 1 F.ba F.bc F.body hin.bl hin.ss hr4
  rwa [hp6] at this)
 have E1:=hid hp1
 have E3:=hid hp3
 have E8:=hid hp8
 have HW:=hid h
 have HP:=hid hp
 have HB:=hid hB
 have hltb:=hid h.lt
 have h00:Hid ((0:Nat)≤140737488355328):=hid (by omega)
 clear h hp hB hlen hr1 hr2 hr3 hr4 hrg hin H hp1 hp2 hp3 hp5 hp6 hp8 L2 L5
 show Calls Tryz.prog 83 #[ptrW b,.agg #[.string F.name,.slice F.pa F.params.length F.pc,.slice F.va F.vars.length F.vc,.slice F.ba F.body.length F.bc]] w _
 generalize F.name=nm at L1 E1
 generalize F.params.length=pl at HN
 generalize F.vars.length=vl at HV
 generalize F.body.length=bl at HS
 generalize F.pa=pa at HN
 generalize F.va=va at HV
 generalize F.ba=ba at HS
 generalize F.pc=pc at HN
 generalize F.vc=vc at HV
 generalize F.bc=bc at HS
 go_enter Tryz.func83,Tryz.ntmps83
 go_wp2_with (first
  | (go_at_call 124;have hx:=zaF (G7.out.wr.alloc (.cells #[.string {data:=#[10]}] 9)) w7.heap.size 1 [{data:=#[10]}] _ (zaj _ _) rfl (by simp) L8.out;refine hx.mono ?_;clear hx;rintro e w8 ⟨rfl,g8⟩;have G8:=hid ((G7.out.alloc _).trans g8);clear g8)
  | (go_at_call 130;have hx:=shut_any (d:=0) G6.out.wr L7.out;refine hx.mono ?_;clear hx;rintro e w7 ⟨rfl,g7⟩;have G7:=hid (G6.out.trans g7);clear g7)
  | (go_at_call 129;have hx:=HS.out B b _ _ HB.out G5.out.wr (HP.out.went HB.out G5.out) L6.out;refine hx.mono ?_;clear hx;rintro e w6 ⟨rfl,g6⟩;have G6:=hid (G5.out.trans g6);clear g6)
  | (go_at_call 128;have hx:=HV.out _ G4.out.wr (HP.out.went HB.out G4.out);refine hx.mono ?_;clear hx;rintro e w5 ⟨rfl,g5⟩;have G5:=hid (G4.out.trans g5);have X5:=hid (g5.keeps.box X4.out (Nat.ne_of_gt hltb.out) (by decide));obtain⟨t0,t1,t2,t3⟩:=zea X5.out;clear g5)
  | (go_at_call 127;have hx:=open_any (d:=0) G3.out.wr h00.out L4.out;refine hx.mono ?_;clear hx;rintro e w4 ⟨rfl,g4⟩;have G4:=hid (G3.out.trans g4);have X4:=hid (g4.keeps.box X3.out (Nat.ne_of_gt hltb.out) (by decide));obtain⟨s0,s1,s2,s3⟩:=zea X4.out;clear g4)
  | (go_at_call 124;have hx:=zaF (G2.out.wr.alloc (.cells #[.string {data:=#[41]}] 9)) w2.heap.size 1 [{data:=#[41]}] _ (zaj _ _) rfl (by simp) L3.out;refine hx.mono ?_;clear hx;rw[E3.out];rintro e w3 ⟨rfl,g3⟩;have G3:=hid ((G2.out.alloc _).trans g3);have X3:=hid (g3.keeps.box (zai _ X2.out) (Nat.ne_of_gt hltb.out) (by decide));obtain⟨r0,r1,r2,r3⟩:=zea X3.out;clear g3)
  | (go_at_call 125;have hx:=HN.out _ G1.out.wr (HP.out.went HB.out G1.out);refine hx.mono ?_;clear hx;rintro e w2 ⟨rfl,g2⟩;have G2:=hid (G1.out.trans g2);have X2:=hid (g2.keeps.box X1.out (Nat.ne_of_gt hltb.out) (by decide));obtain⟨d0,d1,d2,d3⟩:=zea X2.out;clear g2)
  | (go_at_call 124;have hx:=zaF ((HW.out.alloc (.cells #[.string nm,.slice pa pl pc,.slice va vl vc,.slice ba bl bc] 47)).alloc (.cells #[.string {data:=#[102,117,110,99,32]},.string nm,.string {data:=#[40]}] 9)) (w.heap.size+1) 3 [{data:=#[102,117,110,99,32]},nm,{data:=#[40]}] _ (zao _ (by simp)) rfl (by simp) L1.out;refine hx.mono ?_;clear hx;rw[E1.out];rintro e w1 ⟨rfl,g1⟩;have G1:=hid (((HW.out.went.alloc _).alloc _).trans g1);have X1:=hid (g1.keeps.box (zai _ (zaj w _)) (Nat.ne_of_gt hltb.out) (by decide));obtain⟨c0,c1,c2,c3⟩:=zea X1.out;clear g1))
 go_end0
 refine⟨rfl,G8.out.cast ?_⟩
 rw[E8.out]
 simp only[List.append_assoc,List.cons_append,List.nil_append]
end Go.Proofs.YtljbbhhiiiepcaaGreatDoor
namespace Go.Proofs.YtljbbhhiiiepcaaGreatDoor
open Go Go.RowKit
open Go.Lib (hid)
end Go.Proofs.YtljbbhhiiiepcaaGreatDoor

namespace Go.Proofs.YtljbbhhiiiepcaaGreatDoor
open Go Go.RowKit
theorem run_append_zero {P:Program} {w:World} (base:Nat) (t ty e:TypeId) (i:TypeInfo) (size:Nat) (ht:P.underlying t=some (.slice e)) (hi:P.info? e=some i) {v:Value} {n:Nat} {xs:List Value}
  (hown:w.ownsRow base e size v n xs) (c:Nat):(Builtin.append_ #[t,t] ty #[v,.slice none 0 c]).run P w=.ok v w:=by
 rcases hown.2 with ⟨rfl,rfl⟩ | ⟨g,cap,cur,rfl,-,-,hn,-⟩<;>simp[*,run_underlying ht,Builtin.append_,typeInfo,sizeOf,Builtin.firstCells,Builtin.lenOf,storeCells]
theorem flat_len (l:List ST):(l.flatMap fun S=>S.cells.toList).length=l.length*7:=by
 induction l with
 | nil=>rfl
 | cons S l ih=>rw[List.flatMap_cons,List.length_append,ih,zcn,List.length_cons];omega
theorem flat_one (l:List ST):∀u∈(l.flatMap fun S=>S.cells.toList),u.oneCell'=true:=by
 intro u hu
 obtain⟨S,-,hS⟩:=List.mem_flatMap.1 hu
 rw[ST.cells_eq] at hS
 exact sev_one S u hS
theorem src_of {w:World} {B:Nat} {a:Option Addr} {l:List ST} (h:SsIn w B a 0 l):(a=none∧l.length=0)∨∃ad,a=some ad∧∀j u,(l.flatMap fun S=>S.cells.toList)[j]?=some u→w.cell? (ad.add j)=some u:=by
 cases a with
 | none =>
  left
  refine⟨rfl,?_⟩
  cases l with
  | nil=>rfl
  | cons S l =>
   obtain⟨⟨b,o,e,-⟩,-⟩:=h.nth 0 (by simp)
   cases e
 | some ad =>
  right
  refine⟨ad,rfl,fun j u hj=>?_⟩
  have hlt:j < l.length*7:=by
   rw[←flat_len]
   rcases Nat.lt_or_ge j (l.flatMap fun S=>S.cells.toList).length with h2 | h2
   ·exact h2
   ·rw[List.getElem?_eq_none h2] at hj;cases hj
  have hi:j / 7 < l.length:=by omega
  obtain⟨⟨b,o,e,-,hc⟩,-⟩:=h.nth (j / 7) hi
  obtain rfl:ad=⟨b,o,none⟩:=by simpa using e
  rw[show j=j / 7*7+j % 7 by omega,flat_at l _ _ hi (by omega)] at hj
  have:=hc (j % 7) u (by simpa using hj)
  have e2:(⟨b,o,none⟩:Addr).add j=⟨b,o+j,none⟩:=by
   unfold Addr.add
   split
   ·rename_i h;subst h;rfl
   ·rfl
  rw[e2,←this]
  congr 2
  omega
end Go.Proofs.YtljbbhhiiiepcaaGreatDoor
