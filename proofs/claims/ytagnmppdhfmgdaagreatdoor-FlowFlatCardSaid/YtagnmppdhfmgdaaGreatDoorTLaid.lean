/- What Count answers of statements that lie in memory. -/
import Derived.Test.YtagnmppdhfmgdaaGreatDoorTRight2
import Derived.Lib.LaidU8
import Derived.ProofKit
set_option linter.unusedSimpArgs false
set_option linter.unusedVariables false
set_option maxHeartbeats 8000000
set_option maxRecDepth 100000
namespace Go.Proofs.YtagnmppdhfmgdaaGreatDoor
open Go Go.RowKit
open Go.Lib (hid)
mutual
def ST.cnt:ST→Nat
 | .mk _ _ _ _ _ _ _ _ _ b _ _ l=>1+(cnts b+cnts l)
def cnts:List ST→Nat
 | []=>0
 | S :: l=>S.cnt+cnts l
end
def under (l:List ST):Nat:=(l.map fun S=>S.cnt - 1).sum
theorem cnts_under (l:List ST):cnts l=l.length+under l:=by
 induction l with
 | nil=>rfl
 | cons S l ih =>
  rw[cnts,ih]
  have:1≤S.cnt:=by cases S;rw[ST.cnt];omega
  simp only[under,List.map_cons,List.sum_cons,List.length_cons]
  omega
theorem under_take {l:List ST} {n:Nat} (hn:n < l.length):under (l.take (n+1))=under (l.take n)+(l[n].cnt - 1):=by
 rw[List.take_succ_eq_append_getElem hn,under,List.map_append,List.sum_append,under];simp
def ST.body:ST→List ST
 | .mk _ _ _ _ _ _ _ _ _ b _ _ _=>b
def ST.els:ST→List ST
 | .mk _ _ _ _ _ _ _ _ _ _ _ _ l=>l
theorem zbP (S:ST):S.cnt=1+(cnts S.body+cnts S.els):=by cases S;rw[ST.cnt];rfl
theorem bn_is (S:ST):S.bn=S.body.length:=by cases S;rfl
theorem ln_is (S:ST):S.ln=S.els.length:=by cases S;rfl
theorem in_body {w:World} {B:Nat} {S:ST} (h:S.In w B):SsIn w B S.ba 0 S.body∧S.body.length≤9223372036854775807:=by
 cases S;rw[ST.In] at h;exact⟨h.2.2.2.1,h.2.1.2.1⟩
theorem in_els {w:World} {B:Nat} {S:ST} (h:S.In w B):SsIn w B S.la 0 S.els∧S.els.length≤9223372036854775807:=by
 cases S;rw[ST.In] at h;exact⟨h.2.2.2.2,h.2.1.2.2⟩
theorem zcc (S:ST):Szs S.body < S.sz∧Szs S.els < S.sz:=by
 cases S;simp only[ST.body,ST.els,ST.sz];omega
theorem wrap_small (n:Nat) (h:n≤9223372036854775807):wrap64 (n:Int)=(n:Int):=by unfold wrap64;omega
theorem wrap_step (a b c:Nat):wrap64 (wrap64 (a:Int)+wrap64 (wrap64 (b:Int)+wrap64 (c:Int)))=wrap64 ((a+(b+c):Nat):Int):=by unfold wrap64;omega
theorem count_any {w0:World}:∀(m:Nat) (a:Option Addr) (c:Nat) (l:List ST),Szs l < m→l.length≤9223372036854775807→SsIn w0 0 a 0 l→∀w,Past w0 w →
  Calls Tryz.prog 22 #[.slice a l.length c] w fun e w'=>e=.returned (.int .i64 (wrap64 (cnts l:Nat)))∧Below w.heap.size w w':=by
 intro m
 induction m with
 | zero=>intro a c l hm;omega
 | succ m ih =>
  intro a c l hm hl hin w hp
  have HC:Hid (∀(n:Nat) (hn:n < l.length) (W:World),Past w0 W→Calls Tryz.prog 22 #[.slice l[n].ba l[n].bn l[n].bc] W fun e w'=>e=.returned (.int .i64 (wrap64 (cnts l[n].body:Nat)))∧Below W.heap.size W w'):=hid fun n hn W hW=>by
   have h1:=in_body (hin.nth n hn).2
   rw[bn_is]
   exact ih l[n].ba l[n].bc l[n].body (by have:=zcc l[n];have:=zdB hn;omega) h1.2 h1.1 W hW
  have HD:Hid (∀(n:Nat) (hn:n < l.length) (W:World),Past w0 W→Calls Tryz.prog 22 #[.slice l[n].la l[n].ln l[n].lc] W fun e w'=>e=.returned (.int .i64 (wrap64 (cnts l[n].els:Nat)))∧Below W.heap.size W w'):=hid fun n hn W hW=>by
   have h1:=in_els (hin.nth n hn).2
   rw[ln_is]
   exact ih l[n].la l[n].lc l[n].els (by have:=zcc l[n];have:=zdB hn;omega) h1.2 h1.1 W hW
  have HI:=hid hin
  have HP:=hid hp
  clear hin hp ih hm
  go_enter Tryz.func22,Tryz.ntmps22
  go_wp2
  go_loopw [3,5,10] (fun v _ i wr=>∃n:Nat,n≤l.length∧i=.int .i64 n∧v=.int .i64 (wrap64 ((l.length+under (l.take n):Nat):Int))∧Below w.heap.size w wr) (fun _ _ i _=>l.length - (intOf i).toNat)
  case atStart=>exact⟨0,Nat.zero_le _,rfl,by rw[show l.length+under (l.take 0)=l.length from rfl,wrap_small _ hl],Below.refl _ _⟩
  case round =>
   obtain⟨n,hn,rfl,rfl,hb⟩:=hrel
   have HB:=hid hb
   clear hb
   by_cases hlt:n < l.length
   ·obtain⟨hrow,-⟩:=HI.out.nth n hlt
    have hrow':=hrow
    obtain⟨kb,ko,rfl,-⟩:=hrow'
    rw[ST.cells_eq,Nat.zero_add] at hrow
    obtain⟨r0,r1,r2,r3,r4,r5,r6,hkb⟩:=zdm hrow (HP.out.on HB.out)
    have hc1:=HC.out n hlt
    have hc2:=HD.out n hlt
    have hu:=under_take hlt
    rw[zbP] at hu
    obtain⟨x,hx⟩:∃x,wrap64 ((l.length+under (l.take n):Nat):Int)=x:=⟨_,rfl⟩
    obtain⟨v1,hv1⟩:∃v1,wrap64 ((cnts l[n].body:Nat):Int)=v1:=⟨_,rfl⟩
    obtain⟨v2,hv2⟩:∃v2,wrap64 ((cnts l[n].els:Nat):Int)=v2:=⟨_,rfl⟩
    obtain⟨s,hs⟩:∃s,wrap64 (v1+v2)=s:=⟨_,rfl⟩
    obtain⟨t,ht⟩:∃t,wrap64 (x+s)=t:=⟨_,rfl⟩
    have HR:Hid (t=wrap64 ((l.length+under (l.take (n+1)):Nat):Int)):=hid (by
     rw[←ht,←hs,←hv1,←hv2,←hx,hu,wrap_step]
     congr 2
     omega)
    have e1:IntKind.i64.wrap (v1+v2)=s:=by rw[←hs,i64_wrap]
    have e2:IntKind.i64.wrap (x+s)=t:=by rw[←ht,i64_wrap]
    rw[hv1] at hc1
    rw[hv2] at hc2
    rw[hx]
    have HC1:=hid hc1
    have HC2:=hid hc2
    clear hc1 hc2 hrow hu hx hv1 hv2 hs ht HC HD
    have P0:Hid (Past w0 (wr.alloc (.cells #[.int .i64 l[n].kind,.int .i64 l[n].tag,.string l[n].name,.string l[n].func,.slice l[n].ea l[n].en l[n].ec,.slice l[n].ba l[n].bn l[n].bc,.slice l[n].la l[n].ln l[n].lc] 61)).drew):=hid (((HP.out.on HB.out).alloc _).drew)
    have B0:Hid (Below w.heap.size w (wr.alloc (.cells #[.int .i64 l[n].kind,.int .i64 l[n].tag,.string l[n].name,.string l[n].func,.slice l[n].ea l[n].en l[n].ec,.slice l[n].ba l[n].bn l[n].bc,.slice l[n].la l[n].ln l[n].lc] 61)).drew):=hid (Below.drew (HB.out.alloc HB.out.size _))
    have X0:Hid ((wr.alloc (.cells #[.int .i64 l[n].kind,.int .i64 l[n].tag,.string l[n].name,.string l[n].func,.slice l[n].ea l[n].en l[n].ec,.slice l[n].ba l[n].bn l[n].bc,.slice l[n].la l[n].ln l[n].lc] 61)).drew.heap[wr.heap.size]?=some (.cells #[.int .i64 l[n].kind,.int .i64 l[n].tag,.string l[n].name,.string l[n].func,.slice l[n].ea l[n].en l[n].ec,.slice l[n].ba l[n].bn l[n].bc,.slice l[n].la l[n].ln l[n].lc] 61 (0,0))):=hid (zai wr _)
    go_wp2
    go_region_with (first
     | (go_at_call 22;have hx:=HC2.out _ P1.out;refine hx.mono ?_;clear hx;rintro e w3 ⟨rfl,hb3⟩;have B2:=hid (zaE B1.out hb3);clear hb3)
     | (go_at_call 22;have hx:=HC1.out _ P1.out;refine hx.mono ?_;clear hx;rintro e w3 ⟨rfl,hb3⟩;have B2:=hid (zaE B1.out hb3);clear hb3)
     | (go_at_call 22;have hx:=HC1.out _ P0.out;refine hx.mono ?_;clear hx;rintro e w2 ⟨rfl,hb2⟩;have P1:=hid (P0.out.on hb2);have B1:=hid (zaE B0.out hb2);obtain⟨c0,c1,c2,c3,c4,c5,c6⟩:=cells7 ((hb2.block wr.heap.size (lt_of_block X0.out)).trans X0.out);clear hb2)
     | (go_at_call 22;have hx:=HC2.out _ P0.out;refine hx.mono ?_;clear hx;rintro e w2 ⟨rfl,hb2⟩;have P1:=hid (P0.out.on hb2);have B1:=hid (zaE B0.out hb2);obtain⟨c0,c1,c2,c3,c4,c5,c6⟩:=cells7 ((hb2.block wr.heap.size (lt_of_block X0.out)).trans X0.out);clear hb2))
    all_goals
     go_wp2_with fail
     go_round
     case rel=>exact⟨n+1,by omega,by go_num,by rw[HR.out],B2.out⟩
     case measure=>simp[intOf];omega
   ·obtain rfl:n=l.length:=by omega
    have HE:Hid (wrap64 ((l.length+under (l.take l.length):Nat):Int)=wrap64 ((cnts l:Nat):Int)):=hid (by rw[List.take_length,cnts_under])
    go_wp2
    go_ret
    exact⟨by rw[←HE.out];rfl,HB.out⟩
end Go.Proofs.YtagnmppdhfmgdaaGreatDoor
namespace Go.Proofs.YtagnmppdhfmgdaaGreatDoor
open Go Go.RowKit
open Go.Lib (hid)
theorem Pow.on {w0 w:World} (H:Pow w0) (h:Past w0 w):Pow w:=fun w' h'=>H w' (h.on h')
end Go.Proofs.YtagnmppdhfmgdaaGreatDoor
namespace Go.Proofs.YtagnmppdhfmgdaaGreatDoor
open Go Go.RowKit
open Go.Lib (hid)
end Go.Proofs.YtagnmppdhfmgdaaGreatDoor
namespace Go.Proofs.YtagnmppdhfmgdaaGreatDoor
open Go Go.RowKit
open Go.Lib (hid)
end Go.Proofs.YtagnmppdhfmgdaaGreatDoor
namespace Go.Proofs.YtagnmppdhfmgdaaGreatDoor
open Go Go.RowKit
open Go.Lib (hid)
theorem gPow:Tryz.prog.globalNamed "internal/strconv.uint64pow10"=some 2:=by kernel_rfl
theorem laid_facts {l:List (String×DataW Unit)} {W:World} (h:laidMet Tryz.prog l W) (hm:("internal/strconv.uint64pow10",(Lib.tabData .u64 Lib.pow10Tab:DataW Unit))∈l:=by first | exact .head _ | exact .tail _ (.head _) | exact .tail _ (.tail _ (.head _))):Pow W:=by
 obtain⟨g,ty,cs,fuel,q,hg,hty,hv,hd⟩:=Lib.laidMet.reads h hm
 obtain rfl:=Option.some.inj (gPow.symm.trans hg)
 obtain rfl:231=ty:=Option.some.inj ((show(Tryz.prog.globals[2]?).map (·.type)=some 231 by kernel_rfl).symm.trans hty)
 refine Lib.tabBelow_of_tabIs ?_
 unfold Lib.TabIs
 rw[hv,←Lib.cells_of_tab Tryz.underlying231 Tryz.underlying120 (by kernel_rfl) (by kernel_rfl) hd]
end Go.Proofs.YtagnmppdhfmgdaaGreatDoor
