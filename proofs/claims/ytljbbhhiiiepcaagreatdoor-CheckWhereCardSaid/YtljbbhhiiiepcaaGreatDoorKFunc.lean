/- What is wrong with one function. -/
import Derived.Test.YtljbbhhiiiepcaaGreatDoorKLists
import Derived.Test.YtljbbhhiiiepcaaGreatDoorTStmts
set_option linter.unusedSimpArgs false
set_option linter.unusedVariables false
set_option maxHeartbeats 8000000
set_option maxRecDepth 100000
namespace Go.Proofs.YtljbbhhiiiepcaaGreatDoor.Ck
open Go Go.RowKit Go.Proofs.YtljbbhhiiiepcaaGreatDoor
open Go.Lib (hid)
section
variable {w0:World} {a:Option Addr} {l:List FT} {c mb i bx bi bf:Nat} {F:FT}
theorem stmt_code (S:ST) (b:Bool) (seen:List Int) (r1 r2:Nat×List Int) (e1:zaQ l i F (zap b S) S.body (zbu S seen)=r1) (e2:zaQ l i F (zap b S) S.els r1.2=r2):
  (chkS l i F b S seen).1=zau (cd [askF l i F S b seen,r1.1,r2.1]) 3∧((chkS l i F b S seen).1=0→(chkS l i F b S seen).2=r2.2):=by
 rw[chkS_eq]
 show _=orE (orE (orE 0 (askF l i F S b seen)) r1.1) r2.1∧_
 generalize askF l i F S b seen=q
 unfold andThen
 by_cases h0:q=0
 ·subst h0
  simp only[if_true,e1,zcA]
  by_cases h1:r1.1=0
  ·rw[if_pos h1,e2,h1,zcA];exact⟨rfl,fun _=>rfl⟩
  ·rw[if_neg h1,orE_ne h1];exact⟨rfl,fun h=>absurd h h1⟩
 ·simp only[if_neg h0,zcA]
  rw[orE_ne h0,orE_ne h0];exact⟨rfl,fun h=>absurd h h0⟩
theorem stmt_step (X:Fix w0 a l c mb i bx bi bf F) (S:ST) (hS:S.In w0 0) (k1:SubOk w0 a l c mb i bx bi bf F S.ba S.bn S.bc S.body) (k2:SubOk w0 a l c mb i bx bi bf F S.la S.ln S.lc S.els) (looped:Bool) (seen:List Int) (hl:seen.length+S.cnt≤1000000) (ba bo:Nat) (nba:ba≠mb) (nbo:bo≠mb) (w:World) (hE:Env w0 a l c mb i bx bi bf F w) (hT:Tg mb w seen) (ha:Box w ba (askV bx bi bf) 164) (hb:Box w bo (.bool looped) 4):
  Calls Tryz.prog 140 #[.agg #[.int .i64 S.kind,.int .i64 S.tag,.string S.name,.string S.func,.slice S.ea S.en S.ec,.slice S.ba S.bn S.bc,.slice S.la S.ln S.lc],.pointer (some ⟨bo,0,none⟩),.pointer (some ⟨ba,0,none⟩)] w (Ans mb w (chkS l i F looped S seen)):=by
 obtain⟨r1,e1⟩:∃r1,zaQ l i F (zap looped S) S.body (zbu S seen)=r1:=⟨_,rfl⟩
 obtain⟨r2,e2⟩:∃r2,zaQ l i F (zap looped S) S.els r1.2=r2:=⟨_,rfl⟩
 have HV:=hid (stmt_code S looped seen r1 r2 e1 e2)
 have HLN:Hid (seen.length≤1000000∧(zbu S seen).length+cnts S.body≤1000000∧r1.2.length+cnts S.els≤1000000):=hid (by
  have h1:=seenF_len S seen
  have h2:=chk_len (l:=l) (i:=i) (F:=F) _ S.body (Nat.lt_succ_self _) (zap looped S) (zbu S seen)
  rw[e1] at h2
  have h3:=cnt_parts S
  exact⟨by omega,by omega,by omega⟩)
 have HE:=hid hE
 have HT:=hid hT
 have HX:=hid X
 have HS:=hid hS
 have HA:=hid ha
 have HO:=hid hb
 have HK1:=hid k1
 have HK2:=hid k2
 have HR1:=hid e1
 have HR2:=hid e2
 have o0:=hb.c0
 have hlo:=hb.lt
 have hla:=ha.lt
 clear hE hT X hS ha hb k1 k2 e1 e2 hl
 cases looped
 ·by_cases h5:S.kind=5
  ·have e5:(S.kind==5)=true:=by simpa using h5
   have HWI:Hid (zap false S=true):=hid (by unfold zap;rw[decide_eq_true h5];rfl)
   rw[HWI.out] at HR1 HR2
   clear h5
   go_enter Tryz.func140,Tryz.ntmps140
   go_wp2_with (go_at_call 35;refine(zcU mb [(141,#[.pointer (some ⟨ba,0,none⟩),.pointer (some ⟨w.heap.size,0,none⟩),.pointer (some ⟨bo,0,none⟩)]),(142,#[.pointer (some ⟨w.heap.size,0,none⟩),.pointer (some ⟨w.heap.size+1,0,none⟩),.pointer (some ⟨ba,0,none⟩)]),(143,#[.pointer (some ⟨w.heap.size,0,none⟩),.pointer (some ⟨w.heap.size+1,0,none⟩),.pointer (some ⟨ba,0,none⟩)])] (cd [askF l i F S false seen,r1.1,r2.1]) (stl [seen,zbu S seen,r1.2,r2.2]) _ _ (by show 3≤100;decide) ?_ ?_ ?_ ?_ ?_).mono ?_;(have:=HT.out.lt;simp;omega);(intro k h;match k,h with | 0,_=>exact enters_of Tryz.func141 (by kernel_rfl) rfl | 1,_=>exact enters_of Tryz.func142 (by kernel_rfl) rfl | 2,_=>exact enters_of Tryz.func143 (by kernel_rfl) rfl | k+3,h=>exact absurd h (by simp));(intro k h;match k,h with | 0,_=>(refine zab (nb _ (by simp)) ?_;rfl) | 1,_=>(refine zab (nb _ (by simp)) ?_;rfl) | 2,_=>(refine zab (nb _ (by simp)) ?_;rfl) | k+3,h=>exact absurd h (by simp));(intro k h W hz hW hT;match k,h with | 0,_=>exact sub1_any HX.out S HS.out false seen HLN.out.1 ba w.heap.size bo W (Env.on HX.out HE.out (zaA (zah (zah (zah (zaC _ _) _) _) _) hW)) hT (zaq hW nba (ob _ (ob _ (ob _ HA.out)))) (zaq hW (by have:=HT.out.lt;omega) (ob _ (ob _ (nb _ rfl)))) (zaq hW nbo (ob _ (ob _ (ob _ HO.out)))) | 1,_=>(rw[←HR1.out];exact sub2_any S true (zbu S seen) HK1.out HLN.out.2.1 ba w.heap.size (w.heap.size+1) W (Env.on HX.out HE.out (zaA (zah (zah (zah (zaC _ _) _) _) _) hW)) hT (zaq hW nba (ob _ (ob _ (ob _ HA.out)))) (zaq hW (by have:=HT.out.lt;omega) (ob _ (ob _ (nb _ rfl)))) (zaq hW (by have:=HT.out.lt;omega) (ob _ (nb _ (by simp))))) | 2,_=>(rw[←HR2.out];exact sub3_any S true r1.2 HK2.out HLN.out.2.2 ba w.heap.size (w.heap.size+1) W (Env.on HX.out HE.out (zaA (zah (zah (zah (zaC _ _) _) _) _) hW)) hT (zaq hW nba (ob _ (ob _ (ob _ HA.out)))) (zaq hW (by have:=HT.out.lt;omega) (ob _ (ob _ (nb _ rfl)))) (zaq hW (by have:=HT.out.lt;omega) (ob _ (nb _ (by simp))))) | k+3,h=>exact absurd h (by simp));(exact((HT.out.alloc _).alloc _).alloc _);intro e w2 hA;have HQ:=hid hA;obtain⟨rfl,-⟩:=hA)
   go_ret
   exact HQ.out.re (zah (zah (zah (zaC _ _) _) _) _) rfl HV.out.1 HV.out.2
  ·have e5:(S.kind==5)=false:=by simpa using h5
   have HWI:Hid (zap false S=false):=hid (by unfold zap;rw[decide_eq_false h5];rfl)
   rw[HWI.out] at HR1 HR2
   clear h5
   go_enter Tryz.func140,Tryz.ntmps140
   go_wp2_with (go_at_call 35;refine(zcU mb [(141,#[.pointer (some ⟨ba,0,none⟩),.pointer (some ⟨w.heap.size,0,none⟩),.pointer (some ⟨bo,0,none⟩)]),(142,#[.pointer (some ⟨w.heap.size,0,none⟩),.pointer (some ⟨w.heap.size+1,0,none⟩),.pointer (some ⟨ba,0,none⟩)]),(143,#[.pointer (some ⟨w.heap.size,0,none⟩),.pointer (some ⟨w.heap.size+1,0,none⟩),.pointer (some ⟨ba,0,none⟩)])] (cd [askF l i F S false seen,r1.1,r2.1]) (stl [seen,zbu S seen,r1.2,r2.2]) _ _ (by show 3≤100;decide) ?_ ?_ ?_ ?_ ?_).mono ?_;(have:=HT.out.lt;simp;omega);(intro k h;match k,h with | 0,_=>exact enters_of Tryz.func141 (by kernel_rfl) rfl | 1,_=>exact enters_of Tryz.func142 (by kernel_rfl) rfl | 2,_=>exact enters_of Tryz.func143 (by kernel_rfl) rfl | k+3,h=>exact absurd h (by simp));(intro k h;match k,h with | 0,_=>(refine zab (nb _ (by simp)) ?_;rfl) | 1,_=>(refine zab (nb _ (by simp)) ?_;rfl) | 2,_=>(refine zab (nb _ (by simp)) ?_;rfl) | k+3,h=>exact absurd h (by simp));(intro k h W hz hW hT;match k,h with | 0,_=>exact sub1_any HX.out S HS.out false seen HLN.out.1 ba w.heap.size bo W (Env.on HX.out HE.out (zaA (zah (zah (zah (zaC _ _) _) _) _) hW)) hT (zaq hW nba (ob _ (ob _ (ob _ HA.out)))) (zaq hW (by have:=HT.out.lt;omega) (ob _ (ob _ (nb _ rfl)))) (zaq hW nbo (ob _ (ob _ (ob _ HO.out)))) | 1,_=>(rw[←HR1.out];exact sub2_any S false (zbu S seen) HK1.out HLN.out.2.1 ba w.heap.size (w.heap.size+1) W (Env.on HX.out HE.out (zaA (zah (zah (zah (zaC _ _) _) _) _) hW)) hT (zaq hW nba (ob _ (ob _ (ob _ HA.out)))) (zaq hW (by have:=HT.out.lt;omega) (ob _ (ob _ (nb _ rfl)))) (zaq hW (by have:=HT.out.lt;omega) (ob _ (nb _ (by simp))))) | 2,_=>(rw[←HR2.out];exact sub3_any S false r1.2 HK2.out HLN.out.2.2 ba w.heap.size (w.heap.size+1) W (Env.on HX.out HE.out (zaA (zah (zah (zah (zaC _ _) _) _) _) hW)) hT (zaq hW nba (ob _ (ob _ (ob _ HA.out)))) (zaq hW (by have:=HT.out.lt;omega) (ob _ (ob _ (nb _ rfl)))) (zaq hW (by have:=HT.out.lt;omega) (ob _ (nb _ (by simp))))) | k+3,h=>exact absurd h (by simp));(exact((HT.out.alloc _).alloc _).alloc _);intro e w2 hA;have HQ:=hid hA;obtain⟨rfl,-⟩:=hA)
   go_ret
   exact HQ.out.re (zah (zah (zah (zaC _ _) _) _) _) rfl HV.out.1 HV.out.2
 ·have HWI:Hid (zap true S=true):=hid rfl
  rw[HWI.out] at HR1 HR2
  go_enter Tryz.func140,Tryz.ntmps140
  go_wp2_with (go_at_call 35;refine(zcU mb [(141,#[.pointer (some ⟨ba,0,none⟩),.pointer (some ⟨w.heap.size,0,none⟩),.pointer (some ⟨bo,0,none⟩)]),(142,#[.pointer (some ⟨w.heap.size,0,none⟩),.pointer (some ⟨w.heap.size+1,0,none⟩),.pointer (some ⟨ba,0,none⟩)]),(143,#[.pointer (some ⟨w.heap.size,0,none⟩),.pointer (some ⟨w.heap.size+1,0,none⟩),.pointer (some ⟨ba,0,none⟩)])] (cd [askF l i F S true seen,r1.1,r2.1]) (stl [seen,zbu S seen,r1.2,r2.2]) _ _ (by show 3≤100;decide) ?_ ?_ ?_ ?_ ?_).mono ?_;(have:=HT.out.lt;simp;omega);(intro k h;match k,h with | 0,_=>exact enters_of Tryz.func141 (by kernel_rfl) rfl | 1,_=>exact enters_of Tryz.func142 (by kernel_rfl) rfl | 2,_=>exact enters_of Tryz.func143 (by kernel_rfl) rfl | k+3,h=>exact absurd h (by simp));(intro k h;match k,h with | 0,_=>(refine zab (nb _ (by simp)) ?_;rfl) | 1,_=>(refine zab (nb _ (by simp)) ?_;rfl) | 2,_=>(refine zab (nb _ (by simp)) ?_;rfl) | k+3,h=>exact absurd h (by simp));(intro k h W hz hW hT;match k,h with | 0,_=>exact sub1_any HX.out S HS.out true seen HLN.out.1 ba w.heap.size bo W (Env.on HX.out HE.out (zaA (zah (zah (zah (zaC _ _) _) _) _) hW)) hT (zaq hW nba (ob _ (ob _ (ob _ HA.out)))) (zaq hW (by have:=HT.out.lt;omega) (ob _ (ob _ (nb _ rfl)))) (zaq hW nbo (ob _ (ob _ (ob _ HO.out)))) | 1,_=>(rw[←HR1.out];exact sub2_any S true (zbu S seen) HK1.out HLN.out.2.1 ba w.heap.size (w.heap.size+1) W (Env.on HX.out HE.out (zaA (zah (zah (zah (zaC _ _) _) _) _) hW)) hT (zaq hW nba (ob _ (ob _ (ob _ HA.out)))) (zaq hW (by have:=HT.out.lt;omega) (ob _ (ob _ (nb _ rfl)))) (zaq hW (by have:=HT.out.lt;omega) (ob _ (nb _ (by simp))))) | 2,_=>(rw[←HR2.out];exact sub3_any S true r1.2 HK2.out HLN.out.2.2 ba w.heap.size (w.heap.size+1) W (Env.on HX.out HE.out (zaA (zah (zah (zah (zaC _ _) _) _) _) hW)) hT (zaq hW nba (ob _ (ob _ (ob _ HA.out)))) (zaq hW (by have:=HT.out.lt;omega) (ob _ (ob _ (nb _ rfl)))) (zaq hW (by have:=HT.out.lt;omega) (ob _ (nb _ (by simp))))) | k+3,h=>exact absurd h (by simp));(exact((HT.out.alloc _).alloc _).alloc _);intro e w2 hA;have HQ:=hid hA;obtain⟨rfl,-⟩:=hA)
  go_ret
  exact HQ.out.re (zah (zah (zah (zaC _ _) _) _) _) rfl HV.out.1 HV.out.2
end
end Go.Proofs.YtljbbhhiiiepcaaGreatDoor.Ck

namespace Go.Proofs.YtljbbhhiiiepcaaGreatDoor.Ck
open Go Go.RowKit Go.Proofs.YtljbbhhiiiepcaaGreatDoor
open Go.Lib (hid)
section
variable {w0:World} {a:Option Addr} {l:List FT} {c mb i bx bi bf:Nat} {F:FT}
/- All of a list. -/
theorem chkSs_snoc (b:Bool) (S:ST):∀(A:List ST) (s:List Int),zaQ l i F b (A++[S]) s=andThen (zaQ l i F b A s) (chkS l i F b S)
 | [],s=>by
  rw[List.nil_append,zaQ,zaQ]
  show andThen _ (zaQ l i F b [])=chkS l i F b S s
  unfold andThen
  split
  ·rename_i h;rw[zaQ,←h]
  ·rfl
 | T :: A,s=>by
  rw[List.cons_append,zaQ,zaQ]
  have ih:=fun s=>chkSs_snoc b S A s
  unfold andThen
  split
  ·rw[ih];rfl
  ·rfl
def stK (l:List FT) (i:Nat) (F:FT) (b:Bool) (L:List ST) (s:List Int) (k:Nat):List Int:=(zaQ l i F b (L.take k) s).2
def cdK (l:List FT) (i:Nat) (F:FT) (b:Bool) (L:List ST) (s:List Int) (k:Nat):Nat:=match L[k]? with
 | some S=>(chkS l i F b S (stK l i F b L s k)).1
 | none=>0
theorem cdK_at (b:Bool) (L:List ST) (s:List Int) (k:Nat) (h:k < L.length):cdK l i F b L s k=(chkS l i F b L[k] (stK l i F b L s k)).1:=by
 unfold cdK;rw[List.getElem?_eq_getElem h]
theorem first_take (b:Bool) (L:List ST) (s:List Int):∀k,k≤L.length→zau (cdK l i F b L s) k=(zaQ l i F b (L.take k) s).1:=by
 intro k
 induction k with
 | zero=>intro _;rw[List.take_zero,zaQ];rfl
 | succ k ih =>
  intro h
  rw[zau,ih (by omega),cdK_at b L s k (by omega),List.take_succ_eq_append_getElem (by omega),chkSs_snoc]
  unfold andThen stK orE
  split<;>rfl
theorem st_succ (b:Bool) (L:List ST) (s:List Int) (k:Nat) (h:k < L.length) (hz:zau (cdK l i F b L s) k=0):stK l i F b L s (k+1)=(chkS l i F b L[k] (stK l i F b L s k)).2:=by
 rw[first_take b L s k (by omega)] at hz
 unfold stK
 rw[List.take_succ_eq_append_getElem h,chkSs_snoc]
 unfold andThen
 rw[if_pos hz]
theorem cnts_take (L:List ST) (k:Nat) (h:k < L.length):cnts (L.take k)+L[k].cnt≤cnts L:=by
 induction L generalizing k with
 | nil=>simp at h
 | cons S L ih =>
  cases k with
  | zero=>rw[List.take_zero,cnts,cnts];simp
  | succ k =>
   have:=ih k (by simpa using h)
   rw[List.take_succ_cons,cnts,cnts,List.getElem_cons_succ]
   omega
theorem stmts_list (X:Fix w0 a l c mb i bx bi bf F) (ad:Option Addr) (cp:Nat) (L:List ST) (hL:SsIn w0 0 ad 0 L) (hLl:L.length≤9223372036854775807)
  (hK:∀k (h:k < L.length),SubOk w0 a l c mb i bx bi bf F L[k].ba L[k].bn L[k].bc L[k].body∧SubOk w0 a l c mb i bx bi bf F L[k].la L[k].ln L[k].lc L[k].els)
  (looped:Bool) (seen:List Int) (hl:seen.length+cnts L≤1000000) (ba bo:Nat) (nba:ba≠mb) (nbo:bo≠mb) (w:World) (hE:Env w0 a l c mb i bx bi bf F w) (hT:Tg mb w seen) (ha:Box w ba (askV bx bi bf) 164) (hb:Box w bo (.bool looped) 4):
  Calls Tryz.prog 139 #[.slice ad L.length cp,.func (.func 140) #[] #[.pointer (some ⟨bo,0,none⟩),.pointer (some ⟨ba,0,none⟩)]] w (Ans mb w (zaQ l i F looped L seen)):=by
 have h:=eachS_t mb ad cp L hLl hL 140 #[.pointer (some ⟨bo,0,none⟩),.pointer (some ⟨ba,0,none⟩)] (enters_of Tryz.func140 (by kernel_rfl) rfl) (cdK l i F looped L seen) (stK l i F looped L seen) w hE.past X.hm
  (fun k h W hz hg hTW=>by
   have hlen:(stK l i F looped L seen k).length+L[k].cnt≤1000000:=by
    have h1:=chk_len (l:=l) (i:=i) (F:=F) _ (L.take k) (Nat.lt_succ_self _) looped seen
    have h2:=cnts_take L k h
    unfold stK
    omega
   have hstep:=stmt_step X L[k] (hL.nth k h).2 (hK k h).1 (hK k h).2 looped (stK l i F looped L seen k) hlen ba bo nba nbo W (hE.on X hg) hTW (zaq hg nba ha) (zaq hg nbo hb)
   refine hstep.mono ?_
   intro e w' hA
   exact hA.re (zaC _ _) rfl (cdK_at looped L seen k h) (fun _=>st_succ looped L seen k h hz)) (by unfold stK;rw[List.take_zero,zaQ];exact hT)
 refine h.mono ?_
 intro e w' hA
 refine hA.re (zaC _ _) rfl ?_ ?_
 ·rw[first_take looped L seen L.length (Nat.le_refl _),List.take_length]
 ·intro _;unfold stK;rw[List.take_length]
theorem stmts_any (X:Fix w0 a l c mb i bx bi bf F):∀(m:Nat) (ad:Option Addr) (cp:Nat) (L:List ST),Szs L < m→L.length≤9223372036854775807→SsIn w0 0 ad 0 L→SubOk w0 a l c mb i bx bi bf F ad L.length cp L:=by
 intro m
 induction m with
 | zero=>intro ad cp L hm;omega
 | succ m ih =>
  intro ad cp L hm hl hL looped seen w hlen hE hT
  have hK:∀k (h:k < L.length),SubOk w0 a l c mb i bx bi bf F L[k].ba L[k].bn L[k].bc L[k].body∧SubOk w0 a l c mb i bx bi bf F L[k].la L[k].ln L[k].lc L[k].els:=fun k h=>by
   have h1:=in_body (hL.nth k h).2
   have h2:=in_els (hL.nth k h).2
   have h3:=body_sz L[k]
   have h4:=zdU h
   rw[bn_is,ln_is]
   exact⟨ih _ _ _ (by omega) h1.2 h1.1,ih _ _ _ (by omega) h2.2 h2.1⟩
  have hX:=fun W hEW hTW haW hbW=>stmts_list X ad cp L hL hl hK looped seen hlen (w.heap.size+1) w.heap.size (by have:=hT.lt;omega) (by have:=hT.lt;omega) W hEW hTW haW hbW
  have HH:=hid hX
  have HE:=hid hE
  have HT:=hid hT
  have HX:=hid X
  clear hX hE hT hK ih hL hm hlen
  go_enter Tryz.func101,Tryz.ntmps101
  go_wp2_with (go_at_call 139;refine(HH.out _ ?_ ?_ ?_ ?_).mono ?_;(exact HE.out.on HX.out (zah (zah (zaC _ _) _) _));(exact(HT.out.alloc _).alloc _);(exact nb _ (by simp));(exact ob _ (nb _ rfl));intro e w2 hA;have HQ:=hid hA;obtain⟨rfl,-⟩:=hA)
  go_ret
  exact HQ.out.re (zah (zah (zaC _ _) _) _) rfl rfl (fun _=>rfl)
end
end Go.Proofs.YtljbbhhiiiepcaaGreatDoor.Ck

namespace Go.Proofs.YtljbbhhiiiepcaaGreatDoor.Ck
open Go Go.RowKit Go.Proofs.YtljbbhhiiiepcaaGreatDoor
open Go.Lib (hid)
theorem clone_any {w0:World} {a:Option Addr} {L:List ByteArray} (hin:StrsIn w0 0 a L) (hl:L.length≤1000000000) (c:Nat) (w:World) (hp:Past w0 w):
  Calls Tryz.prog 138 #[.slice a L.length c] w fun e w'=>∃v',e=.returned v'∧w'.ownsRow w.heap.size 9 1 v' L.length (L.map Value.string)∧Below w.heap.size w w':=by
 rcases Nat.eq_zero_or_pos L.length with h0 | h0
 ·have hL:L=[]:=List.length_eq_zero_iff.1 h0
  subst hL
  cases a with
  | none=>exact(Tryz.slices_Clone_string_nil 0 c w).mono fun e w' h=>⟨_,h.1,by rw[h.2];exact World.ownsRow_nil _ _ _ _,by rw[h.2];exact Below.refl _ _⟩
  | some x=>exact(Tryz.slices_Clone_string_zero x c w).mono fun e w' ⟨v,h1,h2,_,h4⟩=>⟨v,h1,h2,h4⟩
 ·obtain⟨b,o,rfl,-,-⟩:=hin 0 h0
  have:=Tryz.slices_Clone_string b o L.length c L w (Nat.le_refl _) (by omega) (fun j hj=>strs_getD hin hp j hj)
  rw[List.take_length] at this
  exact this.mono fun e w' ⟨v,h1,h2,_,h4⟩=>⟨v,h1,h2,h4⟩
theorem declared_any {w0:World} {F:FT} (hin:F.In w0 0) (hsm:F.params.length≤1000000000∧F.vars.length≤1000000000) (w:World) (hp:Past w0 w):
  Calls Tryz.prog 99 #[.agg #[.string F.name,.slice F.pa F.params.length F.pc,.slice F.va F.vars.length F.vc,.slice F.ba F.body.length F.bc]] w fun e w'=>(∃a' c',e=.returned (.slice a' (zaW F).length c')∧(zaW F).length≤c'∧StrsIn w' 0 a' (zaW F))∧Below w.heap.size w w':=by
 obtain⟨ei,hi,hz0,hz1,hz2⟩:=info_parts str_info
 have HP:=hid hp
 have HI:=hid hin
 have HC:=hid (fun(W:World) (hW:Past w0 W)=>clone_any hin.ps hsm.1 F.pc W hW)
 obtain⟨p,hpl⟩:∃p,F.params.length=p:=⟨_,rfl⟩
 have HPL:=hid hpl
 rw[hpl] at HC hsm ⊢
 clear hp hin hpl
 go_enter Tryz.func99,Tryz.ntmps99
 go_wp2_with (go_at_call 138;refine(HC.out _ ?_).mono ?_;(exact HP.out.alloc _);rintro e w1 ⟨v1,rfl,ho1,hb1⟩;have c2:=zab (k:=2) (bl hb1 (nb _ rfl)) rfl;have hl2:=zcS (bl hb1 (nb _ rfl));have HO1:Hid (w1.ownsRow w.heap.size 9 1 v1 p (F.params.map Value.string)):=hid (by obtain⟨h1,h2⟩:=ho1;refine⟨h1,?_⟩;rcases h2 with h2 | ⟨g,cap,cur,e1,e2,e3⟩;(exact Or.inl h2);(exact Or.inr ⟨g,cap,cur,e1,by simp at e2;omega,e3⟩));have HB1:Hid (Below w.heap.size w w1):=hid (zan (bal (bre w) _) hb1);clear ho1 hb1)
 go_loopw [3,5,12] (fun v _ i wr=>∃n:Nat,n≤F.vars.length∧i=.int .i64 n∧wr.ownsRow w.heap.size 9 1 v (p+n) (F.params.map Value.string++(F.vars.take n).map fun d=>.string d.1)∧Below w.heap.size w wr) (fun _ _ i _=>F.vars.length - (intOf i).toNat)
 case atStart=>exact⟨0,Nat.zero_le _,rfl,by rw[List.take_zero];simpa using HO1.out,HB1.out⟩
 case round =>
  obtain⟨n,hn,rfl,ho,hb⟩:=hrel
  have HB:=hid hb
  have HO:=hid ho
  clear hb ho
  by_cases hlt:n < F.vars.length
  ·have hrow:=HI.out.vs n hlt
   have hrow':=hrow
   obtain⟨kb,ko,rr,-⟩:=hrow'
   rw[rr] at hrow ⊢
   obtain⟨r0,r1,hkb⟩:=zcP hrow (HP.out.on HB.out)
   have HT:Hid ((F.vars.take (n+1)).map (fun d=>Value.string d.1)=(F.vars.take n).map (fun d=>Value.string d.1)++[.string F.vars[n].1]):=hid (by rw[List.take_succ_eq_append_getElem hlt,List.map_append];rfl)
   clear hrow rr
   go_wp2_with (at_builtin;refine wpList_append_own_at _ rfl _ _ 32 rfl w.heap.size 9 ei _ 1 16 Tryz.underlying32 hi hz0 hz1 hz2 rfl (by decide) _ (p+n) _ rfl ((HO.out.alloc _).alloc _) ⟨wr.heap.size+1,0,none⟩ 1 1 [.string F.vars[n].1] rfl rfl (fun j u hj=>by match j,hj with | 0,hj=>(simp at hj;subst hj;simp[Addr.add]) | j+1,hj=>simp at hj) (by simp[Value.oneCell']) (by unfold maxLen;omega) (by omega) (by have:=HB.out.size;simp;omega) ?_;intro v' w3 hown hgrow hnil hat;have HO3:=hid hown;have HG3:=hid hgrow;clear hown hgrow hnil hat)
   go_roundw
   case rel=>exact⟨n+1,by omega,by go_num,by rw[HT.out,←List.append_assoc];exact HO3.out,Below.grown (bal (bal HB.out _) _) HG3.out (by have:=HB.out.size;simp;omega) (fun k hk=>(HO.out.lt k hk).1)⟩
   case measure=>simp[intOf];omega
  ·obtain rfl:n=F.vars.length:=by omega
   go_wp2
   go_ret
   refine⟨?_,HB.out⟩
   have h:=HO.out
   rw[List.take_length,show F.params.map Value.string++F.vars.map (fun d=>Value.string d.1)=(zaW F).map Value.string by unfold zaW;rw[List.map_append,List.map_map];rfl,show p+F.vars.length=(zaW F).length by unfold zaW;rw[List.length_append,List.length_map,HPL.out]] at h
   obtain⟨a',c',hv,hc,hs⟩:=own_strs h
   exact⟨a',c',by rw[←hv];rfl,hc,hs⟩
def e5 (b:Bool):Nat:=if b then 5 else 0
def e6 (b:Bool):Nat:=if b then 6 else 0
theorem fn1_any {w0:World} {F:FT} (hin:F.In w0 0) (hsm:F.params.length≤1000000000∧F.vars.length≤1000000000) (bf:Nat) (w:World) (hp:Past w0 w) (hf:FBox w bf F):
  Calls Tryz.prog 96 #[.pointer (some ⟨bf,0,none⟩)] w fun e w'=>e=.returned (.int .i64 (e5 (zcT F):Nat))∧Below w.heap.size w w':=by
 have HX:=hid (large_any hin hsm w hp)
 obtain⟨f0,f1,f2,f3,hlf⟩:=fcells hf
 clear hp hin hf
 obtain⟨q,hq⟩:∃q,zcT F=q:=⟨_,rfl⟩
 rw[hq] at HX ⊢
 clear hq
 cases q
 all_goals
  go_enter Tryz.func96,Tryz.ntmps96
  go_wp2_with (first | (go_at_call 38;refine(zaG _ _ _).mono ?_;rintro e w' ⟨rfl,rfl⟩) | (go_at_call 97;have hx:=HX.out;refine hx.mono ?_;clear hx;rintro e w1 ⟨rfl,hb1⟩;have HB1:=hid hb1;clear hb1))
  go_ret
  exact⟨rfl,HB1.out⟩
theorem fn2_any {w0:World} {F:FT} (hin:F.In w0 0) (hsm:F.params.length≤1000000000∧F.vars.length≤1000000000) (bf:Nat) (w:World) (hp:Past w0 w) (hf:FBox w bf F):
  Calls Tryz.prog 98 #[.pointer (some ⟨bf,0,none⟩)] w fun e w'=>e=.returned (.int .i64 (e6 (repB (zaW F)):Nat))∧Below w.heap.size w w':=by
 have HX:=hid (declared_any hin hsm w hp)
 have HDL:Hid ((zaW F).length≤9223372036854775807):=hid (by unfold zaW;rw[List.length_append,List.length_map];omega)
 obtain⟨f0,f1,f2,f3,hlf⟩:=fcells hf
 clear hp hin hf
 obtain⟨q,hq⟩:∃q,repB (zaW F)=q:=⟨_,rfl⟩
 have HQ:=hid hq
 rw[hq]
 clear hq
 cases q
 all_goals
  go_enter Tryz.func98,Tryz.ntmps98
  go_wp2_with (first | (go_at_call 38;refine(zaG _ _ _).mono ?_;rintro e w' ⟨rfl,rfl⟩) | (go_at_call 92;have hx:=HR.out;refine hx.mono ?_;clear hx;rintro e w2 ⟨rfl,hb2⟩;have HB2:=hid (zan HB1.out hb2);clear hb2) | (go_at_call 99;have hx:=HX.out;refine hx.mono ?_;clear hx;rintro e w1 ⟨⟨a1,c1,rfl,hc1,hs1⟩,hb1⟩;have hr:=repeats_any (w0:=w1) hs1 HDL.out c1 hc1 w1 (Below.refl _ _);rw[HQ.out] at hr;have HR:=hid hr;have HB1:=hid hb1;clear hb1 hs1 hc1 hr))
  go_ret
  exact⟨rfl,HB2.out⟩
theorem asker_any {w0:World} {a:Option Addr} {l:List FT} (hin:FsIn w0 0 a l) (c mb i:Nat) (hi:i < l.length) (w:World) (hp:Past w0 w):
  Calls Tryz.prog 102 #[.agg #[.slice a l.length c,.map (some mb)],.int .i64 i] w fun e w'=>e=.returned (askV w.heap.size (w.heap.size+1) (w.heap.size+2))∧Below w.heap.size w w'∧XBox w' w.heap.size a l.length c mb∧Box w' (w.heap.size+1) (.int .i64 i) 3∧FBox w' (w.heap.size+2) l[i]:=by
 have hrow:=hin.row i hi
 obtain⟨kb,ko,rfl,-⟩:=hrow
 have hrow:=hin.row i hi
 rw[F.cells_is] at hrow
 obtain⟨r0,r1,r2,r3,hkb⟩:=zbk hrow hp
 have hn:=hin.len
 clear hrow hp hin
 go_enter Tryz.func102,Tryz.ntmps102
 go_wp2
 go_ret
 exact⟨rfl,bal (bal (bal (bre w) _) _) _,ob _ (ob _ (nb _ rfl)),ob _ (nb _ (by simp)),nb _ (by simp)⟩
theorem fn3_any {w0:World} {a:Option Addr} {l:List FT} (hin:FsIn w0 0 a l) (c mb i bx bi bf:Nat) (hi:i < l.length) (hm:w0.heap.size≤mb) (nx:bx≠mb) (ni:bi≠mb) (nf:bf≠mb) (seen:List Int) (hl:seen.length+cnts l[i].body≤1000000) (w:World) (hp0:Past w0 w) (hx:XBox w bx a l.length c mb) (hib:Box w bi (.int .i64 i) 3) (hf:FBox w bf l[i]) (hT0:Tg mb w seen):
  Calls Tryz.prog 100 #[.pointer (some ⟨bf,0,none⟩),.pointer (some ⟨bx,0,none⟩),.pointer (some ⟨bi,0,none⟩)] w (Ans mb w (zaQ l i l[i] false l[i].body seen)):=by
 obtain⟨f0,f1,f2,f3,hlf⟩:=fcells hf
 obtain⟨x0,x1,hlx⟩:=zdQ hx
 have i0:=hib.c0
 have hli:=hib.lt
 have HC:Hid (∀W,Gr mb w W→(W.cell? ⟨bf,3,none⟩=some (.slice l[i].ba l[i].body.length l[i].bc)∧W.cell? ⟨bx,0,none⟩=some (.slice a l.length c)∧W.cell? ⟨bx,1,none⟩=some (.map (some mb))∧W.cell? ⟨bi,0,none⟩=some (.int .i64 i))):=hid (fun W hW=>⟨gr_cell hW nf f3,gr_cell hW nx x0,gr_cell hW nx x1,gr_cell hW ni i0⟩)
 have hAS:=fun(W:World) (hW:Gr mb w W)=>asker_any hin c mb i hi W (zcG hp0 hW hm)
 have HAS:=hid hAS
 have HM:=hid hm
 have HP:=hid hp0
 have HLT:=hid hT0.lt
 have hFX:∀b1 b2 b3:Nat,b1≠mb→b2≠mb→b3≠mb→Fix w0 a l c mb i b1 b2 b3 l[i]:=fun b1 b2 b3 h1 h2 h3=>⟨h1,h2,h3,hm,hin,hin.fs i hi,hi⟩
 have HFIX:=hid hFX
 have hST:=fun(b1 b2 b3:Nat) (X:Fix w0 a l c mb i b1 b2 b3 l[i]) (W:World) (hE:Env w0 a l c mb i b1 b2 b3 l[i] W) (hT:Tg mb W seen)=>stmts_any X _ l[i].ba l[i].bc l[i].body (Nat.lt_succ_self _) (hin.fs i hi).bl (hin.fs i hi).ss false seen W hl hE hT
 have HST:=hid hST
 have hp:Hid (Gr mb w w.drew):=hid (zdK ((Below.refl w.heap.size w).drew))
 have hT:Hid (Tg mb w.drew seen):=hid (hT0.on ((Below.refl w.heap.size w).drew))
 clear f0 f1 f2 f3 x0 x1 i0 hAS hFX hST hT0 hp0 hx hib hf hl hm hin nx ni nf
 go_enter Tryz.func100,Tryz.ntmps100
 go_wp2
 refine wp_region_noPanic ?_
 refine wp_region_held_drew (S:=fun w'=>w'.cell? ⟨bf,3,none⟩=some (.slice l[i].ba l[i].body.length l[i].bc)∧w'.cell? ⟨bx,0,none⟩=some (.slice a l.length c)∧w'.cell? ⟨bx,1,none⟩=some (.map (some mb))∧w'.cell? ⟨bi,0,none⟩=some (.int .i64 i)) (by kernel_rfl) ?_ (fun hHeld=>?_)
 ·with_reducible exact HC.out _ hp.out
 refine wpAnyH_take (i:=0) (v:=?_) (opAt rfl) (by kernel_rfl) (by kernel_rfl) (by kernel_rfl) (fun _ _ _ h=>h) (Or.inl ⟨by rfl,?_⟩) (by assumption) ?_
 rotate_left
 ·intro w' hSw;(try dsimp only at hSw);go_simp;(try with_reducible rfl)
 try simp only[Act.put,List.setIfInBounds_toArray,List.set_cons_zero,List.set_cons_succ]
 refine wpAnyH_take (i:=1) (v:=?_) (opAt rfl) (by kernel_rfl) (by kernel_rfl) (by kernel_rfl) (fun _ _ _ h=>h) (Or.inl ⟨by rfl,?_⟩) (by assumption) ?_
 rotate_left
 ·intro w' hSw;(try dsimp only at hSw);go_simp;(try with_reducible rfl)
 try simp only[Act.put,List.setIfInBounds_toArray,List.set_cons_zero,List.set_cons_succ]
 refine wpAnyH_take (i:=2) (v:=?_) (opAt rfl) (by kernel_rfl) (by kernel_rfl) (by kernel_rfl) (fun _ _ _ h=>h) (Or.inl ⟨by rfl,?_⟩) (by assumption) ?_
 rotate_left
 ·intro w' hSw;(try dsimp only at hSw);go_simp;(try with_reducible rfl)
 try simp only[Act.put,List.setIfInBounds_toArray,List.set_cons_zero,List.set_cons_succ]
 refine wpAnyH_take (i:=3) (v:=?_) (opAt rfl) (by kernel_rfl) (by kernel_rfl) (by kernel_rfl) (fun _ _ _ h=>h) (Or.inl ⟨by rfl,?_⟩) (by assumption) ?_
 rotate_left
 ·intro w' hSw;(try dsimp only at hSw);go_simp;(try with_reducible rfl)
 try simp only[Act.put,List.setIfInBounds_toArray,List.set_cons_zero,List.set_cons_succ]
 refine wpAnyH_ready (rs:=[4]) (by kernel_rfl) (by simp) ?_
 refine AllReadyH.cons (opAt rfl) (fun K hK=>?_) AllReadyH.nil
 go_simp
 go_at_call 102;((with_reducible refine(HAS.out _ hp.out).mono ?_);rintro e wk ⟨rfl,hb,hx1,hi1,hf1⟩);have HEV:=hid (And.intro hx1 (And.intro hi1 hf1));have hTk:=hid (hT.out.on hb);have HG1:=hid (gr_on hp.out hb);clear hp hT hb hx1 hi1 hf1;have hp:=HG1
 (try go_wp2_with fail)
 refine hK.out _ _ (HC.out _ hp.out) (fun hHeld2=>?_)
 clear hK K hHeld
 have hHeld:=hHeld2
 clear hHeld2
 try simp only[Act.put,List.setIfInBounds_toArray,List.set_cons_zero,List.set_cons_succ]
 refine wpAnyH_ready (rs:=[5]) (by kernel_rfl) (by simp) ?_
 refine AllReadyH.cons (opAt rfl) (fun K hK=>?_) AllReadyH.nil
 go_simp
 go_at_call 101;(refine(HST.out _ _ _ ?_ wk ?_ hTk.out).mono ?_);(exact HFIX.out _ _ _ (by have:=HLT.out;first | omega | (simp;omega)) (by have:=HLT.out;first | omega | (simp;omega)) (by have:=HLT.out;first | omega | (simp;omega)));(exact⟨zcG HP.out hp.out HM.out,HEV.out.1,HEV.out.2.1,HEV.out.2.2⟩);intro e wk2 hA;have HQ:=hid hA;(have hA2:=hA);(obtain⟨rfl,hg,-⟩:=hA2);have hq:=hid (zaA hp.out hg);clear hp hA hg;have hp:=hq;clear hq
 (try go_wp2_with fail)
 refine hK.out _ _ (HC.out _ hp.out) (fun hHeld2=>?_)
 clear hK K hHeld
 have hHeld:=hHeld2
 clear hHeld2
 try simp only[Act.put,List.setIfInBounds_toArray,List.set_cons_zero,List.set_cons_succ]
 refine wpAnyH_take (i:=6) (v:=?_) (opAt rfl) (by kernel_rfl) (by kernel_rfl) (by kernel_rfl) (fun _ _ _ h=>h) (Or.inl ⟨by rfl,?_⟩) (by assumption) ?_
 rotate_left
 ·intro w' hSw;(try dsimp only at hSw);go_simp;(try with_reducible rfl)
 try simp only[Act.put,List.setIfInBounds_toArray,List.set_cons_zero,List.set_cons_succ]
 refine wpAnyH_done (by kernel_rfl) ?_ _
 refine NoPanic.normal ?_
 go_wp2
 go_ret
 exact HQ.out.re HG1.out rfl rfl (fun _=>rfl)
theorem fn_code (l:List FT) (i:Nat) (F:FT) (seen:List Int) (r:Nat×List Int) (h:zaQ l i F false F.body seen=r):(fnF l i F seen).1=zau (cd [e5 (zcT F),e6 (repB (zaW F)),r.1]) 3∧((fnF l i F seen).1=0→(fnF l i F seen).2=r.2):=by
 show _=orE (orE (orE 0 (e5 (zcT F))) (e6 (repB (zaW F)))) r.1∧_
 unfold fnF
 cases zcT F
 ·cases repB (zaW F)
  ·simp[h,orE,e5,e6]
  ·simp[orE,e5,e6]
 ·simp[orE,e5,e6]
theorem zb2 {w0:World} {a:Option Addr} {l:List FT} (hin:FsIn w0 0 a l) (c mb i:Nat) (hi:i < l.length) (hm:w0.heap.size≤mb) (hsm:l[i].params.length≤1000000000∧l[i].vars.length≤1000000000) (seen:List Int) (hl:seen.length+cnts l[i].body≤1000000) (w:World) (hp:Past w0 w) (hT0:Tg mb w seen):
  Calls Tryz.prog 59 #[.agg #[.slice a l.length c,.map (some mb)],.int .i64 i] w (Ans mb w (fnF l i l[i] seen)):=by
 obtain⟨r,hr⟩:∃r,zaQ l i l[i] false l[i].body seen=r:=⟨_,rfl⟩
 have HV:=hid (fn_code l i l[i] seen r hr)
 have h3:=fun(b1 b2 b3:Nat) (n1:b1≠mb) (n2:b2≠mb) (n3:b3≠mb)=>fn3_any hin c mb i b1 b2 b3 hi hm n1 n2 n3 seen hl
 rw[hr] at h3
 have H3:=hid h3
 have HI:=hid hin
 have HP:=hid hp
 have HT:=hid hT0
 have HM:=hid hm
 have hrow:=hin.row i hi
 obtain⟨kb,ko,rfl,-⟩:=hrow
 have hrow:=hin.row i hi
 rw[F.cells_is] at hrow
 obtain⟨r0,r1,r2,r3,hkb⟩:=zbk hrow hp
 have hn:=hin.len
 clear hrow hp hin hT0 hm hl hr h3
 go_enter Tryz.func59,Tryz.ntmps59
 go_wp2_with (go_at_call 35;refine(zcU mb [(96,#[.pointer (some ⟨w.heap.size+2,0,none⟩)]),(98,#[.pointer (some ⟨w.heap.size+2,0,none⟩)]),(100,#[.pointer (some ⟨w.heap.size+2,0,none⟩),.pointer (some ⟨w.heap.size,0,none⟩),.pointer (some ⟨w.heap.size+1,0,none⟩)])] (cd [e5 (zcT l[i]),e6 (repB (zaW l[i])),r.1]) (stl [seen,seen,seen,r.2]) _ _ (by show 3≤100;decide) ?_ ?_ ?_ ?_ ?_).mono ?_;(have:=HT.out.lt;simp;omega);(intro k h;match k,h with | 0,_=>exact enters_of Tryz.func96 (by kernel_rfl) rfl | 1,_=>exact enters_of Tryz.func98 (by kernel_rfl) rfl | 2,_=>exact enters_of Tryz.func100 (by kernel_rfl) rfl | k+3,h=>exact absurd h (by simp));(intro k h;match k,h with | 0,_=>(refine zab (nb _ (by simp)) ?_;rfl) | 1,_=>(refine zab (nb _ (by simp)) ?_;rfl) | 2,_=>(refine zab (nb _ (by simp)) ?_;rfl) | k+3,h=>exact absurd h (by simp));(intro k h W hz hW hT;match k,h with | 0,_=>exact(fn1_any (HI.out.fs i hi) hsm _ W (zcG ((((HP.out.alloc _).alloc _).alloc _).alloc _) hW HM.out) (zaq hW (by have:=HT.out.lt;omega) (ob _ (nb _ (by simp))))).mono fun e w' h=>hT.quiet h | 1,_=>exact(fn2_any (HI.out.fs i hi) hsm _ W (zcG ((((HP.out.alloc _).alloc _).alloc _).alloc _) hW HM.out) (zaq hW (by have:=HT.out.lt;omega) (ob _ (nb _ (by simp))))).mono fun e w' h=>hT.quiet h | 2,_=>exact H3.out _ _ _ (by have:=HT.out.lt;omega) (by have:=HT.out.lt;omega) (by have:=HT.out.lt;omega) W (zcG ((((HP.out.alloc _).alloc _).alloc _).alloc _) hW HM.out) (zaq hW (by have:=HT.out.lt;omega) (ob _ (ob _ (ob _ (nb _ rfl))))) (zaq hW (by have:=HT.out.lt;omega) (ob _ (ob _ (nb _ (by simp))))) (zaq hW (by have:=HT.out.lt;omega) (ob _ (nb _ (by simp)))) hT | k+3,h=>exact absurd h (by simp));(exact(((HT.out.alloc _).alloc _).alloc _).alloc _);intro e w2 hA;have HQ:=hid hA;obtain⟨rfl,-⟩:=hA)
 go_ret
 exact HQ.out.re (zah (zah (zah (zah (zaC _ _) _) _) _) _) rfl HV.out.1 HV.out.2
end Go.Proofs.YtljbbhhiiiepcaaGreatDoor.Ck
