/- All statements of a list. -/
import Derived.Test.YtljbbhhiiiepcaaGreatDoorKLists
set_option linter.unusedSimpArgs false
set_option linter.unusedVariables false
set_option maxHeartbeats 8000000
set_option maxRecDepth 100000
namespace Go.Proofs.YtljbbhhiiiepcaaGreatDoor.Ck
open Go Go.RowKit Go.Proofs.YtljbbhhiiiepcaaGreatDoor
open Go.Lib (hid)
section
variable {w0:World} {a:Option Addr} {l:List FT} {c mb i bx bi bf:Nat} {F:FT}
theorem stmt_code (S:ST) (b:Bool) (seen:List Int) (r1 r2:Nat×List Int) (e1:za3 l i F (zap b S) S.body (zbv S seen)=r1) (e2:za3 l i F (zap b S) S.els r1.2=r2):
  (chkS l i F b S seen).1=zau (cd [askF l i F S b seen,r1.1,r2.1]) 3∧((chkS l i F b S seen).1=0→(chkS l i F b S seen).2=r2.2):=by
 rw[chkS_eq]
 show _=orE (orE (orE 0 (askF l i F S b seen)) r1.1) r2.1∧_
 generalize askF l i F S b seen=q
 unfold andThen
 by_cases h0:q=0
 ·subst h0
  simp only[if_true,e1,zcz]
  by_cases h1:r1.1=0
  ·rw[if_pos h1,e2,h1,zcz];exact⟨rfl,fun _=>rfl⟩
  ·rw[if_neg h1,orE_ne h1];exact⟨rfl,fun h=>absurd h h1⟩
 ·simp only[if_neg h0,zcz]
  rw[orE_ne h0,orE_ne h0];exact⟨rfl,fun h=>absurd h h0⟩
theorem stmt_step (X:Fix w0 a l c mb i bx bi bf F) (S:ST) (hS:S.In w0 0) (k1:SubOk w0 a l c mb i bx bi bf F S.ba S.bn S.bc S.body) (k2:SubOk w0 a l c mb i bx bi bf F S.la S.ln S.lc S.els) (looped:Bool) (seen:List Int) (hl:seen.length+S.cnt≤1000000) (ba bo:Nat) (nba:ba≠mb) (nbo:bo≠mb) (w:World) (hE:Env w0 a l c mb i bx bi bf F w) (hT:Tg mb w seen) (ha:Box w ba (askV bx bi bf) 164) (hb:Box w bo (.bool looped) 4):
  Calls Tryz.prog 140 #[.agg #[.int .i64 S.kind,.int .i64 S.tag,.string S.name,.string S.func,.slice S.ea S.en S.ec,.slice S.ba S.bn S.bc,.slice S.la S.ln S.lc],.pointer (some ⟨bo,0,none⟩),.pointer (some ⟨ba,0,none⟩)] w (Ans mb w (chkS l i F looped S seen)):=by
 obtain⟨r1,e1⟩:∃r1,za3 l i F (zap looped S) S.body (zbv S seen)=r1:=⟨_,rfl⟩
 obtain⟨r2,e2⟩:∃r2,za3 l i F (zap looped S) S.els r1.2=r2:=⟨_,rfl⟩
 have HV:=hid (stmt_code S looped seen r1 r2 e1 e2)
 have HLN:Hid (seen.length≤1000000∧(zbv S seen).length+cnts S.body≤1000000∧r1.2.length+cnts S.els≤1000000):=hid (by
  have h1:=seenF_len S seen
  have h2:=chk_len (l:=l) (i:=i) (F:=F) _ S.body (Nat.lt_succ_self _) (zap looped S) (zbv S seen)
  rw[e1] at h2
  have h3:=zd9 S
  exact⟨by omega,by omega,by omega⟩)
 have HE:=hid hE
 have HT:=hid hT
 have HX:=hid X
 have HS:=hid hS
 have HA:=hid ha
 have HO:=hid hb
 have HK1:=hid k1
 have HK2:=hid k2
 have HR1:=hid e1
 have HR2:=hid e2
 have o0:=hb.c0
 have hlo:=hb.lt
 have hla:=ha.lt
 clear hE hT X hS ha hb k1 k2 e1 e2 hl
 cases looped
 ·by_cases h5:S.kind=5
  ·have e5:(S.kind==5)=true:=by simpa using h5
   have HWI:Hid (zap false S=true):=hid (by unfold zap;rw[decide_eq_true h5];rfl)
   rw[HWI.out] at HR1 HR2
   clear h5
   go_enter Tryz.func140,Tryz.ntmps140
   go_wp2_with (go_at_call 35;refine(zcT mb [(141,#[.pointer (some ⟨ba,0,none⟩),.pointer (some ⟨w.heap.size,0,none⟩),.pointer (some ⟨bo,0,none⟩)]),(142,#[.pointer (some ⟨w.heap.size,0,none⟩),.pointer (some ⟨w.heap.size+1,0,none⟩),.pointer (some ⟨ba,0,none⟩)]),(143,#[.pointer (some ⟨w.heap.size,0,none⟩),.pointer (some ⟨w.heap.size+1,0,none⟩),.pointer (some ⟨ba,0,none⟩)])] (cd [askF l i F S false seen,r1.1,r2.1]) (stl [seen,zbv S seen,r1.2,r2.2]) _ _ (by show 3≤100;decide) ?_ ?_ ?_ ?_ ?_).mono ?_;(have:=HT.out.lt;simp;omega);(intro k h;match k,h with | 0,_=>exact enters_of Tryz.func141 (by kernel_rfl) rfl | 1,_=>exact enters_of Tryz.func142 (by kernel_rfl) rfl | 2,_=>exact enters_of Tryz.func143 (by kernel_rfl) rfl | k+3,h=>exact absurd h (by simp));(intro k h;match k,h with | 0,_=>(refine zab (nb _ (by simp)) ?_;rfl) | 1,_=>(refine zab (nb _ (by simp)) ?_;rfl) | 2,_=>(refine zab (nb _ (by simp)) ?_;rfl) | k+3,h=>exact absurd h (by simp));(intro k h W hz hW hT;match k,h with | 0,_=>exact sub1_any HX.out S HS.out false seen HLN.out.1 ba w.heap.size bo W (Env.on HX.out HE.out (zaz (zai (zai (zai (zaB _ _) _) _) _) hW)) hT (zaq hW nba (ob _ (ob _ (ob _ HA.out)))) (zaq hW (by have:=HT.out.lt;omega) (ob _ (ob _ (nb _ rfl)))) (zaq hW nbo (ob _ (ob _ (ob _ HO.out)))) | 1,_=>(rw[←HR1.out];exact sub2_any S true (zbv S seen) HK1.out HLN.out.2.1 ba w.heap.size (w.heap.size+1) W (Env.on HX.out HE.out (zaz (zai (zai (zai (zaB _ _) _) _) _) hW)) hT (zaq hW nba (ob _ (ob _ (ob _ HA.out)))) (zaq hW (by have:=HT.out.lt;omega) (ob _ (ob _ (nb _ rfl)))) (zaq hW (by have:=HT.out.lt;omega) (ob _ (nb _ (by simp))))) | 2,_=>(rw[←HR2.out];exact sub3_any S true r1.2 HK2.out HLN.out.2.2 ba w.heap.size (w.heap.size+1) W (Env.on HX.out HE.out (zaz (zai (zai (zai (zaB _ _) _) _) _) hW)) hT (zaq hW nba (ob _ (ob _ (ob _ HA.out)))) (zaq hW (by have:=HT.out.lt;omega) (ob _ (ob _ (nb _ rfl)))) (zaq hW (by have:=HT.out.lt;omega) (ob _ (nb _ (by simp))))) | k+3,h=>exact absurd h (by simp));(exact((HT.out.alloc _).alloc _).alloc _);intro e w2 hA;have HQ:=hid hA;obtain⟨rfl,-⟩:=hA)
   go_ret
   exact HQ.out.re (zai (zai (zai (zaB _ _) _) _) _) rfl HV.out.1 HV.out.2
  ·have e5:(S.kind==5)=false:=by simpa using h5
   have HWI:Hid (zap false S=false):=hid (by unfold zap;rw[decide_eq_false h5];rfl)
   rw[HWI.out] at HR1 HR2
   clear h5
   go_enter Tryz.func140,Tryz.ntmps140
   go_wp2_with (go_at_call 35;refine(zcT mb [(141,#[.pointer (some ⟨ba,0,none⟩),.pointer (some ⟨w.heap.size,0,none⟩),.pointer (some ⟨bo,0,none⟩)]),(142,#[.pointer (some ⟨w.heap.size,0,none⟩),.pointer (some ⟨w.heap.size+1,0,none⟩),.pointer (some ⟨ba,0,none⟩)]),(143,#[.pointer (some ⟨w.heap.size,0,none⟩),.pointer (some ⟨w.heap.size+1,0,none⟩),.pointer (some ⟨ba,0,none⟩)])] (cd [askF l i F S false seen,r1.1,r2.1]) (stl [seen,zbv S seen,r1.2,r2.2]) _ _ (by show 3≤100;decide) ?_ ?_ ?_ ?_ ?_).mono ?_;(have:=HT.out.lt;simp;omega);(intro k h;match k,h with | 0,_=>exact enters_of Tryz.func141 (by kernel_rfl) rfl | 1,_=>exact enters_of Tryz.func142 (by kernel_rfl) rfl | 2,_=>exact enters_of Tryz.func143 (by kernel_rfl) rfl | k+3,h=>exact absurd h (by simp));(intro k h;match k,h with | 0,_=>(refine zab (nb _ (by simp)) ?_;rfl) | 1,_=>(refine zab (nb _ (by simp)) ?_;rfl) | 2,_=>(refine zab (nb _ (by simp)) ?_;rfl) | k+3,h=>exact absurd h (by simp));(intro k h W hz hW hT;match k,h with | 0,_=>exact sub1_any HX.out S HS.out false seen HLN.out.1 ba w.heap.size bo W (Env.on HX.out HE.out (zaz (zai (zai (zai (zaB _ _) _) _) _) hW)) hT (zaq hW nba (ob _ (ob _ (ob _ HA.out)))) (zaq hW (by have:=HT.out.lt;omega) (ob _ (ob _ (nb _ rfl)))) (zaq hW nbo (ob _ (ob _ (ob _ HO.out)))) | 1,_=>(rw[←HR1.out];exact sub2_any S false (zbv S seen) HK1.out HLN.out.2.1 ba w.heap.size (w.heap.size+1) W (Env.on HX.out HE.out (zaz (zai (zai (zai (zaB _ _) _) _) _) hW)) hT (zaq hW nba (ob _ (ob _ (ob _ HA.out)))) (zaq hW (by have:=HT.out.lt;omega) (ob _ (ob _ (nb _ rfl)))) (zaq hW (by have:=HT.out.lt;omega) (ob _ (nb _ (by simp))))) | 2,_=>(rw[←HR2.out];exact sub3_any S false r1.2 HK2.out HLN.out.2.2 ba w.heap.size (w.heap.size+1) W (Env.on HX.out HE.out (zaz (zai (zai (zai (zaB _ _) _) _) _) hW)) hT (zaq hW nba (ob _ (ob _ (ob _ HA.out)))) (zaq hW (by have:=HT.out.lt;omega) (ob _ (ob _ (nb _ rfl)))) (zaq hW (by have:=HT.out.lt;omega) (ob _ (nb _ (by simp))))) | k+3,h=>exact absurd h (by simp));(exact((HT.out.alloc _).alloc _).alloc _);intro e w2 hA;have HQ:=hid hA;obtain⟨rfl,-⟩:=hA)
   go_ret
   exact HQ.out.re (zai (zai (zai (zaB _ _) _) _) _) rfl HV.out.1 HV.out.2
 ·have HWI:Hid (zap true S=true):=hid rfl
  rw[HWI.out] at HR1 HR2
  go_enter Tryz.func140,Tryz.ntmps140
  go_wp2_with (go_at_call 35;refine(zcT mb [(141,#[.pointer (some ⟨ba,0,none⟩),.pointer (some ⟨w.heap.size,0,none⟩),.pointer (some ⟨bo,0,none⟩)]),(142,#[.pointer (some ⟨w.heap.size,0,none⟩),.pointer (some ⟨w.heap.size+1,0,none⟩),.pointer (some ⟨ba,0,none⟩)]),(143,#[.pointer (some ⟨w.heap.size,0,none⟩),.pointer (some ⟨w.heap.size+1,0,none⟩),.pointer (some ⟨ba,0,none⟩)])] (cd [askF l i F S true seen,r1.1,r2.1]) (stl [seen,zbv S seen,r1.2,r2.2]) _ _ (by show 3≤100;decide) ?_ ?_ ?_ ?_ ?_).mono ?_;(have:=HT.out.lt;simp;omega);(intro k h;match k,h with | 0,_=>exact enters_of Tryz.func141 (by kernel_rfl) rfl | 1,_=>exact enters_of Tryz.func142 (by kernel_rfl) rfl | 2,_=>exact enters_of Tryz.func143 (by kernel_rfl) rfl | k+3,h=>exact absurd h (by simp));(intro k h;match k,h with | 0,_=>(refine zab (nb _ (by simp)) ?_;rfl) | 1,_=>(refine zab (nb _ (by simp)) ?_;rfl) | 2,_=>(refine zab (nb _ (by simp)) ?_;rfl) | k+3,h=>exact absurd h (by simp));(intro k h W hz hW hT;match k,h with | 0,_=>exact sub1_any HX.out S HS.out true seen HLN.out.1 ba w.heap.size bo W (Env.on HX.out HE.out (zaz (zai (zai (zai (zaB _ _) _) _) _) hW)) hT (zaq hW nba (ob _ (ob _ (ob _ HA.out)))) (zaq hW (by have:=HT.out.lt;omega) (ob _ (ob _ (nb _ rfl)))) (zaq hW nbo (ob _ (ob _ (ob _ HO.out)))) | 1,_=>(rw[←HR1.out];exact sub2_any S true (zbv S seen) HK1.out HLN.out.2.1 ba w.heap.size (w.heap.size+1) W (Env.on HX.out HE.out (zaz (zai (zai (zai (zaB _ _) _) _) _) hW)) hT (zaq hW nba (ob _ (ob _ (ob _ HA.out)))) (zaq hW (by have:=HT.out.lt;omega) (ob _ (ob _ (nb _ rfl)))) (zaq hW (by have:=HT.out.lt;omega) (ob _ (nb _ (by simp))))) | 2,_=>(rw[←HR2.out];exact sub3_any S true r1.2 HK2.out HLN.out.2.2 ba w.heap.size (w.heap.size+1) W (Env.on HX.out HE.out (zaz (zai (zai (zai (zaB _ _) _) _) _) hW)) hT (zaq hW nba (ob _ (ob _ (ob _ HA.out)))) (zaq hW (by have:=HT.out.lt;omega) (ob _ (ob _ (nb _ rfl)))) (zaq hW (by have:=HT.out.lt;omega) (ob _ (nb _ (by simp))))) | k+3,h=>exact absurd h (by simp));(exact((HT.out.alloc _).alloc _).alloc _);intro e w2 hA;have HQ:=hid hA;obtain⟨rfl,-⟩:=hA)
  go_ret
  exact HQ.out.re (zai (zai (zai (zaB _ _) _) _) _) rfl HV.out.1 HV.out.2
end
end Go.Proofs.YtljbbhhiiiepcaaGreatDoor.Ck

namespace Go.Proofs.YtljbbhhiiiepcaaGreatDoor.Ck
open Go Go.RowKit Go.Proofs.YtljbbhhiiiepcaaGreatDoor
open Go.Lib (hid)
section
variable {w0:World} {a:Option Addr} {l:List FT} {c mb i bx bi bf:Nat} {F:FT}
/- All of a list. -/
theorem chkSs_snoc (b:Bool) (S:ST):∀(A:List ST) (s:List Int),za3 l i F b (A++[S]) s=andThen (za3 l i F b A s) (chkS l i F b S)
 | [],s=>by
  rw[List.nil_append,za3,za3]
  show andThen _ (za3 l i F b [])=chkS l i F b S s
  unfold andThen
  split
  ·rename_i h;rw[za3,←h]
  ·rfl
 | T :: A,s=>by
  rw[List.cons_append,za3,za3]
  have ih:=fun s=>chkSs_snoc b S A s
  unfold andThen
  split
  ·rw[ih];rfl
  ·rfl
def stK (l:List FT) (i:Nat) (F:FT) (b:Bool) (L:List ST) (s:List Int) (k:Nat):List Int:=(za3 l i F b (L.take k) s).2
def cdK (l:List FT) (i:Nat) (F:FT) (b:Bool) (L:List ST) (s:List Int) (k:Nat):Nat:=match L[k]? with
 | some S=>(chkS l i F b S (stK l i F b L s k)).1
 | none=>0
theorem cdK_at (b:Bool) (L:List ST) (s:List Int) (k:Nat) (h:k < L.length):cdK l i F b L s k=(chkS l i F b L[k] (stK l i F b L s k)).1:=by
 unfold cdK;rw[List.getElem?_eq_getElem h]
theorem first_take (b:Bool) (L:List ST) (s:List Int):∀k,k≤L.length→zau (cdK l i F b L s) k=(za3 l i F b (L.take k) s).1:=by
 intro k
 induction k with
 | zero=>intro _;rw[List.take_zero,za3];rfl
 | succ k ih =>
  intro h
  rw[zau,ih (by omega),cdK_at b L s k (by omega),List.take_succ_eq_append_getElem (by omega),chkSs_snoc]
  unfold andThen stK orE
  split<;>rfl
theorem st_succ (b:Bool) (L:List ST) (s:List Int) (k:Nat) (h:k < L.length) (hz:zau (cdK l i F b L s) k=0):stK l i F b L s (k+1)=(chkS l i F b L[k] (stK l i F b L s k)).2:=by
 rw[first_take b L s k (by omega)] at hz
 unfold stK
 rw[List.take_succ_eq_append_getElem h,chkSs_snoc]
 unfold andThen
 rw[if_pos hz]
theorem cnts_take (L:List ST) (k:Nat) (h:k < L.length):cnts (L.take k)+L[k].cnt≤cnts L:=by
 induction L generalizing k with
 | nil=>simp at h
 | cons S L ih =>
  cases k with
  | zero=>rw[List.take_zero,cnts,cnts];simp
  | succ k =>
   have:=ih k (by simpa using h)
   rw[List.take_succ_cons,cnts,cnts,List.getElem_cons_succ]
   omega
theorem stmts_list (X:Fix w0 a l c mb i bx bi bf F) (ad:Option Addr) (cp:Nat) (L:List ST) (hL:SsIn w0 0 ad 0 L) (hLl:L.length≤9223372036854775807)
  (hK:∀k (h:k < L.length),SubOk w0 a l c mb i bx bi bf F L[k].ba L[k].bn L[k].bc L[k].body∧SubOk w0 a l c mb i bx bi bf F L[k].la L[k].ln L[k].lc L[k].els)
  (looped:Bool) (seen:List Int) (hl:seen.length+cnts L≤1000000) (ba bo:Nat) (nba:ba≠mb) (nbo:bo≠mb) (w:World) (hE:Env w0 a l c mb i bx bi bf F w) (hT:Tg mb w seen) (ha:Box w ba (askV bx bi bf) 164) (hb:Box w bo (.bool looped) 4):
  Calls Tryz.prog 139 #[.slice ad L.length cp,.func (.func 140) #[] #[.pointer (some ⟨bo,0,none⟩),.pointer (some ⟨ba,0,none⟩)]] w (Ans mb w (za3 l i F looped L seen)):=by
 have h:=eachS_t mb ad cp L hLl hL 140 #[.pointer (some ⟨bo,0,none⟩),.pointer (some ⟨ba,0,none⟩)] (enters_of Tryz.func140 (by kernel_rfl) rfl) (cdK l i F looped L seen) (stK l i F looped L seen) w hE.past X.hm
  (fun k h W hz hg hTW=>by
   have hlen:(stK l i F looped L seen k).length+L[k].cnt≤1000000:=by
    have h1:=chk_len (l:=l) (i:=i) (F:=F) _ (L.take k) (Nat.lt_succ_self _) looped seen
    have h2:=cnts_take L k h
    unfold stK
    omega
   have hstep:=stmt_step X L[k] (hL.nth k h).2 (hK k h).1 (hK k h).2 looped (stK l i F looped L seen k) hlen ba bo nba nbo W (hE.on X hg) hTW (zaq hg nba ha) (zaq hg nbo hb)
   refine hstep.mono ?_
   intro e w' hA
   exact hA.re (zaB _ _) rfl (cdK_at looped L seen k h) (fun _=>st_succ looped L seen k h hz)) (by unfold stK;rw[List.take_zero,za3];exact hT)
 refine h.mono ?_
 intro e w' hA
 refine hA.re (zaB _ _) rfl ?_ ?_
 ·rw[first_take looped L seen L.length (Nat.le_refl _),List.take_length]
 ·intro _;unfold stK;rw[List.take_length]
theorem stmts_any (X:Fix w0 a l c mb i bx bi bf F):∀(m:Nat) (ad:Option Addr) (cp:Nat) (L:List ST),Szs L < m→L.length≤9223372036854775807→SsIn w0 0 ad 0 L→SubOk w0 a l c mb i bx bi bf F ad L.length cp L:=by
 intro m
 induction m with
 | zero=>intro ad cp L hm;omega
 | succ m ih =>
  intro ad cp L hm hl hL looped seen w hlen hE hT
  have hK:∀k (h:k < L.length),SubOk w0 a l c mb i bx bi bf F L[k].ba L[k].bn L[k].bc L[k].body∧SubOk w0 a l c mb i bx bi bf F L[k].la L[k].ln L[k].lc L[k].els:=fun k h=>by
   have h1:=in_body (hL.nth k h).2
   have h2:=in_els (hL.nth k h).2
   have h3:=zc7 L[k]
   have h4:=zcZ h
   rw[bn_is,ln_is]
   exact⟨ih _ _ _ (by omega) h1.2 h1.1,ih _ _ _ (by omega) h2.2 h2.1⟩
  have hX:=fun W hEW hTW haW hbW=>stmts_list X ad cp L hL hl hK looped seen hlen (w.heap.size+1) w.heap.size (by have:=hT.lt;omega) (by have:=hT.lt;omega) W hEW hTW haW hbW
  have HH:=hid hX
  have HE:=hid hE
  have HT:=hid hT
  have HX:=hid X
  clear hX hE hT hK ih hL hm hlen
  go_enter Tryz.func101,Tryz.ntmps101
  go_wp2_with (go_at_call 139;refine(HH.out _ ?_ ?_ ?_ ?_).mono ?_;(exact HE.out.on HX.out (zai (zai (zaB _ _) _) _));(exact(HT.out.alloc _).alloc _);(exact nb _ (by simp));(exact ob _ (nb _ rfl));intro e w2 hA;have HQ:=hid hA;obtain⟨rfl,-⟩:=hA)
  go_ret
  exact HQ.out.re (zai (zai (zaB _ _) _) _) rfl rfl (fun _=>rfl)
end
end Go.Proofs.YtljbbhhiiiepcaaGreatDoor.Ck
