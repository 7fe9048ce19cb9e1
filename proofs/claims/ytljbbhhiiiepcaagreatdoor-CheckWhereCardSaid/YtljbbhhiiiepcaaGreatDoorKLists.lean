/- How many statements a program has; which names there are, and whether one is twice; what is too large. -/
import Derived.Test.YtljbbhhiiiepcaaGreatDoorKPlain
import Derived.Test.YtljbbhhiiiepcaaGreatDoorTCodeP
import Derived.Test.YtljbbhhiiiepcaaGreatDoorKFeedM
import Derived.Maps.AppendAt
set_option linter.unusedSimpArgs false
set_option linter.unusedVariables false
set_option maxHeartbeats 8000000
set_option maxRecDepth 100000
namespace Go.Proofs.YtljbbhhiiiepcaaGreatDoor.Ck
open Go Go.RowKit Go.Proofs.YtljbbhhiiiepcaaGreatDoor
mutual
theorem cntS_n:∀s:RS,cntS s=1+nB s
 | .asg _ _ _=>by rw[cntS,nB]<;>simp
 | .sto _ _ _ _=>by rw[cntS,nB]<;>simp
 | .rd _ _=>by rw[cntS,nB]<;>simp
 | .call _ _ _ _=>by rw[cntS,nB]<;>simp
 | .ife _ _ b l=>by rw[cntS,nB,cntSs_n b,cntSs_n l]
 | .whl _ _ b=>by rw[cntS,nB,cntSs_n b]
 | .brk _=>by rw[cntS,nB]<;>simp
 | .cnt _=>by rw[cntS,nB]<;>simp
 | .ret _ _=>by rw[cntS,nB]<;>simp
 | .ass _ _=>by rw[cntS,nB]<;>simp
theorem cntSs_n:∀l:List RS,cntSs l=nSs l
 | []=>by rw[cntSs,nSs]
 | s :: l=>by rw[cntSs,nSs,cntS_n s,cntSs_n l]
end
theorem cnts_n {l:List ST} (h:zak l=true):cnts l=nSs (rss l):=by
 rw[cnt_rf _ l (Nat.lt_succ_self _) h,cntSs_n]
def FeedP (w:World) (e:Ending) (w':World):Prop:=∃(N:Nat) (p1 v1 b1 p2 v2 b2 p3 v3 b3:Option Addr) (c1 d1 e1 c2 d2 e2 c3 d3 e3:Nat) (l1 l2 l3:List ST),e=.returned (.agg #[.slice (some ⟨N,0,none⟩) 3 3]) ∧
 FsIn w' w.heap.size (some ⟨N,0,none⟩) (za0 p1 v1 b1 p2 v2 b2 p3 v3 b3 c1 d1 e1 c2 d2 e2 c3 d3 e3 l1 l2 l3)∧(za0 p1 v1 b1 p2 v2 b2 p3 v3 b3 c1 d1 e1 c2 d2 e2 c3 d3 e3 l1 l2 l3).all FT.rightB=true ∧
 stsV (za0 p1 v1 b1 p2 v2 b2 p3 v3 b3 c1 d1 e1 c2 d2 e2 c3 d3 e3 l1 l2 l3)≤31∧(nSs (rss l1)≤4∧nSs (rss l2)≤3∧nSs (rss l3)≤24)∧(l1.length≤4∧l2.length≤3∧l3.length≤14) ∧
 (FitL [wP,wR] [wZs] cGH false 0 0 l1∧FitL [wP,wQ] [wZs] cGH false 0 0 l2∧FitL [wA,wB',wC,wD] [wXs,wYs] cGH false 0 ((tgSs l3).length:Int) l3) ∧
 zbV (za0 p1 v1 b1 p2 v2 b2 p3 v3 b3 c1 d1 e1 c2 d2 e2 c3 d3 e3 l1 l2 l3)=((0,(upTo 0 ((tgSs l3).length:Int)).reverse),-1)∧Below w.heap.size w w'∧Apart w' w.heap.size N (za0 p1 v1 b1 p2 v2 b2 p3 v3 b3 c1 d1 e1 c2 d2 e2 c3 d3 e3 l1 l2 l3)
theorem feedP_of {w w':World} {e:Ending} (h:MadeP w e w'):FeedP w e w':=by
 obtain⟨N,pa,va,pb,vb,vc,l1,l2,l3,a1,a2,a3,c1,c2,c3,rfl,hin,⟨g1,m1,n1⟩,⟨g2,m2,n2⟩,⟨g3,m3,n3⟩,hb,hh⟩:=h
 have f1:FitL [wP,wR] [wZs] cGH false 0 0 l1:=by have h1:=g1.fit;rw[g1.mn rfl] at h1;exact h1
 have f2:FitL [wP,wQ] [wZs] cGH false 0 0 l2:=by have h1:=g2.fit;rw[g2.mn rfl] at h1;exact h1
 have f3:FitL [wA,wB',wC,wD] [wXs,wYs] cGH false 0 ((tgSs l3).length:Int) l3:=g3.fit
 have hr:(za0 (some ⟨pa,0,none⟩) (some ⟨va,0,none⟩) a1 (some ⟨pb,0,none⟩) (some ⟨vb,0,none⟩) a2 none (some ⟨vc,0,none⟩) a3 1 2 c1 2 1 c2 0 6 c3 l1 l2 l3).all FT.rightB=true:=by
  simp only[za0,mG,mH,mM,List.all_cons,List.all_nil,Bool.and_true,FT.rightB,g1.right,g2.right,g3.right]
  decide
 have hs:stsV (za0 (some ⟨pa,0,none⟩) (some ⟨va,0,none⟩) a1 (some ⟨pb,0,none⟩) (some ⟨vb,0,none⟩) a2 none (some ⟨vc,0,none⟩) a3 1 2 c1 2 1 c2 0 6 c3 l1 l2 l3)≤31:=by
  show cnts l1+(cnts l2+(cnts l3+0))≤31
  rw[cnts_n g1.right,cnts_n g2.right,cnts_n g3.right];omega
 exact⟨N,_,_,_,_,_,_,_,_,_,_,_,_,_,_,_,_,_,_,l1,l2,l3,rfl,hin,hr,hs,⟨by omega,by omega,by omega⟩,⟨m1,m2,m3⟩,⟨f1,f2,f3⟩,chk_made _ _ _ _ _ _ _ _ _ _ _ _ _ _ _ _ _ _ hr (by omega) f1 f2 f3,hb,hh⟩
end Go.Proofs.YtljbbhhiiiepcaaGreatDoor.Ck

namespace Go.Proofs.YtljbbhhiiiepcaaGreatDoor.Ck
open Go Go.RowKit Go.Proofs.YtljbbhhiiiepcaaGreatDoor
open Go.Lib (hid)
def Ans (mb:Nat) (w:World) (r:Nat×List Int) (e:Ending) (w':World):Prop:=e=.returned (.int .i64 (r.1:Nat))∧Gr mb w w'∧∃s,Tg mb w' s∧(r.1=0→s=r.2)
theorem Tg.quiet {mb:Nat} {w w':World} {seen:List Int} (h:Tg mb w seen) {n:Nat} {e:Ending} (k:e=.returned (.int .i64 (n:Nat))∧Below w.heap.size w w'):Ans mb w (n,seen) e w':=
 ⟨k.1,zdK k.2,seen,h.on k.2,fun _=>rfl⟩
theorem Ans.re {mb:Nat} {w W w':World} {r r':Nat×List Int} {e e':Ending} (h:Ans mb W r e w') (g:Gr mb w W) (he:e'=e) (h1:r'.1=r.1) (h2:r'.1=0→r'.2=r.2):Ans mb w r' e' w':=by
 obtain⟨a1,a2,s,a3,a4⟩:=h
 refine⟨by rw[he,a1,h1],zaA g a2,s,a3,fun h=>?_⟩
 rw[h2 h];exact a4 (by rw[←h1];exact h)
def stl (l:List (List Int)) (k:Nat):List Int:=l.getD k []
theorem zcU (m:Nat) (l:List Fv) (code:Nat→Nat) (st:Nat→List Int) (b:Nat) (w:World) (hl:l.length≤100) (hbm:b≠m)
  (hent:∀k (h:k < l.length),Ent l[k].1)
  (hcell:∀k (h:k < l.length),w.cell? ⟨b,k,none⟩=some l[k].val)
  (hstep:∀k (h:k < l.length) W,zau code k=0→Gr m w W→Tg m W (st k)→Calls Tryz.prog l[k].1 l[k].2 W (Ans m W (code k,st (k+1))))
  (h0:Tg m w (st 0)):
  Calls Tryz.prog 35 #[.slice (some ⟨b,0,none⟩) l.length l.length] w (Ans m w (zau code l.length,st l.length)):=by
 refine(firstOf_g m l code (fun k W=>∃s,Tg m W s∧(zau code k=0→s=st k)) b w hl hbm hent hcell (fun k h W hz hg ⟨s,hs,he⟩=>?_) ⟨_,h0,fun _=>rfl⟩).mono ?_
 ·rw[he hz] at hs
  refine(hstep k h W hz hg hs).mono ?_
  rintro e w' ⟨h1,h2,s',h3,h4⟩
  exact⟨h1,h2,s',h3,fun hf=>h4 (zbz.1 hf).2⟩
 ·rintro e w' ⟨h1,h2,k,hk,⟨s,hs,he⟩,h3⟩
  refine⟨h1,h2,s,hs,fun hf=>?_⟩
  obtain rfl:=h3 hf
  exact he hf
theorem eachS_t {w0:World} (m:Nat) (a:Option Addr) (c:Nat) (L:List ST) (hl:L.length≤9223372036854775807) (hin:SsIn w0 0 a 0 L) (g:Nat) (lb:Array Value) (eg:Ent g) (code:Nat→Nat) (st:Nat→List Int) (w:World) (hp:Past w0 w) (hm:w0.heap.size≤m)
  (hstep:∀k (h:k < L.length) W,zau code k=0→Gr m w W→Tg m W (st k)→Calls Tryz.prog g (#[.agg #[.int .i64 L[k].kind,.int .i64 L[k].tag,.string L[k].name,.string L[k].func,.slice L[k].ea L[k].en L[k].ec,.slice L[k].ba L[k].bn L[k].bc,.slice L[k].la L[k].ln L[k].lc]]++lb) W (Ans m W (code k,st (k+1))))
  (h0:Tg m w (st 0)):
  Calls Tryz.prog 139 #[.slice a L.length c,.func (.func g) #[] lb] w (Ans m w (zau code L.length,st L.length)):=by
 have h:=eachS_any (w0:=w0) a c L hl hin g lb eg code (fun k W=>Gr m w W∧∃s,Tg m W s∧(zau code k=0→s=st k)) (fun k W hW=>zcG hp hW.1 hm) (fun k W o hW=>⟨zah hW.1 o,hW.2.imp fun s h=>⟨h.1.alloc o,h.2⟩⟩)
  (fun k h W hz ⟨hg,s,hs,he⟩=>by
   rw[he hz] at hs
   rw[ST.val_eq]
   refine(hstep k h W hz hg hs).mono ?_
   rintro e w' ⟨h1,h2,s',h3,h4⟩
   exact⟨h1,zaA hg h2,s',h3,fun hf=>h4 (zbz.1 hf).2⟩) w ⟨zaC _ _,_,h0,fun _=>rfl⟩
 refine h.mono ?_
 rintro e w' ⟨h1,k,hk,⟨h2,s,hs,he⟩,h3⟩
 refine⟨h1,h2,s,hs,fun hf=>?_⟩
 obtain rfl:=h3 hf
 exact he hf
structure Fix (w0:World) (a:Option Addr) (l:List FT) (c mb i bx bi bf:Nat) (F:FT):Prop where
 nx:bx≠mb
 ni:bi≠mb
 nf:bf≠mb
 hm:w0.heap.size≤mb
 fs:FsIn w0 0 a l
 fin:F.In w0 0
 lt:i < l.length
structure Env (w0:World) (a:Option Addr) (l:List FT) (c mb i bx bi bf:Nat) (F:FT) (w:World):Prop where
 past:Past w0 w
 x:XBox w bx a l.length c mb
 i:Box w bi (.int .i64 i) 3
 f:FBox w bf F
theorem Env.on {w0:World} {a:Option Addr} {l:List FT} {c mb i bx bi bf:Nat} {F:FT} {w w':World} (X:Fix w0 a l c mb i bx bi bf F) (h:Env w0 a l c mb i bx bi bf F w) (g:Gr mb w w'):Env w0 a l c mb i bx bi bf F w':=
 ⟨zcG h.past g X.hm,zaq g X.nx h.x,zaq g X.ni h.i,zaq g X.nf h.f⟩
theorem seenF_len (S:ST) (seen:List Int):(zbu S seen).length≤seen.length+1:=by unfold zbu;split<;>simp
abbrev askV (bx bi bf:Nat):Value:=.func (.func 144) #[] #[.pointer (some ⟨bx,0,none⟩),.pointer (some ⟨bi,0,none⟩),.pointer (some ⟨bf,0,none⟩)]
section
variable {w0:World} {a:Option Addr} {l:List FT} {c mb i bx bi bf:Nat} {F:FT}
theorem ask_code (S:ST) (looped:Bool) (seen:List Int):askF l i F S looped seen=zau (cd [tagF l i S seen,jumpF S looped,targetF F S,calleeF l S,placeEs F (ST.es S)]) 5:=by
 show _=orE (orE (orE (orE (orE 0 (tagF l i S seen)) (jumpF S looped)) (targetF F S)) (calleeF l S)) (placeEs F (ST.es S))
 rw[zcA,zeg,zeg,zeg];rfl
theorem ask_any (X:Fix w0 a l c mb i bx bi bf F) (S:ST) (hS:S.In w0 0) (looped:Bool) (seen:List Int) (hl:seen.length≤1000000) (w:World) (hE:Env w0 a l c mb i bx bi bf F w) (hT:Tg mb w seen):
  Calls Tryz.prog 144 #[.agg #[.int .i64 S.kind,.int .i64 S.tag,.string S.name,.string S.func,.slice S.ea S.en S.ec,.slice S.ba S.bn S.bc,.slice S.la S.ln S.lc],.bool looped,.pointer (some ⟨bx,0,none⟩),.pointer (some ⟨bi,0,none⟩),.pointer (some ⟨bf,0,none⟩)] w (Ans mb w (askF l i F S looped seen,zbu S seen)):=by
 have HE:=hid hE
 have HT:=hid hT
 have HX:=hid X
 have HS:=hid hS
 have HV:=hid (ask_code (l:=l) (i:=i) (F:=F) S looped seen)
 have htag:-9223372036854775808≤S.tag∧S.tag≤9223372036854775807:=by revert hS;cases S;intro hS;rw[ST.In] at hS;exact hS.1
 clear hE hT X hS
 go_enter Tryz.func144,Tryz.ntmps144
 go_wp2_with (go_at_call 35;refine(zcU mb [(145,#[.pointer (some ⟨w.heap.size,0,none⟩),.pointer (some ⟨bx,0,none⟩),.pointer (some ⟨bi,0,none⟩)]),(147,#[.pointer (some ⟨w.heap.size,0,none⟩),.pointer (some ⟨w.heap.size+1,0,none⟩)]),(149,#[.pointer (some ⟨bf,0,none⟩),.pointer (some ⟨w.heap.size,0,none⟩)]),(151,#[.pointer (some ⟨bx,0,none⟩),.pointer (some ⟨w.heap.size,0,none⟩)]),(153,#[.pointer (some ⟨w.heap.size,0,none⟩),.pointer (some ⟨bf,0,none⟩)])] (cd [tagF l i S seen,jumpF S looped,targetF F S,calleeF l S,placeEs F (ST.es S)]) (stl [seen,zbu S seen,zbu S seen,zbu S seen,zbu S seen,zbu S seen]) _ _ (by show 5≤100;decide) ?_ ?_ ?_ ?_ ?_).mono ?_;(have:=HT.out.lt;simp;omega);(intro k h;match k,h with | 0,_=>exact enters_of Tryz.func145 (by kernel_rfl) rfl | 1,_=>exact enters_of Tryz.func147 (by kernel_rfl) rfl | 2,_=>exact enters_of Tryz.func149 (by kernel_rfl) rfl | 3,_=>exact enters_of Tryz.func151 (by kernel_rfl) rfl | 4,_=>exact enters_of Tryz.func153 (by kernel_rfl) rfl | k+5,h=>exact absurd h (by simp));(intro k h;match k,h with | 0,_=>(refine zab (nb _ (by simp)) ?_;rfl) | 1,_=>(refine zab (nb _ (by simp)) ?_;rfl) | 2,_=>(refine zab (nb _ (by simp)) ?_;rfl) | 3,_=>(refine zab (nb _ (by simp)) ?_;rfl) | 4,_=>(refine zab (nb _ (by simp)) ?_;rfl) | k+5,h=>exact absurd h (by simp));(intro k h W hz hW hT;match k,h with | 0,_=>exact(ask1_any a l c mb i _ _ _ S HX.out.fs.len HX.out.lt htag seen hl W hT (zaq hW (by have:=HT.out.lt;omega) (ob _ (ob _ (nb _ rfl)))) (Env.on HX.out HE.out (zaA (zah (zah (zah (zaC _ _) _) _) _) hW)).x (Env.on HX.out HE.out (zaA (zah (zah (zah (zaC _ _) _) _) _) hW)).i).mono fun e w' h=>⟨h.1,h.2.1,_,h.2.2,fun _=>rfl⟩ | 1,_=>exact(ask2_any S looped _ _ W (zaq hW (by have:=HT.out.lt;omega) (ob _ (ob _ (nb _ rfl)))) (zaq hW (by have:=HT.out.lt;omega) (ob _ (nb _ (by simp))))).mono fun e w' h=>hT.quiet h | 2,_=>exact(ask3_any HX.out.fin S _ _ W (Env.on HX.out HE.out (zaA (zah (zah (zah (zaC _ _) _) _) _) hW)).past (Env.on HX.out HE.out (zaA (zah (zah (zah (zaC _ _) _) _) _) hW)).f (zaq hW (by have:=HT.out.lt;omega) (ob _ (ob _ (nb _ rfl))))).mono fun e w' h=>hT.quiet h | 3,_=>exact(ask4_any HX.out.fs c mb S _ _ W (Env.on HX.out HE.out (zaA (zah (zah (zah (zaC _ _) _) _) _) hW)).past (Env.on HX.out HE.out (zaA (zah (zah (zah (zaC _ _) _) _) _) hW)).x (zaq hW (by have:=HT.out.lt;omega) (ob _ (ob _ (nb _ rfl))))).mono fun e w' h=>hT.quiet h | 4,_=>exact(ask5_any HX.out.fin S HS.out _ _ W (Env.on HX.out HE.out (zaA (zah (zah (zah (zaC _ _) _) _) _) hW)).past (zaq hW (by have:=HT.out.lt;omega) (ob _ (ob _ (nb _ rfl)))) (Env.on HX.out HE.out (zaA (zah (zah (zah (zaC _ _) _) _) _) hW)).f).mono fun e w' h=>hT.quiet h | k+5,h=>exact absurd h (by simp));(exact((HT.out.alloc _).alloc _).alloc _);intro e w2 hA;have HA:=hid hA;obtain⟨rfl,-⟩:=hA)
 go_ret
 exact HA.out.re (zah (zah (zah (zaC _ _) _) _) _) rfl (by rw[HV.out];rfl) (fun _=>rfl)
theorem then_len {r:Nat×List Int} {f:List Int→Nat×List Int} {A B:Nat} (h:r.2.length≤A) (k:∀s,(f s).2.length≤s.length+B):(andThen r f).2.length≤A+B:=by
 unfold andThen
 split
 ·have:=k r.2;omega
 ·omega
theorem chk_len:∀(n:Nat) (L:List ST),Szs L < n→∀(b:Bool) (s:List Int),(zaQ l i F b L s).2.length≤s.length+cnts L:=by
 intro n
 induction n with
 | zero=>intro L h;omega
 | succ n ih =>
  intro L
  induction L with
  | nil=>intro _ b s;rw[zaQ];simp
  | cons S L ihL =>
   intro hn b s
   rw[Szs] at hn
   have hz:=body_sz S
   rw[zaQ,cnts,cnt_parts,chkS_eq]
   have h1:=then_len (r:=(askF l i F S b s,zbu S s)) (f:=zaQ l i F (zap b S) S.body) (A:=s.length+1) (B:=cnts S.body) (seenF_len S s) (fun s=>ih S.body (by omega) _ s)
   have h2:=then_len h1 (fun s=>ih S.els (by omega) (zap b S) s)
   have h3:=then_len h2 (fun s=>ihL (by omega) b s)
   refine Nat.le_trans h3 (by omega)
def SubOk (w0:World) (a:Option Addr) (l:List FT) (c mb i bx bi bf:Nat) (F:FT) (ad:Option Addr) (n cp:Nat) (L:List ST):Prop:=∀(looped:Bool) (seen:List Int) (w:World),seen.length+cnts L≤1000000→Env w0 a l c mb i bx bi bf F w→Tg mb w seen →
 Calls Tryz.prog 101 #[.slice ad n cp,.bool looped,askV bx bi bf] w (Ans mb w (zaQ l i F looped L seen))
theorem sub1_any (X:Fix w0 a l c mb i bx bi bf F) (S:ST) (hS:S.In w0 0) (looped:Bool) (seen:List Int) (hl:seen.length≤1000000) (ba bs bo:Nat) (w:World) (hE:Env w0 a l c mb i bx bi bf F w) (hT:Tg mb w seen) (ha:Box w ba (askV bx bi bf) 164) (hs:SBox w bs S) (hb:Box w bo (.bool looped) 4):
  Calls Tryz.prog 141 #[.pointer (some ⟨ba,0,none⟩),.pointer (some ⟨bs,0,none⟩),.pointer (some ⟨bo,0,none⟩)] w (Ans mb w (askF l i F S looped seen,zbu S seen)):=by
 have HA:=hid (ask_any X S hS looped seen hl w hE hT)
 obtain⟨s0,s1,s2,s3,s4,s5,s6,hls⟩:=zej hs
 have a0:=ha.c0
 have hla:=ha.lt
 have o0:=hb.c0
 have hlo:=hb.lt
 clear X hS hE hT ha hs hb
 go_enter Tryz.func141,Tryz.ntmps141
 go_wp2_with (go_at_call 144;have hx:=HA.out;refine hx.mono ?_;clear hx;intro e w2 hA;have HB:=hid hA;obtain⟨rfl,-⟩:=hA)
 go_ret
 exact HB.out.re (zaC _ _) rfl rfl (fun _=>rfl)
theorem sub2_any (S:ST) (b:Bool) (seen:List Int) (hk:SubOk w0 a l c mb i bx bi bf F S.ba S.bn S.bc S.body) (hl:seen.length+cnts S.body≤1000000) (ba bs bo:Nat) (w:World) (hE:Env w0 a l c mb i bx bi bf F w) (hT:Tg mb w seen) (ha:Box w ba (askV bx bi bf) 164) (hs:SBox w bs S) (hb:Box w bo (.bool b) 4):
  Calls Tryz.prog 142 #[.pointer (some ⟨bs,0,none⟩),.pointer (some ⟨bo,0,none⟩),.pointer (some ⟨ba,0,none⟩)] w (Ans mb w (zaQ l i F b S.body seen)):=by
 have HA:=hid (hk b seen w hl hE hT)
 obtain⟨s0,s1,s2,s3,s4,s5,s6,hls⟩:=zej hs
 have a0:=ha.c0
 have hla:=ha.lt
 have o0:=hb.c0
 have hlo:=hb.lt
 clear hE hT ha hs hb hk hl
 go_enter Tryz.func142,Tryz.ntmps142
 go_wp2_with (go_at_call 101;have hx:=HA.out;refine hx.mono ?_;clear hx;intro e w2 hA;have HB:=hid hA;obtain⟨rfl,-⟩:=hA)
 go_ret
 exact HB.out.re (zaC _ _) rfl rfl (fun _=>rfl)
theorem sub3_any (S:ST) (b:Bool) (seen:List Int) (hk:SubOk w0 a l c mb i bx bi bf F S.la S.ln S.lc S.els) (hl:seen.length+cnts S.els≤1000000) (ba bs bo:Nat) (w:World) (hE:Env w0 a l c mb i bx bi bf F w) (hT:Tg mb w seen) (ha:Box w ba (askV bx bi bf) 164) (hs:SBox w bs S) (hb:Box w bo (.bool b) 4):
  Calls Tryz.prog 143 #[.pointer (some ⟨bs,0,none⟩),.pointer (some ⟨bo,0,none⟩),.pointer (some ⟨ba,0,none⟩)] w (Ans mb w (zaQ l i F b S.els seen)):=by
 have HA:=hid (hk b seen w hl hE hT)
 obtain⟨s0,s1,s2,s3,s4,s5,s6,hls⟩:=zej hs
 have a0:=ha.c0
 have hla:=ha.lt
 have o0:=hb.c0
 have hlo:=hb.lt
 clear hE hT ha hs hb hk hl
 go_enter Tryz.func143,Tryz.ntmps143
 go_wp2_with (go_at_call 101;have hx:=HA.out;refine hx.mono ?_;clear hx;intro e w2 hA;have HB:=hid hA;obtain⟨rfl,-⟩:=hA)
 go_ret
 exact HB.out.re (zaC _ _) rfl rfl (fun _=>rfl)
end
end Go.Proofs.YtljbbhhiiiepcaaGreatDoor.Ck

namespace Go.Proofs.YtljbbhhiiiepcaaGreatDoor.Ck
open Go Go.RowKit Go.Proofs.YtljbbhhiiiepcaaGreatDoor
open Go.Lib (hid)
theorem stsV_take (l:List FT) (n:Nat) (h:n < l.length):stsV (l.take (n+1))=stsV (l.take n)+cnts l[n].body:=by
 induction l generalizing n with
 | nil=>simp at h
 | cons F l ih =>
  cases n with
  | zero=>rw[List.take_succ_cons,List.take_zero,List.take_zero,stsV,stsV];simp[stsV]
  | succ n =>
   rw[List.take_succ_cons,List.take_succ_cons,stsV,stsV,ih n (by simpa using h),List.getElem_cons_succ];omega
theorem stsV_le (l:List FT) (n:Nat):stsV (l.take n)≤stsV l:=by
 induction l generalizing n with
 | nil=>simp[stsV]
 | cons F l ih =>
  cases n with
  | zero=>rw[List.take_zero,stsV];omega
  | succ n=>rw[List.take_succ_cons,stsV,stsV];have:=ih n;omega
theorem statements_any {w0:World} {a:Option Addr} {l:List FT} (hin:FsIn w0 0 a l) (hs:stsV l≤4611686018427387904) (c:Nat) (w:World) (hp:Past w0 w):
  Calls Tryz.prog 90 #[.slice a l.length c] w fun e w'=>e=.returned (.int .i64 (stsV l:Nat))∧Below w.heap.size w w':=by
 have HP:=hid hp
 have HI:=hid hin
 have HS:=hid hs
 have hll:=hin.len
 clear hp hin hs
 go_enter Tryz.func90,Tryz.ntmps90
 go_wp2
 go_loopw [2,4,7] (fun v _ i wr=>∃n:Nat,n≤l.length∧i=.int .i64 n∧v=.int .i64 (stsV (l.take n):Nat)∧Below w.heap.size w wr) (fun _ _ i _=>l.length - (intOf i).toNat)
 case atStart=>exact⟨0,Nat.zero_le _,rfl,by rw[List.take_zero];rfl,Below.refl _ _⟩
 case round =>
  obtain⟨n,hn,rfl,rfl,hb⟩:=hrel
  have HB:=hid hb
  clear hb
  by_cases hlt:n < l.length
  ·have hrow:=HI.out.row n hlt
   have hrow':=hrow
   obtain⟨kb,ko,rfl,-⟩:=hrow'
   rw[F.cells_is] at hrow
   obtain⟨r0,r1,r2,r3,hkb⟩:=zbk hrow (HP.out.on HB.out)
   have hcn:=count_any (w0:=w0) (Szs l[n].body+1) l[n].ba l[n].bc l[n].body (by omega) (HI.out.fs n hlt).bl (HI.out.fs n hlt).ss
   have hsm:cnts l[n].body≤4611686018427387904∧stsV (l.take n)+cnts l[n].body≤4611686018427387904:=by
    have h1:=stsV_take l n hlt
    have h2:=stsV_le l (n+1)
    have h3:=HS.out
    omega
   rw[wrap_small _ (by omega)] at hcn
   have HR:Hid (stsV (l.take (n+1))=stsV (l.take n)+cnts l[n].body):=hid (stsV_take l n hlt)
   obtain⟨x,hx⟩:∃x,stsV (l.take n)=x:=⟨_,rfl⟩
   obtain⟨y,hy⟩:∃y,cnts l[n].body=y:=⟨_,rfl⟩
   rw[hy] at hcn
   rw[hx,hy] at hsm HR
   rw[hx]
   have HC:=hid hcn
   have w1:IntKind.i64.wrap ((x:Int)+(y:Int))=(x:Int)+(y:Int):=IntWalk.i64_in _ (by omega)
   clear hcn hrow hx hy
   go_wp2_with (go_at_call 135;refine(HC.out _ ?_).mono ?_;(exact(HP.out.on HB.out).alloc _);rintro e w2 ⟨rfl,hb2⟩;have HB2:=hid hb2;clear hb2)
   go_round
   case rel=>exact⟨n+1,by omega,by go_num,by rw[HR.out];go_num,zan (bal HB.out _) HB2.out⟩
   case measure=>simp[intOf];omega
  ·obtain rfl:n=l.length:=by omega
   go_wp2
   go_ret
   exact⟨by rw[List.take_length];rfl,HB.out⟩
theorem rep_iff {L:List ByteArray}:repB L=false↔L.Nodup:=by unfold repB;simp
theorem nodup_snoc {L:List ByteArray} {n:Nat} (h:n < L.length):(L.take (n+1)).Nodup↔(L.take n).Nodup∧L[n]∉L.take n:=by
 rw[List.take_succ_eq_append_getElem h,List.nodup_append]
 constructor
 ·rintro⟨h1,_,h3⟩
  exact⟨h1,fun hm=>h3 _ hm _ (by simp) rfl⟩
 ·rintro⟨h1,h2⟩
  refine⟨h1,by simp,fun a ha b hb e=>?_⟩
  simp at hb
  subst hb;subst e
  exact h2 ha
theorem repeats_any {w0:World} {a:Option Addr} {L:List ByteArray} (hin:StrsIn w0 0 a L) (hl:L.length≤9223372036854775807) (c:Nat) (hc:L.length≤c) (w:World) (hp:Past w0 w):
  Calls Tryz.prog 92 #[.slice a L.length c] w fun e w'=>e=.returned (.bool (repB L))∧Below w.heap.size w w':=by
 have HP:=hid hp
 have HI:=hid hin
 clear hp hin
 go_enter Tryz.func92,Tryz.ntmps92
 go_wp2
 go_loop [3,4,7] (fun _ _ i=>∃n:Nat,n≤L.length∧i=.int .i64 n∧Aside ((L.take n).Nodup)) (fun _ _ i=>L.length - (intOf i).toNat)
 case atStart=>exact⟨0,Nat.zero_le _,rfl,by rw[List.take_zero];exact List.nodup_nil⟩
 case round =>
  obtain⟨n,hn,rfl,hnd⟩:=hrel
  by_cases hlt:n < L.length
  ·obtain⟨kb,ko,rfl,-,hc0⟩:=HI.out n hlt
   have r0:=zaP HP.out (B:=0) _ _ (Nat.zero_le _) hc0
   have hkb:=zdl r0
   have hcall:=contains_any HI.out hl n c hn L[n] w HP.out
   clear hc0
   by_cases hm:L[n]∈L.take n
   ·rw[decide_eq_true hm] at hcall
    have HC:=hid hcall
    have HV:Hid (repB L=true):=hid (by
     cases h:repB L
     ·have h1:=rep_iff.1 h
      have h2:(L.take (n+1)).Nodup:=h1.sublist (List.take_sublist _ _)
      exact absurd hm ((nodup_snoc hlt).1 h2).2
     ·rfl)
    clear hcall hm hnd
    go_wp2_with (go_at_call 33;have hx:=HC.out;refine hx.mono ?_;clear hx;rintro e w' ⟨rfl,rfl⟩)
    go_ret
    exact⟨by rw[HV.out];rfl,Below.refl _ _⟩
   ·rw[decide_eq_false hm] at hcall
    have HC:=hid hcall
    have HN:=hid ((nodup_snoc hlt).2 ⟨hnd.out,hm⟩)
    clear hcall hm hnd
    go_wp2_with (go_at_call 33;have hx:=HC.out;refine hx.mono ?_;clear hx;rintro e w' ⟨rfl,rfl⟩)
    go_round
    case rel=>exact⟨n+1,by omega,by go_num,HN.out⟩
    case measure=>simp[intOf];omega
  ·obtain rfl:n=L.length:=by omega
   have HV:Hid (repB L=false):=hid (rep_iff.2 (by have:=hnd.out;rwa [List.take_length] at this))
   clear hnd
   go_wp2
   go_ret
   exact⟨by rw[HV.out];rfl,Below.refl _ _⟩
theorem own_strs {w:World} {B:Nat} {v:Value} {L:List ByteArray} (h:w.ownsRow B 9 1 v L.length (L.map Value.string)):∃a c,v=.slice a L.length c∧L.length≤c∧StrsIn w 0 a L:=by
 rcases h.2 with ⟨rfl,hn⟩ | ⟨g,cap,cur,rfl,hB,hg,hn,hm,hs,ht⟩
 ·exact⟨none,0,by rw[hn],by omega,fun i hi=>by omega⟩
 ·refine⟨some ⟨g,0,none⟩,cap,rfl,hn,fun i hi=>⟨g,0,rfl,Nat.zero_le _,?_⟩⟩
  have h1:=h.cellAt i (by omega)
  rw[Nat.zero_add,h1,List.getElem?_map,List.getElem?_eq_getElem hi];rfl
theorem str_info:(Tryz.prog.info? 9).map (fun i=>(i.zero,i.size,i.bytes))=some (some (.string {data:=#[]}),1,16):=by kernel_rfl
theorem functions_any {w0:World} {a:Option Addr} {l:List FT} (hin:FsIn w0 0 a l) (hsm:l.length≤1000) (c:Nat) (w:World) (hp:Past w0 w):
  Calls Tryz.prog 93 #[.slice a l.length c] w fun e w'=>(∃a' c',e=.returned (.slice a' (l.map (·.name)).length c')∧(l.map (·.name)).length≤c'∧StrsIn w' 0 a' (l.map (·.name)))∧Below w.heap.size w w':=by
 obtain⟨ei,hi,hz0,hz1,hz2⟩:=info_parts str_info
 have HP:=hid hp
 have HI:=hid hin
 have hll:=hin.len
 have HN0:=hid (World.ownsRow_nil w w.heap.size 9 1)
 clear hp hin
 go_enter Tryz.func93,Tryz.ntmps93
 go_wp2
 go_loopw [2,4,7] (fun v _ i wr=>∃n:Nat,n≤l.length∧i=.int .i64 n∧wr.ownsRow w.heap.size 9 1 v n ((l.take n).map fun F=>.string F.name)∧Below w.heap.size w wr) (fun _ _ i _=>l.length - (intOf i).toNat)
 case atStart=>exact⟨0,Nat.zero_le _,rfl,by rw[List.take_zero];exact HN0.out,Below.refl _ _⟩
 case round =>
  clear HN0
  obtain⟨n,hn,rfl,ho,hb⟩:=hrel
  have HB:=hid hb
  have HO:=hid ho
  clear hb ho
  by_cases hlt:n < l.length
  ·have hrow:=HI.out.row n hlt
   have hrow':=hrow
   obtain⟨kb,ko,rfl,-⟩:=hrow'
   rw[F.cells_is] at hrow
   obtain⟨r0,r1,r2,r3,hkb⟩:=zbk hrow (HP.out.on HB.out)
   have HT:Hid ((l.take (n+1)).map (fun F=>Value.string F.name)=(l.take n).map (fun F=>Value.string F.name)++[.string l[n].name]):=hid (by rw[List.take_succ_eq_append_getElem hlt,List.map_append];rfl)
   clear hrow
   go_wp2_with (at_builtin;refine wpList_append_own_at _ rfl _ _ 32 rfl w.heap.size 9 ei _ 1 16 Tryz.underlying32 hi hz0 hz1 hz2 rfl (by decide) _ n _ rfl ((HO.out.alloc _).alloc _) ⟨wr.heap.size+1,0,none⟩ 1 1 [.string l[n].name] rfl rfl (fun j u hj=>by match j,hj with | 0,hj=>(simp at hj;subst hj;simp[Addr.add]) | j+1,hj=>simp at hj) (by simp[Value.oneCell']) (by unfold maxLen;omega) (by omega) (by have:=HB.out.size;simp;omega) ?_;intro v' w3 hown hgrow hnil hat;have HO3:=hid hown;have HG3:=hid hgrow;clear hown hgrow hnil hat)
   go_round
   case rel=>exact⟨n+1,by omega,by go_num,by rw[HT.out];exact HO3.out,Below.grown (bal (bal HB.out _) _) HG3.out (by have:=HB.out.size;simp;omega) (fun k hk=>(HO.out.lt k hk).1)⟩
   case measure=>simp[intOf];omega
  ·obtain rfl:n=l.length:=by omega
   go_wp2
   go_ret
   refine⟨?_,HB.out⟩
   have h:=HO.out
   rw[List.take_length] at h
   rw[show(l.map fun F=>Value.string F.name)=(l.map (·.name)).map Value.string by rw[List.map_map];rfl,←List.length_map (·.name)] at h
   obtain⟨a',c',hv,hc,hs⟩:=own_strs h
   exact⟨a',c',by rw[←hv];rfl,hc,hs⟩
theorem large1_any (b:ByteArray) (s:Int) (w:World):Calls Tryz.prog 137 #[.agg #[.string b,.int .i64 s]] w fun e w'=>e=.returned (.bool (decide (64 < s)))∧Below w.heap.size w w':=by
 go_enter Tryz.func137,Tryz.ntmps137
 go_wp2
 go_ret
 exact⟨rfl,bal (bre w) _⟩
theorem idxD_any {w0:World} {F:FT} (hin:F.In w0 0) (w:World) (hp:Past w0 w):
  Calls Tryz.prog 191 #[.slice F.va F.vars.length F.vc,.func (.func 137) #[] #[]] w fun e w'=>(∃r:Int,e=.returned (.int .i64 r)∧decide (0≤r)=(F.vars.any fun d=>decide (64 < d.2)))∧Below w.heap.size w w':=by
 have HP:=hid hp
 have HI:=hid hin
 have hll:=hin.vl
 clear hp hin
 go_enter Tryz.func191,Tryz.ntmps191
 go_wp2
 go_loopw [5,8] (fun _ i wr=>∃n:Nat,n≤F.vars.length∧i=.int .i64 n∧Below w.heap.size w wr∧∀j (hj:j < n) (hl:j < F.vars.length),F.vars[j].2≤64) (fun _ i _=>F.vars.length - (intOf i).toNat)
 case atStart=>exact⟨0,Nat.zero_le _,rfl,Below.refl _ _,fun j hj=>by omega⟩
 case round =>
  obtain⟨n,hn,rfl,hb,hno⟩:=hrel
  have HB:=hid hb
  have HN:=hid hno
  clear hb hno
  by_cases hlt:n < F.vars.length
  ·have hrow:=HI.out.vs n hlt
   have hrow':=hrow
   obtain⟨kb,ko,rr,-⟩:=hrow'
   rw[rr] at hrow ⊢
   obtain⟨r0,r1,hkb⟩:=zcP hrow (HP.out.on HB.out)
   have hcall:=large1_any F.vars[n].1 F.vars[n].2 wr
   clear hrow rr
   by_cases he:64 < F.vars[n].2
   ·rw[decide_eq_true he] at hcall
    have HX:=hid hcall
    have HE:Hid ((F.vars.any fun d=>decide (64 < d.2))=true):=hid (List.any_eq_true.2 ⟨F.vars[n],List.getElem_mem hlt,decide_eq_true he⟩)
    clear hcall he
    go_wp2_with (go_at_call 137;have hx:=HX.out;refine hx.mono ?_;clear hx;rintro e w1 ⟨rfl,hb1⟩)
    go_ret
    exact⟨⟨n,rfl,by rw[HE.out];exact decide_eq_true (by omega)⟩,zan HB.out hb1⟩
   ·rw[decide_eq_false he] at hcall
    have HX:=hid hcall
    have HE:Hid (∀j (hj:j < n+1) (hl:j < F.vars.length),F.vars[j].2≤64):=hid (fun j hj hl=>by
     by_cases e:j=n
     ·subst e;omega
     ·exact HN.out j (by omega) hl)
    clear hcall he
    go_wp2_with (go_at_call 137;have hx:=HX.out;refine hx.mono ?_;clear hx;rintro e w1 ⟨rfl,hb1⟩)
    go_round
    case rel=>exact⟨n+1,by omega,by go_num,zan HB.out hb1,HE.out⟩
    case measure=>simp[intOf];omega
  ·obtain rfl:n=F.vars.length:=by omega
   have HE:Hid ((F.vars.any fun d=>decide (64 < d.2))=false):=hid (by
    rw[List.any_eq_false]
    intro d hd
    obtain⟨j,hj,rfl⟩:=List.mem_iff_getElem.1 hd
    have:=HN.out j hj hj
    simp;omega)
   go_wp2
   go_ret
   exact⟨⟨-1,rfl,by rw[HE.out];rfl⟩,HB.out⟩
theorem contD_any {w0:World} {F:FT} (hin:F.In w0 0) (w:World) (hp:Past w0 w):
  Calls Tryz.prog 136 #[.slice F.va F.vars.length F.vc,.func (.func 137) #[] #[]] w fun e w'=>e=.returned (.bool (F.vars.any fun d=>decide (64 < d.2)))∧Below w.heap.size w w':=by
 have HX:=hid (idxD_any hin w hp)
 clear hp hin
 go_enter Tryz.func136,Tryz.ntmps136
 go_wp2_with (go_at_call 191;have hx:=HX.out;refine hx.mono ?_;clear hx;rintro e w1 ⟨⟨r,rfl,hr⟩,hb1⟩;have HR:=hid hr;clear hr)
 all_goals go_ret
 all_goals exact⟨by rw[←HR.out];rfl,hb1⟩
theorem large_any {w0:World} {F:FT} (hin:F.In w0 0) (hsm:F.params.length≤1000000000∧F.vars.length≤1000000000) (w:World) (hp:Past w0 w):
  Calls Tryz.prog 97 #[.agg #[.string F.name,.slice F.pa F.params.length F.pc,.slice F.va F.vars.length F.vc,.slice F.ba F.body.length F.bc]] w fun e w'=>e=.returned (.bool (zcT F))∧Below w.heap.size w w':=by
 have HP:=hid hp
 have HX:=hid (fun(W:World) (hW:Past w0 W)=>contD_any hin W hW)
 obtain⟨q,hq⟩:∃q,(F.vars.any fun d=>decide (64 < d.2))=q:=⟨_,rfl⟩
 rw[hq] at HX
 obtain⟨p,hpp⟩:∃p,F.params.length=p:=⟨_,rfl⟩
 obtain⟨v,hv⟩:∃v,F.vars.length=v:=⟨_,rfl⟩
 have HV:Hid (zcT F=(decide (24 < p+v)||q)):=hid (by unfold zcT;rw[hq,hpp,hv])
 rw[hpp,hv] at hsm
 rw[hv] at HX
 rw[hpp,hv]
 clear hp hin hq hpp hv
 by_cases h:24 < p+v
 ·have e1:decide (24 < (p:Int)+(v:Int))=true:=by simp;omega
  have e2:decide (24 < p+v)=true:=decide_eq_true h
  rw[e2] at HV
  clear h
  go_enter Tryz.func97,Tryz.ntmps97
  go_wp2
  go_ret
  exact⟨by rw[HV.out];rfl,bal (bre w) _⟩
 ·have e1:decide (24 < (p:Int)+(v:Int))=false:=by simp;omega
  have e2:decide (24 < p+v)=false:=decide_eq_false h
  rw[e2] at HV
  clear h
  go_enter Tryz.func97,Tryz.ntmps97
  go_wp2_with (go_at_call 136;refine(HX.out _ ?_).mono ?_;(exact HP.out.alloc _);rintro e w1 ⟨rfl,hb1⟩;have HB1:=hid hb1;clear hb1)
  go_ret
  exact⟨by rw[HV.out];rfl,zan (bal (bre w) _) HB1.out⟩
end Go.Proofs.YtljbbhhiiiepcaaGreatDoor.Ck
