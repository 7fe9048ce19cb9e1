/- Statements by their numbers are as many as are counted, each ahead of those below it: the walk of FlowFlat. -/
import Derived.Test.YtagnmppdhfmgdaaGreatDoorFEx
import Derived.Test.YtagnmppdhfmgdaaGreatDoorFTop
set_option linter.unusedSimpArgs false
set_option linter.unusedVariables false
set_option maxHeartbeats 8000000
set_option maxRecDepth 100000
namespace Go.Proofs.YtagnmppdhfmgdaaGreatDoor.Fl
open Go Go.RowKit Go.Proofs.YtagnmppdhfmgdaaGreatDoor
open Go.Lib (hid)
open Go.Proofs.YtagnmppdhfmgdaaGreatDoor.Pm (Wo)
open Go.Lib (hid)
theorem ins_cell {w:World} {B gi ci:Nat} {l:List ST} (h:w.ownsRow B 3 1 (.slice (some ⟨gi,0,none⟩) (cnts l+1) ci) (cnts l+1) (ints (insG l))) {i:Nat} {n:NR} (hn:(zaY l)[i]?=some n):w.cell? ⟨gi,i,none⟩=some (.int .i64 n.par):=by
 have hi:=zaK hn
 rw[zaG] at hi
 rw[h.cellAt i (by omega),ints,List.getElem?_map,ins_at hn];rfl
theorem zdY {w w':World} {p:Addr} {v:Value} (h:Past w w') (hc:w.cell? p=some v):w'.cell? p=some v:=(World.cell?_of_block (h.block _ (World.block_lt_of_cell? _ _ hc))).trans hc
theorem ins_end {w:World} {B gi ci:Nat} {l:List ST} (h:w.ownsRow B 3 1 (.slice (some ⟨gi,0,none⟩) (cnts l+1) ci) (cnts l+1) (ints (insG l))):w.cell? ⟨gi,cnts l,none⟩=some (.int .i64 (-1)):=by
 have hl:(insG l)[cnts l]?=some (-1):=by
  unfold insG
  rw[List.getElem?_append_right (by rw[List.length_map,zaG];exact Nat.le_refl _),List.length_map,zaG,Nat.sub_self];rfl
 rw[h.cellAt (cnts l) (by omega),ints,List.getElem?_map,hl];rfl
theorem flowFlat_walk (v0:Value) (w:World) (H:Wo w) (c0:CodeIn w v0):
  Calls Tryz.prog 7 #[v0] w fun e w'=>e=.returned (.bool true)∧Below w.heap.size w w':=by
 obtain⟨pa,pn,pc,own,la,ln,lc,zl,ga,gn,gc,zg,rfl,r0,r1,hg⟩:=c0
 have HP:=hid H
 have R0:=hid r0
 have R1:=hid r1
 have GC:=hid hg
 clear H r0 r1 hg
 have hfd:∀(N:Nat) (w:World),(Instr.field 24 (.agg #[.slice (some ⟨N,0,none⟩) 3 3]) 0).run Tryz.prog w=.ok (.slice (some ⟨N,0,none⟩) 3 3) w:=fun _ _=>by kernel_rfl
 have hfe:∀(x y z:Option Addr) (m a b c:Nat) (w:World),(Instr.field 40 (.agg #[.slice x m a,.slice y m b,.slice z m c]) 2).run Tryz.prog w=.ok (.slice z m c) w:=fun _ _ _ _ _ _ _ _=>by kernel_rfl
 go_enter Tryz.func7,Tryz.ntmps7
 go_wp2_with (first
  | (go_at_call 22;(refine(count_any (w0:=w3) (Szs l+1) a c l (by omega) HM3.out.lim HM3.out.inn _ P5.out).mono ?_);rintro e w6 ⟨rfl,hb6⟩;rw[wrap_small _ (by have:=HM3.out.few;omega),HME.out];have hq:M≤24:=(by have:=HM3.out.few;have:=HME.out;omega);have H6:=hid hb6;clear hb6)
  | (go_at_call 11;(refine(of_any (w0:=w3) a c l HM3.out.lim HM3.out.inn (by have:=HM3.out.few;omega) w4 H4.out.2).mono ?_);rintro e w5 ⟨v,rfl,hg5,hb5⟩;obtain⟨gv,go,ai,cv,co,ci,rv,rfl,g1,g2,g3,g4⟩:=hg5.ex;obtain⟨gi,rfl,-,-,-,-,-,-⟩:=zbk g3 (by omega);have HG5:=hid g3;rw[HME.out];have H5:=hid hb5;have P5:Hid (Past w3 w5):=hid (zaE H4.out.2 hb5);clear g1 g2 g3 g4 hg5 hb5)
  | (go_at_call 14;(refine(flat_any (w0:=w3) a c l HM3.out.lim HM3.out.inn (by have:=HM3.out.few;omega) w3 (Past.refl _)).mono ?_);rintro e w4 ⟨⟨gf,rfl,t4⟩,hb4⟩;obtain⟨M,hM⟩:∃M,cnts l=M:=⟨_,rfl⟩;have HME:=hid hM;rw[hM];have H4:=hid (And.intro t4 hb4);clear t4 hb4 hM)
  | (go_at_call 9;refine(main_call _ (R0.out.on ?_) (R1.out.on ?_) GC.out).mono ?_;(repeat (first | with_reducible exact HB1.out | (with_reducible refine Below.setCell ?_ ?_ _) | simp));rintro e w3 ⟨N,a,c,l,rfl,hm3,hb3⟩;clear x0 x1 x2 x3 fx;have HB3:Hid (Below w.heap.size w w3):=hid (Below.trans (show Below w.heap.size w _ from by (repeat (first | with_reducible exact HB1.out | (with_reducible refine Below.setCell ?_ ?_ _) | simp))) (hb3.mono (by simp[World.setCell];have:=HB1.out.size;omega)));have HM3:=hid hm3;have y0:=hm3.cell;have y1:=hm3.lt;clear hb3 hm3)
  | (go_at_call 8;refine(ex_any (HP.out.on ((Past.refl w).alloc _))).mono ?_;rintro e w1 ⟨rfl,hb1⟩;have hX:=(hb1.block w.heap.size (by simp)).trans (zai w _);have x0:=zab (k:=0) hX rfl;have x1:=zab (k:=1) hX rfl;have x2:=zab (k:=2) hX rfl;have x3:=zab (k:=3) hX rfl;have fx:=fun k=>zac (k:=k) hX;have lx:=lt_of_block hX;have HX:=hid hX;have HB1:Hid (Below w.heap.size w w1):=hid (zaE ((Below.refl _ _).alloc (Nat.le_refl _) _) hb1);clear hX hb1))
 have hin6:SsIn w6 0 a 0 l:=HM3.out.inn.on (zaE P5.out H6.out)
 have ht6:ToldS w6 w3.heap.size gf M M (zaY l):=by
  have h:=H4.out.1
  rw[HME.out] at h
  exact⟨h.1,by obtain⟨cur,h1,h2⟩:=h.2;exact⟨cur,(H6.out.block _ (by have:=H5.out.size;have:=lt_of_block h1;omega)).trans ((H5.out.block _ (lt_of_block h1)).trans h1),h2⟩⟩
 have hi6:w6.ownsRow w4.heap.size 3 1 (.slice (some ⟨gi,0,none⟩) (cnts l+1) ci) (cnts l+1) (ints (insG l)):=zaB HG5.out fun q hq=>H6.out.block q (zaO HG5.out hq)
 have hb6:Below w.heap.size w w6:=zaE HB3.out (zaE P5.out H6.out)
 have HI:=hid (And.intro hin6 (And.intro ht6 (And.intro hi6 hb6)))
 have HR:=hid (And.intro HM3.out.right (And.intro HM3.out.cap HM3.out.lim))
 clear hin6 ht6 hi6 hb6 HG5 H4 H5 H6 P5 HM3 HB3 y0 y1 HX HB1 lx hfd hfe HP R0 R1 GC
 have hcl:l.length≤c:=HR.out.2.1
 go_loopw [8,9] (fun p i wr=>∃k:Nat,k≤l.length∧i=.int .i64 k∧p=.int .i64 (cnts (l.take k):Nat)∧Past w6 wr) (fun p i _=>l.length - (intOf i).toNat)
 case atStart=>exact⟨0,Nat.zero_le _,rfl,rfl,Past.refl _⟩
 case round =>
  obtain⟨k,hk,rfl,rfl,hpast⟩:=hrel
  by_cases hlt:k < l.length
  ·have T:=topF_of hlt
   obtain⟨b,off,hab,hone⟩:=(one_ss hlt HI.out.1).2
   obtain⟨z,hz⟩:∃z,l[k].cnt=z:=⟨_,rfl⟩
   obtain⟨p,hp⟩:∃p,cnts (l.take k)=p:=⟨_,rfl⟩
   obtain⟨S,hS⟩:∃S,l[k]=S:=⟨_,rfl⟩
   rw[hz,hp] at T
   rw[hp]
   have hzS:cnts [S]=z:=by rw[cnts,cnts,←hS,hz];rfl
   have rS:zak [S]=true:=by rw[←hS];exact right_one HR.out.1 hlt
   rw[hS] at hone
   obtain⟨n,hn,hpar,hnS⟩:=T.at0
   have hnS:=(hnS hlt).trans hS
   have hpM:p < M:=by have h1:=T.le;have h2:=T.pos;have h3:=HME.out;omega
   have c1:=zdY hpast (ins_cell HI.out.2.2.1 hn)
   rw[hpar] at c1
   have hfl:=one_told HI.out.2.1 hpM hn hnS (by rw[←hS];exact(one_ss hlt HI.out.1).1)
   have e1:decide ((k:Int) < (l.length:Int))=true:=by simp;omega
   have e2:decide ((M:Int)≤(p:Int))=false:=by simp;omega
   have e3:decide (M≤p)=false:=by simp;omega
   have HT:=hid T
   have HC:Hid (∀W,Past w6 W→Calls Tryz.prog 25 #[.slice (some ⟨gf,p*7,none⟩) 1 (M - p),.slice (some ⟨b,off+k*7,none⟩) 1 (c - k)] W fun e w'=>e=.returned (.bool true)∧Below W.heap.size W w'):=hid fun W hW=>by
    have h:=sameStmts_any (w0:=w6) (some ⟨gf,p*7,none⟩) (some ⟨b,off+k*7,none⟩) (M - p) (c - k) [S] [S] (by simp) (by simp) hfl hone W hW
    rw[same_one rS] at h
    exact h
   have HN:Hid (∀W,Past w6 W→Calls Tryz.prog 22 #[.slice (some ⟨b,off+k*7,none⟩) 1 (c - k)] W fun e w'=>e=.returned (.int .i64 (z:Nat))∧Below W.heap.size W w'):=hid fun W hW=>by
    have h:=count_any (w0:=w6) (Szs [S]+1) (some ⟨b,off+k*7,none⟩) (c - k) [S] (by omega) (by simp) hone W hW
    rw[hzS,wrap_small _ (by have:=T.le;have:=HME.out;omega)] at h
    exact h
   have HS:Hid (∀W,Past w6 W→W.cell? ⟨gi,p,none⟩=some (.int .i64 (-1))):=hid fun W hW=>zdY hW (by have h:=ins_cell HI.out.2.2.1 hn;rw[hpar] at h;exact h)
   have wl:IntKind.i64.wrap ((p:Int)+1)=(p:Int)+1:=IntWalk.i64_in _ (by omega)
   have wk:IntKind.i64.wrap ((k:Int)+1)=(k:Int)+1:=IntWalk.i64_in _ (by have:=HR.out.2.2;omega)
   have hq:Hid (Past w6 wr.drew):=hid hpast.drew
   rw[hab]
   clear T hz hp hn hpar hnS hfl hone rS hzS hpast hab c1
   have i0:(0:Int)≤(p:Int):=by omega
   have i1:(p:Int) < (M:Int)+1:=by omega
   have i2:(p:Int)≤(p:Int)+1:=by omega
   have i3:(p:Int)+1≤(M:Int):=by omega
   have i4:(0:Int)≤(k:Int):=by omega
   have i5:(k:Int)≤(k:Int)+1:=by omega
   have i6:(k:Int)+1≤(c:Int):=by omega
   have i7:((p:Int)+1).toNat=p+1:=by omega
   have i8:((k:Int)+1).toNat=k+1:=by omega
   have i9:(M=p)=False:=by simp;omega
   have i10:(c=k)=False:=by simp;omega
   go_wp2
   refine wp_region_held_drew (S:=fun w'=>w'.cell? ⟨gi,p,none⟩=some (.int .i64 (-1))) (by kernel_rfl) ?_ (fun hHeld=>?_)
   ·with_reducible exact HS.out _ hq.out
   refine wpAnyH_take (i:=0) (v:=?_) (opAt rfl) (by kernel_rfl) (by kernel_rfl) (by kernel_rfl) (fun _ _ _ h=>h) (Or.inl ⟨by rfl,?_⟩) (by assumption) ?_
   rotate_left
   ·intro w' hSw;(try dsimp only at hSw);go_simp;(try with_reducible rfl)
   try simp only[Act.put,List.setIfInBounds_toArray,List.set_cons_zero,List.set_cons_succ]
   refine wpAnyH_take (i:=1) (v:=?_) (opAt rfl) (by kernel_rfl) (by kernel_rfl) (by kernel_rfl) (fun _ _ _ h=>h) (Or.inl ⟨by rfl,?_⟩) (by assumption) ?_
   rotate_left
   ·intro w' hSw;(try dsimp only at hSw);go_simp;(try with_reducible rfl)
   try simp only[Act.put,List.setIfInBounds_toArray,List.set_cons_zero,List.set_cons_succ]
   refine wpAnyH_take (i:=2) (v:=?_) (opAt rfl) (by kernel_rfl) (by kernel_rfl) (by kernel_rfl) (fun _ _ _ h=>h) (Or.inl ⟨by rfl,?_⟩) (by assumption) ?_
   rotate_left
   ·intro w' hSw;(try dsimp only at hSw);go_simp;(try with_reducible rfl)
   try simp only[Act.put,List.setIfInBounds_toArray,List.set_cons_zero,List.set_cons_succ]
   refine wpAnyH_take (i:=3) (v:=?_) (opAt rfl) (by kernel_rfl) (by kernel_rfl) (by kernel_rfl) (fun _ _ _ h=>h) (Or.inl ⟨by rfl,?_⟩) (by assumption) ?_
   rotate_left
   ·intro w' hSw;(try dsimp only at hSw);go_simp;(try with_reducible rfl)
   try simp only[Act.put,List.setIfInBounds_toArray,List.set_cons_zero,List.set_cons_succ]
   refine wpAnyH_take (i:=4) (v:=?_) (opAt rfl) (by kernel_rfl) (by kernel_rfl) (by kernel_rfl) (fun _ _ _ h=>h) (Or.inl ⟨by rfl,?_⟩) (by assumption) ?_
   rotate_left
   ·intro w' hSw;(try dsimp only at hSw);go_simp;(try with_reducible rfl)
   try simp only[Act.put,List.setIfInBounds_toArray,List.set_cons_zero,List.set_cons_succ]
   refine wpAnyH_take (i:=5) (v:=?_) (opAt rfl) (by kernel_rfl) (by kernel_rfl) (by kernel_rfl) (fun _ _ _ h=>h) (Or.inl ⟨by rfl,?_⟩) (by assumption) ?_
   rotate_left
   ·intro w' hSw;(try dsimp only at hSw);go_simp;(try with_reducible rfl)
   try simp only[Act.put,List.setIfInBounds_toArray,List.set_cons_zero,List.set_cons_succ]
   refine wpAnyH_take (i:=6) (v:=?_) (opAt rfl) (by kernel_rfl) (by kernel_rfl) (by kernel_rfl) (fun _ _ _ h=>h) (Or.inl ⟨by rfl,?_⟩) (by assumption) ?_
   rotate_left
   ·intro w' hSw;(try dsimp only at hSw);go_simp;(try with_reducible rfl)
   try simp only[Act.put,List.setIfInBounds_toArray,List.set_cons_zero,List.set_cons_succ]
   refine wpAnyH_take (i:=7) (v:=?_) (opAt rfl) (by kernel_rfl) (by kernel_rfl) (by kernel_rfl) (fun _ _ _ h=>h) (Or.inl ⟨by rfl,?_⟩) (by assumption) ?_
   rotate_left
   ·intro w' hSw;(try dsimp only at hSw);go_simp;(try with_reducible rfl)
   try simp only[Act.put,List.setIfInBounds_toArray,List.set_cons_zero,List.set_cons_succ]
   refine wpAnyH_take (i:=8) (v:=?_) (opAt rfl) (by kernel_rfl) (by kernel_rfl) (by kernel_rfl) (fun _ _ _ h=>h) (Or.inl ⟨by rfl,?_⟩) (by assumption) ?_
   rotate_left
   ·intro w' hSw;(try dsimp only at hSw);go_simp;(try with_reducible rfl)
   try simp only[Act.put,List.setIfInBounds_toArray,List.set_cons_zero,List.set_cons_succ]
   refine wpAnyH_take (i:=9) (v:=?_) (opAt rfl) (by kernel_rfl) (by kernel_rfl) (by kernel_rfl) (fun _ _ _ h=>h) (Or.inl ⟨by rfl,?_⟩) (by assumption) ?_
   rotate_left
   ·intro w' hSw;(try dsimp only at hSw);go_simp;(try with_reducible rfl)
   try simp only[Act.put,List.setIfInBounds_toArray,List.set_cons_zero,List.set_cons_succ]
   refine wpAnyH_take (i:=10) (v:=?_) (opAt rfl) (by kernel_rfl) (by kernel_rfl) (by kernel_rfl) (fun _ _ _ h=>h) (Or.inl ⟨by rfl,?_⟩) (by assumption) ?_
   rotate_left
   ·intro w' hSw;(try dsimp only at hSw);go_simp;(try with_reducible rfl)
   try simp only[Act.put,List.setIfInBounds_toArray,List.set_cons_zero,List.set_cons_succ]
   refine wpAnyH_take (i:=11) (v:=?_) (opAt rfl) (by kernel_rfl) (by kernel_rfl) (by kernel_rfl) (fun _ _ _ h=>h) (Or.inl ⟨by rfl,?_⟩) (by assumption) ?_
   rotate_left
   ·intro w' hSw;(try dsimp only at hSw);go_simp;(try with_reducible rfl)
   try simp only[Act.put,List.setIfInBounds_toArray,List.set_cons_zero,List.set_cons_succ]
   refine wpAnyH_take (i:=12) (v:=?_) (opAt rfl) (by kernel_rfl) (by kernel_rfl) (by kernel_rfl) (fun _ _ _ h=>h) (Or.inl ⟨by rfl,?_⟩) (by assumption) ?_
   rotate_left
   ·intro w' hSw;(try dsimp only at hSw);go_simp;(try with_reducible rfl)
   try simp only[Act.put,List.setIfInBounds_toArray,List.set_cons_zero,List.set_cons_succ]
   refine wpAnyH_take (i:=13) (v:=?_) (opAt rfl) (by kernel_rfl) (by kernel_rfl) (by kernel_rfl) (fun _ _ _ h=>h) (Or.inl ⟨by rfl,?_⟩) (by assumption) ?_
   rotate_left
   ·intro w' hSw;(try dsimp only at hSw);go_simp;(try with_reducible rfl)
   try simp only[Act.put,List.setIfInBounds_toArray,List.set_cons_zero,List.set_cons_succ]
   refine wpAnyH_take (i:=14) (v:=?_) (opAt rfl) (by kernel_rfl) (by kernel_rfl) (by kernel_rfl) (fun _ _ _ h=>h) (Or.inl ⟨by rfl,?_⟩) (by assumption) ?_
   rotate_left
   ·intro w' hSw;(try dsimp only at hSw);go_simp;(try with_reducible rfl)
   try simp only[Act.put,List.setIfInBounds_toArray,List.set_cons_zero,List.set_cons_succ]
   refine wpAnyH_take (i:=15) (v:=?_) (opAt rfl) (by kernel_rfl) (by kernel_rfl) (by kernel_rfl) (fun _ _ _ h=>h) (Or.inl ⟨by rfl,?_⟩) (by assumption) ?_
   rotate_left
   ·intro w' hSw;(try dsimp only at hSw);go_simp;(try with_reducible rfl)
   try simp only[Act.put,List.setIfInBounds_toArray,List.set_cons_zero,List.set_cons_succ]
   refine wpAnyH_take (i:=16) (v:=?_) (opAt rfl) (by kernel_rfl) (by kernel_rfl) (by kernel_rfl) (fun _ _ _ h=>h) (Or.inl ⟨by rfl,?_⟩) (by assumption) ?_
   rotate_left
   ·intro w' hSw;(try dsimp only at hSw);go_simp;(try with_reducible rfl)
   try simp only[Act.put,List.setIfInBounds_toArray,List.set_cons_zero,List.set_cons_succ]
   refine wpAnyH_take (i:=17) (v:=?_) (opAt rfl) (by kernel_rfl) (by kernel_rfl) (by kernel_rfl) (fun _ _ _ h=>h) (Or.inl ⟨by rfl,?_⟩) (by assumption) ?_
   rotate_left
   ·intro w' hSw;(try dsimp only at hSw);go_simp;(try with_reducible rfl)
   try simp only[Act.put,List.setIfInBounds_toArray,List.set_cons_zero,List.set_cons_succ]
   refine wpAnyH_take (i:=18) (v:=?_) (opAt rfl) (by kernel_rfl) (by kernel_rfl) (by kernel_rfl) (fun _ _ _ h=>h) (Or.inl ⟨by rfl,?_⟩) (by assumption) ?_
   rotate_left
   ·intro w' hSw;(try dsimp only at hSw);go_simp;(try with_reducible rfl)
   try simp only[Act.put,List.setIfInBounds_toArray,List.set_cons_zero,List.set_cons_succ]
   refine wpAnyH_take (i:=19) (v:=?_) (opAt rfl) (by kernel_rfl) (by kernel_rfl) (by kernel_rfl) (fun _ _ _ h=>h) (Or.inl ⟨by rfl,?_⟩) (by assumption) ?_
   rotate_left
   ·intro w' hSw;(try dsimp only at hSw);go_simp;(try with_reducible rfl)
   try simp only[Act.put,List.setIfInBounds_toArray,List.set_cons_zero,List.set_cons_succ]
   refine wpAnyH_take (i:=20) (v:=?_) (opAt rfl) (by kernel_rfl) (by kernel_rfl) (by kernel_rfl) (fun _ _ _ h=>h) (Or.inl ⟨by rfl,?_⟩) (by assumption) ?_
   rotate_left
   ·intro w' hSw;(try dsimp only at hSw);go_simp;(try with_reducible rfl)
   try simp only[Act.put,List.setIfInBounds_toArray,List.set_cons_zero,List.set_cons_succ]
   refine wpAnyH_ready (rs:=[21]) (by kernel_rfl) (by simp) ?_
   refine AllReadyH.cons (opAt rfl) (fun K hK=>?_) AllReadyH.nil
   go_simp
   go_at_call 25;((with_reducible refine(HC.out _ hq.out).mono ?_);rintro e wk ⟨rfl,hb⟩);have hq2:=hid (hq.out.on hb);clear hq hb;have hq:=hq2;clear hq2
   (try go_wp2_with fail)
   refine hK.out _ _ (HS.out _ hq.out) (fun hHeld2=>?_)
   clear hK K hHeld
   have hHeld:=hHeld2
   clear hHeld2
   try simp only[Act.put,List.setIfInBounds_toArray,List.set_cons_zero,List.set_cons_succ]
   refine wpAnyH_take (i:=22) (v:=?_) (opAt rfl) (by kernel_rfl) (by kernel_rfl) (by kernel_rfl) (fun _ _ _ h=>h) (Or.inl ⟨by rfl,?_⟩) (by assumption) ?_
   rotate_left
   ·intro w' hSw;(try dsimp only at hSw);go_simp;(try with_reducible rfl)
   try simp only[Act.put,List.setIfInBounds_toArray,List.set_cons_zero,List.set_cons_succ]
   refine wpAnyH_take (i:=23) (v:=?_) (opAt rfl) (by kernel_rfl) (by kernel_rfl) (by kernel_rfl) (fun _ _ _ h=>h) (Or.inl ⟨by rfl,?_⟩) (by assumption) ?_
   rotate_left
   ·intro w' hSw;(try dsimp only at hSw);go_simp;(try with_reducible rfl)
   try simp only[Act.put,List.setIfInBounds_toArray,List.set_cons_zero,List.set_cons_succ]
   refine wpAnyH_done (by kernel_rfl) ?_ _
   go_wp2_with (go_at_call 22;((with_reducible refine(HN.out _ hq.out).mono ?_);rintro e wm ⟨rfl,hb⟩);have hq2:=hid (hq.out.on hb);clear hq hb;have hq:=hq2;clear hq2)
   have hz1:1≤z:=HT.out.pos
   have hz2:p+z≤M:=by have:=HT.out.le;have:=HME.out;omega
   have wz:IntKind.i64.wrap ((p:Int)+(z:Int))=(p:Int)+(z:Int):=IntWalk.i64_in _ (by omega)
   go_loop [11] (fun j=>∃m:Nat,p+1≤m∧m≤p+z∧j=.int .i64 m) (fun j=>p+z - (intOf j).toNat)
   case atStart=>exact⟨p+1,Nat.le_refl _,by omega,by go_num⟩
   case round =>
    obtain⟨m,hm1,hm2,rfl⟩:=hrel
    by_cases hmz:m < p+z
    ·obtain⟨n2,hn2,hpar2⟩:=HT.out.low m hm1 hmz
     have c2:=zdY hq.out (ins_cell HI.out.2.2.1 hn2)
     obtain⟨q,hq9⟩:∃q,n2.par=q:=⟨_,rfl⟩
     rw[hq9] at c2 hpar2
     clear hn2 hq9
     have d1:decide ((m:Int) < (p:Int)+(z:Int))=true:=by simp;omega
     have d2:decide (q < (p:Int))=false:=by simp;omega
     have j0:(0:Int)≤(m:Int):=by omega
     have j1:(m:Int) < (M:Int)+1:=by omega
     have wm1:IntKind.i64.wrap ((m:Int)+1)=(m:Int)+1:=IntWalk.i64_in _ (by omega)
     go_wp2
     go_round
     case rel=>exact⟨m+1,by omega,by omega,by go_num⟩
     case measure=>simp[intOf];omega
    ·obtain rfl:m=p+z:=by omega
     have d1:decide (((p+z:Nat):Int) < (p:Int)+(z:Int))=false:=by simp
     go_wp2
     go_roundw
     case rel=>exact⟨k+1,by omega,by go_num,by rw[HT.out.nx];go_num,hq.out⟩
     case measure=>simp[intOf];omega
  ·have hke:k=l.length:=by omega
   subst hke
   have hp:cnts (l.take l.length)=M:=by rw[List.take_length];exact HME.out
   rw[hp]
   have c1:wr.cell? ⟨gi,M,none⟩=some (.int .i64 (-1)):=by
    have h:=zdY hpast (ins_end HI.out.2.2.1)
    rw[HME.out] at h
    exact h
   have e1:decide ((l.length:Int) < (l.length:Int))=false:=by simp
   have j0:(0:Int)≤(M:Int):=by omega
   have j1:(M:Int) < (M:Int)+1:=by omega
   go_wp2
   go_ret
   exact⟨by simp,zaE HI.out.2.2.2 hpast⟩
end Go.Proofs.YtagnmppdhfmgdaaGreatDoor.Fl
