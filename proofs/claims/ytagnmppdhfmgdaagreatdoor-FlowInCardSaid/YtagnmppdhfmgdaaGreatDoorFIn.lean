/- A node stands in an If or a While ahead of it; jumps have an Other; Ifs and Whiles have two ways: the walk of FlowIn. -/
import Derived.Test.YtagnmppdhfmgdaaGreatDoorFHeap
import Derived.Test.YtagnmppdhfmgdaaGreatDoorFExW
set_option linter.unusedSimpArgs false
set_option linter.unusedVariables false
set_option maxHeartbeats 8000000
set_option maxRecDepth 100000
namespace Go.Proofs.YtagnmppdhfmgdaaGreatDoor.Fl
open Go Go.RowKit Go.Proofs.YtagnmppdhfmgdaaGreatDoor
open Go.Lib (hid)
open Go.Proofs.YtagnmppdhfmgdaaGreatDoor.Pm (Wo)
open Go.Lib (hid)
structure InF (w:World) (N:Nat) (gv go gi gf:Nat) (i:Nat):Prop where
 ex:∃(kd par o:Int) (ra:Option Addr) (ln rc:Nat),w.cell? ⟨gi,i,none⟩=some (.int .i64 par)∧w.cell? ⟨go,i,none⟩=some (.int .i64 o)∧w.cell? ⟨gf,i*7,none⟩=some (.int .i64 kd)∧w.cell? ⟨gv,i,none⟩=some (.slice ra ln rc) ∧
  (par=-1∨∃(q:Nat) (kq:Int),par=(q:Int)∧q < i∧w.cell? ⟨gf,q*7,none⟩=some (.int .i64 kq)∧(kq=4∨kq=5)) ∧
  ((kd < 4∧ln=1∧o=-1)∨(kd=4∧ln=2∧o=-1)∨(kd=5∧ln=2∧o=-1)∨((6≤kd∧kd≤8)∧ln=1∧(0≤o∧o≤(N:Int)))∨(kd=9∧ln=1∧o=-1))
theorem inF_of {w:World} {B N gv go gi gf cv co ci:Nat} {l:List ST} {rv:List Value} (hN:cnts l=N) (hr:zak l=true)
  (hv:w.ownsRow B 29 1 (.slice (some ⟨gv,0,none⟩) (N+1) cv) (N+1) rv) (ho:w.ownsRow B 3 1 (.slice (some ⟨go,0,none⟩) (N+1) co) (N+1) (ints (zbQ l))) (hi:w.ownsRow B 3 1 (.slice (some ⟨gi,0,none⟩) (N+1) ci) (N+1) (ints (insG l)))
  (hrw:∀(i:Nat) (r:List Int),(zcr l)[i]?=some r→∃u,rv[i]?=some u∧w.ownsRow B 3 1 u r.length (ints r)) (hf:ToldS w B gf N N (zaF l)) (i:Nat) (hlt:i < N):InF w N gv go gi gf i:=by
 subst hN
 have hl:i < (zaF l).length:=by rw[zaG];exact hlt
 obtain⟨n,hn⟩:∃n,(zaF l)[i]?=some n:=⟨_,List.getElem?_eq_getElem hl⟩
 have hnr:=node_right hr hn
 obtain⟨u,hu,hro⟩:=hrw i _ (nexts_at hn)
 obtain⟨ra,rc,rfl,-,-⟩:=zdM hro
 obtain⟨-,cur,hcur,-,hold⟩:=hf
 have hcell:∀(q:Nat) (m:NR),q < cnts l→(zaF l)[q]?=some m→w.cell? ⟨gf,q*7,none⟩=some (.int .i64 m.S.kind):=fun q m hq hm=>by
  have h0:m.S.cells[0]?=some (.int .i64 m.S.kind):=by cases m.S;rfl
  exact zac hcur (hold q m 0 _ hq hm h0)
 have hints:∀{g c:Nat} {L:List Int} {z:Int},w.ownsRow B 3 1 (.slice (some ⟨g,0,none⟩) (cnts l+1) c) (cnts l+1) (ints L)→L[i]?=some z→w.cell? ⟨g,i,none⟩=some (.int .i64 z):=fun h hz=>by
  rw[h.cellAt i (by omega),ints,List.getElem?_map,hz];rfl
 have hb:=node_bd l i n hn
 have hlen:=next_len (cnts l:Nat) i n
 refine⟨n.S.kind,n.par,othR n,ra,_,rc,hints hi (ins_at hn),hints ho (others_at hn),hcell i n hlt hn,by rw[hv.cellAt i (by omega),hu],?_,?_⟩
 ·rcases node_par hr hn with h | ⟨q,m,h1,h2,h3,h4⟩
  ·exact .inl h
  ·exact .inr ⟨q,m.S.kind,h1,h2,hcell q m (by omega) h3,h4⟩
 ·unfold othR
  rcases kind_cases hnr with h | h | h | h | h
  ·left;exact⟨h.2,by rw[hlen,if_neg (by omega)],by rw[if_neg (by omega)]⟩
  ·right;left;exact⟨h,by rw[hlen,if_pos (by omega)],by rw[if_neg (by omega)]⟩
  ·right;right;left;exact⟨h,by rw[hlen,if_pos (by omega)],by rw[if_neg (by omega)]⟩
  ·right;right;right;left;exact⟨h,by rw[hlen,if_neg (by omega)],by rw[if_pos (by omega)];exact hb.1⟩
  ·right;right;right;right;exact⟨h,by rw[hlen,if_neg (by omega)],by rw[if_neg (by omega)]⟩
theorem flowIn_walk (v0:Value) (w:World) (H:Wo w) (c0:CodeIn w v0):
  Calls Tryz.prog 6 #[v0] w fun e w'=>e=.returned (.bool true)∧Below w.heap.size w w':=by
 obtain⟨pa,pn,pc,own,la,ln,lc,zl,ga,gn,gc,zg,rfl,r0,r1,hg⟩:=c0
 have HP:=hid H
 have R0:=hid r0
 have R1:=hid r1
 have GC:=hid hg
 clear H r0 r1 hg
 have hfd:∀(N:Nat) (w:World),(Instr.field 24 (.agg #[.slice (some ⟨N,0,none⟩) 3 3]) 0).run Tryz.prog w=.ok (.slice (some ⟨N,0,none⟩) 3 3) w:=fun _ _=>by kernel_rfl
 go_enter Tryz.func6,Tryz.ntmps6
 go_wp2_with (first
  | (go_at_call 14;(refine(flat_any (w0:=w3) a c l HM3.out.lim HM3.out.inn (by have:=HM3.out.few;omega) _ ((show Past w3 w4 from HB4.out).alloc _)).mono ?_);rintro e w5 ⟨⟨gf,rfl,t5⟩,hb5⟩;rw[HME.out] at t5 ⊢;have hX:=(hb5.block w4.heap.size (by simp)).trans (zai w4 _);have z0:=zac (k:=0) hX rfl;have z1:=zac (k:=1) hX rfl;have z2:=zac (k:=2) hX rfl;have z3:=lt_of_block hX;have hq:M≤24:=(by have:=HM3.out.few;have:=HME.out;omega);have H5:=hid (And.intro t5 hb5);clear t5 hb5 hX)
  | (go_at_call 11;(refine(of_any (w0:=w3) a c l HM3.out.lim HM3.out.inn (by have:=HM3.out.few;omega) w3 (Past.refl _)).mono ?_);rintro e w4 ⟨v,rfl,hg4,hb4⟩;obtain⟨gv,go,ai,cv,co,ci,rv,rfl,g1,g2,g3,g4⟩:=hg4.ex;obtain⟨gi,rfl,-,-,-,-,-,-⟩:=zbh g3 (by omega);obtain⟨M,hM⟩:∃M,cnts l=M:=⟨_,rfl⟩;rw[hM] at g1 g2 g3 ⊢;have HME:=hid hM;have HG4:=hid (And.intro g1 (And.intro g2 (And.intro g3 g4)));have HB4:=hid hb4;clear g1 g2 g3 g4 hg4 hb4 hM)
  | (go_at_call 9;refine(main_call _ (R0.out.on ?_) (R1.out.on ?_) GC.out).mono ?_;(repeat (first | with_reducible exact HB1.out | (with_reducible refine Below.setCell ?_ ?_ _) | simp));rintro e w3 ⟨N,a,c,l,rfl,hm3,hb3⟩;clear x0 x1 x2 x3 fx;have HB3:Hid (Below w.heap.size w w3):=hid (Below.trans (show Below w.heap.size w _ from by (repeat (first | with_reducible exact HB1.out | (with_reducible refine Below.setCell ?_ ?_ _) | simp))) (hb3.mono (by simp[World.setCell];have:=HB1.out.size;omega)));have HM3:=hid hm3;have y0:=hm3.cell;have y1:=hm3.lt;clear hb3 hm3)
  | (go_at_call 8;refine(ex_any (HP.out.on ((Past.refl w).alloc _))).mono ?_;rintro e w1 ⟨rfl,hb1⟩;have hX:=(hb1.block w.heap.size (by simp)).trans (zai w _);have x0:=zac (k:=0) hX rfl;have x1:=zac (k:=1) hX rfl;have x2:=zac (k:=2) hX rfl;have x3:=zac (k:=3) hX rfl;have fx:=fun k=>zab (k:=k) hX;have lx:=lt_of_block hX;have HX:=hid hX;have HB1:Hid (Below w.heap.size w w1):=hid (zbe ((Below.refl _ _).alloc (Nat.le_refl _) _) hb1);clear hX hb1))
 have b5:Below w.heap.size w w5:=zbe HB3.out (zbe (HB4.out.alloc HB4.out.size _) H5.out.2)
 have hb4:Below w4.heap.size w4 w5:=zbe ((Below.refl _ _).alloc (Nat.le_refl _) _) H5.out.2
 have hF:∀i,i < M→InF w5 M gv go gi gf i:=by
  obtain⟨g1,g2,g3,g4⟩:=HG4.out
  have key:∀{u:Value} {n sz:Nat} {e:TypeId} {xs:List Value},w4.ownsRow w3.heap.size e sz u n xs→w5.ownsRow w3.heap.size e sz u n xs:=fun hu=>zaz hu fun q hq=>hb4.block q (zaM hu hq)
  obtain⟨t1,t2⟩:=H5.out.1
  exact fun i hi=>inF_of HME.out HM3.out.right (key g1) (key g2) (key g3) (fun i r hr=>by obtain⟨u,h1,h2⟩:=g4 i r hr;exact⟨u,h1,key h2⟩) ⟨Nat.le_trans HB4.out.size (Nat.le_trans (by simp) t1),t2⟩ i hi
 have HF:=hid (And.intro hF b5)
 clear hF b5 hb4 HG4 H5 HM3 HB4 HB3 HME y0 y1 HX HB1 lx hfd HP R0 R1 GC
 go_loop [7] (fun i=>∃k:Nat,k≤M∧i=.int .i64 k) (fun i=>M - (intOf i).toNat)
 case atStart=>exact⟨0,Nat.zero_le _,rfl⟩
 case round =>
  obtain⟨k,hk,rfl⟩:=hrel
  by_cases hlt:k < M
  ·obtain⟨kd,par,o,ra,ln,rc,c0,c1,c2,c3,h1,h2⟩:=(HF.out.1 k hlt).ex
   rcases h1 with rfl | ⟨q,kq,rfl,hqk,c4,rfl | rfl⟩<;>rcases h2 with ⟨e,rfl,rfl⟩ | ⟨rfl,rfl,rfl⟩ | ⟨rfl,rfl,rfl⟩ | ⟨⟨ea,eb⟩,rfl,⟨ec,ed⟩⟩ | ⟨rfl,rfl,rfl⟩
   all_goals go_wp2
   all_goals (first | (exfalso;omega) | skip)
   all_goals go_round
   all_goals (first | exact⟨k+1,by omega,by go_num⟩ | (simp[intOf];omega))
  ·obtain rfl:k=M:=by omega
   go_wp2
   go_ret
   exact⟨by simp,HF.out.2⟩
end Go.Proofs.YtagnmppdhfmgdaaGreatDoor.Fl
