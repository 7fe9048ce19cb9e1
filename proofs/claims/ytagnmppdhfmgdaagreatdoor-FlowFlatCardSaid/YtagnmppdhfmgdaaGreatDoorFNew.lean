/- A new builder; the place of what stands last in a node; a node's place is found. -/
import Derived.Test.YtagnmppdhfmgdaaGreatDoorFList
set_option linter.unusedSimpArgs false
set_option linter.unusedVariables false
set_option maxHeartbeats 8000000
set_option maxRecDepth 100000
namespace Go.Proofs.YtagnmppdhfmgdaaGreatDoor.Fl
open Go Go.RowKit Go.Proofs.YtagnmppdhfmgdaaGreatDoor
open Go.Lib (hid)
theorem bd_new (w:World):Bd w.heap.size w.heap.size [] (w.alloc (.cells #[.slice none 0 0,.slice none 0 0,.slice none 0 0,.slice none 0 0] 77)):=
 ⟨Nat.le_refl _,.slice none 0 0,.slice none 0 0,zai _ _,World.ownsRow_nil _ _ _ _,World.ownsRow_nil _ _ _ _⟩
theorem newB_any {w0:World} (a:Option Addr) (c:Nat) (l:List ST) (hl:l.length≤9223372036854775807) (hin:SsIn w0 0 a 0 l) (hc:cnts l≤100000) (w:World) (hp:Past w0 w):
  Calls Tryz.prog 29 #[.slice a l.length c] w fun e w'=>e=.returned (.pointer (some ⟨w.heap.size,0,none⟩))∧Bd w.heap.size w.heap.size ((zaY l).map NR.raw) w'∧Below w.heap.size w w':=by
 have HK:=hid (list_any (w0:=w0) (B:=w.heap.size) (b:=w.heap.size) hp.size _ a c l (Nat.lt_succ_self _) hl hin [] (-1) (cnts l:Nat) (cnts l:Nat) (cnts l:Nat) (by simp;omega) _ (hp.alloc (.cells #[.slice none 0 0,.slice none 0 0,.slice none 0 0,.slice none 0 0] 77)) (bd_new w))
 clear hp hin hc
 go_enter Tryz.func29,Tryz.ntmps29
 go_wp2_with (go_at_call 42;(refine HK.out.mono ?_);rintro e w2 ⟨rfl,h2,h3,h4⟩)
 go_ret
 exact⟨rfl,h2,((Below.refl w.heap.size w).alloc (Nat.le_refl _) _).trans h3⟩
structure Nd (B b:Nat) (ns:List NR) (w:World) (vx vo vi:Value) (an:Option Addr) (cn:Nat):Prop where
 box:BBox w b vx vo vi (.slice an ns.length cn)
 n:w.ownsRow B 88 12 (.slice an ns.length cn) ns.length (ns.flatMap NR.cells)
theorem zbq {w:World} {g p:Nat} {n:NR} (h:∀j,j < 12→w.cell? ⟨g,p*12+j,none⟩=n.cells[j]?):w.cell? ⟨g,p*12,none⟩=some (.int .i64 n.S.kind)∧w.cell? ⟨g,p*12+1,none⟩=some (.int .i64 n.S.tag)∧w.cell? ⟨g,p*12+2,none⟩=some (.string n.S.name)∧w.cell? ⟨g,p*12+3,none⟩=some (.string n.S.func)∧w.cell? ⟨g,p*12+4,none⟩=some (.slice n.S.ea n.S.en n.S.ec)∧w.cell? ⟨g,p*12+5,none⟩=some (.slice n.S.ba n.S.bn n.S.bc)∧w.cell? ⟨g,p*12+6,none⟩=some (.slice n.S.la n.S.ln n.S.lc) ∧
  w.cell? ⟨g,p*12+7,none⟩=some (.int .i64 n.fol)∧w.cell? ⟨g,p*12+8,none⟩=some (.int .i64 n.brk)∧w.cell? ⟨g,p*12+9,none⟩=some (.int .i64 n.agn)∧w.cell? ⟨g,p*12+10,none⟩=some (.int .i64 n.beh)∧w.cell? ⟨g,p*12+11,none⟩=some (.int .i64 n.oth):=
 ⟨h 0 (by decide),h 1 (by decide),h 2 (by decide),h 3 (by decide),h 4 (by decide),h 5 (by decide),h 6 (by decide),h 7 (by decide),h 8 (by decide),h 9 (by decide),h 10 (by decide),h 11 (by decide)⟩
theorem nd_at {B b:Nat} {ns:List NR} {w:World} {vx vo vi:Value} {an:Option Addr} {cn:Nat} (h:Nd B b ns w vx vo vi an cn) {p:Nat} {n:NR} (hp:ns[p]?=some n):∃g,an=some ⟨g,0,none⟩∧B≤g∧g < w.heap.size∧p < ns.length∧(∀k,w.frozen? ⟨g,k,none⟩=false)∧∀j,j < 12→w.cell? ⟨g,p*12+j,none⟩=n.cells[j]?:=by
 have hlt:=zaK hp
 obtain⟨g,e,hB,hl,-,-,hf,hc⟩:=zbk h.n (by omega)
 exact⟨g,e,hB,hl,hlt,hf,fun j hj=>by rw[hc _ (by omega),zdV _ _ _ _ hp hj]⟩
theorem end_any {B b:Nat} {ns:List NR} {vx vo vi:Value} {an:Option Addr} {cn:Nat} {w:World} (h:Nd B b ns w vx vo vi an cn) (j:Int) (hj:j=-1∨(0≤j∧j < (ns.length:Int))) (hM:ns.length≤1000000):
  Calls Tryz.prog 44 #[.pointer (some ⟨b,0,none⟩),.int .i64 j] w fun e w'=>e=.returned (.agg #[.int .i64 (endP (ns.length:Nat) ns j).1,.int .i64 (endP (ns.length:Nat) ns j).2.1,.int .i64 (endP (ns.length:Nat) ns j).2.2])∧Below w.heap.size w w':=by
 obtain⟨b0,b1,b2,b3,bf,bl⟩:=zau h.box
 rcases hj with rfl | ⟨h0,h1⟩
 ·have he:endP (ns.length:Nat) ns (-1)=((ns.length:Int),(ns.length:Int),(ns.length:Int)):=rfl
  rw[he]
  clear h
  go_enter Tryz.func44,Tryz.ntmps44
  go_wp2
  refine bodyPost_ret (v:=.agg #[.int .i64 ns.length,.int .i64 ns.length,.int .i64 ns.length]) (by simp[results,Tryz.results44,go_sem]) rfl ⟨rfl,(Below.refl w.heap.size w).alloc (Nat.le_refl _) _⟩
 ·obtain⟨p,rfl⟩:∃p:Nat,j=p:=⟨j.toNat,by omega⟩
  have hlt:p < ns.length:=by omega
  have hp:=List.getElem?_eq_getElem hlt
  obtain⟨g,rfl,hB,hgl,-,gf,hc⟩:=nd_at h hp
  obtain⟨c0,c1,c2,c3,c4,c5,c6,c7,c8,c9,c10,c11⟩:=zbq hc
  have he:=endP_at (ns.length:Nat) hp
  have e0:((p:Int)==-1)=false:=by rw[beq_eq_false_iff_ne];omega
  generalize ns[p]=n at *
  rw[he]
  clear hc hp h he h0 h1
  by_cases hk:n.S.kind=5
  ·have e1:(n.S.kind==5)=true:=by rw[hk];rfl
   rw[if_pos hk,if_pos hk,if_pos hk]
   clear hk
   go_enter Tryz.func44,Tryz.ntmps44
   go_wp2
   refine bodyPost_ret (v:=.agg #[.int .i64 p,.int .i64 n.fol,.int .i64 p]) (by simp[results,Tryz.results44,go_sem]) rfl ⟨rfl,((Below.refl w.heap.size w).alloc (Nat.le_refl _) _).alloc (by simp) _⟩
  ·have e1:(n.S.kind==5)=false:=by rw[beq_eq_false_iff_ne];exact hk
   rw[if_neg hk,if_neg hk,if_neg hk]
   clear hk
   go_enter Tryz.func44,Tryz.ntmps44
   go_wp2
   refine bodyPost_ret (v:=.agg #[.int .i64 n.fol,.int .i64 n.brk,.int .i64 n.agn]) (by simp[results,Tryz.results44,go_sem]) rfl ⟨rfl,((Below.refl w.heap.size w).alloc (Nat.le_refl _) _).alloc (by simp) _⟩
theorem below_mono {B:Nat} {w w':World} (h:Below w.heap.size w w') (hB:B≤w.heap.size):Below B w w':=h.mono hB
theorem keptP_below {P:Nat→Prop} {w w':World} (h:Below w.heap.size w w'):KeptP P w w':=⟨h.os,h.tape,h.output,h.size,fun k hk _=>h.block k hk⟩
def NR.put (n:NR) (pl:Int×Int×Int):NR:={n with fol:=if n.beh=-1 then pl.1 else n.beh,brk:=pl.2.1,agn:=pl.2.2}
theorem Nd.on {B b:Nat} {ns:List NR} {w w':World} {vx vo vi:Value} {an:Option Addr} {cn:Nat} (h:Nd B b ns w vx vo vi an cn) (hb:Below w.heap.size w w'):Nd B b ns w' vx vo vi an cn:=
 ⟨(hb.block b (lt_of_block h.box)).trans h.box,zdF (r:=none) h.n ⟨hb.os,hb.tape,hb.output,hb.size,fun i hi _=>hb.block i hi⟩ (fun g hg=>by cases hg)⟩
theorem nd_set {B b:Nat} {ns:List NR} {w:World} {vx vo vi:Value} {cn p j g:Nat} {n m:NR} {u:Value} (h:Nd B b ns w vx vo vi (some ⟨g,0,none⟩) cn) (hp:ns[p]?=some n) (hj:j < 12) (hm:m.cells=n.cells.set j u):
  Nd B b (ns.set p m) (w.setCell ⟨g,p*12+j,none⟩ u) vx vo vi (some ⟨g,0,none⟩) cn:=by
 obtain⟨h1,h2⟩:=h.n.stored (p*12+j) u
 rw[flat_set ns p j n m u hp hj hm] at h1
 have hbg:(Value.slice (some ⟨g,0,none⟩) ns.length cn).ownBlock≠some b:=zba h.n h.box (by decide)
 refine⟨?_,by rw[List.length_set];exact h1⟩
 rw[List.length_set]
 exact(h2.block b (lt_of_block h.box) (fun e=>hbg (by simpa[Value.ownBlock] using e.symm))).trans h.box
theorem nd_place {B b:Nat} {ns:List NR} {w:World} {vx vo vi:Value} {cn p g:Nat} {n:NR} (h:Nd B b ns w vx vo vi (some ⟨g,0,none⟩) cn) (hp:ns[p]?=some n) (x y z:Int):
  Nd B b (ns.set p {n with fol:=x,brk:=y,agn:=z}) (((w.setCell ⟨g,p*12+7,none⟩ (.int .i64 x)).setCell ⟨g,p*12+7+1,none⟩ (.int .i64 y)).setCell ⟨g,p*12+7+2,none⟩ (.int .i64 z)) vx vo vi (some ⟨g,0,none⟩) cn:=by
 have hlt:=zaK hp
 have h1:=nd_set h hp (m:={n with fol:=x}) (j:=7) (u:=.int .i64 x) (by decide) rfl
 have h2:=nd_set h1 (List.getElem?_set_self hlt) (m:={n with fol:=x,brk:=y}) (j:=8) (u:=.int .i64 y) (by decide) rfl
 rw[List.set_set] at h2
 have h3:=nd_set h2 (List.getElem?_set_self hlt) (m:={n with fol:=x,brk:=y,agn:=z}) (j:=9) (u:=.int .i64 z) (by decide) rfl
 rw[List.set_set] at h3
 exact h3
theorem nd_place2 {B b:Nat} {ns:List NR} {w:World} {vx vo vi:Value} {cn p g:Nat} {n:NR} (h:Nd B b ns w vx vo vi (some ⟨g,0,none⟩) cn) (hp:ns[p]?=some n) (x y z u:Int):
  Nd B b (ns.set p {n with fol:=u,brk:=y,agn:=z}) ((((w.setCell ⟨g,p*12+7,none⟩ (.int .i64 x)).setCell ⟨g,p*12+7+1,none⟩ (.int .i64 y)).setCell ⟨g,p*12+7+2,none⟩ (.int .i64 z)).setCell ⟨g,p*12+7,none⟩ (.int .i64 u)) vx vo vi (some ⟨g,0,none⟩) cn:=by
 have hlt:=zaK hp
 have h4:=nd_set (nd_place h hp x y z) (List.getElem?_set_self hlt) (m:={n with fol:=u,brk:=y,agn:=z}) (j:=7) (u:=.int .i64 u) (by decide) rfl
 rw[List.set_set] at h4
 exact h4
theorem settle_any {B b:Nat} {ns:List NR} {is:List Int} {vx vo:Value} {ai an:Option Addr} {ci cn:Nat} {w:World} (h:Nd B b ns w vx vo (.slice ai is.length ci) an cn) (hi:w.ownsRow B 3 1 (.slice ai is.length ci) is.length (ints is)) (hM:ns.length≤1000000) {p:Nat} {n:NR} (hp:ns[p]?=some n) (hip:is[p]?=some n.par) (hj:n.par=-1∨(0≤n.par∧n.par < (ns.length:Int))):
  Calls Tryz.prog 31 #[.pointer (some ⟨b,0,none⟩),.int .i64 p] w fun e w'=>e=.returned (.tuple #[])∧Nd B b (ns.set p (n.put (endP (ns.length:Nat) ns n.par))) w' vx vo (.slice ai is.length ci) an cn∧Below B w w'∧KeptP (fun q=>some q=(Value.slice an ns.length cn).ownBlock) w w':=by
 obtain⟨b0,b1,b2,b3,bf,bl⟩:=zau h.box
 obtain⟨g,rfl,hB,hgl,hlt,gf,hc⟩:=nd_at h hp
 obtain⟨c0,c1,c2,c3,c4,c5,c6,c7,c8,c9,c10,c11⟩:=zbq hc
 have hipl:=zaK hip
 obtain⟨k,rfl,hkB,hkl,-,-,kf,kc⟩:=zbk hi (by omega)
 have ci0:=kc p (by omega)
 have ci1:w.cell? ⟨k,p,none⟩=some (.int .i64 n.par):=by rw[ci0,ints,List.getElem?_map,hip];rfl
 have HE:=hid (end_any h n.par hj hM)
 have HH:=hid (And.intro h hp)
 obtain⟨x,hx⟩:∃x,(endP (ns.length:Nat) ns n.par).1=x:=⟨_,rfl⟩
 obtain⟨y,hy⟩:∃y,(endP (ns.length:Nat) ns n.par).2.1=y:=⟨_,rfl⟩
 obtain⟨z,hz⟩:∃z,(endP (ns.length:Nat) ns n.par).2.2=z:=⟨_,rfl⟩
 have he:endP (ns.length:Nat) ns n.par=(x,y,z):=by rw[←hx,←hy,←hz]
 rw[hx,hy,hz] at HE
 rw[he]
 have HBG:=hid (And.intro hB (Nat.le_of_lt (Nat.lt_of_le_of_lt hB hgl)))
 clear hx hy hz he h hi hp hip hc kc ci0 hj
 by_cases hb:n.beh=-1
 ·have e0:(n.beh==-1)=true:=by rw[hb];rfl
  have HNB:=hid hb
  go_enter Tryz.func31,Tryz.ntmps31
  go_wp2_with (go_at_call 44;(refine HE.out.mono ?_);rintro e w2 ⟨rfl,h2⟩;have N2:=HH.out.1.on h2;obtain⟨g',e',-,gl2,-,gf2,hc2⟩:=nd_at N2 HH.out.2;obtain rfl:g=g':=(by simpa using e');obtain⟨d0,d1,d2,d3,d4,d5,d6,d7,d8,d9,d10,d11⟩:=zbq hc2;have d8':w2.cell? ⟨g,p*12+7+1,none⟩=some (.int .i64 n.brk):=d8;have d9':w2.cell? ⟨g,p*12+7+2,none⟩=some (.int .i64 n.agn):=d9;have HN2:=hid (And.intro N2 h2);clear N2 h2 e' hc2 d8 d9)
  go_end0
  obtain⟨N2,h2⟩:=HN2.out
  have hB:=HBG.out
  refine⟨rfl,?_,((((below_mono h2 hB.2).setCell (p:=⟨g,p*12+7,none⟩) hB.1 _).setCell (p:=⟨g,p*12+7+1,none⟩) hB.1 _).setCell (p:=⟨g,p*12+7+2,none⟩) hB.1 _),((((keptP_below (P:=fun q=>some q=(Value.slice (some ⟨g,0,none⟩) ns.length cn).ownBlock) h2).set (b:=g) rfl _ _).set (b:=g) rfl _ _).set (b:=g) rfl _ _)⟩
  have hq:=nd_place N2 HH.out.2 x y z
  unfold NR.put
  rw[if_pos HNB.out]
  exact hq
 ·have e0:(n.beh==-1)=false:=by rw[beq_eq_false_iff_ne];exact hb
  have HNB:=hid hb
  go_enter Tryz.func31,Tryz.ntmps31
  go_wp2_with (go_at_call 44;(refine HE.out.mono ?_);rintro e w2 ⟨rfl,h2⟩;have N2:=HH.out.1.on h2;obtain⟨g',e',-,gl2,-,gf2,hc2⟩:=nd_at N2 HH.out.2;obtain rfl:g=g':=(by simpa using e');obtain⟨d0,d1,d2,d3,d4,d5,d6,d7,d8,d9,d10,d11⟩:=zbq hc2;have d8':w2.cell? ⟨g,p*12+7+1,none⟩=some (.int .i64 n.brk):=d8;have d9':w2.cell? ⟨g,p*12+7+2,none⟩=some (.int .i64 n.agn):=d9;have HN2:=hid (And.intro N2 h2);clear N2 h2 e' hc2 d8 d9)
  go_end0
  obtain⟨N2,h2⟩:=HN2.out
  have hB:=HBG.out
  refine⟨rfl,?_,((((below_mono h2 hB.2).setCell (p:=⟨g,p*12+7,none⟩) hB.1 _).setCell (p:=⟨g,p*12+7+1,none⟩) hB.1 _).setCell (p:=⟨g,p*12+7+2,none⟩) hB.1 _).setCell (p:=⟨g,p*12+7,none⟩) hB.1 _,((((keptP_below (P:=fun q=>some q=(Value.slice (some ⟨g,0,none⟩) ns.length cn).ownBlock) h2).set (b:=g) rfl _ _).set (b:=g) rfl _ _).set (b:=g) rfl _ _).set (b:=g) rfl _ _⟩
  have hq:=nd_place2 N2 HH.out.2 x y z n.beh
  unfold NR.put
  rw[if_neg HNB.out]
  exact hq
end Go.Proofs.YtagnmppdhfmgdaaGreatDoor.Fl
