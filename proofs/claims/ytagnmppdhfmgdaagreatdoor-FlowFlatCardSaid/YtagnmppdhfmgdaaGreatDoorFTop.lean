/- The statements of the first rank among the nodes: where each stands, what stands below it, and where it lies. -/
import Derived.Test.YtagnmppdhfmgdaaGreatDoorFBackW
import Derived.Test.YtagnmppdhfmgdaaGreatDoorFEx
import Derived.Test.YtagnmppdhfmgdaaGreatDoorFSame
import Derived.Test.YtagnmppdhfmgdaaGreatDoorTSameM
set_option linter.unusedSimpArgs false
set_option linter.unusedVariables false
set_option maxHeartbeats 8000000
set_option maxRecDepth 100000
namespace Go.Proofs.YtagnmppdhfmgdaaGreatDoor.Fl
open Go Go.RowKit Go.Proofs.YtagnmppdhfmgdaaGreatDoor
open Go.Lib (hid)
open Go.Proofs.YtagnmppdhfmgdaaGreatDoor.Pm (zbU Wo)
open Go.Lib (hid)
theorem nb {w:World} {b:Nat} (o:Obj) (h:b=w.heap.size):(w.alloc o).heap[b]?=some o:=by rw[h];exact heap_alloc_new w o
theorem ob {w:World} {b:Nat} {x:Obj} (o:Obj) (h:w.heap[b]?=some x):(w.alloc o).heap[b]?=some x:=(Below.heap_alloc w o b (lt_of_block h)).trans h
theorem zbm {W:World} {b:Nat} {cs:Array Value} {l:List Int} (h:W.heap[b]?=some (.cells cs 3 (0,0))) (e:cs.toList=ints l):NumAt W (some ⟨b,0,none⟩) l:=fun i hi=>⟨b,0,rfl,by
 rw[Nat.zero_add]
 refine zab h ?_
 rw[←Array.getElem?_toList,e,ints,List.getElem?_map,List.getElem?_eq_getElem hi];rfl⟩
theorem lit_rows {W:World} {b:Nat} {cs:Array Value} {rows:List (List Int)} (h:W.heap[b]?=some (.cells cs 29 (0,0))) (hr:∀(i:Nat) (hi:i < rows.length),∃ra rc,cs[i]?=some (.slice ra rows[i].length rc)∧(rows[i].length≤100000∧(ra=none→rc=0))∧NumAt W ra rows[i]):RowsAt W (some ⟨b,0,none⟩) rows:=fun i hi=>by
 obtain⟨ra,rc,h1,h2,h3⟩:=hr i hi
 exact⟨b,0,ra,rc,rfl,by rw[Nat.zero_add];exact zab h h1,h2,h3⟩
theorem lit_n1 (w:World):RowsAt (((((((((w.alloc (.cells #[.int .i64 1] 3)).alloc (.cells #[.int .i64 2,.int .i64 6] 3)).alloc (.cells #[.int .i64 3,.int .i64 4] 3)).alloc (.cells #[.int .i64 6] 3)).alloc (.cells #[.int .i64 1] 3)).alloc (.cells #[.int .i64 1] 3)).alloc (.cells #[.int .i64 8] 3)).alloc (.cells #[.int .i64 8] 3)).alloc (.cells #[.slice (some ⟨w.heap.size,0,none⟩) 1 1,.slice (some ⟨w.heap.size+1,0,none⟩) 2 2,.slice (some ⟨w.heap.size+1+1,0,none⟩) 2 2,.slice (some ⟨w.heap.size+1+1+1,0,none⟩) 1 1,.slice (some ⟨w.heap.size+1+1+1+1,0,none⟩) 1 1,.slice (some ⟨w.heap.size+1+1+1+1+1,0,none⟩) 1 1,.slice (some ⟨w.heap.size+1+1+1+1+1+1,0,none⟩) 1 1,.slice (some ⟨w.heap.size+1+1+1+1+1+1+1,0,none⟩) 1 1,.slice none 0 0] 29)) (some ⟨w.heap.size+1+1+1+1+1+1+1+1,0,none⟩) [[1],[2,6],[3,4],[6],[1],[1],[8],[8],[]]:=by
 refine lit_rows (nb _ (by simp)) fun i hi=>?_
 match i,hi with
  | 0,_=>exact⟨_,_,rfl,⟨by simp,fun h=>by cases h⟩,zbm (ob _ (ob _ (ob _ (ob _ (ob _ (ob _ (ob _ (ob _ (nb _ (by simp)))))))))) rfl⟩
  | 1,_=>exact⟨_,_,rfl,⟨by simp,fun h=>by cases h⟩,zbm (ob _ (ob _ (ob _ (ob _ (ob _ (ob _ (ob _ (nb _ (by simp))))))))) rfl⟩
  | 2,_=>exact⟨_,_,rfl,⟨by simp,fun h=>by cases h⟩,zbm (ob _ (ob _ (ob _ (ob _ (ob _ (ob _ (nb _ (by simp)))))))) rfl⟩
  | 3,_=>exact⟨_,_,rfl,⟨by simp,fun h=>by cases h⟩,zbm (ob _ (ob _ (ob _ (ob _ (ob _ (nb _ (by simp))))))) rfl⟩
  | 4,_=>exact⟨_,_,rfl,⟨by simp,fun h=>by cases h⟩,zbm (ob _ (ob _ (ob _ (ob _ (nb _ (by simp)))))) rfl⟩
  | 5,_=>exact⟨_,_,rfl,⟨by simp,fun h=>by cases h⟩,zbm (ob _ (ob _ (ob _ (nb _ (by simp))))) rfl⟩
  | 6,_=>exact⟨_,_,rfl,⟨by simp,fun h=>by cases h⟩,zbm (ob _ (ob _ (nb _ (by simp)))) rfl⟩
  | 7,_=>exact⟨_,_,rfl,⟨by simp,fun h=>by cases h⟩,zbm (ob _ (nb _ (by simp))) rfl⟩
  | 8,_=>exact⟨none,0,rfl,⟨by simp,fun _=>rfl⟩,fun i hi=>absurd hi (by simp)⟩
  | i+9,hi=>exact absurd hi (by simp)
theorem lit_b1 (w:World):RowsAt ((((w.alloc (.cells #[.int .i64 1,.int .i64 1] 3)).alloc (.cells #[.int .i64 0,.int .i64 5] 3)).alloc (.cells #[.int .i64 0] 3)).alloc (.cells #[.slice (some ⟨w.heap.size,0,none⟩) 2 2,.slice (some ⟨w.heap.size+1,0,none⟩) 2 2,.slice (some ⟨w.heap.size+1+1,0,none⟩) 1 1] 29)) (some ⟨w.heap.size+1+1+1,0,none⟩) [[1,1],[0,5],[0]]:=by
 refine lit_rows (nb _ (by simp)) fun i hi=>?_
 match i,hi with
  | 0,_=>exact⟨_,_,rfl,⟨by simp,fun h=>by cases h⟩,zbm (ob _ (ob _ (ob _ (nb _ (by simp))))) rfl⟩
  | 1,_=>exact⟨_,_,rfl,⟨by simp,fun h=>by cases h⟩,zbm (ob _ (ob _ (nb _ (by simp)))) rfl⟩
  | 2,_=>exact⟨_,_,rfl,⟨by simp,fun h=>by cases h⟩,zbm (ob _ (nb _ (by simp))) rfl⟩
  | i+3,hi=>exact absurd hi (by simp)
theorem lit_b2 (w:World):RowsAt (((w.alloc (.cells #[.int .i64 1,.int .i64 2] 3)).alloc (.cells #[.int .i64 0] 3)).alloc (.cells #[.slice (some ⟨w.heap.size,0,none⟩) 2 2,.slice (some ⟨w.heap.size+1,0,none⟩) 1 1,.slice none 0 0] 29)) (some ⟨w.heap.size+1+1,0,none⟩) [[1,2],[0],[]]:=by
 refine lit_rows (nb _ (by simp)) fun i hi=>?_
 match i,hi with
  | 0,_=>exact⟨_,_,rfl,⟨by simp,fun h=>by cases h⟩,zbm (ob _ (ob _ (nb _ (by simp)))) rfl⟩
  | 1,_=>exact⟨_,_,rfl,⟨by simp,fun h=>by cases h⟩,zbm (ob _ (nb _ (by simp))) rfl⟩
  | 2,_=>exact⟨none,0,rfl,⟨by simp,fun _=>rfl⟩,fun i hi=>absurd hi (by simp)⟩
  | i+3,hi=>exact absurd hi (by simp)
theorem lit_nn (w:World):RowsAt (w.alloc (.cells #[.slice none 0 0] 29)) (some ⟨w.heap.size,0,none⟩) [[]]:=by
 refine lit_rows (nb _ (by simp)) fun i hi=>?_
 match i,hi with
  | 0,_=>exact⟨none,0,rfl,⟨by simp,fun _=>rfl⟩,fun i hi=>absurd hi (by simp)⟩
  | i+1,hi=>exact absurd hi (by simp)
theorem edges_3:zdw [[1],[2,6],[3,4],[6],[1],[1],[8],[8],[]] [-1,-1,-1,5,5,-1,7,-1,-1] true=[[1],[2,6],[3,4],[6,5],[1,5],[1],[8,7],[8],[]]:=by kernel_rfl
theorem back_1:backG [[1,1],[0,5],[0]]=[[1,2],[0],[]]:=by kernel_rfl
structure G2 (w:World) (p1 p2 gv go gi gw:Nat) (c1 c2 c3 c4:Nat):Prop where
 cells:∀W,Past w W→W.cell? ⟨p1,0,none⟩=some (.slice (some ⟨gv,0,none⟩) 9 c1)∧W.cell? ⟨p1,1,none⟩=some (.slice (some ⟨go,0,none⟩) 9 c2)∧W.cell? ⟨p1,2,none⟩=some (.slice (some ⟨gi,0,none⟩) 9 c3)∧W.cell? ⟨p2,0,none⟩=some (.slice (some ⟨gw,0,none⟩) 1 c4)∧p1 < W.heap.size∧p2 < W.heap.size
 nx:RowsAt w (some ⟨gv,0,none⟩) [[1],[2,6],[3,4],[6],[1],[1],[8],[8],[]]
 os:NumAt w (some ⟨go,0,none⟩) [-1,-1,-1,5,5,-1,7,-1,-1]
 is:NumAt w (some ⟨gi,0,none⟩) [-1,-1,1,2,2,1,-1,-1,-1]
 ny:RowsAt w (some ⟨gw,0,none⟩) [[]]
theorem ex_any {w:World} (H:Wo w):Calls Tryz.prog 8 #[] w fun e w'=>e=.returned (.bool true)∧Below w.heap.size w w':=by
 have HO:=hid H
 have HB1:=hid (body_any H {data:=#[97,32,61,32,49,59,32,119,104,105,108,101,32,40,97,41,32,123,32,105,102,32,40,98,41,32,123,32,98,114,101,97,107,59,32,125,32,101,108,115,101,32,123,32,99,111,110,116,105,110,117,101,59,32,125,32,97,32,61,32,50,59,32,125,32,114,101,116,117,114,110,32,48,59,32,98,32,61,32,49,59]} (t:=t1) (by kernel_rfl) (by decide) (by decide) ev1 one1)
 clear H
 go_enter Tryz.func8,Tryz.ntmps8
 go_upto_region 2 with (first
  | (go_at_call 11;(refine(of_any (w0:=w1) a c l hll hin (by omega) w1 (Past.refl _)).mono ?_);rintro e w2 ⟨v,rfl,hg,hb2⟩;obtain⟨gv,go,ai,cv,co,ci,rv,rfl,g1,g2,g3,g4⟩:=hg.ex;rw[hcn] at g1 g2 g3 ⊢;have HG:=hid (And.intro g1 (And.intro g2 (And.intro g3 (And.intro g4 hb2))));clear g1 g2 g3 g4 hg hb2)
  | (go_at_call 26;(refine HB1.out.mono ?_);rintro e w1 ⟨⟨a,c,l,rfl,hrs,hrr,hll,hin⟩,hb1⟩;have hcn:cnts l=8:=(by rw[←(graph_pn hrr).1,hrs];exact Fl.g1.1.1);have HL:=hid (And.intro hrs (And.intro hrr hb1));clear hb1 hrs))
 obtain⟨g1,g2,g3,g4,hb2⟩:=HG.out
 obtain⟨gi,rfl,-,-,-,-,-,-⟩:=zbk g3 (by decide)
 obtain⟨hc8,hnx,hos,his⟩:=graph_pn hrr
 have hrs':rss l=r1:=HL.out.1
 rw[hrs',Fl.g1.2.1] at hnx
 rw[hrs',Fl.g1.2.2.1] at hos
 rw[hrs',Fl.g1.2.2.2] at his
 rw[hnx] at g4
 rw[hos] at g2
 rw[his] at g3
 have HW2:=hid (And.intro (rowsAt_own (rows:=[[1],[2,6],[3,4],[6],[1],[1],[8],[8],[]]) rfl g1 g4 (by intro r hr;simp only[List.mem_cons,List.not_mem_nil,or_false] at hr;rcases hr with rfl | rfl | rfl | rfl | rfl | rfl | rfl | rfl | rfl<;>simp)) (And.intro (numAt_own g2) (And.intro (numAt_own g3) (And.intro (zaE HL.out.2.2 hb2) (zai w2 (.cells #[.slice (some ⟨gv,0,none⟩) 9 cv,.slice (some ⟨go,0,none⟩) 9 co,.slice (some ⟨gi,0,none⟩) 9 ci] 40))))))
 have hp2:Below w2.heap.size w2 (w2.alloc (.cells #[.slice (some ⟨gv,0,none⟩) 9 cv,.slice (some ⟨go,0,none⟩) 9 co,.slice (some ⟨gi,0,none⟩) 9 ci] 40)):=(Below.refl _ _).alloc (Nat.le_refl _) _
 have HX2:=hid (And.intro (HW2.out.1.on hp2) (And.intro HW2.out.2.1 (And.intro HW2.out.2.2.1 (And.intro (zaE HW2.out.2.2.2.1 hp2) HW2.out.2.2.2.2))))
 have HP2:=hid hp2
 clear hc8 hnx hos his g1 g2 g3 g4 hb2 hp2 hin HG HL HW2
 generalize hp1:w2.heap.size=p1 at HX2 ⊢
 generalize w2.alloc (.cells #[.slice (some ⟨gv,0,none⟩) 9 cv,.slice (some ⟨go,0,none⟩) 9 co,.slice (some ⟨gi,0,none⟩) 9 ci] 40)=W2 at *
 have hc0:cnts []=0:=by rw[cnts]
 have HOF:=hid (of_any (w0:=W2) none 0 [] (by simp) (by rw[SsIn];trivial) (by rw[cnts];decide) W2 (Past.refl _))
 go_upto_region 3 with (go_at_call 11;(refine HOF.out.mono ?_);rintro e w3 ⟨v,rfl,hg,hb3⟩;obtain⟨gw,gx,ay,cw,cx,cy,rw2,rfl,g1,g2,g3,g4⟩:=hg.ex;rw[hc0] at g1 g2 g3 ⊢;have HG:=hid (And.intro g1 (And.intro g4 hb3));clear g1 g2 g3 g4 hg hb3)
 have hnn:zcV []=[[]]:=by rw[(graph_pn (l:=[]) (by rw[zak])).2.1,rss];kernel_rfl
 obtain⟨y1,y4,hb3⟩:=HG.out
 rw[hnn] at y4
 have hny:=rowsAt_own (rows:=[[]]) rfl y1 y4 (by intro r hr;simp at hr;subst hr;simp)
 have hp4:Below w3.heap.size w3 (w3.alloc (.cells #[.slice (some ⟨gw,0,none⟩) 1 cw,.slice (some ⟨gx,0,none⟩) 1 cx,.slice ay 1 cy] 40)):=(Below.refl _ _).alloc (Nat.le_refl _) _
 have h24:Below W2.heap.size W2 (w3.alloc (.cells #[.slice (some ⟨gw,0,none⟩) 1 cw,.slice (some ⟨gx,0,none⟩) 1 cx,.slice ay 1 cy] 40)):=zaE hb3 hp4
 have hG2:G2 (w3.alloc (.cells #[.slice (some ⟨gw,0,none⟩) 1 cw,.slice (some ⟨gx,0,none⟩) 1 cx,.slice ay 1 cy] 40)) p1 w3.heap.size gv go gi gw cv co ci cw:=by
  obtain⟨h1,⟨ra,rc,e2,-,h2⟩,⟨ra',rc',e3,-,h3⟩,-,h5⟩:=HX2.out
  simp only[Value.slice.injEq] at e2 e3
  obtain⟨rfl,-,-⟩:=e2
  obtain⟨rfl,-,-⟩:=e3
  have hx5:=(h24.block p1 (lt_of_block h5)).trans h5
  refine⟨fun W hW=>?_,h1.on h24,(h2.on HP2.out).on h24,(h3.on HP2.out).on h24,hny.on hp4⟩
  have k1:=(hW.block p1 (lt_of_block hx5)).trans hx5
  have hx6:=zai w3 (.cells #[.slice (some ⟨gw,0,none⟩) 1 cw,.slice (some ⟨gx,0,none⟩) 1 cx,.slice ay 1 cy] 40)
  have k2:=(hW.block w3.heap.size (lt_of_block hx6)).trans hx6
  exact⟨zab k1 rfl,zab k1 rfl,zab k1 rfl,zab k2 rfl,lt_of_block k1,lt_of_block k2⟩
 have hpw:Below w.heap.size w (w3.alloc (.cells #[.slice (some ⟨gw,0,none⟩) 1 cw,.slice (some ⟨gx,0,none⟩) 1 cx,.slice ay 1 cy] 40)):=zaE HX2.out.2.2.2.1 h24
 have HC:=hid hG2.cells
 have HR:=hid (And.intro hG2.nx (And.intro hG2.os (And.intro hG2.is hG2.ny)))
 have HPW:=hid hpw
 have HB2:=hid (fun W (hW:Past w W)=>body_any (HO.out.on hW) {data:=#[105,102,32,40,97,41,32,123,32,98,32,61,32,49,59,32,125]} (t:=t2) (by kernel_rfl) (by decide) (by decide) ev2 one2)
 clear hnn y1 y4 hb3 hny hp4 h24 hG2 hpw HG HX2 HOF hc0 HB1 HP2
 generalize w3.heap.size=p2 at HC ⊢
 generalize w3.alloc (.cells #[.slice (some ⟨gw,0,none⟩) 1 cw,.slice (some ⟨gx,0,none⟩) 1 cx,.slice ay 1 cy] 40)=W4 at *
 have HQ0:Hid (Past W4 W4):=hid (Past.refl _)
 obtain⟨p10,p11,p12,p20,l1,l2⟩:=HC.out _ HQ0.out
 go_wp2_with (first
  | (go_at_call 17;(refine(same_any (w0:=(w19.alloc (.cells #[.int .i64 6,.int .i64 5] 3))) _ _ _ _ [6,5] [6,5] (by simp) (by simp) (HN9.out.on ((Past.refl w19).alloc _)) (zbm (nb _ rfl) rfl) _ (Past.refl _)).mono ?_);(rintro e w20 ⟨rfl,hb⟩);have HQ9:=hid ((HQ19.out.alloc _).on hb);clear hb)
  | (go_at_call 18;(refine(edgesF_any (w0:=w18) (ns:=[[1],[2,6],[3,4],[6],[1],[1],[8],[8],[]]) (os:=[-1,-1,-1,5,5,-1,7,-1,-1]) true (by simp) rfl (HR.out.1.on HQ18.out) (HR.out.2.1.on HQ18.out) w18 (Past.refl _)).mono ?_);(rintro e w19 ⟨⟨ge,rfl,hge⟩,hb⟩);rw[edges_3] at hge;have hrw:=RowsO.at hge (by intro r hr;simp only[List.mem_cons,List.not_mem_nil,or_false] at hr;rcases hr with rfl | rfl | rfl | rfl | rfl | rfl | rfl | rfl | rfl<;>simp);obtain⟨eb,eo,ra,rc,e9,hc9,-,hn9⟩:=hrw 3 (by simp);simp only[Option.some.injEq,Addr.mk.injEq,and_true] at e9;obtain⟨rfl,rfl⟩:=e9;have hc10:w19.cell? ⟨ge,3,none⟩=some (.slice ra 2 rc):=hc9;have hl10:=World.block_lt_of_cell? w19 _ hc10;have HN9:Hid (NumAt w19 ra [6,5]):=hid hn9;clear hc9 hn9 hrw hge;have HQ19:=hid (HQ18.out.on hb);clear hb;clear p10 p11 p12 p20 l1 l2;obtain⟨p10,p11,p12,p20,l1,l2⟩:=HC.out _ HQ19.out)
  | (go_at_call 14;(refine(flat_any (w0:=w17) ab cb lb HL2.out.1 HL2.out.2 (by omega) w17 (Past.refl _)).mono ?_);(rintro e w18 ⟨⟨gf,rfl,-⟩,hb⟩);rw[hcn2];have HQ18:=hid (HQ17.out.on hb);clear hb;clear p10 p11 p12 p20 l1 l2;obtain⟨p10,p11,p12,p20,l1,l2⟩:=HC.out _ HQ18.out)
  | (go_at_call 26;(refine(HB2.out w16 (zaE HPW.out HQ16.out)).mono ?_);(rintro e w17 ⟨⟨ab,cb,lb,rfl,hrs2,hrr2,hll2,hin2⟩,hb⟩);have hcn2:cnts lb=2:=(by rw[←(graph_pn hrr2).1,hrs2];exact g2);have HL2:=hid (And.intro hll2 hin2);clear hrs2 hll2 hin2;have HQ17:=hid (HQ16.out.on hb);clear hb;clear p10 p11 p12 p20 l1 l2;obtain⟨p10,p11,p12,p20,l1,l2⟩:=HC.out _ HQ17.out)
  | (go_at_call 16;(refine(rows_any (w0:=(((w15.alloc (.cells #[.int .i64 1,.int .i64 2] 3)).alloc (.cells #[.int .i64 0] 3)).alloc (.cells #[.slice (some ⟨w15.heap.size,0,none⟩) 2 2,.slice (some ⟨w15.heap.size+1,0,none⟩) 1 1,.slice none 0 0] 29))) _ _ _ _ [[1,2],[0],[]] [[1,2],[0],[]] (by simp) (by simp) (HGB.out.on ((((Past.refl w15).alloc _).alloc _).alloc _)) (lit_b2 w15) _ (Past.refl _)).mono ?_);(rintro e w16 ⟨rfl,hb⟩);have HQ16:=hid ((((HQ15.out.alloc _).alloc _).alloc _).on hb);clear hb;clear p10 p11 p12 p20 l1 l2;obtain⟨p10,p11,p12,p20,l1,l2⟩:=HC.out _ HQ16.out)
  | (go_at_call 20;(refine(back_any (w0:=((((w14.alloc (.cells #[.int .i64 1,.int .i64 1] 3)).alloc (.cells #[.int .i64 0,.int .i64 5] 3)).alloc (.cells #[.int .i64 0] 3)).alloc (.cells #[.slice (some ⟨w14.heap.size,0,none⟩) 2 2,.slice (some ⟨w14.heap.size+1,0,none⟩) 2 2,.slice (some ⟨w14.heap.size+1+1,0,none⟩) 1 1] 29))) (ns:=[[1,1],[0,5],[0]]) (by simp) (lit_b1 w14) _ (Past.refl _)).mono ?_);(rintro e w15 ⟨⟨gb,rfl,hgb⟩,hb⟩);rw[back_1] at hgb;have HGB:=hid (RowsO.at hgb (by intro r hr;simp only[List.mem_cons,List.not_mem_nil,or_false] at hr;rcases hr with rfl | rfl | rfl<;>simp));have HQ15:=hid (((((HQ14.out.alloc _).alloc _).alloc _).alloc _).on hb);clear hb hgb;clear p10 p11 p12 p20 l1 l2;obtain⟨p10,p11,p12,p20,l1,l2⟩:=HC.out _ HQ15.out)
  | (go_at_call 16;(refine(rows_any (w0:=(w13.alloc (.cells #[.slice none 0 0] 29))) _ _ _ _ [[]] [[]] (by simp) (by simp) ((HR.out.2.2.2.on HQ13.out).on ((Past.refl w13).alloc _)) (lit_nn w13) _ (Past.refl _)).mono ?_);(rintro e w14 ⟨rfl,hb⟩);have HQ14:=hid ((HQ13.out.alloc _).on hb);clear hb;clear p10 p11 p12 p20 l1 l2;obtain⟨p10,p11,p12,p20,l1,l2⟩:=HC.out _ HQ14.out)
  | (go_at_call 17;(refine(same_any (w0:=(w12.alloc (.cells #[.int .i64 (-1),.int .i64 (-1),.int .i64 1,.int .i64 2,.int .i64 2,.int .i64 1,.int .i64 (-1),.int .i64 (-1),.int .i64 (-1)] 3))) _ _ _ _ [-1,-1,1,2,2,1,-1,-1,-1] [-1,-1,1,2,2,1,-1,-1,-1] (by simp) (by simp) ((HR.out.2.2.1.on HQ12.out).on ((Past.refl w12).alloc _)) (zbm (nb _ rfl) rfl) _ (Past.refl _)).mono ?_);(rintro e w13 ⟨rfl,hb⟩);have HQ13:=hid ((HQ12.out.alloc _).on hb);clear hb;clear p10 p11 p12 p20 l1 l2;obtain⟨p10,p11,p12,p20,l1,l2⟩:=HC.out _ HQ13.out)
  | (go_at_call 17;(refine(same_any (w0:=(w11.alloc (.cells #[.int .i64 (-1),.int .i64 (-1),.int .i64 (-1),.int .i64 5,.int .i64 5,.int .i64 (-1),.int .i64 7,.int .i64 (-1),.int .i64 (-1)] 3))) _ _ _ _ [-1,-1,-1,5,5,-1,7,-1,-1] [-1,-1,-1,5,5,-1,7,-1,-1] (by simp) (by simp) ((HR.out.2.1.on HQ11.out).on ((Past.refl w11).alloc _)) (zbm (nb _ rfl) rfl) _ (Past.refl _)).mono ?_);(rintro e w12 ⟨rfl,hb⟩);have HQ12:=hid ((HQ11.out.alloc _).on hb);clear hb;clear p10 p11 p12 p20 l1 l2;obtain⟨p10,p11,p12,p20,l1,l2⟩:=HC.out _ HQ12.out)
  | (go_at_call 16;(refine(rows_any (w0:=(((((((((W4.alloc (.cells #[.int .i64 1] 3)).alloc (.cells #[.int .i64 2,.int .i64 6] 3)).alloc (.cells #[.int .i64 3,.int .i64 4] 3)).alloc (.cells #[.int .i64 6] 3)).alloc (.cells #[.int .i64 1] 3)).alloc (.cells #[.int .i64 1] 3)).alloc (.cells #[.int .i64 8] 3)).alloc (.cells #[.int .i64 8] 3)).alloc (.cells #[.slice (some ⟨W4.heap.size,0,none⟩) 1 1,.slice (some ⟨W4.heap.size+1,0,none⟩) 2 2,.slice (some ⟨W4.heap.size+1+1,0,none⟩) 2 2,.slice (some ⟨W4.heap.size+1+1+1,0,none⟩) 1 1,.slice (some ⟨W4.heap.size+1+1+1+1,0,none⟩) 1 1,.slice (some ⟨W4.heap.size+1+1+1+1+1,0,none⟩) 1 1,.slice (some ⟨W4.heap.size+1+1+1+1+1+1,0,none⟩) 1 1,.slice (some ⟨W4.heap.size+1+1+1+1+1+1+1,0,none⟩) 1 1,.slice none 0 0] 29))) _ _ _ _ [[1],[2,6],[3,4],[6],[1],[1],[8],[8],[]] [[1],[2,6],[3,4],[6],[1],[1],[8],[8],[]] (by simp) (by simp) (HR.out.1.on ((((((((((Past.refl W4).alloc _).alloc _).alloc _).alloc _).alloc _).alloc _).alloc _).alloc _).alloc _)) (lit_n1 W4) _ (Past.refl _)).mono ?_);(rintro e w11 ⟨rfl,hb⟩);have HQ11:=hid ((((((((((HQ0.out.alloc _).alloc _).alloc _).alloc _).alloc _).alloc _).alloc _).alloc _).alloc _).on hb);clear hb;clear p10 p11 p12 p20 l1 l2;obtain⟨p10,p11,p12,p20,l1,l2⟩:=HC.out _ HQ11.out))
 go_ret
 exact⟨rfl,zaE HPW.out HQ9.out⟩
end Go.Proofs.YtagnmppdhfmgdaaGreatDoor.Fl

namespace Go.Proofs.YtagnmppdhfmgdaaGreatDoor.Fl
open Go Go.RowKit Go.Proofs.YtagnmppdhfmgdaaGreatDoor
theorem lay_ge (p:Int):∀(m:Nat) (l:List ST),Szs l < m→∀(q:Nat) (par fol brk agn:Int),p≤par→p≤q→∀n∈lay q par fol brk agn l,p≤n.par:=by
 intro m
 induction m with
 | zero=>intro l h;omega
 | succ m ih =>
  intro l
  induction l with
  | nil=>intro _ q par fol brk agn _ _ n hn;rw[lay] at hn;cases hn
  | cons S r ihr =>
   intro hm q par fol brk agn h1 h2 n hn
   rw[Szs] at hm
   have hb:=zcc S
   rw[lay,List.mem_append,zct,List.mem_cons,List.mem_append] at hn
   rcases hn with (rfl | hn | hn) | hn
   ·exact h1
   ·exact ih S.body (by omega) _ _ _ _ _ (by omega) (by omega) n hn
   ·exact ih S.els (by omega) _ _ _ _ _ (by omega) (by omega) n hn
   ·exact ihr (by omega) _ _ _ _ _ h1 (by omega) n hn
theorem lay_top (par fol brk agn:Int):∀(l:List ST) (p i:Nat) (hi:i < l.length),(∃n,(lay p par fol brk agn l)[cnts (l.take i)]?=some n∧n.S=l[i]∧n.par=par) ∧
  ∀k,cnts (l.take i) < k→k < cnts (l.take i)+l[i].cnt→∃n,(lay p par fol brk agn l)[k]?=some n∧((p+cnts (l.take i):Nat):Int)≤n.par
 | [],p,i,hi=>by simp at hi
 | S :: r,p,0,_=>by
  simp only[List.take_zero,cnts,List.getElem_cons_zero,Nat.zero_add,Nat.add_zero]
  refine⟨⟨_,by rw[lay,zct];rfl,rfl,rfl⟩,fun k h0 h1=>?_⟩
  obtain⟨j,rfl⟩:∃j,k=j+1:=⟨k - 1,by omega⟩
  rw[lay,List.getElem?_append_left (by rw[za0];exact h1)]
  have hk:j+1 < (layS p par (if r=[] then fol else ((p+S.cnt:Nat):Int)) brk agn (if r=[] then -1 else ((p+S.cnt:Nat):Int)) S).length:=by rw[za0];exact h1
  refine⟨_,List.getElem?_eq_getElem hk,?_⟩
  have hn:=List.getElem?_eq_getElem hk
  generalize (layS p par (if r=[] then fol else ((p+S.cnt:Nat):Int)) brk agn (if r=[] then -1 else ((p+S.cnt:Nat):Int)) S)[j+1]=n at hn ⊢
  rw[zct,List.getElem?_cons_succ] at hn
  rcases List.mem_append.1 (List.mem_of_getElem? hn) with hm | hm
  ·exact lay_ge p _ S.body (Nat.lt_succ_self _) _ _ _ _ _ (by omega) (by omega) n hm
  ·exact lay_ge p _ S.els (Nat.lt_succ_self _) _ _ _ _ _ (by omega) (by omega) n hm
 | S :: r,p,i+1,hi=>by
  obtain⟨⟨n,h1,h2,h3⟩,h4⟩:=lay_top par fol brk agn r (p+S.cnt) i (by simpa using hi)
  simp only[List.take_succ_cons,cnts,List.getElem_cons_succ]
  refine⟨⟨n,?_,h2,h3⟩,fun k hk1 hk2=>?_⟩
  ·rw[lay,List.getElem?_append_right (by rw[za0];omega),za0,Nat.add_sub_cancel_left]
   exact h1
  ·obtain⟨m,hm1,hm2⟩:=h4 (k - S.cnt) (by omega) (by omega)
   refine⟨m,?_,by omega⟩
   rw[lay,List.getElem?_append_right (by rw[za0];omega),za0]
   exact hm1
theorem top_le {l:List ST} {i:Nat} (hi:i < l.length):cnts (l.take (i+1))=cnts (l.take i)+l[i].cnt∧cnts (l.take i)+l[i].cnt≤cnts l∧1≤l[i].cnt:=by
 have h1:=zdU hi
 have h2:=zbV l (i+1)
 exact⟨h1,by omega,cnt_pos _⟩
theorem one_ss {w:World} {a:Option Addr} {l:List ST} {i:Nat} (hi:i < l.length) (h:SsIn w 0 a 0 l):l[i].In w 0∧∃b off,a=some ⟨b,off,none⟩∧SsIn w 0 (some ⟨b,off+i*7,none⟩) 0 [l[i]]:=by
 obtain⟨⟨b,off,e,hb,hc⟩,h2⟩:=h.nth i hi
 refine⟨h2,b,off,e,?_⟩
 rw[SsIn,SsIn]
 refine⟨⟨b,off+i*7,rfl,hb,fun j v hj=>?_⟩,h2,trivial⟩
 rw[show off+i*7+0*7+j=off+(0+i)*7+j by omega]
 exact hc j v hj
theorem one_told {w:World} {B g M p:Nat} {l:List ST} {n:NR} {S:ST} (hT:ToldS w B g M M (zaY l)) (hp:p < M) (hn:(zaY l)[p]?=some n) (hS:n.S=S) (h2:S.In w 0):SsIn w 0 (some ⟨g,p*7,none⟩) 0 [S]:=by
 obtain⟨-,cur,hg,-,hc⟩:=hT
 rw[SsIn,SsIn]
 refine⟨⟨g,p*7,rfl,Nat.zero_le _,fun j v hj=>zab hg ?_⟩,h2,trivial⟩
 rw[show p*7+0*7+j=p*7+j by omega]
 subst hS
 exact hc p n j v hp hn hj
theorem same_one {S:ST} (h:zak [S]=true):zaz [S] [S]=true:=(sameSs_iff _ _ h h).2 rfl
theorem right_one {l:List ST} (h:zak l=true) {i:Nat} (hi:i < l.length):zak [l[i]]=true:=by
 induction l generalizing i with
 | nil=>simp at hi
 | cons S r ih =>
  rw[zak,Bool.and_eq_true] at h
  cases i with
  | zero=>simp[zak,h.1]
  | succ i=>exact ih h.2 (by simpa using hi)
structure TopF (M:Nat) (l:List ST) (i p z:Nat):Prop where
 nx:cnts (l.take (i+1))=p+z
 le:p+z≤M
 pos:1≤z
 at0:∃n,(zaY l)[p]?=some n∧n.par=-1∧∀hi:i < l.length,n.S=l[i]
 low:∀k,p < k→k < p+z→∃n,(zaY l)[k]?=some n∧(p:Int)≤n.par
theorem topF_of {l:List ST} {i:Nat} (hi:i < l.length):TopF (cnts l) l i (cnts (l.take i)) l[i].cnt:=by
 obtain⟨⟨n,h1,h2,h3⟩,h4⟩:=lay_top (-1) (cnts l:Nat) (cnts l:Nat) (cnts l:Nat) l 0 i hi
 obtain⟨t1,t2,t3⟩:=top_le hi
 refine⟨t1,t2,t3,⟨n,h1,h3,fun _=>h2⟩,fun k h5 h6=>?_⟩
 obtain⟨m,hm,hp⟩:=h4 k h5 h6
 exact⟨m,hm,by rw[Nat.zero_add] at hp;exact hp⟩
end Go.Proofs.YtagnmppdhfmgdaaGreatDoor.Fl
