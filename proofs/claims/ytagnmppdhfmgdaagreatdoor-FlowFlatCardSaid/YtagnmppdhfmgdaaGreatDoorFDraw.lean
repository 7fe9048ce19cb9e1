/- What draw draws: the edges from a node. -/
import Derived.Test.YtagnmppdhfmgdaaGreatDoorFEdge
set_option linter.unusedSimpArgs false
set_option linter.unusedVariables false
set_option maxHeartbeats 8000000
set_option maxRecDepth 100000
namespace Go.Proofs.YtagnmppdhfmgdaaGreatDoor.Fl
open Go Go.RowKit Go.Proofs.YtagnmppdhfmgdaaGreatDoor
open Go.Lib (hid)
def DrawPost (B b:Nat) (ns:List NR) (nx:List (List Int)) (os is:List Int) (gv go gn:Nat) (ai:Option Addr) (cv co ci cn:Nat) (rv:List Value) (p:Nat) (n:NR) (w:World) (e:Ending) (w':World):Prop:=
 e=.returned (.tuple #[])∧∃rv',Gx B b ns (nx.set p (nextR (ns.length:Nat) p n)) (if n.S.kind=6∨n.S.kind=7∨n.S.kind=8 then os.set p n.fol else os) is w' gv go ai (some ⟨gn,0,none⟩) cv co ci cn rv'∧(∀i,i≠p→rv'[i]?=rv[i]?)∧Below B w w'
theorem tb_lit (w:World) (cs:Array Value) (t:TypeId):∀(j:Nat) (u:Value),cs.toList[j]?=some u→(w.alloc (.cells cs t)).cell? ⟨w.heap.size,j,none⟩=some u:=fun j u hu=>zab (zai w _) (by simpa using hu)
theorem draw_4 {B b:Nat} {ns:List NR} {nx:List (List Int)} {os is:List Int} {w:World} {gv go gn:Nat} {ai:Option Addr} {cv co ci cn:Nat} {rv:List Value} (h:Gx B b ns nx os is w gv go ai (some ⟨gn,0,none⟩) cv co ci cn rv) {p:Nat} {n:NR} (hp:p < is.length) (hpn:ns[p]?=some n) (hr:rv[p]?=some (.slice none 0 0)) (hos:os.length=is.length) (hM:ns.length≤1000000) (hbn:n.S.bn≤9223372036854775807∧n.S.ln≤9223372036854775807) (hk:n.S.kind=4):
  Calls Tryz.prog 32 #[.pointer (some ⟨b,0,none⟩),.int .i64 p] w (DrawPost B b ns nx os is gv go gn ai cv co ci cn rv p n w):=by
 have HH:=hid (And.intro h (And.intro hpn (And.intro hr (And.intro hos hp))))
 obtain⟨b0,b1,b2,b3,bf,bl⟩:=zau h.nd.box
 have h2:=Gx.kept HH.out.1 (((Below.refl w.heap.size w).alloc (Nat.le_refl _) (.cells #[.pointer (some ⟨b,0,none⟩)] 73)).alloc (by simp) (.cells #[.int .i64 p] 3))
 have hb2:=((Below.refl B w).alloc (Nat.le_trans HH.out.1.hB (Nat.le_of_lt bl)) (.cells #[.pointer (some ⟨b,0,none⟩)] 73)).alloc (by have:=HH.out.1.hB;simp;omega) (.cells #[.int .i64 p] 3)
 have ha2:=zaf (.cells #[.int .i64 p] 3) (zai w (.cells #[.pointer (some ⟨b,0,none⟩)] 73))
 have hi2:=zai (w.alloc (.cells #[.pointer (some ⟨b,0,none⟩)] 73)) (.cells #[.int .i64 p] 3)
 have hsz:(w.alloc (.cells #[.pointer (some ⟨b,0,none⟩)] 73)).heap.size=w.heap.size+1:=by simp
 rw[hsz] at hi2
 have hgv:gv < w.heap.size:=zaO HH.out.1.v rfl
 have hgo:go < w.heap.size:=zaO HH.out.1.o rfl
 have HG:=hid (And.intro hgv hgo)
 have plt:p < ns.length:=zaK hpn
 clear hsz hgv hgo b0 b1 b2 b3 bf bl h hpn hr hos
 go_enter Tryz.func32,Tryz.ntmps32
 go_wp2
 generalize (w.alloc (.cells #[.pointer (some ⟨b,0,none⟩)] 73)).alloc (.cells #[.int .i64 p] 3)=W2 at h2 hb2 ha2 hi2 ⊢
 generalize hbb:w.heap.size=bb at ha2 hi2 HG ⊢
 obtain⟨b0,b1,b2,b3,bf,bl⟩:=zau h2.nd.box
 have x1:=zab (k:=0) ha2 rfl
 have x2:=zab (k:=0) hi2 rfl
 have x4:=lt_of_block ha2
 have x5:=lt_of_block hi2
 have H2:=hid (And.intro h2 (And.intro hb2 (And.intro ha2 hi2)))
 clear h2 hb2 ha2 hi2
 go_region
 go_upto_region 4 with (fail)
 have h4:=Gx.kept H2.out.1 ((((Below.refl W2.heap.size W2).alloc (Nat.le_refl _) (.cells #[.pointer (some ⟨gn,p*12,none⟩)] 104)).alloc (by simp) (.cells #[zaL bb (bb+1)] 106)).drew)
 have hb4:=((H2.out.2.1.alloc (by have:=H2.out.1.hB;have:=bl;omega) (.cells #[.pointer (some ⟨gn,p*12,none⟩)] 104)).alloc (by have:=H2.out.1.hB;have:=bl;simp;omega) (.cells #[zaL bb (bb+1)] 106)).drew
 have hX4:Bxs ((W2.alloc (.cells #[.pointer (some ⟨gn,p*12,none⟩)] 104)).alloc (.cells #[zaL bb (bb+1)] 106)).drew gv go gn b p bb (bb+1) W2.heap.size (W2.heap.size+1):=⟨zab (zaf _ (zaf _ H2.out.2.2.1)) rfl,zab (zaf _ (zaf _ H2.out.2.2.2)) rfl,zab (zaf _ (zai W2 _)) rfl,zab (by have:=zai (W2.alloc (.cells #[.pointer (some ⟨gn,p*12,none⟩)] 104)) (.cells #[zaL bb (bb+1)] 106);rw[show(W2.alloc (.cells #[.pointer (some ⟨gn,p*12,none⟩)] 104)).heap.size=W2.heap.size+1 by simp] at this;exact this) rfl,by have:=HG.out;omega⟩
 clear b0 b1 b2 b3 bf bl x1 x2 H2
 generalize ((W2.alloc (.cells #[.pointer (some ⟨gn,p*12,none⟩)] 104)).alloc (.cells #[zaL bb (bb+1)] 106)).drew=W4 at h4 hb4 hX4 ⊢
 generalize W2.heap.size=bn at x4 x5 hX4 ⊢
 generalize hba:bb+1=ba at x5 hX4 ⊢
 generalize hbe:bn+1=be at hX4 ⊢
 clear x4 x5 hba hbe HG
 obtain⟨b0,b1,b2,b3,bf,bl⟩:=zau h4.nd.box
 obtain⟨g',e',-,gl,-,gf,gc⟩:=nd_at h4.nd HH.out.2.1
 obtain rfl:gn=g':=by simpa using e'
 obtain⟨d0,d1,d2,d3,d4,d5,d6,d7,d8,d9,d10,d11⟩:=zbq gc
 have d8':W4.cell? ⟨gn,p*12+7+1,none⟩=some (.int .i64 n.brk):=d8
 have d9':W4.cell? ⟨gn,p*12+7+2,none⟩=some (.int .i64 n.agn):=d9
 have x1:=hX4.b
 have x2:=hX4.a
 have x3:=hX4.n
 have x4:=hX4.e
 have l1:=World.block_lt_of_cell? W4 _ x1
 have l2:=World.block_lt_of_cell? W4 _ x2
 have l3:=World.block_lt_of_cell? W4 _ x3
 have l4:=World.block_lt_of_cell? W4 _ x4
 have H4:=hid (And.intro h4 (And.intro hb4 hX4))
 clear h4 hb4 hX4 gc e' d8 d9
 rw[hk] at d0
 go_upto_region 7 with (fail)
 have hfar:=H4.out.2.2.far
 have fg:¬(gn=gv∨gn=go):=by
  rintro(e | e)
  ·exact za1 H4.out.1.v H4.out.1.nd.n (by decide) gn rfl (by rw[e];rfl)
  ·exact za1 H4.out.1.o H4.out.1.nd.n (by decide) gn rfl (by rw[e];rfl)
 have fe:¬(be=gv∨be=go):=by omega
 have fn:¬(bn=gv∨bn=go):=by omega
 have fa:¬(ba=gv∨ba=go):=by omega
 have HC:Hid (∀W,KeptP (fun q=>q=gv∨q=go) W4 W→W.cell? ⟨be,0,none⟩=some (zaL bb ba)∧W.cell? ⟨bn,0,none⟩=some (.pointer (some ⟨gn,p*12,none⟩))∧W.cell? ⟨ba,0,none⟩=some (.int .i64 p)∧W.cell? ⟨gn,p*12+5,none⟩=some (.slice n.S.ba n.S.bn n.S.bc)∧W.cell? ⟨gn,p*12+6,none⟩=some (.slice n.S.la n.S.ln n.S.lc)∧W.cell? ⟨gn,p*12+7,none⟩=some (.int .i64 n.fol)∧W.cell? ⟨gn,p*12+11,none⟩=some (.int .i64 n.oth)):=hid (fun W hW=>⟨(hW.cell fe x4),(hW.cell fn x3),(hW.cell fa x2),(hW.cell fg d5),(hW.cell fg d6),(hW.cell fg d7),(hW.cell fg d11)⟩)
 have hw1:IntKind.i64.wrap ((p:Int)+1)=(p:Int)+1:=IntWalk.i64_in _ (by omega)
 have hq:Hid (KeptP (fun q=>q=gv∨q=go) W4 W4.drew):=hid ((KeptP.refl _ _).drew)
 have hq0:Hid (KeptP (fun q=>q=gv∨q=go) W4 W4):=hid (KeptP.refl _ _)
 have HE:=hid (zdX (w:=(W4.alloc (.cells #[.int .i64 (za6 n.S.bn ((p:Int)+1) n.fol),.int .i64 (za6 n.S.ln n.oth n.fol)] 3)).drew) (Gx.kept H4.out.1 (((Below.refl W4.heap.size W4).alloc (Nat.le_refl _) (.cells #[.int .i64 (za6 n.S.bn ((p:Int)+1) n.fol),.int .i64 (za6 n.S.ln n.oth n.fol)] 3)).drew)) hp HH.out.2.2.1 (m:=2) (r:=[za6 n.S.bn ((p:Int)+1) n.fol,za6 n.S.ln n.oth n.fol]) rfl (by decide) ⟨H4.out.2.2.far.1.1,H4.out.2.2.far.1.2.1⟩ (Bxs.kept H4.out.2.2 (((KeptP.refl _ W4).alloc (.cells #[.int .i64 (za6 n.S.bn ((p:Int)+1) n.fol),.int .i64 (za6 n.S.ln n.oth n.fol)] 3)).drew)).b (Bxs.kept H4.out.2.2 (((KeptP.refl _ W4).alloc (.cells #[.int .i64 (za6 n.S.bn ((p:Int)+1) n.fol),.int .i64 (za6 n.S.ln n.oth n.fol)] 3)).drew)).a (fun j u hu=>zb1 (tb_lit W4 #[.int .i64 (za6 n.S.bn ((p:Int)+1) n.fol),.int .i64 (za6 n.S.ln n.oth n.fol)] 3 j u hu)))
 clear fg fe fn fa hfar b0 b1 b2 b3 d0 d1 d2 d3 d4 d5 d6 d7 d10 d11 d8' d9' x1 x2 x3 x4
 go_region_held3 (fun w'=>w'.cell? ⟨be,0,none⟩=some (zaL bb ba)∧w'.cell? ⟨bn,0,none⟩=some (.pointer (some ⟨gn,p*12,none⟩))∧w'.cell? ⟨ba,0,none⟩=some (.int .i64 p)∧w'.cell? ⟨gn,p*12+5,none⟩=some (.slice n.S.ba n.S.bn n.S.bc)∧w'.cell? ⟨gn,p*12+6,none⟩=some (.slice n.S.la n.S.ln n.S.lc)∧w'.cell? ⟨gn,p*12+7,none⟩=some (.int .i64 n.fol)∧w'.cell? ⟨gn,p*12+11,none⟩=some (.int .i64 n.oth)) ((first | with_reducible exact HC.out _ hq.out | with_reducible exact HC.out _ ((hq0.out.alloc _).drew)))
  (first
  | (go_at_call 47;((with_reducible refine(first_any n.S.ba n.S.bn n.S.bc ((p:Int)+1) n.fol hbn.1 _).mono ?_);rintro e wk ⟨rfl,rfl⟩))
  | (go_at_call 47;((with_reducible refine(first_any n.S.la n.S.ln n.S.lc n.oth n.fol hbn.2 _).mono ?_);rintro e wk ⟨rfl,rfl⟩))
  | (go_at_call 45;((with_reducible refine HE.out.mono ?_);rintro e w5 ⟨rfl,rv5,g5,k5,q5,r5⟩);have hq5:=hid ((((KeptP.refl (fun q=>q=gv∨q=go) W4).alloc (.cells #[.int .i64 (za6 n.S.bn ((p:Int)+1) n.fol),.int .i64 (za6 n.S.ln n.oth n.fol)] 3)).drew).trans (zcF r5 (fun q hq=>.inl hq)));have H5:=hid (And.intro g5 (And.intro k5 q5));clear g5 k5 q5 r5 hq;have hq:=hq5;clear hq5))
 go_wp2
 go_end0
 obtain⟨g5,k5,q5⟩:=H5.out
 refine⟨rfl,rv5,?_,k5,((H4.out.2.1.alloc (by have:=H4.out.1.hB;omega) (.cells #[.int .i64 (za6 n.S.bn ((p:Int)+1) n.fol),.int .i64 (za6 n.S.ln n.oth n.fol)] 3)).drew).trans q5⟩
 rw[if_neg (by omega)]
 have e5:nextR (ns.length:Nat) p n=[za6 n.S.bn ((p:Int)+1) n.fol,za6 n.S.ln n.oth n.fol]:=by
  unfold nextR
  rw[if_pos hk];rfl
 rw[e5]
 exact g5
theorem draw_5 {B b:Nat} {ns:List NR} {nx:List (List Int)} {os is:List Int} {w:World} {gv go gn:Nat} {ai:Option Addr} {cv co ci cn:Nat} {rv:List Value} (h:Gx B b ns nx os is w gv go ai (some ⟨gn,0,none⟩) cv co ci cn rv) {p:Nat} {n:NR} (hp:p < is.length) (hpn:ns[p]?=some n) (hr:rv[p]?=some (.slice none 0 0)) (hos:os.length=is.length) (hM:ns.length≤1000000) (hbn:n.S.bn≤9223372036854775807∧n.S.ln≤9223372036854775807) (hk:n.S.kind=5):
  Calls Tryz.prog 32 #[.pointer (some ⟨b,0,none⟩),.int .i64 p] w (DrawPost B b ns nx os is gv go gn ai cv co ci cn rv p n w):=by
 have HH:=hid (And.intro h (And.intro hpn (And.intro hr (And.intro hos hp))))
 obtain⟨b0,b1,b2,b3,bf,bl⟩:=zau h.nd.box
 have h2:=Gx.kept HH.out.1 (((Below.refl w.heap.size w).alloc (Nat.le_refl _) (.cells #[.pointer (some ⟨b,0,none⟩)] 73)).alloc (by simp) (.cells #[.int .i64 p] 3))
 have hb2:=((Below.refl B w).alloc (Nat.le_trans HH.out.1.hB (Nat.le_of_lt bl)) (.cells #[.pointer (some ⟨b,0,none⟩)] 73)).alloc (by have:=HH.out.1.hB;simp;omega) (.cells #[.int .i64 p] 3)
 have ha2:=zaf (.cells #[.int .i64 p] 3) (zai w (.cells #[.pointer (some ⟨b,0,none⟩)] 73))
 have hi2:=zai (w.alloc (.cells #[.pointer (some ⟨b,0,none⟩)] 73)) (.cells #[.int .i64 p] 3)
 have hsz:(w.alloc (.cells #[.pointer (some ⟨b,0,none⟩)] 73)).heap.size=w.heap.size+1:=by simp
 rw[hsz] at hi2
 have hgv:gv < w.heap.size:=zaO HH.out.1.v rfl
 have hgo:go < w.heap.size:=zaO HH.out.1.o rfl
 have HG:=hid (And.intro hgv hgo)
 have plt:p < ns.length:=zaK hpn
 clear hsz hgv hgo b0 b1 b2 b3 bf bl h hpn hr hos
 go_enter Tryz.func32,Tryz.ntmps32
 go_wp2
 generalize (w.alloc (.cells #[.pointer (some ⟨b,0,none⟩)] 73)).alloc (.cells #[.int .i64 p] 3)=W2 at h2 hb2 ha2 hi2 ⊢
 generalize hbb:w.heap.size=bb at ha2 hi2 HG ⊢
 obtain⟨b0,b1,b2,b3,bf,bl⟩:=zau h2.nd.box
 have x1:=zab (k:=0) ha2 rfl
 have x2:=zab (k:=0) hi2 rfl
 have x4:=lt_of_block ha2
 have x5:=lt_of_block hi2
 have H2:=hid (And.intro h2 (And.intro hb2 (And.intro ha2 hi2)))
 clear h2 hb2 ha2 hi2
 go_region
 go_upto_region 4 with (fail)
 have h4:=Gx.kept H2.out.1 ((((Below.refl W2.heap.size W2).alloc (Nat.le_refl _) (.cells #[.pointer (some ⟨gn,p*12,none⟩)] 104)).alloc (by simp) (.cells #[zaL bb (bb+1)] 106)).drew)
 have hb4:=((H2.out.2.1.alloc (by have:=H2.out.1.hB;have:=bl;omega) (.cells #[.pointer (some ⟨gn,p*12,none⟩)] 104)).alloc (by have:=H2.out.1.hB;have:=bl;simp;omega) (.cells #[zaL bb (bb+1)] 106)).drew
 have hX4:Bxs ((W2.alloc (.cells #[.pointer (some ⟨gn,p*12,none⟩)] 104)).alloc (.cells #[zaL bb (bb+1)] 106)).drew gv go gn b p bb (bb+1) W2.heap.size (W2.heap.size+1):=⟨zab (zaf _ (zaf _ H2.out.2.2.1)) rfl,zab (zaf _ (zaf _ H2.out.2.2.2)) rfl,zab (zaf _ (zai W2 _)) rfl,zab (by have:=zai (W2.alloc (.cells #[.pointer (some ⟨gn,p*12,none⟩)] 104)) (.cells #[zaL bb (bb+1)] 106);rw[show(W2.alloc (.cells #[.pointer (some ⟨gn,p*12,none⟩)] 104)).heap.size=W2.heap.size+1 by simp] at this;exact this) rfl,by have:=HG.out;omega⟩
 clear b0 b1 b2 b3 bf bl x1 x2 H2
 generalize ((W2.alloc (.cells #[.pointer (some ⟨gn,p*12,none⟩)] 104)).alloc (.cells #[zaL bb (bb+1)] 106)).drew=W4 at h4 hb4 hX4 ⊢
 generalize W2.heap.size=bn at x4 x5 hX4 ⊢
 generalize hba:bb+1=ba at x5 hX4 ⊢
 generalize hbe:bn+1=be at hX4 ⊢
 clear x4 x5 hba hbe HG
 obtain⟨b0,b1,b2,b3,bf,bl⟩:=zau h4.nd.box
 obtain⟨g',e',-,gl,-,gf,gc⟩:=nd_at h4.nd HH.out.2.1
 obtain rfl:gn=g':=by simpa using e'
 obtain⟨d0,d1,d2,d3,d4,d5,d6,d7,d8,d9,d10,d11⟩:=zbq gc
 have d8':W4.cell? ⟨gn,p*12+7+1,none⟩=some (.int .i64 n.brk):=d8
 have d9':W4.cell? ⟨gn,p*12+7+2,none⟩=some (.int .i64 n.agn):=d9
 have x1:=hX4.b
 have x2:=hX4.a
 have x3:=hX4.n
 have x4:=hX4.e
 have l1:=World.block_lt_of_cell? W4 _ x1
 have l2:=World.block_lt_of_cell? W4 _ x2
 have l3:=World.block_lt_of_cell? W4 _ x3
 have l4:=World.block_lt_of_cell? W4 _ x4
 have H4:=hid (And.intro h4 (And.intro hb4 hX4))
 clear h4 hb4 hX4 gc e' d8 d9
 rw[hk] at d0
 go_upto_region 9 with (fail)
 have hfar:=H4.out.2.2.far
 have fg:¬(gn=gv∨gn=go):=by
  rintro(e | e)
  ·exact za1 H4.out.1.v H4.out.1.nd.n (by decide) gn rfl (by rw[e];rfl)
  ·exact za1 H4.out.1.o H4.out.1.nd.n (by decide) gn rfl (by rw[e];rfl)
 have fe:¬(be=gv∨be=go):=by omega
 have fn:¬(bn=gv∨bn=go):=by omega
 have fa:¬(ba=gv∨ba=go):=by omega
 have HC:Hid (∀W,KeptP (fun q=>q=gv∨q=go) W4 W→W.cell? ⟨be,0,none⟩=some (zaL bb ba)∧W.cell? ⟨bn,0,none⟩=some (.pointer (some ⟨gn,p*12,none⟩))∧W.cell? ⟨ba,0,none⟩=some (.int .i64 p)∧W.cell? ⟨gn,p*12+5,none⟩=some (.slice n.S.ba n.S.bn n.S.bc)∧W.cell? ⟨gn,p*12+7,none⟩=some (.int .i64 n.fol)):=hid (fun W hW=>⟨(hW.cell fe x4),(hW.cell fn x3),(hW.cell fa x2),(hW.cell fg d5),(hW.cell fg d7)⟩)
 have hw1:IntKind.i64.wrap ((p:Int)+1)=(p:Int)+1:=IntWalk.i64_in _ (by omega)
 have hq:Hid (KeptP (fun q=>q=gv∨q=go) W4 W4.drew):=hid ((KeptP.refl _ _).drew)
 have hq0:Hid (KeptP (fun q=>q=gv∨q=go) W4 W4):=hid (KeptP.refl _ _)
 have HE:=hid (zdX (w:=(W4.alloc (.cells #[.int .i64 (za6 n.S.bn ((p:Int)+1) (p:Int)),.int .i64 (n.fol)] 3)).drew) (Gx.kept H4.out.1 (((Below.refl W4.heap.size W4).alloc (Nat.le_refl _) (.cells #[.int .i64 (za6 n.S.bn ((p:Int)+1) (p:Int)),.int .i64 (n.fol)] 3)).drew)) hp HH.out.2.2.1 (m:=2) (r:=[za6 n.S.bn ((p:Int)+1) (p:Int),n.fol]) rfl (by decide) ⟨H4.out.2.2.far.1.1,H4.out.2.2.far.1.2.1⟩ (Bxs.kept H4.out.2.2 (((KeptP.refl _ W4).alloc (.cells #[.int .i64 (za6 n.S.bn ((p:Int)+1) (p:Int)),.int .i64 (n.fol)] 3)).drew)).b (Bxs.kept H4.out.2.2 (((KeptP.refl _ W4).alloc (.cells #[.int .i64 (za6 n.S.bn ((p:Int)+1) (p:Int)),.int .i64 (n.fol)] 3)).drew)).a (fun j u hu=>zb1 (tb_lit W4 #[.int .i64 (za6 n.S.bn ((p:Int)+1) (p:Int)),.int .i64 (n.fol)] 3 j u hu)))
 clear fg fe fn fa hfar b0 b1 b2 b3 d0 d1 d2 d3 d4 d5 d6 d7 d10 d11 d8' d9' x1 x2 x3 x4
 go_region_held3 (fun w'=>w'.cell? ⟨be,0,none⟩=some (zaL bb ba)∧w'.cell? ⟨bn,0,none⟩=some (.pointer (some ⟨gn,p*12,none⟩))∧w'.cell? ⟨ba,0,none⟩=some (.int .i64 p)∧w'.cell? ⟨gn,p*12+5,none⟩=some (.slice n.S.ba n.S.bn n.S.bc)∧w'.cell? ⟨gn,p*12+7,none⟩=some (.int .i64 n.fol)) ((first | with_reducible exact HC.out _ hq.out | with_reducible exact HC.out _ ((hq0.out.alloc _).drew)))
  (first
  | (go_at_call 47;((with_reducible refine(first_any n.S.ba n.S.bn n.S.bc ((p:Int)+1) (p:Int) hbn.1 _).mono ?_);rintro e wk ⟨rfl,rfl⟩))
  | (go_at_call 45;((with_reducible refine HE.out.mono ?_);rintro e w5 ⟨rfl,rv5,g5,k5,q5,r5⟩);have hq5:=hid ((((KeptP.refl (fun q=>q=gv∨q=go) W4).alloc (.cells #[.int .i64 (za6 n.S.bn ((p:Int)+1) (p:Int)),.int .i64 (n.fol)] 3)).drew).trans (zcF r5 (fun q hq=>.inl hq)));have H5:=hid (And.intro g5 (And.intro k5 q5));clear g5 k5 q5 r5 hq;have hq:=hq5;clear hq5))
 go_wp2
 go_end0
 obtain⟨g5,k5,q5⟩:=H5.out
 refine⟨rfl,rv5,?_,k5,((H4.out.2.1.alloc (by have:=H4.out.1.hB;omega) (.cells #[.int .i64 (za6 n.S.bn ((p:Int)+1) (p:Int)),.int .i64 (n.fol)] 3)).drew).trans q5⟩
 rw[if_neg (by omega)]
 have e5:nextR (ns.length:Nat) p n=[za6 n.S.bn ((p:Int)+1) (p:Int),n.fol]:=by
  unfold nextR
  rw[if_neg (by omega),if_pos hk];rfl
 rw[e5]
 exact g5
theorem draw_6 {B b:Nat} {ns:List NR} {nx:List (List Int)} {os is:List Int} {w:World} {gv go gn:Nat} {ai:Option Addr} {cv co ci cn:Nat} {rv:List Value} (h:Gx B b ns nx os is w gv go ai (some ⟨gn,0,none⟩) cv co ci cn rv) {p:Nat} {n:NR} (hp:p < is.length) (hpn:ns[p]?=some n) (hr:rv[p]?=some (.slice none 0 0)) (hos:os.length=is.length) (hM:ns.length≤1000000) (hbn:n.S.bn≤9223372036854775807∧n.S.ln≤9223372036854775807) (hk:n.S.kind=6):
  Calls Tryz.prog 32 #[.pointer (some ⟨b,0,none⟩),.int .i64 p] w (DrawPost B b ns nx os is gv go gn ai cv co ci cn rv p n w):=by
 have HH:=hid (And.intro h (And.intro hpn (And.intro hr (And.intro hos hp))))
 obtain⟨b0,b1,b2,b3,bf,bl⟩:=zau h.nd.box
 have h2:=Gx.kept HH.out.1 (((Below.refl w.heap.size w).alloc (Nat.le_refl _) (.cells #[.pointer (some ⟨b,0,none⟩)] 73)).alloc (by simp) (.cells #[.int .i64 p] 3))
 have hb2:=((Below.refl B w).alloc (Nat.le_trans HH.out.1.hB (Nat.le_of_lt bl)) (.cells #[.pointer (some ⟨b,0,none⟩)] 73)).alloc (by have:=HH.out.1.hB;simp;omega) (.cells #[.int .i64 p] 3)
 have ha2:=zaf (.cells #[.int .i64 p] 3) (zai w (.cells #[.pointer (some ⟨b,0,none⟩)] 73))
 have hi2:=zai (w.alloc (.cells #[.pointer (some ⟨b,0,none⟩)] 73)) (.cells #[.int .i64 p] 3)
 have hsz:(w.alloc (.cells #[.pointer (some ⟨b,0,none⟩)] 73)).heap.size=w.heap.size+1:=by simp
 rw[hsz] at hi2
 have hgv:gv < w.heap.size:=zaO HH.out.1.v rfl
 have hgo:go < w.heap.size:=zaO HH.out.1.o rfl
 have HG:=hid (And.intro hgv hgo)
 have plt:p < ns.length:=zaK hpn
 clear hsz hgv hgo b0 b1 b2 b3 bf bl h hpn hr hos
 go_enter Tryz.func32,Tryz.ntmps32
 go_wp2
 generalize (w.alloc (.cells #[.pointer (some ⟨b,0,none⟩)] 73)).alloc (.cells #[.int .i64 p] 3)=W2 at h2 hb2 ha2 hi2 ⊢
 generalize hbb:w.heap.size=bb at ha2 hi2 HG ⊢
 obtain⟨b0,b1,b2,b3,bf,bl⟩:=zau h2.nd.box
 have x1:=zab (k:=0) ha2 rfl
 have x2:=zab (k:=0) hi2 rfl
 have x4:=lt_of_block ha2
 have x5:=lt_of_block hi2
 have H2:=hid (And.intro h2 (And.intro hb2 (And.intro ha2 hi2)))
 clear h2 hb2 ha2 hi2
 go_region
 go_upto_region 4 with (fail)
 have h4:=Gx.kept H2.out.1 ((((Below.refl W2.heap.size W2).alloc (Nat.le_refl _) (.cells #[.pointer (some ⟨gn,p*12,none⟩)] 104)).alloc (by simp) (.cells #[zaL bb (bb+1)] 106)).drew)
 have hb4:=((H2.out.2.1.alloc (by have:=H2.out.1.hB;have:=bl;omega) (.cells #[.pointer (some ⟨gn,p*12,none⟩)] 104)).alloc (by have:=H2.out.1.hB;have:=bl;simp;omega) (.cells #[zaL bb (bb+1)] 106)).drew
 have hX4:Bxs ((W2.alloc (.cells #[.pointer (some ⟨gn,p*12,none⟩)] 104)).alloc (.cells #[zaL bb (bb+1)] 106)).drew gv go gn b p bb (bb+1) W2.heap.size (W2.heap.size+1):=⟨zab (zaf _ (zaf _ H2.out.2.2.1)) rfl,zab (zaf _ (zaf _ H2.out.2.2.2)) rfl,zab (zaf _ (zai W2 _)) rfl,zab (by have:=zai (W2.alloc (.cells #[.pointer (some ⟨gn,p*12,none⟩)] 104)) (.cells #[zaL bb (bb+1)] 106);rw[show(W2.alloc (.cells #[.pointer (some ⟨gn,p*12,none⟩)] 104)).heap.size=W2.heap.size+1 by simp] at this;exact this) rfl,by have:=HG.out;omega⟩
 clear b0 b1 b2 b3 bf bl x1 x2 H2
 generalize ((W2.alloc (.cells #[.pointer (some ⟨gn,p*12,none⟩)] 104)).alloc (.cells #[zaL bb (bb+1)] 106)).drew=W4 at h4 hb4 hX4 ⊢
 generalize W2.heap.size=bn at x4 x5 hX4 ⊢
 generalize hba:bb+1=ba at x5 hX4 ⊢
 generalize hbe:bn+1=be at hX4 ⊢
 clear x4 x5 hba hbe HG
 obtain⟨b0,b1,b2,b3,bf,bl⟩:=zau h4.nd.box
 obtain⟨g',e',-,gl,-,gf,gc⟩:=nd_at h4.nd HH.out.2.1
 obtain rfl:gn=g':=by simpa using e'
 obtain⟨d0,d1,d2,d3,d4,d5,d6,d7,d8,d9,d10,d11⟩:=zbq gc
 have d8':W4.cell? ⟨gn,p*12+7+1,none⟩=some (.int .i64 n.brk):=d8
 have d9':W4.cell? ⟨gn,p*12+7+2,none⟩=some (.int .i64 n.agn):=d9
 have x1:=hX4.b
 have x2:=hX4.a
 have x3:=hX4.n
 have x4:=hX4.e
 have l1:=World.block_lt_of_cell? W4 _ x1
 have l2:=World.block_lt_of_cell? W4 _ x2
 have l3:=World.block_lt_of_cell? W4 _ x3
 have l4:=World.block_lt_of_cell? W4 _ x4
 have H4:=hid (And.intro h4 (And.intro hb4 hX4))
 clear h4 hb4 hX4 gc e' d8 d9
 rw[hk] at d0
 go_upto_region 11 with (fail)
 go_wp2_with (go_at_call 46;(refine(jump_any (Gx.kept H4.out.1 ((Below.refl _ _).alloc (Nat.le_refl _) (.cells #[.int .i64 n.brk] 3))) hp HH.out.2.1 HH.out.2.2.1 (m:=1) (r:=[n.brk]) rfl (by decide) HH.out.2.2.2.1 (Bxs.kept H4.out.2.2 ((KeptP.refl _ _).alloc _)) (tb_lit W4 #[.int .i64 n.brk] 3)).mono ?_);rintro e w5 ⟨rfl,rv5,g5,k5,q5,-⟩;have H5:=hid (And.intro g5 (And.intro k5 q5));clear g5 k5 q5)
 go_end0
 obtain⟨g5,k5,q5⟩:=H5.out
 refine⟨rfl,rv5,?_,k5,(H4.out.2.1.alloc (by have:=H4.out.1.hB;omega) (.cells #[.int .i64 n.brk] 3)).trans q5⟩
 rw[if_pos (by omega)]
 unfold nextR
 rw[if_neg (by omega),if_neg (by omega),if_pos hk]
 exact g5
theorem draw_7 {B b:Nat} {ns:List NR} {nx:List (List Int)} {os is:List Int} {w:World} {gv go gn:Nat} {ai:Option Addr} {cv co ci cn:Nat} {rv:List Value} (h:Gx B b ns nx os is w gv go ai (some ⟨gn,0,none⟩) cv co ci cn rv) {p:Nat} {n:NR} (hp:p < is.length) (hpn:ns[p]?=some n) (hr:rv[p]?=some (.slice none 0 0)) (hos:os.length=is.length) (hM:ns.length≤1000000) (hbn:n.S.bn≤9223372036854775807∧n.S.ln≤9223372036854775807) (hk:n.S.kind=7):
  Calls Tryz.prog 32 #[.pointer (some ⟨b,0,none⟩),.int .i64 p] w (DrawPost B b ns nx os is gv go gn ai cv co ci cn rv p n w):=by
 have HH:=hid (And.intro h (And.intro hpn (And.intro hr (And.intro hos hp))))
 obtain⟨b0,b1,b2,b3,bf,bl⟩:=zau h.nd.box
 have h2:=Gx.kept HH.out.1 (((Below.refl w.heap.size w).alloc (Nat.le_refl _) (.cells #[.pointer (some ⟨b,0,none⟩)] 73)).alloc (by simp) (.cells #[.int .i64 p] 3))
 have hb2:=((Below.refl B w).alloc (Nat.le_trans HH.out.1.hB (Nat.le_of_lt bl)) (.cells #[.pointer (some ⟨b,0,none⟩)] 73)).alloc (by have:=HH.out.1.hB;simp;omega) (.cells #[.int .i64 p] 3)
 have ha2:=zaf (.cells #[.int .i64 p] 3) (zai w (.cells #[.pointer (some ⟨b,0,none⟩)] 73))
 have hi2:=zai (w.alloc (.cells #[.pointer (some ⟨b,0,none⟩)] 73)) (.cells #[.int .i64 p] 3)
 have hsz:(w.alloc (.cells #[.pointer (some ⟨b,0,none⟩)] 73)).heap.size=w.heap.size+1:=by simp
 rw[hsz] at hi2
 have hgv:gv < w.heap.size:=zaO HH.out.1.v rfl
 have hgo:go < w.heap.size:=zaO HH.out.1.o rfl
 have HG:=hid (And.intro hgv hgo)
 have plt:p < ns.length:=zaK hpn
 clear hsz hgv hgo b0 b1 b2 b3 bf bl h hpn hr hos
 go_enter Tryz.func32,Tryz.ntmps32
 go_wp2
 generalize (w.alloc (.cells #[.pointer (some ⟨b,0,none⟩)] 73)).alloc (.cells #[.int .i64 p] 3)=W2 at h2 hb2 ha2 hi2 ⊢
 generalize hbb:w.heap.size=bb at ha2 hi2 HG ⊢
 obtain⟨b0,b1,b2,b3,bf,bl⟩:=zau h2.nd.box
 have x1:=zab (k:=0) ha2 rfl
 have x2:=zab (k:=0) hi2 rfl
 have x4:=lt_of_block ha2
 have x5:=lt_of_block hi2
 have H2:=hid (And.intro h2 (And.intro hb2 (And.intro ha2 hi2)))
 clear h2 hb2 ha2 hi2
 go_region
 go_upto_region 4 with (fail)
 have h4:=Gx.kept H2.out.1 ((((Below.refl W2.heap.size W2).alloc (Nat.le_refl _) (.cells #[.pointer (some ⟨gn,p*12,none⟩)] 104)).alloc (by simp) (.cells #[zaL bb (bb+1)] 106)).drew)
 have hb4:=((H2.out.2.1.alloc (by have:=H2.out.1.hB;have:=bl;omega) (.cells #[.pointer (some ⟨gn,p*12,none⟩)] 104)).alloc (by have:=H2.out.1.hB;have:=bl;simp;omega) (.cells #[zaL bb (bb+1)] 106)).drew
 have hX4:Bxs ((W2.alloc (.cells #[.pointer (some ⟨gn,p*12,none⟩)] 104)).alloc (.cells #[zaL bb (bb+1)] 106)).drew gv go gn b p bb (bb+1) W2.heap.size (W2.heap.size+1):=⟨zab (zaf _ (zaf _ H2.out.2.2.1)) rfl,zab (zaf _ (zaf _ H2.out.2.2.2)) rfl,zab (zaf _ (zai W2 _)) rfl,zab (by have:=zai (W2.alloc (.cells #[.pointer (some ⟨gn,p*12,none⟩)] 104)) (.cells #[zaL bb (bb+1)] 106);rw[show(W2.alloc (.cells #[.pointer (some ⟨gn,p*12,none⟩)] 104)).heap.size=W2.heap.size+1 by simp] at this;exact this) rfl,by have:=HG.out;omega⟩
 clear b0 b1 b2 b3 bf bl x1 x2 H2
 generalize ((W2.alloc (.cells #[.pointer (some ⟨gn,p*12,none⟩)] 104)).alloc (.cells #[zaL bb (bb+1)] 106)).drew=W4 at h4 hb4 hX4 ⊢
 generalize W2.heap.size=bn at x4 x5 hX4 ⊢
 generalize hba:bb+1=ba at x5 hX4 ⊢
 generalize hbe:bn+1=be at hX4 ⊢
 clear x4 x5 hba hbe HG
 obtain⟨b0,b1,b2,b3,bf,bl⟩:=zau h4.nd.box
 obtain⟨g',e',-,gl,-,gf,gc⟩:=nd_at h4.nd HH.out.2.1
 obtain rfl:gn=g':=by simpa using e'
 obtain⟨d0,d1,d2,d3,d4,d5,d6,d7,d8,d9,d10,d11⟩:=zbq gc
 have d8':W4.cell? ⟨gn,p*12+7+1,none⟩=some (.int .i64 n.brk):=d8
 have d9':W4.cell? ⟨gn,p*12+7+2,none⟩=some (.int .i64 n.agn):=d9
 have x1:=hX4.b
 have x2:=hX4.a
 have x3:=hX4.n
 have x4:=hX4.e
 have l1:=World.block_lt_of_cell? W4 _ x1
 have l2:=World.block_lt_of_cell? W4 _ x2
 have l3:=World.block_lt_of_cell? W4 _ x3
 have l4:=World.block_lt_of_cell? W4 _ x4
 have H4:=hid (And.intro h4 (And.intro hb4 hX4))
 clear h4 hb4 hX4 gc e' d8 d9
 rw[hk] at d0
 go_upto_region 13 with (fail)
 go_wp2_with (go_at_call 46;(refine(jump_any (Gx.kept H4.out.1 ((Below.refl _ _).alloc (Nat.le_refl _) (.cells #[.int .i64 n.agn] 3))) hp HH.out.2.1 HH.out.2.2.1 (m:=1) (r:=[n.agn]) rfl (by decide) HH.out.2.2.2.1 (Bxs.kept H4.out.2.2 ((KeptP.refl _ _).alloc _)) (tb_lit W4 #[.int .i64 n.agn] 3)).mono ?_);rintro e w5 ⟨rfl,rv5,g5,k5,q5,-⟩;have H5:=hid (And.intro g5 (And.intro k5 q5));clear g5 k5 q5)
 go_end0
 obtain⟨g5,k5,q5⟩:=H5.out
 refine⟨rfl,rv5,?_,k5,(H4.out.2.1.alloc (by have:=H4.out.1.hB;omega) (.cells #[.int .i64 n.agn] 3)).trans q5⟩
 rw[if_pos (by omega)]
 unfold nextR
 rw[if_neg (by omega),if_neg (by omega),if_neg (by omega),if_pos hk]
 exact g5
theorem draw_8 {B b:Nat} {ns:List NR} {nx:List (List Int)} {os is:List Int} {w:World} {gv go gn:Nat} {ai:Option Addr} {cv co ci cn:Nat} {rv:List Value} (h:Gx B b ns nx os is w gv go ai (some ⟨gn,0,none⟩) cv co ci cn rv) {p:Nat} {n:NR} (hp:p < is.length) (hpn:ns[p]?=some n) (hr:rv[p]?=some (.slice none 0 0)) (hos:os.length=is.length) (hM:ns.length≤1000000) (hbn:n.S.bn≤9223372036854775807∧n.S.ln≤9223372036854775807) (hk:n.S.kind=8):
  Calls Tryz.prog 32 #[.pointer (some ⟨b,0,none⟩),.int .i64 p] w (DrawPost B b ns nx os is gv go gn ai cv co ci cn rv p n w):=by
 have HH:=hid (And.intro h (And.intro hpn (And.intro hr (And.intro hos hp))))
 obtain⟨b0,b1,b2,b3,bf,bl⟩:=zau h.nd.box
 have h2:=Gx.kept HH.out.1 (((Below.refl w.heap.size w).alloc (Nat.le_refl _) (.cells #[.pointer (some ⟨b,0,none⟩)] 73)).alloc (by simp) (.cells #[.int .i64 p] 3))
 have hb2:=((Below.refl B w).alloc (Nat.le_trans HH.out.1.hB (Nat.le_of_lt bl)) (.cells #[.pointer (some ⟨b,0,none⟩)] 73)).alloc (by have:=HH.out.1.hB;simp;omega) (.cells #[.int .i64 p] 3)
 have ha2:=zaf (.cells #[.int .i64 p] 3) (zai w (.cells #[.pointer (some ⟨b,0,none⟩)] 73))
 have hi2:=zai (w.alloc (.cells #[.pointer (some ⟨b,0,none⟩)] 73)) (.cells #[.int .i64 p] 3)
 have hsz:(w.alloc (.cells #[.pointer (some ⟨b,0,none⟩)] 73)).heap.size=w.heap.size+1:=by simp
 rw[hsz] at hi2
 have hgv:gv < w.heap.size:=zaO HH.out.1.v rfl
 have hgo:go < w.heap.size:=zaO HH.out.1.o rfl
 have HG:=hid (And.intro hgv hgo)
 have plt:p < ns.length:=zaK hpn
 clear hsz hgv hgo b0 b1 b2 b3 bf bl h hpn hr hos
 go_enter Tryz.func32,Tryz.ntmps32
 go_wp2
 generalize (w.alloc (.cells #[.pointer (some ⟨b,0,none⟩)] 73)).alloc (.cells #[.int .i64 p] 3)=W2 at h2 hb2 ha2 hi2 ⊢
 generalize hbb:w.heap.size=bb at ha2 hi2 HG ⊢
 obtain⟨b0,b1,b2,b3,bf,bl⟩:=zau h2.nd.box
 have x1:=zab (k:=0) ha2 rfl
 have x2:=zab (k:=0) hi2 rfl
 have x4:=lt_of_block ha2
 have x5:=lt_of_block hi2
 have H2:=hid (And.intro h2 (And.intro hb2 (And.intro ha2 hi2)))
 clear h2 hb2 ha2 hi2
 go_region
 go_upto_region 4 with (fail)
 have h4:=Gx.kept H2.out.1 ((((Below.refl W2.heap.size W2).alloc (Nat.le_refl _) (.cells #[.pointer (some ⟨gn,p*12,none⟩)] 104)).alloc (by simp) (.cells #[zaL bb (bb+1)] 106)).drew)
 have hb4:=((H2.out.2.1.alloc (by have:=H2.out.1.hB;have:=bl;omega) (.cells #[.pointer (some ⟨gn,p*12,none⟩)] 104)).alloc (by have:=H2.out.1.hB;have:=bl;simp;omega) (.cells #[zaL bb (bb+1)] 106)).drew
 have hX4:Bxs ((W2.alloc (.cells #[.pointer (some ⟨gn,p*12,none⟩)] 104)).alloc (.cells #[zaL bb (bb+1)] 106)).drew gv go gn b p bb (bb+1) W2.heap.size (W2.heap.size+1):=⟨zab (zaf _ (zaf _ H2.out.2.2.1)) rfl,zab (zaf _ (zaf _ H2.out.2.2.2)) rfl,zab (zaf _ (zai W2 _)) rfl,zab (by have:=zai (W2.alloc (.cells #[.pointer (some ⟨gn,p*12,none⟩)] 104)) (.cells #[zaL bb (bb+1)] 106);rw[show(W2.alloc (.cells #[.pointer (some ⟨gn,p*12,none⟩)] 104)).heap.size=W2.heap.size+1 by simp] at this;exact this) rfl,by have:=HG.out;omega⟩
 clear b0 b1 b2 b3 bf bl x1 x2 H2
 generalize ((W2.alloc (.cells #[.pointer (some ⟨gn,p*12,none⟩)] 104)).alloc (.cells #[zaL bb (bb+1)] 106)).drew=W4 at h4 hb4 hX4 ⊢
 generalize W2.heap.size=bn at x4 x5 hX4 ⊢
 generalize hba:bb+1=ba at x5 hX4 ⊢
 generalize hbe:bn+1=be at hX4 ⊢
 clear x4 x5 hba hbe HG
 obtain⟨b0,b1,b2,b3,bf,bl⟩:=zau h4.nd.box
 obtain⟨g',e',-,gl,-,gf,gc⟩:=nd_at h4.nd HH.out.2.1
 obtain rfl:gn=g':=by simpa using e'
 obtain⟨d0,d1,d2,d3,d4,d5,d6,d7,d8,d9,d10,d11⟩:=zbq gc
 have d8':W4.cell? ⟨gn,p*12+7+1,none⟩=some (.int .i64 n.brk):=d8
 have d9':W4.cell? ⟨gn,p*12+7+2,none⟩=some (.int .i64 n.agn):=d9
 have x1:=hX4.b
 have x2:=hX4.a
 have x3:=hX4.n
 have x4:=hX4.e
 have l1:=World.block_lt_of_cell? W4 _ x1
 have l2:=World.block_lt_of_cell? W4 _ x2
 have l3:=World.block_lt_of_cell? W4 _ x3
 have l4:=World.block_lt_of_cell? W4 _ x4
 have H4:=hid (And.intro h4 (And.intro hb4 hX4))
 clear h4 hb4 hX4 gc e' d8 d9
 rw[hk] at d0
 go_upto_region 15 with (fail)
 go_wp2_with (go_at_call 46;(refine(jump_any (Gx.kept H4.out.1 ((Below.refl _ _).alloc (Nat.le_refl _) (.cells #[.int .i64 (ns.length:Int)] 3))) hp HH.out.2.1 HH.out.2.2.1 (m:=1) (r:=[(ns.length:Int)]) rfl (by decide) HH.out.2.2.2.1 (Bxs.kept H4.out.2.2 ((KeptP.refl _ _).alloc _)) (tb_lit W4 #[.int .i64 (ns.length:Int)] 3)).mono ?_);rintro e w5 ⟨rfl,rv5,g5,k5,q5,-⟩;have H5:=hid (And.intro g5 (And.intro k5 q5));clear g5 k5 q5)
 go_end0
 obtain⟨g5,k5,q5⟩:=H5.out
 refine⟨rfl,rv5,?_,k5,(H4.out.2.1.alloc (by have:=H4.out.1.hB;omega) (.cells #[.int .i64 (ns.length:Int)] 3)).trans q5⟩
 rw[if_pos (by omega)]
 unfold nextR
 rw[if_neg (by omega),if_neg (by omega),if_neg (by omega),if_neg (by omega),if_pos hk]
 exact g5
theorem draw_0 {B b:Nat} {ns:List NR} {nx:List (List Int)} {os is:List Int} {w:World} {gv go gn:Nat} {ai:Option Addr} {cv co ci cn:Nat} {rv:List Value} (h:Gx B b ns nx os is w gv go ai (some ⟨gn,0,none⟩) cv co ci cn rv) {p:Nat} {n:NR} (hp:p < is.length) (hpn:ns[p]?=some n) (hr:rv[p]?=some (.slice none 0 0)) (hos:os.length=is.length) (hM:ns.length≤1000000) (hbn:n.S.bn≤9223372036854775807∧n.S.ln≤9223372036854775807) (hk:¬(n.S.kind=4∨n.S.kind=5∨n.S.kind=6∨n.S.kind=7∨n.S.kind=8)):
  Calls Tryz.prog 32 #[.pointer (some ⟨b,0,none⟩),.int .i64 p] w (DrawPost B b ns nx os is gv go gn ai cv co ci cn rv p n w):=by
 have HH:=hid (And.intro h (And.intro hpn (And.intro hr (And.intro hos hp))))
 obtain⟨b0,b1,b2,b3,bf,bl⟩:=zau h.nd.box
 have h2:=Gx.kept HH.out.1 (((Below.refl w.heap.size w).alloc (Nat.le_refl _) (.cells #[.pointer (some ⟨b,0,none⟩)] 73)).alloc (by simp) (.cells #[.int .i64 p] 3))
 have hb2:=((Below.refl B w).alloc (Nat.le_trans HH.out.1.hB (Nat.le_of_lt bl)) (.cells #[.pointer (some ⟨b,0,none⟩)] 73)).alloc (by have:=HH.out.1.hB;simp;omega) (.cells #[.int .i64 p] 3)
 have ha2:=zaf (.cells #[.int .i64 p] 3) (zai w (.cells #[.pointer (some ⟨b,0,none⟩)] 73))
 have hi2:=zai (w.alloc (.cells #[.pointer (some ⟨b,0,none⟩)] 73)) (.cells #[.int .i64 p] 3)
 have hsz:(w.alloc (.cells #[.pointer (some ⟨b,0,none⟩)] 73)).heap.size=w.heap.size+1:=by simp
 rw[hsz] at hi2
 have hgv:gv < w.heap.size:=zaO HH.out.1.v rfl
 have hgo:go < w.heap.size:=zaO HH.out.1.o rfl
 have HG:=hid (And.intro hgv hgo)
 have plt:p < ns.length:=zaK hpn
 clear hsz hgv hgo b0 b1 b2 b3 bf bl h hpn hr hos
 go_enter Tryz.func32,Tryz.ntmps32
 go_wp2
 generalize (w.alloc (.cells #[.pointer (some ⟨b,0,none⟩)] 73)).alloc (.cells #[.int .i64 p] 3)=W2 at h2 hb2 ha2 hi2 ⊢
 generalize hbb:w.heap.size=bb at ha2 hi2 HG ⊢
 obtain⟨b0,b1,b2,b3,bf,bl⟩:=zau h2.nd.box
 have x1:=zab (k:=0) ha2 rfl
 have x2:=zab (k:=0) hi2 rfl
 have x4:=lt_of_block ha2
 have x5:=lt_of_block hi2
 have H2:=hid (And.intro h2 (And.intro hb2 (And.intro ha2 hi2)))
 clear h2 hb2 ha2 hi2
 go_region
 go_upto_region 4 with (fail)
 have h4:=Gx.kept H2.out.1 ((((Below.refl W2.heap.size W2).alloc (Nat.le_refl _) (.cells #[.pointer (some ⟨gn,p*12,none⟩)] 104)).alloc (by simp) (.cells #[zaL bb (bb+1)] 106)).drew)
 have hb4:=((H2.out.2.1.alloc (by have:=H2.out.1.hB;have:=bl;omega) (.cells #[.pointer (some ⟨gn,p*12,none⟩)] 104)).alloc (by have:=H2.out.1.hB;have:=bl;simp;omega) (.cells #[zaL bb (bb+1)] 106)).drew
 have hX4:Bxs ((W2.alloc (.cells #[.pointer (some ⟨gn,p*12,none⟩)] 104)).alloc (.cells #[zaL bb (bb+1)] 106)).drew gv go gn b p bb (bb+1) W2.heap.size (W2.heap.size+1):=⟨zab (zaf _ (zaf _ H2.out.2.2.1)) rfl,zab (zaf _ (zaf _ H2.out.2.2.2)) rfl,zab (zaf _ (zai W2 _)) rfl,zab (by have:=zai (W2.alloc (.cells #[.pointer (some ⟨gn,p*12,none⟩)] 104)) (.cells #[zaL bb (bb+1)] 106);rw[show(W2.alloc (.cells #[.pointer (some ⟨gn,p*12,none⟩)] 104)).heap.size=W2.heap.size+1 by simp] at this;exact this) rfl,by have:=HG.out;omega⟩
 clear b0 b1 b2 b3 bf bl x1 x2 H2
 generalize ((W2.alloc (.cells #[.pointer (some ⟨gn,p*12,none⟩)] 104)).alloc (.cells #[zaL bb (bb+1)] 106)).drew=W4 at h4 hb4 hX4 ⊢
 generalize W2.heap.size=bn at x4 x5 hX4 ⊢
 generalize hba:bb+1=ba at x5 hX4 ⊢
 generalize hbe:bn+1=be at hX4 ⊢
 clear x4 x5 hba hbe HG
 obtain⟨b0,b1,b2,b3,bf,bl⟩:=zau h4.nd.box
 obtain⟨g',e',-,gl,-,gf,gc⟩:=nd_at h4.nd HH.out.2.1
 obtain rfl:gn=g':=by simpa using e'
 obtain⟨d0,d1,d2,d3,d4,d5,d6,d7,d8,d9,d10,d11⟩:=zbq gc
 have d8':W4.cell? ⟨gn,p*12+7+1,none⟩=some (.int .i64 n.brk):=d8
 have d9':W4.cell? ⟨gn,p*12+7+2,none⟩=some (.int .i64 n.agn):=d9
 have x1:=hX4.b
 have x2:=hX4.a
 have x3:=hX4.n
 have x4:=hX4.e
 have l1:=World.block_lt_of_cell? W4 _ x1
 have l2:=World.block_lt_of_cell? W4 _ x2
 have l3:=World.block_lt_of_cell? W4 _ x3
 have l4:=World.block_lt_of_cell? W4 _ x4
 have H4:=hid (And.intro h4 (And.intro hb4 hX4))
 clear h4 hb4 hX4 gc e' d8 d9
 have k4:(n.S.kind==4)=false:=by rw[beq_eq_false_iff_ne];omega
 have k5:(n.S.kind==5)=false:=by rw[beq_eq_false_iff_ne];omega
 have k6:(n.S.kind==6)=false:=by rw[beq_eq_false_iff_ne];omega
 have k7:(n.S.kind==7)=false:=by rw[beq_eq_false_iff_ne];omega
 have k8:(n.S.kind==8)=false:=by rw[beq_eq_false_iff_ne];omega
 go_upto_region 5 with (fail)
 have hfar:=H4.out.2.2.far
 have fg:¬(gn=gv∨gn=go):=by
  rintro(e | e)
  ·exact za1 H4.out.1.v H4.out.1.nd.n (by decide) gn rfl (by rw[e];rfl)
  ·exact za1 H4.out.1.o H4.out.1.nd.n (by decide) gn rfl (by rw[e];rfl)
 have fe:¬(be=gv∨be=go):=by omega
 have fn:¬(bn=gv∨bn=go):=by omega
 have fa:¬(ba=gv∨ba=go):=by omega
 have HC:Hid (∀W,KeptP (fun q=>q=gv∨q=go) W4 W→W.cell? ⟨be,0,none⟩=some (zaL bb ba)∧W.cell? ⟨bn,0,none⟩=some (.pointer (some ⟨gn,p*12,none⟩))∧W.cell? ⟨gn,p*12+7,none⟩=some (.int .i64 n.fol)):=hid (fun W hW=>⟨(hW.cell fe x4),(hW.cell fn x3),(hW.cell fg d7)⟩)
 have hw1:IntKind.i64.wrap ((p:Int)+1)=(p:Int)+1:=IntWalk.i64_in _ (by omega)
 have hq:Hid (KeptP (fun q=>q=gv∨q=go) W4 W4.drew):=hid ((KeptP.refl _ _).drew)
 have hq0:Hid (KeptP (fun q=>q=gv∨q=go) W4 W4):=hid (KeptP.refl _ _)
 have HE:=hid (zdX (w:=(W4.alloc (.cells #[.int .i64 (n.fol)] 3)).drew) (Gx.kept H4.out.1 (((Below.refl W4.heap.size W4).alloc (Nat.le_refl _) (.cells #[.int .i64 (n.fol)] 3)).drew)) hp HH.out.2.2.1 (m:=1) (r:=[n.fol]) rfl (by decide) ⟨H4.out.2.2.far.1.1,H4.out.2.2.far.1.2.1⟩ (Bxs.kept H4.out.2.2 (((KeptP.refl _ W4).alloc (.cells #[.int .i64 (n.fol)] 3)).drew)).b (Bxs.kept H4.out.2.2 (((KeptP.refl _ W4).alloc (.cells #[.int .i64 (n.fol)] 3)).drew)).a (fun j u hu=>zb1 (tb_lit W4 #[.int .i64 (n.fol)] 3 j u hu)))
 clear fg fe fn fa hfar b0 b1 b2 b3 d0 d1 d2 d3 d4 d5 d6 d7 d10 d11 d8' d9' x1 x2 x3 x4
 go_region_held3 (fun w'=>w'.cell? ⟨be,0,none⟩=some (zaL bb ba)∧w'.cell? ⟨bn,0,none⟩=some (.pointer (some ⟨gn,p*12,none⟩))∧w'.cell? ⟨gn,p*12+7,none⟩=some (.int .i64 n.fol)) ((first | with_reducible exact HC.out _ hq.out | with_reducible exact HC.out _ ((hq0.out.alloc _).drew)))
  (first
  | (go_at_call 45;((with_reducible refine HE.out.mono ?_);rintro e w5 ⟨rfl,rv5,g5,k5,q5,r5⟩);have hq5:=hid ((((KeptP.refl (fun q=>q=gv∨q=go) W4).alloc (.cells #[.int .i64 (n.fol)] 3)).drew).trans (zcF r5 (fun q hq=>.inl hq)));have H5:=hid (And.intro g5 (And.intro k5 q5));clear g5 k5 q5 r5 hq;have hq:=hq5;clear hq5))
 go_wp2
 go_end0
 obtain⟨g5,k5,q5⟩:=H5.out
 refine⟨rfl,rv5,?_,k5,((H4.out.2.1.alloc (by have:=H4.out.1.hB;omega) (.cells #[.int .i64 (n.fol)] 3)).drew).trans q5⟩
 rw[if_neg (by omega)]
 have e5:nextR (ns.length:Nat) p n=[n.fol]:=by
  unfold nextR
  rw[if_neg (by omega),if_neg (by omega),if_neg (by omega),if_neg (by omega),if_neg (by omega)]
 rw[e5]
 exact g5
theorem draw_any {B b:Nat} {ns:List NR} {nx:List (List Int)} {os is:List Int} {w:World} {gv go gn:Nat} {ai:Option Addr} {cv co ci cn:Nat} {rv:List Value} (h:Gx B b ns nx os is w gv go ai (some ⟨gn,0,none⟩) cv co ci cn rv) {p:Nat} {n:NR} (hp:p < is.length) (hpn:ns[p]?=some n) (hr:rv[p]?=some (.slice none 0 0)) (hos:os.length=is.length) (hM:ns.length≤1000000) (hbn:n.S.bn≤9223372036854775807∧n.S.ln≤9223372036854775807):
  Calls Tryz.prog 32 #[.pointer (some ⟨b,0,none⟩),.int .i64 p] w (DrawPost B b ns nx os is gv go gn ai cv co ci cn rv p n w):=by
 by_cases h4:n.S.kind=4
 ·exact draw_4 h hp hpn hr hos hM hbn h4
 by_cases h5:n.S.kind=5
 ·exact draw_5 h hp hpn hr hos hM hbn h5
 by_cases h6:n.S.kind=6
 ·exact draw_6 h hp hpn hr hos hM hbn h6
 by_cases h7:n.S.kind=7
 ·exact draw_7 h hp hpn hr hos hM hbn h7
 by_cases h8:n.S.kind=8
 ·exact draw_8 h hp hpn hr hos hM hbn h8
 ·exact draw_0 h hp hpn hr hos hM hbn (by omega)
end Go.Proofs.YtagnmppdhfmgdaaGreatDoor.Fl
