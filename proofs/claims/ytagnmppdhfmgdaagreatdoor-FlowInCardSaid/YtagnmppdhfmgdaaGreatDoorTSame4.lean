/- What same asks of lists of expressions and of statements: are all fields the same, wherever they lie? (Written by gens.py.) What same asks of two. -/
import Derived.Test.YtagnmppdhfmgdaaGreatDoorPParse
import Derived.Test.YtagnmppdhfmgdaaGreatDoorFModel
import Derived.Test.YtagnmppdhfmgdaaGreatDoorFRows
import Derived.Test.YtagnmppdhfmgdaaGreatDoorFShape
import Derived.Test.YtagnmppdhfmgdaaGreatDoorFNew
import Derived.Test.YtagnmppdhfmgdaaGreatDoorTStHeap
import Derived.Stop.LaidErr
import Derived.Laws.MakeOwn
import Derived.Deep.QuietTactic
import Derived.BigQuiet
import Derived.Deep.RegionWith
import Derived.BigRegion
import Derived.Lib.AppendIntMem
import Derived.Deep.DeepCutAuto
set_option linter.unusedSimpArgs false
set_option linter.unusedVariables false
set_option maxHeartbeats 8000000
set_option maxRecDepth 100000
namespace Go.Proofs.YtagnmppdhfmgdaaGreatDoor.Pm
open Go Go.RowKit Go.Proofs.YtagnmppdhfmgdaaGreatDoor
def et1:List UInt8:=[102,117,110,99,32,109,97,105,110,40,41,32,123,32,118,97,114,32,97,44,32,120,91,51,93,59,32,64,50,32,119,104,105,108,101,32,40,97,32,60,32,51,41,32,123,32,120,91,97,93,32,61,32,45,53,59,32,97,32,61,32,97,32,43,32,49,59,32,125,32,125]
def et2:List UInt8:=[102,117,110,99,32,109,97,105,110,40,41,32,123,32,97,32,61,32,59,32,125]
def ef1:RF:=⟨[109,97,105,110],[],[([97],0),([120],3)],[.whl 2 (.bin [60] (.var [97]) (.num 3)) [.sto 0 [120] (.var [97]) (.num (-5)),.asg 0 [97] (.bin [43] (.var [97]) (.num 1))]]⟩
theorem ev1:zbO 100 et1=.ok [ef1] 3:=by kernel_rfl
theorem ev2:zbO 100 et2=.bad 18 3:=by kernel_rfl
structure Wo (w:World):Prop where
 er:Lx.Errs w
 pw:Pow w
theorem Wo.on {w w':World} (h:Wo w) (hp:Past w w'):Wo w':=⟨h.er.on (show Lx.Past w w' from hp),h.pw.on hp⟩
theorem cellA {w w':World} {o:Obj} {p:Addr} {v:Value} (hb:Below (w.alloc o).heap.size (w.alloc o) w') (hc:w.cell? p=some v):w'.cell? p=some v:=by
 have hlt:=World.block_lt_of_cell? w p hc
 rw[World.cell?_of_block (w:=w.alloc o) (hb.block p.block (by simp;omega)),World.cell?_alloc_lt _ _ _ hlt]
 exact hc
section
variable {w0 w:World}
end
end Go.Proofs.YtagnmppdhfmgdaaGreatDoor.Pm
namespace Go.Proofs.YtagnmppdhfmgdaaGreatDoor.Pm
open Go Go.RowKit Go.Proofs.YtagnmppdhfmgdaaGreatDoor
theorem gSyn:Tryz.prog.globalNamed "strconv.ErrSyntax"=some 0:=by kernel_rfl
theorem gRng:Tryz.prog.globalNamed "strconv.ErrRange"=some 1:=by kernel_rfl
theorem gSynT:(Tryz.prog.globals[0]?).map (·.type)=some 175:=by kernel_rfl
theorem gRngT:(Tryz.prog.globals[1]?).map (·.type)=some 175:=by kernel_rfl
theorem starErr: "*"++ "errors.errorString"= "*errors.errorString":=by decide
theorem row_err (u:TypeId) (h:Tryz.prog.typeName? 3 u=some "*errors.errorString"):u=203:=
 typeName_ptr_named (nm:= "errors.errorString") (by rw[starErr];kernel_rfl) (by kernel_rfl) (by decide) u (by rw[starErr];exact h)
theorem errs_facts {x y z:String×DataW Unit} {W:World}
  (h:laidMet Tryz.prog [x,y,z,("strconv.ErrRange",.iface "*errors.errorString" (.ptr (.agg [.lit (.string [118,97,108,117,101,32,111,117,116,32,111,102,32,114,97,110,103,101])]))),("strconv.ErrSyntax",.iface "*errors.errorString" (.ptr (.agg [.lit (.string [105,110,118,97,108,105,100,32,115,121,110,116,97,120])])))] W):Lx.Errs W:=by
 have h3:=h.tail.tail.tail
 obtain⟨a1,s1,hv1,_⟩:=laid_sentinel h3 gRng gRngT Tryz.underlying175 row_err Tryz.underlying203 Tryz.underlying205 rfl rfl Tryz.underlying9 (by kernel_rfl) (by kernel_rfl)
 obtain⟨a2,s2,hv2,_⟩:=laid_sentinel h3.tail gSyn gSynT Tryz.underlying175 row_err Tryz.underlying203 Tryz.underlying205 rfl rfl Tryz.underlying9 (by kernel_rfl) (by kernel_rfl)
 exact⟨⟨_,_,hv2⟩,⟨_,_,hv1⟩⟩
theorem wo_facts {x y:String×DataW Unit} {W:World} (h:laidMet Tryz.prog [x,y,("internal/strconv.uint64pow10",(Lib.tabData .u64 Lib.pow10Tab:DataW Unit)),("strconv.ErrRange",.iface "*errors.errorString" (.ptr (.agg [.lit (.string [118,97,108,117,101,32,111,117,116,32,111,102,32,114,97,110,103,101])]))),("strconv.ErrSyntax",.iface "*errors.errorString" (.ptr (.agg [.lit (.string [105,110,118,97,108,105,100,32,115,121,110,116,97,120])])))] W):Wo W:=
 ⟨errs_facts h,laid_facts h⟩
end Go.Proofs.YtagnmppdhfmgdaaGreatDoor.Pm

namespace Go.Proofs.YtagnmppdhfmgdaaGreatDoor.Fl
open Go Go.RowKit Go.Proofs.YtagnmppdhfmgdaaGreatDoor
open Go.Lib (hid)
open Go.Proofs.YtagnmppdhfmgdaaGreatDoor.Pm (zbO Wo)
open Go.Lib (hid)
def pOf (t:List UInt8):List RF:=match zbO 100 t with
 | .ok p _=>p
 | .bad _ _=>[]
def mOf (t:List UInt8):Nat:=match zbO 100 t with
 | .ok _ n=>n
 | .bad _ _=>0
def t1:List UInt8:=[102,117,110,99,32,109,97,105,110,40,41,32,123,32,97,32,61,32,49,59,32,119,104,105,108,101,32,40,97,41,32,123,32,105,102,32,40,98,41,32,123,32,98,114,101,97,107,59,32,125,32,101,108,115,101,32,123,32,99,111,110,116,105,110,117,101,59,32,125,32,97,32,61,32,50,59,32,125,32,114,101,116,117,114,110,32,48,59,32,98,32,61,32,49,59,32,125]
def t2:List UInt8:=[102,117,110,99,32,109,97,105,110,40,41,32,123,32,105,102,32,40,97,41,32,123,32,98,32,61,32,49,59,32,125,32,125]
theorem ev1:zbO 100 t1=.ok (pOf t1) (mOf t1):=by kernel_rfl
theorem ev2:zbO 100 t2=.ok (pOf t2) (mOf t2):=by kernel_rfl
def r1:List RS:=(pOf t1).flatMap RF.body
def r2:List RS:=(pOf t2).flatMap RF.body
theorem one1:(pOf t1).length=1:=by kernel_rfl
theorem one2:(pOf t2).length=1:=by kernel_rfl
theorem g1:(cRs r1=8∧r1.length=4)∧nextsP r1=[[1],[2,6],[3,4],[6],[1],[1],[8],[8],[]]∧othersP r1=[-1,-1,-1,5,5,-1,7,-1,-1]∧insP r1=[-1,-1,1,2,2,1,-1,-1,-1]:=⟨⟨by kernel_rfl,by kernel_rfl⟩,by kernel_rfl,by kernel_rfl,by kernel_rfl⟩
theorem g2:cRs r2=2:=by kernel_rfl
theorem zdb {w:World} (H:Wo w) (sb:ByteArray) {t:List UInt8} {p:List RF} {mo:Nat} (hs:sb.data.toList=t) (hl:t.length≤8192) (ev:zbO 100 t=.ok p mo):
  Calls Tryz.prog 40 #[.string sb] w fun e w'=>Below w.heap.size w w'∧∃a c l,e=.returned (.tuple #[.agg #[.slice a l.length c],.int .i64 (t.length:Nat),.int .i64 0])∧l.map FT.rf=p∧l.all FT.rightB=true∧FsIn w' 0 a l:=by
 subst hs
 refine(Pm.pParse_any 100 sb hl H.er (Pm.finA_ok ev)).mono ?_
 intro e w' hq
 rw[ev] at hq
 obtain⟨hb,v,rfl,a,c,l,rfl,h1,h2,h3,-⟩:=hq
 exact⟨hb,a,c,l,rfl,h1,h2,h3.mono (Nat.zero_le _)⟩
def BodyAt (r:List RS) (e:Ending) (w':World):Prop:=∃(a:Option Addr) (c:Nat) (l:List ST),e=.returned (.slice a l.length c)∧rss l=r∧zak l=true∧l.length≤9223372036854775807∧SsIn w' 0 a 0 l
theorem body_any {w:World} (H:Wo w) (s:ByteArray) {t:List UInt8} (hs:(({data:=#[102,117,110,99,32,109,97,105,110,40,41,32,123,32]}:ByteArray)++s++{data:=#[32,125]}).data.toList=t) (hz:s.size≤1000) (hl:t.length≤8192) (ev:zbO 100 t=.ok (pOf t) (mOf t)) (h1:(pOf t).length=1):
  Calls Tryz.prog 26 #[.string s] w fun e w'=>BodyAt ((pOf t).flatMap RF.body) e w'∧Below w.heap.size w w':=by
 have HP:=hid (zdb H _ hs hl ev)
 have h9:({data:=#[102,117,110,99,32,109,97,105,110,40,41,32,123,32]}:ByteArray).size+s.size≤maxLen:=by unfold maxLen;show 14+s.size≤_;omega
 have h8:(({data:=#[102,117,110,99,32,109,97,105,110,40,41,32,123,32]}:ByteArray)++s).size+({data:=#[32,125]}:ByteArray).size≤maxLen:=by rw[ByteArray.size_append];unfold maxLen;show 14+s.size+2≤_;omega
 have H1:=hid h1
 clear hs hl ev h1 H
 go_enter Tryz.func26,Tryz.ntmps26
 go_upto_region 2 with (go_at_call 40;(refine HP.out.mono ?_);rintro e w1 ⟨hb1,a,c,l,rfl,q1,q2,q3⟩;have HQ:=hid (And.intro q1 (And.intro q2 (And.intro q3 hb1)));clear q1 q2 q3 hb1)
 obtain⟨q1,q2,q3,hb1⟩:=HQ.out
 have hl1:l.length=1:=by have:=congrArg List.length q1;rw[List.length_map,H1.out] at this;exact this
 obtain⟨F,rfl⟩:∃F,l=[F]:=by
  match l,hl1 with
  | [F],_=>exact⟨F,rfl⟩
 have hrow:=q3.row 0 (by simp)
 obtain⟨kb,ko,rfl,-⟩:=hrow
 have hrow:=q3.row 0 (by simp)
 rw[show([F]:List FT)[0]=F from rfl,FT.cells_eq] at hrow
 obtain⟨f0,f1,f2,f3,fl⟩:=row_cells4 hrow (Past.refl w1)
 rw[show ko+0*4+3=ko+3 by omega] at f3
 have hr:F.rightB=true:=by simpa using q2
 have hrb:zak F.body=true:=by
  unfold FT.rightB at hr
  simp only[Bool.and_eq_true] at hr
  exact hr.2.2.2
 have hbody:(pOf t).flatMap RF.body=rss F.body:=by rw[←q1];simp[FT.rf]
 have hin:=q3.fs 0 (by simp)
 have HF:=hid (And.intro hrb (And.intro hbody (And.intro (show F.In w1 0 from hin) hb1)))
 clear q1 q2 q3 hb1 hl1 hrow f0 f1 f2 hr hrb hbody hin HQ H1
 go_wp2
 go_ret
 obtain⟨hrb,hbody,hin,hb1⟩:=HF.out
 have hp:Below w1.heap.size w1 (w1.alloc (.cells #[.slice (some ⟨kb,ko,none⟩) 1 c] 24)):=(Below.refl _ _).alloc (Nat.le_refl _) _
 exact⟨⟨F.ba,F.bc,F.body,rfl,hbody.symm,hrb,hin.bl,hin.ss.on hp⟩,zbe hb1 hp⟩
end Go.Proofs.YtagnmppdhfmgdaaGreatDoor.Fl

namespace Go.Proofs.YtagnmppdhfmgdaaGreatDoor.Fl
open Go Go.RowKit Go.Proofs.YtagnmppdhfmgdaaGreatDoor
open Go.Lib (hid)
theorem stm_info:(Tryz.prog.info? 61).map (fun i=>(i.zero,i.size,i.bytes))=some (some (.agg #[.int .i64 0,.int .i64 0,.string {data:=#[]},.string {data:=#[]},.slice none 0 0,.slice none 0 0,.slice none 0 0]),7,120):=by kernel_rfl
theorem made_stmts (n:Nat) (hn:n≤1000001):∃cur:Array Value,cur.size=n*7∧∀W:World,(Instr.makeSlice 32 (.int .i64 (n:Nat)) (.int .i64 (n:Nat))).run Tryz.prog W=.ok (.slice (some ⟨W.heap.size,0,none⟩) n n) (W.alloc (.cells cur 61)):=by
 obtain⟨ei,hin,hz0,hz1,hz2⟩:=info_parts stm_info
 refine⟨madeCells #[.int .i64 0,.int .i64 0,.string {data:=#[]},.string {data:=#[]},.slice none 0 0,.slice none 0 0,.slice none 0 0] (n*7),size_madeCells _ _,fun W=>?_⟩
 have h:=run_make (P:=Tryz.prog) (w:=W) 32 61 ei _ Tryz.underlying32 hin hz0 .i64 .i64 (n:Nat) (n:Nat) (by omega) (by omega) (by rw[hz2];omega) (by omega)
 simp only[Int.toNat_natCast,hz1] at h
 rw[h]
 rfl
theorem set7 (cur:Array Value) (a:Nat) (v0 v1 v2 v3 v4 v5 v6:Value) (ha:a+7≤cur.size):
  (((((((cur.setIfInBounds a v0).setIfInBounds (a+1) v1).setIfInBounds (a+2) v2).setIfInBounds (a+3) v3).setIfInBounds (a+4) v4).setIfInBounds (a+5) v5).setIfInBounds (a+6) v6).size=cur.size ∧
  (∀j u,(#[v0,v1,v2,v3,v4,v5,v6]:Array Value)[j]?=some u→(((((((cur.setIfInBounds a v0).setIfInBounds (a+1) v1).setIfInBounds (a+2) v2).setIfInBounds (a+3) v3).setIfInBounds (a+4) v4).setIfInBounds (a+5) v5).setIfInBounds (a+6) v6)[a+j]?=some u) ∧
  ∀b,b < a→(((((((cur.setIfInBounds a v0).setIfInBounds (a+1) v1).setIfInBounds (a+2) v2).setIfInBounds (a+3) v3).setIfInBounds (a+4) v4).setIfInBounds (a+5) v5).setIfInBounds (a+6) v6)[b]?=cur[b]?:=by
 refine⟨by simp,fun j u hj=>?_,fun b hb=>?_⟩
 ·have hj7:j < 7:=by
   rcases Nat.lt_or_ge j 7 with h | h
   ·exact h
   ·rw[Array.getElem?_eq_none (by simpa using h)] at hj;cases hj
  match j,hj7 with
  | 0,_=>simp[Array.getElem?_setIfInBounds] at hj ⊢;refine⟨by omega,hj⟩
  | 1,_=>simp[Array.getElem?_setIfInBounds] at hj ⊢;refine⟨by omega,hj⟩
  | 2,_=>simp[Array.getElem?_setIfInBounds] at hj ⊢;refine⟨by omega,hj⟩
  | 3,_=>simp[Array.getElem?_setIfInBounds] at hj ⊢;refine⟨by omega,hj⟩
  | 4,_=>simp[Array.getElem?_setIfInBounds] at hj ⊢;refine⟨by omega,hj⟩
  | 5,_=>simp[Array.getElem?_setIfInBounds] at hj ⊢;refine⟨by omega,hj⟩
  | 6,_=>simp[Array.getElem?_setIfInBounds] at hj ⊢;refine⟨by omega,hj⟩
 ·simp only[Array.getElem?_setIfInBounds]
  rw[if_neg (by omega),if_neg (by omega),if_neg (by omega),if_neg (by omega),if_neg (by omega),if_neg (by omega),if_neg (by omega)]
def ToldS (w:World) (B g M k:Nat) (N:List NR):Prop:=B≤g∧∃cur,w.heap[g]?=some (.cells cur 61 (0,0))∧cur.size=M*7∧∀i n j u,i < k→N[i]?=some n→n.S.cells[j]?=some u→cur[i*7+j]?=some u
theorem told_step {wr:World} {B g N k:Nat} {L:List NR} {n:NR} {S:ST} (hS:n.S=S) (hk:k < N) (hn:L[k]?=some n) (hB:B≤g) {cur:Array Value} (hg:wr.heap[g]?=some (.cells cur 61 (0,0))) (hc:cur.size=N*7) (hold:∀i n j u,i < k→L[i]?=some n→n.S.cells[j]?=some u→cur[i*7+j]?=some u) (o:Obj):
  ToldS ((((((((wr.setCell ⟨g,k*7,none⟩ (.int .i64 S.kind)).setCell ⟨g,k*7+1,none⟩ (.int .i64 S.tag)).setCell ⟨g,k*7+2,none⟩ (.string S.name)).setCell ⟨g,k*7+3,none⟩ (.string S.func)).setCell ⟨g,k*7+4,none⟩ (.slice S.ea S.en S.ec)).setCell ⟨g,k*7+5,none⟩ (.slice S.ba S.bn S.bc)).setCell ⟨g,k*7+6,none⟩ (.slice S.la S.ln S.lc)).alloc o) B g N (k+1) L:=by
 obtain⟨h1,h2,h3⟩:=set7 cur (k*7) (.int .i64 S.kind) (.int .i64 S.tag) (.string S.name) (.string S.func) (.slice S.ea S.en S.ec) (.slice S.ba S.bn S.bc) (.slice S.la S.ln S.lc) (by omega)
 refine⟨hB,_,zaf o (zay _ (zay _ (zay _ (zay _ (zay _ (zay _ (zay _ hg))))))),by rw[h1,hc],fun i m j u hi hm hu=>?_⟩
 rcases Nat.lt_or_ge i k with h | h
 ·have hj7:j < 7:=by
   rw[ST.cells_eq] at hu
   rcases Nat.lt_or_ge j 7 with h | h
   ·exact h
   ·rw[Array.getElem?_eq_none (by simpa using h)] at hu;cases hu
  rw[h3 _ (by omega)]
  exact hold i m j u h hm hu
 ·obtain rfl:i=k:=by omega
  rw[hn] at hm
  simp only[Option.some.injEq] at hm
  subst hm
  rw[hS,ST.cells_eq] at hu
  exact h2 j u hu
theorem told_nd {wr:World} {B g k cn:Nat} {ns:List NR} {vx vo vi:Value} {an:Option Addr} {S:ST} (h:Nd B B ns wr vx vo vi an cn) (hgB:¬g=B) (hgn:(Value.slice an ns.length cn).ownBlock≠some g) (o:Obj):Nd B B ns ((((((((wr.setCell ⟨g,k*7,none⟩ (.int .i64 S.kind)).setCell ⟨g,k*7+1,none⟩ (.int .i64 S.tag)).setCell ⟨g,k*7+2,none⟩ (.string S.name)).setCell ⟨g,k*7+3,none⟩ (.string S.func)).setCell ⟨g,k*7+4,none⟩ (.slice S.ea S.en S.ec)).setCell ⟨g,k*7+5,none⟩ (.slice S.ba S.bn S.bc)).setCell ⟨g,k*7+6,none⟩ (.slice S.la S.ln S.lc)).alloc o) vx vo vi an cn:=by
 have key:∀{w:World} (j:Nat) (u:Value),Nd B B ns w vx vo vi an cn→Nd B B ns (w.setCell ⟨g,j,none⟩ u) vx vo vi an cn:=fun j u hw =>
  ⟨(Below.heap_setCell _ _ _ _ (fun e=>hgB e.symm)).trans hw.box,zbf hw.n hgn _ _⟩
 have h7:=key (k*7+6) (.slice S.la S.ln S.lc) (key (k*7+5) (.slice S.ba S.bn S.bc) (key (k*7+4) (.slice S.ea S.en S.ec) (key (k*7+3) (.string S.func) (key (k*7+2) (.string S.name) (key (k*7+1) (.int .i64 S.tag) (key (k*7) (.int .i64 S.kind) h))))))
 exact⟨zaf o h7.box,h7.n.alloc o⟩
theorem told_below {w wr:World} {B g k:Nat} {S:ST} (h:Below B w wr) (hg:B≤g) (hs:B≤wr.heap.size) (o:Obj):Below B w ((((((((wr.setCell ⟨g,k*7,none⟩ (.int .i64 S.kind)).setCell ⟨g,k*7+1,none⟩ (.int .i64 S.tag)).setCell ⟨g,k*7+2,none⟩ (.string S.name)).setCell ⟨g,k*7+3,none⟩ (.string S.func)).setCell ⟨g,k*7+4,none⟩ (.slice S.ea S.en S.ec)).setCell ⟨g,k*7+5,none⟩ (.slice S.ba S.bn S.bc)).setCell ⟨g,k*7+6,none⟩ (.slice S.la S.ln S.lc)).alloc o):=
 (((((((h.setCell (p:=⟨g,k*7,none⟩) hg _).setCell (p:=⟨g,k*7+1,none⟩) hg _).setCell (p:=⟨g,k*7+2,none⟩) hg _).setCell (p:=⟨g,k*7+3,none⟩) hg _).setCell (p:=⟨g,k*7+4,none⟩) hg _).setCell (p:=⟨g,k*7+5,none⟩) hg _).setCell (p:=⟨g,k*7+6,none⟩) hg _).alloc (by simpa[World.setCell] using hs) o
theorem flat_any {w0:World} (a:Option Addr) (c:Nat) (l:List ST) (hl:l.length≤9223372036854775807) (hin:SsIn w0 0 a 0 l) (hc:cnts l≤100000) (w:World) (hp:Past w0 w):
  Calls Tryz.prog 14 #[.slice a l.length c] w fun e w'=>(∃g,e=.returned (.slice (some ⟨g,0,none⟩) (cnts l) (cnts l))∧ToldS w' w.heap.size g (cnts l) (cnts l) (zaF l))∧Below w.heap.size w w':=by
 have HK:=hid (newB_any (w0:=w0) a c l hl hin hc w hp)
 obtain⟨cur0,hcur0,hmk⟩:=made_stmts (cnts l) (by omega)
 obtain⟨N,hN⟩:∃N,cnts l=N:=⟨_,rfl⟩
 rw[hN] at hmk hcur0 ⊢
 have hNn:((zaF l).map NR.raw).length=N:=by rw[List.length_map,zaG];exact hN
 have HNN:=hid (And.intro hNn hN)
 have HC0:=hid hcur0
 have hq:N≤100000:=by omega
 clear hin hp hcur0 hNn hN
 go_enter Tryz.func14,Tryz.ntmps14
 go_upto_region 2 with (go_at_call 29;(refine HK.out.mono ?_);rintro e w2 ⟨rfl,h2,hb2⟩;have H2:=hid (And.intro h2 hb2);clear h2 hb2)
 obtain⟨ai,an,ci,cn,hO⟩:=bd_open H2.out.1
 obtain⟨b0,b1,b2,b3,bf,bl⟩:=zat hO.box
 rw[HNN.out.1] at b3
 have HB:=hid (And.intro hO H2.out.2)
 have hg0:(w2.alloc (.cells cur0 61)).heap[w2.heap.size]?=_:=zai w2 (.cells cur0 61)
 have HG0:=hid hg0
 clear hO hg0 HK H2
 generalize hwb:w.heap.size=B at *
 go_upto_region 4 with (fail)
 generalize hsg:w2.heap.size=g at *
 have hb4:Below B w (w2.alloc (.cells cur0 61)):=HB.out.2.alloc (by omega) _
 have hn4:Nd B B ((zaF l).map NR.raw) (w2.alloc (.cells cur0 61)) (.slice none 0 0) (.slice none 0 0) (.slice ai N ci) an cn:=⟨by have:=HB.out.1.alloc (.cells cur0 61);have h9:=this.box;rw[HNN.out.1] at h9 ⊢;exact h9,(HB.out.1.alloc (.cells cur0 61)).n⟩
 have HT:=hid (And.intro hb4 (And.intro hn4 (show B≤g by omega)))
 clear hb4 hn4 b0 b1 b2 b3 bf bl HB
 generalize w2.alloc (.cells cur0 61)=w4 at *
 go_loopw [20] (fun i wr=>∃k:Nat,k≤N∧i=.int .i64 k∧ToldS wr B g N k (zaF l)∧Nd B B ((zaF l).map NR.raw) wr (.slice none 0 0) (.slice none 0 0) (.slice ai N ci) an cn∧Below B w wr) (fun i _=>N - (intOf i).toNat)
 case atStart=>exact⟨0,Nat.zero_le _,rfl,⟨HT.out.2.2,cur0,HG0.out,HC0.out,fun i n j u h=>absurd h (by omega)⟩,HT.out.2.1,HT.out.1⟩
 case round =>
  obtain⟨k,hk,rfl,ht,hn,hb⟩:=hrel
  by_cases hlt:k < N
  ·have hkl:k < (zaF l).length:=by rw[zaG];have:=HNN.out.2;omega
   have hnk:=List.getElem?_eq_getElem hkl
   obtain⟨n,hnn⟩:∃n,(zaF l)[k]=n:=⟨_,rfl⟩
   rw[hnn] at hnk
   have hraw:((zaF l).map NR.raw)[k]?=some n.raw:=by rw[List.getElem?_map,hnk];rfl
   obtain⟨gn,rfl,-,gl,-,gf,gc⟩:=nd_at hn hraw
   obtain⟨d0,d1,d2,d3,d4,d5,d6,d7,d8,d9,d10,d11⟩:=zbo gc
   have plt:k < ((zaF l).map NR.raw).length:=by rw[HNN.out.1];exact hlt
   obtain⟨hBg,cur,hcur,hcs,hold⟩:=ht
   have tf:∀k,wr.frozen? ⟨g,k,none⟩=false:=fun k=>zab hcur
   have tl:=lt_of_block hcur
   have tc:∀j,j < 7→∃u,wr.cell? ⟨g,k*7+j,none⟩=some u:=fun j hj=>⟨cur[k*7+j]'(by omega),zac hcur (Array.getElem?_eq_getElem _)⟩
   obtain⟨u0,t0⟩:=tc 0 (by decide)
   obtain⟨u1,t1⟩:=tc 1 (by decide)
   obtain⟨u2,t2⟩:=tc 2 (by decide)
   obtain⟨u3,t3⟩:=tc 3 (by decide)
   obtain⟨u4,t4⟩:=tc 4 (by decide)
   obtain⟨u5,t5⟩:=tc 5 (by decide)
   obtain⟨u6,t6⟩:=tc 6 (by decide)
   rw[Nat.add_zero] at t0
   have HW:=hid (And.intro hcur (And.intro hcs (And.intro hold (And.intro hn hb))))
   have HNK:=hid hnk
   have hgn:¬g=gn:=by
    rintro rfl
    have:=za6 hn.n hcur (by decide)
    exact this rfl
   have hgB:¬g=B:=by
    rintro rfl
    have h1:wr.heap[g]?=_:=hn.box
    rw[hcur] at h1
    simp only[Option.some.injEq,Obj.cells.injEq] at h1
    exact absurd h1.2.1 (by decide)
   have HGB:=hid (And.intro hgn hgB)
   clear hkl hnk hnn hraw gc hcur hcs hold hn hb tc
   go_wp2
   go_roundw
   case rel =>
    obtain⟨w1,w2',w3,w4',w5⟩:=HW.out
    exact⟨k+1,by omega,by go_num,told_step (n:=n) (S:=n.S) rfl hlt HNK.out (by omega) w1 w2' w3 _,told_nd (S:=n.S) w4' HGB.out.2 (by simpa[Value.ownBlock] using fun e:gn=g=>HGB.out.1 e.symm) _,told_below (S:=n.S) w5 (by omega) (by omega) _⟩
   case measure=>simp[intOf];omega
  ·obtain rfl:k=N:=by omega
   go_wp2
   go_ret
   rw[hwb]
   exact⟨⟨g,rfl,ht⟩,hb⟩
end Go.Proofs.YtagnmppdhfmgdaaGreatDoor.Fl

namespace Go.Proofs.YtagnmppdhfmgdaaGreatDoor
open Go Go.RowKit
end Go.Proofs.YtagnmppdhfmgdaaGreatDoor
namespace Go.Proofs.YtagnmppdhfmgdaaGreatDoor
open Go Go.RowKit
end Go.Proofs.YtagnmppdhfmgdaaGreatDoor
namespace Go.Proofs.YtagnmppdhfmgdaaGreatDoor
open Go Go.RowKit
end Go.Proofs.YtagnmppdhfmgdaaGreatDoor
namespace Go.Proofs.YtagnmppdhfmgdaaGreatDoor
open Go Go.RowKit
theorem below_dN (w:World) (n:Nat):Below w.heap.size w (w.drewN n):=⟨rfl,rfl,rfl,Nat.le_refl _,fun _ _=>rfl⟩
end Go.Proofs.YtagnmppdhfmgdaaGreatDoor
namespace Go.Proofs.YtagnmppdhfmgdaaGreatDoor
open Go Go.RowKit
end Go.Proofs.YtagnmppdhfmgdaaGreatDoor
