/- Any expression of the feed; a feed that has just been made, over bytes that came in. -/
import Derived.Test.YtljbbhhiiiepcaaGreatDoorLRow
import Derived.Test.YtljbbhhiiiepcaaGreatDoorTFeedE2
set_option linter.unusedSimpArgs false
set_option linter.unusedVariables false
set_option maxHeartbeats 8000000
set_option maxRecDepth 100000
namespace Go.Proofs.YtljbbhhiiiepcaaGreatDoor
open Go Go.RowKit
open Go.Lib (hid)
theorem feedE_any {F:FeedC} {B f:Nat} {left tag:Int}:∀(d:Nat),d≤9→∀(p:Nat) (w:World),Fd F B f p left tag w→Calls Tryz.prog 134 #[.pointer (some ⟨f,0,none⟩),.int .i64 d] w (ExprPost F B f d left tag w)
 | 0,_,p,w,h=>feedE_zero p w h
 | d+1,hd,p,w,h=>feedE_succ d p (by omega) (fun p w h=>feedE_any d (by omega) p w h) w h
theorem names_lit {B f ia:Nat} {ns:List ByteArray} {t:TypeId} {fr:Nat×Nat} {w:World} (h:w.heap[ia]?=some (.cells (ns.map Value.string).toArray t fr)) (h1:ia < B) (h2:ia≠f) (h3:0 < ns.length∧ns.length≤10) (h4:ns.all nmB=true):NamesIn B f ia ns w:=
 ⟨h1,h2,h3,fun i hi=>by
  have e:ns.getD i mE=ns[i]:=by rw[List.getD_eq_getElem?_getD,List.getElem?_eq_getElem hi];rfl
  refine⟨zab h ?_,?_⟩
  ·rw[List.getElem?_toArray,List.getElem?_map,List.getElem?_eq_getElem hi,e];rfl
  ·rw[e];exact List.all_eq_true.1 h4 _ (List.getElem_mem hi)⟩
theorem mk_feed {w wk:World} {a:Option Addr} {len cap:Nat} {zs:List Int} {ia xa f B:Nat} {ns ms:List ByteArray} {t t':TypeId} {main:Bool} {left tag:Int} (r:RowIn .u8 w a len zs) (hb:∀b,b < w.heap.size→wk.heap[b]?=w.heap[b]?)
  (h1:wk.heap[ia]?=some (.cells (ns.map Value.string).toArray t (0,0))) (h2:wk.heap[xa]?=some (.cells (ms.map Value.string).toArray t' (0,0)))
  (h3:wk.heap[f]?=some (.cells #[.slice a len cap,.int .i64 0,.slice (some ⟨ia,0,none⟩) ns.length ns.length,.slice (some ⟨xa,0,none⟩) ms.length ms.length,.int .i64 left,.int .i64 tag,.bool main] 119 (0,0)))
  (l1:ia < B) (l2:xa < B) (l3:f < B) (l4:B≤wk.heap.size) (n1:ia≠f) (n2:xa≠f) (n3:w.heap.size≤f) (n4:w.heap.size≤B)
  (c1:0 < ns.length∧ns.length≤10) (c2:0 < ms.length∧ms.length≤10) (c3:ns.all nmB=true) (c4:ms.all nmB=true):
  Fd ⟨a,len,cap,zs,ia,ns,xa,ms,main⟩ B f 0 left tag wk:=
 ⟨l3,l4,h3,Nat.zero_le _,r.1,fun i hi=>by
  obtain⟨b,off,e,hlt,hc⟩:=r.2 (show 0 < len from Nat.lt_of_le_of_lt (Nat.zero_le _) hi)
  obtain⟨h5,h6⟩:=hc i hi
  refine⟨b,off,e,by omega,by omega,?_,?_⟩
  ·rw[World.cell?_of_block (w:=w) (hb b hlt)];exact h5
  ·simp only[Lit.wf,IntKind.min,IntKind.max,Bool.and_eq_true] at h6
   exact⟨of_decide_eq_true h6.1,of_decide_eq_true h6.2⟩,names_lit h1 l1 n1 c1 c3,names_lit h2 l2 n2 c2 c4⟩
end Go.Proofs.YtljbbhhiiiepcaaGreatDoor
namespace Go.Proofs.YtljbbhhiiiepcaaGreatDoor
open Go Go.RowKit
open Go.Lib (hid)
end Go.Proofs.YtljbbhhiiiepcaaGreatDoor
namespace Go.Proofs.YtljbbhhiiiepcaaGreatDoor
open Go Go.RowKit
open Go.Lib (hid)
abbrev zS:Array Value:=#[.int .i64 0,.int .i64 0,.string {data:=#[]},.string {data:=#[]},.slice none 0 0,.slice none 0 0,.slice none 0 0]
abbrev tS (t:Int):Array Value:=#[.int .i64 0,.int .i64 t,.string {data:=#[]},.string {data:=#[]},.slice none 0 0,.slice none 0 0,.slice none 0 0]
theorem zaR {w:World} {b:Nat} {v0 v1 v2 v3 v4 v5 v6:Value} {t:TypeId} {fr:Nat×Nat} (h:w.heap[b]?=some (.cells #[v0,v1,v2,v3,v4,v5,v6] t fr)):w.cell? ⟨b,0,none⟩=some v0∧w.cell? ⟨b,1,none⟩=some v1∧w.cell? ⟨b,2,none⟩=some v2∧w.cell? ⟨b,3,none⟩=some v3∧w.cell? ⟨b,4,none⟩=some v4∧w.cell? ⟨b,5,none⟩=some v5∧w.cell? ⟨b,6,none⟩=some v6:=
 ⟨zab h rfl,zab h rfl,zab h rfl,zab h rfl,zab h rfl,zab h rfl,zab h rfl⟩
def FeedC.nv (F:FeedC) (p:Nat):Int:=if p < F.len then F.zs.getD p 0 else 0
def FeedC.nq (F:FeedC) (p:Nat):Nat:=if p < F.len then p+1 else p
section
variable {F:FeedC} {B f:Nat} {p:Nat} {left tag:Int} {w:World}
theorem Fd.nvb (h:Fd F B f p left tag w):0≤F.nv p∧F.nv p≤255:=by
 unfold FeedC.nv
 split
 next hlt=>obtain⟨b,off,-,-,-,-,h0,h1⟩:=h.bytes p hlt;exact⟨h0,h1⟩
 next=>omega
def NextV (F:FeedC) (B f:Nat) (left tag:Int) (w:World) (v:Int) (q:Nat) (e:Ending) (w':World):Prop:=e=.returned (.int .i64 v)∧Fd F B f q left tag w'∧w.grownBy w' (some f)
theorem next_val (h:Fd F B f p left tag w):Calls Tryz.prog 133 #[.pointer (some ⟨f,0,none⟩)] w (NextV F B f left tag w (F.nv p) (F.nq p)):=by
 have c0:=h.c0
 have c1:=h.c1
 have f1:=h.f1 1
 have hl:=h.lep
 have hm:=h.lel
 by_cases hlt:p < F.len
 ·obtain⟨b,off,hla,-,hne,hc,hv0,hv1⟩:=h.bytes p hlt
  have e1:F.nv p=F.zs.getD p 0:=by simp[FeedC.nv,hlt]
  have e2:F.nq p=p+1:=by simp[FeedC.nq,hlt]
  rw[e1,e2]
  clear e1 e2
  generalize hzv:F.zs.getD p 0=v at hc hv0 hv1 ⊢
  have HZ:=hid hzv
  clear hzv
  have hne':(b==f)=false:=by simpa using hne
  have n1:decide (F.len≤p)=false:=by simp;omega
  have b1:p < F.len:=hlt
  have H:=hid h
  have HL:=hid hla
  have HC:=hid hc
  clear h hl hc hlt
  rw[hla] at c0
  clear hla
  go_enter Tryz.func133,Tryz.ntmps133
  go_wp2
  go_quiet (fail)
  go_wp2
  have hg:=zat (f:=f) (zas (zaf w (some f)) nq) 1 (.int .i64 (((p+1:Nat)):Int))
  have H2:=(H.out.drewN nq).setp (q:=p+1) (by omega)
  have e1:((p+1:Nat):Int)=(p:Int)+1:=rfl
  rw[e1] at hg
  have H3:Hid (Fd F B f (p+1) left tag ((w.drewN nq).setCell ⟨f,1,none⟩ (.int .i64 ((p:Int)+1)))):=hid H2
  clear H2
  generalize (w.drewN nq).setCell ⟨f,1,none⟩ (.int .i64 ((p:Int)+1))=w2 at hg H3 ⊢
  have HG:=hid hg
  have d0:=H3.out.c0
  have d1:w2.cell? ⟨f,1,none⟩=some (.int .i64 ((p:Int)+1)):=H3.out.c1
  obtain⟨b',off',hla',-,-,d2,-⟩:=H3.out.bytes p b1
  rw[HL.out] at hla'
  simp only[Option.some.injEq,Addr.mk.injEq,and_true] at hla'
  obtain⟨rfl,rfl⟩:=hla'
  rw[HL.out] at d0
  rw[HZ.out] at d2
  have k0:(0:Int)≤p:=by omega
  have k1:(p:Int) < F.len:=by omega
  have k2:IntKind.i64.wrap ((p:Int)+1 - 1)=p:=by rw[Int.add_sub_cancel];exact IntWalk.i64_in _ (by omega)
  clear c0 c1 f1 hg hne e1
  go_quiet (fail)
  go_wp2
  go_ret
  exact⟨rfl,H3.out.drewN _,zas HG.out _⟩
 ·have n1:decide (F.len≤p)=true:=by simp;omega
  have e1:F.nv p=0:=by simp[FeedC.nv,hlt]
  have e2:F.nq p=p:=by simp[FeedC.nq,hlt]
  rw[e1,e2]
  clear e1 e2
  have H:=hid h
  clear h hl
  go_enter Tryz.func133,Tryz.ntmps133
  go_wp2
  go_quiet (fail)
  go_wp2
  go_ret
  exact⟨rfl,H.out.drewN _,zas (zaf _ _) _⟩
end
def zdO (f:Nat) (w:World):Int:=intOf ((w.cell? ⟨f,4,none⟩).getD (.bool false))
theorem zco {F:FeedC} {B f p:Nat} {left tag:Int} {w:World} (h:Fd F B f p left tag w):zdO f w=left:=by
 unfold zdO
 rw[h.c4]
 rfl
def tagOf (f:Nat) (w:World):Int:=intOf ((w.cell? ⟨f,5,none⟩).getD (.bool false))
theorem zbX {F:FeedC} {B f p:Nat} {left tag:Int} {w:World} (h:Fd F B f p left tag w):tagOf f w=tag:=by
 unfold tagOf
 rw[h.c5]
 rfl
abbrev cGH0:List (ByteArray×Nat):=[({data:=#[103]},1),({data:=#[104]},2)]
theorem zaS {f:Nat} {w:World} {left:Int} {n:Nat} (h:left≤zdO f w) (e:n=0):left+(n:Int)≤zdO f w:=by subst e;simpa using h
structure MidS (F:FeedC) (B f:Nat) (w:World) (X:Nat) (c:Nat→Value) (q:Nat) (left tag:Int) (v:World):Prop where
 lt:w.heap.size < X
 hB:B≤w.heap.size
 hf:f < B
 hX:v.heap[X]?=some (.cells #[c 0,c 1,c 2,c 3,c 4,c 5,c 6] 66 (0,0))
 hR:v.heap[w.heap.size]?=some (.cells zS 66 (0,0))
 fd:Fd F B f q left tag v
 gr:w.grownBy v (some f)
 lo:left≤zdO f w
def upd (c:Nat→Value) (k:Nat) (u:Value):Nat→Value:=fun i=>if i=k then u else c i
def Three (f R X:Nat) (b:Nat):Prop:=b=f∨b=R∨b=X
section
variable {F:FeedC} {B f X:Nat} {c:Nat→Value} {q:Nat} {left tag:Int} {w v:World}
theorem MidS.xlt (h:MidS F B f w X c q left tag v):X < v.heap.size:=lt_of_block h.hX
theorem MidS.alloc (h:MidS F B f w X c q left tag v) (o:Obj):MidS F B f w X c q left tag (v.alloc o):=⟨h.lt,h.hB,h.hf,zai _ h.hX,zai _ h.hR,h.fd.alloc _,zad h.gr _,h.lo⟩
theorem MidS.drew (h:MidS F B f w X c q left tag v):MidS F B f w X c q left tag v.drew:=⟨h.lt,h.hB,h.hf,h.hX,h.hR,h.fd.drew,zal h.gr,h.lo⟩
theorem MidS.drewN (h:MidS F B f w X c q left tag v) (n:Nat):MidS F B f w X c q left tag (v.drewN n):=⟨h.lt,h.hB,h.hf,h.hX,h.hR,h.fd.drewN _,zas h.gr _,h.lo⟩
theorem MidS.set (h:MidS F B f w X c q left tag v) {k:Nat} (hk:k < 7) (u:Value):MidS F B f w X (upd c k u) q left tag (v.setCell ⟨X,k,none⟩ u):=by
 have hne:w.heap.size≠X:=by have:=h.lt;omega
 refine⟨h.lt,h.hB,h.hf,?_,(Below.heap_setCell _ _ _ _ hne).trans h.hR,h.fd.far (by have:=h.hB;have:=h.lt;omega) _ _,zag h.gr (Nat.le_of_lt h.lt) _ _,h.lo⟩
 rw[zaH u h.hX]
 match k,hk with
 | 0,_=>rfl
 | 1,_=>rfl
 | 2,_=>rfl
 | 3,_=>rfl
 | 4,_=>rfl
 | 5,_=>rfl
 | 6,_=>rfl
theorem MidS.call (h:MidS F B f w X c q left tag v) {v':World} {q':Nat} {l' t':Int} (hd:Fd F B f q' l' t' v') (hg:v.grownBy v' (some f)) (hl:l'≤left):MidS F B f w X c q' l' t' v':=
 ⟨h.lt,h.hB,h.hf,(hg.block X h.xlt (by have:=h.lt;have:=h.hB;have:=h.hf;simp;omega)).trans h.hX,(hg.block _ (lt_of_block h.hR) (by have:=h.hB;have:=h.hf;simp;omega)).trans h.hR,hd,zaa h.gr hg,Int.le_trans hl h.lo⟩
theorem MidS.three (h:MidS F B f w X c q left tag v) {A:Nat} (hA:X < A):∀b,A≤b→¬Three f w.heap.size X b:=fun b hb h1=>by
 have:=h.lt;have:=h.hB;have:=h.hf;unfold Three at h1;omega
theorem MidS.expr (h:MidS F B f w X c q left tag v) (d:Nat) (hd:d≤9):Calls Tryz.prog 134 #[.pointer (some ⟨f,0,none⟩),.int .i64 d] v (fun e v'=>∃(T:ET) (q':Nat),e=.returned (.agg #[.int .i64 T.kind,.string T.op,.int .i64 T.n,.string T.name,.slice T.kaddr T.kids.length T.kcap])∧GE F.ns F.ms d T∧T.In v' v.heap.size∧X < v.heap.size∧MidS F B f w X c q' left tag v'∧KeptP (Three f w.heap.size X) v v'):=by
 refine(feedE_any d hd q v h.fd).mono ?_
 rintro e v' ⟨T,q',he,hT,hin,h2,hg⟩
 rw[ET.val_is] at he
 exact⟨T,q',he,hT,hin,h.xlt,h.call h2 hg (Int.le_refl _),(KeptP.refl _ _).grown (Or.inl rfl) hg⟩
end
def StPost (F:FeedC) (B f D:Nat) (loop:Bool) (w:World) (e:Ending) (w':World):Prop:=∃(S:ST) (q:Nat) (left tag:Int),e=.returned S.val∧GS F.ns F.ms cGH0 F.main loop (tagOf f w) tag D S∧S.In w' w.heap.size∧Fd F B f q left tag w'∧w.grownBy w' (some f)∧0≤left∧0≤tag∧tag+left≤24∧left+(nB S.rs:Nat)≤zdO f w
def SsPost (F:FeedC) (B f D m:Nat) (loop:Bool) (w:World) (e:Ending) (w':World):Prop:=∃(l:List ST) (a:Option Addr) (c q:Nat) (left tag:Int),e=.returned (.slice a l.length c)∧GL F.ns F.ms cGH0 F.main loop (tagOf f w) tag D l∧l.length≤m∧SsIn w' w.heap.size a 0 l∧Fd F B f q left tag w'∧w.grownBy w' (some f)∧0≤left∧0≤tag∧tag+left≤24∧left+(nSs (rss l):Nat)≤zdO f w∧l.length≤c
def Deeper (F:FeedC) (B f D:Nat):Prop:=∀(m:Nat),m≤14→∀(loop:Bool) (q:Nat) (left tag:Int),0≤left→0≤tag→tag+left≤24→∀v:World,Fd F B f q left tag v→Calls Tryz.prog 57 #[.pointer (some ⟨f,0,none⟩),.int .i64 D,.int .i64 m,.bool loop] v (SsPost F B f D m loop v)
theorem MidS.stmts {F:FeedC} {B f X:Nat} {c:Nat→Value} {q D:Nat} {left tag:Int} {w v:World} (h:MidS F B f w X c q left tag v) (H:Deeper F B f D) (h0:0≤left) (h1:0≤tag) (h2:tag+left≤24) (m:Nat) (hm:m≤14) (loop:Bool):Calls Tryz.prog 57 #[.pointer (some ⟨f,0,none⟩),.int .i64 D,.int .i64 m,.bool loop] v (fun e v'=>∃(l:List ST) (a:Option Addr) (k q':Nat) (left' tag':Int),e=.returned (.slice a l.length k)∧(GL F.ns F.ms cGH0 F.main loop tag tag' D l∧l.length≤m)∧SsIn v' v.heap.size a 0 l∧X < v.heap.size∧(0≤left'∧0≤tag'∧tag'+left'≤24∧left'+(nSs (rss l):Nat)≤left)∧MidS F B f w X c q' left' tag' v'∧KeptP (Three f w.heap.size X) v v'):=by
 refine(H m hm loop q left tag h0 h1 h2 v h.fd).mono ?_
 rintro e v' ⟨l,a,k,q',left',tag',he,hG,hm',hin,hfd,hg,b0,b1,b2,b3,-⟩
 rw[zco h.fd] at b3
 rw[zbX h.fd] at hG
 exact⟨l,a,k,q',left',tag',he,⟨hG,hm'⟩,hin,h.xlt,⟨b0,b1,b2,b3⟩,h.call hfd hg (by omega),(KeptP.refl _ _).grown (Or.inl rfl) hg⟩
theorem MidS.call_expr {F:FeedC} {B f X:Nat} {c:Nat→Value} {q:Nat} {left tag:Int} {w v:World} {Q:Ending→World→Prop} {e:Int} (d:Nat) (he:e=(d:Int)) (hd:d≤9) (h:MidS F B f w X c q left tag v)
  (k:∀(T:ET) (q':Nat) (v':World),GE F.ns F.ms d T→T.In v' v.heap.size→X < v.heap.size→MidS F B f w X c q' left tag v'→KeptP (Three f w.heap.size X) v v'→Q (.returned (.agg #[.int .i64 T.kind,.string T.op,.int .i64 T.n,.string T.name,.slice T.kaddr T.kids.length T.kcap])) v'):Calls Tryz.prog 134 #[.pointer (some ⟨f,0,none⟩),.int .i64 e] v Q:=by
 subst he
 refine(h.expr d hd).mono ?_
 rintro e v' ⟨T,q',rfl,h1,h2,h3,h4,h5⟩
 exact k T q' v' h1 h2 h3 h4 h5
theorem MidS.call_stmts {F:FeedC} {B f X:Nat} {c:Nat→Value} {q D:Nat} {left tag:Int} {w v:World} {Q:Ending→World→Prop} {e m':Int} (H:Deeper F B f D) (m:Nat) (he:e=(D:Int)) (hm':m'=(m:Int)) (hm:m≤14) (b:0≤left∧0≤tag∧tag+left≤24) (loop:Bool) (h:MidS F B f w X c q left tag v)
  (k:∀(l:List ST) (a:Option Addr) (k q':Nat) (left' tag':Int) (v':World),(GL F.ns F.ms cGH0 F.main loop tag tag' D l∧l.length≤m)→SsIn v' v.heap.size a 0 l→X < v.heap.size→(0≤left'∧0≤tag'∧tag'+left'≤24∧left'+(nSs (rss l):Nat)≤left)→MidS F B f w X c q' left' tag' v'→KeptP (Three f w.heap.size X) v v'→Q (.returned (.slice a l.length k)) v'):Calls Tryz.prog 57 #[.pointer (some ⟨f,0,none⟩),.int .i64 e,.int .i64 m',.bool loop] v Q:=by
 subst he
 subst hm'
 refine(h.stmts H b.1 b.2.1 b.2.2 m hm loop).mono ?_
 rintro e v' ⟨l,a,k',q',left',tag',rfl,h1,h2,h3,h4,h5,h6⟩
 exact k l a k' q' left' tag' v' h1 h2 h3 h4 h5 h6
def st0 (t:Int):Nat→Value
 | 0=>.int .i64 0
 | 1=>.int .i64 t
 | 2=>.string {data:=#[]}
 | 3=>.string {data:=#[]}
 | _=>.slice none 0 0
def seqAt (n:Nat):Code→Option (Code×Code)
 | .seq (.region m o d) r=>if m=n then some (.region m o d,r) else seqAt n r
 | .seq a b=>match seqAt n a with
  | some c=>some c
  | none=>seqAt n b
 | .block _ c=>seqAt n c
 | .loop c=>seqAt n c
 | .scope c=>seqAt n c
 | .cond _ a b=>match seqAt n a with
  | some c=>some c
  | none=>seqAt n b
 | _=>none
noncomputable def stHead:Code:=(((Tryz.f87.body.bind (seqAt 11)).getD (.skip,.skip)).1)
noncomputable def stRest:Code:=(((Tryz.f87.body.bind (seqAt 11)).getD (.skip,.skip)).2)
def zd8 (n:Nat):Code→Option Code
 | .seq (.region m o d) r=>if m=n then some (.seq (.region m o d) r) else zd8 n r
 | .seq a b=>match zd8 n a with
  | some c=>some c
  | none=>zd8 n b
 | .block _ c=>zd8 n c
 | .loop c=>zd8 n c
 | .scope c=>zd8 n c
 | .cond _ a b=>match zd8 n a with
  | some c=>some c
  | none=>zd8 n b
 | _=>none
noncomputable def stEnd:Code:=((Tryz.f87.body.bind (zd8 53)).getD .skip)
def Tail (F:FeedC) (B f D:Nat) (kk:Int) (loop:Bool) (dv v t tag' left:Int) (X q0:Nat):Prop:=
 ∀(w wc:World) (K K1:Act→World→Prop),(∀a w',Code.wp Tryz.prog stEnd (bodyPost Tryz.prog Tryz.f87 (StPost F B f D loop w)) a w'→K1 a w')→(∀a w',Code.wp Tryz.prog stRest (Exit.then K1 (bodyPost Tryz.prog Tryz.f87 (StPost F B f D loop w))) a w'→K a w')→Hid (((0≤t∧t≤24)∧TagM F.main t (tagOf f w) tag')∧0≤tag'∧tag'+left≤24∧0≤left)→Hid (MidS F B f w X (st0 t) q0 left tag' wc)→∀{j3 j4 j5 j10 j11 j12 j13 j14 j15 j16 j17 j18 j19 j20 j21 j22 j23 j24 j25 j26 j27 j28 j29 j30 j31 j32 j33 j34 j35 j36 j37 j38 j39 j40 j41 j42 j43 j44 j45 j46 j47 j48 j49 j50 j51 j52 j53 j54 j55 j56 j57 j58 j59 j60 j61 j62 j63 j64 j65 j66 j67 j68 j69 j70 j71 j72 j73 j74 j75 j76 j77 j78 j79 j80 j81 j82 j83 j84 j85 j86 j87 j88 j89 j90 j91 j92 j93 j94 j95 j96 j97 j98 j99 j100 j101 j102 j103 j104 j105 j106 j107 j108 j109 j110 j111 j112 j113 j114 j115 j116 j117 j118 j119 j120 j121 j122 j123 j124 j125 j126 j127 j128 j129 j130 j131 j132 j133 j134 j135 j136 j137 j138 j139 j140 j141 j142 j143 j144 j145 j146 j147 j148 j149 j150 j151 j152 j153 j154 j155 j156 j157 j158 j159 j160 j161 j162 j163 j164 j165 j166 j167 j168 j169 j170 j171 j172 j173 j174 j175 j176 j177 j178 j179 j180 j181 j182 j183 j184 j185 j186 j187 j188 j189 j190 j191 j192 j193 j194 j195 j196 j197 j198 j199 j200 j201 j202 j203 j204 j205 j206 j207 j208 j209 j210 j211 j212 j213 j214 j215 j216 j217 j218:Value},Code.wp Tryz.prog stHead (Exit.then K (Exit.then K1 (bodyPost Tryz.prog Tryz.f87 (StPost F B f D loop w)))) ⟨#[.pointer (some ⟨f,0,none⟩),.int .i64 dv,.bool loop,j3,j4,j5,.pointer (some ⟨w.heap.size,0,none⟩),.int .i64 v,.int .i64 kk,.pointer (some ⟨X,0,none⟩),j10,j11,j12,j13,j14,j15,j16,j17,j18,j19,j20,j21,j22,j23,j24,j25,j26,j27,j28,j29,j30,j31,j32,j33,j34,j35,j36,j37,j38,j39,j40,j41,j42,j43,j44,j45,j46,j47,j48,j49,j50,j51,j52,j53,j54,j55,j56,j57,j58,j59,j60,j61,j62,j63,j64,j65,j66,j67,j68,j69,j70,j71,j72,j73,j74,j75,j76,j77,j78,j79,j80,j81,j82,j83,j84,j85,j86,j87,j88,j89,j90,j91,j92,j93,j94,j95,j96,j97,j98,j99,j100,j101,j102,j103,j104,j105,j106,j107,j108,j109,j110,j111,j112,j113,j114,j115,j116,j117,j118,j119,j120,j121,j122,j123,j124,j125,j126,j127,j128,j129,j130,j131,j132,j133,j134,j135,j136,j137,j138,j139,j140,j141,j142,j143,j144,j145,j146,j147,j148,j149,j150,j151,j152,j153,j154,j155,j156,j157,j158,j159,j160,j161,j162,j163,j164,j165,j166,j167,j168,j169,j170,j171,j172,j173,j174,j175,j176,j177,j178,j179,j180,j181,j182,j183,j184,j185,j186,j187,j188,j189,j190,j191,j192,j193,j194,j195,j196,j197,j198,j199,j200,j201,j202,j203,j204,j205,j206,j207,j208,j209,j210,j211,j212,j213,j214,j215,j216,j217,j218],[]⟩ wc
theorem zbi {F:FeedC} {B f:Nat} {t tag' left:Int} {X q0:Nat} {w wc:World} (h:MidS F B f w X (st0 t) q0 left tag' wc):
  f < w.heap.size∧(wc.cell? ⟨X,0,none⟩=some (.int .i64 0)∧wc.cell? ⟨X,1,none⟩=some (.int .i64 t)∧wc.cell? ⟨X,2,none⟩=some (.string {data:=#[]})∧wc.cell? ⟨X,3,none⟩=some (.string {data:=#[]})∧wc.cell? ⟨X,4,none⟩=some (.slice none 0 0)∧wc.cell? ⟨X,5,none⟩=some (.slice none 0 0)∧wc.cell? ⟨X,6,none⟩=some (.slice none 0 0)) ∧
  (∀k,wc.frozen? ⟨X,k,none⟩=false) ∧
  (wc.cell? ⟨w.heap.size,0,none⟩=some (.int .i64 0)∧wc.cell? ⟨w.heap.size,1,none⟩=some (.int .i64 0)∧wc.cell? ⟨w.heap.size,2,none⟩=some (.string {data:=#[]})∧wc.cell? ⟨w.heap.size,3,none⟩=some (.string {data:=#[]})∧wc.cell? ⟨w.heap.size,4,none⟩=some (.slice none 0 0)∧wc.cell? ⟨w.heap.size,5,none⟩=some (.slice none 0 0)∧wc.cell? ⟨w.heap.size,6,none⟩=some (.slice none 0 0)) ∧
  (∀k,wc.frozen? ⟨w.heap.size,k,none⟩=false)∧Hid (w.heap.size < X)∧X < wc.heap.size∧w.heap.size < wc.heap.size∧Hid (B≤X∧B≤w.heap.size)∧Hid (Three f w.heap.size X w.heap.size)∧Hid (Three f w.heap.size X X) ∧
  ¬w.heap.size=f∧¬X=w.heap.size∧¬w.heap.size=X∧¬X=f:=by
 have HB:f < w.heap.size:=by have:=h.hf;have:=h.hB;omega
 have hRX:w.heap.size < X:=h.lt
 have hX:wc.heap[X]?=some (.cells #[.int .i64 0,.int .i64 t,.string {data:=#[]},.string {data:=#[]},.slice none 0 0,.slice none 0 0,.slice none 0 0] 66 (0,0)):=h.hX
 exact⟨HB,zaR hX,fun k=>zac hX,zaR h.hR,fun k=>zac h.hR,hid hRX,lt_of_block hX,lt_of_block h.hR,hid ⟨by have:=h.hB;omega,h.hB⟩,hid (Or.inr (Or.inl rfl)),hid (Or.inr (Or.inr rfl)),by omega,by omega,by omega,by omega⟩
end Go.Proofs.YtljbbhhiiiepcaaGreatDoor
