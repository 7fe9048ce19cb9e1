/- Statements of the feed: however deep, within a loop or not. -/
import Derived.Test.YtljbbhhiiiepcaaGreatDoorTFeedH2
import Derived.Test.YtljbbhhiiiepcaaGreatDoorTProg3
import Derived.Lib.SmallJoins
set_option linter.unusedSimpArgs false
set_option linter.unusedVariables false
set_option maxHeartbeats 8000000
set_option maxRecDepth 100000
namespace Go.Proofs.YtljbbhhiiiepcaaGreatDoor
open Go Go.RowKit
open Go.Lib (hid)
abbrev sevV (S:ST):Array Value:=#[.int .i64 S.kind,.int .i64 S.tag,.string S.name,.string S.func,.slice S.ea S.en S.ec,.slice S.ba S.bn S.bc,.slice S.la S.ln S.lc]
theorem sev_one (S:ST):∀u∈(sevV S).toList,u.oneCell'=true:=by
 intro u hu
 simp at hu
 rcases hu with rfl | rfl | rfl | rfl | rfl | rfl | rfl<;>rfl
theorem zdp:(Tryz.prog.info? 66).map (fun i=>(i.zero,i.size,i.bytes))=some (some (.agg #[.int .i64 0,.int .i64 0,.string {data:=#[]},.string {data:=#[]},.slice none 0 0,.slice none 0 0,.slice none 0 0]),7,120):=by kernel_rfl
section
variable {F:FeedC} {B f:Nat} {loop:Bool}
theorem feedSt_any (D:Nat) (loop:Bool) (dv:Int) (p:Nat) (left tag:Int) (hl:0≤left) (ht:0≤tag) (htl:tag+left≤23) (hd:Depth F B f D dv) (w:World) (h:Fd F B f p left tag w):
  Calls Tryz.prog 87 #[.pointer (some ⟨f,0,none⟩),.int .i64 dv,.bool loop] w (StPost F B f D loop w):=by
 cases hm:F.main
 ·exact stmt_tag0 D loop dv p left tag hl ht htl hd w h hm
 ·by_cases hb:F.nv p < 128
  ·exact stmt_tag1 D loop dv p left tag hl ht htl hd w h hm hb
  ·exact stmt_tag2 D loop dv p left tag hl ht htl hd w h hm (by omega)
theorem Fd.own {q:Nat} {left tag:Int} {v v':World} (h:Fd F B f q left tag v) {r:Option Nat} (hg:v.grownBy v' r) (hr:∀k,r=some k→B≤k):Fd F B f q left tag v':=
 h.keep (Nat.le_trans h.size hg.size) fun b hb=>hg.block b (Nat.lt_of_lt_of_le hb h.size) (fun e=>by have:=hr b e.symm;omega)
theorem grown_own {w v v':World} {n r:Option Nat} (h:w.grownBy v n) (hg:v.grownBy v' r) (hr:∀k,r=some k→w.heap.size≤k):w.grownBy v' n:=
 ⟨hg.os.trans h.os,hg.tape.trans h.tape,hg.output.trans h.output,Nat.le_trans h.size hg.size,fun i hi hn=>(hg.block i (Nat.lt_of_lt_of_le hi h.size) (fun e=>by have:=hr i e.symm;omega)).trans (h.block i hi hn)⟩
structure Row (F:FeedC) (B f D:Nat) (loop:Bool) (w:World) (v:Value) (l:List ST) (q:Nat) (left tag u:Int) (wr:World):Prop where
 made:MadeL w.heap.size v l wr
 gl:GL F.ns F.ms cGH0 F.main loop (tagOf f w) u D l
 fd:Fd F B f q left tag wr
 gr:w.grownBy wr (some f)
 b:0≤left∧0≤tag∧tag+left≤24∧left+(nSs (rss l):Nat)≤zdO f w
 hf:f < w.heap.size
 hB:B≤w.heap.size
theorem Row.call {D:Nat} {w wr W:World} {v:Value} {l:List ST} {q:Nat} {left tag:Int} {Q:Ending→World→Prop} (loop:Bool) (h:Row F B f D loop w v l q left tag tag wr) (hd:Depth F B f D D) (hp:0 < left) (hW:wr.grownBy W (some f)) (hfd:Fd F B f q (left - 1) tag W)
  (k:∀(S:ST) (q':Nat) (left' tag':Int) (w2:World),(GS F.ns F.ms cGH0 F.main loop tag tag' D S∧left'+(nSs (rss (l++[S])):Nat)≤zdO f w)→S.In w2 W.heap.size→w.heap.size≤W.heap.size→(∀k,v.ownBlock=some k→k < W.heap.size)→Row F B f D loop w v l q' left' tag' tag w2→Q (.returned (.agg #[.int .i64 S.kind,.int .i64 S.tag,.string S.name,.string S.func,.slice S.ea S.en S.ec,.slice S.ba S.bn S.bc,.slice S.la S.ln S.lc])) w2):
  Calls Tryz.prog 87 #[.pointer (some ⟨f,0,none⟩),.int .i64 D,.bool loop] W Q:=by
 refine(feedSt_any D loop D q (left - 1) tag (by omega) h.b.2.1 (by have:=h.b;omega) hd W hfd).mono ?_
 rintro e w2 ⟨S,q',left',tag',rfl,hS,hin,h2,hg2,b0,b1,b2,b3⟩
 rw[ST.val_eq]
 rw[zco hfd] at b3
 rw[zbX hfd] at hS
 have hc:=h.b.2.2.2
 have hn:nSs (rss (l++[S]))=nSs (rss l)+(1+nB S.rs):=by rw[zd7,nSs_append,nSs,nSs];omega
 exact k S q' left' tag' w2 ⟨hS,by rw[hn];omega⟩ hin (Nat.le_trans h.gr.size hW.size) (fun k hk=>Nat.lt_of_lt_of_le (h.made.1.lt k hk).2 hW.size) ⟨(h.made.grown hW h.hf).grown hg2 h.hf,h.gl,h2,zaa (zaa h.gr hW) hg2,⟨b0,b1,b2,by omega⟩,h.hf,h.hB⟩
theorem Row.snoc {D A:Nat} {w w2 w3:World} {v v':Value} {l:List ST} {S:ST} {q:Nat} {left tag u:Int} (h:Row F B f D loop w v l q left tag u w2) (hS:GS F.ns F.ms cGH0 F.main loop u tag D S∧left+(nSs (rss (l++[S])):Nat)≤zdO f w) (hin:S.In w2 A) (hA:w.heap.size≤A) (hv:∀k,v.ownBlock=some k→k < A)
  (hown:w3.ownsRow w.heap.size 66 7 v' (l.length+1) ((l.flatMap fun S=>S.cells.toList)++(sevV S).toList)) (hg:(w2.alloc (.cells (sevV S) 66)).grownBy w3 v.ownBlock) (hat:v'.ownBlock=v.ownBlock∨v'.ownBlock=some (w2.alloc (.cells (sevV S) 66)).heap.size):Row F B f D loop w v' (l++[S]) q left tag tag w3:=by
 have hr:∀k,v.ownBlock=some k→w.heap.size≤k:=fun k hk=>(h.made.1.lt k hk).1
 rw[show sevV S=S.cells from(ST.cells_eq S).symm] at hown
 exact⟨(h.made.alloc _).snoc (hin.on ((Below.refl _ _).alloc (Nat.le_refl _) _)) hA hv hown hg hat,gl_snoc h.gl hS.1,(h.fd.alloc _).own hg (fun k hk=>Nat.le_trans h.hB (hr k hk)),grown_own (zad h.gr _) hg hr,⟨h.b.1,h.b.2.1,h.b.2.2.1,hS.2⟩,h.hf,h.hB⟩
theorem Row.drewN {D:Nat} {w wr:World} {v:Value} {l:List ST} {q:Nat} {left tag u:Int} (h:Row F B f D loop w v l q left tag u wr) (n:Nat):Row F B f D loop w v l q left tag u (wr.drewN n):=
 ⟨h.made.grown (zas (zaf _ _) n) h.hf,h.gl,h.fd.drewN _,zas h.gr _,h.b,h.hf,h.hB⟩
theorem Row.post {D m:Nat} {w wr:World} {v:Value} {l:List ST} {q:Nat} {left tag:Int} (h:Row F B f D loop w v l q left tag tag wr) (hl:l.length≤m):SsPost F B f D m loop w (.returned v) wr:=by
 obtain⟨a,c,rfl,hss,hc⟩:=h.made.ss
 exact⟨l,a,c,q,left,tag,rfl,h.gl,hl,hss,h.fd,h.gr,h.b.1,h.b.2.1,h.b.2.2.1,h.b.2.2.2,hc⟩
theorem feedSs_of (D:Nat) (hd:Depth F B f D D):Deeper F B f D:=by
 intro m hm loop q left tag h0 h1 h2 w h
 have hR:Row F B f D loop w (.slice none 0 0) [] q left tag tag w:=⟨made_nil _ _,by rw[zbX h];exact gl_nil _,h,zaf _ _,⟨h0,h1,h2,by rw[rss,nSs,zco h];simp⟩,by have:=h.lt;have:=h.size;omega,h.size⟩
 have HD:=hid hd
 obtain⟨ei,hi,hz0,hz1,hz2⟩:=info_parts zdp
 have HR0:=hid hR
 clear hR hd h
 go_enter Tryz.func57,Tryz.ntmps57
 go_wp2
 go_loopw [9,10] (fun v i wr=>∃(l:List ST) (q:Nat) (left tag:Int),i=.int .i64 l.length∧l.length≤m∧Row F B f D loop w v l q left tag tag wr) (fun _ i _=>m - (intOf i).toNat)
 case atStart=>exact⟨[],q,left,tag,rfl,Nat.zero_le _,HR0.out⟩
 case round =>
  clear HR0 h0 h1 h2
  obtain⟨l,q,left,tag,rfl,hk,hrow⟩:=hrel
  have c0:=hrow.fd.c0
  have c1:=hrow.fd.c1
  have c4:=hrow.fd.c4
  have f4:=hrow.fd.f1 4
  have hb:=hrow.b
  have HB:=hid hrow
  obtain⟨k,hlk⟩:∃k,l.length=k:=⟨_,rfl⟩
  have HL:=hid hlk
  rw[hlk] at hk ⊢
  clear hrow hlk
  by_cases g1:k < m
  ·have e1:decide (k < m)=true:=by simpa using g1
   have e1':decide ((k:Int) < m)=true:=by simp;omega
   by_cases g2:0 < left
   ·have e2:decide (0 < left)=true:=by simpa using g2
    by_cases g3:q < F.len
    ·have e3:decide (q < F.len)=true:=by simpa using g3
     have e3':decide ((q:Int) < F.len)=true:=by simp;omega
     have wl:IntKind.i64.wrap (left - 1)=left - 1:=IntWalk.i64_in _ (by omega)
     go_wp2
     go_quiet (fail)
     go_wp2_with
      (first
       | (at_builtin;refine wpList_append_own_at _ rfl _ _ 45 rfl w.heap.size 66 ei _ 7 120 Tryz.underlying45 hi hz0 hz1 hz2 rfl (by decide) _ l.length _ rfl (HR2.out.made.1.alloc _) ⟨w2.heap.size,0,none⟩ 1 1 (sevV S).toList rfl rfl (World.news_of_block (zaj w2 (.cells (sevV S) 66))) (sev_one S) (by have:=HL.out;unfold maxLen;omega) (by have:=HL.out;omega) (by have:=HR2.out.gr.size;simp;omega) ?_;intro v' w3 hown hgrow hnil hat;have HR3:=hid (HR2.out.snoc HS.out.1 HS.out.2.1 HS.out.2.2.1 HS.out.2.2.2 hown hgrow hat);clear hown hgrow hnil hat)
       | (go_at_call 87;refine HB.out.call loop HD.out g2 ?_ ?_ ?_;(have h0:=zaf wr (some f);(repeat (first | with_reducible exact h0 | with_reducible refine zat ?_ _ _ | with_reducible refine zas ?_ _ | with_reducible refine zal ?_)));(refine Fd.setl (left:=left) ?_ _;(repeat (first | with_reducible exact HB.out.fd | with_reducible refine Fd.drewN ?_ _ | with_reducible refine Fd.drew ?_)));intro S q2 left2 tag2 w2 hS hin hA hv hr2;have HR2:=hid hr2;have HS:=hid (And.intro hS (And.intro hin (And.intro hA hv)));clear hr2 hS hin hA hv))
     go_round
     case rel=>exact⟨l++[S],q2,left2,tag2,by rw[List.length_append,HL.out];go_num,by rw[List.length_append,HL.out];simp;omega,HR3.out⟩
     case measure=>simp[intOf];omega
    ·have e3:decide (q < F.len)=false:=by simpa using g3
     have e3':decide ((q:Int) < F.len)=false:=by simp;omega
     go_wp2
     go_quiet (fail)
     go_wp2
     go_ret
     exact(HB.out.drewN _).post (by rw[HL.out];exact hk)
   ·have e2:decide (0 < left)=false:=by simpa using g2
    go_wp2
    go_quiet (fail)
    go_wp2
    go_ret
    exact(HB.out.drewN _).post (by rw[HL.out];exact hk)
  ·have e1:decide (k < m)=false:=by simpa using g1
   have e1':decide ((k:Int) < m)=false:=by simp;omega
   go_wp2
   go_quiet (fail)
   go_wp2
   go_ret
   exact(HB.out.drewN _).post (by rw[HL.out];exact hk)
theorem depth_zero:Depth F B f 0 (0:Nat):=Or.inl ⟨rfl,rfl⟩
theorem feedSs_any:∀(D:Nat),D≤9→Deeper F B f D
 | 0,_=>feedSs_of 0 depth_zero
 | D+1,h=>feedSs_of (D+1) (Or.inr ⟨D,rfl,by simp,by omega,feedSs_any D (by omega)⟩)
end
end Go.Proofs.YtljbbhhiiiepcaaGreatDoor
namespace Go.Proofs.YtljbbhhiiiepcaaGreatDoor
open Go Go.RowKit
open Go.Lib (hid)
theorem rowIn_drop {w:World} {a:Option Addr} {n c h:Nat} {zs:List Int} (r:RowIn .u8 w a n zs) (hc:n≤c) (hh:h≤n):RowIn .u8 w (if c=h then a else a.map fun x=>x.add h) (n - h) (zs.drop h):=by
 refine⟨by have:=r.1;omega,fun hp=>?_⟩
 obtain⟨b,off,rfl,hb,hc'⟩:=r.2 (by omega)
 rw[if_neg (by omega)]
 have e:∀k,(⟨b,off,none⟩:Addr).add k=⟨b,off+k,none⟩:=fun k=>by
  unfold Addr.add
  split
  ·rename_i h;subst h;rfl
  ·rfl
 refine⟨b,off+h,by simp[e],hb,fun i hi=>?_⟩
 have:=hc' (h+i) (by omega)
 rw[show off+h+i=off+(h+i) by omega,List.getD_eq_getElem?_getD,List.getElem?_drop,←List.getD_eq_getElem?_getD]
 exact this
abbrev fdV (la:Option Addr) (ln lc ia:Nat) (ns:List ByteArray) (xa:Nat) (ms:List ByteArray) (left:Int) (main:Bool):Array Value:=
 #[.slice la ln lc,.int .i64 0,.slice (some ⟨ia,0,none⟩) ns.length ns.length,.slice (some ⟨xa,0,none⟩) ms.length ms.length,.int .i64 left,.int .i64 0,.bool main]
abbrev nP:ByteArray:={data:=#[112]}
abbrev nQ:ByteArray:={data:=#[113]}
abbrev nR:ByteArray:={data:=#[114]}
abbrev nZs:ByteArray:={data:=#[122,115]}
abbrev nA:ByteArray:={data:=#[97]}
abbrev nBb:ByteArray:={data:=#[98]}
abbrev nC:ByteArray:={data:=#[99]}
abbrev nD:ByteArray:={data:=#[100]}
abbrev nXs:ByteArray:={data:=#[120,115]}
abbrev nYs:ByteArray:={data:=#[121,115]}
abbrev nG:ByteArray:={data:=#[103]}
abbrev nH:ByteArray:={data:=#[104]}
abbrev nMain:ByteArray:={data:=#[109,97,105,110]}
structure Laid (w v:World) (ia xa f:Nat) (la:Option Addr) (ln lc:Nat) (ns ms:List ByteArray) (left:Int) (main:Bool):Prop where
 b1:v.heap[ia]?=some (.cells (ns.map Value.string).toArray 9 (0,0))
 b2:v.heap[xa]?=some (.cells (ms.map Value.string).toArray 9 (0,0))
 b3:v.heap[f]?=some (.cells (fdV la ln lc ia ns xa ms left main) 119 (0,0))
 n1:ia≠f
 n2:xa≠f
 n3:w.heap.size≤f
theorem Laid.on {w v v':World} {ia xa f B:Nat} {la:Option Addr} {ln lc:Nat} {ns ms:List ByteArray} {left:Int} {main:Bool} (h:Laid w v ia xa f la ln lc ns ms left main) (hb:∀b,b < v.heap.size→b≠B→v'.heap[b]?=v.heap[b]?) (h1:ia≠B) (h2:xa≠B) (h3:f≠B):Laid w v' ia xa f la ln lc ns ms left main:=
 ⟨(hb _ (lt_of_block h.b1) h1).trans h.b1,(hb _ (lt_of_block h.b2) h2).trans h.b2,(hb _ (lt_of_block h.b3) h3).trans h.b3,h.n1,h.n2,h.n3⟩
theorem Laid.feed {w v:World} {ia xa f:Nat} {la:Option Addr} {ln lc:Nat} {ns ms:List ByteArray} {left:Int} {main:Bool} {zs:List Int} (h:Laid w v ia xa f la ln lc ns ms left main) (r:RowIn .u8 w la ln zs) (hb:Below w.heap.size w v) (c1:0 < ns.length∧ns.length≤10) (c2:0 < ms.length∧ms.length≤10) (c3:ns.all nmB=true) (c4:ms.all nmB=true):Fd ⟨la,ln,lc,zs,ia,ns,xa,ms,main⟩ v.heap.size f 0 left 0 v:=
 mk_feed r (fun b hb'=>hb.block b hb') h.b1 h.b2 h.b3 (lt_of_block h.b1) (lt_of_block h.b2) (lt_of_block h.b3) (Nat.le_refl _) h.n1 h.n2 h.n3 hb.size c1 c2 c3 c4
theorem Laid.call {w v:World} {ia xa f:Nat} {la:Option Addr} {ln lc:Nat} {ns ms:List ByteArray} {left:Int} {main:Bool} {zs:List Int} {Q:Ending→World→Prop} {e m':Int} (D m:Nat) (he:e=(D:Int)) (hm':m'=(m:Int)) (hD:D≤9) (hm:m≤14) (hl:0≤left∧left≤24)
  (c1:0 < ns.length∧ns.length≤10) (c2:0 < ms.length∧ms.length≤10) (c3:ns.all nmB=true) (c4:ms.all nmB=true) (r:RowIn .u8 w la ln zs) (h:Laid w v ia xa f la ln lc ns ms left main) (hb:Below w.heap.size w v) (loop:Bool)
  (k:∀(l:List ST) (a:Option Addr) (c:Nat) (v':World),(GL ns ms cGH0 main loop 0 ((tgSs l).length:Int) D l∧l.length≤m∧(nSs (rss l):Int)≤left∧l.length≤c)→SsIn v' v.heap.size a 0 l→v.grownBy v' (some f)→Below w.heap.size w v'→(∀b,b < v.heap.size→b≠f→v'.heap[b]?=v.heap[b]?)→Q (.returned (.slice a l.length c)) v'):
  Calls Tryz.prog 57 #[.pointer (some ⟨f,0,none⟩),.int .i64 e,.int .i64 m',.bool loop] v Q:=by
 subst he
 subst hm'
 refine(feedSs_any D hD m hm loop 0 left 0 hl.1 (Int.le_refl _) (by omega) v (h.feed r hb c1 c2 c3 c4)).mono ?_
 rintro e v' ⟨l,a,c,q',left',tag',rfl,h1,h2,h3,-,hg,b0,-,-,b3,b4⟩
 rw[zco (h.feed r hb c1 c2 c3 c4)] at b3
 rw[zbX (h.feed r hb c1 c2 c3 c4)] at h1
 obtain rfl:tag'=((tgSs l).length:Int):=by have:=h1.tag_is;omega
 refine k l a c v' ⟨h1,h2,by omega,b4⟩ h3 hg ?_ fun b hb1 hb2=>hg.block b hb1 (by simp;exact hb2)
 exact⟨hg.os.trans hb.os,hg.tape.trans hb.tape,hg.output.trans hb.output,Nat.le_trans hb.size hg.size,fun i hi=>(hg.block i (by have:=hb.size;omega) (by have:=h.n3;simp;omega)).trans (hb.block i hi)⟩
theorem Laid.alloc {w v:World} {ia xa f:Nat} {la:Option Addr} {ln lc:Nat} {ns ms:List ByteArray} {left:Int} {main:Bool} (h:Laid w v ia xa f la ln lc ns ms left main) (o:Obj):Laid w (v.alloc o) ia xa f la ln lc ns ms left main:=
 ⟨zai _ h.b1,zai _ h.b2,zai _ h.b3,h.n1,h.n2,h.n3⟩
theorem Laid.c1 {w v:World} {la:Option Addr} {ln lc:Nat} {zs:List Int} {Q:Ending→World→Prop} (r:RowIn .u8 w la ln zs) (h:Laid w v (w.heap.size+1) (w.heap.size+2) (w.heap.size+3) la ln lc [nP,nR] [nZs] 4 false) (hb:Below w.heap.size w v)
  (k:∀(l:List ST) (a:Option Addr) (c:Nat) (v':World),(GL [nP,nR] [nZs] cGH0 false false 0 ((tgSs l).length:Int) 1 l∧l.length≤4∧(nSs (rss l):Int)≤4∧l.length≤c)→SsIn v' v.heap.size a 0 l→v.grownBy v' (some (w.heap.size+3))→Below w.heap.size w v'→(∀b,b < v.heap.size→b≠w.heap.size+3→v'.heap[b]?=v.heap[b]?)→Q (.returned (.slice a l.length c)) v'):
  Calls Tryz.prog 57 #[.pointer (some ⟨w.heap.size+1+1+1,0,none⟩),.int .i64 1,.int .i64 4,.bool false] v Q:=
 Laid.call (w:=w) (f:=w.heap.size+3) (ns:=[nP,nR]) (ms:=[nZs]) (left:=4) (main:=false) 1 4 rfl rfl (by decide) (by decide) (by decide) (by decide) (by decide) rfl rfl r h hb false k
theorem Laid.c2 {w v:World} {la:Option Addr} {ln lc:Nat} {zs:List Int} {Q:Ending→World→Prop} (r:RowIn .u8 w la ln zs) (h:Laid w v (w.heap.size+4) (w.heap.size+5) (w.heap.size+6) la ln lc [nP,nQ] [nZs] 3 false) (hb:Below w.heap.size w v)
  (k:∀(l:List ST) (a:Option Addr) (c:Nat) (v':World),(GL [nP,nQ] [nZs] cGH0 false false 0 ((tgSs l).length:Int) 1 l∧l.length≤3∧(nSs (rss l):Int)≤3∧l.length≤c)→SsIn v' v.heap.size a 0 l→v.grownBy v' (some (w.heap.size+6))→Below w.heap.size w v'→(∀b,b < v.heap.size→b≠w.heap.size+6→v'.heap[b]?=v.heap[b]?)→Q (.returned (.slice a l.length c)) v'):
  Calls Tryz.prog 57 #[.pointer (some ⟨w.heap.size+6,0,none⟩),.int .i64 1,.int .i64 3,.bool false] v Q:=
 Laid.call (w:=w) (f:=w.heap.size+6) (ns:=[nP,nQ]) (ms:=[nZs]) (left:=3) (main:=false) 1 3 rfl rfl (by decide) (by decide) (by decide) (by decide) (by decide) rfl rfl r h hb false k
theorem Laid.c3 {w v:World} {la:Option Addr} {ln lc:Nat} {zs:List Int} {Q:Ending→World→Prop} (r:RowIn .u8 w la ln zs) (h:Laid w v (w.heap.size+7) (w.heap.size+8) (w.heap.size+9) la ln lc [nA,nBb,nC,nD] [nXs,nYs] 24 true) (hb:Below w.heap.size w v)
  (k:∀(l:List ST) (a:Option Addr) (c:Nat) (v':World),(GL [nA,nBb,nC,nD] [nXs,nYs] cGH0 true false 0 ((tgSs l).length:Int) 2 l∧l.length≤14∧(nSs (rss l):Int)≤24∧l.length≤c)→SsIn v' v.heap.size a 0 l→v.grownBy v' (some (w.heap.size+9))→Below w.heap.size w v'→(∀b,b < v.heap.size→b≠w.heap.size+9→v'.heap[b]?=v.heap[b]?)→Q (.returned (.slice a l.length c)) v'):
  Calls Tryz.prog 57 #[.pointer (some ⟨w.heap.size+9,0,none⟩),.int .i64 2,.int .i64 14,.bool false] v Q:=
 Laid.call (w:=w) (f:=w.heap.size+9) (ns:=[nA,nBb,nC,nD]) (ms:=[nXs,nYs]) (left:=24) (main:=true) 2 14 rfl rfl (by decide) (by decide) (by decide) (by decide) (by decide) rfl rfl r h hb false k
def FourM (w:World) (b:Nat):Prop:=b=w.heap.size+3∨b=w.heap.size+6∨b=w.heap.size+9∨b=w.heap.size
theorem ps_of {W:World} {B P:Nat} {ns:List ByteArray} {t:TypeId} {fr:Nat×Nat} (h:W.heap[P]?=some (.cells (ns.map Value.string).toArray t fr)) (hB:B≤P):∀(i:Nat) (hi:i < ns.length),StrAt W B (some ⟨P,0,none⟩) i ns[i]:=fun i hi=>by
 refine⟨P,0,rfl,hB,zab h ?_⟩
 rw[Nat.zero_add,List.getElem?_toArray,List.getElem?_map,List.getElem?_eq_getElem hi]
 rfl
theorem flat2:∀(l:List (ByteArray×Int)) (i j:Nat) (hi:i < l.length),j < 2→(l.flatMap fun d=>[Value.string d.1,.int .i64 d.2])[i*2+j]?=[Value.string l[i].1,.int .i64 l[i].2][j]?
 | d :: l,0,j,_,hj=>by
  rw[List.flatMap_cons,List.getElem?_append_left (by simp;omega)]
  simp
 | d :: l,i+1,j,hi,hj=>by
  rw[List.flatMap_cons,List.getElem?_append_right (by simp;omega)]
  rw[show(i+1)*2+j - [Value.string d.1,Value.int .i64 d.2].length=i*2+j by simp;omega]
  exact flat2 l i j (by simpa using hi) hj
theorem vs_of {W:World} {B V:Nat} {vs:List (ByteArray×Int)} {cs:Array Value} {t:TypeId} {fr:Nat×Nat} (h:W.heap[V]?=some (.cells cs t fr)) (hc:(vs.flatMap fun d=>[Value.string d.1,.int .i64 d.2])=cs.toList) (hB:B≤V):∀(i:Nat) (hi:i < vs.length),RowAt W B (some ⟨V,0,none⟩) i 2 #[.string vs[i].1,.int .i64 vs[i].2]:=fun i hi=>by
 refine⟨V,0,rfl,hB,fun j v hj=>zab h ?_⟩
 have hj2:j < 2:=by
  rcases Nat.lt_or_ge j 2 with h2 | h2
  ·exact h2
  ·rw[Array.getElem?_eq_none (by simpa using h2)] at hj;cases hj
 rw[show 0+i*2+j=i*2+j by omega,←Array.getElem?_toList,←hc,flat2 vs i j hi hj2]
 simpa using hj
theorem row_of {W:World} {B N i size:Nat} {cs al:Array Value} {t:TypeId} {fr:Nat×Nat} (h:W.heap[N]?=some (.cells al t fr)) (hB:B≤N) (hsub:∀(j:Nat) (v:Value),cs[j]?=some v→al[i*size+j]?=some v):RowAt W B (some ⟨N,0,none⟩) i size cs:=
 ⟨N,0,rfl,hB,fun j v hj=>zab h (by rw[show 0+i*size+j=i*size+j by omega];exact hsub j v hj)⟩
def Apart (w:World) (B N:Nat) (l:List FT):Prop:=(∃cs,w.heap[N]?=some (.cells cs 47 (0,0)))∧∀K∈l,K.In (hide (some N) w) B
def MadeP (w:World) (e:Ending) (w':World):Prop:=∃(N pa va pb vb vc:Nat) (l1 l2 l3:List ST) (a1 a2 a3:Option Addr) (c1 c2 c3:Nat),e=.returned (.agg #[.slice (some ⟨N,0,none⟩) 3 3]) ∧
 FsIn w' w.heap.size (some ⟨N,0,none⟩) [⟨nG,some ⟨pa,0,none⟩,1,[nP],some ⟨va,0,none⟩,2,[(nR,0),(nZs,2)],a1,c1,l1⟩,⟨nH,some ⟨pb,0,none⟩,2,[nP,nQ],some ⟨vb,0,none⟩,1,[(nZs,1)],a2,c2,l2⟩,⟨nMain,none,0,[],some ⟨vc,0,none⟩,6,[(nA,0),(nBb,0),(nC,0),(nD,0),(nXs,3),(nYs,5)],a3,c3,l3⟩] ∧
 (GL [nP,nR] [nZs] cGH0 false false 0 ((tgSs l1).length:Int) 1 l1∧l1.length≤4∧(nSs (rss l1):Int)≤4∧l1.length≤c1)∧(GL [nP,nQ] [nZs] cGH0 false false 0 ((tgSs l2).length:Int) 1 l2∧l2.length≤3∧(nSs (rss l2):Int)≤3∧l2.length≤c2)∧(GL [nA,nBb,nC,nD] [nXs,nYs] cGH0 true false 0 ((tgSs l3).length:Int) 2 l3∧l3.length≤14∧(nSs (rss l3):Int)≤24∧l3.length≤c3)∧Below w.heap.size w w' ∧
 Apart w' w.heap.size N [⟨nG,some ⟨pa,0,none⟩,1,[nP],some ⟨va,0,none⟩,2,[(nR,0),(nZs,2)],a1,c1,l1⟩,⟨nH,some ⟨pb,0,none⟩,2,[nP,nQ],some ⟨vb,0,none⟩,1,[(nZs,1)],a2,c2,l2⟩,⟨nMain,none,0,[],some ⟨vc,0,none⟩,6,[(nA,0),(nBb,0),(nC,0),(nD,0),(nXs,3),(nYs,5)],a3,c3,l3⟩]
theorem sub4 {a b c d:Value} {al:Array Value} {o:Nat} (h0:al[o]?=some a) (h1:al[o+1]?=some b) (h2:al[o+2]?=some c) (h3:al[o+3]?=some d) (j:Nat) (v:Value) (hj:(#[a,b,c,d]:Array Value)[j]?=some v):al[o+j]?=some v:=by
 match j,hj with
 | 0,hj=>simp at hj;subst hj;exact h0
 | 1,hj=>simp at hj;subst hj;exact h1
 | 2,hj=>simp at hj;subst hj;exact h2
 | 3,hj=>simp at hj;subst hj;exact h3
 | j+4,hj=>simp at hj
theorem small_of {vs:List (ByteArray×Int)} (h:vs.all (fun d=>decide (-9223372036854775808≤d.2∧d.2≤9223372036854775807))=true) (i:Nat) (hi:i < vs.length):-9223372036854775808≤vs[i].2∧vs[i].2≤9223372036854775807:=of_decide_eq_true (List.all_eq_true.1 h _ (List.getElem_mem hi))
theorem made_fs {w W:World} {pa va pb vb vc:Nat} {l1 l2 l3:List ST} {a1 a2 a3:Option Addr} {c1 c2 c3:Nat} {t2 t3:TypeId} {f2 f3 f4 f5 f6:Nat×Nat}
  (h1:W.heap[pa]?=some (.cells ([nP].map Value.string).toArray t2 f2)) (h2:W.heap[va]?=some (.cells #[.string nR,.int .i64 0,.string nZs,.int .i64 2] t3 f3)) (h3:W.heap[pb]?=some (.cells ([nP,nQ].map Value.string).toArray t2 f4)) (h4:W.heap[vb]?=some (.cells #[.string nZs,.int .i64 1] t3 f5))
  (h5:W.heap[vc]?=some (.cells #[.string nA,.int .i64 0,.string nBb,.int .i64 0,.string nC,.int .i64 0,.string nD,.int .i64 0,.string nXs,.int .i64 3,.string nYs,.int .i64 5] t3 f6))
  (s1:SsIn W w.heap.size a1 0 l1) (s2:SsIn W w.heap.size a2 0 l2) (s3:SsIn W w.heap.size a3 0 l3) (m1:l1.length≤14) (m2:l2.length≤14) (m3:l3.length≤14) (b1:w.heap.size≤pa) (b2:w.heap.size≤va) (b3:w.heap.size≤pb) (b4:w.heap.size≤vb) (b5:w.heap.size≤vc):
  ∀(i:Nat) (hi:i < ([⟨nG,some ⟨pa,0,none⟩,1,[nP],some ⟨va,0,none⟩,2,[(nR,0),(nZs,2)],a1,c1,l1⟩,⟨nH,some ⟨pb,0,none⟩,2,[nP,nQ],some ⟨vb,0,none⟩,1,[(nZs,1)],a2,c2,l2⟩,⟨nMain,none,0,[],some ⟨vc,0,none⟩,6,[(nA,0),(nBb,0),(nC,0),(nD,0),(nXs,3),(nYs,5)],a3,c3,l3⟩]:List FT).length),([⟨nG,some ⟨pa,0,none⟩,1,[nP],some ⟨va,0,none⟩,2,[(nR,0),(nZs,2)],a1,c1,l1⟩,⟨nH,some ⟨pb,0,none⟩,2,[nP,nQ],some ⟨vb,0,none⟩,1,[(nZs,1)],a2,c2,l2⟩,⟨nMain,none,0,[],some ⟨vc,0,none⟩,6,[(nA,0),(nBb,0),(nC,0),(nD,0),(nXs,3),(nYs,5)],a3,c3,l3⟩]:List FT)[i].In W w.heap.size:=by
 intro i hi
 match i,hi with
 | 0,_=>exact⟨by simp,by simp,by show l1.length≤_;omega,ps_of h1 b1,vs_of h2 rfl b2,small_of (vs:=[(nR,0),(nZs,2)]) (by decide),s1⟩
 | 1,_=>exact⟨by simp,by simp,by show l2.length≤_;omega,ps_of h3 b3,vs_of h4 rfl b4,small_of (vs:=[(nZs,1)]) (by decide),s2⟩
 | 2,_=>exact⟨by simp,by simp,by show l3.length≤_;omega,fun i hi=>by simp at hi,vs_of h5 rfl b5,small_of (vs:=[(nA,0),(nBb,0),(nC,0),(nD,0),(nXs,3),(nYs,5)]) (by decide),s3⟩
 | i+3,hi=>exact absurd hi (by show ¬(i+3 < 3);omega)
theorem made_in {w W:World} {N pa va pb vb vc:Nat} {l1 l2 l3:List ST} {a1 a2 a3:Option Addr} {c1 c2 c3:Nat} {t1 t2 t3:TypeId} {f1 f2 f3 f4 f5 f6:Nat×Nat}
  (hN:W.heap[N]?=some (.cells #[.string nG,.slice (some ⟨pa,0,none⟩) 1 1,.slice (some ⟨va,0,none⟩) 2 2,.slice a1 l1.length c1,.string nH,.slice (some ⟨pb,0,none⟩) 2 2,.slice (some ⟨vb,0,none⟩) 1 1,.slice a2 l2.length c2,.string nMain,.slice none 0 0,.slice (some ⟨vc,0,none⟩) 6 6,.slice a3 l3.length c3] t1 f1))
  (h1:W.heap[pa]?=some (.cells ([nP].map Value.string).toArray t2 f2)) (h2:W.heap[va]?=some (.cells #[.string nR,.int .i64 0,.string nZs,.int .i64 2] t3 f3)) (h3:W.heap[pb]?=some (.cells ([nP,nQ].map Value.string).toArray t2 f4)) (h4:W.heap[vb]?=some (.cells #[.string nZs,.int .i64 1] t3 f5))
  (h5:W.heap[vc]?=some (.cells #[.string nA,.int .i64 0,.string nBb,.int .i64 0,.string nC,.int .i64 0,.string nD,.int .i64 0,.string nXs,.int .i64 3,.string nYs,.int .i64 5] t3 f6))
  (s1:SsIn W w.heap.size a1 0 l1) (s2:SsIn W w.heap.size a2 0 l2) (s3:SsIn W w.heap.size a3 0 l3) (m1:l1.length≤14) (m2:l2.length≤14) (m3:l3.length≤14) (b0:w.heap.size≤N) (b1:w.heap.size≤pa) (b2:w.heap.size≤va) (b3:w.heap.size≤pb) (b4:w.heap.size≤vb) (b5:w.heap.size≤vc):
  FsIn W w.heap.size (some ⟨N,0,none⟩) [⟨nG,some ⟨pa,0,none⟩,1,[nP],some ⟨va,0,none⟩,2,[(nR,0),(nZs,2)],a1,c1,l1⟩,⟨nH,some ⟨pb,0,none⟩,2,[nP,nQ],some ⟨vb,0,none⟩,1,[(nZs,1)],a2,c2,l2⟩,⟨nMain,none,0,[],some ⟨vc,0,none⟩,6,[(nA,0),(nBb,0),(nC,0),(nD,0),(nXs,3),(nYs,5)],a3,c3,l3⟩]:=by
 refine⟨by simp,fun i hi=>?_,fun i hi=>?_⟩
 ·match i,hi with
  | 0,_=>exact row_of hN b0 (sub4 rfl rfl rfl rfl)
  | 1,_=>exact row_of hN b0 (sub4 rfl rfl rfl rfl)
  | 2,_=>exact row_of hN b0 (sub4 rfl rfl rfl rfl)
  | i+3,hi=>exact absurd hi (by show ¬(i+3 < 3);omega)
 ·exact made_fs h1 h2 h3 h4 h5 s1 s2 s3 m1 m2 m3 b1 b2 b3 b4 b5 i hi
theorem made_any {la ga:Option Addr} {ln gn lc gc:Nat} {zl zg:List Int} (w:World) (hl:RowIn .u8 w la ln zl) (hg:RowIn .u8 w ga gn zg) (hgc:gn≤gc):
  Calls Tryz.prog 27 #[.slice la ln lc,.slice ga gn gc] w (MadeP w):=by
 have HL:=hid hl
 have HG:=hid hg
 have hgm:=hg.1
 have h1':gn / 2≤gn:=by omega
 clear hl hg
 go_enter Tryz.func27,Tryz.ntmps27
 go_upto_region 2 with (fail)
 go_cut [6] (fun y wx=>y=.pointer (some ⟨w.heap.size+6,0,none⟩)∧wx.heap.size=w.heap.size+7∧Below w.heap.size w wx∧wx.heap[w.heap.size]?=some (.cells #[.slice none 0 0] 24 (0,0)) ∧
  Laid w wx (w.heap.size+1) (w.heap.size+2) (w.heap.size+3) ga gn gc [nP,nR] [nZs] 4 false∧∃a2 c2,RowIn .u8 w a2 (gn - gn / 2) (zg.drop (gn / 2))∧Laid w wx (w.heap.size+4) (w.heap.size+5) (w.heap.size+6) a2 (gn - gn / 2) c2 [nP,nQ] [nZs] 3 false)
 case first =>
  have hr:=rowIn_drop HG.out hgc h1'
  rcases Decidable.em (gc=gn / 2) with he | he
  ·rw[if_pos he] at hr
   obtain rfl:gn=0:=by omega
   obtain rfl:gc=0:=by omega
   have HR:=hid hr
   clear hr he
   go_wp2
   go_meet
   refine⟨rfl,by simp,?_,(by repeat (first | (refine zao _ ?_;simp;done) | refine zai _ ?_)),⟨(by repeat (first | (refine zao _ ?_;simp;done) | refine zai _ ?_)),(by repeat (first | (refine zao _ ?_;simp;done) | refine zai _ ?_)),(by repeat (first | (refine zao _ ?_;simp;done) | refine zai _ ?_)),by omega,by omega,by omega⟩,_,_,HR.out,⟨(by repeat (first | (refine zao _ ?_;simp;done) | refine zai _ ?_)),(by repeat (first | (refine zao _ ?_;simp;done) | refine zai _ ?_)),(by repeat (first | (refine zao _ ?_;simp;done) | refine zai _ ?_)),by omega,by omega,by omega⟩⟩
   repeat (first | exact Below.refl _ _ | refine Below.alloc ?_ (by simp<;>omega) _)
  ·rw[if_neg he] at hr
   have HR:=hid hr
   clear hr
   go_wp2
   go_meet
   refine⟨rfl,by simp,?_,(by repeat (first | (refine zao _ ?_;simp;done) | refine zai _ ?_)),⟨(by repeat (first | (refine zao _ ?_;simp;done) | refine zai _ ?_)),(by repeat (first | (refine zao _ ?_;simp;done) | refine zai _ ?_)),(by repeat (first | (refine zao _ ?_;simp;done) | refine zai _ ?_)),by omega,by omega,by omega⟩,_,_,HR.out,⟨(by repeat (first | (refine zao _ ?_;simp;done) | refine zai _ ?_)),(by repeat (first | (refine zao _ ?_;simp;done) | refine zai _ ?_)),(by repeat (first | (refine zao _ ?_;simp;done) | refine zai _ ?_)),by omega,by omega,by omega⟩⟩
   repeat (first | exact Below.refl _ _ | refine Below.alloc ?_ (by simp<;>omega) _)
 case rest =>
  obtain⟨rfl,hsz,hbel,hr0,hL1,a2,c2,hR2,hL2⟩:=hcut
  have HQ:=hid (And.intro hsz (And.intro hbel (And.intro hr0 (And.intro hL1 (And.intro hL2 hR2)))))
  clear hsz hbel hr0 hL1 hL2 hR2
  go_upto_region 3 with (fail)
  go_cut [7] (fun z wx=>z=.pointer (some ⟨w.heap.size+9,0,none⟩)∧wx.heap.size=w.heap.size+10∧Below w.heap.size w wx∧wx.heap[w.heap.size]?=some (.cells #[.slice none 0 0] 24 (0,0)) ∧
   Laid w wx (w.heap.size+1) (w.heap.size+2) (w.heap.size+3) ga gn gc [nP,nR] [nZs] 4 false∧Laid w wx (w.heap.size+4) (w.heap.size+5) (w.heap.size+6) a2 (gn - gn / 2) c2 [nP,nQ] [nZs] 3 false∧Laid w wx (w.heap.size+7) (w.heap.size+8) (w.heap.size+9) la ln lc [nA,nBb,nC,nD] [nXs,nYs] 24 true)
  case first =>
   go_wp2
   go_meet
   obtain⟨hsz,hbel,hr0,hL1,hL2,-⟩:=HQ.out
   refine⟨by simp[hsz],by simp[hsz],?_,zai _ (zai _ (zai _ hr0)),((hL1.alloc _).alloc _).alloc _,((hL2.alloc _).alloc _).alloc _,⟨?_,?_,?_,by omega,by omega,by omega⟩⟩
   ·exact((hbel.alloc hbel.size _).alloc (by simp;have:=hbel.size;omega) _).alloc (by simp;have:=hbel.size;omega) _
   ·exact zai _ (zai _ (zao _ (by simp[hsz])))
   ·exact zai _ (zao _ (by simp[hsz]))
   ·simp only[hsz]
    exact zao _ (by simp[hsz])
  case rest =>
   obtain⟨rfl,hsz,hbel,hr0,hL1,hL2,hL3⟩:=hcut
   have HRR:Hid (RowIn .u8 w a2 (gn - gn / 2) (zg.drop (gn / 2))):=hid HQ.out.2.2.2.2.2
   have HZ0:Hid (w.heap.size+10≤wc.heap.size):=hid (by omega)
   have HBL0:=hid hbel
   have HR0:=hid hr0
   have HL10:=hid hL1
   have HL20:=hid hL2
   have HL30:=hid hL3
   clear hsz hbel hr0 hL1 hL2 hL3 HQ
   go_wp2_with
    (first
     | (go_at_call 57;(with_reducible refine Laid.c3 (lc:=lc) HL.out ?_ ?_ ?_);(repeat (first | exact HL32.out | refine Laid.alloc ?_ _));(have hb0:=HBL2.out;(repeat (first | exact hb0 | refine Below.alloc ?_ (by have:=hb0.size;simp<;>omega) _)));intro l3 e3 f3 w4 hG3 hS3 hg3 hb3 hk3;have hK3:KeptP (FourM w) w3 w4:=KeptP.grown (by repeat (first | with_reducible exact KeptP.refl _ _ | with_reducible refine KeptP.alloc ?_ _)) (Or.inr (Or.inr (Or.inl rfl))) hg3;have hz3:w3.heap.size+1≤w4.heap.size:=(by have:=hg3.size;simpa using this);have hzz:w.heap.size+10≤w3.heap.size:=HZ2.out;have hr3:=(hk3 w.heap.size (by simp<;>omega) (by omega)).trans (show _=some (.cells #[.slice none 0 0] 24 (0,0)) from by repeat (first | exact HR2.out | refine zai _ ?_));have HV3:=hid ((hk3 w3.heap.size (by simp<;>omega) (by omega)).trans (show _=some (.cells #[.string nA,.int .i64 0,.string nBb,.int .i64 0,.string nC,.int .i64 0,.string nD,.int .i64 0,.string nXs,.int .i64 3,.string nYs,.int .i64 5] 76 (0,0)) from(by repeat (first | (refine zao _ ?_;simp;done) | refine zai _ ?_))));have HK3:=hid hK3;have HZ3:Hid (w.heap.size+10≤w4.heap.size):=hid (by omega);have HR3:=hid hr3;have HBL3:=hid hb3;have HG3:=hid (And.intro hG3 hS3);have x0:=zab (k:=0) hr3 rfl;have y0:=zac (k:=0) hr3;have hlt4:w.heap.size < w4.heap.size:=lt_of_block hr3;clear hK3 hz3 hzz hr3 hb3 hG3 hS3 hg3 hk3)
     | (go_at_call 57;(with_reducible refine Laid.c2 (lc:=c2) HRR.out ?_ ?_ ?_);(repeat (first | exact HL21.out | refine Laid.alloc ?_ _));(have hb0:=HBL1.out;(repeat (first | exact hb0 | refine Below.alloc ?_ (by have:=hb0.size;simp<;>omega) _)));intro l2 e2 f2 w3 hG2 hS2 hg2 hb2 hk2;have hK2:KeptP (FourM w) w2 w3:=KeptP.grown (by repeat (first | with_reducible exact KeptP.refl _ _ | with_reducible refine KeptP.alloc ?_ _)) (Or.inr (Or.inl rfl)) hg2;have hz2:w2.heap.size+2≤w3.heap.size:=(by have:=hg2.size;simpa using this);have hzz:w.heap.size+10≤w2.heap.size:=HZ1.out;have hr2:=(hk2 w.heap.size (by simp<;>omega) (by omega)).trans (show _=some (.cells #[.slice none 0 0] 24 (0,0)) from by repeat (first | exact HR1.out | refine zai _ ?_));have HP2:=hid ((hk2 w2.heap.size (by simp<;>omega) (by omega)).trans (show _=some (.cells ([nP,nQ].map Value.string).toArray 9 (0,0)) from(by repeat (first | (refine zao _ ?_;simp;done) | refine zai _ ?_))));have HV2:=hid ((hk2 (w2.heap.size+1) (by simp<;>omega) (by omega)).trans (show _=some (.cells #[.string nZs,.int .i64 1] 76 (0,0)) from(by repeat (first | (refine zao _ ?_;simp;done) | refine zai _ ?_))));have HL32:=hid (Laid.on ((HL31.out.alloc _).alloc _) hk2 (by omega) (by omega) (by omega));have HK2:=hid hK2;have HZ2:Hid (w.heap.size+10≤w3.heap.size):=hid (by omega);have HR2:=hid hr2;have HBL2:=hid hb2;have HG2:=hid (And.intro hG2 hS2);clear hK2 hz2 hzz hr2 hb2 hG2 hS2 hg2 hk2)
     | (go_at_call 57;(with_reducible refine Laid.c1 (lc:=gc) HG.out ?_ ?_ ?_);(repeat (first | exact HL10.out | refine Laid.alloc ?_ _));(have hb0:=HBL0.out;(repeat (first | exact hb0 | refine Below.alloc ?_ (by have:=hb0.size;simp<;>omega) _)));intro l1 e1 f1 w2 hG1 hS1 hg1 hb1 hk1;have hK1:KeptP (FourM w) wc w2:=KeptP.grown (by repeat (first | with_reducible exact KeptP.refl _ _ | with_reducible refine KeptP.alloc ?_ _)) (Or.inl rfl) hg1;have hz1:wc.heap.size+2≤w2.heap.size:=(by have:=hg1.size;simpa using this);have hzz:w.heap.size+10≤wc.heap.size:=HZ0.out;have hr1:=(hk1 w.heap.size (by simp<;>omega) (by omega)).trans (show _=some (.cells #[.slice none 0 0] 24 (0,0)) from by repeat (first | exact HR0.out | refine zai _ ?_));have HP1:=hid ((hk1 wc.heap.size (by simp<;>omega) (by omega)).trans (show _=some (.cells ([nP].map Value.string).toArray 9 (0,0)) from(by repeat (first | (refine zao _ ?_;simp;done) | refine zai _ ?_))));have HV1:=hid ((hk1 (wc.heap.size+1) (by simp<;>omega) (by omega)).trans (show _=some (.cells #[.string nR,.int .i64 0,.string nZs,.int .i64 2] 76 (0,0)) from(by repeat (first | (refine zao _ ?_;simp;done) | refine zai _ ?_))));have HL21:=hid (Laid.on ((HL20.out.alloc _).alloc _) hk1 (by omega) (by omega) (by omega));have HL31:=hid (Laid.on ((HL30.out.alloc _).alloc _) hk1 (by omega) (by omega) (by omega));have HK1:=hid hK1;have HZ1:Hid (w.heap.size+10≤w2.heap.size):=hid (by omega);have HR1:=hid hr1;have HBL1:=hid hb1;have HG1:=hid (And.intro hG1 hS1);clear hK1 hz1 hzz hr1 hb1 hG1 hS1 hg1 hk1))
   refine bodyPost_ret (v:=.agg #[.slice (some ⟨w4.heap.size,0,none⟩) 3 3]) (by simp[results,Tryz.results27,go_sem, *]) rfl ?_
   have n10:∀b,w.heap.size+10≤b→¬FourM w b:=fun b hb h=>by unfold FourM at h;omega
   have z0:=HZ0.out
   have z1:=HZ1.out
   have z2:=HZ2.out
   have z3:=HZ3.out
   have b3:=HBL3.out
   have key:∀W:World,KeptP (FourM w) w4 W→W.heap[w4.heap.size]?=some (.cells #[.string nG,.slice (some ⟨wc.heap.size,0,none⟩) 1 1,.slice (some ⟨wc.heap.size+1,0,none⟩) 2 2,.slice e1 l1.length f1,.string nH,.slice (some ⟨w2.heap.size,0,none⟩) 2 2,.slice (some ⟨w2.heap.size+1,0,none⟩) 1 1,.slice e2 l2.length f2,.string nMain,.slice none 0 0,.slice (some ⟨w3.heap.size,0,none⟩) 6 6,.slice e3 l3.length f3] 47 (0,0))→MadeP w (.returned (.agg #[.slice (some ⟨w4.heap.size,0,none⟩) 3 3])) W:=by
    intro W hW hN
    have k2:=HK3.out.trans hW
    have k1:=HK2.out.trans k2
    have s1:=(k1.ss (fun b hb=>n10 b (by simp at hb;omega)) HG1.out.2).mono (B':=w.heap.size) (by simp;omega)
    have s2:=(k2.ss (fun b hb=>n10 b (by simp at hb;omega)) HG2.out.2).mono (B':=w.heap.size) (by simp;omega)
    have s3:=(hW.ss (fun b hb=>n10 b (by simp at hb;omega)) HG3.out.2).mono (B':=w.heap.size) (by simp;omega)
    have m1:=HG1.out.1.2.1
    have m2:=HG2.out.1.2.1
    have m3:=HG3.out.1.2.1
    refine⟨w4.heap.size,wc.heap.size,wc.heap.size+1,w2.heap.size,w2.heap.size+1,w3.heap.size,l1,l2,l3,e1,e2,e3,f1,f2,f3,rfl,?_,HG1.out.1,HG2.out.1,HG3.out.1,?_,?_⟩
    ·exact made_in hN ((k1.block _ (lt_of_block HP1.out) (n10 _ (by omega))).trans HP1.out) ((k1.block _ (lt_of_block HV1.out) (n10 _ (by omega))).trans HV1.out) ((k2.block _ (lt_of_block HP2.out) (n10 _ (by omega))).trans HP2.out) ((k2.block _ (lt_of_block HV2.out) (n10 _ (by omega))).trans HV2.out) ((hW.block _ (lt_of_block HV3.out) (n10 _ (by omega))).trans HV3.out) s1 s2 s3 (by omega) (by omega) (by omega) (by omega) (by omega) (by omega) (by omega) (by omega) (by omega)
    ·exact⟨hW.os.trans b3.os,hW.tape.trans b3.tape,hW.output.trans b3.output,Nat.le_trans b3.size hW.size,fun k hk=>(hW.block k (by omega) (fun h=>by unfold FourM at h;omega)).trans (b3.block k hk)⟩
    ·have hh:∀b,b < w4.heap.size→(hide (some w4.heap.size) W).heap[b]?=W.heap[b]?:=fun b hb=>by
      have hne:¬w4.heap.size=b:=by omega
      simp[hide,Array.getElem?_modify,hne]
     have hs:∀{v:World} {A:Nat} {q:Option Addr} {l:List ST},KeptP (FourM w) v W→v.heap.size≤w4.heap.size→(∀b,A≤b→¬FourM w b)→SsIn v A q 0 l→SsIn (hide (some w4.heap.size) W) A q 0 l:=fun hk hz hP h=>h.keep fun p u hp hc=>zav.2 ⟨fun e=>by
      have h1:=World.block_lt_of_cell? _ p hc
      simp only[Option.some.injEq] at e
      omega,hk.cell (hP _ hp) hc⟩
     have q2:=HK2.out.size
     have q3:=HK3.out.size
     have g1:=(hs k1 (by omega) (fun b hb=>n10 b (by simp at hb;omega)) HG1.out.2).mono (B':=w.heap.size) (by simp;omega)
     have g2:=(hs k2 (by omega) (fun b hb=>n10 b (by simp at hb;omega)) HG2.out.2).mono (B':=w.heap.size) (by simp;omega)
     have g3:=(hs hW (Nat.le_refl _) (fun b hb=>n10 b (by simp at hb;omega)) HG3.out.2).mono (B':=w.heap.size) (by simp;omega)
     have i1:=lt_of_block HP1.out
     have i2:=lt_of_block HV1.out
     have i3:=lt_of_block HP2.out
     have i4:=lt_of_block HV2.out
     have i5:=lt_of_block HV3.out
     refine⟨⟨_,hN⟩,fun K hK=>?_⟩
     obtain⟨i,hi,rfl⟩:=List.getElem_of_mem hK
     exact made_fs ((hh _ (by omega)).trans ((k1.block _ i1 (n10 _ (by omega))).trans HP1.out)) ((hh _ (by omega)).trans ((k1.block _ i2 (n10 _ (by omega))).trans HV1.out)) ((hh _ (by omega)).trans ((k2.block _ i3 (n10 _ (by omega))).trans HP2.out)) ((hh _ (by omega)).trans ((k2.block _ i4 (n10 _ (by omega))).trans HV2.out)) ((hh _ (by omega)).trans ((hW.block _ i5 (n10 _ (by omega))).trans HV3.out)) g1 g2 g3 (by omega) (by omega) (by omega) (by omega) (by omega) (by omega) (by omega) (by omega) i hi
   exact key _ (((KeptP.refl _ _).set (Or.inr (Or.inr (Or.inr rfl))) _ _).alloc _) (zao _ (by simp))
end Go.Proofs.YtljbbhhiiiepcaaGreatDoor
namespace Go.Proofs.YtljbbhhiiiepcaaGreatDoor
open Go Go.RowKit
open Go.Lib (hid)
theorem RowIn.on {k:IntKind} {w w':World} {a:Option Addr} {n:Nat} {zs:List Int} (r:RowIn k w a n zs) (h:Below w.heap.size w w'):RowIn k w' a n zs:=by
 refine⟨r.1,fun hp=>?_⟩
 obtain⟨b,off,e,hb,hc⟩:=r.2 hp
 refine⟨b,off,e,Nat.lt_of_lt_of_le hb h.size,fun i hi=>⟨?_,(hc i hi).2⟩⟩
 rw[World.cell?_of_block (w:=w) (h.block b hb)]
 exact(hc i hi).1
theorem code_any {pa la ga:Option Addr} {pn pc ln gn lc gc:Nat} {zl zg:List Int} (w:World) (hl:RowIn .u8 w la ln zl) (hg:RowIn .u8 w ga gn zg) (hgc:gn≤gc):
  Calls Tryz.prog 9 #[.agg #[.slice pa pn pc,.bool true,.slice la ln lc,.slice ga gn gc]] w (MadeP w):=by
 have HL:=hid hl
 have HG:=hid hg
 clear hl hg
 go_enter Tryz.func9,Tryz.ntmps9
 go_upto_region 3 with (fail)
 go_wp2_with (go_at_call 27;refine(made_any _ (HL.out.on ?_) (HG.out.on ?_) hgc).mono ?_;(exact((Below.refl _ _).alloc (Nat.le_refl _) _).alloc (by simp) _);(exact((Below.refl _ _).alloc (Nat.le_refl _) _).alloc (by simp) _);rintro e w2 ⟨N,qa,va,pb,vb,vc,l1,l2,l3,a1,a2,a3,c1,c2,c3,rfl,hin,g1,g2,g3,hbel,hh⟩;have hr:w2.heap[w.heap.size+1]?=some (.cells #[.slice none 0 0] 24 (0,0)):=(hbel.block (w.heap.size+1) (by simp)).trans (zao _ (by simp));have x0:=zab (k:=0) hr rfl;have y0:=zac (k:=0) hr;have hlt:w.heap.size+1 < w2.heap.size:=lt_of_block hr;have HIN:=hid (And.intro hin (And.intro g1 (And.intro g2 (And.intro g3 (And.intro hbel hh)))));clear hin g1 g2 g3 hbel hh hr)
 refine bodyPost_ret (v:=.agg #[.slice (some ⟨N,0,none⟩) 3 3]) (by simp[results,Tryz.results9,go_sem, *]) rfl ?_
 obtain⟨hin,g1,g2,g3,hbel,hh⟩:=HIN.out
 have hs:=hbel.size
 simp at hs
 refine⟨N,qa,va,pb,vb,vc,l1,l2,l3,a1,a2,a3,c1,c2,c3,rfl,?_,g1,g2,g3,?_,?_,fun K hK=>?_⟩
 ·refine(hin.keep fun p v hp hc=>?_).mono (by simp;omega)
  rw[World.cell?_of_block (w:=w2) (Below.heap_setCell _ _ _ _ (by simp at hp;simp;omega))]
  exact hc
 ·exact(zan (((Below.refl _ _).alloc (Nat.le_refl _) _).alloc (by simp) _) hbel).setCell (by simp) _
 ·obtain⟨cs,hcs⟩:=hh.1
  have hN:(w.heap.size+1+1)≤N:=by obtain⟨b,o,e,hb,-⟩:=hin.row 0 (by simp);simp only[Option.some.injEq,Addr.mk.injEq] at e;rw[e.1];simpa using hb
  exact⟨cs,(Below.heap_setCell _ _ _ _ (by simp;omega)).trans hcs⟩
 ·refine((hh.2 K hK).keep fun p v hp hc=>?_).mono (by simp;omega)
  rw[zav] at hc ⊢
  refine⟨hc.1,?_⟩
  rw[World.cell?_of_block (w:=w2) (Below.heap_setCell _ _ _ _ (by simp at hp;simp;omega))]
  exact hc.2
end Go.Proofs.YtljbbhhiiiepcaaGreatDoor
namespace Go.Proofs.YtljbbhhiiiepcaaGreatDoor
open Go Go.RowKit
open Go.Lib (hid)
open Go.Lib (decDigits itoa)
open Go.Lib (hid)
def CodeIn (w:World) (v:Value):Prop:=∃(pa:Option Addr) (pn pc:Nat) (own:Bool) (la:Option Addr) (ln lc:Nat) (zl:List Int) (ga:Option Addr) (gn gc:Nat) (zg:List Int),
 v=.agg #[.slice pa pn pc,.bool own,.slice la ln lc,.slice ga gn gc]∧RowIn .u8 w la ln zl∧RowIn .u8 w ga gn zg∧gn≤gc
theorem row_open {H:Type} {enc:TypeId×Value→H} {P:Program} {W:World} {t e:TypeId} {n:Nat} {c:Value} {y:DataW H×List MemPlace} (ht:P.underlying t=some (.slice e)) (he:P.underlying e=some (.int .u8)) (h1:P.cellsOf e=1)
  (h:DataW.trod enc P W 0 (fun _=>true) true n t [c]=some y):∃a len cap zs,c=.slice a len cap∧RowIn .u8 W a len zs∧len≤cap:=by
 rcases Go.ChangeShapes.open_ints ht he h1 h with ⟨hcs,_⟩ | ⟨x,l,c',zs,hcs,_,hl,hm,hz,_,hcell,hwz⟩
 ·obtain rfl:=List.cons.inj hcs |>.1
  exact⟨none,0,0,[],rfl,rowIn_none,Nat.le_refl _⟩
 ·obtain rfl:=List.cons.inj hcs |>.1
  exact⟨some x,l,c',zs,rfl,rowIn_some hl hm (by simpa using hz) hcell hwz,hl⟩
theorem code_open {H:Type} {enc:TypeId×Value→H} {W:World} {v:Value} {d:DataW H} {p:List MemPlace} {b0:Nat} (hv:Value.okWide Tryz.prog W .any b0 27 v)
  (h:DataW.Trod enc Tryz.prog W 0 (fun _=>true) true 27 v d p):CodeIn W v:=by
 obtain⟨c0,c1,c2,c3,y0,y1,y2,y3,n,rfl,-,-,t0,t1,t2,t3⟩:=Go.Joins.open_agg4 Tryz.underlying27 (by kernel_rfl) (by kernel_rfl) hv h
 obtain⟨y,m,-,-,t00⟩:=Go.ChangeShapes.trod_struct1 Tryz.underlying24 t0
 obtain⟨pa,pn,pc,hp⟩:=Go.Joins.slice_form Tryz.underlying22 t00
 obtain⟨own,ho,-⟩:=DataW.trod_bool Tryz.underlying4 t1
 obtain⟨la,ln,lc,zl,rfl,rl,-⟩:=row_open Tryz.underlying25 Tryz.underlying5 (by kernel_rfl) t2
 obtain⟨ga,gn,gc,zg,rfl,rg,hg⟩:=row_open Tryz.underlying25 Tryz.underlying5 (by kernel_rfl) t3
 obtain rfl:=List.cons.inj ho |>.1
 obtain rfl:c0=.slice pa pn pc:=by
  have:[c0]=[.slice pa pn pc]:=hp
  exact(List.cons.inj this).1
 exact⟨pa,pn,pc,own,la,ln,lc,zl,ga,gn,gc,zg,rfl,rl,rg,hg⟩
end Go.Proofs.YtljbbhhiiiepcaaGreatDoor
