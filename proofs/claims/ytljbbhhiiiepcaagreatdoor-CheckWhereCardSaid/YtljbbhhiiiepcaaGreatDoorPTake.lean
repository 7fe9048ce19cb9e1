/- A parser in memory: its block, the words that it goes through; what a call of one of its rules comes to. -/
import Derived.Test.YtljbbhhiiiepcaaGreatDoorPUps
import Derived.Test.YtljbbhhiiiepcaaGreatDoorTMade
import Derived.Test.YtljbbhhiiiepcaaGreatDoorTRight2
set_option linter.unusedSimpArgs false
set_option linter.unusedVariables false
set_option maxHeartbeats 8000000
set_option maxRecDepth 100000
namespace Go.Proofs.YtljbbhhiiiepcaaGreatDoor.Pm
open Go Go.RowKit Go.Proofs.YtljbbhhiiiepcaaGreatDoor
open Go.Lib (hid)
structure PC where
 wa:Option Addr
 cap:Nat
 ws:List Tok
 z:Nat
def bs (l:List UInt8):ByteArray:=⟨l.toArray⟩
abbrev tokV (t:Tok):Array Value:=#[.int .i64 t.kind,.string (bs t.text),.int .u64 t.n,.int .i64 t.at']
structure Good (t:Tok):Prop where
 nm:t.kind=1→zaK t.text=true
 num:t.n≤9223372036854775808
 tg:t.kind=3→t.n≤1000000
 kd:t.kind≤5
 fl:t.kind≠4→za8 t.text=false∧za9 t.text=false
 sg:t.kind=4→t.text∈zaX
 pl:t.at'≤100000
def posOf (F:PC) (s:PS):Nat:=F.ws.length - s.ws.length
abbrev paV (F:PC) (s:PS):Array Value:=#[.slice F.wa F.ws.length F.cap,.int .i64 (posOf F s:Nat),.int .i64 (F.z:Nat),.int .i64 (s.sts:Nat),.int .i64 (s.op:Nat),.int .i64 (s.mo:Nat)]
structure Pa (F:PC) (B f:Nat) (s:PS) (w:World):Prop where
 lt:f < B
 le:B≤w.heap.size
 suf:s.ws=F.ws.drop (posOf F s)
 len:s.ws.length≤F.ws.length
 many:F.ws.length≤100000
 z:F.z≤100000
 good:∀t∈F.ws,Good t
 sts:s.sts≤400
 op:s.op≤40
 mo:s.mo≤40
 blk:w.heap[f]?=some (.cells (paV F s) 144 (0,0))
 row:∀(i:Nat) (hi:i < F.ws.length),∃b o,F.wa=some ⟨b,o,none⟩∧b < B∧b≠f∧∀j v,(tokV F.ws[i])[j]?=some v→w.cell? ⟨b,o+i*4+j,none⟩=some v
section
variable {F:PC} {B f:Nat} {s:PS} {w w':World}
theorem Pa.put (h:Pa F B f s w) (hg:w.grownBy w' (some f)) {s':PS} (h1:s'.ws=F.ws.drop (posOf F s')) (h2:s'.ws.length≤F.ws.length) (h3:s'.sts≤400) (h4:s'.op≤40) (h5:s'.mo≤40) (hb:w'.heap[f]?=some (.cells (paV F s') 144 (0,0))):Pa F B f s' w':=
 ⟨h.lt,Nat.le_trans h.le hg.size,h1,h2,h.many,h.z,h.good,h3,h4,h5,hb,fun i hi=>by
  obtain⟨b,o,e,hb,hf,hc⟩:=h.row i hi
  refine⟨b,o,e,hb,hf,fun j v hv=>?_⟩
  rw[World.cell?_of_block (w:=w) (hg.block b (Nat.lt_of_lt_of_le hb h.le) (by simp;exact hf))]
  exact hc j v hv⟩
theorem Pa.keep (h:Pa F B f s w) (hs:B≤w'.heap.size) (hk:∀b,b < B→w'.heap[b]?=w.heap[b]?):Pa F B f s w':=
 ⟨h.lt,hs,h.suf,h.len,h.many,h.z,h.good,h.sts,h.op,h.mo,(hk f h.lt).trans h.blk,fun i hi=>by
  obtain⟨b,o,e,hb,hf,hc⟩:=h.row i hi
  refine⟨b,o,e,hb,hf,fun j v hv=>?_⟩
  rw[World.cell?_of_block (w:=w) (hk b hb)]
  exact hc j v hv⟩
theorem Pa.on (h:Pa F B f s w) (hb:Below w.heap.size w w'):Pa F B f s w':=h.keep (Nat.le_trans h.le hb.size) fun b hb'=>hb.block b (Nat.lt_of_lt_of_le hb' h.le)
theorem Pa.alloc (h:Pa F B f s w) (o:Obj):Pa F B f s (w.alloc o):=h.on ((Below.refl _ _).alloc (Nat.le_refl _) _)
theorem Pa.drew (h:Pa F B f s w):Pa F B f s w.drew:=h.on (Below.refl _ _).drew
theorem Pa.drewN (h:Pa F B f s w) (n:Nat):Pa F B f s (w.drewN n):=h.on ⟨rfl,rfl,rfl,Nat.le_refl _,fun _ _=>rfl⟩
theorem Pa.far (h:Pa F B f s w) {R:Nat} (hR:B≤R) (k:Nat) (u:Value):Pa F B f s (w.setCell ⟨R,k,none⟩ u):=
 h.keep (by simp[World.setCell];exact h.le) fun b hb=>Below.heap_setCell _ _ _ _ (by show b≠R;omega)
theorem Pa.grownR (h:Pa F B f s w) {r:Option Nat} (hR:∀R,r=some R→B≤R) (hg:w.grownBy w' r):Pa F B f s w':=
 h.keep (Nat.le_trans h.le hg.size) fun b hb=>hg.block b (Nat.lt_of_lt_of_le hb h.le) fun e=>by have:=hR b e.symm;omega
theorem Pa.c0 (h:Pa F B f s w):w.cell? ⟨f,0,none⟩=some (.slice F.wa F.ws.length F.cap):=zab h.blk rfl
theorem Pa.c1 (h:Pa F B f s w):w.cell? ⟨f,1,none⟩=some (.int .i64 (posOf F s:Nat)):=zab h.blk rfl
theorem Pa.c2 (h:Pa F B f s w):w.cell? ⟨f,2,none⟩=some (.int .i64 (F.z:Nat)):=zab h.blk rfl
theorem Pa.c3 (h:Pa F B f s w):w.cell? ⟨f,3,none⟩=some (.int .i64 (s.sts:Nat)):=zab h.blk rfl
theorem Pa.c4 (h:Pa F B f s w):w.cell? ⟨f,4,none⟩=some (.int .i64 (s.op:Nat)):=zab h.blk rfl
theorem Pa.c5 (h:Pa F B f s w):w.cell? ⟨f,5,none⟩=some (.int .i64 (s.mo:Nat)):=zab h.blk rfl
theorem Pa.fr (h:Pa F B f s w) (k:Nat):w.frozen? ⟨f,k,none⟩=false:=zac h.blk
theorem Pa.flt (h:Pa F B f s w):f < w.heap.size:=Nat.lt_of_lt_of_le h.lt h.le
def aheadT (z:Nat) (s:PS) (k:Nat):Tok:=(s.ws.drop k).headD ⟨0,[],0,z⟩
theorem cur_is (z:Nat) (s:PS):cur z s=aheadT z s 0:=rfl
theorem nxt_is (z:Nat) (s:PS):nxt z s=aheadT z s 1:=by unfold nxt aheadT;rw[List.drop_one]
theorem Pa.tok (h:Pa F B f s w) {k:Nat} (hk:posOf F s+k < F.ws.length):aheadT F.z s k=F.ws[posOf F s+k]:=by
 unfold aheadT
 rw[h.suf,List.drop_drop,List.headD_eq_head?_getD,List.head?_drop,List.getElem?_eq_getElem hk]
 rfl
theorem Pa.noTok (h:Pa F B f s w) {k:Nat} (hk:¬posOf F s+k < F.ws.length):aheadT F.z s k=⟨0,[],0,F.z⟩:=by
 unfold aheadT
 rw[h.suf,List.drop_drop,List.drop_eq_nil_of_le (by omega)]
 rfl
theorem Pa.good' (h:Pa F B f s w) (k:Nat):Good (aheadT F.z s k):=by
 by_cases hk:posOf F s+k < F.ws.length
 ·rw[h.tok hk];exact h.good _ (List.getElem_mem hk)
 ·rw[h.noTok hk];exact⟨by simp,by simp,by simp,by simp,fun _=>⟨rfl,rfl⟩,by simp,h.z⟩
end
abbrev errV (n:Nat):Value:=.iface 33 (.int .i64 (n:Nat))
def QPost {α:Type} (F:PC) (B f:Nat) (C:α→Value→Nat→World→Prop) (r:PR α) (w:World) (e:Ending) (w':World):Prop:=match r with
 | .ok a s'=>∃v,e=.returned v∧C a v w.heap.size w'∧Pa F B f s' w'∧w.grownBy w' (some f)
 | .bad n s'=>e=.panicked [{v:=errV n,recovered:=false}]∧Pa F B f s' w'∧w.grownBy w' (some f)
section
variable {α:Type} {F:PC} {B f:Nat} {C:α→Value→Nat→World→Prop} {r:PR α} {w w':World} {e:Ending}
theorem QPost.split (h:QPost F B f C r w e w'):(∃a s' v,r=.ok a s'∧e=.returned v∧C a v w.heap.size w'∧Pa F B f s' w'∧w.grownBy w' (some f))∨(∃n s',r=.bad n s'∧e=.panicked [{v:=errV n,recovered:=false}]∧Pa F B f s' w'∧w.grownBy w' (some f)):=by
 cases r with
 | ok a s'=>obtain⟨v,rfl,hC,hp,hg⟩:=h;exact .inl ⟨a,s',v,rfl,rfl,hC,hp,hg⟩
 | bad n s'=>obtain⟨rfl,hp,hg⟩:=h;exact .inr ⟨n,s',rfl,rfl,hp,hg⟩
theorem QPost.good {a:α} {s':PS} {v:Value} (hr:r=.ok a s') (hC:C a v w.heap.size w') (hp:Pa F B f s' w') (hg:w.grownBy w' (some f)):QPost F B f C r w (.returned v) w':=by
 subst hr
 exact⟨v,rfl,hC,hp,hg⟩
theorem QPost.wrong {n:Nat} {s':PS} (hr:r=.bad n s') (hp:Pa F B f s' w') (hg:w.grownBy w' (some f)):QPost F B f C r w (.panicked [{v:=errV n,recovered:=false}]) w':=by
 subst hr
 exact⟨rfl,hp,hg⟩
end
def CU:Unit→Value→Nat→World→Prop:=fun _ v _ _=>v=.tuple #[]
def CT:Tok→Value→Nat→World→Prop:=fun t v _ _=>v=.agg (tokV t)
def CN:List UInt8→Value→Nat→World→Prop:=fun l v _ _=>v=.string (bs l)
def CE:RE→Value→Nat→World→Prop:=fun r v A w=>∃T:ET,v=T.val∧T.re=r∧T.rightB=true∧T.In w A
def CS:RS→Value→Nat→World→Prop:=fun r v A w=>∃S:ST,v=S.val∧S.rs=r∧S.rightB=true∧S.In w A
def CEs:List RE→Value→Nat→World→Prop:=fun r v A w=>∃(a:Option Addr) (c:Nat) (l:List ET),v=.slice a l.length c∧res l=r∧zam l=true∧EsIn w A a 0 l∧l.length≤200000
def CSs:List RS→Value→Nat→World→Prop:=fun r v A w=>∃(a:Option Addr) (c:Nat) (l:List ST),v=.slice a l.length c∧rss l=r∧zak l=true∧SsIn w A a 0 l∧l.length≤200000
end Go.Proofs.YtljbbhhiiiepcaaGreatDoor.Pm
namespace Go.Proofs.YtljbbhhiiiepcaaGreatDoor.Pm
open Go Go.RowKit Go.Proofs.YtljbbhhiiiepcaaGreatDoor
open Go.Lib (hid)
theorem zae {w w':World} (h:Below w.heap.size w w') (r:Option Nat):w.grownBy w' r:=⟨h.os,h.tape,h.output,h.size,fun k hk _=>h.block k hk⟩
section
variable {F:PC} {B f:Nat} {s:PS} {w:World}
abbrev ptrP (f:Nat):Value:=.pointer (some ⟨f,0,none⟩)
theorem Pa.cells (h:Pa F B f s w) {p:Nat} (hk:p < F.ws.length):∃b o,F.wa=some ⟨b,o,none⟩∧b < w.heap.size∧b≠f∧w.cell? ⟨b,o+p*4,none⟩=some (.int .i64 F.ws[p].kind)∧w.cell? ⟨b,o+p*4+1,none⟩=some (.string (bs F.ws[p].text)) ∧
  w.cell? ⟨b,o+p*4+2,none⟩=some (.int .u64 F.ws[p].n)∧w.cell? ⟨b,o+p*4+3,none⟩=some (.int .i64 F.ws[p].at'):=by
 obtain⟨b,o,e,hb,hf,hc⟩:=h.row p hk
 exact⟨b,o,e,Nat.lt_of_lt_of_le hb h.le,hf,hc 0 _ rfl,hc 1 _ rfl,hc 2 _ rfl,hc 3 _ rfl⟩
theorem ahead0 (h:Pa F B f s w):Calls Tryz.prog 173 #[ptrP f,.int .i64 0] w fun e w'=>e=.returned (.agg (tokV (cur F.z s)))∧Below w.heap.size w w':=by
 have c0:=h.c0
 have c1:=h.c1
 have c2:=h.c2
 have hlt:=h.flt
 have hm:=h.many
 have hz:=h.z
 have hp:posOf F s≤F.ws.length:=by unfold posOf;omega
 have hT:=fun hk=>h.tok (k:=0) hk
 have hN:=fun hk=>h.noTok (k:=0) hk
 have hC:=fun hk=>h.cells (p:=posOf F s+0) hk
 rw[←cur_is] at hT hN
 clear h
 obtain⟨p,hpp⟩:∃p,posOf F s=p:=⟨_,rfl⟩
 rw[hpp] at hp c1 hT hN hC
 clear hpp
 generalize cur F.z s=T at hT hN ⊢
 by_cases hk:p < F.ws.length
 ·obtain⟨b,o,e,hbl,hf,k0,k1,k2,k3⟩:=hC hk
  have ht:=hT hk
  simp only[Nat.add_zero] at ht k0 k1 k2 k3
  rw[e] at c0
  rw[←ht] at k0 k1 k2 k3
  clear hT hN hC ht e
  generalize F.ws.length=N at c0 hm hp hk
  go_enter Tryz.func173,Tryz.ntmps173
  go_wp2
  exact bodyPost_ret (v:=.agg (tokV T)) (by simp[results,Tryz.results173,go_sem, *]) rfl ⟨rfl,(Below.refl _ _).alloc (Nat.le_refl _) _⟩
 ·have ht:=hN hk
  generalize F.ws.length=N at c0 hm hp hk
  clear hT hN hC
  subst ht
  go_enter Tryz.func173,Tryz.ntmps173
  go_wp2
  exact bodyPost_ret (v:=.agg (tokV ⟨0,[],0,F.z⟩)) (by simp[results,Tryz.results173,go_sem,bs, *]) rfl ⟨rfl,(Below.refl _ _).alloc (Nat.le_refl _) _⟩
theorem ahead1 (h:Pa F B f s w):Calls Tryz.prog 173 #[ptrP f,.int .i64 1] w fun e w'=>e=.returned (.agg (tokV (nxt F.z s)))∧Below w.heap.size w w':=by
 have c0:=h.c0
 have c1:=h.c1
 have c2:=h.c2
 have hlt:=h.flt
 have hm:=h.many
 have hz:=h.z
 have hp:posOf F s≤F.ws.length:=by unfold posOf;omega
 have hT:=fun hk=>h.tok (k:=1) hk
 have hN:=fun hk=>h.noTok (k:=1) hk
 have hC:=fun hk=>h.cells (p:=posOf F s+1) hk
 rw[←nxt_is] at hT hN
 clear h
 obtain⟨p,hpp⟩:∃p,posOf F s=p:=⟨_,rfl⟩
 rw[hpp] at hp c1 hT hN hC
 clear hpp
 generalize nxt F.z s=T at hT hN ⊢
 by_cases hk:p+1 < F.ws.length
 ·obtain⟨b,o,e,hbl,hf,k0,k1,k2,k3⟩:=hC hk
  have ht:=hT hk
  skip
  rw[e] at c0
  rw[←ht] at k0 k1 k2 k3
  clear hT hN hC ht e
  generalize F.ws.length=N at c0 hm hp hk
  go_enter Tryz.func173,Tryz.ntmps173
  go_wp2
  exact bodyPost_ret (v:=.agg (tokV T)) (by simp[results,Tryz.results173,go_sem, *]) rfl ⟨rfl,(Below.refl _ _).alloc (Nat.le_refl _) _⟩
 ·have ht:=hN hk
  generalize F.ws.length=N at c0 hm hp hk
  clear hT hN hC
  subst ht
  go_enter Tryz.func173,Tryz.ntmps173
  go_wp2
  exact bodyPost_ret (v:=.agg (tokV ⟨0,[],0,F.z⟩)) (by simp[results,Tryz.results173,go_sem,bs, *]) rfl ⟨rfl,(Below.refl _ _).alloc (Nat.le_refl _) _⟩
theorem za3 (h:Pa F B f s w):Calls Tryz.prog 117 #[ptrP f] w fun e w'=>e=.returned (.agg (tokV (cur F.z s)))∧Below w.heap.size w w':=by
 have HX:=hid (ahead0 (h.alloc (.cells #[.int .i64 0,.string ⟨#[]⟩,.int .u64 0,.int .i64 0] 175)))
 clear h
 generalize cur F.z s=T at HX ⊢
 go_enter Tryz.func117,Tryz.ntmps117
 go_wp2_with (go_at_call 173;refine HX.out.mono ?_;rintro e w1 ⟨rfl,hb⟩;have hr:=(hb.block w.heap.size (by simp)).trans (zaj w _);have HB:=hid hb;obtain⟨y0,x0,x1,x2,x3,hlt⟩:=zcN hr;clear hb hr)
 have hb:=HB.out
 refine bodyPost_ret (v:=.agg (tokV T)) (by simp[results,Tryz.results117,go_sem, *]) rfl ⟨rfl,?_⟩
 exact((((zan ((Below.refl _ _).alloc (Nat.le_refl _) _) hb).setCell (by simp) _).setCell (by simp) _).setCell (by simp) _).setCell (by simp) _
theorem zbK (T:Tok) (w:World):(Instr.field 175 (.agg (tokV T)) 1).run Tryz.prog w=.ok (.string (bs T.text)) w:=by kernel_rfl
theorem zcw (T:Tok) (w:World):(Instr.field 175 (.agg (tokV T)) 0).run Tryz.prog w=.ok (.int .i64 T.kind) w:=by kernel_rfl
theorem fld_n (T:Tok) (w:World):(Instr.field 175 (.agg (tokV T)) 2).run Tryz.prog w=.ok (.int .u64 T.n) w:=by kernel_rfl
theorem fld_at (T:Tok) (w:World):(Instr.field 175 (.agg (tokV T)) 3).run Tryz.prog w=.ok (.int .i64 T.at') w:=by kernel_rfl
theorem place_any (h:Pa F B f s w):Calls Tryz.prog 78 #[ptrP f] w fun e w'=>e=.returned (.int .i64 (place F.z s:Nat))∧Below w.heap.size w w':=by
 have HX:=hid (za3 h)
 have hfd:=fld_at
 unfold place
 clear h
 generalize cur F.z s=T at HX ⊢
 go_enter Tryz.func78,Tryz.ntmps78
 go_wp2_with (go_at_call 117;refine HX.out.mono ?_;rintro e w1 ⟨rfl,hb⟩;have HB:=hid hb;clear hb)
 go_ret
 exact⟨rfl,HB.out⟩
theorem at_any (h:Pa F B f s w) (t:ByteArray):Calls Tryz.prog 174 #[ptrP f,.string t] w fun e w'=>e=.returned (.bool ((bs (cur F.z s).text).toList==t.toList))∧Below w.heap.size w w':=by
 have HX:=hid (za3 h)
 have hfd:=zbK
 clear h
 generalize cur F.z s=T at HX ⊢
 go_enter Tryz.func174,Tryz.ntmps174
 go_wp2_with (go_at_call 117;refine HX.out.mono ?_;rintro e w1 ⟨rfl,hb⟩;have HB:=hid hb;clear hb)
 go_ret
 exact⟨rfl,HB.out⟩
theorem atKind_any (h:Pa F B f s w) (k:Int):Calls Tryz.prog 208 #[ptrP f,.int .i64 k] w fun e w'=>e=.returned (.bool (((cur F.z s).kind:Int)==k))∧Below w.heap.size w w':=by
 have HX:=hid (za3 h)
 have hfd:=zcw
 clear h
 generalize cur F.z s=T at HX ⊢
 go_enter Tryz.func208,Tryz.ntmps208
 go_wp2_with (go_at_call 117;refine HX.out.mono ?_;rintro e w1 ⟨rfl,hb⟩;have HB:=hid hb;clear hb)
 go_ret
 exact⟨rfl,HB.out⟩
theorem zcx (w:World):Calls Tryz.prog 118 #[ptrP f,.bool true] w fun e w'=>e=.returned (.tuple #[])∧w=w':=by
 go_enter Tryz.func118,Tryz.ntmps118
 go_wp2
 go_end0
 exact⟨rfl,rfl⟩
theorem zc8 (w:World):Calls Tryz.prog 118 #[ptrP f,.bool false] w fun e w'=>e=.panicked [{v:=errV 3,recovered:=false}]∧w=w':=by
 go_enter Tryz.func118,Tryz.ntmps118
 go_wp2
 exact⟨rfl,rfl,rfl⟩
theorem Pa.one (h:Pa F B f s w) {s':PS} (k:Nat) (u:Value) (hk:(paV F s).setIfInBounds k u=paV F s') (h1:s'.ws=s.ws) (h3:s'.sts≤400) (h4:s'.op≤40) (h5:s'.mo≤40):Pa F B f s' (w.setCell ⟨f,k,none⟩ u):=
 h.put (zaZ _ _ _ _) (by unfold posOf;rw[h1];exact h.suf) (by rw[h1];exact h.len) h3 h4 h5 (by rw[←hk];exact zaH _ h.blk)
theorem leave_any (h:Pa F B f s w) (h0:0 < s.op):Calls Tryz.prog 207 #[ptrP f] w fun e w'=>e=.returned (.tuple #[])∧Pa F B f (leave s) w'∧w.grownBy w' (some f):=by
 have c4:=h.c4
 have fr:=h.fr 4
 have hlt:=h.flt
 have hop:=h.op
 have HH:=hid h
 clear h
 go_enter Tryz.func207,Tryz.ntmps207
 go_wp2
 go_end0
 refine⟨rfl,?_,zaZ _ _ _ _⟩
 rw[show((s.op:Int) - 1)=((s.op - 1:Nat):Int) by omega]
 exact HH.out.one 4 _ rfl rfl HH.out.sts (by show s.op - 1≤40;omega) HH.out.mo
theorem enter_no (h:Pa F B f s w) (h0:s.op=40):Calls Tryz.prog 206 #[ptrP f] w fun e w'=>e=.panicked [{v:=errV 4,recovered:=false}]∧w=w':=by
 have c4:=h.c4
 rw[h0] at c4
 clear h h0
 go_enter Tryz.func206,Tryz.ntmps206
 go_wp2
 exact⟨rfl,rfl,rfl⟩
theorem enter_yes (h:Pa F B f s w) (h0:s.op≠40):Calls Tryz.prog 206 #[ptrP f] w fun e w'=>e=.returned (.tuple #[])∧Pa F B f {s with op:=s.op+1,mo:=max s.mo (s.op+1)} w'∧w.grownBy w' (some f):=by
 have c4:=h.c4
 have c5:=h.c5
 have fr4:=h.fr 4
 have fr5:=h.fr 5
 have hlt:=h.flt
 have hop:=h.op
 have hmo:=h.mo
 have h0b:((s.op:Int)==40)=false:=by simp;omega
 have h1:(s.op:Int) < 40:=by omega
 have HH:=hid h
 clear h h0
 go_enter Tryz.func206,Tryz.ntmps206
 go_wp2
 have HM:=hid (HH.out.one (s':={s with op:=s.op+1}) 4 (.int .i64 ((s.op+1:Nat):Int)) rfl rfl HH.out.sts (by show s.op+1≤40;omega) HH.out.mo)
 rw[show((s.op:Int)+1)=((s.op+1:Nat):Int) by omega]
 have HG:=hid (zaZ w f 4 (.int .i64 ((s.op+1:Nat):Int)))
 have c4':=HM.out.c4
 have c5':=HM.out.c5
 have fr:=HM.out.fr 5
 have hlt':=HM.out.flt
 clear c4 c5 fr4 fr5 hlt h0b HH
 generalize w.setCell ⟨f,4,none⟩ (.int .i64 ((s.op+1:Nat):Int))=w1 at HM HG c4' c5' fr hlt' ⊢
 go_region
 all_goals
  go_end0
  refine⟨rfl,?_,zal (zat HG.out 5 _)⟩
  rw[show max (s.mo:Int) ((s.op:Int)+1)=((max s.mo (s.op+1):Nat):Int) by omega]
  exact(HM.out.one (s':={s with op:=s.op+1,mo:=max s.mo (s.op+1)}) 5 _ rfl rfl HM.out.sts HM.out.op (by show max s.mo (s.op+1)≤40;omega)).drew
theorem zdg (h:Pa F B f s w):Calls Tryz.prog 81 #[ptrP f] w fun e w'=>e=.returned (.bool s.ws.isEmpty)∧Below w.heap.size w w':=by
 have c0:=h.c0
 have c1:=h.c1
 have hlt:=h.flt
 have hl:=h.len
 have hp:posOf F s+s.ws.length=F.ws.length:=by unfold posOf;omega
 clear h
 obtain⟨p,hpp⟩:∃p,posOf F s=p:=⟨_,rfl⟩
 rw[hpp] at hp c1
 generalize F.ws.length=N at c0 hp
 have hE:Hid (((p:Int)==(N:Int))=s.ws.isEmpty):=hid (by
  cases hw:s.ws with
  | nil=>rw[hw] at hp;simp at hp;simp[hp]
  | cons t l=>rw[hw] at hp;simp at hp;simp;omega)
 clear hpp hl hp
 generalize s.ws.isEmpty=E at hE ⊢
 go_enter Tryz.func81,Tryz.ntmps81
 go_wp2
 go_quiet (fail)
 go_wp2
 go_ret
 exact⟨by rw[←hE.out];rfl,⟨rfl,rfl,rfl,Nat.le_refl _,fun _ _=>rfl⟩⟩
theorem zbL {x:ByteArray} {l:List UInt8} (h:x.data.toList≠l):(x.toList==l)=false:=by
 rw[ByteArray.toList_eq]
 simpa using h
theorem posOf_tail (h:s.ws≠[]) (hl:s.ws.length≤F.ws.length) (s':PS) (e:s'.ws=s.ws.tail):posOf F s'=posOf F s+1:=by
 unfold posOf
 rw[e]
 cases hw:s.ws with
 | nil=>exact absurd hw h
 | cons t l=>rw[hw] at hl;simp at hl ⊢;omega
theorem Pa.step (h:Pa F B f s w) (hw:s.ws≠[]):Pa F B f {s with ws:=s.ws.tail} (w.setCell ⟨f,1,none⟩ (.int .i64 ((posOf F s:Nat)+1))):=by
 have hl:=h.len
 have e:=posOf_tail hw hl {s with ws:=s.ws.tail} rfl
 refine h.put (zaZ _ _ _ _) ?_ ?_ h.sts h.op h.mo ?_
 ·show s.ws.tail=_
  rw[e,h.suf,List.tail_drop]
 ·show s.ws.tail.length≤_
  rw[List.length_tail];omega
 ·have:=zaH (k:=1) (.int .i64 ((posOf F s:Nat)+1)) h.blk
  rw[this]
  congr 2
  show _=paV F {s with ws:=s.ws.tail}
  unfold paV
  rw[e]
  simp
theorem zcQ {x:List UInt8} {l:List UInt8} (h:x=l):((bs x).toList==l)=true:=by
 rw[ByteArray.toList_eq,h]
 simp[bs]
theorem zaV (h:Pa F B f s w) (hw:s.ws≠[]) (ho:za8 (cur F.z s).text=false) (hs:za9 (cur F.z s).text=false):
  Calls Tryz.prog 175 #[ptrP f] w fun e w'=>e=.returned (.agg (tokV (cur F.z s)))∧Pa F B f {s with ws:=s.ws.tail} w'∧w.grownBy w' (some f):=by
 have HX:=hid (za3 (h.alloc (.cells #[.int .i64 0,.string ⟨#[]⟩,.int .u64 0,.int .i64 0] 175)))
 have HH:=hid h
 have hle:=h.le
 have hfl:=h.flt
 have hm:=h.many
 have hl:=h.len
 have hpo:posOf F s≤F.ws.length:=by unfold posOf;omega
 simp only[za8,za9,Bool.or_eq_false_iff,beq_eq_false_iff_ne] at ho hs
 generalize cur F.z s=T at HX ho hs ⊢
 have d1:((bs T.text).toList==[40])=false:=zbL ho.1.1
 have d2:((bs T.text).toList==[91])=false:=zbL ho.1.2
 have d3:((bs T.text).toList==[123])=false:=zbL ho.2
 have d4:((bs T.text).toList==[41])=false:=zbL hs.1.1
 have d5:((bs T.text).toList==[93])=false:=zbL hs.1.2
 have d6:((bs T.text).toList==[125])=false:=zbL hs.2
 clear h ho hs
 go_enter Tryz.func175,Tryz.ntmps175
 go_wp2_with (go_at_call 117;refine HX.out.mono ?_;rintro e w1 ⟨rfl,hb⟩;have hr:=(hb.block w.heap.size (by simp)).trans (zaj w _);have HB:=hid hb;have HP1:=hid ((HH.out.alloc _).on hb);obtain⟨y0,x0,x1,x2,x3,hlt⟩:=zcN hr;have c1:=HP1.out.c1;have fr:=HP1.out.fr 1;have flt:=HP1.out.flt;have G1:=hid (zaa (zad (zaf w (some f)) _) (zae hb (some f)));have HR:=hid hr;clear hb hr)
 refine bodyPost_ret (v:=.agg (tokV T)) (by simp[results,Tryz.results175,go_sem, *]) rfl ⟨rfl,?_,?_⟩
 ·repeat (first | with_reducible exact HP1.out | (with_reducible refine Pa.far ?_ hle _ _) | (with_reducible refine Pa.alloc ?_ _) | (with_reducible refine Pa.step ?_ hw))
 ·repeat (first | with_reducible exact G1.out | (with_reducible refine zag ?_ (Nat.le_refl _) _ _) | (with_reducible refine zad ?_ _) | (with_reducible refine zat ?_ _ _))
theorem pass_o (h:Pa F B f s w) (hw:s.ws≠[]) (hc:((cur F.z s).text=[40]∨(cur F.z s).text=[91])∨(cur F.z s).text=[123]) (h0:s.op≠40):
  Calls Tryz.prog 175 #[ptrP f] w fun e w'=>e=.returned (.agg (tokV (cur F.z s)))∧Pa F B f {s with ws:=s.ws.tail,op:=s.op+1,mo:=max s.mo (s.op+1)} w'∧w.grownBy w' (some f):=by
 have HX:=hid (za3 (h.alloc (.cells #[.int .i64 0,.string ⟨#[]⟩,.int .u64 0,.int .i64 0] 175)))
 have HH:=hid h
 have hle:=h.le
 have hfl:=h.flt
 have hm:=h.many
 have hl:=h.len
 have hpo:posOf F s≤F.ws.length:=by unfold posOf;omega
 generalize cur F.z s=T at HX hc ⊢
 rcases hc with (ht | ht) | ht
 all_goals (
  first | have d1:((bs T.text).toList==[40])=false:=zbL (by show T.text≠_;rw[ht];decide) | have d1:((bs T.text).toList==[40])=true:=zcQ ht
  first | have d2:((bs T.text).toList==[91])=false:=zbL (by show T.text≠_;rw[ht];decide) | have d2:((bs T.text).toList==[91])=true:=zcQ ht
  first | have d3:((bs T.text).toList==[123])=false:=zbL (by show T.text≠_;rw[ht];decide) | have d3:((bs T.text).toList==[123])=true:=zcQ ht
  have HO:=hid h0
  clear h ht h0
  go_enter Tryz.func175,Tryz.ntmps175
  go_wp2_with (first
   | (go_at_call 206;refine(enter_yes (HP1.out.alloc (.cells #[.int .i64 T.kind,.string (bs T.text),.int .u64 T.n,.int .i64 T.at'] 175)) HO.out).mono ?_;rintro e w2 ⟨rfl,hp2,hg2⟩;have hr2:=(hg2.block w.heap.size (by simp;omega) (by simp;omega)).trans (zai (.cells #[.int .i64 T.kind,.string (bs T.text),.int .u64 T.n,.int .i64 T.at'] 175) HR.out);have hr3:=(hg2.block w1.heap.size (by simp) (by simp;omega)).trans (zaj w1 (.cells #[.int .i64 T.kind,.string (bs T.text),.int .u64 T.n,.int .i64 T.at'] 175));have HP2:=hid hp2;clear y0 x0 x1 x2 x3 c1 fr;have y0:=fun k=>zac (k:=k) hr2;have x0:=zab (k:=0) hr2 rfl;have x1:=zab (k:=1) hr2 rfl;have x2:=zab (k:=2) hr2 rfl;have x3:=zab (k:=3) hr2 rfl;have z0:=zab (k:=0) hr3 rfl;have z1:=zab (k:=1) hr3 rfl;have z2:=zab (k:=2) hr3 rfl;have z3:=zab (k:=3) hr3 rfl;have hlt3:=lt_of_block hr2;have hlt2:=lt_of_block hr3;have c1:w2.cell? ⟨f,1,none⟩=some (.int .i64 (posOf F s:Nat)):=HP2.out.c1;have fr:=HP2.out.fr 1;have flt2:=HP2.out.flt;have G2:=hid (zaa (zad G1.out (.cells #[.int .i64 T.kind,.string (bs T.text),.int .u64 T.n,.int .i64 T.at'] 175)) hg2);clear hp2 hg2 hr2 hr3)
   | (go_at_call 117;refine HX.out.mono ?_;rintro e w1 ⟨rfl,hb⟩;have hr:=(hb.block w.heap.size (by simp)).trans (zaj w _);have HB:=hid hb;have HP1:=hid ((HH.out.alloc _).on hb);obtain⟨y0,x0,x1,x2,x3,hlt⟩:=zcN hr;have c1:=HP1.out.c1;have fr:=HP1.out.fr 1;have flt:=HP1.out.flt;have G1:=hid (zaa (zad (zaf w (some f)) _) (zae hb (some f)));have HR:=hid hr;clear hb hr))
  refine bodyPost_ret (v:=.agg (tokV T)) (by simp[results,Tryz.results175,go_sem, *]) rfl ⟨rfl,?_,?_⟩
  ·have HS:Pa F B f {s with ws:=s.ws.tail,op:=s.op+1,mo:=max s.mo (s.op+1)} (w2.setCell ⟨f,1,none⟩ (.int .i64 ((posOf F s:Nat)+1))):=Pa.step HP2.out hw
   repeat (first | with_reducible exact HS | (with_reducible refine Pa.far ?_ hle _ _) | (with_reducible refine Pa.alloc ?_ _) | (with_reducible refine Pa.step ?_ hw))
  ·repeat (first | with_reducible exact G2.out | (with_reducible refine zag ?_ (Nat.le_refl _) _ _) | (with_reducible refine zad ?_ _) | (with_reducible refine zat ?_ _ _)))
theorem pass_s (h:Pa F B f s w) (hw:s.ws≠[]) (hc:((cur F.z s).text=[41]∨(cur F.z s).text=[93])∨(cur F.z s).text=[125]) (h0:0 < s.op):
  Calls Tryz.prog 175 #[ptrP f] w fun e w'=>e=.returned (.agg (tokV (cur F.z s)))∧Pa F B f {s with ws:=s.ws.tail,op:=s.op - 1} w'∧w.grownBy w' (some f):=by
 have HX:=hid (za3 (h.alloc (.cells #[.int .i64 0,.string ⟨#[]⟩,.int .u64 0,.int .i64 0] 175)))
 have HH:=hid h
 have hle:=h.le
 have hfl:=h.flt
 have hm:=h.many
 have hl:=h.len
 have hpo:posOf F s≤F.ws.length:=by unfold posOf;omega
 generalize cur F.z s=T at HX hc ⊢
 rcases hc with (ht | ht) | ht
 all_goals (
  first | have d1:((bs T.text).toList==[40])=false:=zbL (by show T.text≠_;rw[ht];decide) | have d1:((bs T.text).toList==[40])=true:=zcQ ht
  first | have d2:((bs T.text).toList==[91])=false:=zbL (by show T.text≠_;rw[ht];decide) | have d2:((bs T.text).toList==[91])=true:=zcQ ht
  first | have d3:((bs T.text).toList==[123])=false:=zbL (by show T.text≠_;rw[ht];decide) | have d3:((bs T.text).toList==[123])=true:=zcQ ht
  first | have d4:((bs T.text).toList==[41])=false:=zbL (by show T.text≠_;rw[ht];decide) | have d4:((bs T.text).toList==[41])=true:=zcQ ht
  first | have d5:((bs T.text).toList==[93])=false:=zbL (by show T.text≠_;rw[ht];decide) | have d5:((bs T.text).toList==[93])=true:=zcQ ht
  first | have d6:((bs T.text).toList==[125])=false:=zbL (by show T.text≠_;rw[ht];decide) | have d6:((bs T.text).toList==[125])=true:=zcQ ht
  have HO:=hid h0
  clear h ht h0
  go_enter Tryz.func175,Tryz.ntmps175
  go_wp2_with (first
   | (go_at_call 207;refine(leave_any (HP1.out.alloc (.cells #[.int .i64 T.kind,.string (bs T.text),.int .u64 T.n,.int .i64 T.at'] 175)) HO.out).mono ?_;rintro e w2 ⟨rfl,hp2,hg2⟩;have hr2:=(hg2.block w.heap.size (by simp;omega) (by simp;omega)).trans (zai (.cells #[.int .i64 T.kind,.string (bs T.text),.int .u64 T.n,.int .i64 T.at'] 175) HR.out);have hr3:=(hg2.block w1.heap.size (by simp) (by simp;omega)).trans (zaj w1 (.cells #[.int .i64 T.kind,.string (bs T.text),.int .u64 T.n,.int .i64 T.at'] 175));have HP2:=hid hp2;clear y0 x0 x1 x2 x3 c1 fr;have y0:=fun k=>zac (k:=k) hr2;have x0:=zab (k:=0) hr2 rfl;have x1:=zab (k:=1) hr2 rfl;have x2:=zab (k:=2) hr2 rfl;have x3:=zab (k:=3) hr2 rfl;have z0:=zab (k:=0) hr3 rfl;have z1:=zab (k:=1) hr3 rfl;have z2:=zab (k:=2) hr3 rfl;have z3:=zab (k:=3) hr3 rfl;have hlt3:=lt_of_block hr2;have hlt2:=lt_of_block hr3;have c1:w2.cell? ⟨f,1,none⟩=some (.int .i64 (posOf F s:Nat)):=HP2.out.c1;have fr:=HP2.out.fr 1;have flt2:=HP2.out.flt;have G2:=hid (zaa (zad G1.out (.cells #[.int .i64 T.kind,.string (bs T.text),.int .u64 T.n,.int .i64 T.at'] 175)) hg2);clear hp2 hg2 hr2 hr3)
   | (go_at_call 117;refine HX.out.mono ?_;rintro e w1 ⟨rfl,hb⟩;have hr:=(hb.block w.heap.size (by simp)).trans (zaj w _);have HB:=hid hb;have HP1:=hid ((HH.out.alloc _).on hb);obtain⟨y0,x0,x1,x2,x3,hlt⟩:=zcN hr;have c1:=HP1.out.c1;have fr:=HP1.out.fr 1;have flt:=HP1.out.flt;have G1:=hid (zaa (zad (zaf w (some f)) _) (zae hb (some f)));have HR:=hid hr;clear hb hr))
  refine bodyPost_ret (v:=.agg (tokV T)) (by simp[results,Tryz.results175,go_sem, *]) rfl ⟨rfl,?_,?_⟩
  ·have HS:Pa F B f {s with ws:=s.ws.tail,op:=s.op - 1} (w2.setCell ⟨f,1,none⟩ (.int .i64 ((posOf F s:Nat)+1))):=Pa.step HP2.out hw
   repeat (first | with_reducible exact HS | (with_reducible refine Pa.far ?_ hle _ _) | (with_reducible refine Pa.alloc ?_ _) | (with_reducible refine Pa.step ?_ hw))
  ·repeat (first | with_reducible exact G2.out | (with_reducible refine zag ?_ (Nat.le_refl _) _ _) | (with_reducible refine zad ?_ _) | (with_reducible refine zat ?_ _ _)))
theorem pass_d (h:Pa F B f s w) (hw:s.ws≠[]) (hc:((cur F.z s).text=[40]∨(cur F.z s).text=[91])∨(cur F.z s).text=[123]) (h0:s.op=40):
  Calls Tryz.prog 175 #[ptrP f] w fun e w'=>e=.panicked [{v:=errV 4,recovered:=false}]∧Pa F B f s w'∧w.grownBy w' (some f):=by
 have HX:=hid (za3 (h.alloc (.cells #[.int .i64 0,.string ⟨#[]⟩,.int .u64 0,.int .i64 0] 175)))
 have HH:=hid h
 have hle:=h.le
 have hfl:=h.flt
 have hm:=h.many
 have hl:=h.len
 have hpo:posOf F s≤F.ws.length:=by unfold posOf;omega
 generalize cur F.z s=T at HX hc ⊢
 rcases hc with (ht | ht) | ht
 all_goals (
  first | have d1:((bs T.text).toList==[40])=false:=zbL (by show T.text≠_;rw[ht];decide) | have d1:((bs T.text).toList==[40])=true:=zcQ ht
  first | have d2:((bs T.text).toList==[91])=false:=zbL (by show T.text≠_;rw[ht];decide) | have d2:((bs T.text).toList==[91])=true:=zcQ ht
  first | have d3:((bs T.text).toList==[123])=false:=zbL (by show T.text≠_;rw[ht];decide) | have d3:((bs T.text).toList==[123])=true:=zcQ ht
  have HO:=hid h0
  clear h ht h0
  go_enter Tryz.func175,Tryz.ntmps175
  go_wp2_with (first
   | (go_at_call 206;refine(enter_no (HP1.out.alloc (.cells #[.int .i64 T.kind,.string (bs T.text),.int .u64 T.n,.int .i64 T.at'] 175)) HO.out).mono ?_;rintro e w2 ⟨rfl,rfl⟩)
   | (go_at_call 117;refine HX.out.mono ?_;rintro e w1 ⟨rfl,hb⟩;have hr:=(hb.block w.heap.size (by simp)).trans (zaj w _);have HB:=hid hb;have HP1:=hid ((HH.out.alloc _).on hb);obtain⟨y0,x0,x1,x2,x3,hlt⟩:=zcN hr;have c1:=HP1.out.c1;have fr:=HP1.out.fr 1;have flt:=HP1.out.flt;have G1:=hid (zaa (zad (zaf w (some f)) _) (zae hb (some f)));have HR:=hid hr;clear hb hr))
  exact⟨rfl,rfl,HP1.out.alloc _,zad G1.out _⟩)
theorem pass_any (h:Pa F B f s w) (hw:s.ws≠[]) (hs:za9 (cur F.z s).text=true→0 < s.op):Calls Tryz.prog 175 #[ptrP f] w (QPost F B f CT (pass F.z s) w):=by
 have good:∀(s':PS),pass F.z s=.ok (cur F.z s) s'→(Calls Tryz.prog 175 #[ptrP f] w fun e w'=>e=.returned (.agg (tokV (cur F.z s)))∧Pa F B f s' w'∧w.grownBy w' (some f))→Calls Tryz.prog 175 #[ptrP f] w (QPost F B f CT (pass F.z s) w):=fun s' e hc=>by
  refine hc.mono ?_
  rintro e' w' ⟨rfl,hp,hg⟩
  exact QPost.good e rfl hp hg
 by_cases ho:za8 (cur F.z s).text=true
 ·by_cases h40:s.op=40
  ·have e:pass F.z s=.bad 4 s:=by unfold pass;rw[if_pos ho];unfold enter;rw[if_pos h40];rfl
   simp only[za8,Bool.or_eq_true,beq_iff_eq] at ho
   exact(pass_d h hw ho h40).mono fun e' w' ⟨h1,hp,hg⟩=>by subst h1;exact QPost.wrong e hp hg
  ·have e:pass F.z s=.ok (cur F.z s) {s with ws:=s.ws.tail,op:=s.op+1,mo:=max s.mo (s.op+1)}:=by unfold pass;rw[if_pos ho];unfold enter;rw[if_neg h40];rfl
   simp only[za8,Bool.or_eq_true,beq_iff_eq] at ho
   exact good _ e (pass_o h hw ho h40)
 ·have ho':za8 (cur F.z s).text=false:=by simpa using ho
  by_cases hc:za9 (cur F.z s).text=true
  ·have e:pass F.z s=.ok (cur F.z s) {s with ws:=s.ws.tail,op:=s.op - 1}:=by unfold pass;rw[if_neg ho,if_pos hc]
   have h0:=hs hc
   simp only[za9,Bool.or_eq_true,beq_iff_eq] at hc
   exact good _ e (pass_s h hw hc h0)
  ·have e:pass F.z s=.ok (cur F.z s) {s with ws:=s.ws.tail}:=by unfold pass;rw[if_neg ho,if_neg hc]
   exact good _ e (zaV h hw ho' (by simpa using hc))
theorem zbx {t:List UInt8} (h:(cur F.z s).text=t) (ht:t≠[]):s.ws≠[]:=fun e=>ht (by rw[←h];unfold cur;rw[e];rfl)
theorem zci {k:Nat} (h:(cur F.z s).kind=k) (hk:k≠0):s.ws≠[]:=fun e=>hk (by rw[←h];unfold cur;rw[e];rfl)
theorem zbb (h:Pa F B f s w):Good (cur F.z s):=h.good' 0
end
end Go.Proofs.YtljbbhhiiiepcaaGreatDoor.Pm
namespace Go.Proofs.YtljbbhhiiiepcaaGreatDoor.Pm
open Go Go.RowKit Go.Proofs.YtljbbhhiiiepcaaGreatDoor
open Go.Lib (hid)
section
variable {F:PC} {B f:Nat} {s:PS} {w:World}
theorem at_eq (t:ByteArray) (l:List UInt8) (hl:t.data.toList=l):((bs (cur F.z s).text).toList==t.toList)=at' F.z l s:=by
 rw[ByteArray.toList_eq,ByteArray.toList_eq,hl]
 unfold at'
 simp[bs]
theorem at_is (h:Pa F B f s w) (t:ByteArray) (l:List UInt8) (hl:t.data.toList=l):Calls Tryz.prog 174 #[ptrP f,.string t] w fun e w'=>e=.returned (.bool (at' F.z l s))∧Below w.heap.size w w':=by
 rw[←at_eq (F:=F) (s:=s) t l hl]
 exact at_any h t
theorem kind_is (h:Pa F B f s w) (k:Nat):Calls Tryz.prog 208 #[ptrP f,.int .i64 (k:Nat)] w fun e w'=>e=.returned (.bool ((cur F.z s).kind==k))∧Below w.heap.size w w':=by
 have e:(((cur F.z s).kind:Int)==(k:Int))=((cur F.z s).kind==k):=by rw[Bool.eq_iff_iff];simp only[beq_iff_eq];omega
 rw[←e]
 exact atKind_any h k
theorem take_yes {z:Nat} {t:List UInt8} {s:PS} (hat:at' z t s=true):take z t s=(pass z s).bind fun _ s'=>.ok () s':=by unfold take;rw[if_pos hat]
theorem take_no {z:Nat} {t:List UInt8} {s:PS} (hat:at' z t s=false):take z t s=.bad 3 s:=by unfold take;rw[if_neg (by simp[hat])]
theorem zcq {z:Nat} {t:List UInt8} {s:PS} (hat:at' z t s=true):(cur z s).text=t:=by unfold at' at hat;simpa using hat
theorem zaJ (h:Pa F B f s w) (t:ByteArray) (l:List UInt8) (hl:t.data.toList=l) (hne:l≠[]) (hs:za9 l=true→0 < s.op):Calls Tryz.prog 119 #[ptrP f,.string t] w (QPost F B f CU (take F.z l s) w):=by
 have HX:=hid (at_is h t l hl)
 have HH:=hid h
 clear h hl
 rcases hat:at' F.z l s with _ | _
 ·rw[hat] at HX
  have HT:=hid (take_no hat)
  clear hat hne hs
  go_enter Tryz.func119,Tryz.ntmps119
  go_wp2_with (first
   | (go_at_call 118;refine(zc8 _).mono ?_;rintro e w2 ⟨rfl,rfl⟩)
   | (go_at_call 174;refine HX.out.mono ?_;rintro e w1 ⟨rfl,hb⟩;have HB:=hid hb;clear hb))
  exact⟨rfl,QPost.wrong HT.out (HH.out.on HB.out) (zae HB.out _)⟩
 ·rw[hat] at HX
  have HT:=hid (take_yes hat)
  have htx:=zcq hat
  have HW:=hid (zbx htx hne)
  have HS:Hid (za9 (cur F.z s).text=true→0 < s.op):=hid (by rw[htx];exact hs)
  clear hat hne hs htx
  go_enter Tryz.func119,Tryz.ntmps119
  go_wp2_with (first
   | (go_at_call 175;refine(pass_any (HH.out.on HB.out) HW.out HS.out).mono ?_;intro e w2 hq;rcases hq.split with ⟨a,s',v,hr,rfl,hC,hp,hg⟩ | ⟨n,s',hr,rfl,hp,hg⟩;rotate_left;(exact⟨rfl,QPost.wrong (by rw[HT.out,hr];rfl) hp (zaa (zae HB.out _) hg)⟩);have HQ:=hid (And.intro hr (And.intro hp hg));clear hr hC hp hg hq)
   | (go_at_call 118;refine(zcx _).mono ?_;rintro e w2 ⟨rfl,rfl⟩)
   | (go_at_call 174;refine HX.out.mono ?_;rintro e w1 ⟨rfl,hb⟩;have HB:=hid hb;clear hb))
  go_end0
  obtain⟨hr,hp,hg⟩:=HQ.out
  exact QPost.good (by rw[HT.out,hr];rfl) rfl hp (zaa (zae HB.out _) hg)
theorem kind_yes {z k:Nat} {s:PS} (hk:((cur z s).kind==k)=true):zdH z k s=pass z s:=by unfold zdH;rw[if_pos hk]
theorem kind_no {z k:Nat} {s:PS} (hk:((cur z s).kind==k)=false):zdH z k s=.bad 3 s:=by unfold zdH;rw[if_neg (by simp[hk])]
theorem takeKind_any (h:Pa F B f s w) (k:Nat) (hk0:k≠0) (hs:(cur F.z s).kind=k→za9 (cur F.z s).text=true→0 < s.op):Calls Tryz.prog 176 #[ptrP f,.int .i64 (k:Nat)] w (QPost F B f CT (zdH F.z k s) w):=by
 have HX:=hid (kind_is (h.alloc (.cells #[.int .i64 0,.string ⟨#[]⟩,.int .u64 0,.int .i64 0] 175)) k)
 have HH:=hid (h.alloc (.cells #[.int .i64 0,.string ⟨#[]⟩,.int .u64 0,.int .i64 0] 175))
 have HLT:=hid h.lt
 have HLE:=hid h.le
 rcases hat:((cur F.z s).kind==k) with _ | _
 ·rw[hat] at HX
  have HT:=hid (kind_no hat)
  clear hat hs h hk0
  go_enter Tryz.func176,Tryz.ntmps176
  go_wp2_with (first
   | (go_at_call 118;refine(zc8 _).mono ?_;rintro e w2 ⟨rfl,rfl⟩)
   | (go_at_call 208;refine HX.out.mono ?_;rintro e w1 ⟨rfl,hb⟩;have hr:=(hb.block w.heap.size (by simp)).trans (zaj w _);obtain⟨y0,x0,x1,x2,x3,hlt⟩:=zcN hr;have HB:=hid hb;clear hb hr))
  exact⟨rfl,QPost.wrong HT.out (HH.out.on HB.out) (zaa (zad (zaf w _) _) (zae HB.out _))⟩
 ·rw[hat] at HX
  have HT:=hid (kind_yes hat)
  have hk:(cur F.z s).kind=k:=by simpa using hat
  have HW:=hid (zci hk hk0)
  have HS:=hid (hs hk)
  clear hat hs hk hk0 h
  go_enter Tryz.func176,Tryz.ntmps176
  go_wp2_with (first
   | (go_at_call 175;refine(pass_any (HH.out.on HB.out) HW.out HS.out).mono ?_;intro e w2 hq;rcases hq.split with ⟨a,s',v,hr,rfl,hC,hp,hg⟩ | ⟨n,s',hr,rfl,hp,hg⟩;rotate_left;(exact⟨rfl,QPost.wrong (by rw[HT.out,hr]) hp (zaa (zaa (zad (zaf w _) _) (zae HB.out _)) hg)⟩);obtain rfl:v=.agg (tokV a):=hC;have HQ:=hid (And.intro hr (And.intro hp hg));have hr:=(hg.block w.heap.size hlt (by have:=HLT.out;have:=HLE.out;simp;omega)).trans HR.out;clear y0 x0 x1 x2 x3 hlt;obtain⟨y0,x0,x1,x2,x3,hlt⟩:=zcN hr;clear hr hp hg hq)
   | (go_at_call 118;refine(zcx _).mono ?_;rintro e w2 ⟨rfl,rfl⟩)
   | (go_at_call 208;refine HX.out.mono ?_;rintro e w1 ⟨rfl,hb⟩;have hr:=(hb.block w.heap.size (by simp)).trans (zaj w _);obtain⟨y0,x0,x1,x2,x3,hlt⟩:=zcN hr;have HB:=hid hb;have HR:=hid hr;clear hb hr))
  obtain⟨hr,hp,hg⟩:=HQ.out
  have hle:=HLE.out
  have G2:=zaa (zaa (zad (zaf w (some f)) _) (zae HB.out _)) hg
  refine bodyPost_ret (v:=.agg (tokV a)) (by simp[results,Tryz.results176,go_sem, *]) rfl (QPost.good (by rw[HT.out,hr]) rfl ?_ ?_)
  ·repeat (first | with_reducible exact hp | (with_reducible refine Pa.far ?_ hle _ _))
  ·repeat (first | with_reducible exact G2 | (with_reducible refine zag ?_ (Nat.le_refl _) _ _))
theorem name_flat {l:List UInt8} (h:zaK l=true):za8 l=false∧za9 l=false:=by
 have h1:∀x:List UInt8,x∈[[40],[91],[123],[41],[93],[125]]→zaK x=false:=by decide
 constructor
 ·cases ho:za8 l with
  | false=>rfl
  | true =>
   simp only[za8,Bool.or_eq_true,beq_iff_eq] at ho
   have:=h1 l (by rcases ho with (rfl | rfl) | rfl<;>simp)
   rw[h] at this;cases this
 ·cases ho:za9 l with
  | false=>rfl
  | true =>
   simp only[za9,Bool.or_eq_true,beq_iff_eq] at ho
   have:=h1 l (by rcases ho with (rfl | rfl) | rfl<;>simp)
   rw[h] at this;cases this
theorem pass_skip {z:Nat} {s:PS} (h1:za8 (cur z s).text=false) (h2:za9 (cur z s).text=false):pass z s=.ok (cur z s) (skip s):=by
 unfold pass
 rw[if_neg (by simp[h1]),if_neg (by simp[h2])]
 rfl
theorem zee {z:Nat} {s:PS} (h:(cur z s).kind=1):name z s=.ok (cur z s).text (skip s):=by unfold name;rw[if_pos (by simp[h])]
theorem name_not {z:Nat} {s:PS} (h:¬(cur z s).kind=1):name z s=.bad 3 s:=by unfold name;rw[if_neg (by simp[h])]
theorem zcy (h:Pa F B f s w):Calls Tryz.prog 120 #[ptrP f] w (QPost F B f CN (name F.z s) w):=by
 have HX:=hid (takeKind_any h 1 (by decide) (fun hk hs=>by rw[(name_flat ((zbb h).nm hk)).2] at hs;cases hs))
 have HN:Hid (match zdH F.z 1 s with | .ok a s'=>name F.z s=.ok a.text s' | .bad n s'=>name F.z s=.bad n s'):=hid (by
  by_cases hk:(cur F.z s).kind=1
  ·have fl:=(zbb h).fl (by omega)
   rw[kind_yes (by simp[hk]),pass_skip fl.1 fl.2,zee hk]
  ·rw[kind_no (by simp[hk]),name_not hk])
 have hfd:=zbK
 clear h
 go_enter Tryz.func120,Tryz.ntmps120
 go_wp2_with (go_at_call 176;refine HX.out.mono ?_;intro e w1 hq;rcases hq.split with ⟨a,s',v,hr,rfl,hC,hp,hg⟩ | ⟨n,s',hr,rfl,hp,hg⟩;rotate_left;(exact⟨rfl,QPost.wrong (by have:=HN.out;rw[hr] at this;exact this) hp hg⟩);obtain rfl:v=.agg (tokV a):=hC;have HQ:=hid (And.intro hr (And.intro hp hg));clear hr hp hg hq)
 obtain⟨hr,hp,hg⟩:=HQ.out
 go_ret
 exact QPost.good (by have:=HN.out;rw[hr] at this;exact this) rfl hp hg
theorem end_any (h:Pa F B f s w):Calls Tryz.prog 79 #[ptrP f] w (QPost F B f CU (must s.ws.isEmpty s) w):=by
 have HX:=hid (zdg h)
 have HH:=hid h
 clear h
 rcases he:s.ws.isEmpty with _ | _
 ·rw[he] at HX
  clear he
  go_enter Tryz.func79,Tryz.ntmps79
  go_wp2_with (first
   | (go_at_call 118;refine(zc8 _).mono ?_;rintro e w2 ⟨rfl,rfl⟩)
   | (go_at_call 81;refine HX.out.mono ?_;rintro e w1 ⟨rfl,hb⟩;have HB:=hid hb;clear hb))
  exact⟨rfl,QPost.wrong rfl (HH.out.on HB.out) (zae HB.out _)⟩
 ·rw[he] at HX
  clear he
  go_enter Tryz.func79,Tryz.ntmps79
  go_wp2_with (first
   | (go_at_call 118;refine(zcx _).mono ?_;rintro e w2 ⟨rfl,rfl⟩)
   | (go_at_call 81;refine HX.out.mono ?_;rintro e w1 ⟨rfl,hb⟩;have HB:=hid hb;clear hb))
  go_end0
  exact QPost.good rfl rfl (HH.out.on HB.out) (zae HB.out _)
end
theorem zby {F:PC} {B f:Nat} {s:PS} {w:World} (h:Pa F B f s w):Hid (Pa F B f s (w.alloc (.cells #[.int .i64 0,.int .i64 0,.string ⟨#[]⟩,.string ⟨#[]⟩,.slice none 0 0,.slice none 0 0,.slice none 0 0] 66)))∧Hid (w.grownBy (w.alloc (.cells #[.int .i64 0,.int .i64 0,.string ⟨#[]⟩,.string ⟨#[]⟩,.slice none 0 0,.slice none 0 0,.slice none 0 0] 66)) (some f))∧Hid ((w.alloc (.cells #[.int .i64 0,.int .i64 0,.string ⟨#[]⟩,.string ⟨#[]⟩,.slice none 0 0,.slice none 0 0,.slice none 0 0] 66)).heap[w.heap.size]?=some (.cells #[.int .i64 0,.int .i64 0,.string ⟨#[]⟩,.string ⟨#[]⟩,.slice none 0 0,.slice none 0 0,.slice none 0 0] 66 (0,0))):=
 ⟨hid (h.alloc _),hid (zad (zaf w (some f)) _),hid (zaj w _)⟩
theorem start5 {F:PC} {B f:Nat} {s:PS} {w:World} (h:Pa F B f s w):Hid (Pa F B f s (w.alloc (.cells #[.int .i64 0,.string ⟨#[]⟩,.int .i64 0,.string ⟨#[]⟩,.slice none 0 0] 68)))∧Hid (w.grownBy (w.alloc (.cells #[.int .i64 0,.string ⟨#[]⟩,.int .i64 0,.string ⟨#[]⟩,.slice none 0 0] 68)) (some f))∧Hid ((w.alloc (.cells #[.int .i64 0,.string ⟨#[]⟩,.int .i64 0,.string ⟨#[]⟩,.slice none 0 0] 68)).heap[w.heap.size]?=some (.cells #[.int .i64 0,.string ⟨#[]⟩,.int .i64 0,.string ⟨#[]⟩,.slice none 0 0] 68 (0,0))):=
 ⟨hid (h.alloc _),hid (zad (zaf w (some f)) _),hid (zaj w _)⟩
end Go.Proofs.YtljbbhhiiiepcaaGreatDoor.Pm
