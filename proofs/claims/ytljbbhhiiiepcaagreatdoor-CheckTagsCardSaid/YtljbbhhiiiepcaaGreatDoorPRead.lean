/- What read defers: the error that was panicked with is told, with the place. -/
import Derived.Test.YtljbbhhiiiepcaaGreatDoorLAll
import Derived.Test.YtljbbhhiiiepcaaGreatDoorPFin
import Derived.Test.YtljbbhhiiiepcaaGreatDoorPTake
import Derived.Test.YtljbbhhiiiepcaaGreatDoorPVars2
import Derived.Defers
import Derived.Recover
set_option linter.unusedSimpArgs false
set_option linter.unusedVariables false
set_option maxHeartbeats 8000000
set_option maxRecDepth 100000
namespace Go.Proofs.YtljbbhhiiiepcaaGreatDoor.Pm
open Go
open Go.Proofs.YtljbbhhiiiepcaaGreatDoor.Lx (zcX zdi wordOf_tag zcr)
theorem numOf_le {most:Nat} {l:List UInt8} {u:Nat} (h:zbD most l=some u):u≤most:=by
 unfold zbD at h
 split at h
 ·cases h
 ·split at h
  ·split at h
   ·cases h
   ·cases h;omega
  ·cases h
theorem word_good {c:UInt8} {r:List UInt8} {k len n p:Nat} (h:za5 (c :: r)=some (k,len,n)) (hp:p≤100000):Good ⟨k,(c :: r).take len,n,p⟩:=by
 have tk:∀(q:UInt8→Bool),(c :: r).take ((c :: r).takeWhile q).length=(c :: r).takeWhile q:=fun q=>tw_take _
 have hall:∀(q:UInt8→Bool) (l:List UInt8),(l.takeWhile q).all q=true:=fun q l=>by
  exact List.all_takeWhile
 have brk:∀(l:List UInt8),l.head?.any (fun x=>isLt x||isDg x||x.toNat==64)=true→za7 l=false∧za8 l=false:=fun l hl=>by
  cases l with
  | nil=>cases hl
  | cons a t =>
   simp only[List.head?_cons,Option.any_some] at hl
   have ne:∀x:UInt8,(isLt x||isDg x||x.toNat==64)=false→a≠x:=fun x hx e=>by rw[e,hx] at hl;cases hl
   have h1:=ne 40 (by decide)
   have h2:=ne 91 (by decide)
   have h3:=ne 123 (by decide)
   have h4:=ne 41 (by decide)
   have h5:=ne 93 (by decide)
   have h6:=ne 125 (by decide)
   simp[za7,za8,h1,h2,h3,h4,h5,h6]
 by_cases hl:isLt c=true
 ·have e:=zcX (r:=r) hl
  rw[e] at h
  have hpt:isPt c=true:=by simp[isPt,hl]
  have hd:((c :: r).takeWhile isPt).head?=some c:=by rw[List.takeWhile_cons_of_pos hpt];rfl
  by_cases hk:zbn ((c :: r).takeWhile isPt)=true
  ·rw[if_pos hk] at h
   simp only[Option.some.injEq,Prod.mk.injEq] at h
   obtain⟨rfl,rfl,rfl⟩:=h
   rw[tk]
   exact⟨by simp,by simp,by simp,by simp,fun _=>brk _ (by rw[hd];simp[hl]),by simp,hp⟩
  ·rw[if_neg hk] at h
   by_cases hb:24 < ((c :: r).takeWhile isPt).length
   ·rw[if_pos hb] at h;cases h
   ·rw[if_neg hb] at h
    simp only[Option.some.injEq,Prod.mk.injEq] at h
    obtain⟨rfl,rfl,rfl⟩:=h
    rw[tk]
    refine⟨fun _=>?_,by simp,by simp,by simp,fun _=>brk _ (by rw[hd];simp[hl]),by simp,hp⟩
    show zaJ ((c :: r).takeWhile isPt)=true
    have h0:0 < ((c :: r).takeWhile isPt).length:=by rw[List.takeWhile_cons_of_pos hpt];simp
    simp only[zaJ,Bool.and_eq_true,decide_eq_true_eq,Bool.not_eq_true']
    exact⟨⟨⟨⟨h0,by omega⟩,by simpa using hk⟩,by rw[hd];simpa using hl⟩,hall _ _⟩
 ·have hl':isLt c=false:=by simpa using hl
  by_cases hd:isDg c=true
  ·rw[zdi hl' hd] at h
   cases hn:zbD 9223372036854775808 ((c :: r).takeWhile isDg) with
   | none=>rw[hn] at h;cases h
   | some m =>
    rw[hn] at h
    simp only[Option.map_some,Option.some.injEq,Prod.mk.injEq] at h
    obtain⟨rfl,rfl,rfl⟩:=h
    rw[tk]
    have hm:=numOf_le hn
    exact⟨by simp,hm,by simp,by simp,fun _=>brk _ (by rw[List.takeWhile_cons_of_pos hd];simp[hd]),by simp,hp⟩
  ·have hd':isDg c=false:=by simpa using hd
   by_cases h64:(c.toNat==64)=true
   ·rw[wordOf_tag hl' hd' h64] at h
    cases hn:zbD 1000000 (r.takeWhile isDg) with
    | none=>rw[hn] at h;cases h
    | some m =>
     rw[hn] at h
     simp only[Option.map_some,Option.some.injEq,Prod.mk.injEq] at h
     obtain⟨rfl,rfl,rfl⟩:=h
     have hm:=numOf_le hn
     refine⟨by simp,by show m≤_;omega,fun _=>hm,by simp,fun _=>brk _ ?_,by simp,hp⟩
     rw[Nat.add_comm,List.take_succ_cons]
     simp[h64]
   ·rw[zcr hl' hd' (by simpa using h64)] at h
    by_cases hne:zaA (c :: r)=[]
    ·rw[if_pos hne] at h;cases h
    ·rw[if_neg hne] at h
     simp only[Option.some.injEq,Prod.mk.injEq] at h
     obtain⟨rfl,rfl,rfl⟩:=h
     have hlt:(c :: r).take (zaA (c :: r)).length=zaA (c :: r):=(List.prefix_iff_eq_take.1 (zbQ (c :: r)).2).symm
     rw[hlt]
     have hin:zaA (c :: r)∈zaW:=(zbQ (c :: r)).1.resolve_left hne
     generalize zaA (c :: r)=q at hin
     exact⟨by simp,by simp,by simp,by simp,(fun h=>(h rfl).elim),(fun _=>hin),hp⟩
theorem lex_good:∀(n p:Nat) (l:List UInt8),l.length < n→p+l.length≤100000→∀ts q,lexP p l=(some ts,q)→(∀t∈ts,Good t)∧ts.length≤l.length∧(∀t∈ts,t.at' < p+l.length):=by
 intro n
 induction n with
 | zero=>intro p l h;omega
 | succ n ih =>
  intro p l hl hp ts q e
  cases l with
  | nil=>rw[lexP_nil] at e;cases e;simp
  | cons c r =>
   simp only[List.length_cons] at hl hp ⊢
   cases h:isSp c with
   | true =>
    rw[zdA p r h] at e
    obtain⟨h1,h2,h3⟩:=ih (p+1) r (by omega) (by omega) ts q e
    exact⟨h1,by omega,fun t ht=>by have:=h3 t ht;omega⟩
   | false =>
    cases hw:za5 (c :: r) with
    | none=>rw[lexP_bad p r h hw] at e;cases e
    | some x =>
     obtain⟨k,len,m⟩:=x
     have hlen:=zce hw
     simp only[List.length_cons] at hlen
     rw[zdX p r h hw] at e
     cases e2:lexP (p+len) ((c :: r).drop len) with
     | mk o q' =>
      rw[e2] at e
      cases o with
      | none=>cases e
      | some ts' =>
       simp only[pre,Option.map_some,Prod.mk.injEq,Option.some.injEq] at e
       obtain⟨rfl,rfl⟩:=e
       have hd:((c :: r).drop len).length=r.length+1 - len:=by simp
       obtain⟨h1,h2,h3⟩:=ih (p+len) ((c :: r).drop len) (by omega) (by omega) ts' q' e2
       refine⟨fun t ht=>?_,by simp only[List.length_cons];omega,fun t ht=>?_⟩
       ·rcases List.mem_cons.1 ht with rfl | ht
        ·exact word_good hw (by omega)
        ·exact h1 t ht
       ·rcases List.mem_cons.1 ht with rfl | ht
        ·show p < _;omega
        ·have:=h3 t ht;omega
inductive Ans (α:Type) where
 | ok (a:α) (mo:Nat)
 | bad (at' e:Nat)
deriving DecidableEq
def zb9 {α:Type} (m:Nat) (rule:Nat→Nat→PS→PR α) (l:List UInt8):Ans α:=match lexP 0 l with
 | (none,p)=>.bad p 2
 | (some ws,_)=>match whole l.length (rule l.length m) ws with
  | .ok a s=>.ok a s.mo
  | .bad n s=>.bad (place l.length s) n
def FinA {α:Type} (m:Nat) (rule:Nat→Nat→PS→PR α) (l:List UInt8):Prop:=∀ws q,lexP 0 l=(some ws,q)→Fin (whole l.length (rule l.length m) ws)
theorem finA_ok {α:Type} {m:Nat} {rule:Nat→Nat→PS→PR α} {l:List UInt8} {a:α} {n:Nat} (h:zb9 m rule l=.ok a n):FinA m rule l:=fun ws q e s' e'=>by
 unfold zb9 at h
 rw[e] at h
 simp only at h
 rw[e'] at h
 cases h
theorem lex_many {l:List UInt8} (hl:l.length≤100000) {ws:List Tok} {q:Nat} (h:lexP 0 l=(some ws,q)):(∀t∈ws,Good t)∧ws.length≤l.length∧q=l.length:=by
 obtain⟨h1,h2,-⟩:=lex_good (l.length+1) 0 l (by omega) (by omega) ws q h
 have:=(lexP_at (l.length+1) 0 l (by omega)).2 ws (by rw[h])
 rw[h] at this
 exact⟨h1,h2,by simpa using this⟩
def zbN (m:Nat) (l:List UInt8):Ans (List RF):=zb9 m zbJ l
end Go.Proofs.YtljbbhhiiiepcaaGreatDoor.Pm
namespace Go.Proofs.YtljbbhhiiiepcaaGreatDoor.Pm
open Go
end Go.Proofs.YtljbbhhiiiepcaaGreatDoor.Pm

namespace Go.Proofs.YtljbbhhiiiepcaaGreatDoor.Pm
open Go Go.RowKit Go.Proofs.YtljbbhhiiiepcaaGreatDoor
open Go.Lib (hid)
section
variable {F:PC} {B f:Nat} {s:PS} {w:World}
def Told (w:World) (ba be p n:Nat) (w':World):Prop:=∃w1,Below w.heap.size w w1∧w'=(w1.setCell ⟨ba,0,none⟩ (.int .i64 (p:Nat))).setCell ⟨be,0,none⟩ (.int .i64 (n:Nat))
theorem catchP_bad (h:Pa F B f s w) {bp ba be:Nat} {x y:Int} {n:Nat} (hp:w.heap[bp]?=some (.cells #[ptrP f] 110 (0,0))) (ha:w.heap[ba]?=some (.cells #[.int .i64 x] 3 (0,0))) (he:w.heap[be]?=some (.cells #[.int .i64 y] 33 (0,0))) (hne:ba≠be) (older:List PanicEntry):
  CallsD Tryz.prog 77 #[.pointer (some ⟨bp,0,none⟩),.pointer (some ⟨ba,0,none⟩),.pointer (some ⟨be,0,none⟩)] (.panicking ({v:=errV n,recovered:=false} :: older)) w fun e u' w' =>
   e=.returned (.tuple #[])∧u'=.panicking ({v:=errV n,recovered:=true} :: older)∧Told w ba be (place F.z s) n w':=by
 have hta:∀w:World,(Instr.typeAssert (errV n) 20 33 true).run Tryz.prog w=.ok (.tuple #[.int .i64 (n:Nat),.bool true]) w:=fun w=>by kernel_rfl
 refine callsD_of_wpS Tryz.func77 rfl fun c₀ cs hu=>?_
 apply wpS_seq
 apply wpS_region
 simp[wpOpsS,go_sem,recoverD,hu,hta,Tryz.ntmps77,Exit.thenS]
 apply wpS_seq
 apply wpS_region
 simp[wpOpsS,go_sem,Exit.thenS]
 refine wpS_cond (t:=true) (by simp[Act.eval]) ?_
 simp only[if_true]
 refine wpS_of_wp ?_
 have HP:=hid h
 have HX:=hid hp
 have HA:=hid ha
 have HE:=hid he
 have cp:=zab (k:=0) hp rfl
 clear h hp ha he
 go_wp2_with (go_at_call 78;refine(place_any HP.out).mono ?_;rintro e w1 ⟨rfl,hb⟩;have HB:=hid hb;have hra:=(hb.block ba (lt_of_block HA.out)).trans HA.out;have hre:=(hb.block be (lt_of_block HE.out)).trans HE.out;have fa:=fun k=>zac (k:=k) hra;have fe:=fun k=>zac (k:=k) hre;have ca:=zab (k:=0) hra rfl;have ce:=zab (k:=0) hre rfl;have la:=lt_of_block hra;have le:=lt_of_block hre;clear hb hra hre)
 simp[bodyPostS,results,Tryz.results77]
 exact⟨w1,HB.out,rfl⟩
theorem catchP_idle (bp ba be:Nat) (w:World):CallsD Tryz.prog 77 #[.pointer (some ⟨bp,0,none⟩),.pointer (some ⟨ba,0,none⟩),.pointer (some ⟨be,0,none⟩)] .returning w fun e u' w'=>e=.returned (.tuple #[])∧u'=.returning∧w'=w:=by
 have hta:∀w:World,(Instr.typeAssert .nilIface 20 33 true).run Tryz.prog w=.ok (.tuple #[.int .i64 0,.bool false]) w:=fun w=>by kernel_rfl
 refine callsD_of_wpS Tryz.func77 rfl fun c₀ cs hu=>?_
 apply wpS_seq
 apply wpS_region
 simp[wpOpsS,go_sem,recoverD,hu,hta,Tryz.ntmps77,Exit.thenS]
 apply wpS_seq
 apply wpS_region
 simp[wpOpsS,go_sem,Exit.thenS]
 refine wpS_cond (t:=false) (by simp[Act.eval]) ?_
 simp only[Bool.false_eq_true,if_false]
 refine wpS_of_wp (wp_skip ?_)
 cases c₀
 simp_all [bodyPostS,results,Tryz.results77]
end
end Go.Proofs.YtljbbhhiiiepcaaGreatDoor.Pm
namespace Go.Proofs.YtljbbhhiiiepcaaGreatDoor.Pm
open Go Go.RowKit Go.Proofs.YtljbbhhiiiepcaaGreatDoor
open Go.Lib (hid)
def ReadPost {α:Type} (C:α→Value→Nat→World→Prop) (zero:Value) (l:List UInt8) (r:Ans α) (w:World) (e:Ending) (w':World):Prop:=Below w.heap.size w w'∧match r with
 | .ok a mo=>∃v,e=.returned (.tuple #[v,.int .i64 (mo:Nat),.int .i64 (l.length:Nat),.int .i64 0])∧C a v w.heap.size w'
 | .bad p n=>e=.returned (.tuple #[zero,.int .i64 0,.int .i64 (p:Nat),.int .i64 (n:Nat)])
def KT:Kd Tok:=⟨175,4,Lx.zd0,fun _ _ _=>True,fun _=>rfl,fun _ _=>trivial,fun _ _=>trivial⟩
theorem tok_rows {w:World} {base:Nat} {v:Value} {ts:List Tok} (h:w.ownsRow base 175 4 v ts.length (Lx.toksV ts)):∃a c,v=.slice a ts.length c∧RowsG KT w base a ts:=
 MadeG.rows (K:=KT) ⟨h,fun _ _=>trivial⟩
theorem pa_new {w2:World} {wa:Option Addr} {cap:Nat} {ts:List Tok} {z:Nat} {B0:Nat} (hz:z≤100000) (hm:ts.length≤100000) (hg:∀t∈ts,Good t) (hr:RowsG KT w2 B0 wa ts):
  Pa ⟨wa,cap,ts,z⟩ ((w2.alloc (.cells #[.slice wa ts.length cap,.int .i64 0,.int .i64 (z:Nat),.int .i64 0,.int .i64 0,.int .i64 0] 144)).alloc (.cells #[.pointer (some ⟨w2.heap.size,0,none⟩)] 110)).heap.size w2.heap.size ⟨ts,0,0,0⟩ ((w2.alloc (.cells #[.slice wa ts.length cap,.int .i64 0,.int .i64 (z:Nat),.int .i64 0,.int .i64 0,.int .i64 0] 144)).alloc (.cells #[.pointer (some ⟨w2.heap.size,0,none⟩)] 110)):=by
 have hp:posOf ⟨wa,cap,ts,z⟩ ⟨ts,0,0,0⟩=0:=by simp[posOf]
 refine⟨by simp<;>omega,Nat.le_refl _,by rw[hp];rfl,Nat.le_refl _,hm,hz,hg,Nat.zero_le _,Nat.zero_le _,Nat.zero_le _,?_,fun i hi=>?_⟩
 ·rw[show paV ⟨wa,cap,ts,z⟩ ⟨ts,0,0,0⟩=#[.slice wa ts.length cap,.int .i64 0,.int .i64 (z:Nat),.int .i64 0,.int .i64 0,.int .i64 0] by simp[hp]]
  exact zah _ (zaj w2 _)
 ·obtain⟨⟨b,o,e,-,hc⟩,-⟩:=hr i hi
  have h0:=hc 0 (.int .i64 ts[i].kind) rfl
  have hlt:=World.block_lt_of_cell? w2 _ h0
  refine⟨b,o,e,by simp at hlt ⊢;omega,by simp at hlt;omega,fun j v hv=>?_⟩
  rw[World.cell?_alloc_lt _ _ _ (by simp at hlt ⊢;omega),World.cell?_alloc_lt _ _ _ (by simpa using hlt)]
  exact hc j v hv
theorem below_grow {f:Nat} {w v v':World} (h:Below w.heap.size w v) (hg:v.grownBy v' (some f)) (hf:w.heap.size≤f):Below w.heap.size w v':=
 ⟨hg.os.trans h.os,hg.tape.trans h.tape,hg.output.trans h.output,Nat.le_trans h.size hg.size,fun b hb=>(hg.block b (Nat.lt_of_lt_of_le hb h.size) (by simp;omega)).trans (h.block b hb)⟩
theorem answer_bad {α:Type} {m n z:Nat} {rule:Nat→Nat→PS→PR α} {l:List UInt8} {ws:List Tok} {q:Nat} {s:PS} (e:lexP 0 l=(some ws,q)) (hz:z=l.length) (h:rule z m ⟨ws,0,0,0⟩=.bad n s):zb9 m rule l=.bad (place z s) n:=by
 subst hz
 unfold zb9 whole
 rw[e]
 simp only
 rw[h]
 rfl
theorem answer_end {α:Type} {m n z:Nat} {rule:Nat→Nat→PS→PR α} {l:List UInt8} {ws:List Tok} {q:Nat} {a:α} {s s9:PS} (e:lexP 0 l=(some ws,q)) (hz:z=l.length) (h:rule z m ⟨ws,0,0,0⟩=.ok a s) (hm:must s.ws.isEmpty s=.bad n s9):zb9 m rule l=.bad (place z s9) n:=by
 subst hz
 unfold must at hm
 split at hm
 ·cases hm
 ·rename_i hne
  cases hm
  unfold zb9 whole
  rw[e]
  simp only
  rw[h]
  show(match (if s.ws.isEmpty=true then PR.ok a s else .bad 3 s) with | .ok a s=>Ans.ok a s.mo | .bad n s=>.bad (place l.length s) n)=_
  rw[if_neg hne]
theorem answer_fine {α:Type} {m z:Nat} {rule:Nat→Nat→PS→PR α} {l:List UInt8} {ws:List Tok} {q:Nat} {a:α} {s s5:PS} {u:Unit} (e:lexP 0 l=(some ws,q)) (hz:z=l.length) (h:rule z m ⟨ws,0,0,0⟩=.ok a s) (hm:must s.ws.isEmpty s=.ok u s5):zb9 m rule l=.ok a s5.mo:=by
 subst hz
 unfold must at hm
 split at hm
 ·rename_i hne
  cases hm
  unfold zb9 whole
  rw[e]
  simp only
  rw[h]
  show(match (if s.ws.isEmpty=true then PR.ok a s else .bad 3 s) with | .ok a s=>Ans.ok a s.mo | .bad n s=>.bad (place l.length s) n)=_
  rw[if_pos hne]
 ·cases hm
section
variable {F:PC} {B f:Nat} {s:PS} {w W:World} {tmps:Array Value} {R ba be bp:Nat}
end
section
variable {w:World}
end
section
variable {w:World}
end
end Go.Proofs.YtljbbhhiiiepcaaGreatDoor.Pm
