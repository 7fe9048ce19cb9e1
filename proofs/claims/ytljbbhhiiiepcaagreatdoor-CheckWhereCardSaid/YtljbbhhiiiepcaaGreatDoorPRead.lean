/- What read defers: the error that was panicked with is told, with the place. -/
import Derived.Test.YtljbbhhiiiepcaaGreatDoorPText
import Derived.Test.YtljbbhhiiiepcaaGreatDoorPVars2
import Derived.Defers
import Derived.Recover
set_option linter.unusedSimpArgs false
set_option linter.unusedVariables false
set_option maxHeartbeats 8000000
set_option maxRecDepth 100000
namespace Go.Proofs.YtljbbhhiiiepcaaGreatDoor.Pm
open Go Go.RowKit Go.Proofs.YtljbbhhiiiepcaaGreatDoor
open Go.Lib (hid)
section
variable {F:PC} {B f:Nat} {s:PS} {w:World}
def Told (w:World) (ba be p n:Nat) (w':World):Prop:=∃w1,Below w.heap.size w w1∧w'=(w1.setCell ⟨ba,0,none⟩ (.int .i64 (p:Nat))).setCell ⟨be,0,none⟩ (.int .i64 (n:Nat))
theorem catchP_bad (h:Pa F B f s w) {bp ba be:Nat} {x y:Int} {n:Nat} (hp:w.heap[bp]?=some (.cells #[ptrP f] 110 (0,0))) (ha:w.heap[ba]?=some (.cells #[.int .i64 x] 3 (0,0))) (he:w.heap[be]?=some (.cells #[.int .i64 y] 33 (0,0))) (hne:ba≠be) (older:List PanicEntry):
  CallsD Tryz.prog 77 #[.pointer (some ⟨bp,0,none⟩),.pointer (some ⟨ba,0,none⟩),.pointer (some ⟨be,0,none⟩)] (.panicking ({v:=errV n,recovered:=false} :: older)) w fun e u' w' =>
   e=.returned (.tuple #[])∧u'=.panicking ({v:=errV n,recovered:=true} :: older)∧Told w ba be (place F.z s) n w':=by
 have hta:∀w:World,(Instr.typeAssert (errV n) 20 33 true).run Tryz.prog w=.ok (.tuple #[.int .i64 (n:Nat),.bool true]) w:=fun w=>by kernel_rfl
 refine callsD_of_wpS Tryz.func77 rfl fun c₀ cs hu=>?_
 apply wpS_seq
 apply wpS_region
 simp[wpOpsS,go_sem,recoverD,hu,hta,Tryz.ntmps77,Exit.thenS]
 apply wpS_seq
 apply wpS_region
 simp[wpOpsS,go_sem,Exit.thenS]
 refine wpS_cond (t:=true) (by simp[Act.eval]) ?_
 simp only[if_true]
 refine wpS_of_wp ?_
 have HP:=hid h
 have HX:=hid hp
 have HA:=hid ha
 have HE:=hid he
 have cp:=zab (k:=0) hp rfl
 clear h hp ha he
 go_wp2_with (go_at_call 78;refine(place_any HP.out).mono ?_;rintro e w1 ⟨rfl,hb⟩;have HB:=hid hb;have hra:=(hb.block ba (lt_of_block HA.out)).trans HA.out;have hre:=(hb.block be (lt_of_block HE.out)).trans HE.out;have fa:=fun k=>zac (k:=k) hra;have fe:=fun k=>zac (k:=k) hre;have ca:=zab (k:=0) hra rfl;have ce:=zab (k:=0) hre rfl;have la:=lt_of_block hra;have le:=lt_of_block hre;clear hb hra hre)
 simp[bodyPostS,results,Tryz.results77]
 exact⟨w1,HB.out,rfl⟩
theorem catchP_idle (bp ba be:Nat) (w:World):CallsD Tryz.prog 77 #[.pointer (some ⟨bp,0,none⟩),.pointer (some ⟨ba,0,none⟩),.pointer (some ⟨be,0,none⟩)] .returning w fun e u' w'=>e=.returned (.tuple #[])∧u'=.returning∧w'=w:=by
 have hta:∀w:World,(Instr.typeAssert .nilIface 20 33 true).run Tryz.prog w=.ok (.tuple #[.int .i64 0,.bool false]) w:=fun w=>by kernel_rfl
 refine callsD_of_wpS Tryz.func77 rfl fun c₀ cs hu=>?_
 apply wpS_seq
 apply wpS_region
 simp[wpOpsS,go_sem,recoverD,hu,hta,Tryz.ntmps77,Exit.thenS]
 apply wpS_seq
 apply wpS_region
 simp[wpOpsS,go_sem,Exit.thenS]
 refine wpS_cond (t:=false) (by simp[Act.eval]) ?_
 simp only[Bool.false_eq_true,if_false]
 refine wpS_of_wp (wp_skip ?_)
 cases c₀
 simp_all [bodyPostS,results,Tryz.results77]
end
end Go.Proofs.YtljbbhhiiiepcaaGreatDoor.Pm
namespace Go.Proofs.YtljbbhhiiiepcaaGreatDoor.Pm
open Go Go.RowKit Go.Proofs.YtljbbhhiiiepcaaGreatDoor
open Go.Lib (hid)
def ReadPost {α:Type} (C:α→Value→Nat→World→Prop) (zero:Value) (l:List UInt8) (r:Ans α) (w:World) (e:Ending) (w':World):Prop:=Below w.heap.size w w'∧match r with
 | .ok a mo=>∃v,e=.returned (.tuple #[v,.int .i64 (mo:Nat),.int .i64 (l.length:Nat),.int .i64 0])∧C a v w.heap.size w'
 | .bad p n=>e=.returned (.tuple #[zero,.int .i64 0,.int .i64 (p:Nat),.int .i64 (n:Nat)])
def KT:Kd Tok:=⟨175,4,Lx.zd4,fun _ _ _=>True,fun _=>rfl,fun _ _=>trivial,fun _ _=>trivial⟩
theorem tok_rows {w:World} {base:Nat} {v:Value} {ts:List Tok} (h:w.ownsRow base 175 4 v ts.length (Lx.toksV ts)):∃a c,v=.slice a ts.length c∧RowsG KT w base a ts:=
 MadeG.rows (K:=KT) ⟨h,fun _ _=>trivial⟩
theorem pa_new {w2:World} {wa:Option Addr} {cap:Nat} {ts:List Tok} {z:Nat} {B0:Nat} (hz:z≤100000) (hm:ts.length≤100000) (hg:∀t∈ts,Good t) (hr:RowsG KT w2 B0 wa ts):
  Pa ⟨wa,cap,ts,z⟩ ((w2.alloc (.cells #[.slice wa ts.length cap,.int .i64 0,.int .i64 (z:Nat),.int .i64 0,.int .i64 0,.int .i64 0] 144)).alloc (.cells #[.pointer (some ⟨w2.heap.size,0,none⟩)] 110)).heap.size w2.heap.size ⟨ts,0,0,0⟩ ((w2.alloc (.cells #[.slice wa ts.length cap,.int .i64 0,.int .i64 (z:Nat),.int .i64 0,.int .i64 0,.int .i64 0] 144)).alloc (.cells #[.pointer (some ⟨w2.heap.size,0,none⟩)] 110)):=by
 have hp:posOf ⟨wa,cap,ts,z⟩ ⟨ts,0,0,0⟩=0:=by simp[posOf]
 refine⟨by simp<;>omega,Nat.le_refl _,by rw[hp];rfl,Nat.le_refl _,hm,hz,hg,Nat.zero_le _,Nat.zero_le _,Nat.zero_le _,?_,fun i hi=>?_⟩
 ·rw[show paV ⟨wa,cap,ts,z⟩ ⟨ts,0,0,0⟩=#[.slice wa ts.length cap,.int .i64 0,.int .i64 (z:Nat),.int .i64 0,.int .i64 0,.int .i64 0] by simp[hp]]
  exact zai _ (zaj w2 _)
 ·obtain⟨⟨b,o,e,-,hc⟩,-⟩:=hr i hi
  have h0:=hc 0 (.int .i64 ts[i].kind) rfl
  have hlt:=World.block_lt_of_cell? w2 _ h0
  refine⟨b,o,e,by simp at hlt ⊢;omega,by simp at hlt;omega,fun j v hv=>?_⟩
  rw[World.cell?_alloc_lt _ _ _ (by simp at hlt ⊢;omega),World.cell?_alloc_lt _ _ _ (by simpa using hlt)]
  exact hc j v hv
theorem below_grow {f:Nat} {w v v':World} (h:Below w.heap.size w v) (hg:v.grownBy v' (some f)) (hf:w.heap.size≤f):Below w.heap.size w v':=
 ⟨hg.os.trans h.os,hg.tape.trans h.tape,hg.output.trans h.output,Nat.le_trans h.size hg.size,fun b hb=>(hg.block b (Nat.lt_of_lt_of_le hb h.size) (by simp;omega)).trans (h.block b hb)⟩
theorem answer_bad {α:Type} {m n z:Nat} {rule:Nat→Nat→PS→PR α} {l:List UInt8} {ws:List Tok} {q:Nat} {s:PS} (e:lexP 0 l=(some ws,q)) (hz:z=l.length) (h:rule z m ⟨ws,0,0,0⟩=.bad n s):zb9 m rule l=.bad (place z s) n:=by
 subst hz
 unfold zb9 whole
 rw[e]
 simp only
 rw[h]
 rfl
theorem answer_end {α:Type} {m n z:Nat} {rule:Nat→Nat→PS→PR α} {l:List UInt8} {ws:List Tok} {q:Nat} {a:α} {s s9:PS} (e:lexP 0 l=(some ws,q)) (hz:z=l.length) (h:rule z m ⟨ws,0,0,0⟩=.ok a s) (hm:must s.ws.isEmpty s=.bad n s9):zb9 m rule l=.bad (place z s9) n:=by
 subst hz
 unfold must at hm
 split at hm
 ·cases hm
 ·rename_i hne
  cases hm
  unfold zb9 whole
  rw[e]
  simp only
  rw[h]
  show(match (if s.ws.isEmpty=true then PR.ok a s else .bad 3 s) with | .ok a s=>Ans.ok a s.mo | .bad n s=>.bad (place l.length s) n)=_
  rw[if_neg hne]
theorem answer_fine {α:Type} {m z:Nat} {rule:Nat→Nat→PS→PR α} {l:List UInt8} {ws:List Tok} {q:Nat} {a:α} {s s5:PS} {u:Unit} (e:lexP 0 l=(some ws,q)) (hz:z=l.length) (h:rule z m ⟨ws,0,0,0⟩=.ok a s) (hm:must s.ws.isEmpty s=.ok u s5):zb9 m rule l=.ok a s5.mo:=by
 subst hz
 unfold must at hm
 split at hm
 ·rename_i hne
  cases hm
  unfold zb9 whole
  rw[e]
  simp only
  rw[h]
  show(match (if s.ws.isEmpty=true then PR.ok a s else .bad 3 s) with | .ok a s=>Ans.ok a s.mo | .bad n s=>.bad (place l.length s) n)=_
  rw[if_pos hne]
 ·cases hm
section
variable {F:PC} {B f:Nat} {s:PS} {w W:World} {tmps:Array Value} {R ba be bp:Nat}
end
section
variable {w:World}
end
section
variable {w:World}
end
end Go.Proofs.YtljbbhhiiiepcaaGreatDoor.Pm
