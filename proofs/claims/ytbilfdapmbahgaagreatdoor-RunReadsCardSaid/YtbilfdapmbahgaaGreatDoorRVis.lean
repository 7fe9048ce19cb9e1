/- The watcher of Visits: each node that comes on, with main's cells. -/
import Derived.Test.YtbilfdapmbahgaaGreatDoorECells
import Derived.Test.YtbilfdapmbahgaaGreatDoorKCrit
import Derived.Test.YtbilfdapmbahgaaGreatDoorRCall
import Derived.Defers
import Derived.Recover
set_option linter.unusedSimpArgs false
set_option linter.unusedVariables false
set_option maxHeartbeats 8000000
set_option maxRecDepth 100000
namespace Go.Proofs.YtbilfdapmbahgaaGreatDoor.Rn
open Go Go.RowKit Go.Proofs.YtbilfdapmbahgaaGreatDoor Go.Proofs.YtbilfdapmbahgaaGreatDoor.Ev
open Go.Lib (hid)
open Go.Proofs.YtbilfdapmbahgaaGreatDoor.Ck (chkF critF Small StrsIn check_any crit_any)
open Go.Lib (hid)
def wrongN (l:List FT) (tag:Int) (vars:List ByteArray):Nat:=if tag=0 then (chkF l).1 else critF l tag vars
def refN (l:List FT) (fuel tag:Int) (vars:List ByteArray):Nat:=if wrongN l tag vars≠0 then wrongN l tag vars else if fuel < 0∨1048576 < fuel then 1 else 0
section
variable {w0:World} {a va:Option Addr} {l:List FT} {c vc:Nat} {tag fuel:Int} {L:List ByteArray}
theorem wrong_any (hin:FsIn w0 0 a l) (hsm:Small l) (ht:-9223372036854775808≤tag∧tag≤9223372036854775807) (hl:L.length≤9223372036854775807) (hL:StrsIn w0 0 va L) (w:World) (hp:Past w0 w):
  Calls Tryz.prog 53 #[.agg #[.slice a l.length c],.int .i64 tag,.slice va L.length vc] w fun e w'=>e=.returned (.int .i64 (wrongN l tag L:Nat))∧Below w.heap.size w w':=by
 have HC:=hid (fun W (hW:Past w0 W)=>check_any hin hsm c W hW)
 have HT:=hid (fun W (hW:Past w0 W)=>crit_any hin hsm c tag ht va vc L hl hL W hW)
 have HP:=hid hp
 have HW:Hid (wrongN l tag L=if tag=0 then (chkF l).1 else critF l tag L):=hid rfl
 generalize wrongN l tag L=wn at HW ⊢
 generalize hq:chkF l=q at *
 obtain⟨q1,q2⟩:=q
 generalize critF l tag L=cn at *
 clear hin hsm hl hL hp hq
 by_cases h0:tag=0
 ·have e0:(tag != 0)=false:=by simpa using h0
  have HW2:Hid (wn=q1):=hid (by have:=HW.out;rw[if_pos h0] at this;exact this)
  clear HW HT h0
  go_enter Tryz.func53,Tryz.ntmps53
  go_wp2_with (go_at_call 89;(with_reducible refine(HC.out _ (HP.out.alloc _)).mono ?_);rintro e w1 ⟨rfl,hb⟩;have HB:=hid hb;clear hb)
  go_ret
  exact⟨by rw[HW2.out];rfl,zae ((Below.refl _ _).alloc (Nat.le_refl _) _) HB.out⟩
 ·have e0:(tag != 0)=true:=by simpa using h0
  have HW2:Hid (wn=cn):=hid (by have:=HW.out;rw[if_neg h0] at this;exact this)
  clear HW HC h0
  go_enter Tryz.func53,Tryz.ntmps53
  go_wp2_with (go_at_call 88;(with_reducible refine(HT.out _ (HP.out.alloc _)).mono ?_);rintro e w1 ⟨rfl,hb⟩;have HB:=hid hb;clear hb)
  go_ret
  exact⟨by rw[HW2.out];rfl,zae ((Below.refl _ _).alloc (Nat.le_refl _) _) HB.out⟩
theorem zeD (hin:FsIn w0 0 a l) (hsm:Small l) (ht:-9223372036854775808≤tag∧tag≤9223372036854775807) (hl:L.length≤9223372036854775807) (hL:StrsIn w0 0 va L) (w:World) (hp:Past w0 w):
  Calls Tryz.prog 30 #[.agg #[.slice a l.length c],.int .i64 fuel,.int .i64 tag,.slice va L.length vc] w fun e w'=>e=.returned (.int .i64 (refN l fuel tag L:Nat))∧Below w.heap.size w w':=by
 have HWR:=hid (fun W (hW:Past w0 W)=>wrong_any (c:=c) (vc:=vc) hin hsm ht hl hL W hW)
 have HP:=hid hp
 have HR:Hid (refN l fuel tag L=if wrongN l tag L≠0 then wrongN l tag L else if fuel < 0∨1048576 < fuel then 1 else 0):=hid rfl
 generalize refN l fuel tag L=rn at HR ⊢
 generalize wrongN l tag L=wn at *
 clear hin hsm hl hL hp ht
 by_cases h0:wn=0
 ·subst h0
  by_cases h1:fuel < 0
  ·have e1:decide (fuel < 0)=true:=by simpa using h1
   have HX:Hid (rn=1):=hid (by have:=HR.out;simpa[h1] using this)
   clear HR h1
   go_enter Tryz.func30,Tryz.ntmps30
   go_wp2_with (go_at_call 53;(with_reducible refine(HWR.out _ (HP.out.alloc _)).mono ?_);rintro e w1 ⟨rfl,hb⟩;have HB:=hid hb;clear hb)
   go_ret
   exact⟨by rw[HX.out];rfl,zae ((Below.refl _ _).alloc (Nat.le_refl _) _) HB.out⟩
  ·have e1:decide (fuel < 0)=false:=by simpa using h1
   by_cases h2:1048576 < fuel
   ·have e2:decide (1048576 < fuel)=true:=by simpa using h2
    have HX:Hid (rn=1):=hid (by have:=HR.out;simpa[h2] using this)
    clear HR h1 h2
    go_enter Tryz.func30,Tryz.ntmps30
    go_wp2_with (go_at_call 53;(with_reducible refine(HWR.out _ (HP.out.alloc _)).mono ?_);rintro e w1 ⟨rfl,hb⟩;have HB:=hid hb;clear hb)
    go_ret
    exact⟨by rw[HX.out];rfl,zae ((Below.refl _ _).alloc (Nat.le_refl _) _) HB.out⟩
   ·have e2:decide (1048576 < fuel)=false:=by simpa using h2
    have HX:Hid (rn=0):=hid (by have:=HR.out;rw[if_neg (by simp),if_neg (by omega)] at this;exact this)
    clear HR h1 h2
    go_enter Tryz.func30,Tryz.ntmps30
    go_wp2_with (go_at_call 53;(with_reducible refine(HWR.out _ (HP.out.alloc _)).mono ?_);rintro e w1 ⟨rfl,hb⟩;have HB:=hid hb;clear hb)
    go_ret
    exact⟨by rw[HX.out];rfl,zae ((Below.refl _ _).alloc (Nat.le_refl _) _) HB.out⟩
 ·have e0:((wn:Int) != 0)=true:=by rw[bne_iff_ne];omega
  have HX:Hid (rn=wn):=hid (by have:=HR.out;rw[if_pos h0] at this;exact this)
  clear HR h0
  go_enter Tryz.func30,Tryz.ntmps30
  go_wp2_with (go_at_call 53;(with_reducible refine(HWR.out _ (HP.out.alloc _)).mono ?_);rintro e w1 ⟨rfl,hb⟩;have HB:=hid hb;clear hb)
  go_ret
  exact⟨by rw[HX.out];rfl,zae ((Below.refl _ _).alloc (Nat.le_refl _) _) HB.out⟩
end
def zdQ (L:List PC) (vars:List ByteArray):List Int:=vars.map fun s=>oneV (getV L s.data.toList false 0)
structure NumsR (L:List PC) (vars:List ByteArray) (w wr:World) (n:Nat):Prop where
 below:Below w.heap.size w wr
 row:∃cur,wr.heap[w.heap.size]?=some (.cells cur 2 (0,0))∧cur.size=vars.length∧∀i (h:i < vars.length),i < n→cur[i]?=some (.int .i64 (oneV (getV L vars[i].data.toList false 0)))
theorem nums_step {L:List PC} {vars:List ByteArray} {w wr:World} {n:Nat} {cur:Array Value} {z:Int} (h:Below w.heap.size w wr∧wr.heap[w.heap.size]?=some (.cells cur 2 (0,0))∧cur.size=vars.length∧(∀i (h:i < vars.length),i < n→cur[i]?=some (.int .i64 (oneV (getV L vars[i].data.toList false 0))))∧n < vars.length) (hz:oneV (getV L (vars[n]'h.2.2.2.2).data.toList false 0)=z):
  ∃m:Nat,m≤vars.length∧Value.int .i64 ((n:Int)+1)=.int .i64 m∧NumsR L vars w (wr.setCell ⟨w.heap.size,n,none⟩ (.int .i64 z)) m:=by
 obtain⟨hb,hcur,hcs,hcv,hlt⟩:=h
 refine⟨n+1,hlt,by go_num,hb.setCell (p:=⟨w.heap.size,n,none⟩) (Nat.le_refl _) _,_,zat (k:=n) (.int .i64 z) hcur,by simpa using hcs,fun i h hi=>?_⟩
 rw[Array.getElem?_setIfInBounds]
 by_cases e:n=i
 ·subst e;rw[if_pos rfl,if_pos (by omega),hz]
 ·rw[if_neg e];exact hcv i h (by omega)
theorem numbers_any {w0 w:World} {B E:Nat} {blk:Nat→Nat} {L:List PC} {va:Option Addr} {vc:Nat} {vars:List ByteArray} (hE:EnvIn B E blk L w) (hv:StrsIn w 0 va vars) (hl:vars.length≤1000) (hz:∀s∈vars,s.size≤maxLen):
  Calls Tryz.prog 33 #[ptr E,.slice va vars.length vc] w fun e w'=>e=.returned (.slice (some ⟨w.heap.size,0,none⟩) vars.length vars.length)∧Below w.heap.size w w'∧w'.heap[w.heap.size]?=some (.cells (numV (zdQ L vars)) 2 (0,0)):=by
 have hmk:=fun W=>made_many vars.length hl W
 have HE:=hid hE
 have HV:=hid hv
 have HZ:=hid hz
 clear hE hv hz
 go_enter Tryz.func33,Tryz.ntmps33
 go_wp2
 go_loopw [6,7,13] (fun _ _ i wr=>∃n:Nat,n≤vars.length∧i=.int .i64 n∧NumsR L vars w wr n) (fun _ _ i _=>vars.length - (intOf i).toNat)
 case atStart=>exact⟨0,Nat.zero_le _,rfl,⟨(Below.refl _ _).alloc (Nat.le_refl _) _,⟨_,zah w _,size_madeCells _ _,fun j _ h=>by omega⟩⟩⟩
 case round =>
  clear hmk
  obtain⟨n,hn,rfl,hb,cur,hcur,hcs,hcv⟩:=hrel
  by_cases hlt:n < vars.length
  ·obtain⟨sb,so,rfl,-,hsc⟩:=HV.out n hlt
   have hnc:wr.cell? ⟨sb,so+n,none⟩=some (.string vars[n]):=by
    rw[World.cell?_of_block (w:=w) (hb.block sb (World.block_lt_of_cell? w _ hsc))];exact hsc
   have nl:=World.block_lt_of_cell? wr _ hnc
   have HG:=hid (get_any (HE.out.on hb) vars[n] (HZ.out _ (List.getElem_mem hlt)))
   have hA:=zab (k:=n) hcur (Array.getElem?_eq_getElem (by omega))
   generalize cur[n]'(by omega)=vA at hA
   have fA:=zaf (k:=n) hcur
   have lA:=lt_of_block hcur
   have HR:=hid (show _∧_∧_∧_∧_ from⟨hb,hcur,hcs,hcv,hlt⟩)
   have HX:Hid (oneV (getV L vars[n].data.toList false 0)=oneV (getV L vars[n].data.toList false 0)):=hid rfl
   clear hb hcur hcs hcv hsc
   cases hg:getV L vars[n].data.toList false 0 with
   | none =>
    rw[hg] at HG
    unfold zeA at HG
    have HGV:=hid hg
    clear hg HX
    go_wp2_with (go_at_call 55;(with_reducible refine HG.out.mono ?_);rintro e w1 ⟨rfl,rfl⟩)
    go_round
    case rel=>exact nums_step HR.out (by rw[HGV.out];rfl)
    case measure=>simp[intOf];have:=HR.out.2.2.2.2;omega
   | some z =>
    rw[hg] at HG
    unfold zeA at HG
    have HGV:=hid hg
    clear hg HX
    go_wp2_with (go_at_call 55;(with_reducible refine HG.out.mono ?_);rintro e w1 ⟨rfl,rfl⟩)
    go_round
    case rel=>exact nums_step HR.out (by rw[HGV.out];rfl)
    case measure=>simp[intOf];have:=HR.out.2.2.2.2;omega
  ·obtain rfl:n=vars.length:=by omega
   have HR:Hid (Below w.heap.size w wr∧wr.heap[w.heap.size]?=some (.cells (numV (zdQ L vars)) 2 (0,0))):=hid ⟨hb,by
    have e:cur=numV (zdQ L vars):=by
     apply Array.ext_getElem?
     intro i
     rw[show(numV (zdQ L vars))[i]?=(vars[i]?).map (fun s=>Value.int .i64 (oneV (getV L s.data.toList false 0))) by unfold numV zdQ;simp[Function.comp_def]]
     by_cases h:i < vars.length
     ·rw[hcv i h h,List.getElem?_eq_getElem h];rfl
     ·rw[Array.getElem?_eq_none (by omega),List.getElem?_eq_none (by omega)];rfl
    rw[←e]
    exact hcur⟩
   clear hb hcur hcs hcv
   go_wp2
   go_ret
   exact⟨rfl,HR.out.1,HR.out.2⟩
end Go.Proofs.YtbilfdapmbahgaaGreatDoor.Rn

namespace Go.Proofs.YtbilfdapmbahgaaGreatDoor.Rn
open Go Go.RowKit Go.Proofs.YtbilfdapmbahgaaGreatDoor Go.Proofs.YtbilfdapmbahgaaGreatDoor.Ev
open Go.Lib (hid)
open Go.Proofs.YtbilfdapmbahgaaGreatDoor.Ck (StrsIn)
open Go.Lib (hid)
def tracedB (tag:Int) (u:Vis):Bool:=decide (0 < tag∧(u.tag:Int)=tag)
def zdm (tag:Int) (vars:List ByteArray) (ev:List Vis):List (List Int):=(ev.filter (tracedB tag)).map fun u=>zdQ u.cells vars
theorem rowsT_snoc (tag:Int) (vars:List ByteArray) (ev:List Vis) (u:Vis):zdm tag vars (ev++[u])=if tracedB tag u then zdm tag vars ev++[zdQ u.cells vars] else zdm tag vars ev:=by
 unfold zdm
 rw[List.filter_append,List.map_append]
 by_cases h:tracedB tag u=true
 ·rw[if_pos h,List.filter_cons_of_pos h];rfl
 ·rw[if_neg h,List.filter_cons_of_neg h];simp
structure TrR (Wb:Nat) (rows:List (List Int)) (fp:Nat→Prop) (w:World):Prop where
 wb:fp Wb
 lt:∀b,fp b→b < w.heap.size
 ex:∃v bs,w.heap[Wb]?=some (.cells #[v] 34 (0,0))∧bs.length=rows.length∧w.ownsRow 0 40 1 v rows.length (rows.zipWith (fun r b=>.slice (some ⟨b,0,none⟩) r.length r.length) bs)∧(∀g,v.ownBlock=some g→fp g∧g≠Wb) ∧
  ∀(i b:Nat) (r:List Int),bs[i]?=some b→rows[i]?=some r→fp b∧v.ownBlock≠some b∧b≠Wb∧w.heap[b]?=some (.cells (numV r) 2 (0,0))
theorem TrR.keep {Wb:Nat} {rows:List (List Int)} {fp:Nat→Prop} {w w':World} (h:TrR Wb rows fp w) (hk:∀b,fp b→w'.heap[b]?=w.heap[b]?):TrR Wb rows fp w':=by
 obtain⟨h1,h2,v,bs,h3,h4,h5,h6,h7⟩:=h
 refine⟨h1,fun b hb=>?_,v,bs,(hk _ h1).trans h3,h4,ze5 h5 fun b hb=>hk b (h6 b hb).1,h6,fun i b r hb hr=>?_⟩
 ·have:=hk b hb
  have h8:=h2 b hb
  rcases Nat.lt_or_ge b w'.heap.size with h9 | h9
  ·exact h9
  ·rw[Array.getElem?_eq_none h9,Array.getElem?_eq_getElem h8] at this
   cases this
 ·obtain⟨a1,a2,a3,a4⟩:=h7 i b r hb hr
  exact⟨a1,a2,a3,(hk b a1).trans a4⟩
theorem tr_nil {Wb:Nat} {w:World} (h:w.heap[Wb]?=some (.cells #[.slice none 0 0] 34 (0,0))):TrR Wb [] (·=Wb) w:=
 ⟨rfl,fun b hb=>by have:b=Wb:=hb;subst this;exact lt_of_block h,.slice none 0 0,[],h,rfl,World.ownsRow_nil _ _ _ _,(fun g hg=>by simp[Value.ownBlock] at hg),(fun i b r hb hr=>by simp at hb)⟩
abbrev capsR (Tb Wb Vb:Nat):Array Value:=#[ptr Tb,ptr Wb,ptr Vb]
structure AskR (ws:World) (Tb Vb:Nat) (tag:Int) (va:Option Addr) (vc:Nat) (vars:List ByteArray):Prop where
 t:ws.cell? ⟨Tb,0,none⟩=some (.int .i64 tag)
 v:ws.cell? ⟨Vb,0,none⟩=some (.slice va vars.length vc)
 s:StrsIn ws 0 va vars
 len:vars.length≤1000
 max:∀s∈vars,s.size≤maxLen
theorem tr_snoc {Wb nv:Nat} {rows:List (List Int)} {row:List Int} {fp:Nat→Prop} {w w2 w5:World} {ao:Option Addr} {cap kap g rb:Nat} {bs:List Nat} {ob:Obj}
  (hT:fp Wb∧(∀b,fp b→b < w.heap.size)∧w.heap[Wb]?=some (.cells #[.slice ao rows.length cap] 34 (0,0))∧bs.length=rows.length∧w.ownsRow 0 40 1 (.slice ao rows.length cap) rows.length (rows.zipWith (fun r b=>.slice (some ⟨b,0,none⟩) r.length r.length) bs)∧(∀g,(Value.slice ao rows.length cap).ownBlock=some g→fp g∧g≠Wb)∧∀(i b:Nat) (r:List Int),bs[i]?=some b→rows[i]?=some r→fp b∧(Value.slice ao rows.length cap).ownBlock≠some b∧b≠Wb∧w.heap[b]?=some (.cells (numV r) 2 (0,0)))
  (hb2:Below w.heap.size w w2) (hr:w.heap.size≤rb∧rb < w2.heap.size∧w2.heap[rb]?=some (.cells (numV row) 2 (0,0))∧row.length=nv)
  (hx:w5.ownsRow 0 40 1 (.slice (some ⟨g,0,none⟩) (rows.length+1) kap) (rows.length+1) (rows.zipWith (fun r b=>.slice (some ⟨b,0,none⟩) r.length r.length) bs++[.slice (some ⟨rb,0,none⟩) nv nv])∧(w2.alloc ob).grownBy w5 (Value.slice ao rows.length cap).ownBlock∧((Value.slice ao rows.length cap).ownBlock=some g∨g=(w2.alloc ob).heap.size)∧g < w5.heap.size) {x:Value}
  (h5:w5.heap[Wb]?=some (.cells #[x] 34 (0,0))):
  ∃fp',TrR Wb (rows++[row]) fp' (w5.setCell ⟨Wb,0,none⟩ (.slice (some ⟨g,0,none⟩) (rows.length+1) kap))∧(∀b,fp' b→fp b∨w.heap.size≤b)∧Old w.heap.size fp w (w5.setCell ⟨Wb,0,none⟩ (.slice (some ⟨g,0,none⟩) (rows.length+1) kap)):=by
 obtain⟨t1,t2,t3,t4,t5,t6,t7⟩:=hT
 obtain⟨r1,r2,r3,r4⟩:=hr
 obtain⟨x1,x2,x3,x4⟩:=hx
 have hsz:(w2.alloc ob).heap.size=w2.heap.size+1:=by simp
 have s5:=x2.size
 have s2:=hb2.size
 have hWl:=t2 _ t1
 have hk:∀b,b < w2.heap.size→(Value.slice ao rows.length cap).ownBlock≠some b→b≠Wb→(w5.setCell ⟨Wb,0,none⟩ (.slice (some ⟨g,0,none⟩) (rows.length+1) kap)).heap[b]?=w2.heap[b]?:=fun b h1 h2 h3 =>
  (Below.heap_setCell _ _ _ _ h3).trans ((x2.block b (by omega) (fun e=>h2 e.symm)).trans (Below.heap_alloc w2 ob b h1))
 have hg:g≠Wb:=by
  rcases x3 with h | h
  ·exact(t6 g h).2
  ·omega
 refine⟨fun b=>fp b∨(w.heap.size≤b∧b < w5.heap.size),⟨.inl t1,fun b hb=>?_,.slice (some ⟨g,0,none⟩) (rows.length+1) kap,bs++[rb],(zat (k:=0) _ h5).trans rfl,by simp[t4],?_,fun g' hg'=>?_,fun i b r hb hr=>?_⟩,fun b hb=>hb.imp id fun h=>h.1,⟨x2.os.trans hb2.os,x2.tape.trans hb2.tape,x2.output.trans hb2.output,by simp[World.setCell];omega,fun b h1 h2=>?_⟩⟩
 ·rcases hb with hb | hb
  ·have:=t2 b hb;simp[World.setCell];omega
  ·simp[World.setCell];omega
 ·rw[List.length_append,List.length_singleton,List.zipWith_append t4.symm]
  refine ze5 (w:=w5) (by rw[show(List.zipWith (fun(r:List Int) (b:Nat)=>Value.slice (some ⟨b,0,none⟩) r.length r.length) [row] [rb])=[Value.slice (some ⟨rb,0,none⟩) nv nv] by simp[r4]];exact x1) fun b hb=>Below.heap_setCell _ _ _ _ ?_
  simp only[Value.ownBlock,Option.some.injEq] at hb
  subst hb
  exact hg
 ·simp only[Value.ownBlock,Option.some.injEq] at hg'
  subst hg'
  refine⟨?_,hg⟩
  rcases x3 with h | h
  ·exact .inl (t6 _ h).1
  ·exact .inr ⟨by omega,x4⟩
 ·by_cases hi:i < rows.length
  ·rw[List.getElem?_append_left (by omega)] at hb
   rw[List.getElem?_append_left hi] at hr
   obtain⟨a1,a2,a3,a4⟩:=t7 i b r hb hr
   have hbl:=t2 b a1
   refine⟨.inl a1,?_,a3,(hk b (by omega) a2 a3).trans ((hb2.block b hbl).trans a4)⟩
   intro e
   simp only[Value.ownBlock,Option.some.injEq] at e
   subst e
   rcases x3 with h | h
   ·exact a2 h
   ·omega
  ·rw[List.getElem?_append_right (by omega)] at hb
   rw[List.getElem?_append_right (by omega)] at hr
   have e1:i - bs.length=0:=by
    rcases Nat.eq_zero_or_pos (i - bs.length) with h | h
    ·exact h
    ·rw[List.getElem?_eq_none (by simp;omega)] at hb;cases hb
   rw[e1] at hb
   rw[show i - rows.length=0 by omega] at hr
   simp only[List.getElem?_cons_zero,Option.some.injEq] at hb hr
   subst hb
   subst hr
   have hne:(Value.slice ao rows.length cap).ownBlock≠some rb:=fun h=>by have:=t2 _ (t6 _ h).1;omega
   refine⟨.inr ⟨r1,by omega⟩,?_,by omega,(hk rb r2 hne (by omega)).trans r3⟩
   intro e
   simp only[Value.ownBlock,Option.some.injEq] at e
   subst e
   rcases x3 with h | h
   ·exact hne h
   ·omega
 ·have hbo:(Value.slice ao rows.length cap).ownBlock≠some b:=fun h=>h2 (t6 _ h).1
  exact(hk b (by omega) hbo (fun e=>h2 (e▸t1))).trans (hb2.block b h1)
theorem list_info:(Tryz.prog.info? 40).map (fun i=>(i.zero,i.size,i.bytes))=some (some (.slice none 0 0),1,24):=by kernel_rfl
section
variable {ws w:World} {Tb Wb Vb:Nat} {tag:Int} {va:Option Addr} {vc:Nat} {vars:List ByteArray}
theorem run1_no (hA:AskR ws Tb Vb tag va vc vars) (hS:Sta ws w) {nb no t:Nat} (E:Nat) (h1:w.cell? ⟨nb,no+1,none⟩=some (.int .i64 (t:Nat))) (hn:¬(0 < tag∧(t:Int)=tag)):
  Calls Tryz.prog 32 (#[nptr nb no,ptr E]++capsR Tb Wb Vb) w fun e w'=>e=.returned (.tuple #[])∧Below w.heap.size w w':=by
 have ct:=hS.cell _ _ hA.t
 have tl:=World.block_lt_of_cell? w _ ct
 have nl:=World.block_lt_of_cell? w _ h1
 clear hA hS
 by_cases h0:0 < tag
 ·have e0:decide (0 < tag)=true:=by simpa using h0
  have e1:((t:Int)==tag)=false:=by rw[beq_eq_false_iff_ne];exact fun h=>hn ⟨h0,h⟩
  clear hn
  go_enter Tryz.func32,Tryz.ntmps32
  go_wp2
  go_quiet (fail)
  go_wp2
  go_end0
  exact⟨rfl,bl_drewN _⟩
 ·have e0:decide (0 < tag)=false:=by simpa using h0
  clear hn
  go_enter Tryz.func32,Tryz.ntmps32
  go_wp2
  go_quiet (fail)
  go_wp2
  go_end0
  exact⟨rfl,bl_drewN _⟩
theorem run1_yes (hA:AskR ws Tb Vb tag va vc vars) (hS:Sta ws w) {rows:List (List Int)} {fp:Nat→Prop} (hT:TrR Wb rows fp w) (hm:rows.length≤1048576) {nb no t B E M:Nat} {blk:Nat→Nat} {L:List PC} (hE:EnvIn B E blk L w) (h1:w.cell? ⟨nb,no+1,none⟩=some (.int .i64 (t:Nat))) (h0:0 < tag) (ht:(t:Int)=tag):
  Calls Tryz.prog 32 (#[nptr nb no,ptr E]++capsR Tb Wb Vb) w fun e w'=>e=.returned (.tuple #[])∧∃fp',TrR Wb (rows++[zdQ L vars]) fp' w'∧(∀b,fp' b→fp b∨w.heap.size≤b)∧Old w.heap.size fp w w':=by
 obtain⟨ei,hi,hz0,hz1,hz2⟩:=info_parts list_info
 obtain⟨hwb,hlt,v,bs,hv,hbl,hown,hvo,hrows⟩:=hT
 obtain⟨ao,cap,rfl⟩:=zbn hown
 have ct:=hS.cell _ _ hA.t
 have tl:=World.block_lt_of_cell? w _ ct
 have nl:=World.block_lt_of_cell? w _ h1
 have cv:=hS.cell _ _ hA.v
 have vl:=World.block_lt_of_cell? w _ cv
 have cw:=zab (k:=0) hv rfl
 have cf:=zaf (k:=0) hv
 have wl:=lt_of_block hv
 have HNB:Hid (∀W,Below w.heap.size w W→Calls Tryz.prog 33 #[ptr E,.slice va vars.length vc] W fun e w'=>e=.returned (.slice (some ⟨W.heap.size,0,none⟩) vars.length vars.length)∧Below W.heap.size W w'∧w'.heap[W.heap.size]?=some (.cells (numV (zdQ L vars)) 2 (0,0))):=hid fun W hW=>numbers_any (w0:=w) (hE.on hW) (fun i h=>by
  obtain⟨b,o,e,-,hc⟩:=hA.s i h
  refine⟨b,o,e,Nat.zero_le _,?_⟩
  have h9:=hS.cell _ _ hc
  rw[World.cell?_of_block (w:=w) (hW.block b (World.block_lt_of_cell? w _ h9))]
  exact h9) hA.len hA.max
 have HT:=hid (show _∧_∧_∧_∧_∧_∧_ from⟨hwb,hlt,hv,hbl,hown,hvo,hrows⟩)
 have HM:=hid (And.intro hm hA.len)
 have e0:decide (0 < tag)=true:=by simpa using h0
 have e1:((t:Int)==tag)=true:=by rw[beq_iff_eq];exact ht
 clear hwb hlt hv hbl hown hvo hrows hE hA hS h0 ht hm
 go_enter Tryz.func32,Tryz.ntmps32
 go_wp2
 go_quiet (fail)
 go_wp2
 have hbw:Below w.heap.size w (w.drewN nq):=bl_drewN _
 generalize w.drewN nq=W1 at hbw ⊢
 have HBW:=hid hbw
 have c3:=hbw.cell (p:=⟨Wb,0,none⟩) wl
 have c4:=hbw.cell (p:=⟨Vb,0,none⟩) vl
 rw[cw] at c3
 rw[cv] at c4
 have l3:=Nat.lt_of_lt_of_le wl hbw.size
 have l4:=Nat.lt_of_lt_of_le vl hbw.size
 have HWL:=hid (And.intro wl vl)
 have HCW:=hid (And.intro cw cv)
 have HNN:=hid (HNB.out _ (show Below w.heap.size w W1.drew from hbw.drew))
 clear ct tl nl cv vl cw cf wl h1 hbw e0 e1
 go_region_law (first
  | (go_simp;go_at_call 33;(with_reducible refine HNN.out.mono ?_);rintro e w2 ⟨rfl,hb2,hr2⟩;have hbw2:Below w.heap.size w w2:=(HBW.out.drew.trans (hb2.mono HBW.out.size));have c3:=hbw2.cell (p:=⟨Wb,0,none⟩) HWL.out.1;have c4:=hbw2.cell (p:=⟨Vb,0,none⟩) HWL.out.2;rw[HCW.out.1] at c3;rw[HCW.out.2] at c4;have l3:=Nat.lt_of_lt_of_le HWL.out.1 hbw2.size;have l4:=Nat.lt_of_lt_of_le HWL.out.2 hbw2.size;have HB2:=hid hbw2;have HR2:=hid hr2;clear hb2 hr2 hbw2)
  | (refine step_append_lies _ (by rfl) _ _ _ (by rfl) 0 40 ei _ 1 24 Tryz.underlying34 hi hz0 hz1 hz2 rfl (by decide) (.slice ao rows.length cap) rows.length (rows.zipWith (fun r b=>.slice (some ⟨b,0,none⟩) r.length r.length) bs) rfl ((own_on HT.out.2.2.2.2.1 HB2.out).alloc _) ⟨w2.heap.size,0,none⟩ 1 1 [.slice (some ⟨W1.heap.size,0,none⟩) vars.length vars.length] rfl rfl (World.news_of_block (zah w2 (.cells #[.slice (some ⟨W1.heap.size,0,none⟩) vars.length vars.length] 40))) (by intro u hu;simp only[List.mem_singleton] at hu;subst hu;rfl) (by decide) (by have:=HM.out.1;unfold maxLen;omega) (by have:=HM.out.1;omega) (Nat.zero_le _) _ rfl ?_;intro g kap w5 hown5 hgrow hat hlt5;have HX:=hid (And.intro hown5 (And.intro hgrow (And.intro hat hlt5)));have r5:=(hgrow.block Wb (by have:=HB2.out.size;have:=HWL.out.1;simp;omega) (fun e=>(HT.out.2.2.2.2.2.1 _ e.symm).2 rfl)).trans (zak (.cells #[.slice (some ⟨W1.heap.size,0,none⟩) vars.length vars.length] 40) ((HB2.out.block Wb HWL.out.1).trans HT.out.2.2.1));have z1:=zab (k:=0) r5 rfl;have z2:=zaf (k:=0) r5;have z3:=lt_of_block r5;have HR5:=hid r5;clear hown5 hgrow hat r5))
 all_goals
  go_wp2
  go_end0
  exact⟨rfl,tr_snoc (row:=zdQ L vars) HT.out HB2.out ⟨HBW.out.size,lt_of_block HR2.out,HR2.out,by simp[zdQ]⟩ HX.out HR5.out⟩
theorem wat_run {C:Cx} (hC:C.g=32∧C.caps=capsR Tb Wb Vb) (hA:AskR ws Tb Vb tag va vc vars):Wat C ws (fun ev fp w=>TrR Wb (zdm tag vars ev) fp w):=by
 refine⟨?_,fun ev fp w w' h hk=>h.keep hk,fun ev fp w h=>h.lt,?_⟩
 ·rw[hC.1]
  exact enters_of Tryz.func32 (by kernel_rfl) rfl
 ·intro ev fp w nb no k t B E blk v M L hS hT hev h1 h7 hk ht hnf hE hL hdj
  rw[hC.1,hC.2]
  have hrl:(zdm tag vars ev).length≤1048576:=by
   unfold zdm
   rw[List.length_map]
   exact Nat.le_trans (List.length_filter_le _ _) hev
  show Calls Tryz.prog _ _ w fun e w'=>e=.returned (.tuple #[])∧∃fp',TrR Wb (zdm tag vars (ev++[⟨k,t,L⟩])) fp' w'∧(∀b,fp' b→fp b∨w.heap.size≤b)∧Old w.heap.size fp w w'
  rw[rowsT_snoc]
  by_cases h0:0 < tag∧(t:Int)=tag
  ·rw[if_pos (by unfold tracedB;exact decide_eq_true h0)]
   exact run1_yes (M:=0) hA hS hT hrl hE.env h1 h0.1 h0.2
  ·rw[if_neg (by unfold tracedB;simpa using h0)]
   exact(run1_no hA hS E h1 h0).mono fun e w' hq=>⟨hq.1,fp,hT.keep fun b hb=>hq.2.block b (hT.lt b hb),fun b hb=>.inl hb,Old.below hq.2⟩
end
end Go.Proofs.YtbilfdapmbahgaaGreatDoor.Rn

namespace Go.Proofs.YtbilfdapmbahgaaGreatDoor.Rn
open Go Go.RowKit Go.Proofs.YtbilfdapmbahgaaGreatDoor Go.Proofs.YtbilfdapmbahgaaGreatDoor.Ev
open Go.Lib (hid)
def NumT (fc:Nat→Prop) (w:World) (v:Value) (z:List Int):Prop:=∃a c,v=.slice a z.length c∧∀j x,z[j]?=some x→∃b,a=some ⟨b,0,none⟩∧fc b∧w.cell? ⟨b,j,none⟩=some (.int .i64 x)
def CellsT (fc:Nat→Prop) (w:World) (v:Value) (L:List PC):Prop:=∃a c,v=.slice a L.length c∧∀m pc,L[m]?=some pc→∃g u,a=some ⟨g,0,none⟩∧fc g∧w.cell? ⟨g,m*3,none⟩=some (.string ⟨pc.name.toArray⟩)∧w.cell? ⟨g,m*3+1,none⟩=some (.bool pc.arr)∧w.cell? ⟨g,m*3+2,none⟩=some u∧NumT fc w u pc.v
theorem NumT.keep {fc fc':Nat→Prop} {w w':World} {v:Value} {z:List Int} (h:NumT fc w v z) (hf:∀b,fc b→fc' b) (hk:∀b,fc b→w'.heap[b]?=w.heap[b]?):NumT fc' w' v z:=by
 obtain⟨a,c,e,h⟩:=h
 refine⟨a,c,e,fun j x hx=>?_⟩
 obtain⟨b,e,hb,hc⟩:=h j x hx
 exact⟨b,e,hf b hb,(World.cell?_of_block (a:=⟨b,j,none⟩) (hk b hb)).trans hc⟩
theorem CellsT.keep {fc fc':Nat→Prop} {w w':World} {v:Value} {L:List PC} (h:CellsT fc w v L) (hf:∀b,fc b→fc' b) (hk:∀b,fc b→w'.heap[b]?=w.heap[b]?):CellsT fc' w' v L:=by
 obtain⟨a,c,e,h⟩:=h
 refine⟨a,c,e,fun m pc hm=>?_⟩
 obtain⟨g,u,e,hg,h1,h2,h3,h4⟩:=h m pc hm
 exact⟨g,u,e,hf g hg,(World.cell?_of_block (a:=⟨g,_,none⟩) (hk g hg)).trans h1,(World.cell?_of_block (a:=⟨g,_,none⟩) (hk g hg)).trans h2,(World.cell?_of_block (a:=⟨g,_,none⟩) (hk g hg)).trans h3,h4.keep hf hk⟩
theorem num_told {B:Nat} {w:World} {v:Value} {z:List Int} (h:w.ownsRow B 2 1 v z.length (z.map (Value.int .i64))):NumT (fun b=>B≤b∧b < w.heap.size) w v z:=by
 obtain⟨a,c,rfl⟩:=zbn h
 refine⟨a,c,rfl,fun j x hx=>?_⟩
 rcases zco h with ⟨rfl,-,h0,-⟩ | ⟨g,rfl,hg,hc⟩
 ·rw[List.eq_nil_of_length_eq_zero h0] at hx;simp at hx
 ·exact⟨g,rfl,⟨(own_lt h rfl).1,hg⟩,hc j _ (by rw[List.getElem?_map,hx];rfl)⟩
theorem cells_told {B:Nat} {blk:Nat→Nat} {L:List PC} {w:World} {v:Value} (h:Ev.Told B blk L L.length v w):CellsT (fun b=>B≤b∧b < w.heap.size) w v L:=by
 obtain⟨vs,h1,h2,-⟩:=h
 obtain⟨a,c,rfl⟩:=zbn h1
 refine⟨a,c,rfl,fun m pc hm=>?_⟩
 have hlt:=(List.getElem?_eq_some_iff.1 hm).1
 rcases zco h1 with ⟨rfl,-,h0,-⟩ | ⟨g,rfl,hg,hc⟩
 ·omega
 ·obtain⟨a0,a1,a2⟩:=toldRow_at vs L 0 m pc hm
  rw[Nat.zero_add] at a2
  exact⟨g,vs m,rfl,⟨(own_lt h1 rfl).1,hg⟩,hc _ _ a0,hc _ _ a1,hc _ _ a2,num_told (h2 m pc hm hlt).1⟩
def visC (ev:List Vis) (sl:List Value):List Value:=(ev.zip sl).flatMap fun p=>[.int .i64 (p.1.node:Nat),p.2]
theorem visC_snoc {ev:List Vis} {sl:List Value} (h:sl.length=ev.length) (u:Vis) (v:Value):visC (ev++[u]) (sl++[v])=visC ev sl++[.int .i64 (u.node:Nat),v]:=by
 unfold visC
 rw[List.zip_append h.symm,List.flatMap_append]
 rfl
structure VsR (Wb:Nat) (ev:List Vis) (fp:Nat→Prop) (w:World):Prop where
 wb:fp Wb
 lt:∀b,fp b→b < w.heap.size
 ex:∃(v:Value) (sl:List Value) (fc:Nat→Prop),w.heap[Wb]?=some (.cells #[v] 50 (0,0))∧sl.length=ev.length∧w.ownsRow 0 59 2 v ev.length (visC ev sl)∧(∀g,v.ownBlock=some g→fp g∧g≠Wb) ∧
  (∀b,fc b→fp b∧v.ownBlock≠some b∧b≠Wb)∧∀(i:Nat) (s:Value) (u:Vis),sl[i]?=some s→ev[i]?=some u→CellsT fc w s u.cells
theorem VsR.keep {Wb:Nat} {ev:List Vis} {fp:Nat→Prop} {w w':World} (h:VsR Wb ev fp w) (hk:∀b,fp b→w'.heap[b]?=w.heap[b]?):VsR Wb ev fp w':=by
 obtain⟨h1,h2,v,sl,fc,h3,h4,h5,h6,h7,h8⟩:=h
 refine⟨h1,fun b hb=>?_,v,sl,fc,(hk _ h1).trans h3,h4,ze5 h5 fun b hb=>hk b (h6 b hb).1,h6,h7,fun i s u hs hu=>(h8 i s u hs hu).keep (fun _ h=>h) fun b hb=>hk b (h7 b hb).1⟩
 have:=hk b hb
 have h8:=h2 b hb
 rcases Nat.lt_or_ge b w'.heap.size with h9 | h9
 ·exact h9
 ·rw[Array.getElem?_eq_none h9,Array.getElem?_eq_getElem h8] at this
  cases this
theorem vs_nil {Wb:Nat} {w:World} (h:w.heap[Wb]?=some (.cells #[.slice none 0 0] 50 (0,0))):VsR Wb [] (·=Wb) w:=
 ⟨rfl,fun b hb=>by have:b=Wb:=hb;subst this;exact lt_of_block h,.slice none 0 0,[],fun _=>False,h,rfl,World.ownsRow_nil _ _ _ _,(fun g hg=>by simp[Value.ownBlock] at hg),(fun b hb=>hb.elim),(fun i s u hs hu=>by simp at hs)⟩
theorem vs_snoc {Wb:Nat} {ev:List Vis} {u:Vis} {fp fc:Nat→Prop} {w w2 w5:World} {ao:Option Addr} {cap kap g:Nat} {sl:List Value} {s:Value} {ob:Obj} {B:Nat}
  (hT:fp Wb∧(∀b,fp b→b < w.heap.size)∧w.heap[Wb]?=some (.cells #[.slice ao ev.length cap] 50 (0,0))∧sl.length=ev.length∧w.ownsRow 0 59 2 (.slice ao ev.length cap) ev.length (visC ev sl)∧(∀g,(Value.slice ao ev.length cap).ownBlock=some g→fp g∧g≠Wb)∧(∀b,fc b→fp b∧(Value.slice ao ev.length cap).ownBlock≠some b∧b≠Wb)∧∀(i:Nat) (s:Value) (u:Vis),sl[i]?=some s→ev[i]?=some u→CellsT fc w s u.cells)
  (hb2:Below w.heap.size w w2) (hB:w.heap.size≤B) (hs:CellsT (fun b=>B≤b∧b < w2.heap.size) w2 s u.cells)
  (hx:w5.ownsRow 0 59 2 (.slice (some ⟨g,0,none⟩) (ev.length+1) kap) (ev.length+1) (visC ev sl++[.int .i64 (u.node:Nat),s])∧(w2.alloc ob).grownBy w5 (Value.slice ao ev.length cap).ownBlock∧((Value.slice ao ev.length cap).ownBlock=some g∨g=(w2.alloc ob).heap.size)∧g < w5.heap.size) {x:Value}
  (h5:w5.heap[Wb]?=some (.cells #[x] 50 (0,0))):
  ∃fp',VsR Wb (ev++[u]) fp' (w5.setCell ⟨Wb,0,none⟩ (.slice (some ⟨g,0,none⟩) (ev.length+1) kap))∧(∀b,fp' b→fp b∨w.heap.size≤b)∧Old w.heap.size fp w (w5.setCell ⟨Wb,0,none⟩ (.slice (some ⟨g,0,none⟩) (ev.length+1) kap)):=by
 obtain⟨t1,t2,t3,t4,t5,t6,t7,t8⟩:=hT
 obtain⟨x1,x2,x3,x4⟩:=hx
 have hsz:(w2.alloc ob).heap.size=w2.heap.size+1:=by simp
 have s5:=x2.size
 have s2:=hb2.size
 have hWl:=t2 _ t1
 have hk:∀b,b < w2.heap.size→(Value.slice ao ev.length cap).ownBlock≠some b→b≠Wb→(w5.setCell ⟨Wb,0,none⟩ (.slice (some ⟨g,0,none⟩) (ev.length+1) kap)).heap[b]?=w2.heap[b]?:=fun b h1 h2 h3 =>
  (Below.heap_setCell _ _ _ _ h3).trans ((x2.block b (by omega) (fun e=>h2 e.symm)).trans (Below.heap_alloc w2 ob b h1))
 have hg:g≠Wb:=by
  rcases x3 with h | h
  ·exact(t6 g h).2
  ·omega
 have hnew:∀b,B≤b∧b < w2.heap.size→(Value.slice ao ev.length cap).ownBlock≠some b∧b≠Wb:=fun b hb=>⟨fun h=>by have:=t2 _ (t6 _ h).1;omega,by omega⟩
 refine⟨fun b=>fp b∨(w.heap.size≤b∧b < w5.heap.size),⟨.inl t1,fun b hb=>?_,.slice (some ⟨g,0,none⟩) (ev.length+1) kap,sl++[s],fun b=>fc b∨(B≤b∧b < w2.heap.size),(zat (k:=0) _ h5).trans rfl,by simp[t4],?_,fun g' hg'=>?_,fun b hb=>?_,fun i s' u' hs' hu'=>?_⟩,fun b hb=>hb.imp id fun h=>h.1,⟨x2.os.trans hb2.os,x2.tape.trans hb2.tape,x2.output.trans hb2.output,by simp[World.setCell];omega,fun b h1 h2=>?_⟩⟩
 ·rcases hb with hb | hb
  ·have:=t2 b hb;simp[World.setCell];omega
  ·simp[World.setCell];omega
 ·rw[List.length_append,List.length_singleton,visC_snoc t4]
  refine ze5 (w:=w5) x1 fun b hb=>Below.heap_setCell _ _ _ _ ?_
  simp only[Value.ownBlock,Option.some.injEq] at hb
  subst hb
  exact hg
 ·simp only[Value.ownBlock,Option.some.injEq] at hg'
  subst hg'
  refine⟨?_,hg⟩
  rcases x3 with h | h
  ·exact .inl (t6 _ h).1
  ·exact .inr ⟨by omega,x4⟩
 ·have hne:∀q,q=b→(Value.slice ao ev.length cap).ownBlock≠some q→q < w2.heap.size→(Value.slice (some ⟨g,0,none⟩) (ev.length+1) kap).ownBlock≠some b:=by
   rintro q rfl h1 h2 e
   simp only[Value.ownBlock,Option.some.injEq] at e
   subst e
   rcases x3 with h | h
   ·exact h1 h
   ·omega
  rcases hb with hb | hb
  ·obtain⟨a1,a2,a3⟩:=t7 b hb
   exact⟨.inl a1,hne b rfl a2 (by have:=t2 b a1;omega),a3⟩
  ·obtain⟨a1,a2⟩:=hnew b hb
   exact⟨.inr ⟨by omega,by omega⟩,hne b rfl a1 hb.2,a2⟩
 ·by_cases hi:i < ev.length
  ·rw[List.getElem?_append_left (by omega)] at hs'
   rw[List.getElem?_append_left hi] at hu'
   refine(t8 i s' u' hs' hu').keep (fun _ h=>.inl h) fun b hb=>?_
   obtain⟨a1,a2,a3⟩:=t7 b hb
   have:=t2 b a1
   exact(hk b (by omega) a2 a3).trans (hb2.block b this)
  ·rw[List.getElem?_append_right (by omega)] at hs'
   rw[List.getElem?_append_right (by omega)] at hu'
   have e1:i - sl.length=0:=by
    rcases Nat.eq_zero_or_pos (i - sl.length) with h | h
    ·exact h
    ·rw[List.getElem?_eq_none (by simp;omega)] at hs';cases hs'
   rw[e1] at hs'
   rw[show i - ev.length=0 by omega] at hu'
   simp only[List.getElem?_cons_zero,Option.some.injEq] at hs' hu'
   subst hs'
   subst hu'
   exact hs.keep (fun _ h=>.inr h) fun b hb=>hk b hb.2 (hnew b hb).1 (hnew b hb).2
 ·have hbo:(Value.slice ao ev.length cap).ownBlock≠some b:=fun h=>h2 (t6 _ h).1
  exact(hk b (by omega) hbo (fun e=>h2 (e▸t1))).trans (hb2.block b h1)
theorem visit_info:(Tryz.prog.info? 59).map (fun i=>(i.zero,i.size,i.bytes))=some (some (.agg #[.int .i64 0,.slice none 0 0]),2,32):=by kernel_rfl
section
variable {ws w:World} {Wb:Nat}
theorem vis1_any {ev:List Vis} {fp:Nat→Prop} (hT:VsR Wb ev fp w) (hm:ev.length≤1048576) {nb no k t B E:Nat} {blk:Nat→Nat} {L:List PC} (hE:EnvIn B E blk L w) (hL:L.length≤2000) (h7:w.cell? ⟨nb,no+7,none⟩=some (.int .i64 (k:Nat))):
  Calls Tryz.prog 39 (#[nptr nb no,ptr E]++#[ptr Wb]) w fun e w'=>e=.returned (.tuple #[])∧∃fp',VsR Wb (ev++[⟨k,t,L⟩]) fp' w'∧(∀b,fp' b→fp b∨w.heap.size≤b)∧Old w.heap.size fp w w':=by
 obtain⟨ei,hi,hz0,hz1,hz2⟩:=info_parts visit_info
 obtain⟨hwb,hlt,v,sl,fc,hv,hsl,hown,hvo,hfc,hsc⟩:=hT
 obtain⟨ao,cap,rfl⟩:=zbn hown
 have nl:=World.block_lt_of_cell? w _ h7
 have cw:=zab (k:=0) hv rfl
 have wl:=lt_of_block hv
 have HNC:Hid (∀W,Below w.heap.size w W→Calls Tryz.prog 40 #[ptr E] W fun e w'=>∃ao cap,e=.returned (.slice ao L.length cap)∧CellsT (fun b=>W.heap.size≤b∧b < w'.heap.size) w' (.slice ao L.length cap) L∧Below W.heap.size W w'):=hid fun W hW=>(cells_any (hE.on hW) (by omega)).mono fun e w' hq=>by
  obtain⟨ao,cap,he,ht,hb⟩:=hq
  exact⟨ao,cap,he,cells_told ht,hb⟩
 have HT:=hid (show _∧_∧_∧_∧_∧_∧_∧_ from⟨hwb,hlt,hv,hsl,hown,hvo,hfc,hsc⟩)
 have HM:=hid hm
 have HWL:=hid (And.intro wl nl)
 have HCW:=hid (And.intro cw h7)
 have HNN:=hid (HNC.out _ (show Below w.heap.size w w.drew from(Below.refl _ _).drew))
 clear hwb hlt hv hsl hown hvo hfc hsc hE hm
 go_enter Tryz.func39,Tryz.ntmps39
 go_wp2
 go_region_law (first
  | (go_simp;go_at_call 40;(with_reducible refine HNN.out.mono ?_);rintro e w2 ⟨ao2,cap2,rfl,hc2,hb2⟩;have hbw2:Below w.heap.size w w2:=((Below.refl _ _).drew.trans (hb2.mono (Nat.le_refl _)));have c3:=hbw2.cell (p:=⟨Wb,0,none⟩) HWL.out.1;have c4:=hbw2.cell (p:=⟨nb,no+7,none⟩) HWL.out.2;rw[HCW.out.1] at c3;rw[HCW.out.2] at c4;have l3:=Nat.lt_of_lt_of_le HWL.out.1 hbw2.size;have l4:=Nat.lt_of_lt_of_le HWL.out.2 hbw2.size;have HB2:=hid hbw2;have HC2:=hid hc2;clear hb2 hc2 hbw2)
  | (refine step_append_lies _ (by rfl) _ _ _ (by rfl) 0 59 ei _ 2 32 Tryz.underlying50 hi hz0 hz1 hz2 rfl (by decide) (.slice ao ev.length cap) ev.length (visC ev sl) rfl ((own_on HT.out.2.2.2.2.1 HB2.out).alloc _) ⟨w2.heap.size,0,none⟩ 1 1 [.int .i64 (k:Nat),.slice ao2 L.length cap2] rfl rfl (World.news_of_block (zah w2 (.cells #[.int .i64 (k:Nat),.slice ao2 L.length cap2] 59))) (by intro u hu;simp only[List.mem_cons,List.not_mem_nil,or_false] at hu;rcases hu with rfl | rfl<;>rfl) (by decide) (by have:=HM.out;unfold maxLen;omega) (by have:=HM.out;omega) (Nat.zero_le _) _ rfl ?_;intro g kap w5 hown5 hgrow hat hlt5;have HX:=hid (And.intro hown5 (And.intro hgrow (And.intro hat hlt5)));have r5:=(hgrow.block Wb (by have:=HB2.out.size;have:=HWL.out.1;simp;omega) (fun e=>(HT.out.2.2.2.2.2.1 _ e.symm).2 rfl)).trans (zak (.cells #[.int .i64 (k:Nat),.slice ao2 L.length cap2] 59) ((HB2.out.block Wb HWL.out.1).trans HT.out.2.2.1));have z1:=zab (k:=0) r5 rfl;have z2:=zaf (k:=0) r5;have z3:=lt_of_block r5;have HR5:=hid r5;clear hown5 hgrow hat r5))
 all_goals
  go_wp2
  go_end0
  exact⟨rfl,vs_snoc (u:=⟨k,t,L⟩) HT.out HB2.out (Nat.le_refl _) HC2.out HX.out HR5.out⟩
theorem wat_vis {C:Cx} (hC:C.g=39∧C.caps=#[ptr Wb]):Wat C ws (fun ev fp w=>VsR Wb ev fp w):=by
 refine⟨?_,fun ev fp w w' h hk=>h.keep hk,fun ev fp w h=>h.lt,?_⟩
 ·rw[hC.1]
  exact enters_of Tryz.func39 (by kernel_rfl) rfl
 ·intro ev fp w nb no k t B E blk v M L hS hT hev h1 h7 hk ht hnf hE hL hdj
  rw[hC.1,hC.2]
  exact vis1_any hT hev hE.env hL h7
end
end Go.Proofs.YtbilfdapmbahgaaGreatDoor.Rn
