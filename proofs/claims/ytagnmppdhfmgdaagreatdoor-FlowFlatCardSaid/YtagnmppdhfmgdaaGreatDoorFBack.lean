/- What Back tells: edges turned round. -/
import Derived.Test.YtagnmppdhfmgdaaGreatDoorFEdges
set_option linter.unusedSimpArgs false
set_option linter.unusedVariables false
set_option maxHeartbeats 8000000
set_option maxRecDepth 100000
namespace Go.Proofs.YtagnmppdhfmgdaaGreatDoor.Fl
open Go Go.RowKit Go.Proofs.YtagnmppdhfmgdaaGreatDoor
def endsB (r:List Int) (k:Int):Bool:=r.getLast?==some k
theorem ends_any {B n:Nat} {u:Value} {r:List Int} {w:World} (h:w.ownsRow B 3 1 u n (ints r)) (hr:r.length=n) (hl:n≤100000) (k:Int):
  Calls Tryz.prog 38 #[u,.int .i64 k] w fun e w'=>e=.returned (.bool (endsB r k))∧w'=w:=by
 subst hr
 obtain⟨ua,uc,rfl⟩:=zdW h
 rcases List.eq_nil_or_concat r with rfl | ⟨q,x,rfl⟩
 ·have hb:endsB [] k=false:=rfl
  rw[hb]
  clear h
  go_enter Tryz.func38,Tryz.ntmps38
  go_wp2
  go_ret
  exact⟨rfl,rfl⟩
 ·rw[List.concat_eq_append] at h hl ⊢
  obtain⟨m,hm⟩:∃m,q.length=m:=⟨_,rfl⟩
  have hlen:(q++[x]).length=m+1:=by simp[hm]
  have hb:endsB (q++[x]) k=(x==k):=by unfold endsB;rw[List.getLast?_append];simp
  rw[hb]
  obtain⟨g,rfl,-,gl,-,-,-,gc⟩:=zbk h (by omega)
  have hc:=gc m (by omega)
  rw[ints,List.getElem?_map,List.getElem?_append_right (by omega),hm,Nat.sub_self] at hc
  have hc1:w.cell? ⟨g,m,none⟩=some (.int .i64 x):=hc
  rw[hlen] at hl ⊢
  have hw:IntKind.i64.wrap ((m:Int)+1 - 1)=(m:Int):=by rw[IntWalk.i64_in _ (by omega)];omega
  clear h gc hc hb hlen hm
  go_enter Tryz.func38,Tryz.ntmps38
  go_wp2
  go_ret
  exact⟨by simp,rfl⟩
structure RwD (w:World) (B g n:Nat) (rows:List (List Int)) (rv:List Value):Prop where
 rw:Rw w B g n rows rv
 dis:∀(i j q:Nat) (u v:Value),rv[i]?=some u→rv[j]?=some v→i≠j→u.ownBlock=some q→v.ownBlock≠some q
theorem rwd_app {w w5:World} {B g n k g2 cap:Nat} {rows:List (List Int)} {rv:List Value} {u:Value} {r:List Int} {z:Int} (h:RwD w B g n rows rv) (hk:k < n) (hB:B≤w.heap.size) (hr:rows[k]?=some r) (hu:rv[k]?=some u)
  (hown:w5.ownsRow B 3 1 (.slice (some ⟨g2,0,none⟩) (r.length+1) cap) (r.length+1) (ints r++[.int .i64 z])) (hg:(w.alloc (.cells #[.int .i64 z] 3)).grownBy w5 u.ownBlock) (hat:u.ownBlock=some g2∨w.heap.size≤g2):
  RwD (w5.setCell ⟨g,k,none⟩ (.slice (some ⟨g2,0,none⟩) (r.length+1) cap)) B g n (rows.set k (r++[z])) (rv.set k (.slice (some ⟨g2,0,none⟩) (r.length+1) cap)) ∧
  (∀q,q < w.heap.size→q≠g→u.ownBlock≠some q→(w5.setCell ⟨g,k,none⟩ (.slice (some ⟨g2,0,none⟩) (r.length+1) cap)).heap[q]?=w.heap[q]?)∧Below B w (w5.setCell ⟨g,k,none⟩ (.slice (some ⟨g2,0,none⟩) (r.length+1) cap)):=by
 have hgl:g < w.heap.size:=zaO h.rw.v rfl
 obtain⟨u',hu',hur⟩:=h.rw.rows k r hr
 rw[hu] at hu'
 simp only[Option.some.injEq] at hu'
 subst hu'
 have hug:u.ownBlock≠some g:=fun e=>za1 h.rw.v hur (by decide) g e rfl
 have hs:(w.alloc (.cells #[.int .i64 z] 3)).heap.size=w.heap.size+1:=by simp
 have hold5:∀q,q < w.heap.size→u.ownBlock≠some q→w5.heap[q]?=w.heap[q]?:=fun q hq hne =>
  (hg.block q (by omega) (fun e=>hne e.symm)).trans (Below.heap_alloc _ _ _ hq)
 have v5:w5.ownsRow B 29 1 (.slice (some ⟨g,0,none⟩) n n) n rv:=zaB h.rw.v fun q hq=>by
  simp only[Value.ownBlock,Option.some.injEq] at hq
  subst hq
  exact hold5 _ hgl hug
 obtain⟨v6,-⟩:=v5.stored k (.slice (some ⟨g2,0,none⟩) (r.length+1) cap)
 have hold:∀q,q < w.heap.size→q≠g→u.ownBlock≠some q→(w5.setCell ⟨g,k,none⟩ (.slice (some ⟨g2,0,none⟩) (r.length+1) cap)).heap[q]?=w.heap[q]?:=fun q hq hne hn =>
  (Below.heap_setCell _ _ _ _ hne).trans (hold5 q hq hn)
 have hu9:(w5.setCell ⟨g,k,none⟩ (.slice (some ⟨g2,0,none⟩) (r.length+1) cap)).ownsRow B 3 1 (.slice (some ⟨g2,0,none⟩) (r.length+1) cap) (r++[z]).length (ints (r++[z])):=by
  have h9:=zaB hown (w':=w5.setCell ⟨g,k,none⟩ (.slice (some ⟨g2,0,none⟩) (r.length+1) cap)) fun q hq=>Below.heap_setCell _ _ _ _ (fun e=>za1 v5 hown (by decide) q hq (by rw[e];rfl))
  simpa[ints] using h9
 have hkl:k < rv.length:=by have:=h.rw.v.1;omega
 refine⟨⟨⟨by rw[List.length_set];exact h.rw.len,v6,fun i r' hr'=>?_⟩,fun i j q a b ha hb hne hq=>?_⟩,hold,?_⟩
 ·rw[List.getElem?_set] at hr'
  split at hr'
  ·rename_i e
   subst e
   rw[h.rw.len,if_pos hk] at hr'
   simp only[Option.some.injEq] at hr'
   subst hr'
   exact⟨_,List.getElem?_set_self hkl,hu9⟩
  ·rename_i hne
   obtain⟨a,h1,h2⟩:=h.rw.rows i r' hr'
   exact⟨a,by rw[List.getElem?_set_ne hne];exact h1,zaB h2 fun q hq=>hold q (zaO h2 hq) (fun e=>za1 h.rw.v h2 (by decide) q hq (by rw[e];rfl)) (fun e=>h.dis k i q u a hu h1 hne e hq)⟩
 ·have hlt:∀(i:Nat) (a:Value) (q:Nat),rv[i]?=some a→a.ownBlock=some q→q < w.heap.size:=fun i a q ha hq=>by
   have hi:i < rows.length:=by have:=zaK ha;have:=h.rw.v.1;have:=h.rw.len;omega
   obtain⟨a',h1,h2⟩:=h.rw.rows i rows[i] (List.getElem?_eq_getElem hi)
   rw[ha] at h1
   simp only[Option.some.injEq] at h1
   subst h1
   exact zaO h2 hq
  rw[List.getElem?_set] at ha hb
  split at ha
  ·rename_i e
   subst e
   simp only[Option.some.injEq] at ha
   subst ha
   rw[if_neg hne] at hb
   simp only[Value.ownBlock,Option.some.injEq] at hq
   subst hq
   intro hq2
   rcases hat with e | e
   ·exact h.dis k j _ u b hu hb hne e hq2
   ·have:=hlt j b _ hb hq2;omega
  ·split at hb
   ·rename_i e
    subst e
    simp only[Option.some.injEq] at hb
    subst hb
    simp only[Value.ownBlock,ne_eq,Option.some.injEq]
    rintro rfl
    rcases hat with e | e
    ·exact h.dis i k _ a u ha hu hne hq e
    ·have:=hlt i a _ ha hq;omega
   ·exact h.dis i j q a b ha hb hne hq
 ·exact(((Below.refl B w).alloc hB _).grown hg (by rw[hs];omega) (fun q hq=>(hur.lt q hq).1)).setCell (p:=⟨g,k,none⟩) (h.rw.v.lt g rfl).1 _
def baseT (ns:List (List Int)) (k n:Nat):List Int:=((List.range k).filter fun f=>decide ((n:Int)∈ns.getD f [])).map Int.ofNat
def rowT (ns:List (List Int)) (k:Nat) (pre:List Int) (n:Nat):List Int:=baseT ns k n++(if (n:Int)∈pre then [(k:Int)] else [])
def zcu (ns:List (List Int)) (k:Nat) (pre:List Int):List (List Int):=(List.range ns.length).map (rowT ns k pre)
theorem backT_len (ns:List (List Int)) (k:Nat) (pre:List Int):(zcu ns k pre).length=ns.length:=by unfold zcu;rw[List.length_map,List.length_range]
theorem backT_at (ns:List (List Int)) (k:Nat) (pre:List Int) {n:Nat} (h:n < ns.length):(zcu ns k pre)[n]?=some (rowT ns k pre n):=by
 unfold zcu;rw[List.getElem?_map,List.getElem?_range h];rfl
theorem base_lt {ns:List (List Int)} {k n:Nat} {x:Int} (h:x∈baseT ns k n):0≤x∧x < k:=by
 unfold baseT at h
 obtain⟨f,hf,rfl⟩:=List.mem_map.1 h
 have:=List.mem_range.1 (List.mem_filter.1 hf).1
 exact⟨Int.natCast_nonneg _,by show(f:Int) < k;omega⟩
theorem base_len (ns:List (List Int)) (k n:Nat):(baseT ns k n).length≤k:=by
 unfold baseT
 rw[List.length_map]
 exact Nat.le_trans (List.length_filter_le _ _) (by rw[List.length_range];exact Nat.le_refl _)
theorem row_ends (ns:List (List Int)) (k:Nat) (pre:List Int) (n:Nat):endsB (rowT ns k pre n) k=decide ((n:Int)∈pre):=by
 unfold endsB rowT
 by_cases h:(n:Int)∈pre
 ·rw[if_pos h,List.getLast?_append];simp[h]
 ·rw[if_neg h,List.append_nil,decide_eq_false h,beq_eq_false_iff_ne]
  intro e
  have:=base_lt (List.mem_of_getLast? e)
  omega
theorem back_next (ns:List (List Int)) (k:Nat) (hk:k < ns.length):zcu ns k (ns.getD k [])=zcu ns (k+1) []:=by
 unfold zcu
 apply List.map_congr_left
 intro n hn
 unfold rowT baseT
 rw[List.range_succ,List.filter_append,List.map_append]
 by_cases h:(n:Int)∈ns.getD k []
 ·rw[if_pos h,List.filter_cons_of_pos (by simpa using h)];simp
 ·rw[if_neg h,List.filter_cons_of_neg (by simpa using h)];simp
theorem back_skip (ns:List (List Int)) (k:Nat) (pre:List Int) (z:Int) (h:z < 0∨(ns.length:Int)≤z∨z∈pre):zcu ns k (pre++[z])=zcu ns k pre:=by
 unfold zcu
 apply List.map_congr_left
 intro n hn
 have hn:=List.mem_range.1 hn
 unfold rowT
 have e:((n:Int)∈pre++[z])↔(n:Int)∈pre:=by
  rw[List.mem_append,List.mem_singleton]
  constructor
  ·rintro(h1 | h1)
   ·exact h1
   ·rcases h with h | h | h
    ·omega
    ·omega
    ·rw[h1];exact h
  ·exact .inl
 by_cases hm:(n:Int)∈pre
 ·rw[if_pos hm,if_pos (e.2 hm)]
 ·rw[if_neg hm,if_neg (fun h=>hm (e.1 h))]
theorem back_put (ns:List (List Int)) (k:Nat) (pre:List Int) (n:Nat) (hn:n < ns.length) (h:¬(n:Int)∈pre):(zcu ns k pre).set n (rowT ns k pre n++[(k:Int)])=zcu ns k (pre++[(n:Int)]):=by
 apply List.ext_getElem?
 intro j
 rw[List.getElem?_set]
 split
 ·rename_i e
  subst e
  rw[backT_len,if_pos hn,backT_at _ _ _ hn]
  unfold rowT
  rw[if_neg h,if_pos (by simp),List.append_nil]
 ·rename_i hne
  rcases Nat.lt_or_ge j ns.length with hj | hj
  ·rw[backT_at _ _ _ hj,backT_at _ _ _ hj]
   unfold rowT
   have e:((j:Int)∈pre++[(n:Int)])↔(j:Int)∈pre:=by
    rw[List.mem_append,List.mem_singleton]
    constructor
    ·rintro(h1 | h1)
     ·exact h1
     ·omega
    ·exact .inl
   by_cases hm:(j:Int)∈pre
   ·rw[if_pos hm,if_pos (e.2 hm)]
   ·rw[if_neg hm,if_neg (fun h=>hm (e.1 h))]
  ·rw[List.getElem?_eq_none (by rw[backT_len];exact hj),List.getElem?_eq_none (by rw[backT_len];exact hj)]
theorem back_all (ns:List (List Int)):zcu ns ns.length []=backG ns:=by
 unfold zcu backG
 apply List.map_congr_left
 intro n hn
 unfold rowT baseT backR
 simp
theorem back_zero (ns:List (List Int)):zcu ns 0 []=List.replicate ns.length []:=by
 unfold zcu
 rw[List.eq_replicate_iff]
 refine⟨by rw[List.length_map,List.length_range],fun b hb=>?_⟩
 obtain⟨n,hn,rfl⟩:=List.mem_map.1 hb
 unfold rowT baseT
 simp
end Go.Proofs.YtagnmppdhfmgdaaGreatDoor.Fl
