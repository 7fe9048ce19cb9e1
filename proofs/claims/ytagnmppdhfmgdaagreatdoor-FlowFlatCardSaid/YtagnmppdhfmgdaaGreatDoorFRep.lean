/- slices.Repeat of one number; what make makes. -/
import Derived.Test.YtagnmppdhfmgdaaGreatDoorFHeap
import Derived.Laws.CopyOwn
import Derived.Laws.MakeOwn
import Derived.Laws.BitsLemmas
set_option linter.unusedSimpArgs false
set_option linter.unusedVariables false
set_option maxHeartbeats 8000000
set_option maxRecDepth 100000
namespace Go.Proofs.YtagnmppdhfmgdaaGreatDoor.Fl
open Go Go.RowKit Go.Proofs.YtagnmppdhfmgdaaGreatDoor
open Go.Lib (hid)
theorem made_eq (z:Value) (n:Nat):madeCells #[z] n=(List.replicate n z).toArray:=by
 rw[←toList_madeCells_one,Array.toArray_toList]
theorem made_ints (n:Nat) (hn:n≤1000001) (W:World):(Instr.makeSlice 29 (.int .i64 (n:Nat)) (.int .i64 (n:Nat))).run Tryz.prog W=.ok (.slice (some ⟨W.heap.size,0,none⟩) n n) (W.alloc (.cells (List.replicate n (.int .i64 0)).toArray 3)):=by
 obtain⟨ei,hin,hz0,hz1,hz2⟩:=info_parts zcT
 have h:=run_make (P:=Tryz.prog) (w:=W) 29 3 ei _ Tryz.underlying29 hin hz0 .i64 .i64 (n:Nat) (n:Nat) (by omega) (by omega) (by rw[hz2];omega) (by omega)
 simp only[Int.toNat_natCast,hz1,Nat.mul_one] at h
 rw[h]
 show Result.ok _ (W.alloc (.cells (madeCells #[.int .i64 0] n) 3))=_
 rw[made_eq]
theorem made_rows (n:Nat) (hn:n≤1000001) (W:World):(Instr.makeSlice 28 (.int .i64 (n:Nat)) (.int .i64 (n:Nat))).run Tryz.prog W=.ok (.slice (some ⟨W.heap.size,0,none⟩) n n) (W.alloc (.cells (List.replicate n (.slice none 0 0)).toArray 29)):=by
 obtain⟨ei,hin,hz0,hz1,hz2⟩:=info_parts ints_info
 have h:=run_make (P:=Tryz.prog) (w:=W) 28 29 ei _ Tryz.underlying28 hin hz0 .i64 .i64 (n:Nat) (n:Nat) (by omega) (by omega) (by rw[hz2];omega) (by omega)
 simp only[Int.toNat_natCast,hz1,Nat.mul_one] at h
 rw[h]
 show Result.ok _ (W.alloc (.cells (madeCells #[.slice none 0 0] n) 29))=_
 rw[made_eq]
theorem mul64_one (n:Nat) (hn:n≤1000001) (w:World):
  Calls Tryz.prog 55 #[.int .u64 1,.int .u64 n] w fun e w'=>e=.returned (.tuple #[.int .u64 0,.int .u64 n])∧w'=w:=by
 have h1:bits .and .u64 1 4294967295=1:=by kernel_rfl
 have h2:bits .and .u64 (n:Int) 4294967295=(n:Int):=by
  have:=bits_mask .u64 63 (by decide) (fun n h0 h1=>IntWalk.u64_in n (by omega)) 32 (by decide) (n:Int) (by omega) (by omega)
  have e:(n:Int) % 2 ^ 32=n:=by omega
  rw[e] at this
  exact this
 have h3:(n:Int) / 4294967296=0:=by omega
 have h4:IntKind.u64.wrap (n:Int)=n:=IntWalk.u64_in _ (by omega)
 have h5:bits .and .u64 0 4294967295=0:=by kernel_rfl
 go_enter Tryz.func55,Tryz.ntmps55
 go_wp2
 go_ret2
 exact⟨rfl,rfl⟩
theorem mul_one' (n:Nat) (hn:n≤1000001) (w:World):
  Calls Tryz.prog 43 #[.int .u64 1,.int .u64 n] w fun e w'=>e=.returned (.tuple #[.int .u64 0,.int .u64 n])∧w'=w:=by
 have h4:IntKind.u64.wrap (n:Int)=n:=IntWalk.u64_in _ (by omega)
 go_enter Tryz.func43,Tryz.ntmps43
 go_wp2_with (go_at_call 55;(refine(mul64_one n hn _).mono ?_);rintro e wk ⟨rfl,rfl⟩)
 go_ret2
 exact⟨rfl,rfl⟩
theorem splice_rep (z y:Value) (n k:Nat) (hk:k≤n):splice (List.replicate k z++List.replicate (n - k) y) k (List.replicate (Nat.min k (n - k)) z)=List.replicate (k+Nat.min k (n - k)) z++List.replicate (n - (k+Nat.min k (n - k))) y:=by
 have hm:Nat.min k (n - k)≤n - k:=Nat.min_le_right _ _
 generalize Nat.min k (n - k)=m at hm ⊢
 unfold splice
 rw[List.take_left' (by simp),List.length_replicate,List.drop_append,List.drop_replicate,List.drop_replicate,List.length_replicate,←List.append_assoc,←List.append_assoc,List.replicate_append_replicate,show k - (k+m)=0 by omega,List.replicate_zero,List.append_nil,show n - k - (k+m - k)=n - (k+m) by omega]
theorem repeat_any (n:Nat) (hn:1≤n∧n≤1000001) (z:Int) (tb:Nat) (w:World) (htb:w.cell? ⟨tb,0,none⟩=some (.int .i64 z)):
  Calls Tryz.prog 30 #[.slice (some ⟨tb,0,none⟩) 1 1,.int .i64 (n:Nat)] w fun e w'=>e=.returned (.slice (some ⟨w.heap.size,0,none⟩) n n)∧w'.ownsRow w.heap.size 3 1 (.slice (some ⟨w.heap.size,0,none⟩) n n) n (List.replicate n (.int .i64 z))∧Below w.heap.size w w':=by
 have h4:IntKind.u64.wrap (n:Int)=n:=IntWalk.u64_in _ (by omega)
 have h5:IntKind.i64.wrap (n:Int)=n:=IntWalk.i64_in _ (by omega)
 have h6:decide ((n:Int) > 9223372036854775807)=false:=decide_eq_false (by omega)
 have h7:decide (9223372036854775807 < (n:Int))=false:=decide_eq_false (by omega)
 have hmk:=made_ints n hn.2
 have hsz:(Tryz.prog.info? 3).map (·.size)=some 1:=by kernel_rfl
 have tl:=World.block_lt_of_cell? w _ htb
 have HT:=hid (And.intro htb tl)
 go_enter Tryz.func30,Tryz.ntmps30
 go_upto_region 7 with (go_at_call 43;(refine(mul_one' n hn.2 _).mono ?_);rintro e wk ⟨rfl,hwk⟩;rw[hwk];clear hwk)
 have hg:=zai w (.cells (Array.replicate n (.int .i64 0)) 3)
 rw[←List.toArray_replicate] at hg
 have HG:=hid hg
 have tb2:(w.alloc (.cells (Array.replicate n (.int .i64 0)) 3)).cell? ⟨tb,0,none⟩=some (.int .i64 z):=by rw[World.cell?_alloc_lt _ _ _ (by exact tl)];exact htb
 have HT2:Hid (∀(j:Nat) (v:Value),[Value.int .i64 z][j]?=some v→(w.alloc (.cells (Array.replicate n (.int .i64 0)) 3)).cell? ((⟨tb,0,none⟩:Addr).add j)=some v):=hid (fun j v hj=>by
  cases j with
  | zero=>simp only[List.getElem?_cons_zero,Option.some.injEq] at hj;subst hj;rw[zcA];exact tb2
  | succ j=>simp at hj)
 have hmin:Nat.min 1 n=1:=Nat.min_eq_left hn.1
 have HBL:=hid ((Below.refl w.heap.size w).alloc (Nat.le_refl _) (.cells (Array.replicate n (.int .i64 0)) 3))
 clear hg htb tl tb2 HT
 go_upto_region 8 with (refine wpList_copy_splice (o:=⟨some 33,_,_,_,_,_⟩) rfl (.tmp 31) (.tmp 32) 29 29 rfl 3 Tryz.underlying29 hsz (some ⟨w.heap.size,0,none⟩) (some ⟨tb,0,none⟩) n n 1 1 rfl rfl w.heap.size 0 (List.replicate n (.int .i64 0)) 3 HG.out [.int .i64 z] hmin.symm (fun _=>⟨rfl,⟨tb,0,none⟩,rfl,HT2.out⟩) (by simp;omega) (by intro u hu;simp only[List.mem_singleton] at hu;subst hu;rfl) w.heap.size w HBL.out (Nat.le_refl _) ?_;intro w2 hg2 hb2)
 have hg3:w2.heap[w.heap.size]?=some (.cells (List.replicate 1 (Value.int .i64 z)++List.replicate (n - 1) (Value.int .i64 0)).toArray 3 (0,0)):=by
  have:=hg2.out
  rw[show splice (List.replicate n (Value.int .i64 0)) 0 [.int .i64 z]=List.replicate 1 (Value.int .i64 z)++List.replicate (n - 1) (Value.int .i64 0) by simp[splice,List.drop_replicate]] at this
  exact this
 have HS:=hid (And.intro hg3 hb2)
 clear hg2 hb2 hg3 HG HT2 HBL hmin
 generalize hgs:w.heap.size=g at HS ⊢
 go_loopw [8] (fun i wr=>∃k:Nat,1≤k∧k≤n∧i=.int .i64 k∧wr.heap[g]?=some (.cells (List.replicate k (Value.int .i64 z)++List.replicate (n - k) (Value.int .i64 0)).toArray 3 (0,0))∧Below g w wr) (fun i _=>n - (intOf i).toNat)
 case atStart=>exact⟨1,Nat.le_refl _,hn.1,rfl,HS.out.1,HS.out.2⟩
 case round =>
  obtain⟨k,hk1,hk2,rfl,hg,hb⟩:=hrel
  by_cases hlt:k < n
  ·have HR:=hid (And.intro hg hb)
   obtain⟨m,hm⟩:∃m,Nat.min k (n - k)=m:=⟨_,rfl⟩
   have hm1:1≤m∧m≤n - k:=by rw[←hm];exact⟨Nat.le_min.2 ⟨by omega,by omega⟩,Nat.min_le_right _ _⟩
   have HSP:=splice_rep (.int .i64 z) (.int .i64 0) n k hk2
   rw[hm] at HSP
   have HSP:=hid HSP
   have HM:=hid hm
   have hlen:(List.replicate k (Value.int .i64 z)++List.replicate (n - k) (Value.int .i64 0)).length=n:=by simp;omega
   have HLEN:=hid hlen
   have HC:Hid (∀(j:Nat) (v:Value),(List.replicate m (Value.int .i64 z))[j]?=some v→wr.drew.cell? ((⟨g,0,none⟩:Addr).add j)=some v):=hid (fun j v hj=>by
    rw[zcA]
    refine zab (w:=wr) hg ?_
    rw[List.getElem?_replicate] at hj
    split at hj
    ·rename_i hjm
     have:j < k:=by have h9:Nat.min k (n - k)≤k:=Nat.min_le_left k (n - k);omega
     simp only[Option.some.injEq] at hj
     subst hj
     simp[List.getElem?_append_left,this]
    ·cases hj)
   have hw:=IntWalk.i64_in ((k:Int)+(m:Int)) (by omega)
   clear hg hb hlen hm
   obtain⟨cs,hcs⟩:∃cs,List.replicate m (Value.int .i64 z)=cs:=⟨_,rfl⟩
   obtain⟨cur,hcur⟩:∃cur,List.replicate k (Value.int .i64 z)++List.replicate (n - k) (Value.int .i64 0)=cur:=⟨_,rfl⟩
   have hcl:cs.length=Nat.min k (n - k):=by rw[←hcs,List.length_replicate];exact HM.out.symm
   have hc1:∀u∈cs,u.oneCell'=true:=by
    intro u hu
    rw[←hcs] at hu
    rw[List.eq_of_mem_replicate hu];rfl
   have hcf:k+cs.length≤cur.length:=by rw[←hcur,HLEN.out,hcl];have h9:Nat.min k (n - k)≤n - k:=Nat.min_le_right k (n - k);omega
   rw[hcs] at HC HSP
   rw[hcur] at HR HSP
   have HQ:=hid (And.intro hcl (And.intro hc1 hcf))
   have HCM:Hid (cs.length=m):=hid (by rw[hcl];exact HM.out)
   clear hcs hcur hcl hc1 hcf HLEN
   have hrun:=run_copy_row (P:=Tryz.prog) wr.drew 29 29 3 3 g k (n - k) (n - k) ⟨g,0,none⟩ k n cur.toArray 3 cs Tryz.underlying29 hsz HR.out.1 HQ.out.1 HC.out (by simpa using HQ.out.2.2) HQ.out.2.1
   rw[HCM.out] at hrun
   have hset:=setRow_heap wr.drew g _ (cur.toArray.toList.take k++cs++cur.toArray.toList.drop (k+m)).toArray _ _ HR.out.1
   have hbs:Below g w (wr.drew.setRow g (cur.toArray.toList.take k++cs++cur.toArray.toList.drop (k+m)).toArray):=below_setRow HR.out.2.drew (Nat.le_refl _) _
   rw[List.append_assoc] at hset
   have hspl:cur.toArray.toList.take k++(cs++cur.toArray.toList.drop (k+m))=List.replicate (k+m) (Value.int .i64 z)++List.replicate (n - (k+m)) (Value.int .i64 0):=by
    have h9:=HSP.out
    unfold splice at h9
    rw[HCM.out] at h9
    exact h9
   rw[hspl] at hset
   rw[←List.append_assoc] at hspl
   rw[hspl] at hrun hbs
   generalize wr.drew.setRow g (List.replicate (k+m) (Value.int .i64 z)++List.replicate (n - (k+m)) (Value.int .i64 0)).toArray=W2 at hrun hset hbs
   have HW:=hid (And.intro hset hbs)
   have hnk:¬n=k:=by omega
   have hgo:goInt m=.int .i64 (m:Nat):=rfl
   rw[hgo] at hrun
   clear hset hbs hspl hgo
   go_wp2
   go_region
   go_wp2
   go_roundw
   case rel=>exact⟨k+m,by omega,by omega,by go_num,HW.out.1,HW.out.2⟩
   case measure=>simp[intOf];omega
  ·obtain rfl:k=n:=by omega
   go_wp2
   go_ret
   rw[Nat.sub_self,List.replicate_zero,List.append_nil] at hg
   rw[hgs]
   refine⟨rfl,⟨by simp,.inr ⟨g,k,_,rfl,Nat.le_refl _,hg,Nat.le_refl _,by unfold maxLen;omega,by simp,by simp⟩⟩,hb⟩
end Go.Proofs.YtagnmppdhfmgdaaGreatDoor.Fl
