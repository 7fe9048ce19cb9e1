/- How much fuel the plain parser needs: enough for each word. -/
import Derived.Test.YtagnmppdhfmgdaaGreatDoorPUps
set_option linter.unusedSimpArgs false
set_option linter.unusedVariables false
set_option maxHeartbeats 8000000
set_option maxRecDepth 100000
namespace Go.Proofs.YtagnmppdhfmgdaaGreatDoor.Pm
open Go
abbrev wd (t:Tok):Wd:=(t.kind,t.text,t.n)
abbrev wds (l:List Tok):List Wd:=l.map wd
theorem zdv {z:Nat} {s:PS} {x:Wd} {l:List Wd} (h:wds s.ws=x :: l):(cur z s).kind=x.1∧(cur z s).text=x.2.1∧(cur z s).n=x.2.2∧s.ws≠[]:=by
 unfold cur
 cases e:s.ws with
 | nil=>rw[e] at h;cases h
 | cons t r =>
  rw[e] at h
  simp only[wds,List.map_cons,List.cons.injEq] at h
  rw[←h.1]
  exact⟨rfl,rfl,rfl,by simp⟩
theorem nxt_wd {z:Nat} {s:PS} {x y:Wd} {l:List Wd} (h:wds s.ws=x :: y :: l):(nxt z s).kind=y.1∧(nxt z s).text=y.2.1∧(nxt z s).n=y.2.2:=by
 unfold nxt
 cases e:s.ws with
 | nil=>rw[e] at h;cases h
 | cons t r =>
  cases e2:r with
  | nil=>rw[e,e2] at h;cases h
  | cons t2 r2 =>
   rw[e,e2] at h
   simp only[wds,List.map_cons,List.cons.injEq] at h
   rw[←h.2.1]
   exact⟨rfl,rfl,rfl⟩
def adv (s:PS) (k n c:Nat):PS:=⟨s.ws.drop k,s.sts+c,s.op,max s.mo (s.op+n)⟩
theorem ps_ext {a b:PS} (h1:a.ws=b.ws) (h2:a.sts=b.sts) (h3:a.op=b.op) (h4:a.mo=b.mo):a=b:=by
 cases a;cases b;simp_all
theorem adv_adv (s:PS) (k n c k' n' c':Nat):adv (adv s k n c) k' n' c'=adv s (k+k') (max n n') (c+c'):=by
 unfold adv
 simp only[List.drop_drop,PS.mk.injEq,true_and]
 exact⟨by omega,by omega⟩
theorem adv_le {s:PS} (h:s.op≤s.mo) (k n c:Nat):(adv s k n c).op≤(adv s k n c).mo:=by show s.op≤max _ _;omega
theorem adv_wd {s:PS} {l t:List Wd} (h:wds s.ws=l++t) (n c:Nat):wds (adv s l.length n c).ws=t:=by
 show wds (s.ws.drop l.length)=t
 rw[wds,List.map_drop]
 show(wds s.ws).drop _=t
 rw[h,List.drop_left']
 rfl
theorem zcR {s:PS} (h:s.op≤s.mo):skip s=adv s 1 0 0:=by
 cases s
 simp only[skip,adv,PS.mk.injEq,Nat.add_zero,List.drop_one,true_and]
 exact(Nat.max_eq_left h).symm
def Rds {α:Type} (f:PS→PR α) (l t:List Wd) (n:Nat) (a:α):Prop:=∀s,wds s.ws=l++t→s.op≤s.mo→s.op+n≤40→f s=.ok a (adv s l.length n 0)
theorem rds_open {z:Nat} {l:List UInt8} (hl:zaV l=true) (t:List Wd) (s:PS) (h:wds s.ws=sgW l :: t) (h40:s.op+1≤40):take z l s=.ok () ⟨s.ws.tail,s.sts,s.op+1,max s.mo (s.op+1)⟩:=by
 obtain⟨-,h2,-,-⟩:=zdv (z:=z) h
 have e1:(cur z s).text=l:=h2
 unfold take at'
 rw[if_pos (by rw[e1];simp)]
 unfold pass
 rw[if_pos (by rw[e1];exact hl)]
 unfold enter
 rw[if_neg (by omega)]
 rfl
theorem rds_shut {z:Nat} {l:List UInt8} (ho:zaV l=false) (hl:zaX l=true) (t:List Wd) (s:PS) (h:wds s.ws=sgW l :: t):take z l s=.ok () ⟨s.ws.tail,s.sts,s.op - 1,s.mo⟩:=by
 obtain⟨-,h2,-,-⟩:=zdv (z:=z) h
 have e1:(cur z s).text=l:=h2
 unfold take at'
 rw[if_pos (by rw[e1];simp)]
 unfold pass
 rw[if_neg (by rw[e1,ho];simp),if_pos (by rw[e1];exact hl)]
 rfl
theorem zcS {s:PS} {x:Wd} {t:List Wd} (h:wds s.ws=x :: t):wds s.ws.tail=t:=by
 cases e:s.ws with
 | nil=>rw[e] at h;cases h
 | cons a r=>rw[e] at h;simp only[wds,List.map_cons,List.cons.injEq] at h;exact h.2
theorem rds_within {α:Type} {z:Nat} {o c:List UInt8} (ho:zaV o=true) (hc:zaV c=false) (hs:zaX c=true) {f:PS→PR α} {l t:List Wd} {n:Nat} {a:α} (hf:Rds f l (sgW c :: t) n a):Rds (zan z o f c) (sgW o :: (l++[sgW c])) t (1+n) a:=by
 intro s h hm h40
 have h':wds s.ws=sgW o :: (l++sgW c :: t):=by rw[h];simp
 unfold zan
 rw[rds_open ho _ s h' (by omega)]
 show(f _).bind _=_
 rw[hf _ (zcS h') (by show s.op+1≤max _ _;omega) (by show s.op+1+n≤40;omega)]
 show(take z c _).bind _=_
 rw[rds_shut hc hs t _ (adv_wd (zcS h') n 0)]
 show PR.ok a _=.ok a _
 congr 1
 refine ps_ext ?_ rfl (by show s.op+1 - 1=s.op;omega) (by show max (max s.mo (s.op+1)) (s.op+1+n)=max s.mo (s.op+(1+n));omega)
 show((s.ws.tail).drop l.length).tail=s.ws.drop _
 rw[←List.drop_one,List.drop_drop,←List.drop_one,List.drop_drop]
 congr 1
 simp
 omega
def dBr (b:Bool) (n:Nat):Nat:=if b then 1+n else n
def dE:RE→Nat
 | .num _=>0
 | .var _=>0
 | .idx _ e=>1+dE e
 | .un c e=>1+dBr (unBr c e) (dE e)
 | .bin o a b=>max (dBr (a.lower lev (lev o)) (dE a)) (dBr (b.lower lev (lev o+1)) (dE b))
def spE:RE→Nat
 | .bin o a _=>(if a.lower lev (lev o) then 0 else spE a)+1
 | _=>0
def hlev (t:List Wd):Int:=lev ((t.head?.map fun x=>x.2.1).getD [])
theorem hlev_cur {z:Nat} {s:PS} {t:List Wd} (h:wds s.ws=t):lev (cur z s).text=hlev t:=by
 unfold hlev cur
 cases e:s.ws with
 | nil=>rw[e] at h;subst h;rfl
 | cons a r=>rw[e] at h;subst h;rfl
def noIdx (t:List Wd):Prop:=∀x,t.head?=some x→x.2.1≠[91]
theorem noIdx_at {z:Nat} {s:PS} {t:List Wd} (h:wds s.ws=t) (hn:noIdx t):at' z [91] s=false:=by
 unfold at' cur
 cases e:s.ws with
 | nil=>rfl
 | cons a r =>
  rw[e] at h
  subst h
  have:=hn (wd a) rfl
  simpa using this
theorem num_back {z m:Nat} (n:Int) (h:(-9223372036854775808≤n∧n≤9223372036854775807)) (t:List Wd):Rds (zam z (m+1)) (numW n) t 0 (.num n):=by
 intro s hw hm _
 rw[zam]
 unfold numW at hw ⊢
 by_cases h0:n < 0
 ·rw[if_pos h0] at hw ⊢
  simp only[List.cons_append,List.nil_append] at hw
  obtain⟨c1,c2,c3,c4⟩:=zdv (z:=z) hw
  obtain⟨n1,n2,n3⟩:=nxt_wd (z:=z) hw
  simp only at c1 c2 c3 n1 n2 n3
  rw[if_neg (by rw[c1];decide),if_neg (by rw[c1];decide),if_pos (by unfold at';rw[c2,n1];decide)]
  unfold zci
  rw[n3]
  have e1:-((n.natAbs:Nat):Int)=n:=by omega
  rw[e1,zcR hm,zcR (adv_le hm _ _ _),adv_adv]
  rfl
 ·rw[if_neg h0] at hw ⊢
  simp only[List.cons_append,List.nil_append] at hw
  obtain⟨c1,c2,c3,c4⟩:=zdv (z:=z) hw
  simp only at c1 c2 c3
  rw[if_pos (by rw[c1];decide)]
  unfold zc6
  rw[c3,if_pos (by omega)]
  have e1:((n.toNat:Nat):Int)=n:=by omega
  rw[e1,zcR hm]
  rfl
theorem var_back {z m:Nat} (x:List UInt8) {t:List Wd} (ht:noIdx t):Rds (zam z (m+1)) [nmW x] t 0 (.var x):=by
 intro s hw hm _
 rw[zam]
 simp only[List.cons_append,List.nil_append] at hw
 obtain⟨c1,c2,c3,c4⟩:=zdv (z:=z) hw
 simp only at c1 c2 c3
 rw[if_neg (by rw[c1];decide),if_pos (by rw[c1];decide)]
 unfold zdP name
 rw[if_pos (by rw[c1];decide)]
 show(if at' z [91] (skip s)=true then _ else _)=_
 rw[if_neg (by rw[noIdx_at (s:=skip s) (zcS hw) ht];decide),c2,zcR hm]
 rfl
theorem idx_back {z m:Nat} (x:List UInt8) {l t:List Wd} {n:Nat} {e:RE} (hf:Rds (zbc z m 1) l (sgW [93] :: t) n e):Rds (zam z (m+1)) (nmW x :: sgW [91] :: (l++[sgW [93]])) t (1+n) (.idx x e):=by
 intro s hw hm h40
 rw[zam]
 rw[List.cons_append] at hw
 obtain⟨c1,c2,c3,c4⟩:=zdv (z:=z) hw
 simp only at c1 c2 c3
 rw[if_neg (by rw[c1];decide),if_pos (by rw[c1];decide)]
 unfold zdP name
 rw[if_pos (by rw[c1];decide)]
 have hw1:wds (skip s).ws=sgW [91] :: (l++[sgW [93]])++t:=zcS hw
 show(if at' z [91] (skip s)=true then _ else _)=_
 rw[if_pos (by unfold at';rw[(zdv (z:=z) hw1).2.1];decide),rds_within (o:=[91]) (c:=[93]) rfl rfl rfl hf (skip s) hw1 (by rw[zcR hm];exact adv_le hm _ _ _) h40]
 show PR.ok _ _=_
 rw[c2,zcR hm,adv_adv]
 simp only[List.length_cons,List.length_append,List.length_nil,Nat.zero_max]
 congr 2
 omega
theorem un_back {z m:Nat} {c:UInt8} (hc:(c==45||c==126||c==33)=true) {l t:List Wd} {n:Nat} {e:RE} (hf:Rds (zam z m) l t n e) (hn:c=45→∀x r,l++t=x :: r→x.1≠2):Rds (zam z (m+1)) (sgW [c] :: l) t (1+n) (.un c e):=by
 intro s hw hm h40
 rw[zam]
 rw[List.cons_append] at hw
 obtain⟨c1,c2,c3,c4⟩:=zdv (z:=z) hw
 simp only at c1 c2 c3
 have h1:at' z [45] s=(c==45):=by unfold at';rw[c2];simp
 have h2:c=45→(nxt z s).kind≠2:=fun hc45=>by
  cases e2:l++t with
  | nil =>
   unfold nxt
   have:s.ws.tail=[]:=List.map_eq_nil_iff.1 ((zcS hw).trans e2)
   rw[this]
   show(0:Nat)≠2
   decide
  | cons x r=>rw[e2] at hw;rw[(nxt_wd (z:=z) hw).1];exact hn hc45 x r e2
 have hun:isUn [c]=true:=by
  unfold isUn
  simp only[Bool.or_eq_true,beq_iff_eq] at hc ⊢
  rcases hc with (rfl | rfl) | rfl<;>simp
 have h40':at' z [40] s=false:=by
  unfold at';rw[c2]
  simp only[Bool.or_eq_true,beq_iff_eq] at hc
  rcases hc with (rfl | rfl) | rfl<;>rfl
 rw[if_neg (by rw[c1];decide),if_neg (by rw[c1];decide),if_neg (by
  rw[h1]
  simp only[Bool.and_eq_true,beq_iff_eq]
  exact fun hh=>h2 hh.1 (by simpa using hh.2)),if_neg (by rw[h40'];decide)]
 unfold zc7
 rw[if_pos (by rw[c2];exact hun)]
 unfold enter
 rw[if_neg (by omega)]
 have hs:skip {s with op:=s.op+1,mo:=max s.mo (s.op+1)}=⟨s.ws.tail,s.sts,s.op+1,max s.mo (s.op+1)⟩:=rfl
 show(zam z m (skip {s with op:=s.op+1,mo:=max s.mo (s.op+1)})).bind _=_
 rw[hs]
 rw[hf ⟨s.ws.tail,s.sts,s.op+1,max s.mo (s.op+1)⟩ (zcS hw) (by show s.op+1≤max _ _;omega) (by show s.op+1+n≤40;omega)]
 show PR.ok _ _=_
 rw[c2]
 show PR.ok (RE.un c e) _=_
 congr 1
 refine ps_ext ?_ rfl (by show s.op+1 - 1=s.op;omega) (by show max (max s.mo (s.op+1)) (s.op+1+n)=max s.mo (s.op+(1+n));omega)
 show(s.ws.tail).drop l.length=s.ws.drop _
 rw[←List.drop_one,List.drop_drop]
 congr 1
 simp
 omega
theorem br_back {z m:Nat} {l t:List Wd} {n:Nat} {e:RE} (hf:Rds (zbc z m 1) l (sgW [41] :: t) n e):Rds (zam z (m+1)) (sgW [40] :: (l++[sgW [41]])) t (1+n) e:=by
 intro s hw hm h40
 rw[zam]
 have hw':=hw
 rw[List.cons_append] at hw
 obtain⟨c1,c2,c3,c4⟩:=zdv (z:=z) hw
 simp only at c1 c2 c3
 rw[if_neg (by rw[c1];decide),if_neg (by rw[c1];decide),if_neg (by unfold at';rw[c2];simp),if_pos (by unfold at';rw[c2];decide)]
 exact rds_within (o:=[40]) (c:=[41]) rfl rfl rfl hf s hw' hm h40
theorem tail_end {z m:Nat} {k:Int} {x:RE} {s:PS} {t:List Wd} (h:wds s.ws=t) (hl:hlev t < k):tail z (m+1) k x s=.ok x s:=by
 rw[tail,if_neg (by rw[hlev_cur h];omega)]
def Ops (z:Nat) (l:List Wd) (n:Nat) (e:RE):Prop:=∃m0,∀m,m0≤m→∀t,noIdx t→Rds (zam z m) l t n e
def Bds (z:Nat) (k:Int) (l:List Wd) (n:Nat) (e:RE):Prop:=∃m0,∀m,m0≤m→∀t,noIdx t→hlev t < k→Rds (zbc z m k) l t n e
def Lefts (z:Nat) (r:RE) (k:Int):Prop:=∃m0,∀m,m0≤m→∀t,noIdx t→(∀x∈(flat lev r).2,hlev t≤lev x.1)→∀s,wds s.ws=tkE lev r++t→s.op≤s.mo→s.op+dE r≤40 →
 (zam z (m+spE r) s).bind (fun x s1=>tail z (m+spE r) k x s1)=tail z m k r (adv s (tkE lev r).length (dE r) 0)
theorem lefts_of {z:Nat} {r:RE} (hs:spE r=0) (h:Ops z (tkE lev r) (dE r) r) (k:Int):Lefts z r k:=by
 obtain⟨m0,h⟩:=h
 refine⟨m0,fun m hm t hn _ s hw h1 h2=>?_⟩
 rw[hs,Nat.add_zero,h m hm t hn s hw h1 h2]
 rfl
theorem zdT {z:Nat} {r:RE} {k:Int} (hl:Lefts z r k) (hk:∀x∈(flat lev r).2,k≤lev x.1):Bds z k (tkE lev r) (dE r) r:=by
 obtain⟨m0,h⟩:=hl
 refine⟨m0+1+spE r+1,fun m hm t hn ht s hw h1 h2=>?_⟩
 obtain⟨m',rfl⟩:∃m',m=m'+1+spE r+1:=⟨m - 1 - spE r - 1,by omega⟩
 rw[zbc]
 have:=h (m'+1) (by omega) t hn (fun x hx=>by have:=hk x hx;omega) s hw h1 h2
 rw[this]
 exact tail_end (adv_wd hw _ _) ht
theorem bound_op {z:Nat} {k:Int} {l:List Wd} {n:Nat} {e:RE} (h:Ops z l n e):Bds z k l n e:=by
 obtain⟨m0,h⟩:=h
 refine⟨m0+2,fun m hm t hn ht s hw h1 h2=>?_⟩
 obtain⟨m',rfl⟩:∃m',m=m'+1+1:=⟨m - 2,by omega⟩
 rw[zbc,h (m'+1) (by omega) t hn s hw h1 h2]
 exact tail_end (adv_wd hw _ _) ht
theorem hlev_sg (l:List UInt8) (t:List Wd):hlev (sgW l :: t)=lev l:=rfl
theorem lev_41:lev [41]=0:=by decide
theorem lev_93:lev [93]=0:=by decide
theorem op_lev {o:List UInt8} (h:ops18.contains o=true):1≤lev o:=by
 have:∀o∈ops18,1≤lev o:=by decide
 exact this o (by simpa using h)
theorem op_not91 {o:List UInt8} (h:ops18.contains o=true):o≠[91]∧zaV o=false∧zaX o=false:=by
 have:∀o∈ops18,o≠[91]∧zaV o=false∧zaX o=false:=by decide
 exact this o (by simpa using h)
theorem noIdx_sg {l:List UInt8} (h:l≠[91]) (t:List Wd):noIdx (sgW l :: t):=fun x hx=>by
 simp only[List.head?_cons,Option.some.injEq] at hx
 subst hx
 exact h
theorem first_num (r:RE) (h:r.wf=true) (hb:r.isBin=false) (t:List Wd) (x:Wd) (l:List Wd) (e:tkE lev r++t=x :: l) (hx:x.1=2):r.pos=true:=by
 cases r with
 | num n =>
  unfold tkE numW at e
  split at e
  ·simp only[List.cons_append,List.cons.injEq] at e
   rw[←e.1] at hx;cases hx
  ·simp[RE.pos];omega
 | var s=>unfold tkE at e;simp only[List.cons_append,List.cons.injEq] at e;rw[←e.1] at hx;cases hx
 | idx s a=>unfold tkE at e;simp only[List.cons_append,List.cons.injEq] at e;rw[←e.1] at hx;cases hx
 | un c a=>unfold tkE at e;simp only[List.cons_append,List.cons.injEq] at e;rw[←e.1] at hx;cases hx
 | bin o a b=>cases hb
theorem ops_br {z:Nat} {l:List Wd} {n:Nat} {e:RE} (h:Bds z 1 l n e):Ops z (sgW [40] :: (l++[sgW [41]])) (1+n) e:=by
 obtain⟨m0,h⟩:=h
 refine⟨m0+1,fun m hm t hn=>?_⟩
 obtain⟨m',rfl⟩:∃m',m=m'+1:=⟨m - 1,by omega⟩
 exact br_back (h m' (by omega) _ (noIdx_sg (by decide) _) (by rw[hlev_sg,lev_41];decide))
theorem bin_step {z:Nat} {k:Int} {la lb:List Wd} {na nb sa:Nat} {o:List UInt8} {a b:RE}
  (hl:∃m0,∀m,m0≤m→∀t s,wds s.ws=la++sgW o :: (lb++t)→s.op≤s.mo→s.op+na≤40→(zam z (m+sa) s).bind (fun x s1=>tail z (m+sa) k x s1)=tail z m k a (adv s la.length na 0))
  (hr:Bds z (lev o+1) lb nb b) (hk:k≤lev o):
  ∃m0,∀m,m0≤m→∀t,noIdx t→hlev t≤lev o→∀s,wds s.ws=(la++sgW o :: lb)++t→s.op≤s.mo→s.op+max na nb≤40→(zam z (m+(sa+1)) s).bind (fun x s1=>tail z (m+(sa+1)) k x s1)=tail z m k (.bin o a b) (adv s (la++sgW o :: lb).length (max na nb) 0):=by
 obtain⟨m1,hl⟩:=hl
 obtain⟨m2,hr⟩:=hr
 refine⟨m1+m2,fun m hm t hn ht s hw h1 h2=>?_⟩
 have hw':wds s.ws=la++sgW o :: (lb++t):=by rw[hw];simp
 have e1:m+(sa+1)=m+1+sa:=by omega
 rw[e1,hl (m+1) (by omega) t s hw' h1 (by omega)]
 have hw1:=adv_wd hw' na 0
 rw[tail,if_pos (by rw[hlev_cur hw1];exact hk),(zdv (z:=z) hw1).2.1]
 have hs:=zcR (adv_le h1 la.length na 0)
 rw[hs,adv_adv]
 have hw2:wds (adv s (la.length+1) (max na 0) (0+0)).ws=lb++t:=by
  have:=zcS hw1
  rw[show(adv s la.length na 0).ws.tail=(adv s (la.length+1) (max na 0) (0+0)).ws by unfold adv;rw[←List.drop_one,List.drop_drop]] at this
  exact this
 rw[hr m (by omega) t hn (by omega) _ hw2 (adv_le h1 _ _ _) (by show s.op+nb≤40;omega)]
 show tail z m k (.bin o a b) _=_
 rw[adv_adv]
 congr 2
 ·simp;omega
 ·omega
theorem lower_out {r:RE} {o:Int} (h:r.lower lev o=false):∀x∈(flat lev r).2,o≤lev x.1:=flat_lev lev r o h
theorem zdd {r:RE} (h:r.wf=true):∀x∈(flat lev r).2,1≤lev x.1:=fun x hx=>op_lev ((flat_wf lev r h).2 x hx).1
theorem back_all (z:Nat):∀(r:RE),r.wf=true→(r.isBin=false→Ops z (tkE lev r) (dE r) r)∧(∀(k:Int),1≤k→(∀x∈(flat lev r).2,k≤lev x.1)→Lefts z r k):=by
 intro r
 induction r with
 | num n =>
  intro h
  simp only[RE.wf,Bool.and_eq_true,decide_eq_true_eq] at h
  have key:Ops z (tkE lev (.num n)) (dE (.num n)) (.num n):=⟨1,fun m hm t _=>by
   obtain⟨m',rfl⟩:∃m',m=m'+1:=⟨m - 1,by omega⟩
   exact num_back n h t⟩
  exact⟨fun _=>key,fun k _ _=>lefts_of rfl key k⟩
 | var x =>
  intro h
  have key:Ops z (tkE lev (.var x)) (dE (.var x)) (.var x):=⟨1,fun m hm t ht=>by
   obtain⟨m',rfl⟩:∃m',m=m'+1:=⟨m - 1,by omega⟩
   exact var_back x ht⟩
  exact⟨fun _=>key,fun k _ _=>lefts_of rfl key k⟩
 | idx x e ih =>
  intro h
  simp only[RE.wf,Bool.and_eq_true] at h
  have key:Ops z (tkE lev (.idx x e)) (dE (.idx x e)) (.idx x e):=by
   obtain⟨m0,hb⟩:=zdT ((ih h.2).2 1 (by decide) (zdd h.2)) (zdd h.2)
   refine⟨m0+1,fun m hm t ht=>?_⟩
   obtain⟨m',rfl⟩:∃m',m=m'+1:=⟨m - 1,by omega⟩
   exact idx_back x (hb m' (by omega) _ (noIdx_sg (by decide) _) (by rw[hlev_sg,lev_93];decide))
  exact⟨fun _=>key,fun k _ _=>lefts_of rfl key k⟩
 | un c e ih =>
  intro h
  simp only[RE.wf,Bool.and_eq_true] at h
  have hu:Ops z (utk (unBr c e) (tkE lev e)) (dBr (unBr c e) (dE e)) e:=by
   cases hb:unBr c e with
   | true=>exact ops_br (zdT ((ih h.2).2 1 (by decide) (zdd h.2)) (zdd h.2))
   | false =>
    unfold unBr at hb
    simp only[Bool.or_eq_false_iff] at hb
    exact(ih h.2).1 hb.1
  have key:Ops z (tkE lev (.un c e)) (dE (.un c e)) (.un c e):=by
   obtain⟨m0,hu⟩:=hu
   refine⟨m0+1,fun m hm t ht=>?_⟩
   obtain⟨m',rfl⟩:∃m',m=m'+1:=⟨m - 1,by omega⟩
   refine un_back h.1 (hu m' (by omega) t ht) fun hc x l e1 hx=>?_
   cases hb:unBr c e with
   | true =>
    rw[hb] at e1
    simp only[utk,if_true,List.cons_append,List.cons.injEq] at e1
    rw[←e1.1] at hx
    cases hx
   | false =>
    rw[hb] at e1
    unfold unBr at hb
    simp only[Bool.or_eq_false_iff,Bool.and_eq_false_iff] at hb
    have hp:=first_num e h.2 hb.1 t x l e1 hx
    rcases hb.2 with h1 | h1
    ·rw[hc] at h1;cases h1
    ·rw[hp] at h1;cases h1
  exact⟨fun _=>key,fun k _ _=>lefts_of rfl key k⟩
 | bin o a b iha ihb =>
  intro h
  simp only[RE.wf,Bool.and_eq_true] at h
  obtain⟨⟨ho,hwa⟩,hwb⟩:=h
  refine⟨(fun hb=>by cases hb),fun k hk1 hk=>?_⟩
  rw[flat_bin] at hk
  have hko:k≤lev o:=hk (o,_) (List.mem_append_right _ List.mem_cons_self)
  have hR:Bds z (lev o+1) (utk (b.lower lev (lev o+1)) (tkE lev b)) (dBr (b.lower lev (lev o+1)) (dE b)) b:=by
   cases hc:b.lower lev (lev o+1) with
   | true=>exact bound_op (ops_br (zdT ((ihb hwb).2 1 (by decide) (zdd hwb)) (zdd hwb)))
   | false=>exact zdT ((ihb hwb).2 (lev o+1) (by have:=op_lev ho;omega) (lower_out hc)) (lower_out hc)
  have hno:∀t,noIdx (sgW o :: (utk (b.lower lev (lev o+1)) (tkE lev b)++t)):=fun t=>noIdx_sg (op_not91 ho).1 _
  have hL:∃m0,∀m,m0≤m→∀t s,wds s.ws=utk (a.lower lev (lev o)) (tkE lev a)++sgW o :: (utk (b.lower lev (lev o+1)) (tkE lev b)++t)→s.op≤s.mo→s.op+dBr (a.lower lev (lev o)) (dE a)≤40→(zam z (m+(if a.lower lev (lev o) then 0 else spE a)) s).bind (fun x s1=>tail z (m+(if a.lower lev (lev o) then 0 else spE a)) k x s1)=tail z m k a (adv s (utk (a.lower lev (lev o)) (tkE lev a)).length (dBr (a.lower lev (lev o)) (dE a)) 0):=by
   cases hc:a.lower lev (lev o) with
   | true =>
    obtain⟨m0,hu⟩:=ops_br (zdT ((iha hwa).2 1 (by decide) (zdd hwa)) (zdd hwa))
    refine⟨m0,fun m hm t s hw h1 h2=>?_⟩
    simp only[if_true,Nat.add_zero]
    rw[hu m hm _ (hno t) s hw h1 h2]
    rfl
   | false =>
    rw[hc] at hk
    obtain⟨m0,h0⟩:=(iha hwa).2 k hk1 (fun x hx=>hk x (List.mem_append_left _ hx))
    exact⟨m0,fun m hm t s hw h1 h2=>h0 m hm _ (hno t) (fun x hx=>by rw[hlev_sg];exact lower_out hc x hx) s hw h1 h2⟩
  obtain⟨m0,h⟩:=bin_step hL hR hko
  refine⟨m0,fun m hm t hn ht s hw h1 h2=>?_⟩
  rw[flat_bin] at ht
  have:=h m hm t hn (ht (o,_) (List.mem_append_right _ List.mem_cons_self)) s (by rw[hw];rw[tkE]) h1 h2
  rw[show spE (.bin o a b)=(if a.lower lev (lev o) then 0 else spE a)+1 from rfl,this]
  rfl
end Go.Proofs.YtagnmppdhfmgdaaGreatDoor.Pm
namespace Go.Proofs.YtagnmppdhfmgdaaGreatDoor.Pm
open Go
section
variable {α β:Type} {f:PS→PR α} {l t:List Wd} {n c:Nat} {a:α}
end
def bodyR (z m:Nat) (s1:PS):PR RS:=
 if at' z kIf s1=true then za9 z m s1
 else if at' z kWhile s1=true then loop z m s1
 else if at' z kBreak s1=true then zdp z s1
 else if at' z zbR s1=true then goOn z s1
 else if at' z zc8 s1=true then zb3 z m s1
 else if at' z zc9 s1=true then zbS z m s1
 else zaH z m s1
section
variable {z m:Nat} {l t:List Wd} {n c:Nat} {a:RS} {x:Wd} {r:List Wd}
end
def RF.ok (f:RF):Prop:=f.wf=true∧∀d∈f.vars,d.2≤1000000
def nP (p:List RF):Nat:=p.foldr (fun f k=>nSs f.body+k) 0
end Go.Proofs.YtagnmppdhfmgdaaGreatDoor.Pm

namespace Go.Proofs.YtagnmppdhfmgdaaGreatDoor.Pm
open Go
theorem take_less {z:Nat} {l:List UInt8} {s s':PS} {u:Unit} (hl:l≠[]) (h:take z l s=.ok u s'):s'.ws.length+1=s.ws.length:=by
 obtain⟨e,hp⟩:=take_ok h
 have h1:=(zda hp).2.1
 have h2:s.ws≠[]:=fun e2=>hl (by rw[←e];unfold cur;rw[e2];rfl)
 have h3:=List.length_pos_iff.2 h2
 rw[h1,List.length_tail];omega
theorem kr_length (z:Nat) (s:PS):KR s (length z s):=by
 unfold length
 split
 ·exact zcr (zcq _ _)
 ·exact zcj _ _ _
theorem kr_decl (z:Nat) (s:PS):KR s (decl z s):=by
 refine zaC (zdC _ _) fun x s1=>?_
 split
 ·exact zaC (zbC rfl rfl rfl (kr_length z) _) fun _ _=>zcq _ _
 ·exact zcq _ _
theorem kr_vars (z m:Nat) (s:PS):KR s (vars z m s):=by
 unfold vars
 split
 ·exact zcr (zaC (kr_list (kr_decl z) _) fun _ _=>zaC (zdb rfl rfl _) fun _ _=>zcq _ _)
 ·exact zcq _ _
theorem function_less {z m:Nat} {s s':PS} {f:RF} (h:za4 z m s=.ok f s'):s'.ws.length < s.ws.length∧s'.op=s.op∧s.sts≤s'.sts:=by
 unfold za4 at h
 obtain⟨u1,s1,h1,h⟩:=zaI h
 obtain⟨x,s2,h2,h⟩:=zaI h
 obtain⟨ps,s3,h3,h⟩:=zaI h
 obtain⟨u4,s4,h4,h⟩:=zaI h
 obtain⟨vs,s5,h5,h⟩:=zaI h
 obtain⟨b,s6,h6,h⟩:=zaI h
 obtain⟨u7,s7,h7,h⟩:=zaI h
 cases h
 have k1:=take_less (by decide) h1
 have q1:=take_flat h1 rfl rfl
 have p1:=zck h1
 have k2:=zdC _ _ _ _ h2
 have k3:=kr_args (zdC z) _ _ _ h3
 have q4:=zbh h4 rfl
 have p4:=zck h4
 have k5:=kr_vars _ _ _ _ _ h5
 have k6:=(kr_stmts z m).2.2.2 _ _ _ _ h6
 have q7:=zdR h7 rfl rfl
 have p7:=zck h7
 omega
end Go.Proofs.YtagnmppdhfmgdaaGreatDoor.Pm
