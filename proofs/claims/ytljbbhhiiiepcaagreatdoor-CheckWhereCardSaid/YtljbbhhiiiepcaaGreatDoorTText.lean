/- Right expressions as plain data; the words that they are put in; two right expressions of the same words are the same. -/
import Derived.Test.YtljbbhhiiiepcaaGreatDoorLDigits
set_option linter.unusedSimpArgs false
set_option linter.unusedVariables false
set_option maxHeartbeats 8000000
set_option maxRecDepth 100000
namespace Go.Proofs.YtljbbhhiiiepcaaGreatDoor
open Go
open Go.Lib (decDigits)
abbrev Wd:=Nat×List UInt8×Nat
abbrev sgW (l:List UInt8):Wd:=(4,l,0)
inductive RE where
 | num (n:Int)
 | var (s:List UInt8)
 | idx (s:List UInt8) (e:RE)
 | un (c:UInt8) (e:RE)
 | bin (o:List UInt8) (a b:RE)
deriving DecidableEq
def RE.isBin:RE→Bool
 | .bin ..=>true
 | _=>false
def RE.pos:RE→Bool
 | .num n=>decide (0≤n)
 | _=>false
def RE.lower (lev:List UInt8→Int) (k:Int):RE→Bool
 | .bin o _ _=>decide (lev o < k)
 | _=>false
def unBr (c:UInt8) (e:RE):Bool:=e.isBin||(c==45&&e.pos)
section
variable (lev:List UInt8→Int)
def zaK (s:List UInt8):Bool:=decide (0 < s.length)&&decide (s.length≤24)&&!zbn s&&(s.head?.any isLt)&&s.all isPt
def ops18:List (List UInt8):=zaX.take 18
def RE.wf:RE→Bool
 | .num n=>decide (-9223372036854775808≤n)&&decide (n≤9223372036854775807)
 | .var s=>zaK s
 | .idx s e=>zaK s&&e.wf
 | .un c e=>(c==45||c==126||c==33)&&e.wf
 | .bin o a b=>ops18.contains o&&a.wf&&b.wf
end
end Go.Proofs.YtljbbhhiiiepcaaGreatDoor
namespace Go.Proofs.YtljbbhhiiiepcaaGreatDoor
open Go
open Go.Lib (decDigits)
abbrev kW (l:List UInt8):Wd:=(5,l,0)
abbrev nmW (l:List UInt8):Wd:=(1,l,0)
def zay {α β:Type} (c:List β) (f:α→List β):List α→List β
 | []=>[]
 | [a]=>f a
 | a :: b :: l=>f a++(c++zay c f (b :: l))
theorem zcg {α β:Type} (c:List β) (f:α→List β) (a b:α) (l:List α):zay c f (a :: b :: l)=f a++(c++zay c f (b :: l)):=rfl
section
variable (lev:List UInt8→Int)
inductive RS where
 | asg (t:Nat) (x:List UInt8) (e:RE)
 | sto (t:Nat) (x:List UInt8) (i e:RE)
 | rd (t:Nat) (x:List UInt8)
 | call (t:Nat) (x f:List UInt8) (l:List RE)
 | ife (t:Nat) (c:RE) (b l:List RS)
 | whl (t:Nat) (c:RE) (b:List RS)
 | brk (t:Nat)
 | cnt (t:Nat)
 | ret (t:Nat) (e:RE)
 | ass (t:Nat) (e:RE)
def RS.tag:RS→Nat
 | .asg t _ _=>t
 | .sto t _ _ _=>t
 | .rd t _=>t
 | .call t _ _ _=>t
 | .ife t _ _ _=>t
 | .whl t _ _=>t
 | .brk t=>t
 | .cnt t=>t
 | .ret t _=>t
 | .ass t _=>t
mutual
def RS.wf:RS→Bool
 | .asg t x e=>decide (t≤1000000)&&zaK x&&e.wf
 | .sto t x i e=>decide (t≤1000000)&&zaK x&&i.wf&&e.wf
 | .rd t x=>decide (t≤1000000)&&zaK x
 | .call t x f l=>decide (t≤1000000)&&zaK x&&zaK f&&l.all RE.wf
 | .ife t c b l=>decide (t≤1000000)&&c.wf&&wfSs b&&wfSs l
 | .whl t c b=>decide (t≤1000000)&&c.wf&&wfSs b
 | .brk t=>decide (t≤1000000)
 | .cnt t=>decide (t≤1000000)
 | .ret t e=>decide (t≤1000000)&&e.wf
 | .ass t e=>decide (t≤1000000)&&e.wf
def wfSs:List RS→Bool
 | []=>true
 | s :: l=>s.wf&&wfSs l
end
structure RF where
 name:List UInt8
 params:List (List UInt8)
 vars:List (List UInt8×Nat)
 body:List RS
def RF.wf (f:RF):Bool:=zaK f.name&&f.params.all zaK&&f.vars.all (fun d=>zaK d.1&&decide (d.2≤9223372036854775807))&&wfSs f.body
end
end Go.Proofs.YtljbbhhiiiepcaaGreatDoor
namespace Go.Proofs.YtljbbhhiiiepcaaGreatDoor
open Go
open Go.Lib (decDigits itoa)
def Lx (l:List UInt8) (ws:List Wd):Prop:=∀p,(lexP p l).1.map (List.map fun t=>(t.kind,t.text,t.n))=some ws
theorem Lx.fn {l:List UInt8} {ws ws':List Wd} (h:Lx l ws) (h':Lx l ws'):ws=ws':=by
 have:=(h 0).symm.trans (h' 0)
 simpa using this
theorem Lx.nil:Lx [] []:=fun p=>by rw[lexP_nil];rfl
theorem Lx.sp {c:UInt8} {l:List UInt8} {ws:List Wd} (hc:isSp c=true) (h:Lx l ws):Lx (c :: l) ws:=fun p=>by rw[zdC p l hc];exact h _
theorem Lx.word {c:UInt8} {r t:List UInt8} {k n:Nat} {ws:List Wd} (hc:isSp c=false) (hw:za6 (c :: r++t)=some (k,(c :: r).length,n)) (h:Lx t ws):Lx (c :: r++t) ((k,c :: r,n) :: ws):=fun p=>by
 rw[List.cons_append] at hw ⊢
 rw[zd1 p (r++t) hc hw,←List.cons_append,List.take_left',List.drop_left']
 ·have:=h (p+(c :: r).length)
  cases e:(lexP (p+(c :: r).length) t).1 with
  | none=>rw[e] at this;cases this
  | some ts =>
   rw[e] at this
   simp only[pre,e,Option.map_some,List.map_cons,Option.some.injEq] at this ⊢
   rw[this]
 ·rfl
 ·rfl
def NP (l:List UInt8):Prop:=∀c,l.head?=some c→isPt c=false
theorem NP.nil:NP []:=fun c h=>by simp at h
theorem NP.cons {c:UInt8} (h:isPt c=false) (l:List UInt8):NP (c :: l):=fun d hd=>by
 simp only[List.head?_cons,Option.some.injEq] at hd;subst hd;exact h
theorem tw_stop {p:UInt8→Bool}:∀(s t:List UInt8),(∀c∈s,p c=true)→(∀c,t.head?=some c→p c=false)→(s++t).takeWhile p=s:=by
 intro s
 induction s with
 | nil =>
  intro t _ h
  cases t with
  | nil=>rfl
  | cons c r=>rw[List.nil_append,List.takeWhile_cons_of_neg (by simp[h c rfl])]
 | cons c r ih =>
  intro t hs h
  rw[List.cons_append,List.takeWhile_cons_of_pos (hs c List.mem_cons_self),ih t (fun d hd=>hs d (List.mem_cons_of_mem _ hd)) h]
theorem lt_sp {c:UInt8} (h:isLt c=true):isSp c=false:=by
 cases hs:isSp c with
 | false=>rfl
 | true=>rw[(sp_not hs).1] at h;cases h
theorem Lx.letters {s t:List UInt8} {ws:List Wd} (h1:s.head?.any isLt=true) (h2:s.all isPt=true) (hk:zbn s=true∨s.length≤24) (ht:NP t) (h:Lx t ws):Lx (s++t) ((if zbn s then 5 else 1,s,0) :: ws):=by
 cases s with
 | nil=>simp at h1
 | cons c r =>
  have hc:isLt c=true:=by simpa using h1
  have htw:(c :: r++t).takeWhile isPt=c :: r:=tw_stop _ _ (by simpa using h2) ht
  refine Lx.word (lt_sp hc) ?_ h
  rw[List.cons_append] at htw ⊢
  unfold za6
  simp only[hc,if_true,htw]
  cases hkk:zbn (c :: r) with
  | true=>simp
  | false =>
   rw[hkk] at hk
   have:¬24 < (c :: r).length:=by
    rcases hk with h | h
    ·cases h
    ·omega
   simp only[Bool.false_eq_true,if_false,if_neg this]
theorem Lx.name {s t:List UInt8} {ws:List Wd} (hs:zaK s=true) (ht:NP t) (h:Lx t ws):Lx (s++t) (nmW s :: ws):=by
 simp only[zaK,Bool.and_eq_true,decide_eq_true_eq,Bool.not_eq_true'] at hs
 obtain⟨⟨⟨⟨_,h24⟩,hk⟩,h1⟩,h2⟩:=hs
 have:=Lx.letters h1 h2 (.inr h24) ht h
 rwa [hk] at this
theorem Lx.key {s t:List UInt8} {ws:List Wd} (hk:zbn s=true) (h1:s.head?.any isLt=true) (h2:s.all isPt=true) (ht:NP t) (h:Lx t ws):Lx (s++t) (kW s :: ws):=by
 have:=Lx.letters h1 h2 (.inl hk) ht h
 rwa [hk] at this
theorem pt_dg {c:UInt8} (h:isPt c=false):isDg c=false:=by
 unfold isPt at h;simp only[Bool.or_eq_false_iff] at h;exact h.2
theorem Lx.num {u:Nat} {t:List UInt8} {ws:List Wd} (hu:u≤9223372036854775808) (ht:NP t) (h:Lx t ws):Lx (decDigits u++t) ((2,decDigits u,u) :: ws):=by
 have ha:=dec_all u
 have hn:=num_dec 9223372036854775808 u (by omega)
 cases e:decDigits u with
 | nil=>exact absurd e (dec_ne u)
 | cons c r =>
  rw[e] at ha hn
  have hd:=ha c List.mem_cons_self
  obtain⟨hl,hs⟩:=dg_not hd
  have htw:(c :: r++t).takeWhile isDg=c :: r:=tw_stop _ _ ha (fun d hd=>pt_dg (ht d hd))
  refine Lx.word hs ?_ h
  rw[List.cons_append] at htw ⊢
  unfold za6
  simp only[hl,hd,if_true,Bool.false_eq_true,if_false,htw,hn]
  rw[if_neg (by omega)];rfl
theorem Lx.tag {u:Nat} {t:List UInt8} {ws:List Wd} (hu:u≤1000000) (ht:NP t) (h:Lx t ws):Lx (64 :: decDigits u++t) ((3,64 :: decDigits u,u) :: ws):=by
 have htw:(decDigits u++t).takeWhile isDg=decDigits u:=tw_stop _ _ (dec_all u) (fun d hd=>pt_dg (ht d hd))
 refine Lx.word (by decide) ?_ h
 rw[List.cons_append]
 unfold za6
 simp only[show isLt 64=false by decide,show isDg 64=false by decide,show((64:UInt8).toNat==64)=true by decide,if_true,Bool.false_eq_true,if_false,htw,num_dec 1000000 u (by omega)]
 rw[if_neg (by omega)]
 simp[Nat.add_comm]
theorem sign_head:∀s∈zaX,∀c,s.head?=some c→isLt c=false∧isDg c=false∧(c.toNat==64)=false∧isSp c=false:=by decide
theorem Lx.sign {s t:List UInt8} {ws:List Wd} (hs:s∈zaX) (hl:zaB (s++t)=s) (h:Lx t ws):Lx (s++t) (sgW s :: ws):=by
 cases s with
 | nil=>exact absurd hs (by decide)
 | cons c r =>
  obtain⟨h1,h2,h3,h4⟩:=sign_head _ hs c rfl
  refine Lx.word h4 ?_ h
  rw[List.cons_append] at hl ⊢
  unfold za6
  simp only[h1,h2,h3,if_true,Bool.false_eq_true,if_false,hl]
  simp
theorem longest_one {c:UInt8} {t:List UInt8} (hc:[c]∈zaX) (hn:∀d,t.head?=some d→[c,d]∉zaX):zaB ([c]++t)=[c]:=by
 obtain⟨h1,h2⟩:=zbP ([c]++t)
 have h3:=longest_most ([c]++t) [c] hc (List.prefix_append _ _)
 have h4:=longest_len ([c]++t)
 have h5:zaB ([c]++t)∈zaX:=h1.resolve_left (fun e=>by rw[e] at h3;simp at h3)
 have e:=List.prefix_iff_eq_take.1 h2
 have h3':1≤(zaB ([c]++t)).length:=h3
 have h6:(zaB ([c]++t)).length=1∨(zaB ([c]++t)).length=2:=by omega
 rcases h6 with h6 | h6
 ·rw[h6] at e;rw[e];rfl
 ·exfalso
  rw[h6] at e
  cases t with
  | nil=>rw[e] at h6;simp at h6
  | cons d r=>exact hn d rfl (by rw[←show zaB ([c]++d :: r)=[c,d] from e];exact h5)
theorem longest_two {c d:UInt8} {t:List UInt8} (hc:[c,d]∈zaX):zaB ([c,d]++t)=[c,d]:=by
 have h2:=(zbP ([c,d]++t)).2
 have h3:=longest_most ([c,d]++t) [c,d] hc (List.prefix_append _ _)
 have h4:=longest_len ([c,d]++t)
 have e:=List.prefix_iff_eq_take.1 h2
 have h3':2≤(zaB ([c,d]++t)).length:=h3
 rw[show(zaB ([c,d]++t)).length=2 by omega] at e
 rw[e];rfl
theorem op_spaced:∀s∈zaX,∀t,zaB (s++32 :: t)=s:=by
 intro s hs t
 have h:s.length=1∨s.length=2:=(by decide:∀s∈zaX,s.length=1∨s.length=2) s hs
 rcases h with h | h
 ·obtain⟨c,rfl⟩:=List.length_eq_one_iff.1 h
  refine longest_one hs fun d hd hm=>?_
  simp only[List.head?_cons,Option.some.injEq] at hd
  have:=sp_sign _ hm 32 (by rw[hd];simp)
  revert this;decide
 ·match s,h,hs with
  | [c,d],_,hs=>exact longest_two hs
theorem Lx.op {s t:List UInt8} {ws:List Wd} (hs:s∈zaX) (h:Lx t ws):Lx (s++32 :: t) (sgW s :: ws):=
 Lx.sign hs (op_spaced s hs t) (Lx.sp (by decide) h)
section
variable (lev:List UInt8→Int)
def inBr (b:Bool) (l:List UInt8):List UInt8:=if b then 40 :: (l++[41]) else l
def putR:RE→List UInt8
 | .num n=>itoa n
 | .var s=>s
 | .idx s e=>s++91 :: (putR e++[93])
 | .un c e=>c :: inBr (unBr c e) (putR e)
 | .bin o a b=>inBr (a.lower lev (lev o)) (putR a)++32 :: (o++32 :: inBr (b.lower lev (lev o+1)) (putR b))
def za4 (d:Nat):List UInt8:=List.replicate d 9
def tagT (t:Nat):List UInt8:=if t=0 then [] else 64 :: (decDigits t++[32])
def putA (l:List RE):List UInt8:=zay [44,32] (putR lev) l
mutual
def putB (d:Nat):RS→List UInt8
 | .asg _ x e=>x++32 :: 61 :: 32 :: (putR lev e++[59])
 | .sto _ x i e=>x++91 :: (putR lev i++93 :: 32 :: 61 :: 32 :: (putR lev e++[59]))
 | .rd _ x=>x++[32,61,32,114,101,97,100,40,41,59]
 | .call _ x f l=>x++32 :: 61 :: 32 :: (f++40 :: (putA lev l++[41,59]))
 | .ife _ c b l=>[105,102]++32 :: 40 :: (putR lev c++41 :: 32 :: 123 :: 10 :: (putL (d+1) b++(za4 d++125 :: (if l.isEmpty then [] else 32 :: ([101,108,115,101]++32 :: 123 :: 10 :: (putL (d+1) l++(za4 d++[125])))))))
 | .whl _ c b=>[119,104,105,108,101]++32 :: 40 :: (putR lev c++41 :: 32 :: 123 :: 10 :: (putL (d+1) b++(za4 d++[125])))
 | .brk _=>[98,114,101,97,107]++[59]
 | .cnt _=>[99,111,110,116,105,110,117,101]++[59]
 | .ret _ e=>[114,101,116,117,114,110]++32 :: (putR lev e++[59])
 | .ass _ e=>[97,115,115,101,114,116]++40 :: (putR lev e++[41,59])
def putL (d:Nat):List RS→List UInt8
 | []=>[]
 | s :: l=>za4 d++(tagT s.tag++(putB d s++10 :: putL d l))
end
theorem zd5 (d:Nat) (s:RS) (l:List RS):putL lev d (s :: l)=za4 d++(tagT s.tag++(putB lev d s++10 :: putL lev d l)):=by rw[putL]
theorem zdT (d:Nat) (l m:List RS):putL lev d (l++m)=putL lev d l++putL lev d m:=by
 induction l with
 | nil=>rw[putL];rfl
 | cons s l ih=>rw[List.cons_append,zd5,zd5,ih];simp only[List.append_assoc,List.cons_append]
def putD (d:List UInt8×Nat):List UInt8:=d.1++(if d.2=0 then [] else 91 :: (decDigits d.2++[93]))
def putV (l:List (List UInt8×Nat)):List UInt8:=if l.isEmpty then [] else 9 :: ([118,97,114]++32 :: (zay [44,32] putD l++[59,10]))
def putF (f:RF):List UInt8:=[102,117,110,99]++32 :: (f.name++40 :: (zay [44,32] (fun s=>s) f.params++41 :: 32 :: 123 :: 10 :: (putV f.vars++(putL lev 1 f.body++[125,10]))))
end
end Go.Proofs.YtljbbhhiiiepcaaGreatDoor
namespace Go.Proofs.YtljbbhhiiiepcaaGreatDoor
def RE.dep:RE→Nat
 | .num _=>0
 | .var _=>0
 | .idx _ e=>e.dep+1
 | .un _ e=>e.dep+1
 | .bin _ a b=>max a.dep b.dep+1
def depA:List RE→Nat
 | []=>0
 | e :: l=>max (2*e.dep) (depA l)
mutual
def dpB:RS→Nat
 | .asg _ _ e=>2*e.dep
 | .sto _ _ i e=>max (1+2*i.dep) (2*e.dep)
 | .rd _ _=>1
 | .call _ _ _ l=>1+depA l
 | .ife _ c b l=>max (1+2*c.dep) (max (1+dpSs b) (1+dpSs l))
 | .whl _ c b=>max (1+2*c.dep) (1+dpSs b)
 | .brk _=>0
 | .cnt _=>0
 | .ret _ e=>2*e.dep
 | .ass _ e=>1+2*e.dep
def dpSs:List RS→Nat
 | []=>0
 | s :: l=>max (dpB s) (dpSs l)
end
mutual
def nB:RS→Nat
 | .ife _ _ b l=>nSs b+nSs l
 | .whl _ _ b=>nSs b
 | .asg _ _ _=>0
 | .sto _ _ _ _=>0
 | .rd _ _=>0
 | .call _ _ _ _=>0
 | .brk _=>0
 | .cnt _=>0
 | .ret _ _=>0
 | .ass _ _=>0
def nSs:List RS→Nat
 | []=>0
 | s :: l=>1+nB s+nSs l
end
theorem nSs_append (a b:List RS):nSs (a++b)=nSs a+nSs b:=by
 induction a with
 | nil=>rw[List.nil_append,nSs];omega
 | cons s a ih=>rw[List.cons_append,nSs,nSs,ih];omega
theorem dpSs_append (a b:List RS):dpSs (a++b)=max (dpSs a) (dpSs b):=by
 induction a with
 | nil=>rw[List.nil_append,dpSs];omega
 | cons s a ih=>rw[List.cons_append,dpSs,dpSs,ih];omega
end Go.Proofs.YtljbbhhiiiepcaaGreatDoor
