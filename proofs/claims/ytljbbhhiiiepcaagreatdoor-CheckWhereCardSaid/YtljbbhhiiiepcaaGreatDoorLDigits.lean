/- Words of texts, as plain functions on lists of bytes, and the four equations by which a text is cut into them. -/
import Derived.Lib.ParseIntBCases
import Derived.Lib.Strings
import Derived.Lib.ItoaNum
set_option linter.unusedSimpArgs false
set_option linter.unusedVariables false
set_option maxHeartbeats 8000000
set_option maxRecDepth 100000
namespace Go.Proofs.YtljbbhhiiiepcaaGreatDoor
open Go
def isSp (c:UInt8):Bool:=c.toNat==32||c.toNat==9||c.toNat==10||c.toNat==13
def isLt (c:UInt8):Bool:=(decide (97≤c.toNat)&&decide (c.toNat≤122))||(decide (65≤c.toNat)&&decide (c.toNat≤90))||c.toNat==95
def isDg (c:UInt8):Bool:=decide (48≤c.toNat)&&decide (c.toNat≤57)
def isPt (c:UInt8):Bool:=isLt c||isDg c
def keysL:List (List UInt8):=[[102,117,110,99],[118,97,114],[105,102],[101,108,115,101],[119,104,105,108,101],[98,114,101,97,107],[99,111,110,116,105,110,117,101],[114,101,116,117,114,110],[97,115,115,101,114,116],[114,101,97,100]]
def zbn (l:List UInt8):Bool:=keysL.contains l
def zaX:List (List UInt8):=[[124,124],[38,38],[124],[94],[38],[61,61],[33,61],[60],[60,61],[62],[62,61],[60,60],[62,62],[43],[45],[42],[47],[37],[126],[33],[40],[41],[91],[93],[123],[125],[44],[59],[61]]
def zcH (l best s:List UInt8):List UInt8:=if best.length < s.length∧Lib.hasPrefix l s=true then s else best
def zaB (l:List UInt8):List UInt8:=zaX.foldl (zcH l) []
def zbC (most:Nat) (l:List UInt8):Option Nat:=
 if 1 < l.length∧l.head?=some 48 then none
 else match Lib.parseUintB 64 l with
  | .ok u=>if most < u then none else some u
  | _=>none
def za6 (l:List UInt8):Option (Nat×Nat×Nat):=
 match l with
 | []=>none
 | c :: r =>
  if isLt c then
   if zbn (l.takeWhile isPt) then some (5,(l.takeWhile isPt).length,0)
   else if 24 < (l.takeWhile isPt).length then none
   else some (1,(l.takeWhile isPt).length,0)
  else if isDg c then (zbC 9223372036854775808 (l.takeWhile isDg)).map fun n=>(2,(l.takeWhile isDg).length,n)
  else if c.toNat==64 then (zbC 1000000 (r.takeWhile isDg)).map fun n=>(3,1+(r.takeWhile isDg).length,n)
  else if zaB l=[] then none
  else some (4,(zaB l).length,0)
structure Tok where
 kind:Nat
 text:List UInt8
 n:Nat
 at':Nat
deriving DecidableEq
def pre (t:Tok) (x:Option (List Tok)×Nat):Option (List Tok)×Nat:=(x.1.map (t :: ·),x.2)
def lexF:Nat→Nat→List UInt8→Option (List Tok)×Nat
 | 0,p,_=>(none,p)
 | _+1,p,[]=>(some [],p)
 | f+1,p,c :: r =>
  if isSp c then lexF f (p+1) r
  else match za6 (c :: r) with
   | none=>(none,p)
   | some (k,len,n)=>pre ⟨k,(c :: r).take len,n,p⟩ (lexF f (p+len) ((c :: r).drop len))
def lexP (p:Nat) (l:List UInt8):Option (List Tok)×Nat:=lexF (l.length+1) p l
theorem zde (l:List UInt8):∀(ss:List (List UInt8)) (b:List UInt8),(ss.foldl (zcH l) b=b∨(ss.foldl (zcH l) b∈ss∧Lib.hasPrefix l (ss.foldl (zcH l) b)=true))∧b.length≤(ss.foldl (zcH l) b).length∧∀s∈ss,Lib.hasPrefix l s=true→s.length≤(ss.foldl (zcH l) b).length:=by
 intro ss
 induction ss with
 | nil=>intro b;exact⟨.inl rfl,Nat.le_refl _,fun s h=>absurd h (by simp)⟩
 | cons s ss ih =>
  intro b
  rw[List.foldl_cons]
  obtain⟨h1,h2,h3⟩:=ih (zcH l b s)
  by_cases hc:b.length < s.length∧Lib.hasPrefix l s=true
  ·have e:zcH l b s=s:=if_pos hc
   rw[e] at h1 h2 h3 ⊢
   refine⟨?_,by omega,fun u hu hp=>?_⟩
   ·rcases h1 with h1 | h1
    ·exact .inr ⟨by rw[h1];exact List.mem_cons_self,by rw[h1];exact hc.2⟩
    ·exact .inr ⟨List.mem_cons_of_mem _ h1.1,h1.2⟩
   ·rcases List.mem_cons.1 hu with rfl | hu
    ·exact h2
    ·exact h3 u hu hp
  ·have e:zcH l b s=b:=if_neg hc
   rw[e] at h1 h2 h3 ⊢
   refine⟨?_,by omega,fun u hu hp=>?_⟩
   ·rcases h1 with h1 | h1
    ·exact .inl h1
    ·exact .inr ⟨List.mem_cons_of_mem _ h1.1,h1.2⟩
   ·rcases List.mem_cons.1 hu with rfl | hu
    ·have:¬b.length < u.length:=fun hlt=>hc ⟨hlt,hp⟩
     omega
    ·exact h3 u hu hp
theorem prefix_iff (l s:List UInt8):Lib.hasPrefix l s=true↔s <+: l:=by
 unfold Lib.hasPrefix;rw[List.isPrefixOf_iff_prefix]
theorem zbP (l:List UInt8):(zaB l=[]∨zaB l∈zaX)∧zaB l <+: l:=by
 obtain⟨h,_,_⟩:=zde l zaX []
 rcases h with h | h
 ·exact⟨.inl h,by show zaX.foldl (zcH l) [] <+: l;rw[h];exact List.nil_prefix⟩
 ·exact⟨.inr h.1,(prefix_iff _ _).1 h.2⟩
theorem longest_most (l s:List UInt8) (h:s∈zaX) (hp:s <+: l):s.length≤(zaB l).length:=
 (zde l zaX []).2.2 s h ((prefix_iff _ _).2 hp)
theorem longest_len (l:List UInt8):(zaB l).length≤2:=by
 have:∀s∈zaX,s.length≤2:=by decide
 rcases(zbP l).1 with h | h
 ·rw[h];simp
 ·exact this _ h
theorem zce {l:List UInt8} {k len n:Nat} (h:za6 l=some (k,len,n)):0 < len∧len≤l.length:=by
 unfold za6 at h
 split at h
 ·cases h
 ·rename_i c r
  have t1:∀(p:UInt8→Bool) (l:List UInt8),(l.takeWhile p).length≤l.length:=fun p l=>(List.takeWhile_prefix p).length_le
  have t2:∀(p:UInt8→Bool),p c=true→0 < ((c :: r).takeWhile p).length:=fun p hp=>by rw[List.takeWhile_cons_of_pos hp];simp
  have ep:isLt c=true→isPt c=true:=fun h=>by simp[isPt,h]
  split at h
  ·rename_i hl
   have a1:=t1 isPt (c :: r)
   have a2:=t2 isPt (ep hl)
   split at h
   ·simp only[Option.some.injEq,Prod.mk.injEq] at h;omega
   ·split at h
    ·cases h
    ·simp only[Option.some.injEq,Prod.mk.injEq] at h;omega
  ·split at h
   ·rename_i hd
    have a1:=t1 isDg (c :: r)
    have a2:=t2 isDg hd
    cases hn:zbC 9223372036854775808 ((c :: r).takeWhile isDg) with
    | none=>rw[hn] at h;cases h
    | some m=>rw[hn] at h;simp only[Option.map_some,Option.some.injEq,Prod.mk.injEq] at h;omega
   ·split at h
    ·have a1:=t1 isDg r
     cases hn:zbC 1000000 (r.takeWhile isDg) with
     | none=>rw[hn] at h;cases h
     | some m=>rw[hn] at h;simp only[Option.map_some,Option.some.injEq,Prod.mk.injEq] at h;simp only[List.length_cons];omega
    ·split at h
     ·cases h
     ·rename_i hne
      simp only[Option.some.injEq,Prod.mk.injEq] at h
      have a1:=(zbP (c :: r)).2.length_le
      have a2:0 < (zaB (c :: r)).length:=by
       cases e:zaB (c :: r) with
       | nil=>exact absurd e hne
       | cons=>simp
      omega
theorem lexF_more:∀(f:Nat) (p:Nat) (l:List UInt8),l.length < f→lexF f p l=lexP p l:=by
 have main:∀(n f g p:Nat) (l:List UInt8),l.length < n→l.length < f→l.length < g→lexF f p l=lexF g p l:=by
  intro n
  induction n with
  | zero=>intro f g p l h;omega
  | succ n ih =>
   intro f g p l hn hf hg
   obtain⟨f,rfl⟩:∃f',f=f'+1:=⟨f - 1,by omega⟩
   obtain⟨g,rfl⟩:∃g',g=g'+1:=⟨g - 1,by omega⟩
   cases l with
   | nil=>rfl
   | cons c r =>
    simp only[List.length_cons] at hn hf hg
    unfold lexF
    by_cases hs:isSp c=true
    ·rw[if_pos hs,if_pos hs];exact ih f g _ r (by omega) (by omega) (by omega)
    ·rw[if_neg hs,if_neg hs]
     cases hw:za6 (c :: r) with
     | none=>rfl
     | some x =>
      obtain⟨k,len,m⟩:=x
      have hl:=zce hw
      simp only[List.length_cons] at hl
      show pre _ _=pre _ _
      rw[ih f g (p+len) ((c :: r).drop len) (by simp;omega) (by simp;omega) (by simp;omega)]
 intro f p l h
 exact main (l.length+1) f (l.length+1) p l (by omega) h (by omega)
theorem lexP_nil (p:Nat):lexP p []=(some [],p):=rfl
theorem zdC {c:UInt8} (p:Nat) (r:List UInt8) (h:isSp c=true):lexP p (c :: r)=lexP (p+1) r:=by
 show lexF (r.length+1+1) p (c :: r)=_
 rw[lexF,if_pos h];rfl
theorem lexP_bad {c:UInt8} (p:Nat) (r:List UInt8) (h:isSp c=false) (hw:za6 (c :: r)=none):lexP p (c :: r)=(none,p):=by
 show lexF (r.length+1+1) p (c :: r)=_
 rw[lexF,if_neg (by simp[h]),hw]
theorem zd1 {c:UInt8} (p:Nat) (r:List UInt8) {k len n:Nat} (h:isSp c=false) (hw:za6 (c :: r)=some (k,len,n)):
  lexP p (c :: r)=pre ⟨k,(c :: r).take len,n,p⟩ (lexP (p+len) ((c :: r).drop len)):=by
 have hl:=zce hw
 show lexF (r.length+1+1) p (c :: r)=_
 rw[lexF,if_neg (by simp[h]),hw]
 show pre _ _=pre _ _
 rw[lexF_more _ _ _ (by simp;omega)]
theorem lexP_skip (p:Nat) (l:List UInt8):lexP p l=lexP (p+(l.takeWhile isSp).length) (l.drop (l.takeWhile isSp).length):=by
 induction l generalizing p with
 | nil=>rfl
 | cons c r ih =>
  cases h:isSp c with
  | true=>rw[zdC p r h,List.takeWhile_cons_of_pos h,ih];simp[Nat.add_assoc,Nat.add_comm 1]
  | false=>rw[List.takeWhile_cons_of_neg (by simp[h])];rfl
theorem lexP_at:∀(n p:Nat) (l:List UInt8),l.length < n→((lexP p l).1=none→p≤(lexP p l).2∧(lexP p l).2 < p+l.length)∧(∀ts,(lexP p l).1=some ts→(lexP p l).2=p+l.length):=by
 intro n
 induction n with
 | zero=>intro p l h;omega
 | succ n ih =>
  intro p l hl
  cases l with
  | nil=>rw[lexP_nil];exact⟨by simp,by simp⟩
  | cons c r =>
   simp only[List.length_cons] at hl
   cases h:isSp c with
   | true =>
    rw[zdC p r h]
    have:=ih (p+1) r (by omega)
    refine⟨fun e=>?_,fun ts e=>?_⟩
    ·have:=this.1 e;simp only[List.length_cons];omega
    ·have:=this.2 ts e;simp only[List.length_cons];omega
   | false =>
    cases hw:za6 (c :: r) with
    | none=>rw[lexP_bad p r h hw];exact⟨fun _=>by simp only[List.length_cons];omega,by simp⟩
    | some x =>
     obtain⟨k,len,m⟩:=x
     have hlen:=zce hw
     simp only[List.length_cons] at hlen
     rw[zd1 p r h hw]
     have:=ih (p+len) ((c :: r).drop len) (by simp;omega)
     have hd:((c :: r).drop len).length=r.length+1 - len:=by simp
     rw[hd] at this
     refine⟨fun e=>?_,fun ts e=>?_⟩
     ·have e':(lexP (p+len) ((c :: r).drop len)).1=none:=by simpa[pre] using e
      have:=this.1 e';simp only[List.length_cons,pre];omega
     ·obtain⟨ts',e',_⟩:∃ts',(lexP (p+len) ((c :: r).drop len)).1=some ts'∧True:=by
       cases e2:(lexP (p+len) ((c :: r).drop len)).1 with
       | none=>simp[pre,e2] at e
       | some ts'=>exact⟨ts',rfl,trivial⟩
      have:=this.2 ts' e';simp only[List.length_cons,pre];omega
end Go.Proofs.YtljbbhhiiiepcaaGreatDoor
namespace Go.Proofs.YtljbbhhiiiepcaaGreatDoor
open Go
theorem tw_drop {p:UInt8→Bool}:∀(l:List UInt8) (c:UInt8),(l.drop (l.takeWhile p).length).head?=some c→p c=false:=by
 intro l
 induction l with
 | nil=>intro c h;simp at h
 | cons a r ih =>
  intro c h
  cases hc:p a with
  | true=>rw[List.takeWhile_cons_of_pos hc,List.length_cons,List.drop_succ_cons] at h;exact ih c h
  | false =>
   rw[List.takeWhile_cons_of_neg (by simp[hc])] at h
   simp only[List.length_nil,List.drop_zero,List.head?_cons,Option.some.injEq] at h
   rw[←h];exact hc
theorem tw_take {p:UInt8→Bool} (l:List UInt8):l.take (l.takeWhile p).length=l.takeWhile p:=
 (List.prefix_iff_eq_take.1 (List.takeWhile_prefix p)).symm
theorem sp_not {c:UInt8} (h:isSp c=true):isLt c=false∧isDg c=false∧isPt c=false∧(c.toNat==64)=false:=by
 have h':c.toNat=32∨c.toNat=9∨c.toNat=10∨c.toNat=13:=by simpa[isSp,or_assoc] using h
 have e1:isLt c=false:=by unfold isLt;rcases h' with h' | h' | h' | h'<;>rw[h']<;>rfl
 have e2:isDg c=false:=by unfold isDg;rcases h' with h' | h' | h' | h'<;>rw[h']<;>rfl
 exact⟨e1,e2,by unfold isPt;rw[e1,e2];rfl,by rcases h' with h' | h' | h' | h'<;>rw[h']<;>rfl⟩
theorem sp_sign:∀s∈zaX,∀c∈s,isSp c=false:=by decide
def Good (t:Tok):Prop:=∃c r l,t.text=c :: r∧isSp c=false∧za6 l=some (t.kind,t.text.length,t.n)∧l.take t.text.length=t.text
theorem Good.pos {t:Tok} (h:Good t):0 < t.text.length:=by obtain⟨c,r,l,e,_⟩:=h;rw[e];simp
end Go.Proofs.YtljbbhhiiiepcaaGreatDoor
namespace Go.Proofs.YtljbbhhiiiepcaaGreatDoor
open Go
open Go.Lib (decDigits)
theorem dec_all (u:Nat):∀c∈decDigits u,isDg c=true:=by
 induction u using Nat.strongRecOn with
 | ind u ih =>
  rw[decDigits]
  split
  ·rename_i h
   intro c hc
   rw[List.mem_singleton] at hc
   subst hc
   have e:(UInt8.ofNat (48+u)).toNat=48+u:=by simp;omega
   unfold isDg;rw[e];simp;omega
  ·rename_i h
   intro c hc
   rw[List.mem_append] at hc
   rcases hc with hc | hc
   ·exact ih _ (by omega) c hc
   ·rw[List.mem_singleton] at hc
    subst hc
    have e:(UInt8.ofNat (48+u % 10)).toNat=48+u % 10:=by simp;omega
    unfold isDg;rw[e];simp;omega
theorem dec_ne (u:Nat):decDigits u≠[]:=by rw[decDigits];split<;>simp
theorem dec_head (u:Nat) (hu:0 < u):∃c r,decDigits u=c :: r∧c≠48:=by
 induction u using Nat.strongRecOn with
 | ind u ih =>
  rw[decDigits]
  split
  ·rename_i h
   refine⟨_,[],rfl,fun e=>?_⟩
   have e1:(UInt8.ofNat (48+u)).toNat=48+u:=by simp;omega
   rw[e] at e1
   have:(48:UInt8).toNat=48:=rfl
   omega
  ·rename_i h
   obtain⟨c,r,e,hc⟩:=ih (u / 10) (by omega) (by omega)
   exact⟨c,r++[_],by rw[e];rfl,hc⟩
theorem dec_one (u:Nat) (h:u < 10):decDigits u=[UInt8.ofNat (48+u)]:=by rw[decDigits,dif_pos h]
theorem dec_more (u:Nat) (h:¬u < 10):decDigits u=decDigits (u / 10)++[UInt8.ofNat (48+u % 10)]:=by rw[decDigits,dif_neg h]
theorem dec_len (u:Nat) (h:u < 18446744073709551616):(decDigits u).length≤20:=by
 have main:∀(k u:Nat),u < 10 ^ (k+1)→(decDigits u).length≤k+1:=by
  intro k
  induction k with
  | zero=>intro u hu;rw[dec_one u (by omega)];simp
  | succ k ih =>
   intro u hu
   by_cases h10:u < 10
   ·rw[dec_one u h10];simp
   ·rw[dec_more u h10,List.length_append,List.length_singleton]
    have:=ih (u / 10) (by
     have:u < 10 ^ (k+1)*10:=by rw[←Nat.pow_succ];exact hu
     omega)
    omega
 exact main 19 u (by omega)
theorem parse_append (M:Nat):∀(l r:List UInt8) (acc u:Nat),Lib.parseUintM M acc l=.ok u→Lib.parseUintM M acc (l++r)=Lib.parseUintM M u r:=by
 intro l
 induction l with
 | nil=>intro r acc u h;rw[Lib.parseUintM] at h;injection h with h;rw[h];rfl
 | cons c l ih =>
  intro r acc u h
  rw[List.cons_append]
  rw[Lib.parseUintM] at h ⊢
  split at h
  ·rename_i h1
   rw[if_pos h1]
   split at h
   ·cases h
   ·rename_i h2
    rw[if_neg h2]
    split at h
    ·cases h
    ·rename_i h3
     rw[if_neg h3]
     exact ih r _ u h
  ·cases h
theorem parse_dec (u:Nat) (h:u < 18446744073709551616):Lib.parseUintM 18446744073709551615 0 (decDigits u)=.ok u:=by
 induction u using Nat.strongRecOn with
 | ind u ih =>
  by_cases h10:u < 10
  ·rw[dec_one u h10]
   have e:(UInt8.ofNat (48+u)).toNat=48+u:=by simp;omega
   rw[Lib.parseUintM,e,if_pos (by omega),if_neg (by omega),if_neg (by omega),Lib.parseUintM]
   congr 1;omega
  ·rw[dec_more u h10,parse_append _ _ _ _ _ (ih (u / 10) (by omega) (by omega))]
   have e:(UInt8.ofNat (48+u % 10)).toNat=48+u % 10:=by simp;omega
   rw[Lib.parseUintM,e,if_pos (by omega),if_neg (by omega),if_neg (by omega),Lib.parseUintM]
   congr 1;omega
theorem parse_is (u:Nat) (h:u < 18446744073709551616):Lib.parseUintB 64 (decDigits u)=.ok u:=by
 unfold Lib.parseUintB
 rw[if_neg (dec_ne u)]
 exact parse_dec u h
theorem num_dec (most u:Nat) (h:u < 18446744073709551616):zbC most (decDigits u)=if most < u then none else some u:=by
 unfold zbC
 rw[parse_is u h]
 have hc:¬(1 < (decDigits u).length∧(decDigits u).head?=some 48):=by
  rintro⟨h1,h2⟩
  rcases Nat.eq_zero_or_pos u with rfl | hp
  ·rw[dec_one 0 (by omega)] at h1;simp at h1
  ·obtain⟨c,r,e,hc⟩:=dec_head u hp
   rw[e] at h2
   simp only[List.head?_cons,Option.some.injEq] at h2
   exact hc h2
 rw[if_neg hc]
theorem dg_not {c:UInt8} (h:isDg c=true):isLt c=false∧isSp c=false:=by
 unfold isDg at h
 simp only[Bool.and_eq_true,decide_eq_true_eq] at h
 constructor
 ·unfold isLt;rw[Bool.eq_false_iff];simp;omega
 ·unfold isSp;rw[Bool.eq_false_iff];simp;omega
end Go.Proofs.YtljbbhhiiiepcaaGreatDoor
