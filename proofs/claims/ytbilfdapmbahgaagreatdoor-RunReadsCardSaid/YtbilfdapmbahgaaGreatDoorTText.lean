/- Right expressions as plain data; the words that they are put in; two right expressions of the same words are the same. -/
import Derived.Test.YtbilfdapmbahgaaGreatDoorProg
import Derived.WalkKit
import Derived.WalkSpells
import Derived.WalkLawsBesides
import Derived.Laws.EntriesVeiled
import Derived.BigGuardPart
import Derived.Lib.Hide
import Derived.IntWalk
import Derived.Shelf.Abstract
import Derived.Lib.ParseIntBCases
import Derived.Lib.Strings
import Derived.Lib.ItoaNum
set_option linter.unusedSimpArgs false
set_option linter.unusedVariables false
set_option maxHeartbeats 8000000
set_option maxRecDepth 100000
namespace Go.Proofs.YtbilfdapmbahgaaGreatDoor.Ck
open Go Go.RowKit
open Go.Lib (hid)
def orE (a b:Nat):Nat:=if a=0 then b else a
theorem zcr (b:Nat):orE 0 b=b:=rfl
theorem orE_ne {a b:Nat} (h:a≠0):orE a b=a:=by unfold orE;rw[if_neg h]
theorem zbv {a b:Nat}:orE a b=0↔a=0∧b=0:=by
 unfold orE;split<;>omega
theorem zay (a:Nat):orE a 0=a:=by unfold orE;split<;>simp_all
theorem zeE (a b c:Nat):orE (orE a b) c=orE a (orE b c):=by unfold orE;split<;>simp_all
def zau (code:Nat→Nat):Nat→Nat
 | 0=>0
 | n+1=>orE (zau code n) (code n)
theorem zcs {code:Nat→Nat} {k n:Nat} (h:k≤n) (hk:zau code k≠0):zau code n=zau code k:=by
 induction n with
 | zero =>
  obtain rfl:k=0:=by omega
  rfl
 | succ n ih =>
  by_cases e:k=n+1
  ·rw[e]
  ·rw[zau,ih (by omega),orE_ne hk]
abbrev Fv:=Nat×Array Value
abbrev Fv.val (x:Fv):Value:=.func (.func x.1) #[] x.2
def Ent (g:Nat):Prop:=∀args w,(callFunc g args).run Tryz.prog w=.ok (.enter g args) w
theorem firstOf_any (l:List Fv) (code:Nat→Nat) (I:Nat→World→Prop) (b:Nat) (w:World) (hl:l.length≤100)
  (hent:∀k (h:k < l.length),Ent l[k].1)
  (hcell:∀k (h:k < l.length) W,I k W→W.cell? ⟨b,k,none⟩=some l[k].val)
  (hstep:∀k (h:k < l.length) W,zau code k=0→I k W→Calls Tryz.prog l[k].1 l[k].2 W fun e w'=>e=.returned (.int .i64 (code k:Nat))∧I (k+1) w')
  (h0:I 0 w):
  Calls Tryz.prog 129 #[.slice (some ⟨b,0,none⟩) l.length l.length] w fun e w'=>e=.returned (.int .i64 (zau code l.length:Nat))∧∃k,k≤l.length∧I k w'∧(zau code l.length=0→k=l.length):=by
 have HC:=hid hcell
 have HS:=hid hstep
 have HE:=hid hent
 have H0:=hid h0
 clear hcell hstep hent h0
 go_enter Tryz.func129,Tryz.ntmps129
 go_wp2
 go_loopw [4,5,8] (fun _ _ i wr=>∃k:Nat,k≤l.length∧i=.int .i64 k∧I k wr∧zau code k=0) (fun _ _ i _=>l.length - (intOf i).toNat)
 case atStart=>exact⟨0,Nat.zero_le _,rfl,H0.out,rfl⟩
 case round =>
  clear H0
  obtain⟨k,hk,rfl,hi,hz⟩:=hrel
  by_cases hlt:k < l.length
  ·have hc:wr.cell? ⟨b,k,none⟩=some (.func (.func l[k].1) #[] l[k].2):=HC.out k hlt wr hi
   have hs:=HS.out k hlt wr hz hi
   have eg:∀args w,(callFunc l[k].1 args).run Tryz.prog w=.ok (.enter l[k].1 args) w:=HE.out k hlt
   have HF:Hid (zau code (k+1)=code k):=hid (by rw[zau,hz,zcr])
   generalize hg:l[k].1=g at hc hs eg
   generalize hlb:l[k].2=lb at hc hs
   clear hi hz hg hlb
   obtain⟨c,hcc⟩:∃c,code k=c:=⟨_,rfl⟩
   rw[hcc] at hs HF
   have HCC:=hid hcc
   clear hcc
   by_cases h0:c=0
   ·subst h0
    go_wp2_with (go_at_fn g;refine hs.mono ?_;rintro e w' ⟨rfl,hi'⟩)
    go_round
    case rel=>exact⟨k+1,by omega,by go_num,hi',HF.out⟩
    case measure=>simp[intOf];omega
   ·have e1:((c:Int) != 0)=true:=by simpa using h0
    go_wp2_with (go_at_fn g;refine hs.mono ?_;rintro e w' ⟨rfl,hi'⟩)
    go_ret
    have hf:zau code l.length=c:=by rw[zcs (k:=k+1) (by omega) (by rw[HF.out];exact h0),HF.out]
    exact⟨by rw[hf];rfl,k+1,by omega,hi',fun h=>absurd (hf.symm.trans h) h0⟩
  ·obtain rfl:k=l.length:=by omega
   go_wp2
   go_ret
   exact⟨by rw[hz];rfl,l.length,Nat.le_refl _,hi,fun _=>rfl⟩
abbrev Gr (m:Nat) (w w':World):Prop:=w.grownBy w' (some m)
theorem zaC (m:Nat) (w:World):Gr m w w:=⟨rfl,rfl,rfl,Nat.le_refl _,fun _ _ _=>rfl⟩
theorem zaz {m:Nat} {w w1 w2:World} (h:Gr m w w1) (k:Gr m w1 w2):Gr m w w2:=
 ⟨k.os.trans h.os,k.tape.trans h.tape,k.output.trans h.output,Nat.le_trans h.size k.size,fun i hi hn=>(k.block i (Nat.lt_of_lt_of_le hi h.size) hn).trans (h.block i hi hn)⟩
theorem zc5 {m:Nat} {w w':World} (h:Below w.heap.size w w'):Gr m w w':=⟨h.os,h.tape,h.output,h.size,fun k hk _=>h.block k hk⟩
theorem gr_on {m:Nat} {w w1 w2:World} (h:Gr m w w1) (k:Below w1.heap.size w1 w2):Gr m w w2:=zaz h (zc5 k)
theorem zag {m:Nat} {w w1:World} (h:Gr m w w1) (o:Obj):Gr m w (w1.alloc o):=zaz h (World.grownBy_alloc _ o _)
theorem zcF {m:Nat} {w0 w w':World} (hp:Below w0.heap.size w0 w) (h:Gr m w w') (hm:w0.heap.size≤m):Below w0.heap.size w0 w':=
 Below.grown hp h hp.size (fun k e=>by cases e;exact hm)
theorem gr_cell {m:Nat} {w w':World} (h:Gr m w w') {b o:Nat} {v:Value} (hb:b≠m) (hc:w.cell? ⟨b,o,none⟩=some v):w'.cell? ⟨b,o,none⟩=some v:=
 h.cell hc (fun e=>hb (by injection e))
theorem zar {m:Nat} {w w':World} (h:Gr m w w') {b:Nat} {x:Obj} (hb:b≠m) (hc:w.heap[b]?=some x):w'.heap[b]?=some x:=by
 have hlt:b < w.heap.size:=by
  rcases Nat.lt_or_ge b w.heap.size with h' | h'
  ·exact h'
  ·rw[Array.getElem?_eq_none h'] at hc;cases hc
 rw[h.block b hlt (fun e=>hb (by injection e))];exact hc
theorem firstOf_g (m:Nat) (l:List Fv) (code:Nat→Nat) (T:Nat→World→Prop) (b:Nat) (w:World) (hl:l.length≤100) (hbm:b≠m)
  (hent:∀k (h:k < l.length),Ent l[k].1)
  (hcell:∀k (h:k < l.length),w.cell? ⟨b,k,none⟩=some l[k].val)
  (hstep:∀k (h:k < l.length) W,zau code k=0→Gr m w W→T k W→Calls Tryz.prog l[k].1 l[k].2 W fun e w'=>e=.returned (.int .i64 (code k:Nat))∧Gr m W w'∧T (k+1) w')
  (h0:T 0 w):
  Calls Tryz.prog 129 #[.slice (some ⟨b,0,none⟩) l.length l.length] w fun e w'=>e=.returned (.int .i64 (zau code l.length:Nat))∧Gr m w w'∧∃k,k≤l.length∧T k w'∧(zau code l.length=0→k=l.length):=by
 refine(firstOf_any l code (fun k W=>Gr m w W∧T k W) b w hl hent (fun k h W hW=>gr_cell hW.1 hbm (hcell k h)) (fun k h W hz hW=>?_) ⟨zaC _ _,h0⟩).mono ?_
 ·refine(hstep k h W hz hW.1 hW.2).mono ?_
  rintro e w' ⟨he,h1,h2⟩
  exact⟨he,zaz hW.1 h1,h2⟩
 ·rintro e w' ⟨he,k,hk,⟨h1,h2⟩,h3⟩
  exact⟨he,h1,k,hk,h2,h3⟩
theorem zeF (l:List Fv) (code:Nat→Nat) (b:Nat) (w:World) (hl:l.length≤100) (hb:b < w.heap.size)
  (hent:∀k (h:k < l.length),Ent l[k].1)
  (hcell:∀k (h:k < l.length),w.cell? ⟨b,k,none⟩=some l[k].val)
  (hstep:∀k (h:k < l.length) W,zau code k=0→Below w.heap.size w W→Calls Tryz.prog l[k].1 l[k].2 W fun e w'=>e=.returned (.int .i64 (code k:Nat))∧Below W.heap.size W w'):
  Calls Tryz.prog 129 #[.slice (some ⟨b,0,none⟩) l.length l.length] w fun e w'=>e=.returned (.int .i64 (zau code l.length:Nat))∧Below w.heap.size w w':=by
 refine(firstOf_any l code (fun _ W=>Below w.heap.size w W) b w hl hent (fun k h W hW=>(hW.cell (p:=⟨b,k,none⟩) hb).trans (hcell k h)) (fun k h W hz hW=>?_) (Below.refl _ _)).mono ?_
 ·refine(hstep k h W hz hW).mono ?_
  rintro e w' ⟨he,h1⟩
  exact⟨he,hW.trans (h1.mono hW.size)⟩
 ·rintro e w' ⟨he,k,hk,h1,h3⟩
  exact⟨he,h1⟩
theorem bal {w w1:World} (h:Below w.heap.size w w1) (o:Obj):Below w.heap.size w (w1.alloc o):=h.alloc h.size o
theorem bre (w:World):Below w.heap.size w w:=Below.refl _ _
theorem nb {w:World} {b:Nat} (o:Obj) (h:b=w.heap.size):(w.alloc o).heap[b]?=some o:=by rw[h];exact heap_alloc_new w o
theorem zbB {w:World} {b:Nat} {x:Obj} (hc:w.heap[b]?=some x):b < w.heap.size:=by
 rcases Nat.lt_or_ge b w.heap.size with h' | h'
 ·exact h'
 ·rw[Array.getElem?_eq_none h'] at hc;cases hc
theorem ob {w:World} {b:Nat} {x:Obj} (o:Obj) (h:w.heap[b]?=some x):(w.alloc o).heap[b]?=some x:=(Below.heap_alloc w o b (zbB h)).trans h
theorem bl {w W:World} {b:Nat} {x:Obj} (h:Below w.heap.size w W) (hx:w.heap[b]?=some x):W.heap[b]?=some x:=(h.block b (zbB hx)).trans hx
abbrev Box (w:World) (b:Nat) (v:Value) (t:TypeId):Prop:=w.heap[b]?=some (.cells #[v] t (0,0))
theorem Box.c0 {w:World} {b:Nat} {v:Value} {t:TypeId} (h:Box w b v t):w.cell? ⟨b,0,none⟩=some v:=by simp[World.cell?,h]
theorem Box.lt {w:World} {b:Nat} {v:Value} {t:TypeId} (h:Box w b v t):b < w.heap.size:=zbB h
def cd (l:List Nat) (k:Nat):Nat:=l.getD k 0
theorem zaH (b:Bool) (e:Int) (w:World):
  Calls Tryz.prog 133 #[.bool b,.int .i64 e] w fun x w'=>x=.returned (.int .i64 (if b then e else 0))∧w'=w:=by
 cases b
 all_goals
  go_enter Tryz.func133,Tryz.ntmps133
  go_wp2
  go_ret
  exact⟨rfl,rfl⟩
end Go.Proofs.YtbilfdapmbahgaaGreatDoor.Ck

namespace Go.Proofs.YtbilfdapmbahgaaGreatDoor
open Go
def isSp (c:UInt8):Bool:=c.toNat==32||c.toNat==9||c.toNat==10||c.toNat==13
def isLt (c:UInt8):Bool:=(decide (97≤c.toNat)&&decide (c.toNat≤122))||(decide (65≤c.toNat)&&decide (c.toNat≤90))||c.toNat==95
def isDg (c:UInt8):Bool:=decide (48≤c.toNat)&&decide (c.toNat≤57)
def isPt (c:UInt8):Bool:=isLt c||isDg c
def keysL:List (List UInt8):=[[102,117,110,99],[118,97,114],[105,102],[101,108,115,101],[119,104,105,108,101],[98,114,101,97,107],[99,111,110,116,105,110,117,101],[114,101,116,117,114,110],[97,115,115,101,114,116],[114,101,97,100]]
def zbh (l:List UInt8):Bool:=keysL.contains l
def zaT:List (List UInt8):=[[124,124],[38,38],[124],[94],[38],[61,61],[33,61],[60],[60,61],[62],[62,61],[60,60],[62,62],[43],[45],[42],[47],[37],[126],[33],[40],[41],[91],[93],[123],[125],[44],[59],[61]]
def zcQ (l best s:List UInt8):List UInt8:=if best.length < s.length∧Lib.hasPrefix l s=true then s else best
def zaA (l:List UInt8):List UInt8:=zaT.foldl (zcQ l) []
def zbC (most:Nat) (l:List UInt8):Option Nat:=
 if 1 < l.length∧l.head?=some 48 then none
 else match Lib.parseUintB 64 l with
  | .ok u=>if most < u then none else some u
  | _=>none
def zaX (l:List UInt8):Option (Nat×Nat×Nat):=
 match l with
 | []=>none
 | c :: r =>
  if isLt c then
   if zbh (l.takeWhile isPt) then some (5,(l.takeWhile isPt).length,0)
   else if 24 < (l.takeWhile isPt).length then none
   else some (1,(l.takeWhile isPt).length,0)
  else if isDg c then (zbC 9223372036854775808 (l.takeWhile isDg)).map fun n=>(2,(l.takeWhile isDg).length,n)
  else if c.toNat==64 then (zbC 1000000 (r.takeWhile isDg)).map fun n=>(3,1+(r.takeWhile isDg).length,n)
  else if zaA l=[] then none
  else some (4,(zaA l).length,0)
structure Tok where
 kind:Nat
 text:List UInt8
 n:Nat
 at':Nat
deriving DecidableEq
def pre (t:Tok) (x:Option (List Tok)×Nat):Option (List Tok)×Nat:=(x.1.map (t :: ·),x.2)
def lexF:Nat→Nat→List UInt8→Option (List Tok)×Nat
 | 0,p,_=>(none,p)
 | _+1,p,[]=>(some [],p)
 | f+1,p,c :: r =>
  if isSp c then lexF f (p+1) r
  else match zaX (c :: r) with
   | none=>(none,p)
   | some (k,len,n)=>pre ⟨k,(c :: r).take len,n,p⟩ (lexF f (p+len) ((c :: r).drop len))
def lexP (p:Nat) (l:List UInt8):Option (List Tok)×Nat:=lexF (l.length+1) p l
theorem zdn (l:List UInt8):∀(ss:List (List UInt8)) (b:List UInt8),(ss.foldl (zcQ l) b=b∨(ss.foldl (zcQ l) b∈ss∧Lib.hasPrefix l (ss.foldl (zcQ l) b)=true))∧b.length≤(ss.foldl (zcQ l) b).length∧∀s∈ss,Lib.hasPrefix l s=true→s.length≤(ss.foldl (zcQ l) b).length:=by
 intro ss
 induction ss with
 | nil=>intro b;exact⟨.inl rfl,Nat.le_refl _,fun s h=>absurd h (by simp)⟩
 | cons s ss ih =>
  intro b
  rw[List.foldl_cons]
  obtain⟨h1,h2,h3⟩:=ih (zcQ l b s)
  by_cases hc:b.length < s.length∧Lib.hasPrefix l s=true
  ·have e:zcQ l b s=s:=if_pos hc
   rw[e] at h1 h2 h3 ⊢
   refine⟨?_,by omega,fun u hu hp=>?_⟩
   ·rcases h1 with h1 | h1
    ·exact .inr ⟨by rw[h1];exact List.mem_cons_self,by rw[h1];exact hc.2⟩
    ·exact .inr ⟨List.mem_cons_of_mem _ h1.1,h1.2⟩
   ·rcases List.mem_cons.1 hu with rfl | hu
    ·exact h2
    ·exact h3 u hu hp
  ·have e:zcQ l b s=b:=if_neg hc
   rw[e] at h1 h2 h3 ⊢
   refine⟨?_,by omega,fun u hu hp=>?_⟩
   ·rcases h1 with h1 | h1
    ·exact .inl h1
    ·exact .inr ⟨List.mem_cons_of_mem _ h1.1,h1.2⟩
   ·rcases List.mem_cons.1 hu with rfl | hu
    ·have:¬b.length < u.length:=fun hlt=>hc ⟨hlt,hp⟩
     omega
    ·exact h3 u hu hp
theorem prefix_iff (l s:List UInt8):Lib.hasPrefix l s=true↔s <+: l:=by
 unfold Lib.hasPrefix;rw[List.isPrefixOf_iff_prefix]
theorem zbN (l:List UInt8):(zaA l=[]∨zaA l∈zaT)∧zaA l <+: l:=by
 obtain⟨h,_,_⟩:=zdn l zaT []
 rcases h with h | h
 ·exact⟨.inl h,by show zaT.foldl (zcQ l) [] <+: l;rw[h];exact List.nil_prefix⟩
 ·exact⟨.inr h.1,(prefix_iff _ _).1 h.2⟩
theorem longest_most (l s:List UInt8) (h:s∈zaT) (hp:s <+: l):s.length≤(zaA l).length:=
 (zdn l zaT []).2.2 s h ((prefix_iff _ _).2 hp)
theorem longest_len (l:List UInt8):(zaA l).length≤2:=by
 have:∀s∈zaT,s.length≤2:=by decide
 rcases(zbN l).1 with h | h
 ·rw[h];simp
 ·exact this _ h
theorem zcc {l:List UInt8} {k len n:Nat} (h:zaX l=some (k,len,n)):0 < len∧len≤l.length:=by
 unfold zaX at h
 split at h
 ·cases h
 ·rename_i c r
  have t1:∀(p:UInt8→Bool) (l:List UInt8),(l.takeWhile p).length≤l.length:=fun p l=>(List.takeWhile_prefix p).length_le
  have t2:∀(p:UInt8→Bool),p c=true→0 < ((c :: r).takeWhile p).length:=fun p hp=>by rw[List.takeWhile_cons_of_pos hp];simp
  have ep:isLt c=true→isPt c=true:=fun h=>by simp[isPt,h]
  split at h
  ·rename_i hl
   have a1:=t1 isPt (c :: r)
   have a2:=t2 isPt (ep hl)
   split at h
   ·simp only[Option.some.injEq,Prod.mk.injEq] at h;omega
   ·split at h
    ·cases h
    ·simp only[Option.some.injEq,Prod.mk.injEq] at h;omega
  ·split at h
   ·rename_i hd
    have a1:=t1 isDg (c :: r)
    have a2:=t2 isDg hd
    cases hn:zbC 9223372036854775808 ((c :: r).takeWhile isDg) with
    | none=>rw[hn] at h;cases h
    | some m=>rw[hn] at h;simp only[Option.map_some,Option.some.injEq,Prod.mk.injEq] at h;omega
   ·split at h
    ·have a1:=t1 isDg r
     cases hn:zbC 1000000 (r.takeWhile isDg) with
     | none=>rw[hn] at h;cases h
     | some m=>rw[hn] at h;simp only[Option.map_some,Option.some.injEq,Prod.mk.injEq] at h;simp only[List.length_cons];omega
    ·split at h
     ·cases h
     ·rename_i hne
      simp only[Option.some.injEq,Prod.mk.injEq] at h
      have a1:=(zbN (c :: r)).2.length_le
      have a2:0 < (zaA (c :: r)).length:=by
       cases e:zaA (c :: r) with
       | nil=>exact absurd e hne
       | cons=>simp
      omega
theorem lexF_more:∀(f:Nat) (p:Nat) (l:List UInt8),l.length < f→lexF f p l=lexP p l:=by
 have main:∀(n f g p:Nat) (l:List UInt8),l.length < n→l.length < f→l.length < g→lexF f p l=lexF g p l:=by
  intro n
  induction n with
  | zero=>intro f g p l h;omega
  | succ n ih =>
   intro f g p l hn hf hg
   obtain⟨f,rfl⟩:∃f',f=f'+1:=⟨f - 1,by omega⟩
   obtain⟨g,rfl⟩:∃g',g=g'+1:=⟨g - 1,by omega⟩
   cases l with
   | nil=>rfl
   | cons c r =>
    simp only[List.length_cons] at hn hf hg
    unfold lexF
    by_cases hs:isSp c=true
    ·rw[if_pos hs,if_pos hs];exact ih f g _ r (by omega) (by omega) (by omega)
    ·rw[if_neg hs,if_neg hs]
     cases hw:zaX (c :: r) with
     | none=>rfl
     | some x =>
      obtain⟨k,len,m⟩:=x
      have hl:=zcc hw
      simp only[List.length_cons] at hl
      show pre _ _=pre _ _
      rw[ih f g (p+len) ((c :: r).drop len) (by simp;omega) (by simp;omega) (by simp;omega)]
 intro f p l h
 exact main (l.length+1) f (l.length+1) p l (by omega) h (by omega)
theorem lexP_nil (p:Nat):lexP p []=(some [],p):=rfl
theorem zdS {c:UInt8} (p:Nat) (r:List UInt8) (h:isSp c=true):lexP p (c :: r)=lexP (p+1) r:=by
 show lexF (r.length+1+1) p (c :: r)=_
 rw[lexF,if_pos h];rfl
theorem lexP_bad {c:UInt8} (p:Nat) (r:List UInt8) (h:isSp c=false) (hw:zaX (c :: r)=none):lexP p (c :: r)=(none,p):=by
 show lexF (r.length+1+1) p (c :: r)=_
 rw[lexF,if_neg (by simp[h]),hw]
theorem zeG {c:UInt8} (p:Nat) (r:List UInt8) {k len n:Nat} (h:isSp c=false) (hw:zaX (c :: r)=some (k,len,n)):
  lexP p (c :: r)=pre ⟨k,(c :: r).take len,n,p⟩ (lexP (p+len) ((c :: r).drop len)):=by
 have hl:=zcc hw
 show lexF (r.length+1+1) p (c :: r)=_
 rw[lexF,if_neg (by simp[h]),hw]
 show pre _ _=pre _ _
 rw[lexF_more _ _ _ (by simp;omega)]
theorem lexP_skip (p:Nat) (l:List UInt8):lexP p l=lexP (p+(l.takeWhile isSp).length) (l.drop (l.takeWhile isSp).length):=by
 induction l generalizing p with
 | nil=>rfl
 | cons c r ih =>
  cases h:isSp c with
  | true=>rw[zdS p r h,List.takeWhile_cons_of_pos h,ih];simp[Nat.add_assoc,Nat.add_comm 1]
  | false=>rw[List.takeWhile_cons_of_neg (by simp[h])];rfl
theorem lexP_at:∀(n p:Nat) (l:List UInt8),l.length < n→((lexP p l).1=none→p≤(lexP p l).2∧(lexP p l).2 < p+l.length)∧(∀ts,(lexP p l).1=some ts→(lexP p l).2=p+l.length):=by
 intro n
 induction n with
 | zero=>intro p l h;omega
 | succ n ih =>
  intro p l hl
  cases l with
  | nil=>rw[lexP_nil];exact⟨by simp,by simp⟩
  | cons c r =>
   simp only[List.length_cons] at hl
   cases h:isSp c with
   | true =>
    rw[zdS p r h]
    have:=ih (p+1) r (by omega)
    refine⟨fun e=>?_,fun ts e=>?_⟩
    ·have:=this.1 e;simp only[List.length_cons];omega
    ·have:=this.2 ts e;simp only[List.length_cons];omega
   | false =>
    cases hw:zaX (c :: r) with
    | none=>rw[lexP_bad p r h hw];exact⟨fun _=>by simp only[List.length_cons];omega,by simp⟩
    | some x =>
     obtain⟨k,len,m⟩:=x
     have hlen:=zcc hw
     simp only[List.length_cons] at hlen
     rw[zeG p r h hw]
     have:=ih (p+len) ((c :: r).drop len) (by simp;omega)
     have hd:((c :: r).drop len).length=r.length+1 - len:=by simp
     rw[hd] at this
     refine⟨fun e=>?_,fun ts e=>?_⟩
     ·have e':(lexP (p+len) ((c :: r).drop len)).1=none:=by simpa[pre] using e
      have:=this.1 e';simp only[List.length_cons,pre];omega
     ·obtain⟨ts',e',_⟩:∃ts',(lexP (p+len) ((c :: r).drop len)).1=some ts'∧True:=by
       cases e2:(lexP (p+len) ((c :: r).drop len)).1 with
       | none=>simp[pre,e2] at e
       | some ts'=>exact⟨ts',rfl,trivial⟩
      have:=this.2 ts' e';simp only[List.length_cons,pre];omega
end Go.Proofs.YtbilfdapmbahgaaGreatDoor
namespace Go.Proofs.YtbilfdapmbahgaaGreatDoor
open Go
theorem tw_drop {p:UInt8→Bool}:∀(l:List UInt8) (c:UInt8),(l.drop (l.takeWhile p).length).head?=some c→p c=false:=by
 intro l
 induction l with
 | nil=>intro c h;simp at h
 | cons a r ih =>
  intro c h
  cases hc:p a with
  | true=>rw[List.takeWhile_cons_of_pos hc,List.length_cons,List.drop_succ_cons] at h;exact ih c h
  | false =>
   rw[List.takeWhile_cons_of_neg (by simp[hc])] at h
   simp only[List.length_nil,List.drop_zero,List.head?_cons,Option.some.injEq] at h
   rw[←h];exact hc
theorem tw_take {p:UInt8→Bool} (l:List UInt8):l.take (l.takeWhile p).length=l.takeWhile p:=
 (List.prefix_iff_eq_take.1 (List.takeWhile_prefix p)).symm
theorem sp_not {c:UInt8} (h:isSp c=true):isLt c=false∧isDg c=false∧isPt c=false∧(c.toNat==64)=false:=by
 have h':c.toNat=32∨c.toNat=9∨c.toNat=10∨c.toNat=13:=by simpa[isSp,or_assoc] using h
 have e1:isLt c=false:=by unfold isLt;rcases h' with h' | h' | h' | h'<;>rw[h']<;>rfl
 have e2:isDg c=false:=by unfold isDg;rcases h' with h' | h' | h' | h'<;>rw[h']<;>rfl
 exact⟨e1,e2,by unfold isPt;rw[e1,e2];rfl,by rcases h' with h' | h' | h' | h'<;>rw[h']<;>rfl⟩
theorem sp_sign:∀s∈zaT,∀c∈s,isSp c=false:=by decide
def Good (t:Tok):Prop:=∃c r l,t.text=c :: r∧isSp c=false∧zaX l=some (t.kind,t.text.length,t.n)∧l.take t.text.length=t.text
theorem Good.pos {t:Tok} (h:Good t):0 < t.text.length:=by obtain⟨c,r,l,e,_⟩:=h;rw[e];simp
end Go.Proofs.YtbilfdapmbahgaaGreatDoor
namespace Go.Proofs.YtbilfdapmbahgaaGreatDoor
open Go
open Go.Lib (decDigits)
theorem dec_all (u:Nat):∀c∈decDigits u,isDg c=true:=by
 induction u using Nat.strongRecOn with
 | ind u ih =>
  rw[decDigits]
  split
  ·rename_i h
   intro c hc
   rw[List.mem_singleton] at hc
   subst hc
   have e:(UInt8.ofNat (48+u)).toNat=48+u:=by simp;omega
   unfold isDg;rw[e];simp;omega
  ·rename_i h
   intro c hc
   rw[List.mem_append] at hc
   rcases hc with hc | hc
   ·exact ih _ (by omega) c hc
   ·rw[List.mem_singleton] at hc
    subst hc
    have e:(UInt8.ofNat (48+u % 10)).toNat=48+u % 10:=by simp;omega
    unfold isDg;rw[e];simp;omega
theorem dec_ne (u:Nat):decDigits u≠[]:=by rw[decDigits];split<;>simp
theorem dec_head (u:Nat) (hu:0 < u):∃c r,decDigits u=c :: r∧c≠48:=by
 induction u using Nat.strongRecOn with
 | ind u ih =>
  rw[decDigits]
  split
  ·rename_i h
   refine⟨_,[],rfl,fun e=>?_⟩
   have e1:(UInt8.ofNat (48+u)).toNat=48+u:=by simp;omega
   rw[e] at e1
   have:(48:UInt8).toNat=48:=rfl
   omega
  ·rename_i h
   obtain⟨c,r,e,hc⟩:=ih (u / 10) (by omega) (by omega)
   exact⟨c,r++[_],by rw[e];rfl,hc⟩
theorem dec_one (u:Nat) (h:u < 10):decDigits u=[UInt8.ofNat (48+u)]:=by rw[decDigits,dif_pos h]
theorem dec_more (u:Nat) (h:¬u < 10):decDigits u=decDigits (u / 10)++[UInt8.ofNat (48+u % 10)]:=by rw[decDigits,dif_neg h]
theorem parse_append (M:Nat):∀(l r:List UInt8) (acc u:Nat),Lib.parseUintM M acc l=.ok u→Lib.parseUintM M acc (l++r)=Lib.parseUintM M u r:=by
 intro l
 induction l with
 | nil=>intro r acc u h;rw[Lib.parseUintM] at h;injection h with h;rw[h];rfl
 | cons c l ih =>
  intro r acc u h
  rw[List.cons_append]
  rw[Lib.parseUintM] at h ⊢
  split at h
  ·rename_i h1
   rw[if_pos h1]
   split at h
   ·cases h
   ·rename_i h2
    rw[if_neg h2]
    split at h
    ·cases h
    ·rename_i h3
     rw[if_neg h3]
     exact ih r _ u h
  ·cases h
theorem parse_dec (u:Nat) (h:u < 18446744073709551616):Lib.parseUintM 18446744073709551615 0 (decDigits u)=.ok u:=by
 induction u using Nat.strongRecOn with
 | ind u ih =>
  by_cases h10:u < 10
  ·rw[dec_one u h10]
   have e:(UInt8.ofNat (48+u)).toNat=48+u:=by simp;omega
   rw[Lib.parseUintM,e,if_pos (by omega),if_neg (by omega),if_neg (by omega),Lib.parseUintM]
   congr 1;omega
  ·rw[dec_more u h10,parse_append _ _ _ _ _ (ih (u / 10) (by omega) (by omega))]
   have e:(UInt8.ofNat (48+u % 10)).toNat=48+u % 10:=by simp;omega
   rw[Lib.parseUintM,e,if_pos (by omega),if_neg (by omega),if_neg (by omega),Lib.parseUintM]
   congr 1;omega
theorem parse_is (u:Nat) (h:u < 18446744073709551616):Lib.parseUintB 64 (decDigits u)=.ok u:=by
 unfold Lib.parseUintB
 rw[if_neg (dec_ne u)]
 exact parse_dec u h
theorem num_dec (most u:Nat) (h:u < 18446744073709551616):zbC most (decDigits u)=if most < u then none else some u:=by
 unfold zbC
 rw[parse_is u h]
 have hc:¬(1 < (decDigits u).length∧(decDigits u).head?=some 48):=by
  rintro⟨h1,h2⟩
  rcases Nat.eq_zero_or_pos u with rfl | hp
  ·rw[dec_one 0 (by omega)] at h1;simp at h1
  ·obtain⟨c,r,e,hc⟩:=dec_head u hp
   rw[e] at h2
   simp only[List.head?_cons,Option.some.injEq] at h2
   exact hc h2
 rw[if_neg hc]
theorem dg_not {c:UInt8} (h:isDg c=true):isLt c=false∧isSp c=false:=by
 unfold isDg at h
 simp only[Bool.and_eq_true,decide_eq_true_eq] at h
 constructor
 ·unfold isLt;rw[Bool.eq_false_iff];simp;omega
 ·unfold isSp;rw[Bool.eq_false_iff];simp;omega
end Go.Proofs.YtbilfdapmbahgaaGreatDoor

namespace Go.Proofs.YtbilfdapmbahgaaGreatDoor
open Go
open Go.Lib (decDigits)
abbrev Wd:=Nat×List UInt8×Nat
abbrev sgW (l:List UInt8):Wd:=(4,l,0)
inductive RE where
 | num (n:Int)
 | var (s:List UInt8)
 | idx (s:List UInt8) (e:RE)
 | un (c:UInt8) (e:RE)
 | bin (o:List UInt8) (a b:RE)
deriving DecidableEq
def RE.isBin:RE→Bool
 | .bin ..=>true
 | _=>false
def RE.pos:RE→Bool
 | .num n=>decide (0≤n)
 | _=>false
def RE.lower (lev:List UInt8→Int) (k:Int):RE→Bool
 | .bin o _ _=>decide (lev o < k)
 | _=>false
def unBr (c:UInt8) (e:RE):Bool:=e.isBin||(c==45&&e.pos)
section
variable (lev:List UInt8→Int)
def zaM (s:List UInt8):Bool:=decide (0 < s.length)&&decide (s.length≤24)&&!zbh s&&(s.head?.any isLt)&&s.all isPt
def ops18:List (List UInt8):=zaT.take 18
def RE.wf:RE→Bool
 | .num n=>decide (-9223372036854775808≤n)&&decide (n≤9223372036854775807)
 | .var s=>zaM s
 | .idx s e=>zaM s&&e.wf
 | .un c e=>(c==45||c==126||c==33)&&e.wf
 | .bin o a b=>ops18.contains o&&a.wf&&b.wf
end
end Go.Proofs.YtbilfdapmbahgaaGreatDoor
namespace Go.Proofs.YtbilfdapmbahgaaGreatDoor
open Go
open Go.Lib (decDigits)
abbrev kW (l:List UInt8):Wd:=(5,l,0)
abbrev nmW (l:List UInt8):Wd:=(1,l,0)
def commas {α β:Type} (c:List β) (f:α→List β):List α→List β
 | []=>[]
 | [a]=>f a
 | a :: b :: l=>f a++(c++commas c f (b :: l))
section
variable (lev:List UInt8→Int)
inductive RS where
 | asg (t:Nat) (x:List UInt8) (e:RE)
 | sto (t:Nat) (x:List UInt8) (i e:RE)
 | rd (t:Nat) (x:List UInt8)
 | call (t:Nat) (x f:List UInt8) (l:List RE)
 | ife (t:Nat) (c:RE) (b l:List RS)
 | whl (t:Nat) (c:RE) (b:List RS)
 | brk (t:Nat)
 | cnt (t:Nat)
 | ret (t:Nat) (e:RE)
 | ass (t:Nat) (e:RE)
def RS.tag:RS→Nat
 | .asg t _ _=>t
 | .sto t _ _ _=>t
 | .rd t _=>t
 | .call t _ _ _=>t
 | .ife t _ _ _=>t
 | .whl t _ _=>t
 | .brk t=>t
 | .cnt t=>t
 | .ret t _=>t
 | .ass t _=>t
mutual
def RS.wf:RS→Bool
 | .asg t x e=>decide (t≤1000000)&&zaM x&&e.wf
 | .sto t x i e=>decide (t≤1000000)&&zaM x&&i.wf&&e.wf
 | .rd t x=>decide (t≤1000000)&&zaM x
 | .call t x f l=>decide (t≤1000000)&&zaM x&&zaM f&&l.all RE.wf
 | .ife t c b l=>decide (t≤1000000)&&c.wf&&wfSs b&&wfSs l
 | .whl t c b=>decide (t≤1000000)&&c.wf&&wfSs b
 | .brk t=>decide (t≤1000000)
 | .cnt t=>decide (t≤1000000)
 | .ret t e=>decide (t≤1000000)&&e.wf
 | .ass t e=>decide (t≤1000000)&&e.wf
def wfSs:List RS→Bool
 | []=>true
 | s :: l=>s.wf&&wfSs l
end
structure RF where
 name:List UInt8
 params:List (List UInt8)
 vars:List (List UInt8×Nat)
 body:List RS
def RF.wf (f:RF):Bool:=zaM f.name&&f.params.all zaM&&f.vars.all (fun d=>zaM d.1&&decide (d.2≤9223372036854775807))&&wfSs f.body
end
end Go.Proofs.YtbilfdapmbahgaaGreatDoor
namespace Go.Proofs.YtbilfdapmbahgaaGreatDoor
open Go
open Go.Lib (decDigits itoa)
def Lx (l:List UInt8) (ws:List Wd):Prop:=∀p,(lexP p l).1.map (List.map fun t=>(t.kind,t.text,t.n))=some ws
theorem Lx.fn {l:List UInt8} {ws ws':List Wd} (h:Lx l ws) (h':Lx l ws'):ws=ws':=by
 have:=(h 0).symm.trans (h' 0)
 simpa using this
theorem Lx.nil:Lx [] []:=fun p=>by rw[lexP_nil];rfl
theorem Lx.sp {c:UInt8} {l:List UInt8} {ws:List Wd} (hc:isSp c=true) (h:Lx l ws):Lx (c :: l) ws:=fun p=>by rw[zdS p l hc];exact h _
theorem Lx.word {c:UInt8} {r t:List UInt8} {k n:Nat} {ws:List Wd} (hc:isSp c=false) (hw:zaX (c :: r++t)=some (k,(c :: r).length,n)) (h:Lx t ws):Lx (c :: r++t) ((k,c :: r,n) :: ws):=fun p=>by
 rw[List.cons_append] at hw ⊢
 rw[zeG p (r++t) hc hw,←List.cons_append,List.take_left',List.drop_left']
 ·have:=h (p+(c :: r).length)
  cases e:(lexP (p+(c :: r).length) t).1 with
  | none=>rw[e] at this;cases this
  | some ts =>
   rw[e] at this
   simp only[pre,e,Option.map_some,List.map_cons,Option.some.injEq] at this ⊢
   rw[this]
 ·rfl
 ·rfl
def NP (l:List UInt8):Prop:=∀c,l.head?=some c→isPt c=false
theorem NP.nil:NP []:=fun c h=>by simp at h
theorem NP.cons {c:UInt8} (h:isPt c=false) (l:List UInt8):NP (c :: l):=fun d hd=>by
 simp only[List.head?_cons,Option.some.injEq] at hd;subst hd;exact h
theorem tw_stop {p:UInt8→Bool}:∀(s t:List UInt8),(∀c∈s,p c=true)→(∀c,t.head?=some c→p c=false)→(s++t).takeWhile p=s:=by
 intro s
 induction s with
 | nil =>
  intro t _ h
  cases t with
  | nil=>rfl
  | cons c r=>rw[List.nil_append,List.takeWhile_cons_of_neg (by simp[h c rfl])]
 | cons c r ih =>
  intro t hs h
  rw[List.cons_append,List.takeWhile_cons_of_pos (hs c List.mem_cons_self),ih t (fun d hd=>hs d (List.mem_cons_of_mem _ hd)) h]
theorem lt_sp {c:UInt8} (h:isLt c=true):isSp c=false:=by
 cases hs:isSp c with
 | false=>rfl
 | true=>rw[(sp_not hs).1] at h;cases h
theorem Lx.letters {s t:List UInt8} {ws:List Wd} (h1:s.head?.any isLt=true) (h2:s.all isPt=true) (hk:zbh s=true∨s.length≤24) (ht:NP t) (h:Lx t ws):Lx (s++t) ((if zbh s then 5 else 1,s,0) :: ws):=by
 cases s with
 | nil=>simp at h1
 | cons c r =>
  have hc:isLt c=true:=by simpa using h1
  have htw:(c :: r++t).takeWhile isPt=c :: r:=tw_stop _ _ (by simpa using h2) ht
  refine Lx.word (lt_sp hc) ?_ h
  rw[List.cons_append] at htw ⊢
  unfold zaX
  simp only[hc,if_true,htw]
  cases hkk:zbh (c :: r) with
  | true=>simp
  | false =>
   rw[hkk] at hk
   have:¬24 < (c :: r).length:=by
    rcases hk with h | h
    ·cases h
    ·omega
   simp only[Bool.false_eq_true,if_false,if_neg this]
theorem Lx.name {s t:List UInt8} {ws:List Wd} (hs:zaM s=true) (ht:NP t) (h:Lx t ws):Lx (s++t) (nmW s :: ws):=by
 simp only[zaM,Bool.and_eq_true,decide_eq_true_eq,Bool.not_eq_true'] at hs
 obtain⟨⟨⟨⟨_,h24⟩,hk⟩,h1⟩,h2⟩:=hs
 have:=Lx.letters h1 h2 (.inr h24) ht h
 rwa [hk] at this
theorem Lx.key {s t:List UInt8} {ws:List Wd} (hk:zbh s=true) (h1:s.head?.any isLt=true) (h2:s.all isPt=true) (ht:NP t) (h:Lx t ws):Lx (s++t) (kW s :: ws):=by
 have:=Lx.letters h1 h2 (.inl hk) ht h
 rwa [hk] at this
theorem pt_dg {c:UInt8} (h:isPt c=false):isDg c=false:=by
 unfold isPt at h;simp only[Bool.or_eq_false_iff] at h;exact h.2
theorem Lx.num {u:Nat} {t:List UInt8} {ws:List Wd} (hu:u≤9223372036854775808) (ht:NP t) (h:Lx t ws):Lx (decDigits u++t) ((2,decDigits u,u) :: ws):=by
 have ha:=dec_all u
 have hn:=num_dec 9223372036854775808 u (by omega)
 cases e:decDigits u with
 | nil=>exact absurd e (dec_ne u)
 | cons c r =>
  rw[e] at ha hn
  have hd:=ha c List.mem_cons_self
  obtain⟨hl,hs⟩:=dg_not hd
  have htw:(c :: r++t).takeWhile isDg=c :: r:=tw_stop _ _ ha (fun d hd=>pt_dg (ht d hd))
  refine Lx.word hs ?_ h
  rw[List.cons_append] at htw ⊢
  unfold zaX
  simp only[hl,hd,if_true,Bool.false_eq_true,if_false,htw,hn]
  rw[if_neg (by omega)];rfl
theorem Lx.tag {u:Nat} {t:List UInt8} {ws:List Wd} (hu:u≤1000000) (ht:NP t) (h:Lx t ws):Lx (64 :: decDigits u++t) ((3,64 :: decDigits u,u) :: ws):=by
 have htw:(decDigits u++t).takeWhile isDg=decDigits u:=tw_stop _ _ (dec_all u) (fun d hd=>pt_dg (ht d hd))
 refine Lx.word (by decide) ?_ h
 rw[List.cons_append]
 unfold zaX
 simp only[show isLt 64=false by decide,show isDg 64=false by decide,show((64:UInt8).toNat==64)=true by decide,if_true,Bool.false_eq_true,if_false,htw,num_dec 1000000 u (by omega)]
 rw[if_neg (by omega)]
 simp[Nat.add_comm]
theorem sign_head:∀s∈zaT,∀c,s.head?=some c→isLt c=false∧isDg c=false∧(c.toNat==64)=false∧isSp c=false:=by decide
theorem Lx.sign {s t:List UInt8} {ws:List Wd} (hs:s∈zaT) (hl:zaA (s++t)=s) (h:Lx t ws):Lx (s++t) (sgW s :: ws):=by
 cases s with
 | nil=>exact absurd hs (by decide)
 | cons c r =>
  obtain⟨h1,h2,h3,h4⟩:=sign_head _ hs c rfl
  refine Lx.word h4 ?_ h
  rw[List.cons_append] at hl ⊢
  unfold zaX
  simp only[h1,h2,h3,if_true,Bool.false_eq_true,if_false,hl]
  simp
theorem longest_one {c:UInt8} {t:List UInt8} (hc:[c]∈zaT) (hn:∀d,t.head?=some d→[c,d]∉zaT):zaA ([c]++t)=[c]:=by
 obtain⟨h1,h2⟩:=zbN ([c]++t)
 have h3:=longest_most ([c]++t) [c] hc (List.prefix_append _ _)
 have h4:=longest_len ([c]++t)
 have h5:zaA ([c]++t)∈zaT:=h1.resolve_left (fun e=>by rw[e] at h3;simp at h3)
 have e:=List.prefix_iff_eq_take.1 h2
 have h3':1≤(zaA ([c]++t)).length:=h3
 have h6:(zaA ([c]++t)).length=1∨(zaA ([c]++t)).length=2:=by omega
 rcases h6 with h6 | h6
 ·rw[h6] at e;rw[e];rfl
 ·exfalso
  rw[h6] at e
  cases t with
  | nil=>rw[e] at h6;simp at h6
  | cons d r=>exact hn d rfl (by rw[←show zaA ([c]++d :: r)=[c,d] from e];exact h5)
theorem longest_two {c d:UInt8} {t:List UInt8} (hc:[c,d]∈zaT):zaA ([c,d]++t)=[c,d]:=by
 have h2:=(zbN ([c,d]++t)).2
 have h3:=longest_most ([c,d]++t) [c,d] hc (List.prefix_append _ _)
 have h4:=longest_len ([c,d]++t)
 have e:=List.prefix_iff_eq_take.1 h2
 have h3':2≤(zaA ([c,d]++t)).length:=h3
 rw[show(zaA ([c,d]++t)).length=2 by omega] at e
 rw[e];rfl
theorem op_spaced:∀s∈zaT,∀t,zaA (s++32 :: t)=s:=by
 intro s hs t
 have h:s.length=1∨s.length=2:=(by decide:∀s∈zaT,s.length=1∨s.length=2) s hs
 rcases h with h | h
 ·obtain⟨c,rfl⟩:=List.length_eq_one_iff.1 h
  refine longest_one hs fun d hd hm=>?_
  simp only[List.head?_cons,Option.some.injEq] at hd
  have:=sp_sign _ hm 32 (by rw[hd];simp)
  revert this;decide
 ·match s,h,hs with
  | [c,d],_,hs=>exact longest_two hs
theorem Lx.op {s t:List UInt8} {ws:List Wd} (hs:s∈zaT) (h:Lx t ws):Lx (s++32 :: t) (sgW s :: ws):=
 Lx.sign hs (op_spaced s hs t) (Lx.sp (by decide) h)
section
variable (lev:List UInt8→Int)
def inBr (b:Bool) (l:List UInt8):List UInt8:=if b then 40 :: (l++[41]) else l
def putR:RE→List UInt8
 | .num n=>itoa n
 | .var s=>s
 | .idx s e=>s++91 :: (putR e++[93])
 | .un c e=>c :: inBr (unBr c e) (putR e)
 | .bin o a b=>inBr (a.lower lev (lev o)) (putR a)++32 :: (o++32 :: inBr (b.lower lev (lev o+1)) (putR b))
def tabsT (d:Nat):List UInt8:=List.replicate d 9
def tagT (t:Nat):List UInt8:=if t=0 then [] else 64 :: (decDigits t++[32])
def putA (l:List RE):List UInt8:=commas [44,32] (putR lev) l
mutual
def putB (d:Nat):RS→List UInt8
 | .asg _ x e=>x++32 :: 61 :: 32 :: (putR lev e++[59])
 | .sto _ x i e=>x++91 :: (putR lev i++93 :: 32 :: 61 :: 32 :: (putR lev e++[59]))
 | .rd _ x=>x++[32,61,32,114,101,97,100,40,41,59]
 | .call _ x f l=>x++32 :: 61 :: 32 :: (f++40 :: (putA lev l++[41,59]))
 | .ife _ c b l=>[105,102]++32 :: 40 :: (putR lev c++41 :: 32 :: 123 :: 10 :: (putL (d+1) b++(tabsT d++125 :: (if l.isEmpty then [] else 32 :: ([101,108,115,101]++32 :: 123 :: 10 :: (putL (d+1) l++(tabsT d++[125])))))))
 | .whl _ c b=>[119,104,105,108,101]++32 :: 40 :: (putR lev c++41 :: 32 :: 123 :: 10 :: (putL (d+1) b++(tabsT d++[125])))
 | .brk _=>[98,114,101,97,107]++[59]
 | .cnt _=>[99,111,110,116,105,110,117,101]++[59]
 | .ret _ e=>[114,101,116,117,114,110]++32 :: (putR lev e++[59])
 | .ass _ e=>[97,115,115,101,114,116]++40 :: (putR lev e++[41,59])
def putL (d:Nat):List RS→List UInt8
 | []=>[]
 | s :: l=>tabsT d++(tagT s.tag++(putB d s++10 :: putL d l))
end
def putD (d:List UInt8×Nat):List UInt8:=d.1++(if d.2=0 then [] else 91 :: (decDigits d.2++[93]))
def putV (l:List (List UInt8×Nat)):List UInt8:=if l.isEmpty then [] else 9 :: ([118,97,114]++32 :: (commas [44,32] putD l++[59,10]))
def putF (f:RF):List UInt8:=[102,117,110,99]++32 :: (f.name++40 :: (commas [44,32] (fun s=>s) f.params++41 :: 32 :: 123 :: 10 :: (putV f.vars++(putL lev 1 f.body++[125,10]))))
end
end Go.Proofs.YtbilfdapmbahgaaGreatDoor
namespace Go.Proofs.YtbilfdapmbahgaaGreatDoor
def RE.dep:RE→Nat
 | .num _=>0
 | .var _=>0
 | .idx _ e=>e.dep+1
 | .un _ e=>e.dep+1
 | .bin _ a b=>max a.dep b.dep+1
mutual
def nB:RS→Nat
 | .ife _ _ b l=>nSs b+nSs l
 | .whl _ _ b=>nSs b
 | .asg _ _ _=>0
 | .sto _ _ _ _=>0
 | .rd _ _=>0
 | .call _ _ _ _=>0
 | .brk _=>0
 | .cnt _=>0
 | .ret _ _=>0
 | .ass _ _=>0
def nSs:List RS→Nat
 | []=>0
 | s :: l=>1+nB s+nSs l
end
end Go.Proofs.YtbilfdapmbahgaaGreatDoor
