/- What Find answers; what is wrong with a call, and with what a statement sets. -/
import Derived.Test.YtljbbhhiiiepcaaGreatDoorProg
import Derived.Test.YtljbbhhiiiepcaaGreatDoorTProg3
import Derived.Test.YtljbbhhiiiepcaaGreatDoorTStmts
import Derived.Test.YtljbbhhiiiepcaaGreatDoorKShelf
import Derived.WalkKit
import Derived.WalkSpells
import Derived.WalkLawsBesides
import Derived.Laws.EntriesVeiled
import Derived.BigGuardPart
import Derived.Lib.Hide
import Derived.IntWalk
import Derived.Shelf.Abstract
import Derived.Lib.LaidU8
import Derived.ProofKit
set_option linter.unusedSimpArgs false
set_option linter.unusedVariables false
set_option maxHeartbeats 8000000
set_option maxRecDepth 100000
namespace Go.Proofs.YtljbbhhiiiepcaaGreatDoor.Ck
open Go Go.RowKit
open Go.Lib (hid)
def orE (a b:Nat):Nat:=if a=0 then b else a
theorem zcA (b:Nat):orE 0 b=b:=rfl
theorem orE_ne {a b:Nat} (h:a≠0):orE a b=a:=by unfold orE;rw[if_neg h]
theorem zbz {a b:Nat}:orE a b=0↔a=0∧b=0:=by
 unfold orE;split<;>omega
theorem zaz (a:Nat):orE a 0=a:=by unfold orE;split<;>simp_all
theorem zeg (a b c:Nat):orE (orE a b) c=orE a (orE b c):=by unfold orE;split<;>simp_all
def zau (code:Nat→Nat):Nat→Nat
 | 0=>0
 | n+1=>orE (zau code n) (code n)
theorem zcB {code:Nat→Nat} {k n:Nat} (h:k≤n) (hk:zau code k≠0):zau code n=zau code k:=by
 induction n with
 | zero =>
  obtain rfl:k=0:=by omega
  rfl
 | succ n ih =>
  by_cases e:k=n+1
  ·rw[e]
  ·rw[zau,ih (by omega),orE_ne hk]
abbrev Fv:=Nat×Array Value
abbrev Fv.val (x:Fv):Value:=.func (.func x.1) #[] x.2
def Ent (g:Nat):Prop:=∀args w,(callFunc g args).run Tryz.prog w=.ok (.enter g args) w
theorem firstOf_any (l:List Fv) (code:Nat→Nat) (I:Nat→World→Prop) (b:Nat) (w:World) (hl:l.length≤100)
  (hent:∀k (h:k < l.length),Ent l[k].1)
  (hcell:∀k (h:k < l.length) W,I k W→W.cell? ⟨b,k,none⟩=some l[k].val)
  (hstep:∀k (h:k < l.length) W,zau code k=0→I k W→Calls Tryz.prog l[k].1 l[k].2 W fun e w'=>e=.returned (.int .i64 (code k:Nat))∧I (k+1) w')
  (h0:I 0 w):
  Calls Tryz.prog 35 #[.slice (some ⟨b,0,none⟩) l.length l.length] w fun e w'=>e=.returned (.int .i64 (zau code l.length:Nat))∧∃k,k≤l.length∧I k w'∧(zau code l.length=0→k=l.length):=by
 have HC:=hid hcell
 have HS:=hid hstep
 have HE:=hid hent
 have H0:=hid h0
 clear hcell hstep hent h0
 go_enter Tryz.func35,Tryz.ntmps35
 go_wp2
 go_loopw [4,5,8] (fun _ _ i wr=>∃k:Nat,k≤l.length∧i=.int .i64 k∧I k wr∧zau code k=0) (fun _ _ i _=>l.length - (intOf i).toNat)
 case atStart=>exact⟨0,Nat.zero_le _,rfl,H0.out,rfl⟩
 case round =>
  clear H0
  obtain⟨k,hk,rfl,hi,hz⟩:=hrel
  by_cases hlt:k < l.length
  ·have hc:wr.cell? ⟨b,k,none⟩=some (.func (.func l[k].1) #[] l[k].2):=HC.out k hlt wr hi
   have hs:=HS.out k hlt wr hz hi
   have eg:∀args w,(callFunc l[k].1 args).run Tryz.prog w=.ok (.enter l[k].1 args) w:=HE.out k hlt
   have HF:Hid (zau code (k+1)=code k):=hid (by rw[zau,hz,zcA])
   generalize hg:l[k].1=g at hc hs eg
   generalize hlb:l[k].2=lb at hc hs
   clear hi hz hg hlb
   obtain⟨c,hcc⟩:∃c,code k=c:=⟨_,rfl⟩
   rw[hcc] at hs HF
   have HCC:=hid hcc
   clear hcc
   by_cases h0:c=0
   ·subst h0
    go_wp2_with (go_at_fn g;refine hs.mono ?_;rintro e w' ⟨rfl,hi'⟩)
    go_round
    case rel=>exact⟨k+1,by omega,by go_num,hi',HF.out⟩
    case measure=>simp[intOf];omega
   ·have e1:((c:Int) != 0)=true:=by simpa using h0
    go_wp2_with (go_at_fn g;refine hs.mono ?_;rintro e w' ⟨rfl,hi'⟩)
    go_ret
    have hf:zau code l.length=c:=by rw[zcB (k:=k+1) (by omega) (by rw[HF.out];exact h0),HF.out]
    exact⟨by rw[hf];rfl,k+1,by omega,hi',fun h=>absurd (hf.symm.trans h) h0⟩
  ·obtain rfl:k=l.length:=by omega
   go_wp2
   go_ret
   exact⟨by rw[hz];rfl,l.length,Nat.le_refl _,hi,fun _=>rfl⟩
abbrev Gr (m:Nat) (w w':World):Prop:=w.grownBy w' (some m)
theorem zaC (m:Nat) (w:World):Gr m w w:=⟨rfl,rfl,rfl,Nat.le_refl _,fun _ _ _=>rfl⟩
theorem zaA {m:Nat} {w w1 w2:World} (h:Gr m w w1) (k:Gr m w1 w2):Gr m w w2:=
 ⟨k.os.trans h.os,k.tape.trans h.tape,k.output.trans h.output,Nat.le_trans h.size k.size,fun i hi hn=>(k.block i (Nat.lt_of_lt_of_le hi h.size) hn).trans (h.block i hi hn)⟩
theorem zdK {m:Nat} {w w':World} (h:Below w.heap.size w w'):Gr m w w':=⟨h.os,h.tape,h.output,h.size,fun k hk _=>h.block k hk⟩
theorem gr_on {m:Nat} {w w1 w2:World} (h:Gr m w w1) (k:Below w1.heap.size w1 w2):Gr m w w2:=zaA h (zdK k)
theorem zah {m:Nat} {w w1:World} (h:Gr m w w1) (o:Obj):Gr m w (w1.alloc o):=zaA h (World.grownBy_alloc _ o _)
theorem zcG {m:Nat} {w0 w w':World} (hp:Below w0.heap.size w0 w) (h:Gr m w w') (hm:w0.heap.size≤m):Below w0.heap.size w0 w':=
 Below.grown hp h hp.size (fun k e=>by cases e;exact hm)
theorem gr_cell {m:Nat} {w w':World} (h:Gr m w w') {b o:Nat} {v:Value} (hb:b≠m) (hc:w.cell? ⟨b,o,none⟩=some v):w'.cell? ⟨b,o,none⟩=some v:=
 h.cell hc (fun e=>hb (by injection e))
theorem zaq {m:Nat} {w w':World} (h:Gr m w w') {b:Nat} {x:Obj} (hb:b≠m) (hc:w.heap[b]?=some x):w'.heap[b]?=some x:=by
 have hlt:b < w.heap.size:=by
  rcases Nat.lt_or_ge b w.heap.size with h' | h'
  ·exact h'
  ·rw[Array.getElem?_eq_none h'] at hc;cases hc
 rw[h.block b hlt (fun e=>hb (by injection e))];exact hc
theorem firstOf_g (m:Nat) (l:List Fv) (code:Nat→Nat) (T:Nat→World→Prop) (b:Nat) (w:World) (hl:l.length≤100) (hbm:b≠m)
  (hent:∀k (h:k < l.length),Ent l[k].1)
  (hcell:∀k (h:k < l.length),w.cell? ⟨b,k,none⟩=some l[k].val)
  (hstep:∀k (h:k < l.length) W,zau code k=0→Gr m w W→T k W→Calls Tryz.prog l[k].1 l[k].2 W fun e w'=>e=.returned (.int .i64 (code k:Nat))∧Gr m W w'∧T (k+1) w')
  (h0:T 0 w):
  Calls Tryz.prog 35 #[.slice (some ⟨b,0,none⟩) l.length l.length] w fun e w'=>e=.returned (.int .i64 (zau code l.length:Nat))∧Gr m w w'∧∃k,k≤l.length∧T k w'∧(zau code l.length=0→k=l.length):=by
 refine(firstOf_any l code (fun k W=>Gr m w W∧T k W) b w hl hent (fun k h W hW=>gr_cell hW.1 hbm (hcell k h)) (fun k h W hz hW=>?_) ⟨zaC _ _,h0⟩).mono ?_
 ·refine(hstep k h W hz hW.1 hW.2).mono ?_
  rintro e w' ⟨he,h1,h2⟩
  exact⟨he,zaA hW.1 h1,h2⟩
 ·rintro e w' ⟨he,k,hk,⟨h1,h2⟩,h3⟩
  exact⟨he,h1,k,hk,h2,h3⟩
theorem zeh (l:List Fv) (code:Nat→Nat) (b:Nat) (w:World) (hl:l.length≤100) (hb:b < w.heap.size)
  (hent:∀k (h:k < l.length),Ent l[k].1)
  (hcell:∀k (h:k < l.length),w.cell? ⟨b,k,none⟩=some l[k].val)
  (hstep:∀k (h:k < l.length) W,zau code k=0→Below w.heap.size w W→Calls Tryz.prog l[k].1 l[k].2 W fun e w'=>e=.returned (.int .i64 (code k:Nat))∧Below W.heap.size W w'):
  Calls Tryz.prog 35 #[.slice (some ⟨b,0,none⟩) l.length l.length] w fun e w'=>e=.returned (.int .i64 (zau code l.length:Nat))∧Below w.heap.size w w':=by
 refine(firstOf_any l code (fun _ W=>Below w.heap.size w W) b w hl hent (fun k h W hW=>(hW.cell (p:=⟨b,k,none⟩) hb).trans (hcell k h)) (fun k h W hz hW=>?_) (Below.refl _ _)).mono ?_
 ·refine(hstep k h W hz hW).mono ?_
  rintro e w' ⟨he,h1⟩
  exact⟨he,hW.trans (h1.mono hW.size)⟩
 ·rintro e w' ⟨he,k,hk,h1,h3⟩
  exact⟨he,h1⟩
theorem bal {w w1:World} (h:Below w.heap.size w w1) (o:Obj):Below w.heap.size w (w1.alloc o):=h.alloc h.size o
theorem bre (w:World):Below w.heap.size w w:=Below.refl _ _
theorem nb {w:World} {b:Nat} (o:Obj) (h:b=w.heap.size):(w.alloc o).heap[b]?=some o:=by rw[h];exact heap_alloc_new w o
theorem zcS {w:World} {b:Nat} {x:Obj} (hc:w.heap[b]?=some x):b < w.heap.size:=by
 rcases Nat.lt_or_ge b w.heap.size with h' | h'
 ·exact h'
 ·rw[Array.getElem?_eq_none h'] at hc;cases hc
theorem ob {w:World} {b:Nat} {x:Obj} (o:Obj) (h:w.heap[b]?=some x):(w.alloc o).heap[b]?=some x:=(Below.heap_alloc w o b (zcS h)).trans h
theorem bl {w W:World} {b:Nat} {x:Obj} (h:Below w.heap.size w W) (hx:w.heap[b]?=some x):W.heap[b]?=some x:=(h.block b (zcS hx)).trans hx
abbrev Box (w:World) (b:Nat) (v:Value) (t:TypeId):Prop:=w.heap[b]?=some (.cells #[v] t (0,0))
theorem Box.c0 {w:World} {b:Nat} {v:Value} {t:TypeId} (h:Box w b v t):w.cell? ⟨b,0,none⟩=some v:=by simp[World.cell?,h]
theorem Box.lt {w:World} {b:Nat} {v:Value} {t:TypeId} (h:Box w b v t):b < w.heap.size:=zcS h
def cd (l:List Nat) (k:Nat):Nat:=l.getD k 0
theorem zaG (b:Bool) (e:Int) (w:World):
  Calls Tryz.prog 38 #[.bool b,.int .i64 e] w fun x w'=>x=.returned (.int .i64 (if b then e else 0))∧w'=w:=by
 cases b
 all_goals
  go_enter Tryz.func38,Tryz.ntmps38
  go_wp2
  go_ret
  exact⟨rfl,rfl⟩
end Go.Proofs.YtljbbhhiiiepcaaGreatDoor.Ck

namespace Go.Proofs.YtljbbhhiiiepcaaGreatDoor.Ck
open Go Go.RowKit Go.Proofs.YtljbbhhiiiepcaaGreatDoor
open Go.Lib (hid)
theorem ET.cells_is (T:ET):T.cells=#[.int .i64 T.kind,.string T.op,.int .i64 T.n,.string T.name,.slice T.kaddr T.kids.length T.kcap]:=by cases T;rfl
theorem eachS_any {w0:World} (a:Option Addr) (c:Nat) (L:List ST) (hl:L.length≤9223372036854775807) (hin:SsIn w0 0 a 0 L) (g:Nat) (lb:Array Value) (eg0:Ent g) (code:Nat→Nat) (I:Nat→World→Prop)
  (hpast:∀k W,I k W→Past w0 W)
  (halloc:∀k W o,I k W→I k (W.alloc o))
  (hstep:∀k (h:k < L.length) W,zau code k=0→I k W→Calls Tryz.prog g (#[L[k].val]++lb) W fun e w'=>e=.returned (.int .i64 (code k:Nat))∧I (k+1) w')
  (w:World) (h0:I 0 w):
  Calls Tryz.prog 139 #[.slice a L.length c,.func (.func g) #[] lb] w fun e w'=>e=.returned (.int .i64 (zau code L.length:Nat))∧∃k,k≤L.length∧I k w'∧(zau code L.length=0→k=L.length):=by
 have HS:=hid hstep
 have HP:=hid hpast
 have HI:=hid hin
 have H0:=hid h0
 have HA:=hid halloc
 have eg:∀args w,(callFunc g args).run Tryz.prog w=.ok (.enter g args) w:=eg0
 clear hstep hpast hin h0 halloc eg0
 go_enter Tryz.func139,Tryz.ntmps139
 go_wp2
 go_loopw [6,7,10] (fun _ _ i wr=>∃k:Nat,k≤L.length∧i=.int .i64 k∧I k wr∧zau code k=0) (fun _ _ i _=>L.length - (intOf i).toNat)
 case atStart=>exact⟨0,Nat.zero_le _,rfl,H0.out,rfl⟩
 case round =>
  clear H0
  obtain⟨k,hk,rfl,hi,hz⟩:=hrel
  by_cases hlt:k < L.length
  ·have hs:=HS.out k hlt (wr.alloc (.cells #[.int .i64 L[k].kind,.int .i64 L[k].tag,.string L[k].name,.string L[k].func,.slice L[k].ea L[k].en L[k].ec,.slice L[k].ba L[k].bn L[k].bc,.slice L[k].la L[k].ln L[k].lc] 66)) hz (HA.out k _ _ hi)
   obtain⟨hrow,-⟩:=HI.out.nth k hlt
   have hrow':=hrow
   obtain⟨kb,ko,rfl,-⟩:=hrow'
   rw[ST.cells_eq,Nat.zero_add] at hrow
   obtain⟨r0,r1,r2,r3,r4,r5,r6,hkb⟩:=zdG hrow (HP.out k wr hi)
   rw[ST.val_eq] at hs
   clear hrow
   have HF:Hid (zau code (k+1)=code k):=hid (by rw[zau,hz,zcA])
   have HT:=hid hs
   clear hi hz hs
   obtain⟨cc,hcc⟩:∃cc,code k=cc:=⟨_,rfl⟩
   rw[hcc] at HT HF
   clear hcc
   by_cases h0:cc=0
   ·subst h0
    go_wp2_with (go_at_fn g;have hx:=HT.out;refine hx.mono ?_;clear hx;rintro e w' ⟨rfl,hi'⟩)
    go_round
    case rel=>exact⟨k+1,by omega,by go_num,hi',HF.out⟩
    case measure=>simp[intOf];omega
   ·have e1:((cc:Int) != 0)=true:=by simpa using h0
    go_wp2_with (go_at_fn g;have hx:=HT.out;refine hx.mono ?_;clear hx;rintro e w' ⟨rfl,hi'⟩)
    go_ret
    have hf:zau code L.length=cc:=by rw[zcB (k:=k+1) (by omega) (by rw[HF.out];exact h0),HF.out]
    exact⟨by rw[hf];rfl,k+1,by omega,hi',fun h=>absurd (hf.symm.trans h) h0⟩
  ·obtain rfl:k=L.length:=by omega
   go_wp2
   go_ret
   exact⟨by rw[hz];rfl,L.length,Nat.le_refl _,hi,fun _=>rfl⟩
theorem eachE_any {w0:World} (a:Option Addr) (c:Nat) (L:List ET) (hl:L.length≤9223372036854775807) (hin:EsIn w0 0 a 0 L) (g:Nat) (lb:Array Value) (eg0:Ent g) (code:Nat→Nat) (I:Nat→World→Prop)
  (hpast:∀k W,I k W→Past w0 W)
  (halloc:∀k W o,I k W→I k (W.alloc o))
  (hstep:∀k (h:k < L.length) W,zau code k=0→I k W→Calls Tryz.prog g (#[L[k].val]++lb) W fun e w'=>e=.returned (.int .i64 (code k:Nat))∧I (k+1) w')
  (w:World) (h0:I 0 w):
  Calls Tryz.prog 194 #[.slice a L.length c,.func (.func g) #[] lb] w fun e w'=>e=.returned (.int .i64 (zau code L.length:Nat))∧∃k,k≤L.length∧I k w'∧(zau code L.length=0→k=L.length):=by
 have HS:=hid hstep
 have HP:=hid hpast
 have HI:=hid hin
 have H0:=hid h0
 have HA:=hid halloc
 have eg:∀args w,(callFunc g args).run Tryz.prog w=.ok (.enter g args) w:=eg0
 clear hstep hpast hin h0 halloc eg0
 go_enter Tryz.func194,Tryz.ntmps194
 go_wp2
 go_loopw [6,7,10] (fun _ _ i wr=>∃k:Nat,k≤L.length∧i=.int .i64 k∧I k wr∧zau code k=0) (fun _ _ i _=>L.length - (intOf i).toNat)
 case atStart=>exact⟨0,Nat.zero_le _,rfl,H0.out,rfl⟩
 case round =>
  clear H0
  obtain⟨k,hk,rfl,hi,hz⟩:=hrel
  by_cases hlt:k < L.length
  ·have hs:=HS.out k hlt (wr.alloc (.cells #[.int .i64 L[k].kind,.string L[k].op,.int .i64 L[k].n,.string L[k].name,.slice L[k].kaddr L[k].kids.length L[k].kcap] 68)) hz (HA.out k _ _ hi)
   obtain⟨hrow,-⟩:=HI.out.nth k hlt
   have hrow':=hrow
   obtain⟨kb,ko,rfl,-⟩:=hrow'
   rw[ET.cells_is,Nat.zero_add] at hrow
   obtain⟨r0,r1,r2,r3,r4,hkb⟩:=za1 hrow (HP.out k wr hi)
   rw[ET.val_is] at hs
   clear hrow
   have HF:Hid (zau code (k+1)=code k):=hid (by rw[zau,hz,zcA])
   have HT:=hid hs
   clear hi hz hs
   obtain⟨cc,hcc⟩:∃cc,code k=cc:=⟨_,rfl⟩
   rw[hcc] at HT HF
   clear hcc
   by_cases h0:cc=0
   ·subst h0
    go_wp2_with (go_at_fn g;have hx:=HT.out;refine hx.mono ?_;clear hx;rintro e w' ⟨rfl,hi'⟩)
    go_round
    case rel=>exact⟨k+1,by omega,by go_num,hi',HF.out⟩
    case measure=>simp[intOf];omega
   ·have e1:((cc:Int) != 0)=true:=by simpa using h0
    go_wp2_with (go_at_fn g;have hx:=HT.out;refine hx.mono ?_;clear hx;rintro e w' ⟨rfl,hi'⟩)
    go_ret
    have hf:zau code L.length=cc:=by rw[zcB (k:=k+1) (by omega) (by rw[HF.out];exact h0),HF.out]
    exact⟨by rw[hf];rfl,k+1,by omega,hi',fun h=>absurd (hf.symm.trans h) h0⟩
  ·obtain rfl:k=L.length:=by omega
   go_wp2
   go_ret
   exact⟨by rw[hz];rfl,L.length,Nat.le_refl _,hi,fun _=>rfl⟩
theorem eachT_any {w0:World} (a:Option Addr) (c:Nat) (L:List ByteArray) (hl:L.length≤9223372036854775807) (hin:∀(i:Nat) (h:i < L.length),StrAt w0 0 a i L[i]) (g:Nat) (lb:Array Value) (eg0:Ent g) (code:Nat→Nat) (I:Nat→World→Prop)
  (hpast:∀k W,I k W→Past w0 W)
  (hstep:∀k (h:k < L.length) W,zau code k=0→I k W→Calls Tryz.prog g (#[.string L[k]]++lb) W fun e w'=>e=.returned (.int .i64 (code k:Nat))∧I (k+1) w')
  (w:World) (h0:I 0 w):
  Calls Tryz.prog 40 #[.slice a L.length c,.func (.func g) #[] lb] w fun e w'=>e=.returned (.int .i64 (zau code L.length:Nat))∧∃k,k≤L.length∧I k w'∧(zau code L.length=0→k=L.length):=by
 have HS:=hid hstep
 have HP:=hid hpast
 have HI:=hid hin
 have H0:=hid h0
 have eg:∀args w,(callFunc g args).run Tryz.prog w=.ok (.enter g args) w:=eg0
 clear hstep hpast hin h0 eg0
 go_enter Tryz.func40,Tryz.ntmps40
 go_wp2
 go_loopw [6,7,10] (fun _ _ i wr=>∃k:Nat,k≤L.length∧i=.int .i64 k∧I k wr∧zau code k=0) (fun _ _ i _=>L.length - (intOf i).toNat)
 case atStart=>exact⟨0,Nat.zero_le _,rfl,H0.out,rfl⟩
 case round =>
  clear H0
  obtain⟨k,hk,rfl,hi,hz⟩:=hrel
  by_cases hlt:k < L.length
  ·have hs:=HS.out k hlt wr hz hi
   obtain⟨kb,ko,rfl,-,hc0⟩:=HI.out k hlt
   have hc:=zaP (HP.out k wr hi) (B:=0) _ _ (Nat.zero_le _) hc0
   have hkb:=zdl hc
   clear hc0
   have HF:Hid (zau code (k+1)=code k):=hid (by rw[zau,hz,zcA])
   have HT:=hid hs
   clear hi hz hs
   obtain⟨cc,hcc⟩:∃cc,code k=cc:=⟨_,rfl⟩
   rw[hcc] at HT HF
   clear hcc
   by_cases h0:cc=0
   ·subst h0
    go_wp2_with (go_at_fn g;have hx:=HT.out;refine hx.mono ?_;clear hx;rintro e w' ⟨rfl,hi'⟩)
    go_round
    case rel=>exact⟨k+1,by omega,by go_num,hi',HF.out⟩
    case measure=>simp[intOf];omega
   ·have e1:((cc:Int) != 0)=true:=by simpa using h0
    go_wp2_with (go_at_fn g;have hx:=HT.out;refine hx.mono ?_;clear hx;rintro e w' ⟨rfl,hi'⟩)
    go_ret
    have hf:zau code L.length=cc:=by rw[zcB (k:=k+1) (by omega) (by rw[HF.out];exact h0),HF.out]
    exact⟨by rw[hf];rfl,k+1,by omega,hi',fun h=>absurd (hf.symm.trans h) h0⟩
  ·obtain rfl:k=L.length:=by omega
   go_wp2
   go_ret
   exact⟨by rw[hz];rfl,L.length,Nat.le_refl _,hi,fun _=>rfl⟩
end Go.Proofs.YtljbbhhiiiepcaaGreatDoor.Ck

namespace Go.Proofs.YtljbbhhiiiepcaaGreatDoor.Ck
open Go Go.RowKit Go.Proofs.YtljbbhhiiiepcaaGreatDoor
instance memDec (x:ByteArray) (l:List ByteArray):Decidable (x∈l):=decidable_of_iff (l.any (fun y=>decide (y=x))=true) (by simp)
def sizeV (vs:List (ByteArray×Int)) (nm:ByteArray):Option Int:=match vs with
 | []=>none
 | d :: l=>if d.1=nm then some d.2 else sizeV l nm
def zdx (F:FT) (nm:ByteArray):Option Int:=if nm∈F.params then some 0 else sizeV F.vars nm
def namedF (F:FT) (nm:ByteArray) (arr:Bool):Nat:=match zdx F nm with
 | none=>6
 | some s=>if decide (0 < s)=arr then 0 else 7
theorem kids_sz {T:ET}:szs T.kids < T.sz:=by cases T;simp only[ET.kids,ET.sz];omega
theorem szs_mem {T:ET} {l:List ET} (h:T∈l):T.sz≤szs l:=by
 induction l with
 | nil=>cases h
 | cons U l ih =>
  rw[szs]
  rcases List.mem_cons.1 h with rfl | h
  ·omega
  ·have:=ih h;omega
mutual
def placeE (F:FT):ET→Nat
 | .mk k _ _ nm _ _ kids=>orE (if k=1∨k=2 then namedF F nm (decide (k=2)) else 0) (placeEs F kids)
def placeEs (F:FT):List ET→Nat
 | []=>0
 | T :: l=>orE (placeE F T) (placeEs F l)
end
def findN (l:List FT) (nm:ByteArray):Nat:=match l with
 | []=>0
 | F :: l=>if F.name=nm then 0 else findN l nm+1
def zei (l:List FT) (nm:ByteArray):Int:=if findN l nm < l.length then (findN l nm:Int) else -1
def ST.es:ST→List ET
 | .mk _ _ _ _ _ _ e _ _ _ _ _ _=>e
def calleeF (l:List FT) (S:ST):Nat:=
 if S.kind≠3 then 0
 else if l.length≤findN l S.func then 6
 else if findN l S.func+1=l.length∨((l.map fun F=>F.params.length).getD (findN l S.func) 0)≠S.en then 10 else 0
def tagF (l:List FT) (i:Nat) (S:ST) (seen:List Int):Nat:=
 if 0 < S.tag then (if i+1=l.length∧S.tag∉seen then 0 else 9) else 0
def zbu (S:ST) (seen:List Int):List Int:=if 0 < S.tag then S.tag :: seen else seen
def jumpF (S:ST) (looped:Bool):Nat:=if (S.kind=6∨S.kind=7)∧looped=false then 8 else 0
def targetF (F:FT) (S:ST):Nat:=if S.name.data.toList=[] then 0 else namedF F S.name (decide (S.kind=1))
def askF (l:List FT) (i:Nat) (F:FT) (S:ST) (looped:Bool) (seen:List Int):Nat:=
 orE (tagF l i S seen) (orE (jumpF S looped) (orE (targetF F S) (orE (calleeF l S) (placeEs F (ST.es S)))))
def zap (looped:Bool) (S:ST):Bool:=looped||decide (S.kind=5)
def andThen (r:Nat×List Int) (f:List Int→Nat×List Int):Nat×List Int:=if r.1=0 then f r.2 else r
mutual
def chkS (l:List FT) (i:Nat) (F:FT) (looped:Bool):ST→List Int→Nat×List Int
 | .mk k t n f ea ec e ba bc b la lc el,seen =>
  andThen (andThen (askF l i F (.mk k t n f ea ec e ba bc b la lc el) looped seen,zbu (.mk k t n f ea ec e ba bc b la lc el) seen) (zaQ l i F (looped||decide (k=5)) b)) (zaQ l i F (looped||decide (k=5)) el)
def zaQ (l:List FT) (i:Nat) (F:FT) (looped:Bool):List ST→List Int→Nat×List Int
 | [],seen=>(0,seen)
 | S :: r,seen=>andThen (chkS l i F looped S seen) (zaQ l i F looped r)
end
theorem chkS_eq (l:List FT) (i:Nat) (F:FT) (looped:Bool) (S:ST) (seen:List Int):chkS l i F looped S seen =
  andThen (andThen (askF l i F S looped seen,zbu S seen) (zaQ l i F (zap looped S) S.body)) (zaQ l i F (zap looped S) S.els):=by
 cases S;rw[chkS];rfl
def repB (names:List ByteArray):Bool:=!decide names.Nodup
def zaW (F:FT):List ByteArray:=F.params++F.vars.map (·.1)
def zcT (F:FT):Bool:=decide (24 < F.params.length+F.vars.length)||F.vars.any fun d=>decide (64 < d.2)
def fnF (l:List FT) (i:Nat) (F:FT) (seen:List Int):Nat×List Int:=
 if zcT F then (5,seen) else if repB (zaW F) then (6,seen) else zaQ l i F false F.body seen
def stsV (l:List FT):Nat:=match l with
 | []=>0
 | F :: l=>cnts F.body+stsV l
def mainB (l:List FT):Bool:=match l with
 | []=>false
 | [F]=>decide (F.name={data:=#[109,97,105,110]})&&F.params.isEmpty
 | _ :: l=>mainB l
def wholeF (l:List FT):Nat:=
 if l.all FT.rightB=false then 1
 else if l.length=0∨16 < l.length∨400 < stsV l then 5
 else if repB (l.map (·.name)) then 6
 else if mainB l then 0 else 10
def fnsF (l:List FT):Nat→List FT→List Int→(Nat×List Int)×Int
 | _,[],seen=>((0,seen),-1)
 | n,F :: r,seen=>if (fnF l n F seen).1=0 then fnsF l (n+1) r (fnF l n F seen).2 else (fnF l n F seen,(n:Int))
def zbV (l:List FT):(Nat×List Int)×Int:=if wholeF l=0 then fnsF l 0 l [] else ((wholeF l,[]),-1)
def chkF (l:List FT):Nat×Int:=((zbV l).1.1,(zbV l).2)
def varsF (F:FT) (vars:List ByteArray):Nat:=match vars with
 | []=>0
 | a :: l=>orE (namedF F a false) (varsF F l)
end Go.Proofs.YtljbbhhiiiepcaaGreatDoor.Ck

namespace Go.Proofs.YtljbbhhiiiepcaaGreatDoor.Ck
open Go Go.RowKit Go.Proofs.YtljbbhhiiiepcaaGreatDoor
open Go.Lib (hid)
abbrev StrsIn (w:World) (B:Nat) (a:Option Addr) (l:List ByteArray):Prop:=∀(i:Nat) (h:i < l.length),StrAt w B a i l[i]
theorem strs_getD {w0 w:World} {B b o:Nat} {l:List ByteArray} (h:StrsIn w0 B (some ⟨b,o,none⟩) l) (hp:Past w0 w) (j:Nat) (hj:j < l.length):w.cell? ⟨b,o+j,none⟩=some (.string (l.getD j ByteArray.empty)):=by
 obtain⟨b',o',e,-,hc⟩:=h j hj
 simp only[Option.some.injEq,Addr.mk.injEq,and_true] at e
 obtain⟨rfl,rfl⟩:=e
 rw[List.getD_eq_getElem?_getD,List.getElem?_eq_getElem hj]
 exact zaP hp (B:=0) _ _ (Nat.zero_le _) hc
theorem contains_any {w0:World} {B:Nat} {a:Option Addr} {l:List ByteArray} (h:StrsIn w0 B a l) (hl:l.length≤9223372036854775807) (n c:Nat) (hn:n≤l.length) (x:ByteArray) (w:World) (hp:Past w0 w):
  Calls Tryz.prog 33 #[.slice a n c,.string x] w fun e w'=>e=.returned (.bool (decide (x∈l.take n)))∧w'=w:=by
 have hb:Lib.containsS (l.take n) x=decide (x∈l.take n):=by
  rw[Bool.eq_iff_iff,Lib.containsS_iff,decide_eq_true_eq]
 rcases Nat.eq_zero_or_pos n with rfl | hn0
 ·have:=Tryz.slices_Contains_string_empty a c x w
  simpa using this
 ·obtain⟨b,o,rfl,-,-⟩:=h 0 (by omega)
  have:=Tryz.slices_Contains_string b o n c l x w hn (by omega) (fun j hj=>strs_getD h hp j hj)
  rw[hb] at this
  exact this
abbrev szV (F:FT) (nm:ByteArray):Value:=.tuple #[.int .i64 ((zdx F nm).getD 0),.bool (zdx F nm).isSome]
theorem sizeV_at {vs:List (ByteArray×Int)} {nm:ByteArray} {n:Nat} (h:∀j (hj:j < n) (hl:j < vs.length),vs[j].1≠nm) (hn:n < vs.length) (e:vs[n].1=nm):sizeV vs nm=some vs[n].2:=by
 induction vs generalizing n with
 | nil=>simp at hn
 | cons d l ih =>
  cases n with
  | zero=>rw[sizeV,if_pos (show d.1=nm from e)];rfl
  | succ n =>
   rw[sizeV,if_neg (show d.1≠nm from h 0 (by omega) (by simp))]
   exact ih (n:=n) (fun j hj hl=>h (j+1) (by omega) (by simpa using hl)) (by simpa using hn) e
theorem sizeV_none {vs:List (ByteArray×Int)} {nm:ByteArray} (h:∀j (hl:j < vs.length),vs[j].1≠nm):sizeV vs nm=none:=by
 induction vs with
 | nil=>rfl
 | cons d l ih =>
  rw[sizeV,if_neg (show d.1≠nm from h 0 (by simp)),ih (fun j hl=>h (j+1) (by simpa using hl))]
theorem FT.val_is (F:FT):F.val=.agg #[.string F.name,.slice F.pa F.params.length F.pc,.slice F.va F.vars.length F.vc,.slice F.ba F.body.length F.bc]:=rfl
theorem text_eq {a b:ByteArray}:(a.toList==b.toList)=true↔a=b:=by
 rw[ByteArray.toList_eq,ByteArray.toList_eq,beq_iff_eq]
 constructor
 ·intro h
  cases a with | mk x=>cases b with | mk y =>
   congr 1
   exact Array.toList_inj.1 h
 ·rintro rfl;rfl
theorem text_ne {a b:ByteArray} (h:a≠b):(a.toList==b.toList)=false:=by
 cases e:(a.toList==b.toList)
 ·rfl
 ·exact absurd (text_eq.1 e) h
theorem size_any {w0:World} {F:FT} (hin:F.In w0 0) (nm:ByteArray) (w:World) (hp:Past w0 w):
  Calls Tryz.prog 14 #[.agg #[.string F.name,.slice F.pa F.params.length F.pc,.slice F.va F.vars.length F.vc,.slice F.ba F.body.length F.bc],.string nm] w fun e w'=>e=.returned (szV F nm)∧Below w.heap.size w w':=by
 have HP:=hid hp
 have HI:=hid hin
 have HC:=hid (fun(W:World) (hW:Past w0 W)=>contains_any hin.ps hin.pl F.params.length F.pc (Nat.le_refl _) nm W hW)
 have hvl:=hin.vl
 clear hp hin
 by_cases hm:nm∈F.params
 ·have HS:Hid (zdx F nm=some 0):=hid (by unfold zdx;rw[if_pos hm])
  rw[List.take_length,decide_eq_true hm] at HC
  clear hm
  go_enter Tryz.func14,Tryz.ntmps14
  go_wp2_with (go_at_call 33;have hx:=HC.out _ (HP.out.alloc (.cells #[.string F.name,.slice F.pa F.params.length F.pc,.slice F.va F.vars.length F.vc,.slice F.ba F.body.length F.bc] 47));refine hx.mono ?_;clear hx;rintro e w1 ⟨rfl,rfl⟩)
  go_ret2
  exact⟨by rw[szV,HS.out];rfl,(Below.refl _ _).alloc (Nat.le_refl _) _⟩
 ·have HS:Hid (zdx F nm=sizeV F.vars nm):=hid (by unfold zdx;rw[if_neg hm])
  rw[List.take_length,decide_eq_false hm] at HC
  clear hm
  go_enter Tryz.func14,Tryz.ntmps14
  go_wp2_with (go_at_call 33;have hx:=HC.out _ (HP.out.alloc (.cells #[.string F.name,.slice F.pa F.params.length F.pc,.slice F.va F.vars.length F.vc,.slice F.ba F.body.length F.bc] 47));refine hx.mono ?_;clear hx;rintro e w1 ⟨rfl,rfl⟩)
  go_loopw [7,15] (fun _ i wr=>∃n:Nat,n≤F.vars.length∧i=.int .i64 n∧Below w.heap.size w wr∧∀j (hj:j < n) (hl:j < F.vars.length),F.vars[j].1≠nm) (fun _ i _=>F.vars.length - (intOf i).toNat)
  case atStart=>exact⟨0,Nat.zero_le _,rfl,(Below.refl _ _).alloc (Nat.le_refl _) _,fun j hj=>by omega⟩
  case round =>
   obtain⟨n,hn,rfl,hb,hno⟩:=hrel
   have HB:=hid hb
   have HN:=hid hno
   clear hb hno HC
   by_cases hlt:n < F.vars.length
   ·have hrow:=HI.out.vs n hlt
    have hrow':=hrow
    obtain⟨kb,ko,rr,-⟩:=hrow'
    rw[rr] at hrow ⊢
    obtain⟨r0,r1,hkb⟩:=zcP hrow (HP.out.on HB.out)
    have HR:=hid rr
    clear hrow rr
    by_cases he:F.vars[n].1=nm
    ·have e1:=text_eq.2 he
     have HE:=hid (sizeV_at HN.out hlt he)
     clear he
     go_wp2
     go_ret2
     exact⟨by rw[szV,HS.out,HE.out];rfl,HB.out.alloc HB.out.size _⟩
    ·have e1:=text_ne he
     have HE:Hid (∀j (hj:j < n+1) (hl:j < F.vars.length),F.vars[j].1≠nm):=hid (fun j hj hl=>by
      by_cases e:j=n
      ·subst e;exact he
      ·exact HN.out j (by omega) hl)
     clear he
     go_wp2
     go_round
     case rel=>exact⟨n+1,by omega,by go_num,HB.out.alloc HB.out.size _,HE.out⟩
     case measure=>simp[intOf];omega
   ·obtain rfl:n=F.vars.length:=by omega
    go_wp2
    go_ret2
    exact⟨by rw[szV,HS.out,sizeV_none (fun j hl=>HN.out j hl hl)];rfl,HB.out⟩
end Go.Proofs.YtljbbhhiiiepcaaGreatDoor.Ck

namespace Go.Proofs.YtljbbhhiiiepcaaGreatDoor.Ck
open Go Go.RowKit Go.Proofs.YtljbbhhiiiepcaaGreatDoor
open Go.Lib (hid)
abbrev SBox (w:World) (b:Nat) (S:ST):Prop:=w.heap[b]?=some (.cells #[.int .i64 S.kind,.int .i64 S.tag,.string S.name,.string S.func,.slice S.ea S.en S.ec,.slice S.ba S.bn S.bc,.slice S.la S.ln S.lc] 66 (0,0))
abbrev XBox (w:World) (b:Nat) (a:Option Addr) (n c mb:Nat):Prop:=w.heap[b]?=some (.cells #[.slice a n c,.map (some mb)] 81 (0,0))
theorem last_any (a:Option Addr) (n c mb:Nat) (hn:n≤9223372036854775807) (w:World):
  Calls Tryz.prog 95 #[.agg #[.slice a n c,.map (some mb)]] w fun e w'=>e=.returned (.int .i64 ((n:Int) - 1))∧Below w.heap.size w w':=by
 go_enter Tryz.func95,Tryz.ntmps95
 go_wp2
 go_ret
 exact⟨rfl,bal (bre w) _⟩
theorem find1_any (F:FT) (nm:ByteArray) (b:Nat) (w:World) (hc:Box w b (.string nm) 9):
  Calls Tryz.prog 46 #[.agg #[.string F.name,.slice F.pa F.params.length F.pc,.slice F.va F.vars.length F.vc,.slice F.ba F.body.length F.bc],.pointer (some ⟨b,0,none⟩)] w fun e w'=>e=.returned (.bool (F.name.toList==nm.toList))∧Below w.heap.size w w':=by
 have c0:=zab (k:=0) hc rfl
 have hlt:=lt_of_block hc
 clear hc
 obtain⟨q,hq⟩:∃q,(F.name.toList==nm.toList)=q:=⟨_,rfl⟩
 rw[hq]
 go_enter Tryz.func46,Tryz.ntmps46
 go_wp2
 go_ret
 exact⟨rfl,bal (bre w) _⟩
theorem findN_at {l:List FT} {nm:ByteArray} {n:Nat} (hn:n < l.length) (h:∀j (hj:j < n) (hl:j < l.length),l[j].name≠nm) (e:l[n].name=nm):findN l nm=n:=by
 induction l generalizing n with
 | nil=>simp at hn
 | cons F l ih =>
  cases n with
  | zero=>rw[findN,if_pos (show F.name=nm from e)]
  | succ n =>
   rw[findN,if_neg (show F.name≠nm from h 0 (by omega) (by simp))]
   rw[ih (n:=n) (by simpa using hn) (fun j hj hl=>h (j+1) (by omega) (by simpa using hl)) e]
theorem findN_none {l:List FT} {nm:ByteArray} (h:∀j (hl:j < l.length),l[j].name≠nm):findN l nm=l.length:=by
 induction l with
 | nil=>rfl
 | cons F l ih=>rw[findN,if_neg (show F.name≠nm from h 0 (by simp)),ih (fun j hl=>h (j+1) (by simpa using hl))];rfl
theorem F.cells_is (F:FT):F.cells=#[.string F.name,.slice F.pa F.params.length F.pc,.slice F.va F.vars.length F.vc,.slice F.ba F.body.length F.bc]:=rfl
theorem zef {w0:World} {a:Option Addr} {l:List FT} (hin:FsIn w0 0 a l) (c:Nat) (nm:ByteArray) (b:Nat) (w:World) (hp:Past w0 w) (hc:Box w b (.string nm) 9):
  Calls Tryz.prog 45 #[.slice a l.length c,.func (.func 46) #[] #[.pointer (some ⟨b,0,none⟩)]] w fun e w'=>e=.returned (.int .i64 (zei l nm))∧Below w.heap.size w w':=by
 have HP:=hid hp
 have HI:=hid hin
 have HC:=hid hc
 have hll:=hin.len
 clear hp hin hc
 go_enter Tryz.func45,Tryz.ntmps45
 go_wp2
 go_loopw [5,8] (fun _ i wr=>∃n:Nat,n≤l.length∧i=.int .i64 n∧Below w.heap.size w wr∧∀j (hj:j < n) (hl:j < l.length),l[j].name≠nm) (fun _ i _=>l.length - (intOf i).toNat)
 case atStart=>exact⟨0,Nat.zero_le _,rfl,Below.refl _ _,fun j hj=>by omega⟩
 case round =>
  obtain⟨n,hn,rfl,hb,hno⟩:=hrel
  have HB:=hid hb
  have HN:=hid hno
  clear hb hno
  by_cases hlt:n < l.length
  ·have hrow:=HI.out.row n hlt
   have hrow':=hrow
   obtain⟨kb,ko,rfl,-⟩:=hrow'
   rw[F.cells_is] at hrow
   obtain⟨r0,r1,r2,r3,hkb⟩:=zbk hrow (HP.out.on HB.out)
   have hcall:=find1_any l[n] nm b wr (bl HB.out HC.out)
   clear hrow
   by_cases he:l[n].name=nm
   ·rw[text_eq.2 he] at hcall
    have HX:=hid hcall
    have HE:Hid (zei l nm=(n:Int)):=hid (by unfold zei;rw[findN_at hlt HN.out he,if_pos hlt])
    clear hcall he
    go_wp2_with (go_at_call 46;have hx:=HX.out;refine hx.mono ?_;clear hx;rintro e w1 ⟨rfl,hb1⟩)
    go_ret
    exact⟨by rw[HE.out];rfl,zan HB.out hb1⟩
   ·rw[text_ne he] at hcall
    have HX:=hid hcall
    have HE:Hid (∀j (hj:j < n+1) (hl:j < l.length),l[j].name≠nm):=hid (fun j hj hl=>by
     by_cases e:j=n
     ·subst e;exact he
     ·exact HN.out j (by omega) hl)
    clear hcall he
    go_wp2_with (go_at_call 46;have hx:=HX.out;refine hx.mono ?_;clear hx;rintro e w1 ⟨rfl,hb1⟩)
    go_round
    case rel=>exact⟨n+1,by omega,by go_num,zan HB.out hb1,HE.out⟩
    case measure=>simp[intOf];omega
  ·obtain rfl:n=l.length:=by omega
   go_wp2
   go_ret
   exact⟨by unfold zei;rw[findN_none (fun j hl=>HN.out j hl hl),if_neg (Nat.lt_irrefl _)];rfl,HB.out⟩
theorem find_any {w0:World} {a:Option Addr} {l:List FT} (hin:FsIn w0 0 a l) (c:Nat) (nm:ByteArray) (w:World) (hp:Past w0 w):
  Calls Tryz.prog 19 #[.agg #[.slice a l.length c],.string nm] w fun e w'=>e=.returned (.int .i64 (zei l nm))∧Below w.heap.size w w':=by
 have HX:=hid (fun(W:World) (hW:Past w0 W) (b:Nat) (hb:Box W b (.string nm) 9)=>zef hin c nm b W hW hb)
 have HP:=hid hp
 clear hin hp
 go_enter Tryz.func19,Tryz.ntmps19
 go_wp2_with (go_at_call 45;refine(HX.out _ ?_ _ ?_).mono ?_;(exact(HP.out.alloc _).alloc _);(exact nb _ (by simp));rintro e w1 ⟨rfl,hb1⟩)
 go_ret
 exact⟨rfl,zan (bal (bal (bre w) _) _) hb1⟩
theorem findV_lt (l:List FT) (nm:ByteArray):zei l nm < 0∧l.length≤findN l nm∨0≤zei l nm∧zei l nm=(findN l nm:Nat)∧findN l nm < l.length:=by
 unfold zei
 split
 ·rename_i h;exact Or.inr ⟨by omega,rfl,h⟩
 ·rename_i h;exact Or.inl ⟨by omega,by omega⟩
def call2 (l:List FT) (S:ST):Nat:=if findN l S.func+1=l.length∨((l.map fun F=>F.params.length).getD (findN l S.func) 0)≠S.en then 10 else 0
def ng (v:Int):Nat:=if v < 0 then 6 else 0
theorem callee_code (l:List FT) (S:ST) (hk:S.kind=3):calleeF l S=orE (orE 0 (ng (zei l S.func))) (call2 l S):=by
 unfold calleeF call2 ng
 rw[if_neg (by omega)]
 rcases findV_lt l S.func with ⟨h1,h2⟩ | ⟨h1,h2,h3⟩
 ·rw[if_pos h2,if_pos h1];rfl
 ·rw[if_neg (show ¬l.length≤findN l S.func by omega),if_neg (show ¬zei l S.func < 0 by omega)];rfl
theorem callee1_any (b:Nat) (i:Int) (w:World) (hc:Box w b (.int .i64 i) 3):
  Calls Tryz.prog 192 #[.pointer (some ⟨b,0,none⟩)] w fun e w'=>e=.returned (.int .i64 (ng i:Nat))∧w'=w:=by
 have c0:=zab (k:=0) hc rfl
 have hlt:=lt_of_block hc
 clear hc
 by_cases h:i < 0
 ·have e1:decide (i < 0)=true:=by simpa using h
  have HV:ng i=6:=if_pos h
  rw[HV]
  clear h HV
  go_enter Tryz.func192,Tryz.ntmps192
  go_wp2_with (go_at_call 38;refine(zaG _ _ _).mono ?_;rintro e w' ⟨rfl,rfl⟩)
  go_ret
  exact⟨rfl,rfl⟩
 ·have e1:decide (i < 0)=false:=by simpa using h
  have HV:ng i=0:=if_neg h
  rw[HV]
  clear h HV
  go_enter Tryz.func192,Tryz.ntmps192
  go_wp2_with (go_at_call 38;refine(zaG _ _ _).mono ?_;rintro e w' ⟨rfl,rfl⟩)
  go_ret
  exact⟨rfl,rfl⟩
end Go.Proofs.YtljbbhhiiiepcaaGreatDoor.Ck
