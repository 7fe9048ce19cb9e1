/- What same asks of lists of expressions and of statements: are all fields the same, wherever they lie? (Written by gens.py.) What same asks of two. -/
import Derived.Test.YtagnmppdhfmgdaaGreatDoorTRight2
set_option linter.unusedSimpArgs false
set_option linter.unusedVariables false
set_option maxHeartbeats 8000000
set_option maxRecDepth 100000
namespace Go.Proofs.YtagnmppdhfmgdaaGreatDoor
open Go Go.RowKit
open Go.Lib (hid)
mutual
def zbF:ET→ET→Bool
 | .mk k o n m _ _ l,.mk k' o' n' m' _ _ l'=>k==k'&&(o.toList==o'.toList&&(n==n'&&(m.toList==m'.toList&&zat l l')))
def zat:List ET→List ET→Bool
 | [],[]=>true
 | T :: l,U :: m=>zbF T U&&zat l m
 | [],_ :: _=>false
 | _ :: _,[]=>false
end
mutual
def zcp:ST→ST→Bool
 | .mk k t n f _ _ e _ _ b _ _ l,.mk k' t' n' f' _ _ e' _ _ b' _ _ l'=>k==k'&&(t==t'&&(n.toList==n'.toList&&(f.toList==f'.toList&&(zat e e'&&(zaz b b'&&zaz l l')))))
def zaz:List ST→List ST→Bool
 | [],[]=>true
 | S :: l,U :: m=>zcp S U&&zaz l m
 | [],_ :: _=>false
 | _ :: _,[]=>false
end
theorem sameEs_len {l m:List ET} (h:¬l.length=m.length):zat l m=false:=by
 induction l generalizing m with
 | nil =>
  cases m with
  | nil=>exact absurd rfl h
  | cons U m=>rw[zat]
 | cons X l ih =>
  cases m with
  | nil=>rw[zat]
  | cons U m=>rw[zat,ih (by simpa using h)];simp
theorem sameEs_no {l m:List ET} {n:Nat} (hn:n < l.length) (hn':n < m.length) (h:zbF l[n] m[n]=false):zat l m=false:=by
 induction l generalizing m n with
 | nil=>simp at hn
 | cons X l ih =>
  cases m with
  | nil=>simp at hn'
  | cons U m =>
   cases n with
   | zero=>rw[zat,show zbF X U=false from h];rfl
   | succ n=>rw[zat,ih (m:=m) (n:=n) (by simpa using hn) (by simpa using hn') h];simp
theorem sameEs_take {l m:List ET} {n:Nat} (hn:n < l.length) (hn':n < m.length):zat (l.take (n+1)) (m.take (n+1))=(zat (l.take n) (m.take n)&&zbF l[n] m[n]):=by
 induction l generalizing m n with
 | nil=>simp at hn
 | cons X l ih =>
  cases m with
  | nil=>simp at hn'
  | cons U m =>
   cases n with
   | zero=>simp[zat]
   | succ n =>
    have:=ih (m:=m) (n:=n) (by simpa using hn) (by simpa using hn')
    rw[List.take_succ_cons,List.take_succ_cons,zat,this,List.take_succ_cons,List.take_succ_cons,zat,Bool.and_assoc]
    rfl
theorem sameSs_len {l m:List ST} (h:¬l.length=m.length):zaz l m=false:=by
 induction l generalizing m with
 | nil =>
  cases m with
  | nil=>exact absurd rfl h
  | cons U m=>rw[zaz]
 | cons X l ih =>
  cases m with
  | nil=>rw[zaz]
  | cons U m=>rw[zaz,ih (by simpa using h)];simp
theorem sameSs_no {l m:List ST} {n:Nat} (hn:n < l.length) (hn':n < m.length) (h:zcp l[n] m[n]=false):zaz l m=false:=by
 induction l generalizing m n with
 | nil=>simp at hn
 | cons X l ih =>
  cases m with
  | nil=>simp at hn'
  | cons U m =>
   cases n with
   | zero=>rw[zaz,show zcp X U=false from h];rfl
   | succ n=>rw[zaz,ih (m:=m) (n:=n) (by simpa using hn) (by simpa using hn') h];simp
theorem sameSs_take {l m:List ST} {n:Nat} (hn:n < l.length) (hn':n < m.length):zaz (l.take (n+1)) (m.take (n+1))=(zaz (l.take n) (m.take n)&&zcp l[n] m[n]):=by
 induction l generalizing m n with
 | nil=>simp at hn
 | cons X l ih =>
  cases m with
  | nil=>simp at hn'
  | cons U m =>
   cases n with
   | zero=>simp[zaz]
   | succ n =>
    have:=ih (m:=m) (n:=n) (by simpa using hn) (by simpa using hn')
    rw[List.take_succ_cons,List.take_succ_cons,zaz,this,List.take_succ_cons,List.take_succ_cons,zaz,Bool.and_assoc]
    rfl
theorem equal_exprs {w0:World} (a a':Option Addr) (c c':Nat) (l m:List ET) (hl:l.length≤9223372036854775807) (hm:m.length≤9223372036854775807) (hin:EsIn w0 0 a 0 l) (hin':EsIn w0 0 a' 0 m)
  (hf:∀(n:Nat) (hn:n < l.length) (hn':n < m.length) (w:World),Past w0 w→Calls Tryz.prog 57 #[l[n].val,m[n].val] w fun e w'=>e=.returned (.bool (zbF l[n] m[n]))∧Below w.heap.size w w') (w:World) (hp:Past w0 w):
  Calls Tryz.prog 56 #[.slice a l.length c,.slice a' m.length c',.func (.func 57) #[] #[]] w fun e w'=>e=.returned (.bool (zat l m))∧Below w.heap.size w w':=by
 have HF:=hid hf
 have HI:=hid hin
 have HI':=hid hin'
 have HP:=hid hp
 clear hf hin hin' hp
 by_cases hlen:l.length=m.length
 ·have hne:((l.length:Int) != (m.length:Int))=false:=by rw[hlen];simp
  have hlm:Hid (m.length=l.length):=hid hlen.symm
  have HLN:=hid hlen
  clear hlen
  go_enter Tryz.func56,Tryz.ntmps56
  go_wp2
  go_loopw [7,8,9,17] (fun _ _ _ i wr=>∃n:Nat,n≤l.length∧i=.int .i64 n∧Below w.heap.size w wr∧zat (l.take n) (m.take n)=true) (fun _ _ _ i _=>l.length - (intOf i).toNat)
  case atStart=>exact⟨0,Nat.zero_le _,rfl,Below.refl _ _,by simp[zat]⟩
  case round =>
   obtain⟨n,hn,rfl,hb,ht⟩:=hrel
   have HB:=hid hb
   have HT:=hid ht
   clear hb ht
   by_cases hlt:n < l.length
   ·have hlt':n < m.length:=by have:=hlm.out;omega
    obtain⟨hrow,-⟩:=HI.out.nth n hlt
    obtain⟨hrow2,-⟩:=HI'.out.nth n hlt'
    have hrow':=hrow
    have hrow2':=hrow2
    obtain⟨kb,ko,rfl,-⟩:=hrow'
    obtain⟨kb',ko',rfl,-⟩:=hrow2'
    rw[ET.cells_is,Nat.zero_add] at hrow hrow2
    obtain⟨r0,r1,r2,r3,r4,hkb⟩:=row_cells hrow (HP.out.on HB.out)
    obtain⟨s0,s1,s2,s3,s4,hkb2⟩:=row_cells hrow2 (HP.out.on HB.out)
    have hcall:=HF.out n hlt hlt'
    rw[ET.val_is,ET.val_is] at hcall
    have HC:=hid hcall
    clear hcall hrow hrow2
    cases hr:zbF l[n] m[n] with
    | false =>
     have HR:=hid (sameEs_no hlt hlt' hr)
     rw[hr] at HC
     clear hr
     go_wp2_with (go_at_call 57;have hx:=HC.out _ (((HP.out.on HB.out).alloc (.cells #[.int .i64 l[n].kind,.string l[n].op,.int .i64 l[n].n,.string l[n].name,.slice l[n].kaddr l[n].kids.length l[n].kcap] 72)).alloc (.cells #[.int .i64 m[n].kind,.string m[n].op,.int .i64 m[n].n,.string m[n].name,.slice m[n].kaddr m[n].kids.length m[n].kcap] 72));refine hx.mono ?_;clear hx;rintro e w2 ⟨rfl,hb2⟩;have HB2:=hid (zaE ((HB.out.alloc HB.out.size _).alloc (Nat.le_trans HB.out.size (by simp)) _) hb2);clear hb2)
     go_ret
     exact⟨by rw[HR.out];rfl,HB2.out⟩
    | true =>
     have HR:=hid (show zat (l.take (n+1)) (m.take (n+1))=true by rw[sameEs_take hlt hlt',HT.out,hr];rfl)
     rw[hr] at HC
     clear hr
     go_wp2_with (go_at_call 57;have hx:=HC.out _ (((HP.out.on HB.out).alloc (.cells #[.int .i64 l[n].kind,.string l[n].op,.int .i64 l[n].n,.string l[n].name,.slice l[n].kaddr l[n].kids.length l[n].kcap] 72)).alloc (.cells #[.int .i64 m[n].kind,.string m[n].op,.int .i64 m[n].n,.string m[n].name,.slice m[n].kaddr m[n].kids.length m[n].kcap] 72));refine hx.mono ?_;clear hx;rintro e w2 ⟨rfl,hb2⟩;have HB2:=hid (zaE ((HB.out.alloc HB.out.size _).alloc (Nat.le_trans HB.out.size (by simp)) _) hb2);clear hb2)
     go_round
     case rel=>exact⟨n+1,by omega,by go_num,HB2.out,HR.out⟩
     case measure=>simp[intOf];omega
   ·obtain rfl:n=l.length:=by omega
    have HT2:Hid (zat l m=true):=hid (by have:=HT.out;rw[List.take_length,HLN.out,List.take_length] at this;exact this)
    go_wp2
    go_ret
    exact⟨by rw[HT2.out];rfl,HB.out⟩
 ·have hne:((l.length:Int) != (m.length:Int))=true:=by simp;omega
  have HR:=hid (sameEs_len hlen)
  go_enter Tryz.func56,Tryz.ntmps56
  go_wp2_with fail
  go_ret
  exact⟨by rw[HR.out];rfl,Below.refl _ _⟩
theorem equal_stmts {w0:World} (a a':Option Addr) (c c':Nat) (l m:List ST) (hl:l.length≤9223372036854775807) (hm:m.length≤9223372036854775807) (hin:SsIn w0 0 a 0 l) (hin':SsIn w0 0 a' 0 m)
  (hf:∀(n:Nat) (hn:n < l.length) (hn':n < m.length) (w:World),Past w0 w→Calls Tryz.prog 50 #[l[n].val,m[n].val] w fun e w'=>e=.returned (.bool (zcp l[n] m[n]))∧Below w.heap.size w w') (w:World) (hp:Past w0 w):
  Calls Tryz.prog 49 #[.slice a l.length c,.slice a' m.length c',.func (.func 50) #[] #[]] w fun e w'=>e=.returned (.bool (zaz l m))∧Below w.heap.size w w':=by
 have HF:=hid hf
 have HI:=hid hin
 have HI':=hid hin'
 have HP:=hid hp
 clear hf hin hin' hp
 by_cases hlen:l.length=m.length
 ·have hne:((l.length:Int) != (m.length:Int))=false:=by rw[hlen];simp
  have hlm:Hid (m.length=l.length):=hid hlen.symm
  have HLN:=hid hlen
  clear hlen
  go_enter Tryz.func49,Tryz.ntmps49
  go_wp2
  go_loopw [7,8,9,17] (fun _ _ _ i wr=>∃n:Nat,n≤l.length∧i=.int .i64 n∧Below w.heap.size w wr∧zaz (l.take n) (m.take n)=true) (fun _ _ _ i _=>l.length - (intOf i).toNat)
  case atStart=>exact⟨0,Nat.zero_le _,rfl,Below.refl _ _,by simp[zaz]⟩
  case round =>
   obtain⟨n,hn,rfl,hb,ht⟩:=hrel
   have HB:=hid hb
   have HT:=hid ht
   clear hb ht
   by_cases hlt:n < l.length
   ·have hlt':n < m.length:=by have:=hlm.out;omega
    obtain⟨hrow,-⟩:=HI.out.nth n hlt
    obtain⟨hrow2,-⟩:=HI'.out.nth n hlt'
    have hrow':=hrow
    have hrow2':=hrow2
    obtain⟨kb,ko,rfl,-⟩:=hrow'
    obtain⟨kb',ko',rfl,-⟩:=hrow2'
    rw[ST.cells_eq,Nat.zero_add] at hrow hrow2
    obtain⟨r0,r1,r2,r3,r4,r5,r6,hkb⟩:=zdm hrow (HP.out.on HB.out)
    obtain⟨s0,s1,s2,s3,s4,s5,s6,hkb2⟩:=zdm hrow2 (HP.out.on HB.out)
    have hcall:=HF.out n hlt hlt'
    rw[ST.val_eq,ST.val_eq] at hcall
    have HC:=hid hcall
    clear hcall hrow hrow2
    cases hr:zcp l[n] m[n] with
    | false =>
     have HR:=hid (sameSs_no hlt hlt' hr)
     rw[hr] at HC
     clear hr
     go_wp2_with (go_at_call 50;have hx:=HC.out _ (((HP.out.on HB.out).alloc (.cells #[.int .i64 l[n].kind,.int .i64 l[n].tag,.string l[n].name,.string l[n].func,.slice l[n].ea l[n].en l[n].ec,.slice l[n].ba l[n].bn l[n].bc,.slice l[n].la l[n].ln l[n].lc] 61)).alloc (.cells #[.int .i64 m[n].kind,.int .i64 m[n].tag,.string m[n].name,.string m[n].func,.slice m[n].ea m[n].en m[n].ec,.slice m[n].ba m[n].bn m[n].bc,.slice m[n].la m[n].ln m[n].lc] 61));refine hx.mono ?_;clear hx;rintro e w2 ⟨rfl,hb2⟩;have HB2:=hid (zaE ((HB.out.alloc HB.out.size _).alloc (Nat.le_trans HB.out.size (by simp)) _) hb2);clear hb2)
     go_ret
     exact⟨by rw[HR.out];rfl,HB2.out⟩
    | true =>
     have HR:=hid (show zaz (l.take (n+1)) (m.take (n+1))=true by rw[sameSs_take hlt hlt',HT.out,hr];rfl)
     rw[hr] at HC
     clear hr
     go_wp2_with (go_at_call 50;have hx:=HC.out _ (((HP.out.on HB.out).alloc (.cells #[.int .i64 l[n].kind,.int .i64 l[n].tag,.string l[n].name,.string l[n].func,.slice l[n].ea l[n].en l[n].ec,.slice l[n].ba l[n].bn l[n].bc,.slice l[n].la l[n].ln l[n].lc] 61)).alloc (.cells #[.int .i64 m[n].kind,.int .i64 m[n].tag,.string m[n].name,.string m[n].func,.slice m[n].ea m[n].en m[n].ec,.slice m[n].ba m[n].bn m[n].bc,.slice m[n].la m[n].ln m[n].lc] 61));refine hx.mono ?_;clear hx;rintro e w2 ⟨rfl,hb2⟩;have HB2:=hid (zaE ((HB.out.alloc HB.out.size _).alloc (Nat.le_trans HB.out.size (by simp)) _) hb2);clear hb2)
     go_round
     case rel=>exact⟨n+1,by omega,by go_num,HB2.out,HR.out⟩
     case measure=>simp[intOf];omega
   ·obtain rfl:n=l.length:=by omega
    have HT2:Hid (zaz l m=true):=hid (by have:=HT.out;rw[List.take_length,HLN.out,List.take_length] at this;exact this)
    go_wp2
    go_ret
    exact⟨by rw[HT2.out];rfl,HB.out⟩
 ·have hne:((l.length:Int) != (m.length:Int))=true:=by simp;omega
  have HR:=hid (sameSs_len hlen)
  go_enter Tryz.func49,Tryz.ntmps49
  go_wp2_with fail
  go_ret
  exact⟨by rw[HR.out];rfl,Below.refl _ _⟩
end Go.Proofs.YtagnmppdhfmgdaaGreatDoor
namespace Go.Proofs.YtagnmppdhfmgdaaGreatDoor
open Go Go.RowKit
open Go.Lib (hid)
theorem sameE_core {w0:World} (k k':Int) (o o':ByteArray) (n n':Int) (m m':ByteArray) (a a':Option Addr) (x x' c c':Nat) (r5:Bool)
  (hA:∀W,Past w0 W→Calls Tryz.prog 56 #[.slice a x c,.slice a' x' c',.func (.func 57) #[] #[]] W fun e w'=>e=.returned (.bool r5)∧Below W.heap.size W w') (w:World) (hp:Past w0 w):
  Calls Tryz.prog 57 #[exV k o n m (.slice a x c),exV k' o' n' m' (.slice a' x' c')] w fun e w'=>e=.returned (.bool ((k==k')&&((o.toList==o'.toList)&&((n==n')&&((m.toList==m'.toList)&&(r5))))))∧Below w.heap.size w w':=by
 have HA:=hid hA
 have HP:=hid hp
 clear hA hp
 generalize hr:((k==k')&&((o.toList==o'.toList)&&((n==n')&&((m.toList==m'.toList)&&(r5)))))=r
 have key:(k==k')=false∧r=false∨(k==k')=true∧((o.toList==o'.toList)=false∧r=false∨(o.toList==o'.toList)=true∧((n==n')=false∧r=false∨(n==n')=true∧((m.toList==m'.toList)=false∧r=false∨(m.toList==m'.toList)=true∧(r=(r5))))):=by
  rw[←hr]
  cases (k==k')<;>cases (o.toList==o'.toList)<;>cases (n==n')<;>cases (m.toList==m'.toList)<;>simp
 clear hr
 rcases key with ⟨h1,rfl⟩ | ⟨h1,(⟨h2,rfl⟩ | ⟨h2,(⟨h3,rfl⟩ | ⟨h3,(⟨h4,rfl⟩ | ⟨h4,(rfl)⟩)⟩)⟩)⟩
 all_goals
  go_enter Tryz.func57,Tryz.ntmps57
  go_wp2_with (go_at_call 56;have hx:=HA.out _ ((HP.out.alloc (.cells #[.int .i64 k,.string o,.int .i64 n,.string m,.slice a x c] 72)).alloc (.cells #[.int .i64 k',.string o',.int .i64 n',.string m',.slice a' x' c'] 72));refine hx.mono ?_;clear hx;rintro e w2 ⟨rfl,hb2⟩;have HB2:=hid (zaE (((Below.refl _ _).alloc (Nat.le_refl _) _).alloc (by simp) _) hb2);clear hb2)
  go_ret
  exact⟨by simp,by first | exact HB2.out | exact((Below.refl _ _).alloc (Nat.le_refl _) _).alloc (by simp) _⟩
theorem sameE_any {w0:World}:∀(m:Nat) (T U:ET),T.sz≤m→T.In w0 0→U.In w0 0→∀w,Past w0 w→Calls Tryz.prog 57 #[T.val,U.val] w fun e w'=>e=.returned (.bool (zbF T U))∧Below w.heap.size w w':=by
 intro m
 induction m with
 | zero=>intro T U hm;obtain⟨k,o,n,m,a,c,l⟩:=T;simp[ET.sz] at hm
 | succ m ih =>
  intro T U hm hin hin' w hp
  obtain⟨k,o,n,m1,a,c,l⟩:=T
  obtain⟨k',o',n',m1',a',c',l'⟩:=U
  rw[ET.In] at hin hin'
  have:=sameE_core k k' o o' n n' m1 m1' a a' l.length l'.length c c' (zat l l') (fun W hW=>equal_exprs a a' c c' l l' hin.2.1 hin'.2.1 hin.2.2 hin'.2.2 (fun i hi hi' w hw=>ih l[i] l'[i] (by have:=szs_nth hi;simp[ET.sz] at hm;omega) (hin.2.2.nth i hi).2 (hin'.2.2.nth i hi').2 w hw) W hW) w hp
  rw[zbF]
  exact this
theorem equalEs_any {w0:World} (a a':Option Addr) (c c':Nat) (l l':List ET) (z:l.length≤9223372036854775807) (z':l'.length≤9223372036854775807) (hin:EsIn w0 0 a 0 l) (hin':EsIn w0 0 a' 0 l') (W:World) (hW:Past w0 W):
  Calls Tryz.prog 56 #[.slice a l.length c,.slice a' l'.length c',.func (.func 57) #[] #[]] W fun e w'=>e=.returned (.bool (zat l l'))∧Below W.heap.size W w':=
 equal_exprs a a' c c' l l' z z' hin hin' (fun i hi hi' w hw=>sameE_any _ l[i] l'[i] (Nat.le_refl _) (hin.nth i hi).2 (hin'.nth i hi').2 w hw) W hW
theorem sameS_core {w0:World} (k k' t t':Int) (n n' f f':ByteArray) (ea ea':Option Addr) (x x' c c':Nat) (ba ba':Option Addr) (b b' bc bc':Nat) (la la':Option Addr) (l l' lc lc':Nat) (r5 r6 r7:Bool)
  (hA:∀W,Past w0 W→Calls Tryz.prog 56 #[.slice ea x c,.slice ea' x' c',.func (.func 57) #[] #[]] W fun e w'=>e=.returned (.bool r5)∧Below W.heap.size W w')
  (hB:∀W,Past w0 W→Calls Tryz.prog 39 #[.slice ba b bc,.slice ba' b' bc'] W fun e w'=>e=.returned (.bool r6)∧Below W.heap.size W w')
  (hC:∀W,Past w0 W→Calls Tryz.prog 39 #[.slice la l lc,.slice la' l' lc'] W fun e w'=>e=.returned (.bool r7)∧Below W.heap.size W w') (w:World) (hp:Past w0 w):
  Calls Tryz.prog 50 #[.agg #[.int .i64 k,.int .i64 t,.string n,.string f,.slice ea x c,.slice ba b bc,.slice la l lc],.agg #[.int .i64 k',.int .i64 t',.string n',.string f',.slice ea' x' c',.slice ba' b' bc',.slice la' l' lc']] w fun e w'=>e=.returned (.bool ((k==k')&&((t==t')&&((n.toList==n'.toList)&&((f.toList==f'.toList)&&((r5)&&((r6)&&(r7))))))))∧Below w.heap.size w w':=by
 have HA:=hid hA
 have HB:=hid hB
 have HC:=hid hC
 have HP:=hid hp
 clear hA hB hC hp
 generalize hr:((k==k')&&((t==t')&&((n.toList==n'.toList)&&((f.toList==f'.toList)&&((r5)&&((r6)&&(r7)))))))=r
 have key:(k==k')=false∧r=false∨(k==k')=true∧((t==t')=false∧r=false∨(t==t')=true∧((n.toList==n'.toList)=false∧r=false∨(n.toList==n'.toList)=true∧((f.toList==f'.toList)=false∧r=false∨(f.toList==f'.toList)=true∧((r5)=false∧r=false∨(r5)=true∧((r6)=false∧r=false∨(r6)=true∧(r=(r7))))))):=by
  rw[←hr]
  cases (k==k')<;>cases (t==t')<;>cases (n.toList==n'.toList)<;>cases (f.toList==f'.toList)<;>cases r5<;>cases r6<;>simp
 clear hr
 rcases key with ⟨h1,rfl⟩ | ⟨h1,(⟨h2,rfl⟩ | ⟨h2,(⟨h3,rfl⟩ | ⟨h3,(⟨h4,rfl⟩ | ⟨h4,(⟨rfl,rfl⟩ | ⟨rfl,(⟨rfl,rfl⟩ | ⟨rfl,(rfl)⟩)⟩)⟩)⟩)⟩)⟩
 all_goals
  go_enter Tryz.func50,Tryz.ntmps50
  go_wp2_with (first
   | (go_at_call 39;have hx:=HC.out _ (HP.out.on B3.out);refine hx.mono ?_;clear hx;rintro e w4 ⟨rfl,hb4⟩;have B4:=hid (zaE B3.out hb4);clear hb4)
   | (go_at_call 39;have hx:=HB.out _ (HP.out.on B2.out);refine hx.mono ?_;clear hx;rintro e w3 ⟨rfl,hb3⟩;have B3:=hid (zaE B2.out hb3);have X31:=hid ((hb3.block w.heap.size (lt_of_block X21.out)).trans X21.out);have X32:=hid ((hb3.block (w.heap.size+1) (lt_of_block X22.out)).trans X22.out);obtain⟨p0,p1,p2,p3,p4,p5,p6⟩:=cells7 X31.out;obtain⟨q0,q1,q2,q3,q4,q5,q6⟩:=cells7 X32.out;clear hb3)
   | (go_at_call 56;have hx:=HA.out _ ((HP.out.alloc (.cells #[.int .i64 k,.int .i64 t,.string n,.string f,.slice ea x c,.slice ba b bc,.slice la l lc] 61)).alloc (.cells #[.int .i64 k',.int .i64 t',.string n',.string f',.slice ea' x' c',.slice ba' b' bc',.slice la' l' lc'] 61));refine hx.mono ?_;clear hx;rintro e w2 ⟨rfl,hb2⟩;have B2:=hid (zaE (((Below.refl _ _).alloc (Nat.le_refl _) _).alloc (by simp) _) hb2);have X21:=hid ((hb2.block w.heap.size (by simp;omega)).trans (zaf _ (zai w (.cells #[.int .i64 k,.int .i64 t,.string n,.string f,.slice ea x c,.slice ba b bc,.slice la l lc] 61))));have X22:=hid ((hb2.block (w.heap.size+1) (by simp)).trans (zal (.cells #[.int .i64 k',.int .i64 t',.string n',.string f',.slice ea' x' c',.slice ba' b' bc',.slice la' l' lc'] 61) (by simp)));obtain⟨c0,c1,c2,c3,c4,c5,c6⟩:=cells7 X21.out;obtain⟨d0,d1,d2,d3,d4,d5,d6⟩:=cells7 X22.out;clear hb2))
  go_ret
  exact⟨by simp,by first | exact B4.out | exact B3.out | exact B2.out | exact((Below.refl _ _).alloc (Nat.le_refl _) _).alloc (by simp) _⟩
def SameOk (w0:World) (l l':List ST):Prop:=∀(i:Nat) (hi:i < l.length) (hi':i < l'.length) (w:World),Past w0 w→Calls Tryz.prog 50 #[l[i].val,l'[i].val] w fun e w'=>e=.returned (.bool (zcp l[i] l'[i]))∧Below w.heap.size w w'
theorem zc5 {w0:World} (a a':Option Addr) (c c':Nat) (l l':List ST) (z:l.length≤9223372036854775807) (z':l'.length≤9223372036854775807) (hin:SsIn w0 0 a 0 l) (hin':SsIn w0 0 a' 0 l') (hs:SameOk w0 l l') (w:World) (hp:Past w0 w):
  Calls Tryz.prog 39 #[.slice a l.length c,.slice a' l'.length c'] w fun e w'=>e=.returned (.bool (zaz l l'))∧Below w.heap.size w w':=by
 have HH:=hid (equal_stmts a a' c c' l l' z z' hin hin' hs w hp)
 clear hin hin' hs hp
 go_enter Tryz.func39,Tryz.ntmps39
 go_wp2_with (go_at_call 49;refine HH.out.mono ?_;rintro e w1 ⟨rfl,hb⟩)
 go_ret
 exact⟨rfl,hb⟩
theorem sameS_any {w0:World}:∀(m:Nat) (S U:ST),S.sz≤m→S.In w0 0→U.In w0 0→∀w,Past w0 w→Calls Tryz.prog 50 #[S.val,U.val] w fun e w'=>e=.returned (.bool (zcp S U))∧Below w.heap.size w w':=by
 intro m
 induction m with
 | zero=>intro S U hm;obtain⟨k,t,n,f,ea,ec,e,ba,bc,b,la,lc,l⟩:=S;simp[ST.sz] at hm
 | succ m ih =>
  intro S U hm hin hin' w hp
  obtain⟨k,t,n,f,ea,ec,e,ba,bc,b,la,lc,l⟩:=S
  obtain⟨k',t',n',f',ea',ec',e',ba',bc',b',la',lc',l'⟩:=U
  rw[ST.In] at hin hin'
  obtain⟨-,⟨z1,z2,z3⟩,i1,i2,i3⟩:=hin
  obtain⟨-,⟨y1,y2,y3⟩,j1,j2,j3⟩:=hin'
  simp only[ST.sz] at hm
  have:=sameS_core k k' t t' n n' f f' ea ea' e.length e'.length ec ec' ba ba' b.length b'.length bc bc' la la' l.length l'.length lc lc' (zat e e') (zaz b b') (zaz l l')
   (fun W hW=>equalEs_any ea ea' ec ec' e e' z1 y1 i1 j1 W hW)
   (fun W hW=>zc5 ba ba' bc bc' b b' z2 y2 i2 j2 (fun i hi hi' w hw=>ih b[i] b'[i] (by have:=zdB hi;omega) (i2.nth i hi).2 (j2.nth i hi').2 w hw) W hW)
   (fun W hW=>zc5 la la' lc lc' l l' z3 y3 i3 j3 (fun i hi hi' w hw=>ih l[i] l'[i] (by have:=zdB hi;omega) (i3.nth i hi).2 (j3.nth i hi').2 w hw) W hW) w hp
  rw[zcp]
  exact this
theorem sameBlock_any {w0:World} (a a':Option Addr) (c c':Nat) (l l':List ST) (z:l.length≤9223372036854775807) (z':l'.length≤9223372036854775807) (hin:SsIn w0 0 a 0 l) (hin':SsIn w0 0 a' 0 l') (w:World) (hp:Past w0 w):
  Calls Tryz.prog 39 #[.slice a l.length c,.slice a' l'.length c'] w fun e w'=>e=.returned (.bool (zaz l l'))∧Below w.heap.size w w':=
 zc5 a a' c c' l l' z z' hin hin' (fun i hi hi' w hw=>sameS_any _ l[i] l'[i] (Nat.le_refl _) (hin.nth i hi).2 (hin'.nth i hi').2 w hw) w hp
theorem sameStmts_any {w0:World} (a a':Option Addr) (c c':Nat) (l l':List ST) (z:l.length≤9223372036854775807) (z':l'.length≤9223372036854775807) (hin:SsIn w0 0 a 0 l) (hin':SsIn w0 0 a' 0 l') (w:World) (hp:Past w0 w):
  Calls Tryz.prog 25 #[.slice a l.length c,.slice a' l'.length c'] w fun e w'=>e=.returned (.bool (zaz l l'))∧Below w.heap.size w w':=by
 have HH:=hid (sameBlock_any a a' c c' l l' z z' hin hin' w hp)
 clear hin hin' hp
 go_enter Tryz.func25,Tryz.ntmps25
 go_wp2_with (go_at_call 39;refine HH.out.mono ?_;rintro e w1 ⟨rfl,hb⟩)
 go_ret
 exact⟨rfl,hb⟩
end Go.Proofs.YtagnmppdhfmgdaaGreatDoor
namespace Go.Proofs.YtagnmppdhfmgdaaGreatDoor
open Go Go.RowKit
open Go.Lib (hid)
end Go.Proofs.YtagnmppdhfmgdaaGreatDoor
namespace Go.Proofs.YtagnmppdhfmgdaaGreatDoor
open Go Go.RowKit
open Go.Lib (hid)
theorem below_dN (w:World) (n:Nat):Below w.heap.size w (w.drewN n):=⟨rfl,rfl,rfl,Nat.le_refl _,fun _ _=>rfl⟩
end Go.Proofs.YtagnmppdhfmgdaaGreatDoor
namespace Go.Proofs.YtagnmppdhfmgdaaGreatDoor
open Go Go.RowKit
open Go.Lib (hid)
end Go.Proofs.YtagnmppdhfmgdaaGreatDoor
