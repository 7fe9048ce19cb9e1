/- What right asks of one expression. -/
import Derived.Test.YtljbbhhiiiepcaaGreatDoorTExpr4
set_option linter.unusedSimpArgs false
set_option linter.unusedVariables false
set_option maxHeartbeats 8000000
set_option maxRecDepth 100000
namespace Go.Proofs.YtljbbhhiiiepcaaGreatDoor
open Go Go.RowKit
open Go.Lib (hid)
abbrev exV (k:Int) (o:ByteArray) (n:Int) (m:ByteArray) (v:Value):Value:=.agg #[.int .i64 k,.string o,.int .i64 n,.string m,v]
theorem names_any (k:Int) (o:ByteArray) (n:Int) (m:ByteArray) (v:Value) (w:World):
  Calls Tryz.prog 199 #[.agg #[.int .i64 k,.string o,.int .i64 n,.string m,v]] w fun e w'=>e=.returned (.bool (zbo o n m))∧Below w.heap.size w w':=by
 have key:nmB m=false∧zbo o n m=false∨nmB m=true∧(o.toList.isEmpty=false∧zbo o n m=false∨o.toList.isEmpty=true∧((n==0)=false∧zbo o n m=false∨(n==0)=true∧zbo o n m=true)):=by
  unfold zbo
  cases nmB m<;>cases o.toList.isEmpty<;>cases (n==0)<;>simp
 generalize zbo o n m=r at key ⊢
 rcases key with ⟨h1,rfl⟩ | ⟨h1,(⟨h2,rfl⟩ | ⟨h2,(⟨h3,rfl⟩ | ⟨h3,rfl⟩)⟩)⟩
 all_goals
  go_enter Tryz.func199,Tryz.ntmps199
  go_wp2_with (go_at_call 70;refine(zbT _ _).mono ?_;rintro e w' ⟨rfl,rfl⟩;rw[h1])
  go_ret
  exact⟨by simp,(Below.refl _ _).alloc (Nat.le_refl _) _⟩
theorem reckons_any (k:Int) (o:ByteArray) (n:Int) (m:ByteArray) (v:Value) (w:World):
  Calls Tryz.prog 201 #[.agg #[.int .i64 k,.string o,.int .i64 n,.string m,v]] w fun e w'=>e=.returned (.bool (zcm n m))∧Below w.heap.size w w':=by
 have key:m.toList.isEmpty=false∧zcm n m=false∨m.toList.isEmpty=true∧((n==0)=false∧zcm n m=false∨(n==0)=true∧zcm n m=true):=by
  unfold zcm
  cases m.toList.isEmpty<;>cases (n==0)<;>simp
 generalize zcm n m=r at key ⊢
 rcases key with ⟨h2,rfl⟩ | ⟨h2,(⟨h3,rfl⟩ | ⟨h3,rfl⟩)⟩
 all_goals
  go_enter Tryz.func201,Tryz.ntmps201
  go_wp2_with fail
  go_ret
  exact⟨by simp,(Below.refl _ _).alloc (Nat.le_refl _) _⟩
theorem zcO (len j:Nat):((len:Int)==(j:Int))=(len==j):=by rw[Bool.eq_iff_iff,beq_iff_eq,beq_iff_eq];omega
def FormedPost (r:Bool) (w:World) (e:Ending) (w':World):Prop:=e=.returned (.bool r)∧Below w.heap.size w w'
theorem formed_num (o:ByteArray) (n:Int) (m:ByteArray) (a:Option Addr) (len c:Nat) (w:World):
  Calls Tryz.prog 161 #[exV 0 o n m (.slice a len c)] w (FormedPost (o.toList.isEmpty&&m.toList.isEmpty&&len==0) w):=by
 have e0:=zcO len 0
 generalize hr:(o.toList.isEmpty&&m.toList.isEmpty&&len==0)=r
 have key:o.toList.isEmpty=false∧r=false∨o.toList.isEmpty=true∧(m.toList.isEmpty=false∧r=false∨m.toList.isEmpty=true∧(((len:Int)==0)=false∧r=false∨((len:Int)==0)=true∧r=true)):=by
  rw[←hr,show((len:Int)==0)=(len==0) from e0]
  cases o.toList.isEmpty<;>cases m.toList.isEmpty<;>cases (len==0)<;>simp
 clear hr e0
 rcases key with ⟨h1,rfl⟩ | ⟨h1,(⟨h2,rfl⟩ | ⟨h2,(⟨h3,rfl⟩ | ⟨h3,rfl⟩)⟩)⟩
 all_goals
  go_enter Tryz.func161,Tryz.ntmps161
  go_wp2_with fail
  go_ret
  exact⟨by simp,(Below.refl _ _).alloc (Nat.le_refl _) _⟩
theorem formed_var (o:ByteArray) (n:Int) (m:ByteArray) (a:Option Addr) (len c:Nat) (w:World):
  Calls Tryz.prog 161 #[exV 1 o n m (.slice a len c)] w (FormedPost (zbo o n m&&len==0) w):=by
 have e0:=zcO len 0
 generalize hr:(zbo o n m&&len==0)=r
 have key:zbo o n m=false∧r=false∨zbo o n m=true∧(((len:Int)==0)=false∧r=false∨((len:Int)==0)=true∧r=true):=by
  rw[←hr,show((len:Int)==0)=(len==0) from e0]
  cases zbo o n m<;>cases (len==0)<;>simp
 clear hr e0
 rcases key with ⟨h2,rfl⟩ | ⟨h2,(⟨h3,rfl⟩ | ⟨h3,rfl⟩)⟩
 all_goals
  go_enter Tryz.func161,Tryz.ntmps161
  go_wp2_with (go_at_call 199;refine(names_any _ _ _ _ _ _).mono ?_;rintro e w' ⟨rfl,hb⟩;rw[h2])
  go_ret
  exact⟨by simp,((Below.refl _ _).alloc (Nat.le_refl _) _).trans (hb.mono (by simp))⟩
theorem formed_idx (o:ByteArray) (n:Int) (m:ByteArray) (a:Option Addr) (len c:Nat) (w:World):
  Calls Tryz.prog 161 #[exV 2 o n m (.slice a len c)] w (FormedPost (zbo o n m&&len==1) w):=by
 have e0:=zcO len 1
 generalize hr:(zbo o n m&&len==1)=r
 have key:zbo o n m=false∧r=false∨zbo o n m=true∧(((len:Int)==1)=false∧r=false∨((len:Int)==1)=true∧r=true):=by
  rw[←hr,show((len:Int)==1)=(len==1) from e0]
  cases zbo o n m<;>cases (len==1)<;>simp
 clear hr e0
 rcases key with ⟨h2,rfl⟩ | ⟨h2,(⟨h3,rfl⟩ | ⟨h3,rfl⟩)⟩
 all_goals
  go_enter Tryz.func161,Tryz.ntmps161
  go_wp2_with (go_at_call 199;refine(names_any _ _ _ _ _ _).mono ?_;rintro e w' ⟨rfl,hb⟩;rw[h2])
  go_ret
  exact⟨by simp,((Below.refl _ _).alloc (Nat.le_refl _) _).trans (hb.mono (by simp))⟩
theorem formed_un (o:ByteArray) (n:Int) (m:ByteArray) (a:Option Addr) (len c:Nat) (w:World):
  Calls Tryz.prog 161 #[exV 3 o n m (.slice a len c)] w (FormedPost (unB o&&zcm n m&&len==1) w):=by
 have e0:=zcO len 1
 generalize hr:(unB o&&zcm n m&&len==1)=r
 have key:unB o=false∧r=false∨unB o=true∧(zcm n m=false∧r=false∨zcm n m=true∧(((len:Int)==1)=false∧r=false∨((len:Int)==1)=true∧r=true)):=by
  rw[←hr,show((len:Int)==1)=(len==1) from e0]
  cases unB o<;>cases zcm n m<;>cases (len==1)<;>simp
 clear hr e0
 rcases key with ⟨h1,rfl⟩ | ⟨h1,(⟨h2,rfl⟩ | ⟨h2,(⟨h3,rfl⟩ | ⟨h3,rfl⟩)⟩)⟩
 ·go_enter Tryz.func161,Tryz.ntmps161
  go_wp2_with (go_at_call 200;refine(un_any _ _ (by decide) _).mono ?_;rintro e w1 ⟨rfl,hb⟩;rw[h1])
  go_ret
  exact⟨by simp,((Below.refl _ _).alloc (Nat.le_refl _) _).trans (hb.mono (by simp))⟩
 all_goals
  go_enter Tryz.func161,Tryz.ntmps161
  go_wp2_with (first
   | (go_at_call 200;refine(un_any _ _ (by decide) _).mono ?_;rintro e w1 ⟨rfl,hb⟩;rw[h1];obtain⟨c0,c1,c2,c3,c4⟩:=zbp ((hb.block w.heap.size (by simp)).trans (zaj _ _)))
   | (go_at_call 201;refine(reckons_any _ _ _ _ _ _).mono ?_;rintro e w2 ⟨rfl,hb2⟩;rw[h2]))
  go_ret
  exact⟨by simp,(((Below.refl _ _).alloc (Nat.le_refl _) _).trans (hb.mono (by simp))).trans (hb2.mono (by have:=hb.size;simp at this;omega))⟩
theorem formed_bin (o:ByteArray) (n:Int) (m:ByteArray) (a:Option Addr) (len c:Nat) (w:World):
  Calls Tryz.prog 161 #[exV 4 o n m (.slice a len c)] w (FormedPost (decide (0 < zar o)&&zcm n m&&len==2) w):=by
 have e0:=zcO len 2
 generalize hr:(decide (0 < zar o)&&zcm n m&&len==2)=r
 generalize hlv:zar o=lv at hr
 have HL:=hid hlv
 have key:decide (0 < lv)=false∧r=false∨decide (0 < lv)=true∧(zcm n m=false∧r=false∨zcm n m=true∧(((len:Int)==2)=false∧r=false∨((len:Int)==2)=true∧r=true)):=by
  rw[←hr,show((len:Int)==2)=(len==2) from e0]
  cases decide (0 < lv)<;>cases zcm n m<;>cases (len==2)<;>simp
 clear hr e0 hlv
 rcases key with ⟨h1,rfl⟩ | ⟨h1,(⟨h2,rfl⟩ | ⟨h2,(⟨h3,rfl⟩ | ⟨h3,rfl⟩)⟩)⟩
 ·go_enter Tryz.func161,Tryz.ntmps161
  go_wp2_with (go_at_call 202;refine(zcl _ _).mono ?_;rintro e w1 ⟨rfl,hb⟩;rw[HL.out])
  go_ret
  exact⟨by simp,((Below.refl _ _).alloc (Nat.le_refl _) _).trans (hb.mono (by simp))⟩
 all_goals
  go_enter Tryz.func161,Tryz.ntmps161
  go_wp2_with (first
   | (go_at_call 202;refine(zcl _ _).mono ?_;rintro e w1 ⟨rfl,hb⟩;rw[HL.out];obtain⟨c0,c1,c2,c3,c4⟩:=zbp ((hb.block w.heap.size (by simp)).trans (zaj _ _)))
   | (go_at_call 201;refine(reckons_any _ _ _ _ _ _).mono ?_;rintro e w2 ⟨rfl,hb2⟩;rw[h2]))
  go_ret
  exact⟨by simp,(((Below.refl _ _).alloc (Nat.le_refl _) _).trans (hb.mono (by simp))).trans (hb2.mono (by have:=hb.size;simp at this;omega))⟩
theorem formed_any (k:Int) (o:ByteArray) (n:Int) (m:ByteArray) (a:Option Addr) (len c:Nat) (w:World):
  Calls Tryz.prog 161 #[exV k o n m (.slice a len c)] w (FormedPost (zbt k o n m len) w):=by
 unfold zbt
 by_cases h0:k=0
 ·subst h0;rw[if_pos rfl];exact formed_num o n m a len c w
 rw[if_neg h0]
 by_cases h1:k=1
 ·subst h1;rw[if_pos rfl];exact formed_var o n m a len c w
 rw[if_neg h1]
 by_cases h2:k=2
 ·subst h2;rw[if_pos rfl];exact formed_idx o n m a len c w
 rw[if_neg h2]
 by_cases h3:k=3
 ·subst h3;rw[if_pos rfl];exact formed_un o n m a len c w
 rw[if_neg h3]
 by_cases h4:k=4
 ·subst h4;rw[if_pos rfl];exact formed_bin o n m a len c w
 rw[if_neg h4]
 go_enter Tryz.func161,Tryz.ntmps161
 go_wp2_with fail
 go_ret
 exact⟨by simp,(Below.refl _ _).alloc (Nat.le_refl _) _⟩
end Go.Proofs.YtljbbhhiiiepcaaGreatDoor
namespace Go.Proofs.YtljbbhhiiiepcaaGreatDoor
open Go Go.RowKit
open Go.Lib (hid)
theorem zan {w w1 w2:World} (h:Below w.heap.size w w1) (g:Below w1.heap.size w1 w2):Below w.heap.size w w2:=h.trans (g.mono h.size)
theorem rightEs_take {l:List ET} {n:Nat} (hn:n < l.length):zam (l.take (n+1))=(zam (l.take n)&&l[n].rightB):=by
 have main:∀(l m:List ET),zam (l++m)=(zam l&&zam m):=by
  intro l
  induction l with
  | nil=>intro m;simp[zam]
  | cons T l ih=>intro m;rw[List.cons_append,zam,zam,ih,Bool.and_assoc]
 rw[List.take_succ_eq_append_getElem hn,main];simp[zam]
theorem rightEs_false {l:List ET} {n:Nat} (hn:n < l.length) (h:l[n].rightB=false):zam l=false:=by
 induction l generalizing n with
 | nil=>simp at hn
 | cons T l ih =>
  cases n with
  | zero=>rw[zam,show T.rightB=false from h];rfl
  | succ n=>rw[zam,ih (n:=n) (by simpa using hn) h];simp
theorem all_exprs {w0:World} (a:Option Addr) (c:Nat) (l:List ET) (hl:l.length≤9223372036854775807) (hin:EsIn w0 0 a 0 l)
  (hf:∀(n:Nat) (hn:n < l.length) (w:World),Past w0 w→Calls Tryz.prog 111 #[l[n].val] w fun e w'=>e=.returned (.bool l[n].rightB)∧Below w.heap.size w w') (w:World) (hp:Past w0 w):
  Calls Tryz.prog 110 #[.slice a l.length c,.func (.func 111) #[] #[]] w fun e w'=>e=.returned (.bool (zam l))∧Below w.heap.size w w':=by
 have HF:=hid hf
 have HI:=hid hin
 have HP:=hid hp
 clear hf hin hp
 go_enter Tryz.func110,Tryz.ntmps110
 go_wp2
 go_loopw [6,9] (fun _ i wr=>∃n:Nat,n≤l.length∧i=.int .i64 n∧Below w.heap.size w wr∧zam (l.take n)=true) (fun _ i _=>l.length - (intOf i).toNat)
 case atStart=>exact⟨0,Nat.zero_le _,rfl,Below.refl _ _,rfl⟩
 case round =>
  obtain⟨n,hn,rfl,hb,ht⟩:=hrel
  have HB:=hid hb
  have HT:=hid ht
  clear hb ht
  by_cases hlt:n < l.length
  ·obtain⟨hrow,-⟩:=HI.out.nth n hlt
   have hrow':=hrow
   obtain⟨kb,ko,rfl,-⟩:=hrow'
   rw[ET.cells_is,Nat.zero_add] at hrow
   obtain⟨r0,r1,r2,r3,r4,hkb⟩:=za1 hrow (HP.out.on HB.out)
   have hcall:=HF.out n hlt
   rw[ET.val_is] at hcall
   have HC:=hid hcall
   clear hcall hrow
   cases hr:l[n].rightB with
   | false =>
    have HR:=hid (rightEs_false hlt hr)
    rw[hr] at HC
    clear hr
    go_wp2_with (go_at_call 111;have hx:=HC.out _ ((HP.out.on HB.out).alloc (.cells #[.int .i64 l[n].kind,.string l[n].op,.int .i64 l[n].n,.string l[n].name,.slice l[n].kaddr l[n].kids.length l[n].kcap] 68));refine hx.mono ?_;clear hx;rintro e w2 ⟨rfl,hb2⟩;have HB2:=hid (zan (HB.out.alloc HB.out.size _) hb2);clear hb2)
    go_ret
    exact⟨by rw[HR.out];rfl,HB2.out⟩
   | true =>
    have HR:=hid (show zam (l.take (n+1))=true by rw[rightEs_take hlt,HT.out,hr];rfl)
    rw[hr] at HC
    clear hr
    go_wp2_with (go_at_call 111;have hx:=HC.out _ ((HP.out.on HB.out).alloc (.cells #[.int .i64 l[n].kind,.string l[n].op,.int .i64 l[n].n,.string l[n].name,.slice l[n].kaddr l[n].kids.length l[n].kcap] 68));refine hx.mono ?_;clear hx;rintro e w2 ⟨rfl,hb2⟩;have HB2:=hid (zan (HB.out.alloc HB.out.size _) hb2);clear hb2)
    go_round
    case rel=>exact⟨n+1,by omega,by go_num,HB2.out,HR.out⟩
    case measure=>simp[intOf];omega
  ·obtain rfl:n=l.length:=by omega
   rw[List.take_length] at HT
   go_wp2
   go_ret
   exact⟨by rw[HT.out];rfl,HB.out⟩
def RightOk (w0:World) (T:ET):Prop:=∀w,Past w0 w→Calls Tryz.prog 111 #[T.val] w fun e w'=>e=.returned (.bool T.rightB)∧Below w.heap.size w w'
theorem szs_nth:∀{l:List ET} {n:Nat} (hn:n < l.length),l[n].sz≤szs l
 | T :: l,0,_=>by simp[szs]
 | T :: l,n+1,h=>by
  have:=szs_nth (l:=l) (n:=n) (by simpa using h)
  simp only[szs,List.getElem_cons_succ]
  omega
theorem right_any {w0:World}:∀(m:Nat) (T:ET),T.sz≤m→T.In w0 0→RightOk w0 T:=by
 intro m
 induction m with
 | zero=>intro T hm;obtain⟨k,o,n,m,a,c,l⟩:=T;simp[ET.sz] at hm
 | succ m ih =>
  intro T hm hin w hp
  obtain⟨k,o,n,m',a,c,l⟩:=T
  rw[ET.In] at hin
  have hall:∀W,Past w0 W→Calls Tryz.prog 110 #[.slice a l.length c,.func (.func 111) #[] #[]] W fun e w'=>e=.returned (.bool (zam l))∧Below W.heap.size W w':=
   fun W hW=>all_exprs a c l hin.2.1 hin.2.2 (fun n hn w hw=>ih l[n] (by have:=szs_nth hn;simp[ET.sz] at hm;omega) (hin.2.2.nth n hn).2 w hw) W hW
  have HA:=hid hall
  have HP:=hid hp
  have e1:(ET.mk k o n m' a c l).rightB=(zbt k o n m' l.length&&zam l):=by rw[ET.rightB]
  rw[e1]
  show Calls Tryz.prog 111 #[exV k o n m' (.slice a l.length c)] w _
  have HF:=hid (fun W=>formed_any k o n m' a l.length c W)
  generalize zbt k o n m' l.length=r1 at HF
  generalize zam l=r2 at HA
  clear hall hin hm ih hp e1
  cases r1 with
  | false =>
   go_enter Tryz.func111,Tryz.ntmps111
   go_wp2_with (go_at_call 161;refine(HF.out _).mono ?_;rintro e w1 ⟨rfl,hb⟩)
   go_ret
   exact⟨by simp,zan ((Below.refl _ _).alloc (Nat.le_refl _) _) hb⟩
  | true =>
   go_enter Tryz.func111,Tryz.ntmps111
   go_wp2_with (first
    | (go_at_call 161;refine(HF.out _).mono ?_;rintro e w1 ⟨rfl,hb⟩;obtain⟨c0,c1,c2,c3,c4⟩:=zbp ((hb.block w.heap.size (by simp)).trans (zaj _ _));have HB:=hid (zan ((Below.refl _ _).alloc (Nat.le_refl _) _) hb);clear hb)
    | (go_at_call 110;refine(HA.out _ (HP.out.on HB.out)).mono ?_;rintro e w2 ⟨rfl,hb2⟩))
   go_ret
   exact⟨by simp,zan HB.out hb2⟩
end Go.Proofs.YtljbbhhiiiepcaaGreatDoor
