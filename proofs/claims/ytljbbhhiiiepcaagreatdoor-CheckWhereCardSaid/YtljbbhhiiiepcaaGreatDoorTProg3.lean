/- Functions and programs as they lie in memory; what right asks of them. -/
import Derived.Test.YtljbbhhiiiepcaaGreatDoorTStW4
set_option linter.unusedSimpArgs false
set_option linter.unusedVariables false
set_option maxHeartbeats 8000000
set_option maxRecDepth 100000
namespace Go.Proofs.YtljbbhhiiiepcaaGreatDoor
open Go Go.RowKit
open Go.Lib (hid)
structure FT where
 name:ByteArray
 pa:Option Addr
 pc:Nat
 params:List ByteArray
 va:Option Addr
 vc:Nat
 vars:List (ByteArray×Int)
 ba:Option Addr
 bc:Nat
 body:List ST
def FT.cells (F:FT):Array Value:=#[.string F.name,.slice F.pa F.params.length F.pc,.slice F.va F.vars.length F.vc,.slice F.ba F.body.length F.bc]
abbrev FT.val (F:FT):Value:=.agg F.cells
def StrAt (w:World) (B:Nat) (a:Option Addr) (i:Nat) (s:ByteArray):Prop:=∃b o,a=some ⟨b,o,none⟩∧B≤b∧w.cell? ⟨b,o+i,none⟩=some (.string s)
structure FT.In (w:World) (B:Nat) (F:FT):Prop where
 pl:F.params.length≤9223372036854775807
 vl:F.vars.length≤9223372036854775807
 bl:F.body.length≤9223372036854775807
 ps:∀(i:Nat) (h:i < F.params.length),StrAt w B F.pa i F.params[i]
 vs:∀(i:Nat) (h:i < F.vars.length),RowAt w B F.va i 2 #[.string F.vars[i].1,.int .i64 F.vars[i].2]
 vr:∀(i:Nat) (h:i < F.vars.length),-9223372036854775808≤F.vars[i].2∧F.vars[i].2≤9223372036854775807
 ss:SsIn w B F.ba 0 F.body
structure FsIn (w:World) (B:Nat) (a:Option Addr) (l:List FT):Prop where
 len:l.length≤9223372036854775807
 row:∀(i:Nat) (h:i < l.length),RowAt w B a i 4 l[i].cells
 fs:∀(i:Nat) (h:i < l.length),l[i].In w B
theorem StrAt.keep {w w':World} {B:Nat} {a:Option Addr} {i:Nat} {s:ByteArray} (h:StrAt w B a i s) (hk:∀p v,B≤p.block→w.cell? p=some v→w'.cell? p=some v):StrAt w' B a i s:=by
 obtain⟨b,o,e,hB,hc⟩:=h
 exact⟨b,o,e,hB,hk _ _ hB hc⟩
theorem StrAt.mono {w:World} {B B':Nat} {a:Option Addr} {i:Nat} {s:ByteArray} (h:StrAt w B a i s) (hB:B'≤B):StrAt w B' a i s:=by
 obtain⟨b,o,e,h1,hc⟩:=h
 exact⟨b,o,e,Nat.le_trans hB h1,hc⟩
theorem FT.In.keep {w w':World} {B:Nat} {F:FT} (h:F.In w B) (hk:∀p v,B≤p.block→w.cell? p=some v→w'.cell? p=some v):F.In w' B:=
 ⟨h.pl,h.vl,h.bl,fun i hi=>(h.ps i hi).keep hk,fun i hi=>(h.vs i hi).keep hk,h.vr,h.ss.keep hk⟩
theorem FT.In.mono {w:World} {B B':Nat} {F:FT} (h:F.In w B) (hB:B'≤B):F.In w B':=
 ⟨h.pl,h.vl,h.bl,fun i hi=>(h.ps i hi).mono hB,fun i hi=>(h.vs i hi).mono hB,h.vr,h.ss.mono hB⟩
theorem FsIn.keep {w w':World} {B:Nat} {a:Option Addr} {l:List FT} (h:FsIn w B a l) (hk:∀p v,B≤p.block→w.cell? p=some v→w'.cell? p=some v):FsIn w' B a l:=
 ⟨h.len,fun i hi=>(h.row i hi).keep hk,fun i hi=>(h.fs i hi).keep hk⟩
theorem FsIn.mono {w:World} {B B':Nat} {a:Option Addr} {l:List FT} (h:FsIn w B a l) (hB:B'≤B):FsIn w B' a l:=
 ⟨h.len,fun i hi=>(h.row i hi).mono hB,fun i hi=>(h.fs i hi).mono hB⟩
theorem FsIn.on {w w':World} {B:Nat} {a:Option Addr} {l:List FT} (h:FsIn w B a l) (hb:Below w.heap.size w w'):FsIn w' B a l:=h.keep (zaP hb)
def zcC (d:ByteArray×Int):Bool:=nmB d.1&&decide (0≤d.2)
def FT.rightB (F:FT):Bool:=nmB F.name&&(F.params.all nmB&&(F.vars.all zcC&&zak F.body))
def FT.rf (F:FT):RF:={name:=F.name.data.toList,params:=F.params.map fun s=>s.data.toList,vars:=F.vars.map fun d=>(d.1.data.toList,d.2.toNat),body:=rss F.body}
theorem all_take {α:Type} (p:α→Bool) {l:List α} {n:Nat} (hn:n < l.length):(l.take (n+1)).all p=((l.take n).all p&&p l[n]):=by
 rw[List.take_succ_eq_append_getElem hn,List.all_append];simp
theorem all_false {α:Type} (p:α→Bool) {l:List α} {n:Nat} (hn:n < l.length) (h:p l[n]=false):l.all p=false:=by
 cases hr:l.all p with
 | false=>rfl
 | true=>rw[List.all_eq_true] at hr;have:=hr _ (List.getElem_mem hn);rw[h] at this;cases this
theorem all_names {w0:World} (a:Option Addr) (c:Nat) (l:List ByteArray) (hl:l.length≤9223372036854775807) (hin:∀(i:Nat) (h:i < l.length),StrAt w0 0 a i l[i]) (w:World) (hp:Past w0 w):
  Calls Tryz.prog 71 #[.slice a l.length c,.func (.func 70) #[] #[]] w fun e w'=>e=.returned (.bool (l.all nmB))∧Below w.heap.size w w':=by
 have HI:=hid hin
 have HP:=hid hp
 clear hin hp
 go_enter Tryz.func71,Tryz.ntmps71
 go_wp2
 go_loopw [6,9] (fun _ i wr=>∃n:Nat,n≤l.length∧i=.int .i64 n∧wr=w∧(l.take n).all nmB=true) (fun _ i _=>l.length - (intOf i).toNat)
 case atStart=>exact⟨0,Nat.zero_le _,rfl,rfl,rfl⟩
 case round =>
  obtain⟨n,hn,rfl,rfl,ht⟩:=hrel
  have HT:=hid ht
  clear ht
  by_cases hlt:n < l.length
  ·obtain⟨kb,ko,rfl,-,hc0⟩:=HI.out n hlt
   have hc:=zaP HP.out (B:=0) _ _ (Nat.zero_le _) hc0
   have hkb:=zdl hc
   clear hc0
   cases hr:nmB l[n] with
   | false =>
    have HR:=hid (all_false nmB hlt hr)
    have HN:=hid hr
    clear hr
    go_wp2_with (go_at_call 70;refine(zbT _ _).mono ?_;rintro e w2 ⟨rfl,rfl⟩;rw[HN.out])
    go_ret
    exact⟨by rw[HR.out];rfl,Below.refl _ _⟩
   | true =>
    have HR:=hid (show(l.take (n+1)).all nmB=true by rw[all_take _ hlt,HT.out,hr];rfl)
    have HN:=hid hr
    clear hr
    go_wp2_with (go_at_call 70;refine(zbT _ _).mono ?_;rintro e w2 ⟨rfl,rfl⟩;rw[HN.out])
    go_round
    case rel=>exact⟨n+1,by omega,by go_num,by first | rfl | trivial,HR.out⟩
    case measure=>simp[intOf];omega
  ·obtain rfl:n=l.length:=by omega
   rw[List.take_length] at HT
   go_wp2
   go_ret
   exact⟨by rw[HT.out];rfl,Below.refl _ _⟩
theorem cells2 {w:World} {b:Nat} {t:TypeId} {fr:Nat×Nat} {v0 v1:Value} (h:w.heap[b]?=some (.cells #[v0,v1] t fr)):w.cell? ⟨b,0,none⟩=some v0∧w.cell? ⟨b,1,none⟩=some v1:=⟨zab h rfl,zab h rfl⟩
theorem zcP {w0 w:World} {B b o i:Nat} {v0 v1:Value} (h:RowAt w0 B (some ⟨b,o,none⟩) i 2 #[v0,v1]) (hp:Past w0 w):w.cell? ⟨b,o+i*2,none⟩=some v0∧w.cell? ⟨b,o+i*2+1,none⟩=some v1∧b < w.heap.size:=by
 obtain⟨b',o',e,-,hc⟩:=h
 simp only[Option.some.injEq,Addr.mk.injEq,and_true] at e
 obtain⟨rfl,rfl⟩:=e
 have k:=zaP hp (B:=0)
 have h0:=k _ _ (Nat.zero_le _) (hc 0 v0 rfl)
 exact⟨h0,k _ _ (Nat.zero_le _) (hc 1 v1 rfl),zdl h0⟩
theorem decl_right (n:ByteArray) (s:Int) (w:World):
  Calls Tryz.prog 73 #[.agg #[.string n,.int .i64 s]] w fun e w'=>e=.returned (.bool (zcC (n,s)))∧Below w.heap.size w w':=by
 have key:nmB n=false∧zcC (n,s)=false∨nmB n=true∧decide (0≤s)=zcC (n,s):=by
  unfold zcC
  cases nmB n<;>simp
 generalize zcC (n,s)=r at key ⊢
 rcases key with ⟨h1,rfl⟩ | ⟨h1,h2⟩
 all_goals
  go_enter Tryz.func73,Tryz.ntmps73
  go_wp2_with (go_at_call 70;refine(zbT _ _).mono ?_;rintro e w' ⟨rfl,rfl⟩;rw[h1])
  go_ret
  exact⟨by simp,(Below.refl _ _).alloc (Nat.le_refl _) _⟩
theorem all_decls {w0:World} (a:Option Addr) (c:Nat) (l:List (ByteArray×Int)) (hl:l.length≤9223372036854775807) (hin:∀(i:Nat) (h:i < l.length),RowAt w0 0 a i 2 #[.string l[i].1,.int .i64 l[i].2]) (w:World) (hp:Past w0 w):
  Calls Tryz.prog 72 #[.slice a l.length c,.func (.func 73) #[] #[]] w fun e w'=>e=.returned (.bool (l.all zcC))∧Below w.heap.size w w':=by
 have HI:=hid hin
 have HP:=hid hp
 clear hin hp
 go_enter Tryz.func72,Tryz.ntmps72
 go_wp2
 go_loopw [6,9] (fun _ i wr=>∃n:Nat,n≤l.length∧i=.int .i64 n∧Below w.heap.size w wr∧(l.take n).all zcC=true) (fun _ i _=>l.length - (intOf i).toNat)
 case atStart=>exact⟨0,Nat.zero_le _,rfl,Below.refl _ _,rfl⟩
 case round =>
  obtain⟨n,hn,rfl,hb,ht⟩:=hrel
  have HB:=hid hb
  have HT:=hid ht
  clear hb ht
  by_cases hlt:n < l.length
  ·have hrow:=HI.out n hlt
   have hrow':=hrow
   obtain⟨kb,ko,rfl,-⟩:=hrow'
   obtain⟨r0,r1,hkb⟩:=zcP hrow (HP.out.on HB.out)
   clear hrow
   cases hr:zcC l[n] with
   | false =>
    have HR:=hid (all_false zcC hlt hr)
    have HN:=hid (show zcC (l[n].1,l[n].2)=false from hr)
    clear hr
    go_wp2_with (go_at_call 73;refine(decl_right _ _ _).mono ?_;rintro e w2 ⟨rfl,hb2⟩;rw[HN.out];have HB2:=hid (zan (HB.out.alloc HB.out.size _) hb2);clear hb2)
    go_ret
    exact⟨by rw[HR.out];rfl,HB2.out⟩
   | true =>
    have HR:=hid (show(l.take (n+1)).all zcC=true by rw[all_take _ hlt,HT.out,hr];rfl)
    have HN:=hid (show zcC (l[n].1,l[n].2)=true from hr)
    clear hr
    go_wp2_with (go_at_call 73;refine(decl_right _ _ _).mono ?_;rintro e w2 ⟨rfl,hb2⟩;rw[HN.out];have HB2:=hid (zan (HB.out.alloc HB.out.size _) hb2);clear hb2)
    go_round
    case rel=>exact⟨n+1,by omega,by go_num,HB2.out,HR.out⟩
    case measure=>simp[intOf];omega
  ·obtain rfl:n=l.length:=by omega
   rw[List.take_length] at HT
   go_wp2
   go_ret
   exact⟨by rw[HT.out];rfl,HB.out⟩
end Go.Proofs.YtljbbhhiiiepcaaGreatDoor
namespace Go.Proofs.YtljbbhhiiiepcaaGreatDoor
open Go Go.RowKit
open Go.Lib (hid)
theorem zea {w:World} {b:Nat} {t:TypeId} {fr:Nat×Nat} {v0 v1 v2 v3:Value} (h:w.heap[b]?=some (.cells #[v0,v1,v2,v3] t fr)):
  w.cell? ⟨b,0,none⟩=some v0∧w.cell? ⟨b,1,none⟩=some v1∧w.cell? ⟨b,2,none⟩=some v2∧w.cell? ⟨b,3,none⟩=some v3:=
 ⟨zab h rfl,zab h rfl,zab h rfl,zab h rfl⟩
structure Cells4 (w:World) (b o:Nat) (v0 v1 v2 v3:Value):Prop where
 c0:w.cell? ⟨b,o,none⟩=some v0
 c1:w.cell? ⟨b,o+1,none⟩=some v1
 c2:w.cell? ⟨b,o+2,none⟩=some v2
 c3:w.cell? ⟨b,o+3,none⟩=some v3
 lt:b < w.heap.size
theorem zbk {w0 w:World} {B b o i:Nat} {v0 v1 v2 v3:Value} (h:RowAt w0 B (some ⟨b,o,none⟩) i 4 #[v0,v1,v2,v3]) (hp:Past w0 w):Cells4 w b (o+i*4) v0 v1 v2 v3:=by
 obtain⟨b',o',e,-,hc⟩:=h
 simp only[Option.some.injEq,Addr.mk.injEq,and_true] at e
 obtain⟨rfl,rfl⟩:=e
 have k:=zaP hp (B:=0)
 have h0:=k _ _ (Nat.zero_le _) (hc 0 v0 rfl)
 exact⟨h0,k _ _ (Nat.zero_le _) (hc 1 v1 rfl),k _ _ (Nat.zero_le _) (hc 2 v2 rfl),k _ _ (Nat.zero_le _) (hc 3 v3 rfl),zdl h0⟩
theorem funcRight_any {w0:World} (F:FT) (hin:F.In w0 0) (w:World) (hp:Past w0 w):
  Calls Tryz.prog 50 #[F.val] w fun e w'=>e=.returned (.bool F.rightB)∧Below w.heap.size w w':=by
 have HN:=hid (fun W hW=>all_names (w0:=w0) F.pa F.pc F.params hin.pl hin.ps W hW)
 have HD:=hid (fun W hW=>all_decls (w0:=w0) F.va F.vc F.vars hin.vl hin.vs W hW)
 have HS:=hid (fun W hW=>all_stmts (w0:=w0) F.ba F.bc F.body hin.bl hin.ss (fun n hn w hw=>rightS_any _ F.body[n] (Nat.le_refl _) (hin.ss.nth n hn).2 w hw) W hW)
 have HP:=hid hp
 unfold FT.rightB
 show Calls Tryz.prog 50 #[.agg #[.string F.name,.slice F.pa F.params.length F.pc,.slice F.va F.vars.length F.vc,.slice F.ba F.body.length F.bc]] w _
 generalize F.params.all nmB=r2 at HN
 generalize F.vars.all zcC=r3 at HD
 generalize zak F.body=r4 at HS
 generalize hr:(nmB F.name&&(r2&&(r3&&r4)))=r
 have key:nmB F.name=false∧r=false∨nmB F.name=true∧(r2=false∧r=false∨r2=true∧(r3=false∧r=false∨r3=true∧r4=r)):=by
  rw[←hr]
  cases nmB F.name<;>cases r2<;>cases r3<;>simp
 clear hr hin hp
 rcases key with ⟨h1,rfl⟩ | ⟨h1,(⟨rfl,rfl⟩ | ⟨rfl,(⟨rfl,rfl⟩ | ⟨rfl,rfl⟩)⟩)⟩
 all_goals
  go_enter Tryz.func50,Tryz.ntmps50
  go_wp2_with (first
   | (go_at_call 74;have hx:=HS.out _ (HP.out.on B3.out);refine hx.mono ?_;clear hx;rintro e w4 ⟨rfl,hb4⟩;have B4:=hid (zan B3.out hb4);clear hb4)
   | (go_at_call 72;have hx:=HD.out _ (HP.out.on B2.out);refine hx.mono ?_;clear hx;rintro e w3 ⟨rfl,hb3⟩;have B3:=hid (zan B2.out hb3);obtain⟨p0,p1,p2,p3⟩:=zea ((hb3.block w.heap.size (lt_of_block X2.out)).trans X2.out);clear hb3)
   | (go_at_call 71;have hx:=HN.out _ (HP.out.alloc (.cells #[.string F.name,.slice F.pa F.params.length F.pc,.slice F.va F.vars.length F.vc,.slice F.ba F.body.length F.bc] 47));refine hx.mono ?_;clear hx;rintro e w2 ⟨rfl,hb2⟩;have B2:=hid (zan ((Below.refl _ _).alloc (Nat.le_refl _) _) hb2);have X2:=hid ((hb2.block w.heap.size (by simp)).trans (zaj w _));obtain⟨c0,c1,c2,c3⟩:=zea X2.out;clear hb2)
   | (go_at_call 70;refine(zbT _ _).mono ?_;rintro e w' ⟨rfl,rfl⟩;rw[h1]))
  go_ret
  exact⟨by simp,by first | exact B4.out | exact B3.out | exact B2.out | exact(Below.refl _ _).alloc (Nat.le_refl _) _⟩
theorem all_funcs {w0:World} (a:Option Addr) (c:Nat) (l:List FT) (hin:FsIn w0 0 a l) (w:World) (hp:Past w0 w):
  Calls Tryz.prog 49 #[.slice a l.length c,.func (.func 50) #[] #[]] w fun e w'=>e=.returned (.bool (l.all FT.rightB))∧Below w.heap.size w w':=by
 have hl:=hin.len
 have HI:=hid hin
 have HP:=hid hp
 clear hin hp
 go_enter Tryz.func49,Tryz.ntmps49
 go_wp2
 go_loopw [6,9] (fun _ i wr=>∃n:Nat,n≤l.length∧i=.int .i64 n∧Below w.heap.size w wr∧(l.take n).all FT.rightB=true) (fun _ i _=>l.length - (intOf i).toNat)
 case atStart=>exact⟨0,Nat.zero_le _,rfl,Below.refl _ _,rfl⟩
 case round =>
  obtain⟨n,hn,rfl,hb,ht⟩:=hrel
  have HB:=hid hb
  have HT:=hid ht
  clear hb ht
  by_cases hlt:n < l.length
  ·have hrow:=HI.out.row n hlt
   have hrow':=hrow
   obtain⟨kb,ko,rfl,-⟩:=hrow'
   unfold FT.cells at hrow
   obtain⟨r0,r1,r2,r3,hkb⟩:=zbk hrow (HP.out.on HB.out)
   have hcall:∀W,Past w0 W→Calls Tryz.prog 50 #[.agg #[.string l[n].name,.slice l[n].pa l[n].params.length l[n].pc,.slice l[n].va l[n].vars.length l[n].vc,.slice l[n].ba l[n].body.length l[n].bc]] W fun e w'=>e=.returned (.bool l[n].rightB)∧Below W.heap.size W w':=fun W hW=>funcRight_any l[n] (HI.out.fs n hlt) W hW
   have HC:=hid hcall
   clear hcall hrow
   cases hr:l[n].rightB with
   | false =>
    have HR:=hid (all_false FT.rightB hlt hr)
    rw[hr] at HC
    clear hr
    go_wp2_with (go_at_call 50;have hx:=HC.out _ ((HP.out.on HB.out).alloc (.cells #[.string l[n].name,.slice l[n].pa l[n].params.length l[n].pc,.slice l[n].va l[n].vars.length l[n].vc,.slice l[n].ba l[n].body.length l[n].bc] 47));refine hx.mono ?_;clear hx;rintro e w2 ⟨rfl,hb2⟩;have HB2:=hid (zan (HB.out.alloc HB.out.size _) hb2);clear hb2)
    go_ret
    exact⟨by rw[HR.out];rfl,HB2.out⟩
   | true =>
    have HR:=hid (show(l.take (n+1)).all FT.rightB=true by rw[all_take _ hlt,HT.out,hr];rfl)
    rw[hr] at HC
    clear hr
    go_wp2_with (go_at_call 50;have hx:=HC.out _ ((HP.out.on HB.out).alloc (.cells #[.string l[n].name,.slice l[n].pa l[n].params.length l[n].pc,.slice l[n].va l[n].vars.length l[n].vc,.slice l[n].ba l[n].body.length l[n].bc] 47));refine hx.mono ?_;clear hx;rintro e w2 ⟨rfl,hb2⟩;have HB2:=hid (zan (HB.out.alloc HB.out.size _) hb2);clear hb2)
    go_round
    case rel=>exact⟨n+1,by omega,by go_num,HB2.out,HR.out⟩
    case measure=>simp[intOf];omega
  ·obtain rfl:n=l.length:=by omega
   rw[List.take_length] at HT
   go_wp2
   go_ret
   exact⟨by rw[HT.out];rfl,HB.out⟩
theorem rightP_any {w0:World} (a:Option Addr) (c:Nat) (l:List FT) (hin:FsIn w0 0 a l) (w:World) (hp:Past w0 w):
  Calls Tryz.prog 22 #[.agg #[.slice a l.length c]] w fun e w'=>e=.returned (.bool (l.all FT.rightB))∧Below w.heap.size w w':=by
 have HH:=hid (fun W hW=>all_funcs (w0:=w0) a c l hin W hW)
 have HP:=hid hp
 clear hin hp
 go_enter Tryz.func22,Tryz.ntmps22
 go_wp2_with (go_at_call 49;have hx:=HH.out _ (HP.out.alloc (.cells #[.slice a l.length c] 24));refine hx.mono ?_;clear hx;rintro e w1 ⟨rfl,hb⟩)
 go_ret
 exact⟨rfl,zan ((Below.refl _ _).alloc (Nat.le_refl _) _) hb⟩
end Go.Proofs.YtljbbhhiiiepcaaGreatDoor
namespace Go.Proofs.YtljbbhhiiiepcaaGreatDoor
open Go Go.RowKit
open Go.Lib (hid)
theorem commas_map {α β γ:Type} (c:List γ) (f:β→List γ) (g:α→β) (l:List α):zay c f (l.map g)=zay c (fun a=>f (g a)) l:=by
 induction l with
 | nil=>rfl
 | cons a l ih =>
  cases l with
  | nil=>rfl
  | cons b l =>
   simp only[List.map_cons] at ih ⊢
   rw[zcg,zcg,ih]
def nmT (s:ByteArray):List UInt8:=s.data.toList
def dcT (d:ByteArray×Int):List UInt8:=putD (d.1.data.toList,d.2.toNat)
theorem wname_any {B b:Nat} {bs:List UInt8} {k:Int} {w:World} (h:Wr B b bs k w) (s:ByteArray) (hlen:bs.length+(nmT s).length≤140737488355328):
  Calls Tryz.prog 126 #[ptrW b,.string s] w fun e w'=>e=.returned (.tuple #[])∧Went B b (bs++nmT s) k w w':=by
 have L1:Hid (bs.length+(catB [s]).length≤140737488355328):=hid (by rw[za7];exact hlen)
 have HW:=hid h
 clear h hlen
 go_enter Tryz.func126,Tryz.ntmps126
 go_wp2_with (go_at_call 124;have hx:=zaF (HW.out.alloc (.cells #[.string s] 9)) w.heap.size 1 [s] _ (zaj _ _) rfl (by simp) L1.out;refine hx.mono ?_;clear hx;rintro e w1 ⟨rfl,g1⟩;have G1:=hid ((HW.out.went.alloc _).trans g1);clear g1)
 go_end0
 exact⟨rfl,G1.out.cast (by rw[za7];rfl)⟩
theorem zeb {w0:World} (H:Pow w0) {B b:Nat} {bs:List UInt8} {k:Int} {w:World} (hB:w0.heap.size≤B) (hp:Past w0 w) (h:Wr B b bs k w) (n:ByteArray) (s:Int) (hs0:0≤s) (hs1:s≤9223372036854775807) (hlen:bs.length+(dcT (n,s)).length≤140737488355328):
  Calls Tryz.prog 186 #[ptrW b,.agg #[.string n,.int .i64 s]] w fun e w'=>e=.returned (.tuple #[])∧Went B b (bs++dcT (n,s)) k w w':=by
 have HW:=hid h
 have HP:=hid hp
 have HB:=hid hB
 have hltb:=hid h.lt
 clear hB
 by_cases h0:s=0
 ·subst h0
  have et:dcT (n,0)=catB [n]:=by rw[za7];simp[dcT,putD]
  have L1:Hid (bs.length+(catB [n]).length≤140737488355328):=hid (by rw[←et];exact hlen)
  have ET':=hid et
  clear h hp H hlen hs0 hs1 et
  go_enter Tryz.func186,Tryz.ntmps186
  go_wp2_with (go_at_call 124;have hx:=zaF ((HW.out.alloc (.cells #[.string n,.int .i64 0] 76)).alloc (.cells #[.string n] 9)) (w.heap.size+1) 1 [n] _ (zao _ (by simp)) rfl (by simp) L1.out;refine hx.mono ?_;clear hx;rintro e w1 ⟨rfl,g1⟩;have G1:=hid (((HW.out.went.alloc _).alloc _).trans g1);obtain⟨c0,c1⟩:=cells2 (g1.keeps.box (zai _ (zaj w _)) (Nat.ne_of_gt hltb.out) (by decide));clear g1)
  go_end0
  exact⟨rfl,G1.out.cast (by rw[ET'.out])⟩
 ·have hpos:decide (0 < s)=true:=decide_eq_true (by omega)
  have hpos2:0 < s:=by omega
  have e2:(txt s).data.toList=Lib.decDigits s.toNat:=by
   show Lib.itoa s=_
   unfold Lib.itoa
   rw[if_neg (by omega)]
  have et:dcT (n,s)=catB [n]++catB [{data:=#[91]},txt s,{data:=#[93]}]:=by
   rw[za7]
   simp only[catB,List.flatMap_cons,List.flatMap_nil,e2,List.append_nil,dcT,putD]
   rw[if_neg (by omega)]
   simp
  have L1:Hid (bs.length+(catB [n]).length≤140737488355328):=hid (by rw[et,List.length_append] at hlen;omega)
  have L2:Hid ((bs++catB [n]).length+(catB [{data:=#[91]},txt s,{data:=#[93]}]).length≤140737488355328):=hid (by rw[et,List.length_append] at hlen;rw[List.length_append];omega)
  have ET':=hid et
  have HT:=hid (fun W=>zdk H s (by omega) W)
  clear h hp H hlen hs0 hs1 et e2
  go_enter Tryz.func186,Tryz.ntmps186
  go_wp2_with (first
   | (go_at_call 124;have hx:=zaF (G2.out.wr.alloc (.cells #[.string {data:=#[91]},.string (txt s),.string {data:=#[93]}] 9)) w2.heap.size 3 [{data:=#[91]},txt s,{data:=#[93]}] _ (zaj _ _) rfl (by simp) L2.out;refine hx.mono ?_;clear hx;rintro e w3 ⟨rfl,g3⟩;have G3:=hid ((G2.out.alloc _).trans g3);clear g3)
   | (go_at_call 215;refine(HT.out _ (HP.out.went HB.out G1.out)).mono ?_;rintro e w2 ⟨rfl,hb⟩;have G2:=hid (G1.out.trans (G1.out.wr.on hb));clear hb)
   | (go_at_call 124;have hx:=zaF ((HW.out.alloc (.cells #[.string n,.int .i64 s] 76)).alloc (.cells #[.string n] 9)) (w.heap.size+1) 1 [n] _ (zao _ (by simp)) rfl (by simp) L1.out;refine hx.mono ?_;clear hx;rintro e w1 ⟨rfl,g1⟩;have G1:=hid (((HW.out.went.alloc _).alloc _).trans g1);obtain⟨c0,c1⟩:=cells2 (g1.keeps.box (zai _ (zaj w _)) (Nat.ne_of_gt hltb.out) (by decide));clear g1))
  go_end0
  exact⟨rfl,G3.out.cast (by rw[ET'.out,List.append_assoc])⟩
theorem FT.cells_eq (F:FT):F.cells=#[.string F.name,.slice F.pa F.params.length F.pc,.slice F.va F.vars.length F.vc,.slice F.ba F.body.length F.bc]:=rfl
theorem FT.val_eq (F:FT):F.val=.agg #[.string F.name,.slice F.pa F.params.length F.pc,.slice F.va F.vars.length F.vc,.slice F.ba F.body.length F.bc]:=rfl
end Go.Proofs.YtljbbhhiiiepcaaGreatDoor
