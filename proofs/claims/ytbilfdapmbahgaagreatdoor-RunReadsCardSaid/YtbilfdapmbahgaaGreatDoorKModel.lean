/- What Check, Criterion, Find and Size ask, as plain functions of trees: no program stands in this text. -/
import Derived.Test.YtbilfdapmbahgaaGreatDoorTStRight2
import Derived.Test.YtbilfdapmbahgaaGreatDoorTText
import Derived.Lib.LaidU8
import Derived.ProofKit
set_option linter.unusedSimpArgs false
set_option linter.unusedVariables false
set_option maxHeartbeats 8000000
set_option maxRecDepth 100000
namespace Go.Proofs.YtbilfdapmbahgaaGreatDoor
open Go Go.RowKit
open Go.Lib (hid)
structure FT where
 name:ByteArray
 pa:Option Addr
 pc:Nat
 params:List ByteArray
 va:Option Addr
 vc:Nat
 vars:List (ByteArray×Int)
 ba:Option Addr
 bc:Nat
 body:List ST
def FT.cells (F:FT):Array Value:=#[.string F.name,.slice F.pa F.params.length F.pc,.slice F.va F.vars.length F.vc,.slice F.ba F.body.length F.bc]
abbrev FT.val (F:FT):Value:=.agg F.cells
def StrAt (w:World) (B:Nat) (a:Option Addr) (i:Nat) (s:ByteArray):Prop:=∃b o,a=some ⟨b,o,none⟩∧B≤b∧w.cell? ⟨b,o+i,none⟩=some (.string s)
structure FT.In (w:World) (B:Nat) (F:FT):Prop where
 pl:F.params.length≤9223372036854775807
 vl:F.vars.length≤9223372036854775807
 bl:F.body.length≤9223372036854775807
 ps:∀(i:Nat) (h:i < F.params.length),StrAt w B F.pa i F.params[i]
 vs:∀(i:Nat) (h:i < F.vars.length),RowAt w B F.va i 2 #[.string F.vars[i].1,.int .i64 F.vars[i].2]
 vr:∀(i:Nat) (h:i < F.vars.length),-9223372036854775808≤F.vars[i].2∧F.vars[i].2≤9223372036854775807
 ss:SsIn w B F.ba 0 F.body
structure FsIn (w:World) (B:Nat) (a:Option Addr) (l:List FT):Prop where
 len:l.length≤9223372036854775807
 row:∀(i:Nat) (h:i < l.length),RowAt w B a i 4 l[i].cells
 fs:∀(i:Nat) (h:i < l.length),l[i].In w B
theorem StrAt.keep {w w':World} {B:Nat} {a:Option Addr} {i:Nat} {s:ByteArray} (h:StrAt w B a i s) (hk:∀p v,B≤p.block→w.cell? p=some v→w'.cell? p=some v):StrAt w' B a i s:=by
 obtain⟨b,o,e,hB,hc⟩:=h
 exact⟨b,o,e,hB,hk _ _ hB hc⟩
theorem StrAt.mono {w:World} {B B':Nat} {a:Option Addr} {i:Nat} {s:ByteArray} (h:StrAt w B a i s) (hB:B'≤B):StrAt w B' a i s:=by
 obtain⟨b,o,e,h1,hc⟩:=h
 exact⟨b,o,e,Nat.le_trans hB h1,hc⟩
theorem FT.In.keep {w w':World} {B:Nat} {F:FT} (h:F.In w B) (hk:∀p v,B≤p.block→w.cell? p=some v→w'.cell? p=some v):F.In w' B:=
 ⟨h.pl,h.vl,h.bl,fun i hi=>(h.ps i hi).keep hk,fun i hi=>(h.vs i hi).keep hk,h.vr,h.ss.keep hk⟩
theorem FT.In.mono {w:World} {B B':Nat} {F:FT} (h:F.In w B) (hB:B'≤B):F.In w B':=
 ⟨h.pl,h.vl,h.bl,fun i hi=>(h.ps i hi).mono hB,fun i hi=>(h.vs i hi).mono hB,h.vr,h.ss.mono hB⟩
theorem FsIn.keep {w w':World} {B:Nat} {a:Option Addr} {l:List FT} (h:FsIn w B a l) (hk:∀p v,B≤p.block→w.cell? p=some v→w'.cell? p=some v):FsIn w' B a l:=
 ⟨h.len,fun i hi=>(h.row i hi).keep hk,fun i hi=>(h.fs i hi).keep hk⟩
theorem FsIn.mono {w:World} {B B':Nat} {a:Option Addr} {l:List FT} (h:FsIn w B a l) (hB:B'≤B):FsIn w B' a l:=
 ⟨h.len,fun i hi=>(h.row i hi).mono hB,fun i hi=>(h.fs i hi).mono hB⟩
theorem FsIn.on {w w':World} {B:Nat} {a:Option Addr} {l:List FT} (h:FsIn w B a l) (hb:Below w.heap.size w w'):FsIn w' B a l:=h.keep (zan hb)
def zcJ (d:ByteArray×Int):Bool:=nmB d.1&&decide (0≤d.2)
def FT.rightB (F:FT):Bool:=nmB F.name&&(F.params.all nmB&&(F.vars.all zcJ&&zam F.body))
def FT.rf (F:FT):RF:={name:=F.name.data.toList,params:=F.params.map fun s=>s.data.toList,vars:=F.vars.map fun d=>(d.1.data.toList,d.2.toNat),body:=rss F.body}
theorem all_take {α:Type} (p:α→Bool) {l:List α} {n:Nat} (hn:n < l.length):(l.take (n+1)).all p=((l.take n).all p&&p l[n]):=by
 rw[List.take_succ_eq_append_getElem hn,List.all_append];simp
theorem all_false {α:Type} (p:α→Bool) {l:List α} {n:Nat} (hn:n < l.length) (h:p l[n]=false):l.all p=false:=by
 cases hr:l.all p with
 | false=>rfl
 | true=>rw[List.all_eq_true] at hr;have:=hr _ (List.getElem_mem hn);rw[h] at this;cases this
theorem all_names {w0:World} (a:Option Addr) (c:Nat) (l:List ByteArray) (hl:l.length≤9223372036854775807) (hin:∀(i:Nat) (h:i < l.length),StrAt w0 0 a i l[i]) (w:World) (hp:Past w0 w):
  Calls Tryz.prog 71 #[.slice a l.length c,.func (.func 70) #[] #[]] w fun e w'=>e=.returned (.bool (l.all nmB))∧Below w.heap.size w w':=by
 have HI:=hid hin
 have HP:=hid hp
 clear hin hp
 go_enter Tryz.func71,Tryz.ntmps71
 go_wp2
 go_loopw [6,9] (fun _ i wr=>∃n:Nat,n≤l.length∧i=.int .i64 n∧wr=w∧(l.take n).all nmB=true) (fun _ i _=>l.length - (intOf i).toNat)
 case atStart=>exact⟨0,Nat.zero_le _,rfl,rfl,rfl⟩
 case round =>
  obtain⟨n,hn,rfl,rfl,ht⟩:=hrel
  have HT:=hid ht
  clear ht
  by_cases hlt:n < l.length
  ·obtain⟨kb,ko,rfl,-,hc0⟩:=HI.out n hlt
   have hc:=zan HP.out (B:=0) _ _ (Nat.zero_le _) hc0
   have hkb:=zck hc
   clear hc0
   cases hr:nmB l[n] with
   | false =>
    have HR:=hid (all_false nmB hlt hr)
    have HN:=hid hr
    clear hr
    go_wp2_with (go_at_call 70;refine(zbR _ _).mono ?_;rintro e w2 ⟨rfl,rfl⟩;rw[HN.out])
    go_ret
    exact⟨by rw[HR.out];rfl,Below.refl _ _⟩
   | true =>
    have HR:=hid (show(l.take (n+1)).all nmB=true by rw[all_take _ hlt,HT.out,hr];rfl)
    have HN:=hid hr
    clear hr
    go_wp2_with (go_at_call 70;refine(zbR _ _).mono ?_;rintro e w2 ⟨rfl,rfl⟩;rw[HN.out])
    go_round
    case rel=>exact⟨n+1,by omega,by go_num,by first | rfl | trivial,HR.out⟩
    case measure=>simp[intOf];omega
  ·obtain rfl:n=l.length:=by omega
   rw[List.take_length] at HT
   go_wp2
   go_ret
   exact⟨by rw[HT.out];rfl,Below.refl _ _⟩
theorem zdV {w0 w:World} {B b o i:Nat} {v0 v1:Value} (h:RowAt w0 B (some ⟨b,o,none⟩) i 2 #[v0,v1]) (hp:Past w0 w):w.cell? ⟨b,o+i*2,none⟩=some v0∧w.cell? ⟨b,o+i*2+1,none⟩=some v1∧b < w.heap.size:=by
 obtain⟨b',o',e,-,hc⟩:=h
 simp only[Option.some.injEq,Addr.mk.injEq,and_true] at e
 obtain⟨rfl,rfl⟩:=e
 have k:=zan hp (B:=0)
 have h0:=k _ _ (Nat.zero_le _) (hc 0 v0 rfl)
 exact⟨h0,k _ _ (Nat.zero_le _) (hc 1 v1 rfl),zck h0⟩
theorem decl_right (n:ByteArray) (s:Int) (w:World):
  Calls Tryz.prog 73 #[.agg #[.string n,.int .i64 s]] w fun e w'=>e=.returned (.bool (zcJ (n,s)))∧Below w.heap.size w w':=by
 have key:nmB n=false∧zcJ (n,s)=false∨nmB n=true∧decide (0≤s)=zcJ (n,s):=by
  unfold zcJ
  cases nmB n<;>simp
 generalize zcJ (n,s)=r at key ⊢
 rcases key with ⟨h1,rfl⟩ | ⟨h1,h2⟩
 all_goals
  go_enter Tryz.func73,Tryz.ntmps73
  go_wp2_with (go_at_call 70;refine(zbR _ _).mono ?_;rintro e w' ⟨rfl,rfl⟩;rw[h1])
  go_ret
  exact⟨by simp,(Below.refl _ _).alloc (Nat.le_refl _) _⟩
theorem all_decls {w0:World} (a:Option Addr) (c:Nat) (l:List (ByteArray×Int)) (hl:l.length≤9223372036854775807) (hin:∀(i:Nat) (h:i < l.length),RowAt w0 0 a i 2 #[.string l[i].1,.int .i64 l[i].2]) (w:World) (hp:Past w0 w):
  Calls Tryz.prog 72 #[.slice a l.length c,.func (.func 73) #[] #[]] w fun e w'=>e=.returned (.bool (l.all zcJ))∧Below w.heap.size w w':=by
 have HI:=hid hin
 have HP:=hid hp
 clear hin hp
 go_enter Tryz.func72,Tryz.ntmps72
 go_wp2
 go_loopw [6,9] (fun _ i wr=>∃n:Nat,n≤l.length∧i=.int .i64 n∧Below w.heap.size w wr∧(l.take n).all zcJ=true) (fun _ i _=>l.length - (intOf i).toNat)
 case atStart=>exact⟨0,Nat.zero_le _,rfl,Below.refl _ _,rfl⟩
 case round =>
  obtain⟨n,hn,rfl,hb,ht⟩:=hrel
  have HB:=hid hb
  have HT:=hid ht
  clear hb ht
  by_cases hlt:n < l.length
  ·have hrow:=HI.out n hlt
   have hrow':=hrow
   obtain⟨kb,ko,rfl,-⟩:=hrow'
   obtain⟨r0,r1,hkb⟩:=zdV hrow (HP.out.on HB.out)
   clear hrow
   cases hr:zcJ l[n] with
   | false =>
    have HR:=hid (all_false zcJ hlt hr)
    have HN:=hid (show zcJ (l[n].1,l[n].2)=false from hr)
    clear hr
    go_wp2_with (go_at_call 73;refine(decl_right _ _ _).mono ?_;rintro e w2 ⟨rfl,hb2⟩;rw[HN.out];have HB2:=hid (zae (HB.out.alloc HB.out.size _) hb2);clear hb2)
    go_ret
    exact⟨by rw[HR.out];rfl,HB2.out⟩
   | true =>
    have HR:=hid (show(l.take (n+1)).all zcJ=true by rw[all_take _ hlt,HT.out,hr];rfl)
    have HN:=hid (show zcJ (l[n].1,l[n].2)=true from hr)
    clear hr
    go_wp2_with (go_at_call 73;refine(decl_right _ _ _).mono ?_;rintro e w2 ⟨rfl,hb2⟩;rw[HN.out];have HB2:=hid (zae (HB.out.alloc HB.out.size _) hb2);clear hb2)
    go_round
    case rel=>exact⟨n+1,by omega,by go_num,HB2.out,HR.out⟩
    case measure=>simp[intOf];omega
  ·obtain rfl:n=l.length:=by omega
   rw[List.take_length] at HT
   go_wp2
   go_ret
   exact⟨by rw[HT.out];rfl,HB.out⟩
end Go.Proofs.YtbilfdapmbahgaaGreatDoor
namespace Go.Proofs.YtbilfdapmbahgaaGreatDoor
open Go Go.RowKit
open Go.Lib (hid)
theorem cells4 {w:World} {b:Nat} {t:TypeId} {fr:Nat×Nat} {v0 v1 v2 v3:Value} (h:w.heap[b]?=some (.cells #[v0,v1,v2,v3] t fr)):
  w.cell? ⟨b,0,none⟩=some v0∧w.cell? ⟨b,1,none⟩=some v1∧w.cell? ⟨b,2,none⟩=some v2∧w.cell? ⟨b,3,none⟩=some v3:=
 ⟨zab h rfl,zab h rfl,zab h rfl,zab h rfl⟩
structure Cells4 (w:World) (b o:Nat) (v0 v1 v2 v3:Value):Prop where
 c0:w.cell? ⟨b,o,none⟩=some v0
 c1:w.cell? ⟨b,o+1,none⟩=some v1
 c2:w.cell? ⟨b,o+2,none⟩=some v2
 c3:w.cell? ⟨b,o+3,none⟩=some v3
 lt:b < w.heap.size
theorem zbf {w0 w:World} {B b o i:Nat} {v0 v1 v2 v3:Value} (h:RowAt w0 B (some ⟨b,o,none⟩) i 4 #[v0,v1,v2,v3]) (hp:Past w0 w):Cells4 w b (o+i*4) v0 v1 v2 v3:=by
 obtain⟨b',o',e,-,hc⟩:=h
 simp only[Option.some.injEq,Addr.mk.injEq,and_true] at e
 obtain⟨rfl,rfl⟩:=e
 have k:=zan hp (B:=0)
 have h0:=k _ _ (Nat.zero_le _) (hc 0 v0 rfl)
 exact⟨h0,k _ _ (Nat.zero_le _) (hc 1 v1 rfl),k _ _ (Nat.zero_le _) (hc 2 v2 rfl),k _ _ (Nat.zero_le _) (hc 3 v3 rfl),zck h0⟩
theorem funcRight_any {w0:World} (F:FT) (hin:F.In w0 0) (w:World) (hp:Past w0 w):
  Calls Tryz.prog 45 #[F.val] w fun e w'=>e=.returned (.bool F.rightB)∧Below w.heap.size w w':=by
 have HN:=hid (fun W hW=>all_names (w0:=w0) F.pa F.pc F.params hin.pl hin.ps W hW)
 have HD:=hid (fun W hW=>all_decls (w0:=w0) F.va F.vc F.vars hin.vl hin.vs W hW)
 have HS:=hid (fun W hW=>all_stmts (w0:=w0) F.ba F.bc F.body hin.bl hin.ss (fun n hn w hw=>rightS_any _ F.body[n] (Nat.le_refl _) (hin.ss.nth n hn).2 w hw) W hW)
 have HP:=hid hp
 unfold FT.rightB
 show Calls Tryz.prog 45 #[.agg #[.string F.name,.slice F.pa F.params.length F.pc,.slice F.va F.vars.length F.vc,.slice F.ba F.body.length F.bc]] w _
 generalize F.params.all nmB=r2 at HN
 generalize F.vars.all zcJ=r3 at HD
 generalize zam F.body=r4 at HS
 generalize hr:(nmB F.name&&(r2&&(r3&&r4)))=r
 have key:nmB F.name=false∧r=false∨nmB F.name=true∧(r2=false∧r=false∨r2=true∧(r3=false∧r=false∨r3=true∧r4=r)):=by
  rw[←hr]
  cases nmB F.name<;>cases r2<;>cases r3<;>simp
 clear hr hin hp
 rcases key with ⟨h1,rfl⟩ | ⟨h1,(⟨rfl,rfl⟩ | ⟨rfl,(⟨rfl,rfl⟩ | ⟨rfl,rfl⟩)⟩)⟩
 all_goals
  go_enter Tryz.func45,Tryz.ntmps45
  go_wp2_with (first
   | (go_at_call 74;have hx:=HS.out _ (HP.out.on B3.out);refine hx.mono ?_;clear hx;rintro e w4 ⟨rfl,hb4⟩;have B4:=hid (zae B3.out hb4);clear hb4)
   | (go_at_call 72;have hx:=HD.out _ (HP.out.on B2.out);refine hx.mono ?_;clear hx;rintro e w3 ⟨rfl,hb3⟩;have B3:=hid (zae B2.out hb3);obtain⟨p0,p1,p2,p3⟩:=cells4 ((hb3.block w.heap.size (lt_of_block X2.out)).trans X2.out);clear hb3)
   | (go_at_call 71;have hx:=HN.out _ (HP.out.alloc (.cells #[.string F.name,.slice F.pa F.params.length F.pc,.slice F.va F.vars.length F.vc,.slice F.ba F.body.length F.bc] 74));refine hx.mono ?_;clear hx;rintro e w2 ⟨rfl,hb2⟩;have B2:=hid (zae ((Below.refl _ _).alloc (Nat.le_refl _) _) hb2);have X2:=hid ((hb2.block w.heap.size (by simp)).trans (zah w _));obtain⟨c0,c1,c2,c3⟩:=cells4 X2.out;clear hb2)
   | (go_at_call 70;refine(zbR _ _).mono ?_;rintro e w' ⟨rfl,rfl⟩;rw[h1]))
  go_ret
  exact⟨by simp,by first | exact B4.out | exact B3.out | exact B2.out | exact(Below.refl _ _).alloc (Nat.le_refl _) _⟩
theorem all_funcs {w0:World} (a:Option Addr) (c:Nat) (l:List FT) (hin:FsIn w0 0 a l) (w:World) (hp:Past w0 w):
  Calls Tryz.prog 44 #[.slice a l.length c,.func (.func 45) #[] #[]] w fun e w'=>e=.returned (.bool (l.all FT.rightB))∧Below w.heap.size w w':=by
 have hl:=hin.len
 have HI:=hid hin
 have HP:=hid hp
 clear hin hp
 go_enter Tryz.func44,Tryz.ntmps44
 go_wp2
 go_loopw [6,9] (fun _ i wr=>∃n:Nat,n≤l.length∧i=.int .i64 n∧Below w.heap.size w wr∧(l.take n).all FT.rightB=true) (fun _ i _=>l.length - (intOf i).toNat)
 case atStart=>exact⟨0,Nat.zero_le _,rfl,Below.refl _ _,rfl⟩
 case round =>
  obtain⟨n,hn,rfl,hb,ht⟩:=hrel
  have HB:=hid hb
  have HT:=hid ht
  clear hb ht
  by_cases hlt:n < l.length
  ·have hrow:=HI.out.row n hlt
   have hrow':=hrow
   obtain⟨kb,ko,rfl,-⟩:=hrow'
   unfold FT.cells at hrow
   obtain⟨r0,r1,r2,r3,hkb⟩:=zbf hrow (HP.out.on HB.out)
   have hcall:∀W,Past w0 W→Calls Tryz.prog 45 #[.agg #[.string l[n].name,.slice l[n].pa l[n].params.length l[n].pc,.slice l[n].va l[n].vars.length l[n].vc,.slice l[n].ba l[n].body.length l[n].bc]] W fun e w'=>e=.returned (.bool l[n].rightB)∧Below W.heap.size W w':=fun W hW=>funcRight_any l[n] (HI.out.fs n hlt) W hW
   have HC:=hid hcall
   clear hcall hrow
   cases hr:l[n].rightB with
   | false =>
    have HR:=hid (all_false FT.rightB hlt hr)
    rw[hr] at HC
    clear hr
    go_wp2_with (go_at_call 45;have hx:=HC.out _ ((HP.out.on HB.out).alloc (.cells #[.string l[n].name,.slice l[n].pa l[n].params.length l[n].pc,.slice l[n].va l[n].vars.length l[n].vc,.slice l[n].ba l[n].body.length l[n].bc] 74));refine hx.mono ?_;clear hx;rintro e w2 ⟨rfl,hb2⟩;have HB2:=hid (zae (HB.out.alloc HB.out.size _) hb2);clear hb2)
    go_ret
    exact⟨by rw[HR.out];rfl,HB2.out⟩
   | true =>
    have HR:=hid (show(l.take (n+1)).all FT.rightB=true by rw[all_take _ hlt,HT.out,hr];rfl)
    rw[hr] at HC
    clear hr
    go_wp2_with (go_at_call 45;have hx:=HC.out _ ((HP.out.on HB.out).alloc (.cells #[.string l[n].name,.slice l[n].pa l[n].params.length l[n].pc,.slice l[n].va l[n].vars.length l[n].vc,.slice l[n].ba l[n].body.length l[n].bc] 74));refine hx.mono ?_;clear hx;rintro e w2 ⟨rfl,hb2⟩;have HB2:=hid (zae (HB.out.alloc HB.out.size _) hb2);clear hb2)
    go_round
    case rel=>exact⟨n+1,by omega,by go_num,HB2.out,HR.out⟩
    case measure=>simp[intOf];omega
  ·obtain rfl:n=l.length:=by omega
   rw[List.take_length] at HT
   go_wp2
   go_ret
   exact⟨by rw[HT.out];rfl,HB.out⟩
theorem rightP_any {w0:World} (a:Option Addr) (c:Nat) (l:List FT) (hin:FsIn w0 0 a l) (w:World) (hp:Past w0 w):
  Calls Tryz.prog 22 #[.agg #[.slice a l.length c]] w fun e w'=>e=.returned (.bool (l.all FT.rightB))∧Below w.heap.size w w':=by
 have HH:=hid (fun W hW=>all_funcs (w0:=w0) a c l hin W hW)
 have HP:=hid hp
 clear hin hp
 go_enter Tryz.func22,Tryz.ntmps22
 go_wp2_with (go_at_call 44;have hx:=HH.out _ (HP.out.alloc (.cells #[.slice a l.length c] 24));refine hx.mono ?_;clear hx;rintro e w1 ⟨rfl,hb⟩)
 go_ret
 exact⟨rfl,zae ((Below.refl _ _).alloc (Nat.le_refl _) _) hb⟩
end Go.Proofs.YtbilfdapmbahgaaGreatDoor
namespace Go.Proofs.YtbilfdapmbahgaaGreatDoor
open Go Go.RowKit
open Go.Lib (hid)
theorem FT.cells_eq (F:FT):F.cells=#[.string F.name,.slice F.pa F.params.length F.pc,.slice F.va F.vars.length F.vc,.slice F.ba F.body.length F.bc]:=rfl
theorem FT.val_eq (F:FT):F.val=.agg #[.string F.name,.slice F.pa F.params.length F.pc,.slice F.va F.vars.length F.vc,.slice F.ba F.body.length F.bc]:=rfl
end Go.Proofs.YtbilfdapmbahgaaGreatDoor

namespace Go.Proofs.YtbilfdapmbahgaaGreatDoor.Ck
open Go Go.RowKit Go.Proofs.YtbilfdapmbahgaaGreatDoor
open Go.Lib (hid)
theorem ET.cells_is (T:ET):T.cells=#[.int .i64 T.kind,.string T.op,.int .i64 T.n,.string T.name,.slice T.kaddr T.kids.length T.kcap]:=by cases T;rfl
theorem eachS_any {w0:World} (a:Option Addr) (c:Nat) (L:List ST) (hl:L.length≤9223372036854775807) (hin:SsIn w0 0 a 0 L) (g:Nat) (lb:Array Value) (eg0:Ent g) (code:Nat→Nat) (I:Nat→World→Prop)
  (hpast:∀k W,I k W→Past w0 W)
  (halloc:∀k W o,I k W→I k (W.alloc o))
  (hstep:∀k (h:k < L.length) W,zau code k=0→I k W→Calls Tryz.prog g (#[L[k].val]++lb) W fun e w'=>e=.returned (.int .i64 (code k:Nat))∧I (k+1) w')
  (w:World) (h0:I 0 w):
  Calls Tryz.prog 259 #[.slice a L.length c,.func (.func g) #[] lb] w fun e w'=>e=.returned (.int .i64 (zau code L.length:Nat))∧∃k,k≤L.length∧I k w'∧(zau code L.length=0→k=L.length):=by
 have HS:=hid hstep
 have HP:=hid hpast
 have HI:=hid hin
 have H0:=hid h0
 have HA:=hid halloc
 have eg:∀args w,(callFunc g args).run Tryz.prog w=.ok (.enter g args) w:=eg0
 clear hstep hpast hin h0 halloc eg0
 go_enter Tryz.func259,Tryz.ntmps259
 go_wp2
 go_loopw [6,7,10] (fun _ _ i wr=>∃k:Nat,k≤L.length∧i=.int .i64 k∧I k wr∧zau code k=0) (fun _ _ i _=>L.length - (intOf i).toNat)
 case atStart=>exact⟨0,Nat.zero_le _,rfl,H0.out,rfl⟩
 case round =>
  clear H0
  obtain⟨k,hk,rfl,hi,hz⟩:=hrel
  by_cases hlt:k < L.length
  ·have hs:=HS.out k hlt (wr.alloc (.cells #[.int .i64 L[k].kind,.int .i64 L[k].tag,.string L[k].name,.string L[k].func,.slice L[k].ea L[k].en L[k].ec,.slice L[k].ba L[k].bn L[k].bc,.slice L[k].la L[k].ln L[k].lc] 84)) hz (HA.out k _ _ hi)
   obtain⟨hrow,-⟩:=HI.out.nth k hlt
   have hrow':=hrow
   obtain⟨kb,ko,rfl,-⟩:=hrow'
   rw[ST.cells_eq,Nat.zero_add] at hrow
   obtain⟨r0,r1,r2,r3,r4,r5,r6,hkb⟩:=zdU hrow (HP.out k wr hi)
   rw[ST.val_eq] at hs
   clear hrow
   have HF:Hid (zau code (k+1)=code k):=hid (by rw[zau,hz,zcr])
   have HT:=hid hs
   clear hi hz hs
   obtain⟨cc,hcc⟩:∃cc,code k=cc:=⟨_,rfl⟩
   rw[hcc] at HT HF
   clear hcc
   by_cases h0:cc=0
   ·subst h0
    go_wp2_with (go_at_fn g;have hx:=HT.out;refine hx.mono ?_;clear hx;rintro e w' ⟨rfl,hi'⟩)
    go_round
    case rel=>exact⟨k+1,by omega,by go_num,hi',HF.out⟩
    case measure=>simp[intOf];omega
   ·have e1:((cc:Int) != 0)=true:=by simpa using h0
    go_wp2_with (go_at_fn g;have hx:=HT.out;refine hx.mono ?_;clear hx;rintro e w' ⟨rfl,hi'⟩)
    go_ret
    have hf:zau code L.length=cc:=by rw[zcs (k:=k+1) (by omega) (by rw[HF.out];exact h0),HF.out]
    exact⟨by rw[hf];rfl,k+1,by omega,hi',fun h=>absurd (hf.symm.trans h) h0⟩
  ·obtain rfl:k=L.length:=by omega
   go_wp2
   go_ret
   exact⟨by rw[hz];rfl,L.length,Nat.le_refl _,hi,fun _=>rfl⟩
theorem eachE_any {w0:World} (a:Option Addr) (c:Nat) (L:List ET) (hl:L.length≤9223372036854775807) (hin:EsIn w0 0 a 0 L) (g:Nat) (lb:Array Value) (eg0:Ent g) (code:Nat→Nat) (I:Nat→World→Prop)
  (hpast:∀k W,I k W→Past w0 W)
  (halloc:∀k W o,I k W→I k (W.alloc o))
  (hstep:∀k (h:k < L.length) W,zau code k=0→I k W→Calls Tryz.prog g (#[L[k].val]++lb) W fun e w'=>e=.returned (.int .i64 (code k:Nat))∧I (k+1) w')
  (w:World) (h0:I 0 w):
  Calls Tryz.prog 317 #[.slice a L.length c,.func (.func g) #[] lb] w fun e w'=>e=.returned (.int .i64 (zau code L.length:Nat))∧∃k,k≤L.length∧I k w'∧(zau code L.length=0→k=L.length):=by
 have HS:=hid hstep
 have HP:=hid hpast
 have HI:=hid hin
 have H0:=hid h0
 have HA:=hid halloc
 have eg:∀args w,(callFunc g args).run Tryz.prog w=.ok (.enter g args) w:=eg0
 clear hstep hpast hin h0 halloc eg0
 go_enter Tryz.func317,Tryz.ntmps317
 go_wp2
 go_loopw [6,7,10] (fun _ _ i wr=>∃k:Nat,k≤L.length∧i=.int .i64 k∧I k wr∧zau code k=0) (fun _ _ i _=>L.length - (intOf i).toNat)
 case atStart=>exact⟨0,Nat.zero_le _,rfl,H0.out,rfl⟩
 case round =>
  clear H0
  obtain⟨k,hk,rfl,hi,hz⟩:=hrel
  by_cases hlt:k < L.length
  ·have hs:=HS.out k hlt (wr.alloc (.cells #[.int .i64 L[k].kind,.string L[k].op,.int .i64 L[k].n,.string L[k].name,.slice L[k].kaddr L[k].kids.length L[k].kcap] 86)) hz (HA.out k _ _ hi)
   obtain⟨hrow,-⟩:=HI.out.nth k hlt
   have hrow':=hrow
   obtain⟨kb,ko,rfl,-⟩:=hrow'
   rw[ET.cells_is,Nat.zero_add] at hrow
   obtain⟨r0,r1,r2,r3,r4,hkb⟩:=zaF hrow (HP.out k wr hi)
   rw[ET.val_is] at hs
   clear hrow
   have HF:Hid (zau code (k+1)=code k):=hid (by rw[zau,hz,zcr])
   have HT:=hid hs
   clear hi hz hs
   obtain⟨cc,hcc⟩:∃cc,code k=cc:=⟨_,rfl⟩
   rw[hcc] at HT HF
   clear hcc
   by_cases h0:cc=0
   ·subst h0
    go_wp2_with (go_at_fn g;have hx:=HT.out;refine hx.mono ?_;clear hx;rintro e w' ⟨rfl,hi'⟩)
    go_round
    case rel=>exact⟨k+1,by omega,by go_num,hi',HF.out⟩
    case measure=>simp[intOf];omega
   ·have e1:((cc:Int) != 0)=true:=by simpa using h0
    go_wp2_with (go_at_fn g;have hx:=HT.out;refine hx.mono ?_;clear hx;rintro e w' ⟨rfl,hi'⟩)
    go_ret
    have hf:zau code L.length=cc:=by rw[zcs (k:=k+1) (by omega) (by rw[HF.out];exact h0),HF.out]
    exact⟨by rw[hf];rfl,k+1,by omega,hi',fun h=>absurd (hf.symm.trans h) h0⟩
  ·obtain rfl:k=L.length:=by omega
   go_wp2
   go_ret
   exact⟨by rw[hz];rfl,L.length,Nat.le_refl _,hi,fun _=>rfl⟩
theorem eachT_any {w0:World} (a:Option Addr) (c:Nat) (L:List ByteArray) (hl:L.length≤9223372036854775807) (hin:∀(i:Nat) (h:i < L.length),StrAt w0 0 a i L[i]) (g:Nat) (lb:Array Value) (eg0:Ent g) (code:Nat→Nat) (I:Nat→World→Prop)
  (hpast:∀k W,I k W→Past w0 W)
  (hstep:∀k (h:k < L.length) W,zau code k=0→I k W→Calls Tryz.prog g (#[.string L[k]]++lb) W fun e w'=>e=.returned (.int .i64 (code k:Nat))∧I (k+1) w')
  (w:World) (h0:I 0 w):
  Calls Tryz.prog 135 #[.slice a L.length c,.func (.func g) #[] lb] w fun e w'=>e=.returned (.int .i64 (zau code L.length:Nat))∧∃k,k≤L.length∧I k w'∧(zau code L.length=0→k=L.length):=by
 have HS:=hid hstep
 have HP:=hid hpast
 have HI:=hid hin
 have H0:=hid h0
 have eg:∀args w,(callFunc g args).run Tryz.prog w=.ok (.enter g args) w:=eg0
 clear hstep hpast hin h0 eg0
 go_enter Tryz.func135,Tryz.ntmps135
 go_wp2
 go_loopw [6,7,10] (fun _ _ i wr=>∃k:Nat,k≤L.length∧i=.int .i64 k∧I k wr∧zau code k=0) (fun _ _ i _=>L.length - (intOf i).toNat)
 case atStart=>exact⟨0,Nat.zero_le _,rfl,H0.out,rfl⟩
 case round =>
  clear H0
  obtain⟨k,hk,rfl,hi,hz⟩:=hrel
  by_cases hlt:k < L.length
  ·have hs:=HS.out k hlt wr hz hi
   obtain⟨kb,ko,rfl,-,hc0⟩:=HI.out k hlt
   have hc:=zan (HP.out k wr hi) (B:=0) _ _ (Nat.zero_le _) hc0
   have hkb:=zck hc
   clear hc0
   have HF:Hid (zau code (k+1)=code k):=hid (by rw[zau,hz,zcr])
   have HT:=hid hs
   clear hi hz hs
   obtain⟨cc,hcc⟩:∃cc,code k=cc:=⟨_,rfl⟩
   rw[hcc] at HT HF
   clear hcc
   by_cases h0:cc=0
   ·subst h0
    go_wp2_with (go_at_fn g;have hx:=HT.out;refine hx.mono ?_;clear hx;rintro e w' ⟨rfl,hi'⟩)
    go_round
    case rel=>exact⟨k+1,by omega,by go_num,hi',HF.out⟩
    case measure=>simp[intOf];omega
   ·have e1:((cc:Int) != 0)=true:=by simpa using h0
    go_wp2_with (go_at_fn g;have hx:=HT.out;refine hx.mono ?_;clear hx;rintro e w' ⟨rfl,hi'⟩)
    go_ret
    have hf:zau code L.length=cc:=by rw[zcs (k:=k+1) (by omega) (by rw[HF.out];exact h0),HF.out]
    exact⟨by rw[hf];rfl,k+1,by omega,hi',fun h=>absurd (hf.symm.trans h) h0⟩
  ·obtain rfl:k=L.length:=by omega
   go_wp2
   go_ret
   exact⟨by rw[hz];rfl,L.length,Nat.le_refl _,hi,fun _=>rfl⟩
end Go.Proofs.YtbilfdapmbahgaaGreatDoor.Ck

namespace Go.Proofs.YtbilfdapmbahgaaGreatDoor
open Go Go.RowKit
open Go.Lib (hid)
mutual
def ST.cnt:ST→Nat
 | .mk _ _ _ _ _ _ _ _ _ b _ _ l=>1+(cnts b+cnts l)
def cnts:List ST→Nat
 | []=>0
 | S :: l=>S.cnt+cnts l
end
def under (l:List ST):Nat:=(l.map fun S=>S.cnt - 1).sum
theorem zdW (l:List ST):cnts l=l.length+under l:=by
 induction l with
 | nil=>rfl
 | cons S l ih =>
  rw[cnts,ih]
  have:1≤S.cnt:=by cases S;rw[ST.cnt];omega
  simp only[under,List.map_cons,List.sum_cons,List.length_cons]
  omega
theorem under_take {l:List ST} {n:Nat} (hn:n < l.length):under (l.take (n+1))=under (l.take n)+(l[n].cnt - 1):=by
 rw[List.take_succ_eq_append_getElem hn,under,List.map_append,List.sum_append,under];simp
def ST.body:ST→List ST
 | .mk _ _ _ _ _ _ _ _ _ b _ _ _=>b
def ST.els:ST→List ST
 | .mk _ _ _ _ _ _ _ _ _ _ _ _ l=>l
theorem cnt_parts (S:ST):S.cnt=1+(cnts S.body+cnts S.els):=by cases S;rw[ST.cnt];rfl
theorem bn_is (S:ST):S.bn=S.body.length:=by cases S;rfl
theorem ln_is (S:ST):S.ln=S.els.length:=by cases S;rfl
theorem in_body {w:World} {B:Nat} {S:ST} (h:S.In w B):SsIn w B S.ba 0 S.body∧S.body.length≤9223372036854775807:=by
 cases S;rw[ST.In] at h;exact⟨h.2.2.2.1,h.2.1.2.1⟩
theorem in_els {w:World} {B:Nat} {S:ST} (h:S.In w B):SsIn w B S.la 0 S.els∧S.els.length≤9223372036854775807:=by
 cases S;rw[ST.In] at h;exact⟨h.2.2.2.2,h.2.1.2.2⟩
theorem body_sz (S:ST):Szs S.body < S.sz∧Szs S.els < S.sz:=by
 cases S;simp only[ST.body,ST.els,ST.sz];omega
theorem wrap_small (n:Nat) (h:n≤9223372036854775807):wrap64 (n:Int)=(n:Int):=by unfold wrap64;omega
theorem wrap_step (a b c:Nat):wrap64 (wrap64 (a:Int)+wrap64 (wrap64 (b:Int)+wrap64 (c:Int)))=wrap64 ((a+(b+c):Nat):Int):=by unfold wrap64;omega
theorem count_any {w0:World}:∀(m:Nat) (a:Option Addr) (c:Nat) (l:List ST),Szs l < m→l.length≤9223372036854775807→SsIn w0 0 a 0 l→∀w,Past w0 w →
  Calls Tryz.prog 47 #[.slice a l.length c] w fun e w'=>e=.returned (.int .i64 (wrap64 (cnts l:Nat)))∧Below w.heap.size w w':=by
 intro m
 induction m with
 | zero=>intro a c l hm;omega
 | succ m ih =>
  intro a c l hm hl hin w hp
  have HC:Hid (∀(n:Nat) (hn:n < l.length) (W:World),Past w0 W→Calls Tryz.prog 47 #[.slice l[n].ba l[n].bn l[n].bc] W fun e w'=>e=.returned (.int .i64 (wrap64 (cnts l[n].body:Nat)))∧Below W.heap.size W w'):=hid fun n hn W hW=>by
   have h1:=in_body (hin.nth n hn).2
   rw[bn_is]
   exact ih l[n].ba l[n].bc l[n].body (by have:=body_sz l[n];have:=zes hn;omega) h1.2 h1.1 W hW
  have HD:Hid (∀(n:Nat) (hn:n < l.length) (W:World),Past w0 W→Calls Tryz.prog 47 #[.slice l[n].la l[n].ln l[n].lc] W fun e w'=>e=.returned (.int .i64 (wrap64 (cnts l[n].els:Nat)))∧Below W.heap.size W w'):=hid fun n hn W hW=>by
   have h1:=in_els (hin.nth n hn).2
   rw[ln_is]
   exact ih l[n].la l[n].lc l[n].els (by have:=body_sz l[n];have:=zes hn;omega) h1.2 h1.1 W hW
  have HI:=hid hin
  have HP:=hid hp
  clear hin hp ih hm
  go_enter Tryz.func47,Tryz.ntmps47
  go_wp2
  go_loopw [3,5,10] (fun v _ i wr=>∃n:Nat,n≤l.length∧i=.int .i64 n∧v=.int .i64 (wrap64 ((l.length+under (l.take n):Nat):Int))∧Below w.heap.size w wr) (fun _ _ i _=>l.length - (intOf i).toNat)
  case atStart=>exact⟨0,Nat.zero_le _,rfl,by rw[show l.length+under (l.take 0)=l.length from rfl,wrap_small _ hl],Below.refl _ _⟩
  case round =>
   obtain⟨n,hn,rfl,rfl,hb⟩:=hrel
   have HB:=hid hb
   clear hb
   by_cases hlt:n < l.length
   ·obtain⟨hrow,-⟩:=HI.out.nth n hlt
    have hrow':=hrow
    obtain⟨kb,ko,rfl,-⟩:=hrow'
    rw[ST.cells_eq,Nat.zero_add] at hrow
    obtain⟨r0,r1,r2,r3,r4,r5,r6,hkb⟩:=zdU hrow (HP.out.on HB.out)
    have hc1:=HC.out n hlt
    have hc2:=HD.out n hlt
    have hu:=under_take hlt
    rw[cnt_parts] at hu
    obtain⟨x,hx⟩:∃x,wrap64 ((l.length+under (l.take n):Nat):Int)=x:=⟨_,rfl⟩
    obtain⟨v1,hv1⟩:∃v1,wrap64 ((cnts l[n].body:Nat):Int)=v1:=⟨_,rfl⟩
    obtain⟨v2,hv2⟩:∃v2,wrap64 ((cnts l[n].els:Nat):Int)=v2:=⟨_,rfl⟩
    obtain⟨s,hs⟩:∃s,wrap64 (v1+v2)=s:=⟨_,rfl⟩
    obtain⟨t,ht⟩:∃t,wrap64 (x+s)=t:=⟨_,rfl⟩
    have HR:Hid (t=wrap64 ((l.length+under (l.take (n+1)):Nat):Int)):=hid (by
     rw[←ht,←hs,←hv1,←hv2,←hx,hu,wrap_step]
     congr 2
     omega)
    have e1:IntKind.i64.wrap (v1+v2)=s:=by rw[←hs,i64_wrap]
    have e2:IntKind.i64.wrap (x+s)=t:=by rw[←ht,i64_wrap]
    rw[hv1] at hc1
    rw[hv2] at hc2
    rw[hx]
    have HC1:=hid hc1
    have HC2:=hid hc2
    clear hc1 hc2 hrow hu hx hv1 hv2 hs ht HC HD
    have P0:Hid (Past w0 (wr.alloc (.cells #[.int .i64 l[n].kind,.int .i64 l[n].tag,.string l[n].name,.string l[n].func,.slice l[n].ea l[n].en l[n].ec,.slice l[n].ba l[n].bn l[n].bc,.slice l[n].la l[n].ln l[n].lc] 84)).drew):=hid (((HP.out.on HB.out).alloc _).drew)
    have B0:Hid (Below w.heap.size w (wr.alloc (.cells #[.int .i64 l[n].kind,.int .i64 l[n].tag,.string l[n].name,.string l[n].func,.slice l[n].ea l[n].en l[n].ec,.slice l[n].ba l[n].bn l[n].bc,.slice l[n].la l[n].ln l[n].lc] 84)).drew):=hid (Below.drew (HB.out.alloc HB.out.size _))
    have X0:Hid ((wr.alloc (.cells #[.int .i64 l[n].kind,.int .i64 l[n].tag,.string l[n].name,.string l[n].func,.slice l[n].ea l[n].en l[n].ec,.slice l[n].ba l[n].bn l[n].bc,.slice l[n].la l[n].ln l[n].lc] 84)).drew.heap[wr.heap.size]?=some (.cells #[.int .i64 l[n].kind,.int .i64 l[n].tag,.string l[n].name,.string l[n].func,.slice l[n].ea l[n].en l[n].ec,.slice l[n].ba l[n].bn l[n].bc,.slice l[n].la l[n].ln l[n].lc] 84 (0,0))):=hid (zah wr _)
    go_wp2
    go_region_with (first
     | (go_at_call 47;have hx:=HC2.out _ P1.out;refine hx.mono ?_;clear hx;rintro e w3 ⟨rfl,hb3⟩;have B2:=hid (zae B1.out hb3);clear hb3)
     | (go_at_call 47;have hx:=HC1.out _ P1.out;refine hx.mono ?_;clear hx;rintro e w3 ⟨rfl,hb3⟩;have B2:=hid (zae B1.out hb3);clear hb3)
     | (go_at_call 47;have hx:=HC1.out _ P0.out;refine hx.mono ?_;clear hx;rintro e w2 ⟨rfl,hb2⟩;have P1:=hid (P0.out.on hb2);have B1:=hid (zae B0.out hb2);obtain⟨c0,c1,c2,c3,c4,c5,c6⟩:=zcu ((hb2.block wr.heap.size (lt_of_block X0.out)).trans X0.out);clear hb2)
     | (go_at_call 47;have hx:=HC2.out _ P0.out;refine hx.mono ?_;clear hx;rintro e w2 ⟨rfl,hb2⟩;have P1:=hid (P0.out.on hb2);have B1:=hid (zae B0.out hb2);obtain⟨c0,c1,c2,c3,c4,c5,c6⟩:=zcu ((hb2.block wr.heap.size (lt_of_block X0.out)).trans X0.out);clear hb2))
    all_goals
     go_wp2_with fail
     go_round
     case rel=>exact⟨n+1,by omega,by go_num,by rw[HR.out],B2.out⟩
     case measure=>simp[intOf];omega
   ·obtain rfl:n=l.length:=by omega
    have HE:Hid (wrap64 ((l.length+under (l.take l.length):Nat):Int)=wrap64 ((cnts l:Nat):Int)):=hid (by rw[List.take_length,zdW])
    go_wp2
    go_ret
    exact⟨by rw[←HE.out];rfl,HB.out⟩
end Go.Proofs.YtbilfdapmbahgaaGreatDoor
namespace Go.Proofs.YtbilfdapmbahgaaGreatDoor
open Go Go.RowKit
open Go.Lib (hid)
theorem Pow.on {w0 w:World} (H:Pow w0) (h:Past w0 w):Pow w:=fun w' h'=>H w' (h.on h')
end Go.Proofs.YtbilfdapmbahgaaGreatDoor
namespace Go.Proofs.YtbilfdapmbahgaaGreatDoor
open Go Go.RowKit
open Go.Lib (hid)
end Go.Proofs.YtbilfdapmbahgaaGreatDoor
namespace Go.Proofs.YtbilfdapmbahgaaGreatDoor
open Go Go.RowKit
open Go.Lib (hid)
end Go.Proofs.YtbilfdapmbahgaaGreatDoor
namespace Go.Proofs.YtbilfdapmbahgaaGreatDoor
open Go Go.RowKit
open Go.Lib (hid)
theorem gPow:Tryz.prog.globalNamed "internal/strconv.uint64pow10"=some 2:=by kernel_rfl
theorem laid_facts {l:List (String×DataW Unit)} {W:World} (h:laidMet Tryz.prog l W) (hm:("internal/strconv.uint64pow10",(Lib.tabData .u64 Lib.pow10Tab:DataW Unit))∈l:=by first | exact .head _ | exact .tail _ (.head _) | exact .tail _ (.tail _ (.head _))):Pow W:=by
 obtain⟨g,ty,cs,fuel,q,hg,hty,hv,hd⟩:=Lib.laidMet.reads h hm
 obtain rfl:=Option.some.inj (gPow.symm.trans hg)
 obtain rfl:376=ty:=Option.some.inj ((show(Tryz.prog.globals[2]?).map (·.type)=some 376 by kernel_rfl).symm.trans hty)
 refine Lib.tabBelow_of_tabIs ?_
 unfold Lib.TabIs
 rw[hv,←Lib.cells_of_tab Tryz.underlying376 Tryz.underlying221 (by kernel_rfl) (by kernel_rfl) hd]
end Go.Proofs.YtbilfdapmbahgaaGreatDoor

namespace Go.Proofs.YtbilfdapmbahgaaGreatDoor.Ck
open Go Go.RowKit Go.Proofs.YtbilfdapmbahgaaGreatDoor
instance memDec (x:ByteArray) (l:List ByteArray):Decidable (x∈l):=decidable_of_iff (l.any (fun y=>decide (y=x))=true) (by simp)
def sizeV (vs:List (ByteArray×Int)) (nm:ByteArray):Option Int:=match vs with
 | []=>none
 | d :: l=>if d.1=nm then some d.2 else sizeV l nm
def zeO (F:FT) (nm:ByteArray):Option Int:=if nm∈F.params then some 0 else sizeV F.vars nm
def namedF (F:FT) (nm:ByteArray) (arr:Bool):Nat:=match zeO F nm with
 | none=>6
 | some s=>if decide (0 < s)=arr then 0 else 7
theorem kids_sz {T:ET}:szs T.kids < T.sz:=by cases T;simp only[ET.kids,ET.sz];omega
theorem szs_mem {T:ET} {l:List ET} (h:T∈l):T.sz≤szs l:=by
 induction l with
 | nil=>cases h
 | cons U l ih =>
  rw[szs]
  rcases List.mem_cons.1 h with rfl | h
  ·omega
  ·have:=ih h;omega
mutual
def placeE (F:FT):ET→Nat
 | .mk k _ _ nm _ _ kids=>orE (if k=1∨k=2 then namedF F nm (decide (k=2)) else 0) (placeEs F kids)
def placeEs (F:FT):List ET→Nat
 | []=>0
 | T :: l=>orE (placeE F T) (placeEs F l)
end
def findN (l:List FT) (nm:ByteArray):Nat:=match l with
 | []=>0
 | F :: l=>if F.name=nm then 0 else findN l nm+1
def zeP (l:List FT) (nm:ByteArray):Int:=if findN l nm < l.length then (findN l nm:Int) else -1
def ST.es:ST→List ET
 | .mk _ _ _ _ _ _ e _ _ _ _ _ _=>e
def calleeF (l:List FT) (S:ST):Nat:=
 if S.kind≠3 then 0
 else if l.length≤findN l S.func then 6
 else if findN l S.func+1=l.length∨((l.map fun F=>F.params.length).getD (findN l S.func) 0)≠S.en then 10 else 0
def tagF (l:List FT) (i:Nat) (S:ST) (seen:List Int):Nat:=
 if 0 < S.tag then (if i+1=l.length∧S.tag∉seen then 0 else 9) else 0
def zbw (S:ST) (seen:List Int):List Int:=if 0 < S.tag then S.tag :: seen else seen
def jumpF (S:ST) (looped:Bool):Nat:=if (S.kind=6∨S.kind=7)∧looped=false then 8 else 0
def targetF (F:FT) (S:ST):Nat:=if S.name.data.toList=[] then 0 else namedF F S.name (decide (S.kind=1))
def askF (l:List FT) (i:Nat) (F:FT) (S:ST) (looped:Bool) (seen:List Int):Nat:=
 orE (tagF l i S seen) (orE (jumpF S looped) (orE (targetF F S) (orE (calleeF l S) (placeEs F (ST.es S)))))
def zao (looped:Bool) (S:ST):Bool:=looped||decide (S.kind=5)
def andThen (r:Nat×List Int) (f:List Int→Nat×List Int):Nat×List Int:=if r.1=0 then f r.2 else r
mutual
def chkS (l:List FT) (i:Nat) (F:FT) (looped:Bool):ST→List Int→Nat×List Int
 | .mk k t n f ea ec e ba bc b la lc el,seen =>
  andThen (andThen (askF l i F (.mk k t n f ea ec e ba bc b la lc el) looped seen,zbw (.mk k t n f ea ec e ba bc b la lc el) seen) (zba l i F (looped||decide (k=5)) b)) (zba l i F (looped||decide (k=5)) el)
def zba (l:List FT) (i:Nat) (F:FT) (looped:Bool):List ST→List Int→Nat×List Int
 | [],seen=>(0,seen)
 | S :: r,seen=>andThen (chkS l i F looped S seen) (zba l i F looped r)
end
theorem chkS_eq (l:List FT) (i:Nat) (F:FT) (looped:Bool) (S:ST) (seen:List Int):chkS l i F looped S seen =
  andThen (andThen (askF l i F S looped seen,zbw S seen) (zba l i F (zao looped S) S.body)) (zba l i F (zao looped S) S.els):=by
 cases S;rw[chkS];rfl
def repB (names:List ByteArray):Bool:=!decide names.Nodup
def zaV (F:FT):List ByteArray:=F.params++F.vars.map (·.1)
def zdk (F:FT):Bool:=decide (24 < F.params.length+F.vars.length)||F.vars.any fun d=>decide (64 < d.2)
def fnF (l:List FT) (i:Nat) (F:FT) (seen:List Int):Nat×List Int:=
 if zdk F then (5,seen) else if repB (zaV F) then (6,seen) else zba l i F false F.body seen
def stsV (l:List FT):Nat:=match l with
 | []=>0
 | F :: l=>cnts F.body+stsV l
def mainB (l:List FT):Bool:=match l with
 | []=>false
 | [F]=>decide (F.name={data:=#[109,97,105,110]})&&F.params.isEmpty
 | _ :: l=>mainB l
def wholeF (l:List FT):Nat:=
 if l.all FT.rightB=false then 1
 else if l.length=0∨16 < l.length∨400 < stsV l then 5
 else if repB (l.map (·.name)) then 6
 else if mainB l then 0 else 10
def fnsF (l:List FT):Nat→List FT→List Int→(Nat×List Int)×Int
 | _,[],seen=>((0,seen),-1)
 | n,F :: r,seen=>if (fnF l n F seen).1=0 then fnsF l (n+1) r (fnF l n F seen).2 else (fnF l n F seen,(n:Int))
def zcq (l:List FT):(Nat×List Int)×Int:=if wholeF l=0 then fnsF l 0 l [] else ((wholeF l,[]),-1)
def chkF (l:List FT):Nat×Int:=((zcq l).1.1,(zcq l).2)
def varsF (F:FT) (vars:List ByteArray):Nat:=match vars with
 | []=>0
 | a :: l=>orE (namedF F a false) (varsF F l)
end Go.Proofs.YtbilfdapmbahgaaGreatDoor.Ck
