/- What right asks of one expression. -/
import Derived.Test.YtagnmppdhfmgdaaGreatDoorTStHeap
import Derived.Deep.QuietTactic
import Derived.BigQuiet
import Derived.Deep.RegionWith
import Derived.BigRegion
import Derived.Lib.AppendIntMem
import Derived.Deep.DeepCutAuto
set_option linter.unusedSimpArgs false
set_option linter.unusedVariables false
set_option maxHeartbeats 8000000
set_option maxRecDepth 100000
namespace Go.Proofs.YtagnmppdhfmgdaaGreatDoor
open Go Go.RowKit
theorem cells7 {w:World} {b:Nat} {t:TypeId} {fr:Nat×Nat} {v0 v1 v2 v3 v4 v5 v6:Value} (h:w.heap[b]?=some (.cells #[v0,v1,v2,v3,v4,v5,v6] t fr)):
  w.cell? ⟨b,0,none⟩=some v0∧w.cell? ⟨b,1,none⟩=some v1∧w.cell? ⟨b,2,none⟩=some v2∧w.cell? ⟨b,3,none⟩=some v3∧w.cell? ⟨b,4,none⟩=some v4∧w.cell? ⟨b,5,none⟩=some v5∧w.cell? ⟨b,6,none⟩=some v6:=
 ⟨zab h rfl,zab h rfl,zab h rfl,zab h rfl,zab h rfl,zab h rfl,zab h rfl⟩
theorem ST.cells_is (k t:Int) (n f:ByteArray) (ea:Option Addr) (ec:Nat) (e:List ET) (ba:Option Addr) (bc:Nat) (b:List ST) (la:Option Addr) (lc:Nat) (l:List ST):(ST.mk k t n f ea ec e ba bc b la lc l).cells=#[.int .i64 k,.int .i64 t,.string n,.string f,.slice ea e.length ec,.slice ba b.length bc,.slice la l.length lc]:=rfl
end Go.Proofs.YtagnmppdhfmgdaaGreatDoor
namespace Go.Proofs.YtagnmppdhfmgdaaGreatDoor
open Go Go.RowKit
def ST.kind:ST→Int
 | .mk k _ _ _ _ _ _ _ _ _ _ _ _=>k
def ST.tag:ST→Int
 | .mk _ t _ _ _ _ _ _ _ _ _ _ _=>t
def ST.name:ST→ByteArray
 | .mk _ _ n _ _ _ _ _ _ _ _ _ _=>n
def ST.func:ST→ByteArray
 | .mk _ _ _ f _ _ _ _ _ _ _ _ _=>f
def ST.ea:ST→Option Addr
 | .mk _ _ _ _ ea ec e ba bc b la lc l=>ea
def ST.ec:ST→Nat
 | .mk _ _ _ _ ea ec e ba bc b la lc l=>ec
def ST.en:ST→Nat
 | .mk _ _ _ _ ea ec e ba bc b la lc l=>e.length
def ST.ba:ST→Option Addr
 | .mk _ _ _ _ ea ec e ba bc b la lc l=>ba
def ST.bc:ST→Nat
 | .mk _ _ _ _ ea ec e ba bc b la lc l=>bc
def ST.bn:ST→Nat
 | .mk _ _ _ _ ea ec e ba bc b la lc l=>b.length
def ST.la:ST→Option Addr
 | .mk _ _ _ _ ea ec e ba bc b la lc l=>la
def ST.lc:ST→Nat
 | .mk _ _ _ _ ea ec e ba bc b la lc l=>lc
def ST.ln:ST→Nat
 | .mk _ _ _ _ ea ec e ba bc b la lc l=>l.length
theorem ST.cells_eq (S:ST):S.cells=#[.int .i64 S.kind,.int .i64 S.tag,.string S.name,.string S.func,.slice S.ea S.en S.ec,.slice S.ba S.bn S.bc,.slice S.la S.ln S.lc]:=by cases S;rfl
theorem ST.val_eq (S:ST):S.val=.agg #[.int .i64 S.kind,.int .i64 S.tag,.string S.name,.string S.func,.slice S.ea S.en S.ec,.slice S.ba S.bn S.bc,.slice S.la S.ln S.lc]:=by cases S;rfl
structure Cells7 (w:World) (b o:Nat) (v0 v1 v2 v3 v4 v5 v6:Value):Prop where
 c0:w.cell? ⟨b,o,none⟩=some v0
 c1:w.cell? ⟨b,o+1,none⟩=some v1
 c2:w.cell? ⟨b,o+2,none⟩=some v2
 c3:w.cell? ⟨b,o+3,none⟩=some v3
 c4:w.cell? ⟨b,o+4,none⟩=some v4
 c5:w.cell? ⟨b,o+5,none⟩=some v5
 c6:w.cell? ⟨b,o+6,none⟩=some v6
 lt:b < w.heap.size
theorem zdm {w0 w:World} {B b o i:Nat} {v0 v1 v2 v3 v4 v5 v6:Value} (h:RowAt w0 B (some ⟨b,o,none⟩) i 7 #[v0,v1,v2,v3,v4,v5,v6]) (hp:Past w0 w):Cells7 w b (o+i*7) v0 v1 v2 v3 v4 v5 v6:=by
 obtain⟨b',o',e,-,hc⟩:=h
 simp only[Option.some.injEq,Addr.mk.injEq,and_true] at e
 obtain⟨rfl,rfl⟩:=e
 have k:=zav hp (B:=0)
 have h0:=k _ _ (Nat.zero_le _) (hc 0 v0 rfl)
 exact⟨h0,k _ _ (Nat.zero_le _) (hc 1 v1 rfl),k _ _ (Nat.zero_le _) (hc 2 v2 rfl),k _ _ (Nat.zero_le _) (hc 3 v3 rfl),k _ _ (Nat.zero_le _) (hc 4 v4 rfl),k _ _ (Nat.zero_le _) (hc 5 v5 rfl),k _ _ (Nat.zero_le _) (hc 6 v6 rfl),zdA h0⟩
end Go.Proofs.YtagnmppdhfmgdaaGreatDoor

namespace Go.Proofs.YtagnmppdhfmgdaaGreatDoor
open Go Go.RowKit
structure FT where
 name:ByteArray
 pa:Option Addr
 pc:Nat
 params:List ByteArray
 va:Option Addr
 vc:Nat
 vars:List (ByteArray×Int)
 ba:Option Addr
 bc:Nat
 body:List ST
def FT.cells (F:FT):Array Value:=#[.string F.name,.slice F.pa F.params.length F.pc,.slice F.va F.vars.length F.vc,.slice F.ba F.body.length F.bc]
abbrev FT.val (F:FT):Value:=.agg F.cells
def StrAt (w:World) (B:Nat) (a:Option Addr) (i:Nat) (s:ByteArray):Prop:=∃b o,a=some ⟨b,o,none⟩∧B≤b∧w.cell? ⟨b,o+i,none⟩=some (.string s)
structure FT.In (w:World) (B:Nat) (F:FT):Prop where
 pl:F.params.length≤9223372036854775807
 vl:F.vars.length≤9223372036854775807
 bl:F.body.length≤9223372036854775807
 ps:∀(i:Nat) (h:i < F.params.length),StrAt w B F.pa i F.params[i]
 vs:∀(i:Nat) (h:i < F.vars.length),RowAt w B F.va i 2 #[.string F.vars[i].1,.int .i64 F.vars[i].2]
 vr:∀(i:Nat) (h:i < F.vars.length),-9223372036854775808≤F.vars[i].2∧F.vars[i].2≤9223372036854775807
 ss:SsIn w B F.ba 0 F.body
structure FsIn (w:World) (B:Nat) (a:Option Addr) (l:List FT):Prop where
 len:l.length≤9223372036854775807
 row:∀(i:Nat) (h:i < l.length),RowAt w B a i 4 l[i].cells
 fs:∀(i:Nat) (h:i < l.length),l[i].In w B
theorem StrAt.keep {w w':World} {B:Nat} {a:Option Addr} {i:Nat} {s:ByteArray} (h:StrAt w B a i s) (hk:∀p v,B≤p.block→w.cell? p=some v→w'.cell? p=some v):StrAt w' B a i s:=by
 obtain⟨b,o,e,hB,hc⟩:=h
 exact⟨b,o,e,hB,hk _ _ hB hc⟩
theorem StrAt.mono {w:World} {B B':Nat} {a:Option Addr} {i:Nat} {s:ByteArray} (h:StrAt w B a i s) (hB:B'≤B):StrAt w B' a i s:=by
 obtain⟨b,o,e,h1,hc⟩:=h
 exact⟨b,o,e,Nat.le_trans hB h1,hc⟩
theorem FT.In.keep {w w':World} {B:Nat} {F:FT} (h:F.In w B) (hk:∀p v,B≤p.block→w.cell? p=some v→w'.cell? p=some v):F.In w' B:=
 ⟨h.pl,h.vl,h.bl,fun i hi=>(h.ps i hi).keep hk,fun i hi=>(h.vs i hi).keep hk,h.vr,h.ss.keep hk⟩
theorem FT.In.mono {w:World} {B B':Nat} {F:FT} (h:F.In w B) (hB:B'≤B):F.In w B':=
 ⟨h.pl,h.vl,h.bl,fun i hi=>(h.ps i hi).mono hB,fun i hi=>(h.vs i hi).mono hB,h.vr,h.ss.mono hB⟩
theorem FsIn.keep {w w':World} {B:Nat} {a:Option Addr} {l:List FT} (h:FsIn w B a l) (hk:∀p v,B≤p.block→w.cell? p=some v→w'.cell? p=some v):FsIn w' B a l:=
 ⟨h.len,fun i hi=>(h.row i hi).keep hk,fun i hi=>(h.fs i hi).keep hk⟩
theorem FsIn.mono {w:World} {B B':Nat} {a:Option Addr} {l:List FT} (h:FsIn w B a l) (hB:B'≤B):FsIn w B' a l:=
 ⟨h.len,fun i hi=>(h.row i hi).mono hB,fun i hi=>(h.fs i hi).mono hB⟩
theorem FsIn.on {w w':World} {B:Nat} {a:Option Addr} {l:List FT} (h:FsIn w B a l) (hb:Below w.heap.size w w'):FsIn w' B a l:=h.keep (zav hb)
def declB (d:ByteArray×Int):Bool:=nmB d.1&&decide (0≤d.2)
def FT.rightB (F:FT):Bool:=nmB F.name&&(F.params.all nmB&&(F.vars.all declB&&zak F.body))
def FT.rf (F:FT):RF:={name:=F.name.data.toList,params:=F.params.map fun s=>s.data.toList,vars:=F.vars.map fun d=>(d.1.data.toList,d.2.toNat),body:=rss F.body}
end Go.Proofs.YtagnmppdhfmgdaaGreatDoor
namespace Go.Proofs.YtagnmppdhfmgdaaGreatDoor
open Go Go.RowKit
structure Cells4 (w:World) (b o:Nat) (v0 v1 v2 v3:Value):Prop where
 c0:w.cell? ⟨b,o,none⟩=some v0
 c1:w.cell? ⟨b,o+1,none⟩=some v1
 c2:w.cell? ⟨b,o+2,none⟩=some v2
 c3:w.cell? ⟨b,o+3,none⟩=some v3
 lt:b < w.heap.size
theorem row_cells4 {w0 w:World} {B b o i:Nat} {v0 v1 v2 v3:Value} (h:RowAt w0 B (some ⟨b,o,none⟩) i 4 #[v0,v1,v2,v3]) (hp:Past w0 w):Cells4 w b (o+i*4) v0 v1 v2 v3:=by
 obtain⟨b',o',e,-,hc⟩:=h
 simp only[Option.some.injEq,Addr.mk.injEq,and_true] at e
 obtain⟨rfl,rfl⟩:=e
 have k:=zav hp (B:=0)
 have h0:=k _ _ (Nat.zero_le _) (hc 0 v0 rfl)
 exact⟨h0,k _ _ (Nat.zero_le _) (hc 1 v1 rfl),k _ _ (Nat.zero_le _) (hc 2 v2 rfl),k _ _ (Nat.zero_le _) (hc 3 v3 rfl),zdA h0⟩
end Go.Proofs.YtagnmppdhfmgdaaGreatDoor
namespace Go.Proofs.YtagnmppdhfmgdaaGreatDoor
open Go Go.RowKit
theorem FT.cells_eq (F:FT):F.cells=#[.string F.name,.slice F.pa F.params.length F.pc,.slice F.va F.vars.length F.vc,.slice F.ba F.body.length F.bc]:=rfl
theorem FT.val_eq (F:FT):F.val=.agg #[.string F.name,.slice F.pa F.params.length F.pc,.slice F.va F.vars.length F.vc,.slice F.ba F.body.length F.bc]:=rfl
end Go.Proofs.YtagnmppdhfmgdaaGreatDoor

namespace Go.Proofs.YtagnmppdhfmgdaaGreatDoor
open Go Go.RowKit
end Go.Proofs.YtagnmppdhfmgdaaGreatDoor
namespace Go.Proofs.YtagnmppdhfmgdaaGreatDoor
open Go Go.RowKit
def FT.text (F:FT):List UInt8:=putF levL F.rf
end Go.Proofs.YtagnmppdhfmgdaaGreatDoor
namespace Go.Proofs.YtagnmppdhfmgdaaGreatDoor
open Go Go.RowKit
def progT (l:List FT):List UInt8:=l.flatMap FT.text
end Go.Proofs.YtagnmppdhfmgdaaGreatDoor

namespace Go.Proofs.YtagnmppdhfmgdaaGreatDoor
open Go Go.RowKit
abbrev exV (k:Int) (o:ByteArray) (n:Int) (m:ByteArray) (v:Value):Value:=.agg #[.int .i64 k,.string o,.int .i64 n,.string m,v]
end Go.Proofs.YtagnmppdhfmgdaaGreatDoor
namespace Go.Proofs.YtagnmppdhfmgdaaGreatDoor
open Go Go.RowKit
theorem zaE {w w1 w2:World} (h:Below w.heap.size w w1) (g:Below w1.heap.size w1 w2):Below w.heap.size w w2:=h.trans (g.mono h.size)
theorem szs_nth:∀{l:List ET} {n:Nat} (hn:n < l.length),l[n].sz≤szs l
 | T :: l,0,_=>by simp[szs]
 | T :: l,n+1,h=>by
  have:=szs_nth (l:=l) (n:=n) (by simpa using h)
  simp only[szs,List.getElem_cons_succ]
  omega
end Go.Proofs.YtagnmppdhfmgdaaGreatDoor
