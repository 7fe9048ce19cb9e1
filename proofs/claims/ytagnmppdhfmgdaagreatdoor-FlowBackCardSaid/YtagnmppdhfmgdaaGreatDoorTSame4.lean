/- What same asks of lists of expressions and of statements: are all fields the same, wherever they lie? (Written by gens.py.) What same asks of two. -/
import Derived.Test.YtagnmppdhfmgdaaGreatDoorTRight2
import Derived.Test.YtagnmppdhfmgdaaGreatDoorTStHeap
import Derived.Lib.LaidU8
import Derived.ProofKit
import Derived.Deep.QuietTactic
import Derived.BigQuiet
import Derived.Deep.RegionWith
import Derived.BigRegion
import Derived.Lib.AppendIntMem
import Derived.Deep.DeepCutAuto
set_option linter.unusedSimpArgs false
set_option linter.unusedVariables false
set_option maxHeartbeats 8000000
set_option maxRecDepth 100000
namespace Go.Proofs.YtagnmppdhfmgdaaGreatDoor
open Go Go.RowKit
mutual
def ST.cnt:ST→Nat
 | .mk _ _ _ _ _ _ _ _ _ b _ _ l=>1+(cnts b+cnts l)
def cnts:List ST→Nat
 | []=>0
 | S :: l=>S.cnt+cnts l
end
def ST.body:ST→List ST
 | .mk _ _ _ _ _ _ _ _ _ b _ _ _=>b
def ST.els:ST→List ST
 | .mk _ _ _ _ _ _ _ _ _ _ _ _ l=>l
theorem zb7 (S:ST):S.cnt=1+(cnts S.body+cnts S.els):=by cases S;rw[ST.cnt];rfl
theorem bn_is (S:ST):S.bn=S.body.length:=by cases S;rfl
theorem ln_is (S:ST):S.ln=S.els.length:=by cases S;rfl
theorem in_body {w:World} {B:Nat} {S:ST} (h:S.In w B):SsIn w B S.ba 0 S.body∧S.body.length≤9223372036854775807:=by
 cases S;rw[ST.In] at h;exact⟨h.2.2.2.1,h.2.1.2.1⟩
theorem in_els {w:World} {B:Nat} {S:ST} (h:S.In w B):SsIn w B S.la 0 S.els∧S.els.length≤9223372036854775807:=by
 cases S;rw[ST.In] at h;exact⟨h.2.2.2.2,h.2.1.2.2⟩
theorem zcW (S:ST):Szs S.body < S.sz∧Szs S.els < S.sz:=by
 cases S;simp only[ST.body,ST.els,ST.sz];omega
end Go.Proofs.YtagnmppdhfmgdaaGreatDoor
namespace Go.Proofs.YtagnmppdhfmgdaaGreatDoor
open Go Go.RowKit
theorem Pow.on {w0 w:World} (H:Pow w0) (h:Past w0 w):Pow w:=fun w' h'=>H w' (h.on h')
end Go.Proofs.YtagnmppdhfmgdaaGreatDoor
namespace Go.Proofs.YtagnmppdhfmgdaaGreatDoor
open Go Go.RowKit
end Go.Proofs.YtagnmppdhfmgdaaGreatDoor
namespace Go.Proofs.YtagnmppdhfmgdaaGreatDoor
open Go Go.RowKit
end Go.Proofs.YtagnmppdhfmgdaaGreatDoor
namespace Go.Proofs.YtagnmppdhfmgdaaGreatDoor
open Go Go.RowKit
theorem gPow:Tryz.prog.globalNamed "internal/strconv.uint64pow10"=some 2:=by kernel_rfl
theorem laid_facts {l:List (String×DataW Unit)} {W:World} (h:laidMet Tryz.prog l W) (hm:("internal/strconv.uint64pow10",(Lib.tabData .u64 Lib.pow10Tab:DataW Unit))∈l:=by first | exact .head _ | exact .tail _ (.head _) | exact .tail _ (.tail _ (.head _))):Pow W:=by
 obtain⟨g,ty,cs,fuel,q,hg,hty,hv,hd⟩:=Lib.laidMet.reads h hm
 obtain rfl:=Option.some.inj (gPow.symm.trans hg)
 obtain rfl:231=ty:=Option.some.inj ((show(Tryz.prog.globals[2]?).map (·.type)=some 231 by kernel_rfl).symm.trans hty)
 refine Lib.tabBelow_of_tabIs ?_
 unfold Lib.TabIs
 rw[hv,←Lib.cells_of_tab Tryz.underlying231 Tryz.underlying120 (by kernel_rfl) (by kernel_rfl) hd]
end Go.Proofs.YtagnmppdhfmgdaaGreatDoor

namespace Go.Proofs.YtagnmppdhfmgdaaGreatDoor
open Go Go.RowKit
end Go.Proofs.YtagnmppdhfmgdaaGreatDoor
namespace Go.Proofs.YtagnmppdhfmgdaaGreatDoor
open Go Go.RowKit
end Go.Proofs.YtagnmppdhfmgdaaGreatDoor
namespace Go.Proofs.YtagnmppdhfmgdaaGreatDoor
open Go Go.RowKit
end Go.Proofs.YtagnmppdhfmgdaaGreatDoor
namespace Go.Proofs.YtagnmppdhfmgdaaGreatDoor
open Go Go.RowKit
theorem below_dN (w:World) (n:Nat):Below w.heap.size w (w.drewN n):=⟨rfl,rfl,rfl,Nat.le_refl _,fun _ _=>rfl⟩
end Go.Proofs.YtagnmppdhfmgdaaGreatDoor
namespace Go.Proofs.YtagnmppdhfmgdaaGreatDoor
open Go Go.RowKit
end Go.Proofs.YtagnmppdhfmgdaaGreatDoor
