/- What a walk is told of a slice of integers that came in. -/
import Derived.Test.YtljbbhhiiiepcaaGreatDoorProg
import Derived.OpenShut
set_option linter.unusedSimpArgs false
set_option linter.unusedVariables false
set_option maxHeartbeats 8000000
set_option maxRecDepth 100000
namespace Go.Proofs.YtljbbhhiiiepcaaGreatDoor
open Go Go.RowKit
def RowIn (k:IntKind) (w:World) (a:Option Addr) (len:Nat) (zs:List Int):Prop:=
 len≤9223372036854775807∧(0 < len→∃b off,a=some ⟨b,off,none⟩∧b < w.heap.size∧∀i,i < len→w.cell? ⟨b,off+i,none⟩=some (.int k (zs.getD i 0))∧(Lit.int k (zs.getD i 0)).wf=true)
theorem rowIn_none {k:IntKind} {w:World}:RowIn k w none 0 []:=⟨by decide,fun h=>by omega⟩
theorem rowIn_some {k:IntKind} {w:World} {x:Addr} {len cap:Nat} {zs:List Int} (hl:len≤cap) (hm:cap≤maxLen) (hz:zs.length=cap)
  (hc:∀i,i < zs.length→w.cell? (x.add i)=some (.int k (zs.getD i 0))) (hw:∀n∈zs,(Lit.int k n).wf=true):RowIn k w (some x) len zs:=by
 unfold maxLen at hm
 refine⟨by omega,fun h=>?_⟩
 obtain⟨b,off,spot⟩:=x
 have h0:=hc 0 (by omega)
 have hs:spot=none:=by simpa[Addr.add] using World.cell?_spot h0
 subst hs
 refine⟨b,off,rfl,by simpa[Addr.add] using World.block_lt_of_cell? _ _ h0,fun i hi=>⟨?_,?_⟩⟩
 ·have hi':=hc i (by omega)
  have e:(⟨b,off,none⟩:Addr).add i=⟨b,off+i,none⟩:=by
   unfold Addr.add
   split
   ·rename_i h;subst h;rfl
   ·rfl
  rw[e] at hi'
  exact hi'
 ·refine hw _ ?_
  rw[List.getD_eq_getElem?_getD,List.getElem?_eq_getElem (by omega)]
  exact List.getElem_mem _
end Go.Proofs.YtljbbhhiiiepcaaGreatDoor
