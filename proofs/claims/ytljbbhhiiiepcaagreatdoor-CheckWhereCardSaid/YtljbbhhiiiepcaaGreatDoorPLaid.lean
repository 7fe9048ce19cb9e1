/- The chapter's examples. -/
import Derived.Test.YtljbbhhiiiepcaaGreatDoorPParse
import Derived.Test.YtljbbhhiiiepcaaGreatDoorTStmts
import Derived.Stop.LaidErr
set_option linter.unusedSimpArgs false
set_option linter.unusedVariables false
set_option maxHeartbeats 8000000
set_option maxRecDepth 100000
namespace Go.Proofs.YtljbbhhiiiepcaaGreatDoor.Pm
open Go Go.RowKit Go.Proofs.YtljbbhhiiiepcaaGreatDoor
structure Wo (w:World):Prop where
 er:Lx.Errs w
 pw:Pow w
theorem Wo.on {w w':World} (h:Wo w) (hp:Past w w'):Wo w':=⟨h.er.on (show Lx.Past w w' from hp),h.pw.on hp⟩
theorem cellA {w w':World} {o:Obj} {p:Addr} {v:Value} (hb:Below (w.alloc o).heap.size (w.alloc o) w') (hc:w.cell? p=some v):w'.cell? p=some v:=by
 have hlt:=World.block_lt_of_cell? w p hc
 rw[World.cell?_of_block (w:=w.alloc o) (hb.block p.block (by simp;omega)),World.cell?_alloc_lt _ _ _ hlt]
 exact hc
section
variable {w0 w:World}
end
end Go.Proofs.YtljbbhhiiiepcaaGreatDoor.Pm
namespace Go.Proofs.YtljbbhhiiiepcaaGreatDoor.Pm
open Go Go.RowKit Go.Proofs.YtljbbhhiiiepcaaGreatDoor
theorem gSyn:Tryz.prog.globalNamed "strconv.ErrSyntax"=some 0:=by kernel_rfl
theorem gRng:Tryz.prog.globalNamed "strconv.ErrRange"=some 1:=by kernel_rfl
theorem gSynT:(Tryz.prog.globals[0]?).map (·.type)=some 217:=by kernel_rfl
theorem gRngT:(Tryz.prog.globals[1]?).map (·.type)=some 217:=by kernel_rfl
theorem starErr: "*"++ "errors.errorString"= "*errors.errorString":=by decide
theorem row_err (u:TypeId) (h:Tryz.prog.typeName? 3 u=some "*errors.errorString"):u=304:=
 typeName_ptr_named (nm:= "errors.errorString") (by rw[starErr];kernel_rfl) (by kernel_rfl) (by decide) u (by rw[starErr];exact h)
theorem errs_facts {x y z:String×DataW Unit} {W:World}
  (h:laidMet Tryz.prog [x,y,z,("strconv.ErrRange",.iface "*errors.errorString" (.ptr (.agg [.lit (.string [118,97,108,117,101,32,111,117,116,32,111,102,32,114,97,110,103,101])]))),("strconv.ErrSyntax",.iface "*errors.errorString" (.ptr (.agg [.lit (.string [105,110,118,97,108,105,100,32,115,121,110,116,97,120])])))] W):Lx.Errs W:=by
 have h3:=h.tail.tail.tail
 obtain⟨a1,s1,hv1,_⟩:=laid_sentinel h3 gRng gRngT Tryz.underlying217 row_err Tryz.underlying304 Tryz.underlying306 rfl rfl Tryz.underlying9 (by kernel_rfl) (by kernel_rfl)
 obtain⟨a2,s2,hv2,_⟩:=laid_sentinel h3.tail gSyn gSynT Tryz.underlying217 row_err Tryz.underlying304 Tryz.underlying306 rfl rfl Tryz.underlying9 (by kernel_rfl) (by kernel_rfl)
 exact⟨⟨_,_,hv2⟩,⟨_,_,hv1⟩⟩
theorem wo_facts {x y:String×DataW Unit} {W:World} (h:laidMet Tryz.prog [x,y,("internal/strconv.uint64pow10",(Lib.tabData .u64 Lib.pow10Tab:DataW Unit)),("strconv.ErrRange",.iface "*errors.errorString" (.ptr (.agg [.lit (.string [118,97,108,117,101,32,111,117,116,32,111,102,32,114,97,110,103,101])]))),("strconv.ErrSyntax",.iface "*errors.errorString" (.ptr (.agg [.lit (.string [105,110,118,97,108,105,100,32,115,121,110,116,97,120])])))] W):Wo W:=
 ⟨errs_facts h,laid_facts h⟩
end Go.Proofs.YtljbbhhiiiepcaaGreatDoor.Pm
