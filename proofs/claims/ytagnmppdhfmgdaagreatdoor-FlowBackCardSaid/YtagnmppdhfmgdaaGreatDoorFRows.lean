/- Rows of numbers: read, cloned, held against one another. -/
import Derived.Test.YtagnmppdhfmgdaaGreatDoorFNew
import Derived.Laws.CopyOwn
import Derived.Laws.MakeOwn
import Derived.Laws.BitsLemmas
set_option linter.unusedSimpArgs false
set_option linter.unusedVariables false
set_option maxHeartbeats 8000000
set_option maxRecDepth 100000
namespace Go.Proofs.YtagnmppdhfmgdaaGreatDoor.Fl
open Go Go.RowKit Go.Proofs.YtagnmppdhfmgdaaGreatDoor
open Go.Lib (hid)
def NumAt (w:World) (a:Option Addr) (l:List Int):Prop:=∀(i:Nat) (h:i < l.length),∃b o,a=some ⟨b,o,none⟩∧w.cell? ⟨b,o+i,none⟩=some (.int .i64 l[i])
def RowsAt (w:World) (a:Option Addr) (rows:List (List Int)):Prop:=∀(i:Nat) (h:i < rows.length),∃b o ra rc,a=some ⟨b,o,none⟩∧w.cell? ⟨b,o+i,none⟩=some (.slice ra rows[i].length rc)∧(rows[i].length≤100000∧(ra=none→rc=0))∧NumAt w ra rows[i]
theorem NumAt.on {w w':World} {a:Option Addr} {l:List Int} (h:NumAt w a l) (hp:Below w.heap.size w w'):NumAt w' a l:=fun i hi=>by
 obtain⟨b,o,e,hc⟩:=h i hi
 exact⟨b,o,e,zau hp (B:=0) _ _ (Nat.zero_le _) hc⟩
theorem RowsAt.on {w w':World} {a:Option Addr} {l:List (List Int)} (h:RowsAt w a l) (hp:Below w.heap.size w w'):RowsAt w' a l:=fun i hi=>by
 obtain⟨b,o,ra,rc,e,hc,hl,hn⟩:=h i hi
 exact⟨b,o,ra,rc,e,zau hp (B:=0) _ _ (Nat.zero_le _) hc,hl,hn.on hp⟩
def RowsO (w:World) (B g n:Nat) (rows:List (List Int)):Prop:=rows.length=n∧∃rv,w.ownsRow B 29 1 (.slice (some ⟨g,0,none⟩) n n) n rv∧∀(i:Nat) (r:List Int),rows[i]?=some r→∃u,rv[i]?=some u∧w.ownsRow B 3 1 u r.length (ints r)
theorem zdR {w:World} {B n:Nat} {u:Value} {r:List Int} (h:w.ownsRow B 3 1 u n (ints r)):∃ra rc,u=.slice ra r.length rc∧(ra=none→rc=0)∧NumAt w ra r:=by
 have hl:r.length=n:=by have:=h.1;simp[ints] at this;omega
 subst hl
 rcases h.2 with ⟨e,h0⟩ | ⟨g,cap,cur,e,-,hg,-,-,-,ht⟩
 ·have:r=[]:=List.length_eq_zero_iff.1 h0
  subst this
  exact⟨none,0,e,fun _=>rfl,fun i hi=>absurd hi (by simp)⟩
 ·refine⟨some ⟨g,0,none⟩,cap,e,(fun h=>by cases h),fun i hi=>⟨g,0,rfl,?_⟩⟩
  subst e
  rw[Nat.zero_add,h.cellAt i (by omega),ints,List.getElem?_map,List.getElem?_eq_getElem hi];rfl
theorem zdk {w:World} {B n g c:Nat} {rv:List Value} {rows:List (List Int)} (hl:rows.length=n) (h:w.ownsRow B 29 1 (.slice (some ⟨g,0,none⟩) n c) n rv) (hr:∀(i:Nat) (r:List Int),rows[i]?=some r→∃u,rv[i]?=some u∧w.ownsRow B 3 1 u r.length (ints r)) (hm:∀r∈rows,r.length≤100000):RowsAt w (some ⟨g,0,none⟩) rows:=fun i hi=>by
 obtain⟨u,h1,h2⟩:=hr i rows[i] (List.getElem?_eq_getElem hi)
 obtain⟨ra,rc,e,h3,h4⟩:=zdR h2
 refine⟨g,0,ra,rc,rfl,?_,⟨hm _ (List.getElem_mem hi),h3⟩,h4⟩
 rw[Nat.zero_add,h.cellAt i (by omega),h1,e]
theorem RowsO.at {w:World} {B g n:Nat} {rows:List (List Int)} (h:RowsO w B g n rows) (hm:∀r∈rows,r.length≤100000):RowsAt w (some ⟨g,0,none⟩) rows:=by
 obtain⟨h1,rv,h2,h3⟩:=h
 exact zdk h1 h2 h3 hm
theorem clone_any (ao:Option Addr) (n cap:Nat) (r:List Int) (hn:r.length=n) (hl:n≤100000) (h0:ao=none→cap=0) (w:World) (h:NumAt w ao r):
  Calls Tryz.prog 36 #[.slice ao n cap] w fun e w'=>∃v,e=.returned v∧w'.ownsRow w.heap.size 3 1 v n (ints r)∧Below w.heap.size w w':=by
 cases ao with
 | none =>
  obtain rfl:cap=0:=h0 rfl
  have hr:r=[]:=by
   cases r with
   | nil=>rfl
   | cons x r=>obtain⟨b,o,e,-⟩:=h 0 (by simp);cases e
  subst hr
  subst hn
  clear h
  have hq:=fun W:World=>Lib.run_eql_slice_nil (P:=Tryz.prog) W 29 _ none 0 0 0 0 Tryz.underlying29
  simp only[Option.isNone_none] at hq
  go_enter Tryz.func36,Tryz.ntmps36
  go_wp2
  go_ret
  exact⟨_,rfl,World.ownsRow_nil _ _ _ _,Below.refl _ _⟩
 | some a =>
  obtain⟨ii,hii,hi0,hi1,hi2⟩:=info_parts zcL
  have hc2:∀j u,(ints r)[j]?=some u→(w.alloc (.cells #[] 3)).cell? (a.add j)=some u:=fun j u hj=>by
   rw[ints,List.getElem?_map] at hj
   cases hx:r[j]? with
   | none=>rw[hx] at hj;cases hj
   | some x =>
    rw[hx] at hj
    simp only[Option.map_some,Option.some.injEq] at hj
    subst hj
    have hlt:=zaH hx
    obtain⟨b,o,e,hc⟩:=h j hlt
    simp only[Option.some.injEq] at e
    subst e
    have ea:(⟨b,o,none⟩:Addr).add j=⟨b,o+j,none⟩:=by unfold Addr.add;split<;>simp_all
    rw[ea,World.cell?_alloc_lt _ _ _ (by exact World.block_lt_of_cell? w _ hc),hc]
    rw[List.getElem?_eq_getElem hlt] at hx
    simp only[Option.some.injEq] at hx
    rw[hx]
  have h00:(w.alloc (.cells #[] 3)).ownsRow w.heap.size 3 1 (.slice (some ⟨w.heap.size,0,none⟩) 0 0) 0 []:=⟨rfl,.inr ⟨w.heap.size,0,#[],rfl,Nat.le_refl _,zai w _,Nat.le_refl _,Nat.zero_le _,rfl,rfl⟩⟩
  have hone:∀u∈ints r,u.oneCell'=true:=by
   intro u hu
   simp only[ints,List.mem_map] at hu
   obtain⟨z,-,rfl⟩:=hu
   rfl
  have H0:=hid h00
  have HC:=hid hc2
  have HO:=hid (And.intro hone (show(ints r).length=n*1 by simp[ints,hn]))
  have hq:=fun W:World=>Lib.run_eql_slice_nil (P:=Tryz.prog) W 29 _ (some a) n cap 0 0 Tryz.underlying29
  simp only[Option.isNone_some] at hq
  clear h00 hc2 hone h
  go_enter Tryz.func36,Tryz.ntmps36
  go_wp2_with (at_builtin;refine wpList_append_own _ rfl _ _ 29 rfl w.heap.size 3 ii _ 1 8 Tryz.underlying29 hii hi0 hi1 hi2 rfl (by decide) _ _ _ rfl H0.out a n cap (ints r) rfl HO.out.2 HC.out HO.out.1 ?c1 ?c2 ?c3 ?_)
  case c1=>unfold maxLen;omega
  case c2=>omega
  case c3=>simp
  intro v' w2 hown hgrow _
  have hX:=hid (And.intro hown hgrow)
  clear hown hgrow
  go_wp2
  go_ret
  obtain⟨ho,hgr⟩:=hX.out
  exact⟨v',rfl,ho,((Below.refl _ _).alloc (Nat.le_refl _) _).grown hgr (by simp) (fun k hk=>by simp[Value.ownBlock] at hk;omega)⟩
end Go.Proofs.YtagnmppdhfmgdaaGreatDoor.Fl
