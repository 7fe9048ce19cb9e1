/- What is wrong with a program as a whole; what Check answers. -/
import Derived.Test.YtljbbhhiiiepcaaGreatDoorKCall2
import Derived.Test.YtljbbhhiiiepcaaGreatDoorKFunc
import Derived.Test.YtljbbhhiiiepcaaGreatDoorKPlain
import Derived.Maps.AppendAt
set_option linter.unusedSimpArgs false
set_option linter.unusedVariables false
set_option maxHeartbeats 8000000
set_option maxRecDepth 100000
namespace Go.Proofs.YtljbbhhiiiepcaaGreatDoor.Ck
open Go Go.RowKit Go.Proofs.YtljbbhhiiiepcaaGreatDoor
open Go.Lib (hid)
def e4 (F:FT):Nat:=if F.name.data.toList=[109,97,105,110]∧F.params.length=0 then 0 else 10
theorem whole4_any {w0:World} {a:Option Addr} {l:List FT} (hin:FsIn w0 0 a l) (c mb bx bo k:Nat) (hk:k+1=l.length) (w:World) (hp0:Past w0 w) (hx:XBox w bx a l.length c mb) (hb:Box w bo (.slice a l.length c) 22) (hkk:k < l.length):
  Calls Tryz.prog 94 #[.pointer (some ⟨bo,0,none⟩),.pointer (some ⟨bx,0,none⟩)] w fun e w'=>e=.returned (.int .i64 (e4 l[k]:Nat))∧Below w.heap.size w w':=by
 obtain⟨x0,x1,hlx⟩:=zdQ hx
 have b0:=hb.c0
 have hlb:=hb.lt
 have hrow:=hin.row k hkk
 obtain⟨kb,ko,rfl,-⟩:=hrow
 have hrow:=hin.row k hkk
 rw[F.cells_is] at hrow
 obtain⟨r0,r1,r2,r3,hkb⟩:=zbk hrow hp0
 have hn:=hin.len
 have el:(l.length:Int) - 1=(k:Int):=by omega
 have hLL:=fun W=>last_any (some ⟨kb,ko,none⟩) l.length c mb hn W
 rw[el] at hLL
 have HL:=hid hLL
 have HC:Hid (∀W,Below w.heap.size w W→(W.cell? ⟨bo,0,none⟩=some (.slice (some ⟨kb,ko,none⟩) l.length c)∧W.cell? ⟨bx,0,none⟩=some (.slice (some ⟨kb,ko,none⟩) l.length c)∧W.cell? ⟨bx,1,none⟩=some (.map (some mb))∧W.cell? ⟨kb,ko+k*4,none⟩=some (.string l[k].name)∧W.cell? ⟨kb,ko+k*4+1,none⟩=some (.slice l[k].pa l[k].params.length l[k].pc)∧W.cell? ⟨kb,ko+k*4+2,none⟩=some (.slice l[k].va l[k].vars.length l[k].vc)∧W.cell? ⟨kb,ko+k*4+3,none⟩=some (.slice l[k].ba l[k].body.length l[k].bc))):=hid (fun W hb=>⟨(hb.cell (p:=⟨bo,0,none⟩) hlb).trans b0,(hb.cell (p:=⟨bx,0,none⟩) hlx).trans x0,(hb.cell (p:=⟨bx,1,none⟩) hlx).trans x1,(hb.cell (p:=⟨kb,ko+k*4,none⟩) hkb).trans r0,(hb.cell (p:=⟨kb,ko+k*4+1,none⟩) hkb).trans r1,(hb.cell (p:=⟨kb,ko+k*4+2,none⟩) hkb).trans r2,(hb.cell (p:=⟨kb,ko+k*4+3,none⟩) hkb).trans r3⟩)
 have hp:Hid (Below w.heap.size w w.drew):=hid ((Below.refl w.heap.size w).drew)
 clear hLL hrow hp0 hin hx hb r0 r1 r2 r3 x0 x1 b0
 go_enter Tryz.func94,Tryz.ntmps94
 go_wp2
 refine wp_region_noPanic ?_
 refine wp_region_held_drew (S:=fun w'=>w'.cell? ⟨bo,0,none⟩=some (.slice (some ⟨kb,ko,none⟩) l.length c)∧w'.cell? ⟨bx,0,none⟩=some (.slice (some ⟨kb,ko,none⟩) l.length c)∧w'.cell? ⟨bx,1,none⟩=some (.map (some mb))∧w'.cell? ⟨kb,ko+k*4,none⟩=some (.string l[k].name)∧w'.cell? ⟨kb,ko+k*4+1,none⟩=some (.slice l[k].pa l[k].params.length l[k].pc)∧w'.cell? ⟨kb,ko+k*4+2,none⟩=some (.slice l[k].va l[k].vars.length l[k].vc)∧w'.cell? ⟨kb,ko+k*4+3,none⟩=some (.slice l[k].ba l[k].body.length l[k].bc)) (by kernel_rfl) ?_ (fun hHeld=>?_)
 ·with_reducible exact HC.out _ hp.out
 refine wpAnyH_take (i:=0) (v:=?_) (opAt rfl) (by kernel_rfl) (by kernel_rfl) (by kernel_rfl) (fun _ _ _ h=>h) (Or.inl ⟨by rfl,?_⟩) (by assumption) ?_
 rotate_left
 ·intro w' hSw;(try dsimp only at hSw);go_simp;(try with_reducible rfl)
 try simp only[Act.put,List.setIfInBounds_toArray,List.set_cons_zero,List.set_cons_succ]
 refine wpAnyH_take (i:=1) (v:=?_) (opAt rfl) (by kernel_rfl) (by kernel_rfl) (by kernel_rfl) (fun _ _ _ h=>h) (Or.inl ⟨by rfl,?_⟩) (by assumption) ?_
 rotate_left
 ·intro w' hSw;(try dsimp only at hSw);go_simp;(try with_reducible rfl)
 try simp only[Act.put,List.setIfInBounds_toArray,List.set_cons_zero,List.set_cons_succ]
 refine wpAnyH_ready (rs:=[2,5]) (by kernel_rfl) (by simp) ?_
 refine AllReadyH.cons (opAt rfl) (fun K hK=>?_) (AllReadyH.cons (opAt rfl) (fun K hK=>?_) AllReadyH.nil)
 ·go_simp
  go_at_call 95;((with_reducible refine(HL.out _).mono ?_);rintro e wk ⟨rfl,hb⟩)
  have hq:=hid (zan hp.out hb)
  clear hp hb
  have hp:=hq
  clear hq
  (try go_wp2_with fail)
  refine hK.out _ _ (HC.out _ hp.out) (fun hHeld2=>?_)
  clear hK K hHeld
  have hHeld:=hHeld2
  clear hHeld2
  try simp only[Act.put,List.setIfInBounds_toArray,List.set_cons_zero,List.set_cons_succ]
  refine wpAnyH_take (i:=3) (v:=?_) (opAt rfl) (by kernel_rfl) (by kernel_rfl) (by kernel_rfl) (fun _ _ _ h=>h) (Or.inl ⟨by rfl,?_⟩) (by assumption) ?_
  rotate_left
  ·intro w' hSw;(try dsimp only at hSw);go_simp;(try with_reducible rfl)
  try simp only[Act.put,List.setIfInBounds_toArray,List.set_cons_zero,List.set_cons_succ]
  refine wpAnyH_take (i:=4) (v:=?_) (opAt rfl) (by kernel_rfl) (by kernel_rfl) (by kernel_rfl) (fun _ _ _ h=>h) (Or.inl ⟨by rfl,?_⟩) (by assumption) ?_
  rotate_left
  ·intro w' hSw;(try dsimp only at hSw);go_simp;(try with_reducible rfl)
  try simp only[Act.put,List.setIfInBounds_toArray,List.set_cons_zero,List.set_cons_succ]
  refine wpAnyH_ready (rs:=[5]) (by kernel_rfl) (by simp) ?_
  refine AllReadyH.cons (opAt rfl) (fun K hK=>?_) AllReadyH.nil
  go_simp
  have HK1:=hp
  have hq:=hid (bal hp.out (.cells #[.string {data:=#[]},.slice none 0 0,.slice none 0 0,.slice none 0 0] 47))
  clear hp
  have hp:=hq
  clear hq
  refine hK.out _ _ (HC.out _ hp.out) (fun hHeld2=>?_)
  clear hK K hHeld
  have hHeld:=hHeld2
  clear hHeld2
  try simp only[Act.put,List.setIfInBounds_toArray,List.set_cons_zero,List.set_cons_succ]
  refine wpAnyH_ready (rs:=[6]) (by kernel_rfl) (by simp) ?_
  refine AllReadyH.cons (opAt rfl) (fun K hK=>?_) AllReadyH.nil
  go_simp
  have hq:=hid (bal HK1.out (.cells #[.string l[k].name,.slice l[k].pa l[k].params.length l[k].pc,.slice l[k].va l[k].vars.length l[k].vc,.slice l[k].ba l[k].body.length l[k].bc] 47))
  clear hp
  have hp:=hq
  clear hq
  refine hK.out _ _ (HC.out _ hp.out) (fun hHeld2=>?_)
  clear hK K hHeld
  have hHeld:=hHeld2
  clear hHeld2
  try simp only[Act.put,List.setIfInBounds_toArray,List.set_cons_zero,List.set_cons_succ]
  refine wpAnyH_done (by kernel_rfl) ?_ _
  refine NoPanic.normal ?_
  by_cases hnm:l[k].name.data.toList=[109,97,105,110]
  ·have e1:l[k].name.toList=[109,97,105,110]:=by rw[ByteArray.toList_eq];exact hnm
   by_cases hpl:l[k].params.length=0
   ·have HV:Hid (e4 l[k]=0):=hid (by unfold e4;rw[if_pos ⟨hnm,hpl⟩])
    have e2:decide (0 < (l[k].params.length:Int))=false:=decide_eq_false (by omega)
    have e3:decide (0 < l[k].params.length)=false:=decide_eq_false (by omega)
    clear hnm hpl
    go_wp2_with (go_at_call 38;refine(zaG _ _ _).mono ?_;rintro e w' ⟨rfl,rfl⟩)
    go_ret
    exact⟨by rw[HV.out];rfl,hp.out⟩
   ·have HV:Hid (e4 l[k]=10):=hid (by unfold e4;rw[if_neg (fun h=>hpl h.2)])
    have e2:decide (0 < (l[k].params.length:Int))=true:=decide_eq_true (by omega)
    have e3:decide (0 < l[k].params.length)=true:=decide_eq_true (by omega)
    clear hnm hpl
    go_wp2_with (go_at_call 38;refine(zaG _ _ _).mono ?_;rintro e w' ⟨rfl,rfl⟩)
    go_ret
    exact⟨by rw[HV.out];rfl,hp.out⟩
  ·have HV:Hid (e4 l[k]=10):=hid (by unfold e4;rw[if_neg (fun h=>hnm h.1)])
   have e1:(l[k].name.toList==[109,97,105,110])=false:=by rw[ByteArray.toList_eq];simpa using hnm
   clear hnm
   go_wp2_with (go_at_call 38;refine(zaG _ _ _).mono ?_;rintro e w' ⟨rfl,rfl⟩)
   go_ret
   exact⟨by rw[HV.out];rfl,hp.out⟩
 ·go_simp
  have hq:=hid (bal hp.out (.cells #[.string {data:=#[]},.slice none 0 0,.slice none 0 0,.slice none 0 0] 47))
  clear hp
  have hp:=hq
  clear hq
  refine hK.out _ _ (HC.out _ hp.out) (fun hHeld2=>?_)
  clear hK K hHeld
  have hHeld:=hHeld2
  clear hHeld2
  try simp only[Act.put,List.setIfInBounds_toArray,List.set_cons_zero,List.set_cons_succ]
  refine wpAnyH_ready (rs:=[2]) (by kernel_rfl) (by simp) ?_
  refine AllReadyH.cons (opAt rfl) (fun K hK=>?_) AllReadyH.nil
  go_simp
  go_at_call 95;((with_reducible refine(HL.out _).mono ?_);rintro e wk ⟨rfl,hb⟩)
  have hq:=hid (zan hp.out hb)
  have hX:=bl hb (nb (.cells #[.string {data:=#[]},.slice none 0 0,.slice none 0 0,.slice none 0 0] 47) rfl)
  clear hp hb
  have hp:=hq
  clear hq
  (try go_wp2_with fail)
  have HX:=hid hX
  clear hX
  refine hK.out _ _ (HC.out _ hp.out) (fun hHeld2=>?_)
  clear hK K hHeld
  have hHeld:=hHeld2
  clear hHeld2
  try simp only[Act.put,List.setIfInBounds_toArray,List.set_cons_zero,List.set_cons_succ]
  refine wpAnyH_take (i:=3) (v:=?_) (opAt rfl) (by kernel_rfl) (by kernel_rfl) (by kernel_rfl) (fun _ _ _ h=>h) (Or.inl ⟨by rfl,?_⟩) (by assumption) ?_
  rotate_left
  ·intro w' hSw;(try dsimp only at hSw);go_simp;(try with_reducible rfl)
  try simp only[Act.put,List.setIfInBounds_toArray,List.set_cons_zero,List.set_cons_succ]
  refine wpAnyH_take (i:=4) (v:=?_) (opAt rfl) (by kernel_rfl) (by kernel_rfl) (by kernel_rfl) (fun _ _ _ h=>h) (Or.inl ⟨by rfl,?_⟩) (by assumption) ?_
  rotate_left
  ·intro w' hSw;(try dsimp only at hSw);go_simp;(try with_reducible rfl)
  try simp only[Act.put,List.setIfInBounds_toArray,List.set_cons_zero,List.set_cons_succ]
  refine wpAnyH_ready (rs:=[6]) (by kernel_rfl) (by simp) ?_
  refine AllReadyH.cons (opAt rfl) (fun K hK=>?_) AllReadyH.nil
  have z0:=zab (k:=0) HX.out rfl
  have z1:=zab (k:=1) HX.out rfl
  have z2:=zab (k:=2) HX.out rfl
  have z3:=zab (k:=3) HX.out rfl
  have y:=fun k=>zac (k:=k) HX.out
  go_simp
  have hq:=hid ((((hp.out.setCell (p:=⟨w.heap.size,0,none⟩) (Nat.le_refl _) (.string l[k].name)).setCell (p:=⟨w.heap.size,1,none⟩) (Nat.le_refl _) (.slice l[k].pa l[k].params.length l[k].pc)).setCell (p:=⟨w.heap.size,2,none⟩) (Nat.le_refl _) (.slice l[k].va l[k].vars.length l[k].vc)).setCell (p:=⟨w.heap.size,3,none⟩) (Nat.le_refl _) (.slice l[k].ba l[k].body.length l[k].bc))
  have hx4:=zaH (k:=3) (.slice l[k].ba l[k].body.length l[k].bc) (zaH (k:=2) (.slice l[k].va l[k].vars.length l[k].vc) (zaH (k:=1) (.slice l[k].pa l[k].params.length l[k].pc) (zaH (k:=0) (.string l[k].name) HX.out)))
  have d0:=zab (k:=0) hx4 rfl
  have d1:=zab (k:=1) hx4 rfl
  have dl:=zcS hx4
  clear hp z0 z1 z2 z3 y hx4
  have hp:=hq
  clear hq
  refine hK.out _ _ (HC.out _ hp.out) (fun hHeld2=>?_)
  clear hK K hHeld
  have hHeld:=hHeld2
  clear hHeld2
  try simp only[Act.put,List.setIfInBounds_toArray,List.set_cons_zero,List.set_cons_succ]
  refine wpAnyH_done (by kernel_rfl) ?_ _
  refine NoPanic.normal ?_
  by_cases hnm:l[k].name.data.toList=[109,97,105,110]
  ·have e1:l[k].name.toList=[109,97,105,110]:=by rw[ByteArray.toList_eq];exact hnm
   by_cases hpl:l[k].params.length=0
   ·have HV:Hid (e4 l[k]=0):=hid (by unfold e4;rw[if_pos ⟨hnm,hpl⟩])
    have e2:decide (0 < (l[k].params.length:Int))=false:=decide_eq_false (by omega)
    have e3:decide (0 < l[k].params.length)=false:=decide_eq_false (by omega)
    clear hnm hpl
    go_wp2_with (go_at_call 38;refine(zaG _ _ _).mono ?_;rintro e w' ⟨rfl,rfl⟩)
    go_ret
    exact⟨by rw[HV.out];rfl,hp.out⟩
   ·have HV:Hid (e4 l[k]=10):=hid (by unfold e4;rw[if_neg (fun h=>hpl h.2)])
    have e2:decide (0 < (l[k].params.length:Int))=true:=decide_eq_true (by omega)
    have e3:decide (0 < l[k].params.length)=true:=decide_eq_true (by omega)
    clear hnm hpl
    go_wp2_with (go_at_call 38;refine(zaG _ _ _).mono ?_;rintro e w' ⟨rfl,rfl⟩)
    go_ret
    exact⟨by rw[HV.out];rfl,hp.out⟩
  ·have HV:Hid (e4 l[k]=10):=hid (by unfold e4;rw[if_neg (fun h=>hnm h.1)])
   have e1:(l[k].name.toList==[109,97,105,110])=false:=by rw[ByteArray.toList_eq];simpa using hnm
   clear hnm
   go_wp2_with (go_at_call 38;refine(zaG _ _ _).mono ?_;rintro e w' ⟨rfl,rfl⟩)
   go_ret
   exact⟨by rw[HV.out];rfl,hp.out⟩
end Go.Proofs.YtljbbhhiiiepcaaGreatDoor.Ck

namespace Go.Proofs.YtljbbhhiiiepcaaGreatDoor.Ck
open Go Go.RowKit Go.Proofs.YtljbbhhiiiepcaaGreatDoor
open Go.Lib (hid)
def e1 (l:List FT):Nat:=if l.all FT.rightB then 0 else 1
def e2 (l:List FT):Nat:=if l.length=0∨16 < l.length∨400 < stsV l then 5 else 0
def e3 (l:List FT):Nat:=e6 (repB (l.map (·.name)))
def e4l (l:List FT):Nat:=if mainB l then 0 else 10
theorem main_at:∀(l:List FT) (k:Nat) (hk:k+1=l.length),mainB l=true↔(l[k].name.data.toList=[109,97,105,110]∧l[k].params.length=0)
 | [],k,h=>by simp at h
 | [F],k,h=>by
  obtain rfl:k=0:=by simpa using h
  show(decide (F.name={data:=#[109,97,105,110]})&&F.params.isEmpty)=true↔_
  rw[Bool.and_eq_true,decide_eq_true_eq,List.isEmpty_iff,List.getElem_cons_zero,List.length_eq_zero_iff]
  constructor
  ·rintro⟨h1,h2⟩;exact⟨by rw[h1],h2⟩
  ·rintro⟨h1,h2⟩;exact⟨zdz.1 h1,h2⟩
 | F :: G :: l,k,h=>by
  obtain⟨j,rfl⟩:∃j,k=j+1:=⟨k - 1,by simp at h;omega⟩
  have:=main_at (G :: l) j (by simpa using h)
  rw[List.getElem_cons_succ]
  exact this
theorem e4_at (l:List FT) (k:Nat) (hk:k+1=l.length) (hkk:k < l.length):e4 l[k]=e4l l:=by
 unfold e4 e4l
 by_cases h:mainB l=true
 ·rw[if_pos h,if_pos ((main_at l k hk).1 h)]
 ·rw[if_neg h,if_neg (fun q=>h ((main_at l k hk).2 q))]
theorem whole_code (l:List FT):wholeF l=zau (cd [e1 l,e2 l,e3 l,e4l l]) 4:=by
 show _=orE (orE (orE (orE 0 (e1 l)) (e2 l)) (e3 l)) (e4l l)
 unfold wholeF e1 e2 e3 e4l e6
 cases h1:l.all FT.rightB
 ·simp[orE]
 ·by_cases h2:l.length=0∨16 < l.length∨400 < stsV l
  ·have g:(if l.length=0∨16 < l.length∨400 < stsV l then 5 else 0)=5:=if_pos h2
   rw[g,if_pos h2];simp[orE]
  ·have g:(if l.length=0∨16 < l.length∨400 < stsV l then 5 else 0)=0:=if_neg h2
   rw[g,if_neg h2]
   cases h3:repB (l.map (·.name))
   ·cases h4:mainB l<;>simp[orE]
   ·simp[orE]
theorem whole1_any {w0:World} {a:Option Addr} {l:List FT} (hin:FsIn w0 0 a l) (c mb bx:Nat) (w:World) (hp:Past w0 w) (hx:XBox w bx a l.length c mb):
  Calls Tryz.prog 88 #[.pointer (some ⟨bx,0,none⟩)] w fun e w'=>e=.returned (.int .i64 (e1 l:Nat))∧Below w.heap.size w w':=by
 obtain⟨x0,x1,hlx⟩:=zdQ hx
 have HX:=hid (rightP_any a c l hin w hp)
 obtain⟨q,hq⟩:∃q,l.all FT.rightB=q:=⟨_,rfl⟩
 have HV:Hid (e1 l=if q then 0 else 1):=hid (by unfold e1;rw[hq])
 rw[hq] at HX
 clear hp hin hx hq
 cases q
 all_goals
  go_enter Tryz.func88,Tryz.ntmps88
  go_wp2_with (first | (go_at_call 38;refine(zaG _ _ _).mono ?_;rintro e w' ⟨rfl,rfl⟩) | (go_at_call 22;have hx:=HX.out;refine hx.mono ?_;clear hx;rintro e w1 ⟨rfl,hb1⟩;have HB1:=hid hb1;clear hb1))
  go_ret
  exact⟨by rw[HV.out];rfl,HB1.out⟩
theorem whole2_any {w0:World} {a:Option Addr} {l:List FT} (hin:FsIn w0 0 a l) (hsm:stsV l≤4611686018427387904) (c bo:Nat) (w:World) (hp:Past w0 w) (hb:Box w bo (.slice a l.length c) 22):
  Calls Tryz.prog 89 #[.pointer (some ⟨bo,0,none⟩)] w fun e w'=>e=.returned (.int .i64 (e2 l:Nat))∧Below w.heap.size w w':=by
 have b0:=hb.c0
 have hlb:=hb.lt
 have hll:=hin.len
 have HX:=hid (statements_any hin hsm c w hp)
 obtain⟨s,hs⟩:∃s,stsV l=s:=⟨_,rfl⟩
 obtain⟨n,hn⟩:∃n,l.length=n:=⟨_,rfl⟩
 have HV:Hid (e2 l=if n=0∨16 < n∨400 < s then 5 else 0):=hid (by unfold e2;rw[hs,hn])
 rw[hs] at HX
 rw[hn] at HX b0 hll
 clear hp hin hb hs hn hsm
 by_cases h0:n=0
 ·have q1:((n:Int)==0)=true:=by simp;omega
  have HW:Hid (e2 l=5):=hid (by rw[HV.out,if_pos (Or.inl h0)])
  clear h0 HV
  go_enter Tryz.func89,Tryz.ntmps89
  go_wp2_with (go_at_call 38;refine(zaG _ _ _).mono ?_;rintro e w' ⟨rfl,rfl⟩)
  go_ret
  exact⟨by rw[HW.out];rfl,Below.refl _ _⟩
 ·have q1:((n:Int)==0)=false:=by simp;omega
  by_cases h1:16 < n
  ·have q2:decide (16 < (n:Int))=true:=decide_eq_true (by omega)
   have HW:Hid (e2 l=5):=hid (by rw[HV.out,if_pos (Or.inr (Or.inl h1))])
   clear h0 h1 HV
   go_enter Tryz.func89,Tryz.ntmps89
   go_wp2_with (go_at_call 38;refine(zaG _ _ _).mono ?_;rintro e w' ⟨rfl,rfl⟩)
   go_ret
   exact⟨by rw[HW.out];rfl,Below.refl _ _⟩
  ·have q2:decide (16 < (n:Int))=false:=decide_eq_false (by omega)
   by_cases h2:400 < s
   ·have q3:decide (400 < (s:Int))=true:=decide_eq_true (by omega)
    have HW:Hid (e2 l=5):=hid (by rw[HV.out,if_pos (Or.inr (Or.inr h2))])
    clear h0 h1 h2 HV
    go_enter Tryz.func89,Tryz.ntmps89
    go_wp2_with (first | (go_at_call 38;refine(zaG _ _ _).mono ?_;rintro e w' ⟨rfl,rfl⟩) | (go_at_call 90;have hx:=HX.out;refine hx.mono ?_;clear hx;rintro e w1 ⟨rfl,hb1⟩;have HB1:=hid hb1;clear hb1))
    go_ret
    exact⟨by rw[HW.out];rfl,HB1.out⟩
   ·have q3:decide (400 < (s:Int))=false:=decide_eq_false (by omega)
    have HW:Hid (e2 l=0):=hid (by rw[HV.out,if_neg (by omega)])
    clear h0 h1 h2 HV
    go_enter Tryz.func89,Tryz.ntmps89
    go_wp2_with (first | (go_at_call 38;refine(zaG _ _ _).mono ?_;rintro e w' ⟨rfl,rfl⟩) | (go_at_call 90;have hx:=HX.out;refine hx.mono ?_;clear hx;rintro e w1 ⟨rfl,hb1⟩;have HB1:=hid hb1;clear hb1))
    go_ret
    exact⟨by rw[HW.out];rfl,HB1.out⟩
theorem whole3_any {w0:World} {a:Option Addr} {l:List FT} (hin:FsIn w0 0 a l) (hsm:l.length≤1000) (c bo:Nat) (w:World) (hp:Past w0 w) (hb:Box w bo (.slice a l.length c) 22):
  Calls Tryz.prog 91 #[.pointer (some ⟨bo,0,none⟩)] w fun e w'=>e=.returned (.int .i64 (e3 l:Nat))∧Below w.heap.size w w':=by
 have b0:=hb.c0
 have hlb:=hb.lt
 have hX:=functions_any hin hsm c w hp
 have hDL:(l.map (·.name)).length≤9223372036854775807:=by rw[List.length_map];omega
 unfold e3
 generalize l.map (·.name)=L at hX hDL
 have HX:=hid hX
 have HDL:=hid hDL
 obtain⟨q,hq⟩:∃q,repB L=q:=⟨_,rfl⟩
 have HQ:=hid hq
 rw[hq]
 clear hp hin hb hq hX hDL
 cases q
 all_goals
  go_enter Tryz.func91,Tryz.ntmps91
  go_wp2_with (first | (go_at_call 38;refine(zaG _ _ _).mono ?_;rintro e w' ⟨rfl,rfl⟩) | (go_at_call 92;have hx:=HR.out;refine hx.mono ?_;clear hx;rintro e w2 ⟨rfl,hb2⟩;have HB2:=hid (zan HB1.out hb2);clear hb2) | (go_at_call 93;have hx:=HX.out;refine hx.mono ?_;clear hx;rintro e w1 ⟨⟨a1,c1,rfl,hc1,hs1⟩,hb1⟩;have hr:=repeats_any (w0:=w1) hs1 HDL.out c1 hc1 w1 (Below.refl _ _);rw[HQ.out] at hr;have HR:=hid hr;have HB1:=hid hb1;clear hb1 hs1 hc1 hr))
  go_ret
  exact⟨rfl,HB2.out⟩
theorem e2_len {l:List FT} (h:e2 l=0):0 < l.length∧l.length≤16∧stsV l≤400:=by
 unfold e2 at h
 split at h
 ·omega
 ·omega
theorem whole_any {w0:World} {a:Option Addr} {l:List FT} (hin:FsIn w0 0 a l) (hsm:stsV l≤4611686018427387904) (c mb:Nat) (w:World) (hp:Past w0 w):
  Calls Tryz.prog 58 #[.agg #[.slice a l.length c,.map (some mb)]] w fun e w'=>e=.returned (.int .i64 (wholeF l:Nat))∧Below w.heap.size w w':=by
 have HP:=hid hp
 have HI:=hid hin
 have HV:=hid (whole_code l)
 have HSM:=hid hsm
 clear hp hin hsm
 go_enter Tryz.func58,Tryz.ntmps58
 go_wp2_with (go_at_call 35;refine(zeh [(88,#[.pointer (some ⟨w.heap.size,0,none⟩)]),(89,#[.pointer (some ⟨w.heap.size+1,0,none⟩)]),(91,#[.pointer (some ⟨w.heap.size+1,0,none⟩)]),(94,#[.pointer (some ⟨w.heap.size+1,0,none⟩),.pointer (some ⟨w.heap.size,0,none⟩)])] (cd [e1 l,e2 l,e3 l,e4l l]) _ _ (by show 4≤100;decide) (by simp) ?_ ?_ ?_).mono ?_;(intro k h;match k,h with | 0,_=>exact enters_of Tryz.func88 (by kernel_rfl) rfl | 1,_=>exact enters_of Tryz.func89 (by kernel_rfl) rfl | 2,_=>exact enters_of Tryz.func91 (by kernel_rfl) rfl | 3,_=>exact enters_of Tryz.func94 (by kernel_rfl) rfl | k+4,h=>exact absurd h (by simp));(intro k h;match k,h with | 0,_=>(refine zab (nb _ (by simp)) ?_;rfl) | 1,_=>(refine zab (nb _ (by simp)) ?_;rfl) | 2,_=>(refine zab (nb _ (by simp)) ?_;rfl) | 3,_=>(refine zab (nb _ (by simp)) ?_;rfl) | k+4,h=>exact absurd h (by simp));(intro k h W hz hW;match k,h with | 0,_=>exact whole1_any HI.out c mb _ W (Past.on (((HP.out.alloc _).alloc _).alloc _) hW) (bl hW (ob _ (ob _ (nb _ rfl)))) | 1,_=>exact whole2_any HI.out HSM.out c _ W (Past.on (((HP.out.alloc _).alloc _).alloc _) hW) (bl hW (ob _ (nb _ (by simp)))) | 2,_=>(have hz2:=(e2_len (by simp[zau,cd,zbz] at hz;exact hz.2));exact whole3_any HI.out (by omega) c _ W (Past.on (((HP.out.alloc _).alloc _).alloc _) hW) (bl hW (ob _ (nb _ (by simp))))) | 3,_=>(have hz2:=(e2_len (by simp[zau,cd,zbz] at hz;exact hz.1.2));have hk:l.length - 1+1=l.length:=(by omega);have h4:=whole4_any HI.out c mb w.heap.size (w.heap.size+1) (l.length - 1) hk W (Past.on (((HP.out.alloc _).alloc _).alloc _) hW) (bl hW (ob _ (ob _ (nb _ rfl)))) (bl hW (ob _ (nb _ (by simp)))) (by omega);rw[e4_at l _ hk (by omega)] at h4;exact h4) | k+4,h=>exact absurd h (by simp));rintro e w2 ⟨rfl,hb2⟩;have HB2:=hid hb2;clear hb2)
 go_ret
 exact⟨by rw[HV.out];rfl,zan (bal (bal (bal (bre w) _) _) _) HB2.out⟩
theorem new_any (a:Option Addr) (n c:Nat) (w:World):
  Calls Tryz.prog 28 #[.agg #[.slice a n c]] w fun e w'=>(∃mb,e=.returned (.agg #[.slice a n c,.map (some mb)])∧w.heap.size≤mb∧Tg mb w' [])∧Below w.heap.size w w':=by
 have hmm:=@run_makeMap Tryz.prog
 go_enter Tryz.func28,Tryz.ntmps28
 go_wp2
 refine bodyPost_ret (v:=.agg #[.slice a n c,.map (some (w.heap.size+1+1))]) (by simp[results,Tryz.results28,go_sem]) rfl ⟨⟨_,rfl,by omega,?_⟩,bal (bal (bal (bre w) _) _) _⟩
 have h:=tg_new ((w.alloc (.cells #[.slice a n c] 24)).alloc (.cells #[.slice a n c,.map (some (w.heap.size+1+1))] 81))
 simpa using h
theorem fn_len (l:List FT) (i:Nat) (F:FT) (seen:List Int):(fnF l i F seen).2.length≤seen.length+cnts F.body:=by
 unfold fnF
 split
 ·show seen.length≤_;omega
 ·split
  ·show seen.length≤_;omega
  ·exact chk_len _ F.body (Nat.lt_succ_self _) false seen
theorem stsV_drop (l:List FT) (n:Nat) (h:n < l.length):stsV (l.drop n)=cnts l[n].body+stsV (l.drop (n+1)):=by
 rw[List.drop_eq_getElem_cons h,stsV]
def Tell (mb:Nat) (w:World) (r:(Nat×List Int)×Int) (e:Ending) (w':World):Prop:=e=.returned (.tuple #[.int .i64 (r.1.1:Nat),.int .i64 r.2])∧Gr mb w w'∧∃s,Tg mb w' s∧(r.1.1=0→s=r.1.2)
def Small (l:List FT):Prop:=stsV l≤4611686018427387904∧∀k (h:k < l.length),l[k].params.length≤1000000000∧l[k].vars.length≤1000000000
theorem zda {w0:World} {a:Option Addr} {l:List FT} (hin:FsIn w0 0 a l) (hsm:Small l) (c mb:Nat) (hm:w0.heap.size≤mb) (w:World) (hp:Past w0 w) (hT:Tg mb w []):
  Calls Tryz.prog 29 #[.agg #[.slice a l.length c,.map (some mb)]] w (Tell mb w (zbV l)):=by
 have HWH:=hid (fun(W:World) (hW:Past w0 W)=>whole_any hin hsm.1 c mb W hW)
 have HP:=hid hp
 have HI:=hid hin
 have HT:=hid hT
 have HM:=hid hm
 have HS:=hid hsm
 have hll:=hin.len
 have hltm:=hT.lt
 by_cases hw:wholeF l=0
 ·have HV:Hid (zbV l=fnsF l 0 l []):=hid (by unfold zbV;rw[if_pos hw])
  have H400:Hid (stsV l≤400):=hid (by
   rw[whole_code] at hw
   have h2:e2 l=0:=by
    have:orE (orE (orE (orE 0 (e1 l)) (e2 l)) (e3 l)) (e4l l)=0:=hw
    simp only[zbz] at this
    exact this.1.1.2
   exact(e2_len h2).2.2)
  rw[hw] at HWH
  clear hp hin hsm hT hm hw
  go_enter Tryz.func29,Tryz.ntmps29
  go_wp2_with (go_at_call 58;refine(HWH.out _ ?_).mono ?_;(exact HP.out.alloc _);rintro e w1 ⟨rfl,hb1⟩;have hx1:XBox w1 w.heap.size a l.length c mb:=bl hb1 (nb _ rfl);have HX1:=hid hx1;(obtain⟨x0,x1,hlx⟩:=zdQ hx1);have HG1:Hid (Gr mb w w1):=hid (gr_on (zah (zaC _ _) _) hb1);have HT1:Hid (Tg mb w1 []):=hid ((HT.out.alloc _).on hb1);clear hb1 hx1)
  go_loopw [5,6,16] (fun _ _ i wr=>∃(n:Nat) (seen:List Int),n≤l.length∧i=.int .i64 n∧XBox wr w.heap.size a l.length c mb∧Gr mb w wr∧Tg mb wr seen∧seen.length+stsV (l.drop n)≤400∧fnsF l n (l.drop n) seen=fnsF l 0 l []) (fun _ _ i _=>l.length - (intOf i).toNat)
  case atStart=>exact⟨0,[],Nat.zero_le _,rfl,HX1.out,HG1.out,HT1.out,by have:=H400.out;simpa using this,by rw[List.drop_zero]⟩
  case round =>
   clear HX1 HG1 HT1 x0 x1 hlx
   obtain⟨n,seen,hn,rfl,hx,hg,ht,hlen,heq⟩:=hrel
   have HX:=hid hx
   have HG:=hid hg
   have HTR:=hid ht
   have HQ:=hid heq
   have HLE:=hid hlen
   obtain⟨x0,x1,hlx⟩:=zdQ hx
   by_cases hlt:n < l.length
   ·have hd:l.drop n=l[n] :: l.drop (n+1):=List.drop_eq_getElem_cons hlt
    have hsd:=stsV_drop l n hlt
    have hfl:=fn_len l n l[n] seen
    have hfn:=zb2 HI.out c mb n hlt HM.out (HS.out.2 n hlt) seen (by omega) wr (zcG HP.out hg HM.out) ht
    rw[hd,fnsF] at heq
    have HL2:Hid ((fnF l n l[n] seen).2.length+stsV (l.drop (n+1))≤400):=hid (by omega)
    obtain⟨r,hr⟩:∃r,fnF l n l[n] seen=r:=⟨_,rfl⟩
    rw[hr] at hfn heq HL2
    have HF:=hid hfn
    clear hfn hfl hsd hd hlen hx hg ht hr
    by_cases h0:r.1=0
    ·rw[if_pos h0] at heq
     have HE:=hid heq
     have HZ:=hid h0
     clear heq h0
     go_wp2_with (go_at_call 59;have hx:=HF.out;refine hx.mono ?_;clear hx;rintro e w2 ⟨rfl,hg2,s2,ht2,he2⟩;have hz:=HZ.out;rw[hz];(obtain rfl:=he2 hz);have HG2:=hid hg2;have HT2:=hid ht2;clear hg2 ht2 he2 hz)
     go_round
     case rel=>exact⟨n+1,r.2,by omega,by go_num,zaq HG2.out (by omega) HX.out,zaA HG.out HG2.out,HT2.out,HL2.out,HE.out⟩
     case measure=>simp[intOf];omega
    ·rw[if_neg h0] at heq
     have HE:=hid heq
     obtain⟨rc,hrc⟩:∃rc,r.1=rc:=⟨_,rfl⟩
     have HRC:=hid hrc
     have q1:((rc:Int) != 0)=true:=by rw[←hrc];simpa using h0
     clear heq h0 hrc
     go_wp2_with (go_at_call 59;have hx:=HF.out;refine hx.mono ?_;clear hx;rintro e w2 ⟨rfl,hg2,s2,ht2,he2⟩;rw[HRC.out];have HG2:=hid hg2;have HT2:=hid ht2;have HE2:=hid he2;clear hg2 ht2 he2)
     go_ret2
     rw[HV.out,←HE.out]
     exact⟨by show _=Ending.returned (.tuple #[.int .i64 (r.1:Nat),.int .i64 n]);rw[HRC.out];rfl,zaA HG.out HG2.out,s2,HT2.out,HE2.out⟩
   ·obtain rfl:n=l.length:=by omega
    rw[List.drop_length,fnsF] at heq
    have HE:=hid heq
    clear heq hlen hx hg ht
    go_wp2
    go_ret2
    rw[HV.out,←HE.out]
    exact⟨rfl,HG.out,seen,HTR.out,fun _=>rfl⟩
 ·have HV:Hid (zbV l=((wholeF l,[]),-1)):=hid (by unfold zbV;rw[if_neg hw])
  obtain⟨v,hv⟩:∃v,wholeF l=v:=⟨_,rfl⟩
  rw[hv] at HWH HV hw
  have q1:((v:Int) != 0)=true:=by simpa using hw
  clear hp hin hsm hT hm hv
  go_enter Tryz.func29,Tryz.ntmps29
  go_wp2_with (go_at_call 58;refine(HWH.out _ ?_).mono ?_;(exact HP.out.alloc _);rintro e w1 ⟨rfl,hb1⟩;have HB1:=hid hb1;clear hb1)
  go_ret2
  rw[HV.out]
  exact⟨rfl,gr_on (zah (zaC _ _) _) HB1.out,[],(HT.out.alloc _).on HB1.out,fun h=>absurd h hw⟩
theorem zb0 {w0:World} {a:Option Addr} {l:List FT} (hin:FsIn w0 0 a l) (hsm:Small l) (c:Nat) (w:World) (hp:Past w0 w):
  Calls Tryz.prog 11 #[.agg #[.slice a l.length c]] w fun e w'=>e=.returned (.tuple #[.int .i64 ((chkF l).1:Nat),.int .i64 (chkF l).2])∧Below w.heap.size w w':=by
 have hpr:=fun(mb:Nat) (W:World) (hm:w.heap.size≤mb) (hW:Below w.heap.size w W) (hTW:Tg mb W [])=>zda hin hsm c mb (Nat.le_trans hp.size hm) W (hp.on hW) hTW
 have HPR:=hid hpr
 have HN:=hid (fun W=>new_any a l.length c W)
 unfold chkF
 clear hp hin hsm hpr
 go_enter Tryz.func11,Tryz.ntmps11
 go_wp2_with (first
  | (go_at_call 29;have hx:=HPR.out mb w1 HMB.out HB1.out HT1.out;refine hx.mono ?_;clear hx;rintro e w2 ⟨rfl,hg2,-⟩;have HG2:=hid hg2;clear hg2)
  | (go_at_call 28;refine(HN.out _).mono ?_;rintro e w1 ⟨⟨mb,rfl,hmb,ht1⟩,hb1⟩;have HMB:Hid (w.heap.size≤mb):=hid (by simp at hmb;omega);have HT1:=hid ht1;have HB1:Hid (Below w.heap.size w w1):=hid (zan (bal (bre w) _) hb1);clear hb1 ht1 hmb))
 go_ret2
 exact⟨rfl,Below.grown HB1.out HG2.out HB1.out.size (fun k e=>by cases e;exact HMB.out)⟩
end Go.Proofs.YtljbbhhiiiepcaaGreatDoor.Ck
