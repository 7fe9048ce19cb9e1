/- What list lays: the nodes of statements, and of all that stand below. -/
import Derived.Test.YtagnmppdhfmgdaaGreatDoorFHeap
set_option linter.unusedSimpArgs false
set_option linter.unusedVariables false
set_option maxHeartbeats 8000000
set_option maxRecDepth 100000
namespace Go.Proofs.YtagnmppdhfmgdaaGreatDoor.Fl
open Go Go.RowKit Go.Proofs.YtagnmppdhfmgdaaGreatDoor
theorem right_parts {S:ST} (h:S.rightB=true):zak S.body=true∧zak S.els=true∧((0 < S.bn∨0 < S.ln)→S.kind=4∨S.kind=5)∧(S.kind=5→S.ln=0):=by
 have h2:=zch h
 obtain⟨k,t,n,f,ea,ec,e,ba,bc,b,la,lc,l⟩:=S
 rw[ST.rightB,Bool.and_eq_true,Bool.and_eq_true,Bool.and_eq_true] at h
 refine⟨h.1.2,h.2,?_,?_⟩
 ·obtain⟨t',_,_,h2⟩:=h2
  simp only[ST.mk.injEq] at h2
  intro hb
  simp only[ST.bn,ST.ln] at hb
  show k=4∨k=5
  rcases h2 with ⟨_,_,_,_,_,_,_,_,h⟩ | ⟨_,_,_,_,_,_,_,_,_,h⟩ | ⟨_,_,_,_,_,_,_,h⟩ | ⟨_,_,_,_,_,_,_,_,_,h⟩ | ⟨_,_,_,_,_,_,_,_,_,h⟩ | ⟨_,_,_,_,_,_,_,_,h⟩ | ⟨_,_,_,_,_,_,h⟩ | ⟨_,_,_,_,_,_,h⟩ | ⟨_,_,_,_,_,_,_,h⟩ | ⟨_,_,_,_,_,_,_,h⟩
  all_goals (simp_all)
 ·obtain⟨t',_,_,h2⟩:=h2
  simp only[ST.mk.injEq] at h2
  intro hb
  simp only[ST.kind] at hb
  show l.length=0
  rcases h2 with ⟨_,_,_,_,_,_,_,_,h⟩ | ⟨_,_,_,_,_,_,_,_,_,h⟩ | ⟨_,_,_,_,_,_,_,h⟩ | ⟨_,_,_,_,_,_,_,_,_,h⟩ | ⟨_,_,_,_,_,_,_,_,_,h⟩ | ⟨_,_,_,_,_,_,_,_,h⟩ | ⟨_,_,_,_,_,_,h⟩ | ⟨_,_,_,_,_,_,h⟩ | ⟨_,_,_,_,_,_,_,h⟩ | ⟨_,_,_,_,_,_,_,h⟩
  all_goals (simp_all)
section
variable {x:Int} {E:List (List Int)}
theorem cnt_pos (S:ST):1≤S.cnt:=by rw[zbP];omega
theorem zaK {α:Type} {l:List α} {i:Nat} {a:α} (h:l[i]?=some a):i < l.length:=by
 rcases Nat.lt_or_ge i l.length with h' | h'
 ·exact h'
 ·rw[List.getElem?_eq_none h'] at h;cases h
end
theorem nexts_at {l:List ST} {i:Nat} {n:NR} (h:(zaY l)[i]?=some n):(zcV l)[i]?=some (nextR (cnts l:Nat) i n):=by
 have hi:=zaK h
 unfold zcV
 rw[List.getElem?_append_left (by rw[List.length_mapIdx];exact hi),List.getElem?_mapIdx,h];rfl
theorem others_at {l:List ST} {i:Nat} {n:NR} (h:(zaY l)[i]?=some n):(zce l)[i]?=some (othR n):=by
 have hi:=zaK h
 unfold zce
 rw[List.getElem?_append_left (by rw[List.length_map];exact hi),List.getElem?_map,h];rfl
theorem ins_at {l:List ST} {i:Nat} {n:NR} (h:(zaY l)[i]?=some n):(insG l)[i]?=some n.par:=by
 have hi:=zaK h
 unfold insG
 rw[List.getElem?_append_left (by rw[List.length_map];exact hi),List.getElem?_map,h];rfl
theorem nexts_len (l:List ST):(zcV l).length=cnts l+1:=by unfold zcV;rw[List.length_append,List.length_mapIdx,zaG];rfl
theorem zcE (l:List ST):(zce l).length=cnts l+1:=by unfold zce;rw[List.length_append,List.length_map,zaG];rfl
theorem ins_len (l:List ST):(insG l).length=cnts l+1:=by unfold insG;rw[List.length_append,List.length_map,zaG];rfl
theorem edges_len (ns:List (List Int)) (os:List Int) (j:Bool):(zdw ns os j).length=ns.length:=by unfold zdw;rw[List.length_mapIdx]
theorem edges_at {ns:List (List Int)} {os:List Int} {j:Bool} {i:Nat} {r:List Int} (h:ns[i]?=some r):(zdw ns os j)[i]?=some (if j=true∧0≤os.getD i (-1) then r++[os.getD i (-1)] else r):=by
 unfold zdw;rw[List.getElem?_mapIdx,h];rfl
end Go.Proofs.YtagnmppdhfmgdaaGreatDoor.Fl

namespace Go.Proofs.YtagnmppdhfmgdaaGreatDoor.Fl
open Go Go.RowKit Go.Proofs.YtagnmppdhfmgdaaGreatDoor
open Go.Lib (hid)
def Laid (B b:Nat) (w:World) (ms:List NR) (e:Ending) (w':World):Prop:=e=.returned (.tuple #[])∧Bd B b ms w'∧Below B w w'∧Kp b w w'
theorem set_mid {α:Type} (q r:List α) (a b:α):(q++a :: r).set q.length b=q++b :: r:=by
 rw[List.set_append_right _ _ (Nat.le_refl _),Nat.sub_self,List.set_cons_zero]
theorem laid_eq {q L9 P9 L11 P11:List NR} {S:ST} {par fl brk agn:Int} (bh:Int)
  (h9:(lay (q++[NR.mk S par 0 0 0 (-1) 0]).length (q.length:Int) (if S.kind=5 then (q.length:Int) else fl) (if S.kind=5 then fl else brk) (if S.kind=5 then (q.length:Int) else agn) S.body).map NR.raw=L9)
  (hP:q++[NR.mk S par 0 0 0 (-1) 0]++L9=P9)
  (h11:(lay (P9.set q.length (NR.mk S par 0 0 0 (-1) P9.length)).length (q.length:Int) (if S.kind=5 then (q.length:Int) else fl) (if S.kind=5 then fl else brk) (if S.kind=5 then (q.length:Int) else agn) S.els).map NR.raw=L11)
  (hP11:P9.set q.length (NR.mk S par 0 0 0 (-1) P9.length)++L11=P11):
  (bh=-1→P11=q++(layS q.length par fl brk agn bh S).map NR.raw)∧P11.set q.length (NR.mk S par 0 0 0 bh P9.length)=q++(layS q.length par fl brk agn bh S).map NR.raw∧P11[q.length]?=some (NR.mk S par 0 0 0 (-1) P9.length)∧P11.length=q.length+S.cnt:=by
 have e9:L9.length=cnts S.body:=by rw[←h9,List.length_map,zbs]
 have eP:P9.length=q.length+1+cnts S.body:=by rw[←hP,List.length_append,List.length_append,e9];simp
 have e11:L11.length=cnts S.els:=by rw[←h11,List.length_map,zbs]
 have hb:P9.set q.length (NR.mk S par 0 0 0 (-1) P9.length)=q++NR.mk S par 0 0 0 (-1) P9.length :: L9:=by
  rw[←hP,List.append_assoc,List.singleton_append,set_mid]
 rw[List.length_append,List.length_singleton] at h9
 rw[List.length_set,eP] at h11
 have hq:P11=q++NR.mk S par 0 0 0 (-1) P9.length :: (L9++L11):=by rw[←hP11,hb,List.append_assoc,List.cons_append]
 have hl:(layS q.length par fl brk agn bh S).map NR.raw=NR.mk S par 0 0 0 bh P9.length :: (L9++L11):=by
  rw[zct,List.map_cons,List.map_append,h9,h11,eP];rfl
 refine⟨fun h=>by rw[hl,h];exact hq,by rw[hl,hq,set_mid],by rw[hq,List.getElem?_append_right (Nat.le_refl _),Nat.sub_self];rfl,?_⟩
 rw[hq,zbP];simp[e9,e11];omega
theorem list_any {w0:World} {B b:Nat} (hB:w0.heap.size≤B):∀(m:Nat) (a:Option Addr) (c:Nat) (l:List ST),Szs l < m→l.length≤9223372036854775807→SsIn w0 0 a 0 l→∀(ns:List NR) (par fol brk agn:Int),ns.length+cnts l≤1000000→∀w,Past w0 w→Bd B b ns w →
  Calls Tryz.prog 42 #[.pointer (some ⟨b,0,none⟩),.slice a l.length c,.int .i64 par] w (Laid B b w (ns++(lay ns.length par fol brk agn l).map NR.raw)):=by
 intro m
 induction m with
 | zero=>intro a c l hm;omega
 | succ m ih =>
  intro a c l hm hl hin ns par fol brk agn hsz w hp hbd
  obtain⟨ei,hin_,hz0,hz1,hz2⟩:=info_parts node_info
  obtain⟨ii,hii,hi0,hi1,hi2⟩:=info_parts zcT
  have HI:=hid hin
  have HP:=hid hp
  have HBD:=hid hbd
  have HB:=hid hB
  have HSZ:=hid hsz
  have HIH:=hid ih
  have HM:=hid hm
  clear hin hp hbd hB hsz ih hm
  go_enter Tryz.func42,Tryz.ntmps42
  go_wp2
  go_loopw [11] (fun i wr=>∃n:Nat,n≤l.length∧i=.int .i64 n∧Bd B b (ns++((lay ns.length par fol brk agn l).take (cnts (l.take n))).map NR.raw) wr∧Below B w wr∧Kp b w wr) (fun i _=>l.length - (intOf i).toNat)
  case atStart=>exact⟨0,Nat.zero_le _,rfl,by simpa[cnts] using HBD.out,Below.refl _ _,Kp.refl _ _⟩
  case round =>
   obtain⟨n,hn,rfl,hbd,hbl,hkp⟩:=hrel
   by_cases hlt:n < l.length
   ·have hpw:Past w0 wr:=HP.out.trans (hbl.mono HB.out)
    obtain⟨hrow,hsin⟩:=HI.out.nth n hlt
    have hrow':=hrow
    obtain⟨kb,ko,rfl,-⟩:=hrow'
    rw[ST.cells_eq,Nat.zero_add] at hrow
    obtain⟨r0,r1,r2,r3,r4,r5,r6,hkb⟩:=zdm hrow hpw
    have hstep:=lay_step par fol brk agn l ns.length n hlt
    generalize hpre:(lay ns.length par fol brk agn l).take (cnts (l.take n))=pre at hbd hstep
    have hNl:(ns++pre.map NR.raw).length=ns.length+cnts (l.take n):=by
     rw[List.length_append,List.length_map,←hpre,List.length_take,zbs]
     have:=zbV l n
     omega
    generalize hqq:ns++pre.map NR.raw=q at hbd hNl
    obtain⟨ai,an,ci,cn,hO⟩:=bd_open hbd
    have HO:=hid hO
    obtain⟨b0,b1,b2,b3,bf,bl⟩:=zau hO.box
    have hS:=zai wr (.cells #[.int .i64 l[n].kind,.int .i64 l[n].tag,.string l[n].name,.string l[n].func,.slice l[n].ea l[n].en l[n].ec,.slice l[n].ba l[n].bn l[n].bc,.slice l[n].la l[n].ln l[n].lc] 61)
    have hO1:=hO.alloc (.cells #[.int .i64 l[n].kind,.int .i64 l[n].tag,.string l[n].name,.string l[n].func,.slice l[n].ea l[n].en l[n].ec,.slice l[n].ba l[n].bn l[n].bc,.slice l[n].la l[n].ln l[n].lc] 61)
    have hbl1:=hbl.alloc (Nat.le_trans hO.hB (Nat.le_of_lt bl)) (.cells #[.int .i64 l[n].kind,.int .i64 l[n].tag,.string l[n].name,.string l[n].func,.slice l[n].ea l[n].en l[n].ec,.slice l[n].ba l[n].bn l[n].bc,.slice l[n].la l[n].ln l[n].lc] 61)
    have hkp1:=hkp.alloc (.cells #[.int .i64 l[n].kind,.int .i64 l[n].tag,.string l[n].name,.string l[n].func,.slice l[n].ea l[n].en l[n].ec,.slice l[n].ba l[n].bn l[n].bc,.slice l[n].la l[n].ln l[n].lc] 61)
    have HR:=hid hrow
    have HPRE:=hid (And.intro hpre (And.intro hstep (And.intro hNl hqq)))
    have HSI:=hid hsin
    clear hbd hO hbl hkp hpw hsin hrow hpre hstep hNl hqq
    go_wp2
    generalize wr.alloc (.cells #[.int .i64 l[n].kind,.int .i64 l[n].tag,.string l[n].name,.string l[n].func,.slice l[n].ea l[n].en l[n].ec,.slice l[n].ba l[n].bn l[n].bc,.slice l[n].la l[n].ln l[n].lc] 61)=W1 at hS hO1 hbl1 hkp1 ⊢
    generalize wr.heap.size=sb at hS ⊢
    clear r0 r1 r2 r3 r4 r5 r6 hkb b0 b1 b2 b3 bf bl
    obtain⟨b0,b1,b2,b3,bf,bl⟩:=zau hO1.box
    obtain⟨sf,s0,s1,s2,s3,s4,s5,s6,sl⟩:=zas hS
    have HS:=hid hS
    have HO:=hid hO1
    have HBL:=hid hbl1
    have HKP:=hid hkp1
    have hq1:q.length+1≤1000000:=by have h1:=HPRE.out.2.2.1;have h2:=zbV l (n+1);have h4:=zdU hlt;have h5:=cnt_pos l[n];have h3:=HSZ.out;omega
    have HQ:=hid hq1
    have HQB:=hid hO1.hB
    have HOW:=hid hO1.n
    have hsne:sb≠b:=by
     rintro rfl
     have h1:W1.heap[sb]?=_:=hO1.box
     rw[hS] at h1
     simp only[Option.some.injEq,Obj.cells.injEq] at h1
     exact absurd h1.2.1 (by decide)
    have HSN:=hid hsne
    clear hS hO1 hbl1 hkp1 hq1
    have hcp:=zbP l[n]
    have hct:=zdU hlt
    have hcl:=zbV l (n+1)
    have HK1:=hid (fun(W:World) (h1:Past w0 W) (h2:Bd B b (q++[(NR.mk l[n] par 0 0 0 (-1) 0)]) W)=>HIH.out l[n].ba l[n].bc l[n].body (by have:=zcc l[n];have:=zdB hlt;have:=HM.out;omega) (in_body HSI.out).2 (in_body HSI.out).1 (q++[(NR.mk l[n] par 0 0 0 (-1) 0)]) q.length (if l[n].kind=5 then (q.length:Int) else if n+1 < l.length then ((q.length+l[n].cnt:Nat):Int) else fol) (if l[n].kind=5 then (if n+1 < l.length then ((q.length+l[n].cnt:Nat):Int) else fol) else brk) (if l[n].kind=5 then (q.length:Int) else agn) (by have h1:=HPRE.out.2.2.1;have h3:=HSZ.out;simp only[List.length_append,List.length_singleton];omega) W h1 h2)
    rw[←bn_is] at HK1
    clear hcp hct hcl
    go_region_law (refine step_append_lies _ (by rfl) _ _ _ (by rfl) B 88 ei _ 12 160 Tryz.underlying75 hin_ hz0 hz1 hz2 rfl (by decide) (.slice an q.length cn) q.length (q.flatMap NR.cells) rfl (HOW.out.drew.alloc _) ⟨W1.drew.heap.size,0,none⟩ 1 1 (NR.cells (NR.mk l[n] par 0 0 0 (-1) 0)) rfl rfl (World.news_of_block (zai W1.drew (.cells #[.int .i64 l[n].kind,.int .i64 l[n].tag,.string l[n].name,.string l[n].func,.slice l[n].ea l[n].en l[n].ec,.slice l[n].ba l[n].bn l[n].bc,.slice l[n].la l[n].ln l[n].lc,.int .i64 0,.int .i64 0,.int .i64 0,.int .i64 (-1),.int .i64 0] 88))) (by intro u hu;simp only[NR.cells,List.mem_cons,List.mem_nil_iff,or_false] at hu;rcases hu with rfl | rfl | rfl | rfl | rfl | rfl | rfl | rfl | rfl | rfl | rfl | rfl<;>rfl) (by decide) (by have:=HQ.out;unfold maxLen;omega) (by have:=HQ.out;omega) (by have:=HO.out.hB;simp;omega) _ rfl ?_;intro g cap w5 hown hgrow hat hlt5;have HX:=hid (And.intro hown hgrow);have z0:=(hgrow.block b (by simp;omega) (fun e=>zba (HOW.out.drew.alloc (.cells #[.int .i64 l[n].kind,.int .i64 l[n].tag,.string l[n].name,.string l[n].func,.slice l[n].ea l[n].en l[n].ec,.slice l[n].ba l[n].bn l[n].bc,.slice l[n].la l[n].ln l[n].lc,.int .i64 0,.int .i64 0,.int .i64 0,.int .i64 (-1),.int .i64 0] 88)) (zaf (.cells #[.int .i64 l[n].kind,.int .i64 l[n].tag,.string l[n].name,.string l[n].func,.slice l[n].ea l[n].en l[n].ec,.slice l[n].ba l[n].bn l[n].bc,.slice l[n].la l[n].ln l[n].lc,.int .i64 0,.int .i64 0,.int .i64 0,.int .i64 (-1),.int .i64 0] 88) (w:=W1.drew) HO.out.box) (by decide) e.symm)).trans (zaf _ (w:=W1.drew) HO.out.box);have z1:=zab (k:=3) z0 rfl;have z2:=zac (k:=3) z0;have z3:=lt_of_block z0;clear z0 hown hgrow hat)
    all_goals
     obtain⟨hown,hgrow⟩:=HX.out
     obtain⟨x1,x2,x3,x4,x5⟩:=bd_node (n:=(NR.mk l[n] par 0 0 0 (-1) 0)) (w:=W1.alloc (.cells #[.int .i64 l[n].kind,.int .i64 l[n].tag,.string l[n].name,.string l[n].func,.slice l[n].ea l[n].en l[n].ec,.slice l[n].ba l[n].bn l[n].bc,.slice l[n].la l[n].ln l[n].lc,.int .i64 0,.int .i64 0,.int .i64 0,.int .i64 (-1),.int .i64 0] 88)) HO.out.hB (zaf _ HO.out.box) (HO.out.i.alloc _) (HO.out.n.alloc _) hown ⟨hgrow.os,hgrow.tape,hgrow.output,hgrow.size,hgrow.block⟩
     have x6:=x5 sb _ _ _ HSN.out (zaf _ HS.out) (by decide) (by decide)
     have x7:=(HBL.out.alloc (by have:=HO.out.hB;have:=lt_of_block HO.out.box;omega) (.cells #[.int .i64 l[n].kind,.int .i64 l[n].tag,.string l[n].name,.string l[n].func,.slice l[n].ea l[n].en l[n].ec,.slice l[n].ba l[n].bn l[n].bc,.slice l[n].la l[n].ln l[n].lc,.int .i64 0,.int .i64 0,.int .i64 0,.int .i64 (-1),.int .i64 0] 88)).trans x4
     have x8:=(HKP.out.alloc (.cells #[.int .i64 l[n].kind,.int .i64 l[n].tag,.string l[n].name,.string l[n].func,.slice l[n].ea l[n].en l[n].ec,.slice l[n].ba l[n].bn l[n].bc,.slice l[n].la l[n].ln l[n].lc,.int .i64 0,.int .i64 0,.int .i64 0,.int .i64 (-1),.int .i64 0] 88)).trans x5
     clear HX hown hgrow x4 x5 z1 z2 z3 hlt5 b0 b1 b2 b3 bf bl sf s0 s1 s2 s3 s4 s5 s6 sl HS HO HBL HKP HOW
     generalize w5.setCell ⟨b,3,none⟩ (.slice (some ⟨g,0,none⟩) (q.length+1) cap)=W6 at x1 x2 x3 x6 x7 x8 ⊢
     obtain⟨b0,b1,b2,b3,bf,bl⟩:=zau x1
     obtain⟨sf,s0,s1,s2,s3,s4,s5,s6,sl⟩:=zas x6
     have HA:=hid (And.intro x1 (And.intro x2 (And.intro x3 (And.intro x6 (And.intro x7 x8)))))
     clear x1 x2 x3 x6 x7 x8
     go_upto_region 6 with (at_builtin;refine wpList_append_lies _ rfl _ _ 29 rfl B 3 ii _ 1 8 Tryz.underlying29 hii hi0 hi1 hi2 rfl (by decide) (.slice ai q.length ci) q.length (ints (q.map NR.par)) rfl (HA.out.2.1.alloc _) ⟨W6.heap.size,0,none⟩ 1 1 [.int .i64 par] rfl rfl (World.news_of_block (zai W6 (.cells #[.int .i64 par] 3))) (by intro u hu;simp only[List.mem_singleton] at hu;subst hu;rfl) (by decide) (by have:=HQ.out;unfold maxLen;omega) (by have:=HQ.out;omega) (by have:=HQB.out;simp;omega) _ rfl ?_;intro g2 cap2 w7 hown hgrow hat hlt7;have HX:=hid (And.intro hown hgrow);have z0:=(hgrow.block b (by simp;omega) (fun e=>zba (HA.out.2.1.alloc (.cells #[.int .i64 par] 3)) (zaf (.cells #[.int .i64 par] 3) HA.out.1) (by decide) e.symm)).trans (zaf _ HA.out.1);have z1:=zab (k:=2) z0 rfl;have z2:=zac (k:=2) z0;have z3:=lt_of_block z0;clear z0 hown hgrow hat)
     obtain⟨hown,hgrow⟩:=HX.out
     obtain⟨y1,y4,y5⟩:=bd_in (n:=(NR.mk l[n] par 0 0 0 (-1) 0)) (w:=W6.alloc (.cells #[.int .i64 par] 3)) HQB.out (zaf _ HA.out.1) (HA.out.2.1.alloc _) (HA.out.2.2.1.alloc _) hown ⟨hgrow.os,hgrow.tape,hgrow.output,hgrow.size,hgrow.block⟩
     have y6:=y5 sb _ _ _ HSN.out (zaf _ HA.out.2.2.2.1) (by decide) (by decide)
     have y7:=(HA.out.2.2.2.2.1.alloc (by have:=HQB.out;have:=lt_of_block HA.out.1;omega) (.cells #[.int .i64 par] 3)).trans y4
     have y8:=(HA.out.2.2.2.2.2.alloc (.cells #[.int .i64 par] 3)).trans y5
     clear HX hown hgrow y4 y5 z1 z2 z3 hlt7 b0 b1 b2 b3 bf bl sf s0 s1 s2 s3 s4 s5 s6 sl HA
     generalize w7.setCell ⟨b,2,none⟩ (.slice (some ⟨g2,0,none⟩) (q.length+1) cap2)=W8 at y1 y6 y7 y8 ⊢
     obtain⟨sf,s0,s1,s2,s3,s4,s5,s6,sl⟩:=zas y6
     have HY:=hid (And.intro y1 (And.intro y6 (And.intro y7 y8)))
     clear y1 y6 y7 y8
     go_upto_region 7 with (go_at_call 42;(refine(HK1.out W8 (HP.out.trans (HY.out.2.2.1.mono HB.out)) HY.out.1).mono ?_);rintro e w9 ⟨rfl,h9,hb9,hk9⟩;have HW9:=hid (And.intro h9 (And.intro hb9 hk9));clear h9 hb9 hk9)
     obtain⟨h9,hb9,hk9⟩:=HW9.out
     have hq9:(q++[NR.mk l[n] par 0 0 0 (-1) 0])[q.length]?=some (NR.mk l[n] par 0 0 0 (-1) 0):=by simp
     generalize hL9:(lay (q++[NR.mk l[n] par 0 0 0 (-1) 0]).length (q.length:Int) (if l[n].kind=5 then (q.length:Int) else if n+1 < l.length then ((q.length+l[n].cnt:Nat):Int) else fol) (if l[n].kind=5 then (if n+1 < l.length then ((q.length+l[n].cnt:Nat):Int) else fol) else brk) (if l[n].kind=5 then (q.length:Int) else agn) l[n].body).map NR.raw=L9 at h9
     have hl9:L9.length=cnts l[n].body:=by rw[←hL9,List.length_map,zbs]
     generalize hP9:q++[NR.mk l[n] par 0 0 0 (-1) 0]++L9=P9 at h9
     have hp9:P9[q.length]?=some (NR.mk l[n] par 0 0 0 (-1) 0):=by
      rw[←hP9,List.getElem?_append_left (by simp),hq9]
     have hp9l:P9.length=q.length+1+cnts l[n].body:=by rw[←hP9,List.length_append,hl9];simp
     obtain⟨ai9,an9,ci9,cn9,hO9⟩:=bd_open h9
     obtain⟨g9,rfl,hg9,hgl9,-,-,gf9,gc9⟩:=zbk hO9.n (by omega)
     obtain⟨b0,b1,b2,b3,bf,bl⟩:=zau hO9.box
     have y2:=hk9 sb _ _ _ HSN.out HY.out.2.1 (by decide) (by decide)
     clear sf s0 s1 s2 s3 s4 s5 s6 sl
     obtain⟨sf,s0,s1,s2,s3,s4,s5,s6,sl⟩:=zas y2
     have c11:=gc9 (q.length*12+11) (by omega)
     rw[zdV _ _ _ _ hp9 (by decide)] at c11
     have c11':w9.cell? ⟨g9,q.length*12+11,none⟩=some (.int .i64 0):=c11
     have hlt9:q.length < P9.length:=by omega
     have HP9:=hid (And.intro hL9 (And.intro hP9 (And.intro hp9 hp9l)))
     have HO9:=hid hO9
     have HY9:=hid (And.intro y2 (And.intro (HY.out.2.2.1.trans hb9) (HY.out.2.2.2.trans hk9)))
     clear h9 hb9 hk9 hq9 hl9 hL9 hP9 hp9 hp9l hO9 hg9 gc9 c11 y2 HW9 HY
     go_region
     all_goals
      obtain⟨hOA,hbA,hkA⟩:=bd_set HO9.out HP9.out.2.2.1 (m:=NR.mk l[n] par 0 0 0 (-1) P9.length) (j:=11) (u:=.int .i64 P9.length) (by decide) rfl rfl rfl
      have hYA:=hkA sb _ _ _ HSN.out HY9.out.1 (by decide) (by decide)
      have HYA:=hid (And.intro hOA.bd (And.intro hYA (And.intro (HY9.out.2.1.trans hbA) (HY9.out.2.2.trans hkA))))
      have hYA2:(w9.setCell ⟨g9,q.length*12+11,none⟩ (.int .i64 P9.length)).drew.heap[sb]?=_:=hYA
      have HYB:=hid (And.intro (bd_drew HYA.out.1) (And.intro hYA2 (And.intro HYA.out.2.2.1.drew HYA.out.2.2.2.drew)))
      clear hOA hbA hkA hYA hYA2 HYA b0 b1 b2 b3 bf bl sf s0 s1 s2 s3 s4 s5 s6 sl gf9 hgl9 c11' HO9 HY9
      generalize (w9.setCell ⟨g9,q.length*12+11,none⟩ (.int .i64 P9.length)).drew=W10 at HYB ⊢
      have hY10:=HYB.out.2.1
      obtain⟨sf,s0,s1,s2,s3,s4,s5,s6,sl⟩:=zas hY10
      clear hY10
      have HK2:=hid (HIH.out l[n].la l[n].lc l[n].els (by have:=zcc l[n];have:=zdB hlt;have:=HM.out;omega) (in_els HSI.out).2 (in_els HSI.out).1 (P9.set q.length (NR.mk l[n] par 0 0 0 (-1) P9.length)) q.length (if l[n].kind=5 then (q.length:Int) else if n+1 < l.length then ((q.length+l[n].cnt:Nat):Int) else fol) (if l[n].kind=5 then (if n+1 < l.length then ((q.length+l[n].cnt:Nat):Int) else fol) else brk) (if l[n].kind=5 then (q.length:Int) else agn) (by have h1:=HPRE.out.2.2.1;have h3:=HSZ.out;have h4:=HP9.out.2.2.2;have h5:=zdU hlt;have h6:=zbV l (n+1);have h7:=zbP l[n];simp only[List.length_set];omega) W10 (HP.out.trans (HYB.out.2.2.1.mono HB.out)) HYB.out.1)
      rw[←ln_is] at HK2
      go_upto_region 9 with (go_at_call 42;(refine HK2.out.mono ?_);rintro e w11 ⟨rfl,h9,hb9,hk9⟩;have HW11:=hid (And.intro h9 (And.intro hb9 hk9));clear h9 hb9 hk9)
      obtain⟨h9,hb9,hk9⟩:=HW11.out
      generalize hL11:(lay (P9.set q.length (NR.mk l[n] par 0 0 0 (-1) P9.length)).length (q.length:Int) (if l[n].kind=5 then (q.length:Int) else if n+1 < l.length then ((q.length+l[n].cnt:Nat):Int) else fol) (if l[n].kind=5 then (if n+1 < l.length then ((q.length+l[n].cnt:Nat):Int) else fol) else brk) (if l[n].kind=5 then (q.length:Int) else agn) l[n].els).map NR.raw=L11 at h9
      generalize hP11:P9.set q.length (NR.mk l[n] par 0 0 0 (-1) P9.length)++L11=P11 at h9
      have hle:=fun bh=>laid_eq (brk:=brk) (agn:=agn) (par:=par) bh HP9.out.1 HP9.out.2.1 hL11 hP11
      have HLE:=hid hle
      have HW12:=hid (And.intro h9 (And.intro (HYB.out.2.2.1.trans hb9) (HYB.out.2.2.2.trans hk9)))
      clear hL11 hP11 hle h9 hb9 hk9 HW11 HYB HK2 sf s0 s1 s2 s3 s4 s5 s6 sl
      have hend:∀(P:List NR) (W:World),P=q++(layS q.length par (if n+1 < l.length then ((q.length+l[n].cnt:Nat):Int) else fol) brk agn (if n+1 < l.length then ((q.length+l[n].cnt:Nat):Int) else -1) l[n]).map NR.raw→Bd B b P W→Bd B b (ns++((lay ns.length par fol brk agn l).take (cnts (l.take (n+1)))).map NR.raw) W:=fun P W hP hbd=>by
       obtain⟨h1,h2,h3,h4⟩:=HPRE.out
       rw[h2,List.map_append,←List.append_assoc,h4,←h3,←hP]
       exact hbd
      have HEND:=hid hend
      clear hend
      by_cases hlast:n+1 < l.length
      ·go_upto_region 10 with (fail)
       obtain⟨ai9,an9,ci9,cn9,hO9⟩:=bd_open HW12.out.1
       have hPl:q.length < P11.length:=by have:=(HLE.out (-1)).2.2.2;have:=cnt_pos l[n];omega
       obtain⟨g9,rfl,hg9,hgl9,-,-,gf9,gc9⟩:=zbk hO9.n (by omega)
       obtain⟨b0,b1,b2,b3,bf,bl⟩:=zau hO9.box
       have c11:=gc9 (q.length*12+10) (by omega)
       rw[zdV _ _ _ _ (HLE.out (-1)).2.2.1 (by decide)] at c11
       have c11':w11.cell? ⟨g9,q.length*12+10,none⟩=some (.int .i64 (-1)):=c11
       have HO9:=hid hO9
       clear hO9 c11 gc9 hg9
       go_region
       all_goals
        obtain⟨hOA,hbA,hkA⟩:=bd_set HO9.out (HLE.out (-1)).2.2.1 (m:=NR.mk l[n] par 0 0 0 (P11.length:Int) P9.length) (j:=10) (u:=.int .i64 P11.length) (by decide) rfl rfl rfl
        have HOA:=hid (And.intro hOA.bd (And.intro (HW12.out.2.1.trans hbA) (HW12.out.2.2.trans hkA)))
        clear hOA hbA hkA
        go_wp2
        go_roundw
        case rel =>
         refine⟨n+1,by omega,by go_num,HEND.out (P11.set q.length (NR.mk l[n] par 0 0 0 (P11.length:Int) P9.length)) _ ?_ (bd_drew HOA.out.1),HOA.out.2.1.drew,HOA.out.2.2.drew⟩
         have h1:=(HLE.out ((q.length+l[n].cnt:Nat):Int)).2
         rw[if_pos hlast,if_pos hlast]
         rw[if_pos hlast] at h1
         rw[h1.2.2]
         exact h1.1
        case measure=>simp[intOf];omega
      ·have hn1:n+1=l.length:=by omega
       go_wp2
       go_roundw
       case rel=>exact⟨n+1,by omega,by go_num,HEND.out _ _ ((HLE.out _).1 (if_neg hlast)) HW12.out.1,HW12.out.2.1,HW12.out.2.2⟩
       case measure=>simp[intOf];omega
   ·have:n=l.length:=by omega
    subst this
    go_wp2
    go_end0
    rw[lay_all] at hbd
    exact⟨rfl,hbd,hbl,hkp⟩
end Go.Proofs.YtagnmppdhfmgdaaGreatDoor.Fl
