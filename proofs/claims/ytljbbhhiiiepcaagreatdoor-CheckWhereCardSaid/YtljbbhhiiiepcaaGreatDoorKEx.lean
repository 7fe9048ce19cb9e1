/- The chapter's examples hold, whatever the memory. -/
import Derived.Test.YtljbbhhiiiepcaaGreatDoorKProg
import Derived.Test.YtljbbhhiiiepcaaGreatDoorPLaid
set_option linter.unusedSimpArgs false
set_option linter.unusedVariables false
set_option maxHeartbeats 8000000
set_option maxRecDepth 100000
namespace Go.Proofs.YtljbbhhiiiepcaaGreatDoor.Ck
open Go Go.RowKit Go.Proofs.YtljbbhhiiiepcaaGreatDoor
open Go.Lib (hid)
def tg9 (tag:Int) (seen:List Int):Nat:=if tag < 1∨tag∉seen then 9 else 0
def lastC (l:List FT) (vars:List ByteArray):Nat:=match l.getLast? with
 | some F=>varsF F vars
 | none=>0
def critF (l:List FT) (tag:Int) (vars:List ByteArray):Nat:=orE (orE (orE 0 (zbV l).1.1) (tg9 tag (zbV l).1.2)) (lastC l vars)
abbrev PBox (w:World) (b:Nat) (a:Option Addr) (n c:Nat):Prop:=w.heap[b]?=some (.cells #[.slice a n c] 24 (0,0))
theorem crit1_any {w0:World} {a:Option Addr} {l:List FT} (hin:FsIn w0 0 a l) (hsm:Small l) (c mb:Nat) (hm:w0.heap.size≤mb) (bx:Nat) (w:World) (hp:Past w0 w) (hT:Tg mb w []) (hx:XBox w bx a l.length c mb):
  Calls Tryz.prog 36 #[.pointer (some ⟨bx,0,none⟩)] w (Ans mb w (zbV l).1):=by
 obtain⟨x0,x1,hlx⟩:=zdQ hx
 have HP:=hid (zda hin hsm c mb hm w hp hT)
 clear hin hsm hm hp hT hx
 go_enter Tryz.func36,Tryz.ntmps36
 go_wp2_with (go_at_call 29;have hx:=HP.out;refine hx.mono ?_;clear hx;intro e w2 hA;have HQ:=hid hA;obtain⟨rfl,-⟩:=hA)
 go_ret
 exact⟨rfl,HQ.out.2.1,HQ.out.2.2⟩
theorem crit2_any (a:Option Addr) (n c mb:Nat) (tag:Int) (ht:-9223372036854775808≤tag∧tag≤9223372036854775807) (seen:List Int) (bt bx:Nat) (w:World) (hT:Tg mb w seen) (hb:Box w bt (.int .i64 tag) 3) (hx:XBox w bx a n c mb):
  Calls Tryz.prog 37 #[.pointer (some ⟨bt,0,none⟩),.pointer (some ⟨bx,0,none⟩)] w fun e w'=>e=.returned (.int .i64 (tg9 tag seen:Nat))∧Below w.heap.size w w':=by
 obtain⟨x0,x1,hlx⟩:=zdQ hx
 have b0:=hb.c0
 have hlb:=hb.lt
 have hk:=hT.look ht
 have hmem:tag∉seen↔seen.count tag=0:=List.count_eq_zero.symm
 have hc:seen.count tag≤seen.length:=List.count_le_length
 obtain⟨k,hkk⟩:∃k,seen.count tag=k:=⟨_,rfl⟩
 rw[hkk] at hk hmem
 have HCNT:=hid hmem
 clear hT hb hx hmem hc hkk
 by_cases h1:tag < 1
 ·have q1:decide (tag < 1)=true:=decide_eq_true h1
  have HV:Hid (tg9 tag seen=9):=hid (by unfold tg9;rw[if_pos (Or.inl h1)])
  clear h1 hk
  go_enter Tryz.func37,Tryz.ntmps37
  go_wp2_with (go_at_call 38;refine(zaG _ _ _).mono ?_;rintro e w' ⟨rfl,rfl⟩)
  go_ret
  exact⟨by rw[HV.out];rfl,Below.refl _ _⟩
 ·have q1:decide (tag < 1)=false:=decide_eq_false h1
  by_cases h2:k=0
  ·have q2:((k:Int)==0)=true:=by simpa using h2
   have HV:Hid (tg9 tag seen=9):=hid (by unfold tg9;rw[if_pos (Or.inr (HCNT.out.2 h2))])
   clear h1 h2
   go_enter Tryz.func37,Tryz.ntmps37
   go_wp2_with (go_at_call 38;refine(zaG _ _ _).mono ?_;rintro e w' ⟨rfl,rfl⟩)
   go_ret
   exact⟨by rw[HV.out];rfl,Below.refl _ _⟩
  ·have q2:((k:Int)==0)=false:=by simpa using h2
   have HV:Hid (tg9 tag seen=0):=hid (by unfold tg9;rw[if_neg (fun h=>by rcases h with h | h;(exact h1 h);(exact h2 (HCNT.out.1 h)))])
   clear h1 h2
   go_enter Tryz.func37,Tryz.ntmps37
   go_wp2_with (go_at_call 38;refine(zaG _ _ _).mono ?_;rintro e w' ⟨rfl,rfl⟩)
   go_ret
   exact⟨by rw[HV.out];rfl,Below.refl _ _⟩
theorem crit31_any {w0:World} {F:FT} (hin:F.In w0 0) (nm:ByteArray) (bf:Nat) (w:World) (hp:Past w0 w) (hf:FBox w bf F):
  Calls Tryz.prog 41 #[.string nm,.pointer (some ⟨bf,0,none⟩)] w fun e w'=>e=.returned (.int .i64 (namedF F nm false:Nat))∧Below w.heap.size w w':=by
 obtain⟨f0,f1,f2,f3,hlf⟩:=fcells hf
 have HX:=hid (zdu hin nm false w hp)
 clear hp hin hf
 go_enter Tryz.func41,Tryz.ntmps41
 go_wp2_with (go_at_call 42;have hx:=HX.out;refine hx.mono ?_;clear hx;rintro e w1 ⟨rfl,hb1⟩)
 go_ret
 exact⟨rfl,hb1⟩
theorem varsF_fold (F:FT) (L:List ByteArray):varsF F L=(L.map fun s=>namedF F s false).foldr orE 0:=by
 induction L with
 | nil=>rfl
 | cons T L ih=>rw[varsF,ih];rfl
theorem vars_list {w0:World} {F:FT} (hin:F.In w0 0) (va:Option Addr) (vc:Nat) (L:List ByteArray) (hl:L.length≤9223372036854775807) (hL:StrsIn w0 0 va L) (bf:Nat) (W:World) (hW:Past w0 W) (hf:FBox W bf F):
  Calls Tryz.prog 40 #[.slice va L.length vc,.func (.func 41) #[] #[.pointer (some ⟨bf,0,none⟩)]] W fun e w'=>e=.returned (.int .i64 (varsF F L:Nat))∧Below W.heap.size W w':=by
 have h:=eachT_any va vc L hl hL 41 #[.pointer (some ⟨bf,0,none⟩)] (enters_of Tryz.func41 (by kernel_rfl) rfl) (cd (L.map fun s=>namedF F s false)) (fun _ V=>Below W.heap.size W V) (fun k V hV=>hW.on hV)
  (fun k h V hz hV=>by
   rw[cd_at (fun s=>namedF F s false) L k h]
   exact(crit31_any hin L[k] bf V (hW.on hV) (bl hV hf)).mono fun e w' q=>⟨q.1,zan hV q.2⟩) W (Below.refl _ _)
 refine h.mono ?_
 rintro e w' ⟨he,k,hk,hb,-⟩
 refine⟨?_,hb⟩
 have:=firstC_list (L.map fun s=>namedF F s false)
 rw[List.length_map,←varsF_fold] at this
 rw[he,this]
theorem crit3_any {w0:World} {a:Option Addr} {l:List FT} (hin:FsIn w0 0 a l) (h0:0 < l.length) (c:Nat) (va:Option Addr) (vc:Nat) (L:List ByteArray) (hl:L.length≤9223372036854775807) (hL:StrsIn w0 0 va L) (bp bv:Nat) (w:World) (hp:Past w0 w) (hb:PBox w bp a l.length c) (hv:Box w bv (.slice va L.length vc) 32):
  Calls Tryz.prog 39 #[.pointer (some ⟨bp,0,none⟩),.pointer (some ⟨bv,0,none⟩)] w fun e w'=>e=.returned (.int .i64 (lastC l L:Nat))∧Below w.heap.size w w':=by
 obtain⟨k,hk⟩:∃k,k+1=l.length:=⟨l.length - 1,by omega⟩
 have hkk:k < l.length:=by omega
 have HV:Hid (lastC l L=varsF l[k] L):=hid (by
  unfold lastC
  rw[List.getLast?_eq_getElem?,show l.length - 1=k by omega,List.getElem?_eq_getElem hkk])
 have hX:=fun(bf:Nat) (W:World) (hW:Past w0 W) (hf:FBox W bf l[k])=>vars_list (hin.fs k hkk) va vc L hl hL bf W hW hf
 have HX:=hid hX
 have HP:=hid hp
 have p0:=zab (k:=0) hb rfl
 have hlp:=zcS hb
 have v0:=hv.c0
 have hlv:=hv.lt
 have hrow:=hin.row k hkk
 obtain⟨kb,ko,rfl,-⟩:=hrow
 have hrow:=hin.row k hkk
 rw[F.cells_is] at hrow
 obtain⟨r0,r1,r2,r3,hkb⟩:=zbk hrow hp
 have hn:=hin.len
 have el:(l.length:Int) - 1=(k:Int):=by omega
 have ew:IntKind.i64.wrap ((l.length:Int) - 1)=(k:Int):=by rw[el];exact IntWalk.i64_in _ (by omega)
 have HBV:=hid hv
 clear hX hp hb hv hrow hin hL h0
 go_enter Tryz.func39,Tryz.ntmps39
 go_wp2_with (go_at_call 40;refine(HX.out _ _ ?_ ?_).mono ?_;(exact HP.out.alloc _);(exact nb _ rfl);rintro e w1 ⟨rfl,hb1⟩;have HB1:=hid hb1;clear hb1)
 go_ret
 exact⟨by rw[HV.out];rfl,zan (bal (bre w) _) HB1.out⟩
theorem prog_pos {l:List FT} (h:(zbV l).1.1=0):0 < l.length:=by
 unfold zbV at h
 by_cases hw:wholeF l=0
 ·rw[whole_code] at hw
  have:orE (orE (orE (orE 0 (e1 l)) (e2 l)) (e3 l)) (e4l l)=0:=hw
  simp only[zbz] at this
  exact(e2_len this.1.1.2).1
 ·rw[if_neg hw] at h;exact absurd h hw
theorem crit_any {w0:World} {a:Option Addr} {l:List FT} (hin:FsIn w0 0 a l) (hsm:Small l) (c:Nat) (tag:Int) (ht:-9223372036854775808≤tag∧tag≤9223372036854775807) (va:Option Addr) (vc:Nat) (L:List ByteArray) (hl:L.length≤9223372036854775807) (hL:StrsIn w0 0 va L) (w:World) (hp:Past w0 w):
  Calls Tryz.prog 17 #[.agg #[.slice a l.length c],.int .i64 tag,.slice va L.length vc] w fun e w'=>e=.returned (.int .i64 (critF l tag L:Nat))∧Below w.heap.size w w':=by
 have HI:=hid hin
 have HL:=hid hL
 have HS:=hid hsm
 have HP:=hid hp
 have HN:=hid (fun W=>new_any a l.length c W)
 clear hp hin hsm hL
 go_enter Tryz.func17,Tryz.ntmps17
 go_wp2_with (first
  | (go_at_call 35;refine(zcU mb [(36,#[.pointer (some ⟨w1.heap.size,0,none⟩)]),(37,#[.pointer (some ⟨w.heap.size+1,0,none⟩),.pointer (some ⟨w1.heap.size,0,none⟩)]),(39,#[.pointer (some ⟨w.heap.size,0,none⟩),.pointer (some ⟨w.heap.size+2,0,none⟩)])] (cd [(zbV l).1.1,tg9 tag (zbV l).1.2,lastC l L]) (stl [[],(zbV l).1.2,(zbV l).1.2,(zbV l).1.2]) _ _ (by show 3≤100;decide) ?_ ?_ ?_ ?_ ?_).mono ?_;(have:=HT.out.lt;simp;omega);(intro k h;match k,h with | 0,_=>exact enters_of Tryz.func36 (by kernel_rfl) rfl | 1,_=>exact enters_of Tryz.func37 (by kernel_rfl) rfl | 2,_=>exact enters_of Tryz.func39 (by kernel_rfl) rfl | k+3,h=>exact absurd h (by simp));(intro k h;match k,h with | 0,_=>(refine zab (nb _ (by simp)) ?_;rfl) | 1,_=>(refine zab (nb _ (by simp)) ?_;rfl) | 2,_=>(refine zab (nb _ (by simp)) ?_;rfl) | k+3,h=>exact absurd h (by simp));(intro k h W hz hW hT;match k,h with | 0,_=>exact crit1_any HI.out HS.out c mb (by have:=HMB.out;have:=HP.out.size;omega) _ W (zcG ((Past.on HP.out HB1.out).alloc _ |>.alloc _) hW (by have:=HMB.out;have:=HP.out.size;omega)) hT (zaq hW (by have:=HMB.out;have:=HT.out.lt;omega) (ob _ (nb _ rfl))) | 1,_=>exact(crit2_any a l.length c mb tag ht _ _ _ W hT (zaq hW (by have:=HMB.out;have:=HT.out.lt;omega) (ob _ (ob _ HTB.out))) (zaq hW (by have:=HMB.out;have:=HT.out.lt;omega) (ob _ (nb _ rfl)))).mono fun e w' h=>hT.quiet h | 2,_=>(have h0:0 < l.length:=prog_pos (by simp[zau,cd,zbz] at hz;exact hz.1);exact(crit3_any HI.out h0 c va vc L hl HL.out _ _ W (zcG ((Past.on HP.out HB1.out).alloc _ |>.alloc _) hW (by have:=HMB.out;have:=HP.out.size;omega)) (zaq hW (by have:=HMB.out;have:=HT.out.lt;omega) (ob _ (ob _ HPB.out))) (zaq hW (by have:=HMB.out;have:=HT.out.lt;omega) (ob _ (ob _ HVB.out)))).mono fun e w' h=>hT.quiet h) | k+3,h=>exact absurd h (by simp));(exact(HT.out.alloc _).alloc _);rintro e w2 ⟨rfl,hg2,-⟩;have HG2:=hid hg2;clear hg2)
  | (go_at_call 28;refine(HN.out _).mono ?_;rintro e w1 ⟨⟨mb,rfl,hmb,ht1⟩,hb1⟩;have HMB:Hid (w.heap.size+3≤mb):=hid (by simp at hmb;omega);have HT:=hid ht1;have HPB:Hid (PBox w1 w.heap.size a l.length c):=hid (bl hb1 (ob _ (ob _ (nb _ rfl))));have HTB:Hid (Box w1 (w.heap.size+1) (.int .i64 tag) 3):=hid (bl hb1 (ob _ (nb _ (by simp))));have HVB:Hid (Box w1 (w.heap.size+2) (.slice va L.length vc) 32):=hid (bl hb1 (nb _ (by simp)));have HB1:Hid (Below w.heap.size w w1):=hid (zan (bal (bal (bal (bre w) _) _) _) hb1);clear hb1 ht1 hmb))
 go_ret
 exact⟨rfl,Below.grown HB1.out (zaA (zah (zah (zaC _ _) _) _) HG2.out) HB1.out.size (fun k e=>by cases e;have:=HMB.out;omega)⟩
end Go.Proofs.YtljbbhhiiiepcaaGreatDoor.Ck

namespace Go.Proofs.YtljbbhhiiiepcaaGreatDoor.Ck
open Go Go.RowKit Go.Proofs.YtljbbhhiiiepcaaGreatDoor Go.Proofs.YtljbbhhiiiepcaaGreatDoor.Pm
/- Right trees: what is asked of them as of plain data. -/
def tg9R (tag:Int) (seen:List Nat):Nat:=if tag < 1∨tag.toNat∉seen then 9 else 0
def varsR (F:RF) (vars:List Nm):Nat:=match vars with
 | []=>0
 | a :: l=>orE (zdy F a false) (varsR F l)
def lastR (l:List RF) (vars:List Nm):Nat:=match l.getLast? with
 | some F=>varsR F vars
 | none=>0
def critR (l:List RF) (tag:Int) (vars:List Nm):Nat:=orE (orE (orE 0 (zdd l).1.1) (tg9R tag (zdd l).1.2)) (lastR l vars)
theorem vars_rf {F:FT} (h:F.rightB=true) (vars:List ByteArray):varsF F vars=varsR F.rf (vars.map fun s=>s.data.toList):=by
 induction vars with
 | nil=>rfl
 | cons a l ih=>rw[varsF,List.map_cons,varsR,named_rf h,ih]
theorem crit_rf {l:List FT} (h:l.all FT.rightB=true) (tag:Int) (vars:List ByteArray):critF l tag vars=critR (l.map FT.rf) tag (vars.map fun s=>s.data.toList):=by
 have hp:=(prog_rf h).1
 unfold critF critR
 rw[hp.1,←hp.2.1]
 congr 1
 ·congr 1
  unfold tg9 tg9R
  by_cases h1:tag < 1
  ·rw[if_pos (Or.inl h1),if_pos (Or.inl h1)]
  ·have e:(tag.toNat∈natS (zbV l).1.2)=(tag∈(zbV l).1.2):=propext (mem_natS (by omega) hp.2.2)
   simp only[e]
 ·unfold lastC lastR
  rw[List.getLast?_map]
  cases hl:l.getLast? with
  | none=>rfl
  | some F =>
   exact vars_rf (List.all_eq_true.1 h F (List.mem_of_getLast? hl)) vars
def zdB (p:List RF):Bool:=decide (stsR p≤4611686018427387904)&&p.all fun F=>decide (F.params.length≤1000000000∧F.vars.length≤1000000000)
theorem small_rf {l:List FT} (h:l.all FT.rightB=true) (hs:zdB (l.map FT.rf)=true):Small l:=by
 unfold zdB at hs
 rw[Bool.and_eq_true,decide_eq_true_eq,List.all_eq_true] at hs
 refine⟨by rw[sts_rf h];exact hs.1,fun k hk=>?_⟩
 have:=of_decide_eq_true (hs.2 l[k].rf (List.mem_map.2 ⟨_,List.getElem_mem hk,rfl⟩))
 simpa[FT.rf] using this
def pOf (t:List UInt8):List RF:=match zbM 100 t with
 | .ok p _=>p
 | .bad _ _=>[]
def mOf (t:List UInt8):Nat:=match zbM 100 t with
 | .ok _ n=>n
 | .bad _ _=>0
def tG:List UInt8:=[102,117,110,99,32,102,40,97,41,32,123,32,114,101,116,117,114,110,32,97,59,32,125,32,102,117,110,99,32,109,97,105,110,40,41,32,123,32,118,97,114,32,120,44,32,121,91,50,93,59,32,64,49,32,120,32,61,32,102,40,51,41,59,32,119,104,105,108,101,32,40,120,41,32,123,32,98,114,101,97,107,59,32,125,32,125]
def tB:Nat→List UInt8
 | 0=>[102,117,110,99,32,109,97,105,110,40,41,32,123,32,120,32,61,32,49,59,32,125]
 | 1=>[102,117,110,99,32,109,97,105,110,40,41,32,123,32,118,97,114,32,120,91,50,93,59,32,120,32,61,32,49,59,32,125]
 | 2=>[102,117,110,99,32,109,97,105,110,40,41,32,123,32,98,114,101,97,107,59,32,125]
 | 3=>[102,117,110,99,32,102,40,41,32,123,32,64,49,32,114,101,116,117,114,110,32,48,59,32,125,32,102,117,110,99,32,109,97,105,110,40,41,32,123,32,125]
 | 4=>[102,117,110,99,32,102,40,97,41,32,123,32,114,101,116,117,114,110,32,97,59,32,125,32,102,117,110,99,32,109,97,105,110,40,41,32,123,32,118,97,114,32,120,59,32,120,32,61,32,102,40,41,59,32,125]
 | 5=>[102,117,110,99,32,102,40,41,32,123,32,114,101,116,117,114,110,32,48,59,32,125]
 | _=>[102,117,110,99,32,109,97,105,110,40,41,32,123,32,118,97,114,32,120,59,32,64,49,32,120,32,61,32,49,59,32,64,49,32,120,32,61,32,50,59,32,125]
def wB:Nat→Nat
 | 0=>6
 | 1=>7
 | 2=>8
 | 3=>9
 | 4=>10
 | 5=>10
 | _=>9
theorem evG:zbM 100 tG=.ok (pOf tG) (mOf tG):=by kernel_rfl
theorem lenG:(pOf tG).length=2:=by kernel_rfl
theorem chkG:((zdd (pOf tG)).1.1,(zdd (pOf tG)).2)=(0,-1):=by kernel_rfl
theorem smG:zdB (pOf tG)=true:=by kernel_rfl
theorem cr1:critR (pOf tG) 1 [[120]]=0:=by kernel_rfl
theorem cr2:critR (pOf tG) 2 []=9:=by kernel_rfl
theorem cr3:critR (pOf tG) 1 [[121]]=7:=by kernel_rfl
theorem cr4:critR (pOf tG) 1 [[122]]=6:=by kernel_rfl
theorem fdG:findR (pOf tG) [109,97,105,110]=1:=by kernel_rfl
theorem szG:((pOf tG)[1]?.map fun F=>sizeR F [121])=some (some 2):=by kernel_rfl
theorem evB0:zbM 100 (tB 0)=.ok (pOf (tB 0)) (mOf (tB 0))∧(zdd (pOf (tB 0))).1.1=wB 0∧zdB (pOf (tB 0))=true:=⟨by kernel_rfl,by kernel_rfl,by kernel_rfl⟩
theorem evB1:zbM 100 (tB 1)=.ok (pOf (tB 1)) (mOf (tB 1))∧(zdd (pOf (tB 1))).1.1=wB 1∧zdB (pOf (tB 1))=true:=⟨by kernel_rfl,by kernel_rfl,by kernel_rfl⟩
theorem evB2:zbM 100 (tB 2)=.ok (pOf (tB 2)) (mOf (tB 2))∧(zdd (pOf (tB 2))).1.1=wB 2∧zdB (pOf (tB 2))=true:=⟨by kernel_rfl,by kernel_rfl,by kernel_rfl⟩
theorem evB3:zbM 100 (tB 3)=.ok (pOf (tB 3)) (mOf (tB 3))∧(zdd (pOf (tB 3))).1.1=wB 3∧zdB (pOf (tB 3))=true:=⟨by kernel_rfl,by kernel_rfl,by kernel_rfl⟩
theorem evB4:zbM 100 (tB 4)=.ok (pOf (tB 4)) (mOf (tB 4))∧(zdd (pOf (tB 4))).1.1=wB 4∧zdB (pOf (tB 4))=true:=⟨by kernel_rfl,by kernel_rfl,by kernel_rfl⟩
theorem evB5:zbM 100 (tB 5)=.ok (pOf (tB 5)) (mOf (tB 5))∧(zdd (pOf (tB 5))).1.1=wB 5∧zdB (pOf (tB 5))=true:=⟨by kernel_rfl,by kernel_rfl,by kernel_rfl⟩
theorem evB6:zbM 100 (tB 6)=.ok (pOf (tB 6)) (mOf (tB 6))∧(zdd (pOf (tB 6))).1.1=wB 6∧zdB (pOf (tB 6))=true:=⟨by kernel_rfl,by kernel_rfl,by kernel_rfl⟩
theorem evB (k:Nat) (h:k < 7):zbM 100 (tB k)=.ok (pOf (tB k)) (mOf (tB k))∧(zdd (pOf (tB k))).1.1=wB k∧zdB (pOf (tB k))=true:=by
 match k,h with
 | 0,_=>exact evB0
 | 1,_=>exact evB1
 | 2,_=>exact evB2
 | 3,_=>exact evB3
 | 4,_=>exact evB4
 | 5,_=>exact evB5
 | 6,_=>exact evB6
 | k+7,h=>exact absurd h (by omega)
theorem lenB (k:Nat):(tB k).length≤8192:=by
 unfold tB;split<;>decide
theorem zcX {w:World} (H:Wo w) (sb:ByteArray) {t:List UInt8} {p:List RF} {mo:Nat} (hs:sb.data.toList=t) (hl:t.length≤8192) (ev:zbM 100 t=.ok p mo):
  Calls Tryz.prog 23 #[.string sb] w fun e w'=>Below w.heap.size w w'∧∃a c l,e=.returned (.tuple #[.agg #[.slice a l.length c],.int .i64 (t.length:Nat),.int .i64 0])∧l.map FT.rf=p∧l.all FT.rightB=true∧FsIn w' 0 a l:=by
 subst hs
 refine(pParse_any 100 sb hl H.er (finA_ok ev)).mono ?_
 intro e w' hq
 rw[ev] at hq
 obtain⟨hb,v,rfl,a,c,l,rfl,h1,h2,h3,-⟩:=hq
 exact⟨hb,a,c,l,rfl,h1,h2,h3.mono (Nat.zero_le _)⟩
structure GoodP (w0:World) (a:Option Addr) (c:Nat):Prop where
 chk:∀W,Past w0 W→Calls Tryz.prog 11 #[.agg #[.slice a 2 c]] W fun e w'=>e=.returned (.tuple #[.int .i64 0,.int .i64 (-1)])∧Below W.heap.size W w'
 cr1:∀W b,Past w0 W→W.heap[b]?=some (.cells #[.string {data:=#[120]}] 9 (0,0))→Calls Tryz.prog 17 #[.agg #[.slice a 2 c],.int .i64 1,.slice (some ⟨b,0,none⟩) 1 1] W fun e w'=>e=.returned (.int .i64 0)∧Below W.heap.size W w'
 cr2:∀W,Past w0 W→Calls Tryz.prog 17 #[.agg #[.slice a 2 c],.int .i64 2,.slice none 0 0] W fun e w'=>e=.returned (.int .i64 9)∧Below W.heap.size W w'
 cr3:∀W b,Past w0 W→W.heap[b]?=some (.cells #[.string {data:=#[121]}] 9 (0,0))→Calls Tryz.prog 17 #[.agg #[.slice a 2 c],.int .i64 1,.slice (some ⟨b,0,none⟩) 1 1] W fun e w'=>e=.returned (.int .i64 7)∧Below W.heap.size W w'
 cr4:∀W b,Past w0 W→W.heap[b]?=some (.cells #[.string {data:=#[122]}] 9 (0,0))→Calls Tryz.prog 17 #[.agg #[.slice a 2 c],.int .i64 1,.slice (some ⟨b,0,none⟩) 1 1] W fun e w'=>e=.returned (.int .i64 6)∧Below W.heap.size W w'
 fd:∀W,Past w0 W→Calls Tryz.prog 19 #[.agg #[.slice a 2 c],.string {data:=#[109,97,105,110]}] W fun e w'=>e=.returned (.int .i64 1)∧Below W.heap.size W w'
 sz:∃kb ko v0 v1 v2 v3,a=some ⟨kb,ko,none⟩∧(∀W,Past w0 W→W.cell? ⟨kb,ko+4,none⟩=some v0∧W.cell? ⟨kb,ko+5,none⟩=some v1∧W.cell? ⟨kb,ko+6,none⟩=some v2∧W.cell? ⟨kb,ko+7,none⟩=some v3∧kb < W.heap.size)∧∀W,Past w0 W→Calls Tryz.prog 14 #[.agg #[v0,v1,v2,v3],.string {data:=#[121]}] W fun e w'=>e=.returned (.tuple #[.int .i64 2,.bool true])∧Below W.heap.size W w'
theorem one_str {w:World} {b:Nat} {s:ByteArray} (h:w.heap[b]?=some (.cells #[.string s] 9 (0,0))):StrsIn w 0 (some ⟨b,0,none⟩) [s]:=fun i hi=>⟨b,0,rfl,Nat.zero_le _,by
 have:i=0:=by simpa using hi
 subst this
 exact zab h rfl⟩
theorem good_p {w0:World} {a:Option Addr} {c:Nat} {l:List FT} (h1:l.map FT.rf=pOf tG) (h2:l.all FT.rightB=true) (h3:FsIn w0 0 a l):l.length=2∧GoodP w0 a c:=by
 have hl:l.length=2:=by have:=congrArg List.length h1;rw[List.length_map,lenG] at this;exact this
 have hsm:Small l:=small_rf h2 (by rw[h1];exact smG)
 have hcr:∀(tag:Int) (vars:List ByteArray) (va:Option Addr) (vc:Nat) (v:Nat) (W:World),critR (pOf tG) tag (vars.map fun s=>s.data.toList)=v→(-9223372036854775808≤tag∧tag≤9223372036854775807)→vars.length≤10→Past w0 W→StrsIn W 0 va vars→Calls Tryz.prog 17 #[.agg #[.slice a 2 c],.int .i64 tag,.slice va vars.length vc] W fun e w'=>e=.returned (.int .i64 (v:Nat))∧Below W.heap.size W w':=by
  intro tag vars va vc v W hv ht hvl hW hS
  have h:=crit_any (w0:=W) (h3.on hW) hsm c tag ht va vc vars (by omega) hS W (Past.refl _)
  rw[crit_rf h2,h1,hv,hl] at h
  exact h
 refine⟨hl,⟨fun W hW=>?_,fun W b hW hb=>?_,fun W hW=>?_,fun W b hW hb=>?_,fun W b hW hb=>?_,fun W hW=>?_,?_⟩⟩
 ·have h:=zb0 h3 hsm c W hW
  rw[chk_rf h2,h1,chkG,hl] at h
  exact h
 ·exact hcr 1 [{data:=#[120]}] _ 1 0 W cr1 (by decide) (by decide) hW (one_str hb)
 ·exact hcr 2 [] none 0 9 W cr2 (by decide) (by decide) hW (fun i hi=>absurd hi (by simp))
 ·exact hcr 1 [{data:=#[121]}] _ 1 7 W cr3 (by decide) (by decide) hW (one_str hb)
 ·exact hcr 1 [{data:=#[122]}] _ 1 6 W cr4 (by decide) (by decide) hW (one_str hb)
 ·have h:=find_any h3 c {data:=#[109,97,105,110]} W hW
  have e:zei l {data:=#[109,97,105,110]}=1:=by
   unfold zei
   rw[find_rf,h1,show(({data:=#[109,97,105,110]}:ByteArray).data.toList)=[109,97,105,110] from rfl,fdG,hl];rfl
  rw[e,hl] at h
  exact h
 ·have hk:1 < l.length:=by omega
  obtain⟨kb,ko,e,-⟩:=h3.row 1 hk
  have hrow:=h3.row 1 hk
  rw[e,F.cells_is] at hrow
  refine⟨kb,ko,.string l[1].name,.slice l[1].pa l[1].params.length l[1].pc,.slice l[1].va l[1].vars.length l[1].vc,.slice l[1].ba l[1].body.length l[1].bc,e,fun W hW=>?_,fun W hW=>?_⟩
  ·obtain⟨r0,r1,r2,r3,r4⟩:=zbk hrow hW
   exact⟨r0,r1,r2,r3,r4⟩
  ·have h:=size_any (h3.fs 1 hk) {data:=#[121]} W hW
   have er:l[1].rightB=true:=List.all_eq_true.1 h2 _ (List.getElem_mem hk)
   have es:zdx l[1] {data:=#[121]}=some 2:=by
    have g:=szG
    rw[←h1,List.getElem?_map,List.getElem?_eq_getElem hk] at g
    simp only[Option.map_some,Option.some.injEq] at g
    have hsz:=size_rf er {data:=#[121]}
    rw[hsz]
    show(sizeR l[1].rf [121]).map Int.ofNat=some 2
    rw[g];rfl
   unfold szV at h
   rw[es] at h
   exact h
theorem bad_p {w0:World} {a:Option Addr} {c k:Nat} {l:List FT} (hk:k < 7) (h1:l.map FT.rf=pOf (tB k)) (h2:l.all FT.rightB=true) (h3:FsIn w0 0 a l):∃wh:Int,∀W,Past w0 W→Calls Tryz.prog 11 #[.agg #[.slice a l.length c]] W fun e w'=>e=.returned (.tuple #[.int .i64 (wB k:Nat),.int .i64 wh])∧Below W.heap.size W w':=by
 have hsm:Small l:=small_rf h2 (by rw[h1];exact(evB k hk).2.2)
 refine⟨(zdd (pOf (tB k))).2,fun W hW=>?_⟩
 have h:=zb0 h3 hsm c W hW
 rw[chk_rf h2,h1,(evB k hk).2.1] at h
 exact h
theorem none_p (c:Nat) (W:World):Calls Tryz.prog 11 #[.agg #[.slice none 0 0]] W fun e w'=>e=.returned (.tuple #[.int .i64 5,.int .i64 (-1)])∧Below W.heap.size W w':=by
 have h:=zb0 (w0:=W) (a:=none) (l:=[]) ⟨by simp,fun i hi=>absurd hi (by simp),fun i hi=>absurd hi (by simp)⟩ ⟨by rw[stsV];omega,fun k hk=>absurd hk (by simp)⟩ 0 W (Past.refl _)
 exact h
end Go.Proofs.YtljbbhhiiiepcaaGreatDoor.Ck

namespace Go.Proofs.YtljbbhhiiiepcaaGreatDoor.Ck
open Go Go.RowKit Go.Proofs.YtljbbhhiiiepcaaGreatDoor Go.Proofs.YtljbbhhiiiepcaaGreatDoor.Pm
open Go.Lib (hid)
theorem lcell {W:World} {b:Nat} (h:W.heap[b]?=some (.cells #[.string {data:=#[102,117,110,99,32,109,97,105,110,40,41,32,123,32,120,32,61,32,49,59,32,125]},.string {data:=#[102,117,110,99,32,109,97,105,110,40,41,32,123,32,118,97,114,32,120,91,50,93,59,32,120,32,61,32,49,59,32,125]},.string {data:=#[102,117,110,99,32,109,97,105,110,40,41,32,123,32,98,114,101,97,107,59,32,125]},.string {data:=#[102,117,110,99,32,102,40,41,32,123,32,64,49,32,114,101,116,117,114,110,32,48,59,32,125,32,102,117,110,99,32,109,97,105,110,40,41,32,123,32,125]},.string {data:=#[102,117,110,99,32,102,40,97,41,32,123,32,114,101,116,117,114,110,32,97,59,32,125,32,102,117,110,99,32,109,97,105,110,40,41,32,123,32,118,97,114,32,120,59,32,120,32,61,32,102,40,41,59,32,125]},.string {data:=#[102,117,110,99,32,102,40,41,32,123,32,114,101,116,117,114,110,32,48,59,32,125]},.string {data:=#[102,117,110,99,32,109,97,105,110,40,41,32,123,32,118,97,114,32,120,59,32,64,49,32,120,32,61,32,49,59,32,64,49,32,120,32,61,32,50,59,32,125]}] 9 (0,0))) (k:Nat) (hk:k < 7):W.cell? ⟨b,k,none⟩=some (.string {data:=(tB k).toArray}):=by
 match k,hk with
 | 0,_=>exact zab h rfl
 | 1,_=>exact zab h rfl
 | 2,_=>exact zab h rfl
 | 3,_=>exact zab h rfl
 | 4,_=>exact zab h rfl
 | 5,_=>exact zab h rfl
 | 6,_=>exact zab h rfl
 | k+7,h=>exact absurd h (by omega)
theorem wcell {W:World} {b:Nat} {t:TypeId} (h:W.heap[b]?=some (.cells #[.int .i64 6,.int .i64 7,.int .i64 8,.int .i64 9,.int .i64 10,.int .i64 10,.int .i64 9] t (0,0))) (k:Nat) (hk:k < 7):W.cell? ⟨b,k,none⟩=some (.int .i64 (wB k:Nat)):=by
 match k,hk with
 | 0,_=>exact zab h rfl
 | 1,_=>exact zab h rfl
 | 2,_=>exact zab h rfl
 | 3,_=>exact zab h rfl
 | 4,_=>exact zab h rfl
 | 5,_=>exact zab h rfl
 | 6,_=>exact zab h rfl
 | k+7,h=>exact absurd h (by omega)
structure LInv (w w1 w3:World) (a:Option Addr) (c:Nat) (wr:World):Prop where
 b:Below w.heap.size w wr
 p:Past w1 wr
 g:PBox wr w1.heap.size a 2 c
 l:wr.heap[w3.heap.size]?=some (.cells #[.string {data:=#[102,117,110,99,32,109,97,105,110,40,41,32,123,32,120,32,61,32,49,59,32,125]},.string {data:=#[102,117,110,99,32,109,97,105,110,40,41,32,123,32,118,97,114,32,120,91,50,93,59,32,120,32,61,32,49,59,32,125]},.string {data:=#[102,117,110,99,32,109,97,105,110,40,41,32,123,32,98,114,101,97,107,59,32,125]},.string {data:=#[102,117,110,99,32,102,40,41,32,123,32,64,49,32,114,101,116,117,114,110,32,48,59,32,125,32,102,117,110,99,32,109,97,105,110,40,41,32,123,32,125]},.string {data:=#[102,117,110,99,32,102,40,97,41,32,123,32,114,101,116,117,114,110,32,97,59,32,125,32,102,117,110,99,32,109,97,105,110,40,41,32,123,32,118,97,114,32,120,59,32,120,32,61,32,102,40,41,59,32,125]},.string {data:=#[102,117,110,99,32,102,40,41,32,123,32,114,101,116,117,114,110,32,48,59,32,125]},.string {data:=#[102,117,110,99,32,109,97,105,110,40,41,32,123,32,118,97,114,32,120,59,32,64,49,32,120,32,61,32,49,59,32,64,49,32,120,32,61,32,50,59,32,125]}] 9 (0,0))
 m:wr.heap[w3.heap.size+1]?=some (.cells #[.int .i64 6,.int .i64 7,.int .i64 8,.int .i64 9,.int .i64 10,.int .i64 10,.int .i64 9] 33 (0,0))
theorem LInv.on {w w1 w3 wr W:World} {a:Option Addr} {c:Nat} (h:LInv w w1 w3 a c wr) (hb:Below wr.heap.size wr W):LInv w w1 w3 a c W:=
 ⟨zan h.b hb,h.p.on hb,bl hb h.g,bl hb h.l,bl hb h.m⟩
theorem ex_any {w:World} (H:Wo w):Calls Tryz.prog 8 #[] w fun e w'=>e=.returned (.bool true)∧Below w.heap.size w w':=by
 have HO:=hid H
 clear H
 go_enter Tryz.func8,Tryz.ntmps8
 go_wp2_with (first
  | (go_at_call 11;(refine(none_p 0 _).mono ?_);(rintro e w3 ⟨rfl,hb3⟩);have HB3:=hid hb3;clear hb3)
  | (go_at_call 11;(refine(HG.out.chk _ ?_).mono ?_);(exact Below.alloc (Below.refl _ _) (Nat.le_refl _) _);(rintro e w2 ⟨rfl,hb2⟩);have HB2:=hid hb2;clear hb2)
  | (go_at_call 23;(refine(zcX HO.out _ (t:=tG) (by rfl) (by decide) evG).mono ?_);(rintro e w1 ⟨hb1,a,c,l,rfl,h1,h2,h3⟩);obtain⟨hl,hg⟩:=good_p (c:=c) h1 h2 h3;rw[hl];obtain⟨kb,ko,v0,v1,v2,v3,rfl,hz1,hz2⟩:=hg.sz;have HZ1:=hid hz1;have HZ2:=hid hz2;have HG:=hid hg;have HB1:=hid hb1;clear hl hg h1 h2 h3 hb1 hz1 hz2))
 have HI0:Hid (LInv w w1 w3 (some ⟨kb,ko,none⟩) c ((w3.alloc (.cells #[.string {data:=#[102,117,110,99,32,109,97,105,110,40,41,32,123,32,120,32,61,32,49,59,32,125]},.string {data:=#[102,117,110,99,32,109,97,105,110,40,41,32,123,32,118,97,114,32,120,91,50,93,59,32,120,32,61,32,49,59,32,125]},.string {data:=#[102,117,110,99,32,109,97,105,110,40,41,32,123,32,98,114,101,97,107,59,32,125]},.string {data:=#[102,117,110,99,32,102,40,41,32,123,32,64,49,32,114,101,116,117,114,110,32,48,59,32,125,32,102,117,110,99,32,109,97,105,110,40,41,32,123,32,125]},.string {data:=#[102,117,110,99,32,102,40,97,41,32,123,32,114,101,116,117,114,110,32,97,59,32,125,32,102,117,110,99,32,109,97,105,110,40,41,32,123,32,118,97,114,32,120,59,32,120,32,61,32,102,40,41,59,32,125]},.string {data:=#[102,117,110,99,32,102,40,41,32,123,32,114,101,116,117,114,110,32,48,59,32,125]},.string {data:=#[102,117,110,99,32,109,97,105,110,40,41,32,123,32,118,97,114,32,120,59,32,64,49,32,120,32,61,32,49,59,32,64,49,32,120,32,61,32,50,59,32,125]}] 9)).alloc (.cells #[.int .i64 6,.int .i64 7,.int .i64 8,.int .i64 9,.int .i64 10,.int .i64 10,.int .i64 9] 33))):=hid (by
  have hb2:Below w1.heap.size w1 w2:=zan (bal (bre w1) _) HB2.out
  have hb3:Below w1.heap.size w1 w3:=zan hb2 HB3.out
  refine⟨bal (bal (zan HB1.out hb3) _) _,bal (bal hb3 _) _,ob _ (ob _ (bl HB3.out (bl HB2.out (nb _ rfl)))),ob _ (nb _ rfl),nb _ (by simp)⟩)
 clear HB1 HB2 HB3
 go_loopw [10,11,12,13,14,15] (fun i _ _ _ _ _ wr=>∃k:Nat,k≤7∧i=.int .i64 k∧LInv w w1 w3 (some ⟨kb,ko,none⟩) c wr) (fun i _ _ _ _ _ _=>7 - (intOf i).toNat)
 case atStart=>exact⟨0,by omega,rfl,HI0.out⟩
 case round =>
  clear HI0
  obtain⟨k,hk,rfl,hi⟩:=hrel
  have HI:=hid hi
  clear hi
  by_cases hlt:k < 7
  ·have r0:=lcell HI.out.l k hlt
   have r1:=wcell HI.out.m k hlt
   have hl0:=zcS HI.out.l
   have hl1:=zcS HI.out.m
   have EV:=hid (evB k hlt)
   obtain⟨v,hv⟩:∃v,wB k=v:=⟨_,rfl⟩
   have HV:=hid hv
   rw[hv] at r1
   clear hv
   go_wp2_with (first
    | (go_at_call 11;(refine(HK.out _ ?_).mono ?_);(exact Below.alloc (Below.refl _ _) (Nat.le_refl _) _);(rintro e w5 ⟨rfl,hb5⟩);have r5:=wcell (HI4.out.on (zan (bal (bre w4) _) hb5)).m k hlt;rw[HV.out] at r5;have hl5:=zcS (HI4.out.on (zan (bal (bre w4) _) hb5)).m;have HI5:=hid (HI4.out.on (zan (bal (bre w4) _) hb5));clear hb5)
    | (go_at_call 23;(refine(zcX (HO.out.on HI.out.b) _ (t:=tB k) rfl (lenB k) EV.out.1).mono ?_);(rintro e w4 ⟨hb4,a4,c4,l4,rfl,h1,h2,h3⟩);obtain⟨wh,hk4⟩:=bad_p (c:=c4) hlt h1 h2 h3;rw[HV.out] at hk4;obtain⟨n4,hn4⟩:∃n4,l4.length=n4:=⟨_,rfl⟩;rw[hn4] at hk4 ⊢;have HK:=hid hk4;have HI4:=hid (HI.out.on hb4);clear hk4 hb4 h1 h2 h3 hn4))
   go_round
   case rel=>exact⟨k+1,by omega,by go_num,HI5.out⟩
   case measure=>simp[intOf];omega
  ·obtain rfl:k=7:=by omega
   have g0:=zab (k:=0) HI.out.g rfl
   have hlg:=zcS HI.out.g
   obtain⟨s0,s1,s2,s3,hls⟩:=HZ1.out _ HI.out.p
   have HIP:=hid HI.out.p
   have HGW:=hid HI.out.g
   have HIB:=hid HI.out.b
   clear HI
   go_wp2_with (first
    | (go_at_call 19;(refine(HG.out.fd _ HP5.out).mono ?_);(rintro e w10 ⟨rfl,hb6⟩);have HP6:=hid (HP5.out.on hb6);have HB6:=hid (zan HB5.out hb6);clear hb6)
    | (go_at_call 17;(refine(HG.out.cr4 _ _ (Past.alloc HP4.out _) (nb _ rfl)).mono ?_);(rintro e w9 ⟨rfl,hb5⟩);have g5:=zab (k:=0) (bl hb5 (ob _ HG4.out)) rfl;have HP5:=hid ((HP4.out.alloc _).on hb5);have HB5:=hid (zan (bal HB4.out _) hb5);clear hb5)
    | (go_at_call 17;(refine(HG.out.cr3 _ _ (Past.alloc HP3.out _) (nb _ rfl)).mono ?_);(rintro e w8 ⟨rfl,hb4⟩);have hg4:=bl hb4 (ob _ HG3.out);have g4:=zab (k:=0) hg4 rfl;have HG4:=hid hg4;have HP4:=hid ((HP3.out.alloc _).on hb4);have HB4:=hid (zan (bal HB3.out _) hb4);clear hb4 hg4)
    | (go_at_call 17;(refine(HG.out.cr2 _ HP2.out).mono ?_);(rintro e w7 ⟨rfl,hb3⟩);have hg3:=bl hb3 HG2.out;have g3:=zab (k:=0) hg3 rfl;have HG3:=hid hg3;have HP3:=hid (HP2.out.on hb3);have HB3:=hid (zan HB2.out hb3);clear hb3 hg3)
    | (go_at_call 17;(refine(HG.out.cr1 _ _ (Past.alloc HP1.out _) (nb _ rfl)).mono ?_);(rintro e w6 ⟨rfl,hb2⟩);have hg2:=bl hb2 (ob _ HG1.out);have g2:=zab (k:=0) hg2 rfl;have HG2:=hid hg2;have HP2:=hid ((HP1.out.alloc _).on hb2);have HB2:=hid (zan (bal HB1.out _) hb2);clear hb2 hg2)
    | (go_at_call 14;(refine(HZ2.out _ HIP.out).mono ?_);(rintro e w5 ⟨rfl,hb1⟩);have hg1:=bl hb1 HGW.out;have g1:=zab (k:=0) hg1 rfl;have HG1:=hid hg1;have HP1:=hid (HIP.out.on hb1);have HB1:=hid (zan HIB.out hb1);clear hb1 hg1))
   go_ret
   exact⟨rfl,HB6.out⟩
end Go.Proofs.YtljbbhhiiiepcaaGreatDoor.Ck
