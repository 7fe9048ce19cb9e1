/- When a list of statements may run: names, jumps, callees and tags; what the checker answers of such a list, of one with one more statement behind it. -/
import Derived.Test.YtljbbhhiiiepcaaGreatDoorKCallee
import Derived.Test.YtljbbhhiiiepcaaGreatDoorKCall2
import Derived.Test.YtljbbhhiiiepcaaGreatDoorTFit
set_option linter.unusedSimpArgs false
set_option linter.unusedVariables false
set_option maxHeartbeats 8000000
set_option maxRecDepth 100000
namespace Go.Proofs.YtljbbhhiiiepcaaGreatDoor.Ck
open Go Go.RowKit Go.Proofs.YtljbbhhiiiepcaaGreatDoor
open Go.Lib (hid)
def nm1 (ok:Bool):Nat:=if ok then 0 else 6
def nm2 (s:Int) (arr:Bool):Nat:=if decide (0 < s)=arr then 0 else 7
theorem named1_any (b:Nat) (ok:Bool) (w:World) (hx:Box w b (.bool ok) 4):
  Calls Tryz.prog 64 #[.pointer (some ⟨b,0,none⟩)] w fun e w'=>e=.returned (.int .i64 (nm1 ok:Nat))∧w'=w:=by
 have hc:=hx.c0
 have hb:=hx.lt
 clear hx
 cases ok
 all_goals
  go_enter Tryz.func64,Tryz.ntmps64
  go_wp2_with (go_at_call 38;refine(zaG _ _ _).mono ?_;rintro e w' ⟨rfl,rfl⟩)
  go_ret
  exact⟨rfl,rfl⟩
theorem named2_any (b d:Nat) (s:Int) (arr:Bool) (w:World) (hx:Box w b (.int .i64 s) 3) (hy:Box w d (.bool arr) 4):
  Calls Tryz.prog 65 #[.pointer (some ⟨b,0,none⟩),.pointer (some ⟨d,0,none⟩)] w fun e w'=>e=.returned (.int .i64 (nm2 s arr:Nat))∧w'=w:=by
 have hc:=hx.c0
 have hb:=hx.lt
 have hd:=hy.c0
 have hdl:=hy.lt
 clear hx hy
 by_cases h:0 < s
 all_goals cases arr
 all_goals
  go_enter Tryz.func65,Tryz.ntmps65
  go_wp2_with (go_at_call 38;refine(zaG _ _ _).mono ?_;rintro e w' ⟨rfl,rfl⟩)
  go_ret
  exact⟨by unfold nm2;first | rw[decide_eq_true (show 0 < s by omega)];rfl | rw[decide_eq_false (show ¬0 < s by omega)];rfl,rfl⟩
theorem named_code (F:FT) (nm:ByteArray) (arr:Bool):namedF F nm arr=orE (orE 0 (nm1 (zdx F nm).isSome)) (nm2 ((zdx F nm).getD 0) arr):=by
 unfold namedF
 cases zdx F nm with
 | none=>rfl
 | some s=>simp[orE,nm1,nm2]
theorem zdu {w0:World} {F:FT} (hin:F.In w0 0) (nm:ByteArray) (arr:Bool) (w:World) (hp:Past w0 w):
  Calls Tryz.prog 42 #[.agg #[.string F.name,.slice F.pa F.params.length F.pc,.slice F.va F.vars.length F.vc,.slice F.ba F.body.length F.bc],.string nm,.bool arr] w fun e w'=>e=.returned (.int .i64 (namedF F nm arr:Nat))∧Below w.heap.size w w':=by
 have HP:=hid hp
 have HS:=hid (fun(W:World) (hW:Past w0 W)=>size_any hin nm W hW)
 obtain⟨s,hs⟩:∃s,(zdx F nm).getD 0=s:=⟨_,rfl⟩
 obtain⟨ok,hok⟩:∃ok,(zdx F nm).isSome=ok:=⟨_,rfl⟩
 have HN:Hid (namedF F nm arr=orE (orE 0 (nm1 ok)) (nm2 s arr)):=hid (by rw[named_code,hs,hok])
 unfold szV at HS
 rw[hs,hok] at HS
 clear hp hin hs hok
 go_enter Tryz.func42,Tryz.ntmps42
 go_wp2_with (first
  | (go_at_call 35;refine(zeh [(64,#[.pointer (some ⟨w1.heap.size+1,0,none⟩)]),(65,#[.pointer (some ⟨w1.heap.size,0,none⟩),.pointer (some ⟨w.heap.size+1,0,none⟩)])] (cd [nm1 ok,nm2 s arr]) _ _ (by show 2≤100;decide) (by simp) ?_ ?_ ?_).mono ?_;(intro k h;match k,h with | 0,_=>exact enters_of Tryz.func64 (by kernel_rfl) rfl | 1,_=>exact enters_of Tryz.func65 (by kernel_rfl) rfl | k+2,h=>exact absurd h (by simp));(intro k h;match k,h with | 0,_=>(refine zab (nb _ (by simp)) ?_;rfl) | 1,_=>(refine zab (nb _ (by simp)) ?_;rfl) | k+2,h=>exact absurd h (by simp));(intro k h W hz hW;match k,h with | 0,_=>exact(named1_any _ ok W (bl hW (by repeat (first | (refine nb _ ?_;simp;done) | exact HA.out | refine ob _ ?_)))).mono fun e w' h=>⟨h.1,h.2▸Below.refl _ _⟩ | 1,_=>exact(named2_any _ _ s arr W (bl hW (by repeat (first | (refine nb _ ?_;simp;done) | exact HA.out | refine ob _ ?_))) (bl hW (by repeat (first | (refine nb _ ?_;simp;done) | exact HA.out | refine ob _ ?_)))).mono fun e w' h=>⟨h.1,h.2▸Below.refl _ _⟩ | k+2,h=>exact absurd h (by simp));rintro e w2 ⟨rfl,hb2⟩;have HB2:=hid hb2;clear hb2)
  | (go_at_call 14;refine(HS.out _ ?_).mono ?_;(exact(HP.out.alloc _).alloc _);rintro e w1 ⟨rfl,hb1⟩;have HA:Hid (w1.heap[w.heap.size+1]?=some (.cells #[.bool arr] 4 (0,0))):=hid (bl hb1 (by repeat (first | (refine nb _ ?_;simp;done) | refine ob _ ?_)));have HB1:=hid hb1;clear hb1))
 go_ret
 refine⟨by rw[HN.out];rfl,?_⟩
 have h1:Below w.heap.size w w1:=zan (bal (bal (bre w) _) _) HB1.out
 have h2:=zan (bal (bal (bal (bre w1) _) _) _) HB2.out
 exact zan h1 h2
end Go.Proofs.YtljbbhhiiiepcaaGreatDoor.Ck

namespace Go.Proofs.YtljbbhhiiiepcaaGreatDoor.Ck
open Go Go.RowKit Go.Proofs.YtljbbhhiiiepcaaGreatDoor
open Go.Lib (hid)
theorem foldr_or (l:List Nat) (b:Nat):l.foldr orE b=orE (l.foldr orE 0) b:=by
 induction l with
 | nil=>rfl
 | cons a l ih=>rw[List.foldr_cons,List.foldr_cons,ih,zeg]
theorem firstC_take (l:List Nat):∀n,n≤l.length→zau (cd l) n=(l.take n).foldr orE 0:=by
 intro n
 induction n with
 | zero=>intro _;rfl
 | succ n ih =>
  intro h
  rw[zau,ih (by omega),List.take_succ_eq_append_getElem (by omega),List.foldr_append,foldr_or (l.take n) (List.foldr orE 0 [l[n]])]
  congr 1
  show cd l n=orE l[n] 0
  rw[zaz]
  unfold cd
  rw[List.getD_eq_getElem?_getD,List.getElem?_eq_getElem (by omega)];rfl
theorem firstC_list (l:List Nat):zau (cd l) l.length=l.foldr orE 0:=by
 rw[firstC_take l l.length (Nat.le_refl _),List.take_length]
theorem cd_at {α:Type} (f:α→Nat) (l:List α) (k:Nat) (h:k < l.length):cd (l.map f) k=f l[k]:=by
 unfold cd;rw[List.getD_eq_getElem?_getD,List.getElem?_map,List.getElem?_eq_getElem h];rfl
theorem placeEs_fold (F:FT) (L:List ET):placeEs F L=(L.map (placeE F)).foldr orE 0:=by
 induction L with
 | nil=>rfl
 | cons T L ih=>rw[placeEs,ih];rfl
abbrev FBox (w:World) (b:Nat) (F:FT):Prop:=w.heap[b]?=some (.cells #[.string F.name,.slice F.pa F.params.length F.pc,.slice F.va F.vars.length F.vc,.slice F.ba F.body.length F.bc] 47 (0,0))
abbrev EBox (w:World) (b:Nat) (T:ET):Prop:=w.heap[b]?=some (.cells #[.int .i64 T.kind,.string T.op,.int .i64 T.n,.string T.name,.slice T.kaddr T.kids.length T.kcap] 68 (0,0))
theorem zea {w:World} {b:Nat} {t:TypeId} {v0 v1 v2 v3:Value} (h:w.heap[b]?=some (.cells #[v0,v1,v2,v3] t (0,0))):w.cell? ⟨b,0,none⟩=some v0∧w.cell? ⟨b,1,none⟩=some v1∧w.cell? ⟨b,2,none⟩=some v2∧w.cell? ⟨b,3,none⟩=some v3:=
 ⟨zab h rfl,zab h rfl,zab h rfl,zab h rfl⟩
theorem cells5' {w:World} {b:Nat} {t:TypeId} {v0 v1 v2 v3 v4:Value} (h:w.heap[b]?=some (.cells #[v0,v1,v2,v3,v4] t (0,0))):w.cell? ⟨b,0,none⟩=some v0∧w.cell? ⟨b,1,none⟩=some v1∧w.cell? ⟨b,2,none⟩=some v2∧w.cell? ⟨b,3,none⟩=some v3∧w.cell? ⟨b,4,none⟩=some v4:=
 ⟨zab h rfl,zab h rfl,zab h rfl,zab h rfl,zab h rfl⟩
abbrev askP (bf:Nat):Value:=.func (.func 155) #[] #[.pointer (some ⟨bf,0,none⟩)]
theorem askP_any {w0:World} {F:FT} (hin:F.In w0 0) (T:ET) (bf:Nat) (w:World) (hp:Past w0 w) (hf:FBox w bf F):
  Calls Tryz.prog 155 #[.agg #[.int .i64 T.kind,.string T.op,.int .i64 T.n,.string T.name,.slice T.kaddr T.kids.length T.kcap],.pointer (some ⟨bf,0,none⟩)] w fun e w'=>e=.returned (.int .i64 (namedF F T.name (decide (T.kind=2)):Nat))∧Below w.heap.size w w':=by
 have HP:=hid hp
 obtain⟨f0,f1,f2,f3⟩:=zea hf
 have hlt:=lt_of_block hf
 obtain⟨q,hq⟩:∃q,decide (T.kind=2)=q:=⟨_,rfl⟩
 have hq2:(T.kind==2)=q:=by rw[←hq];rfl
 have HN:=hid (fun(W:World) (hW:Past w0 W)=>zdu hin T.name q W hW)
 rw[hq]
 clear hp hin hf hq
 go_enter Tryz.func155,Tryz.ntmps155
 go_wp2_with (go_at_call 42;refine(HN.out _ ?_).mono ?_;(exact HP.out.alloc _);rintro e w1 ⟨rfl,hb1⟩)
 go_ret
 exact⟨rfl,zan (bal (bre w) _) hb1⟩
def ownC (F:FT) (T:ET):Nat:=if T.kind=1∨T.kind=2 then namedF F T.name (decide (T.kind=2)) else 0
theorem placeE_own (F:FT) (T:ET):placeE F T=orE (ownC F T) (placeEs F T.kids):=by cases T;rw[placeE];rfl
theorem place1_any {w0:World} {F:FT} (hin:F.In w0 0) (T:ET) (bf be bq:Nat) (w:World) (hp:Past w0 w) (hf:FBox w bf F) (he:EBox w be T) (hq:Box w bq (askP bf) 204):
  Calls Tryz.prog 196 #[.pointer (some ⟨be,0,none⟩),.pointer (some ⟨bq,0,none⟩)] w fun e w'=>e=.returned (.int .i64 (ownC F T:Nat))∧Below w.heap.size w w':=by
 have HP:=hid hp
 have HN:=hid (fun(W:World) (hW:Past w0 W) (hfW:FBox W bf F)=>askP_any hin T bf W hW hfW)
 have HF:=hid hf
 obtain⟨c0,c1,c2,c3,c4⟩:=cells5' he
 have q0:=zab (k:=0) hq rfl
 have hlt:=lt_of_block he
 have hlq:=lt_of_block hq
 unfold ownC
 clear hp hin hf he hq
 by_cases h1:T.kind=1
 ·have e1:(T.kind==1)=true:=by simpa using h1
  rw[if_pos (Or.inl h1)]
  clear h1
  go_enter Tryz.func196,Tryz.ntmps196
  go_wp2_with (go_at_call 155;have hx:=HN.out _ HP.out HF.out;refine hx.mono ?_;clear hx;rintro e w1 ⟨rfl,hb1⟩)
  go_ret
  exact⟨rfl,hb1⟩
 ·have e1:(T.kind==1)=false:=by simpa using h1
  by_cases h2:T.kind=2
  ·have e2:(T.kind==2)=true:=by simpa using h2
   rw[if_pos (Or.inr h2)]
   clear h1 h2
   go_enter Tryz.func196,Tryz.ntmps196
   go_wp2_with (go_at_call 155;have hx:=HN.out _ HP.out HF.out;refine hx.mono ?_;clear hx;rintro e w1 ⟨rfl,hb1⟩)
   go_ret
   exact⟨rfl,hb1⟩
  ·have e2:(T.kind==2)=false:=by simpa using h2
   rw[if_neg (by omega)]
   clear h1 h2
   go_enter Tryz.func196,Tryz.ntmps196
   go_wp2
   go_ret
   exact⟨rfl,Below.refl _ _⟩
def KidsOk (w0:World) (F:FT) (bf:Nat) (T:ET):Prop:=∀W,Past w0 W→FBox W bf F→Calls Tryz.prog 154 #[.slice T.kaddr T.kids.length T.kcap,askP bf] W fun e w'=>e=.returned (.int .i64 (placeEs F T.kids:Nat))∧Below W.heap.size W w'
theorem place2_any {w0:World} {F:FT} (T:ET) (bf be bq:Nat) (hk:KidsOk w0 F bf T) (w:World) (hp:Past w0 w) (hf:FBox w bf F) (he:EBox w be T) (hq:Box w bq (askP bf) 204):
  Calls Tryz.prog 197 #[.pointer (some ⟨be,0,none⟩),.pointer (some ⟨bq,0,none⟩)] w fun e w'=>e=.returned (.int .i64 (placeEs F T.kids:Nat))∧Below w.heap.size w w':=by
 have HK:=hid (hk w hp hf)
 obtain⟨c0,c1,c2,c3,c4⟩:=cells5' he
 have q0:=zab (k:=0) hq rfl
 have hlt:=lt_of_block he
 have hlq:=lt_of_block hq
 clear hp hf he hq hk
 go_enter Tryz.func197,Tryz.ntmps197
 go_wp2_with (go_at_call 154;have hx:=HK.out;refine hx.mono ?_;clear hx;rintro e w1 ⟨rfl,hb1⟩)
 go_ret
 exact⟨rfl,hb1⟩
theorem place_step {w0:World} {F:FT} (hin:F.In w0 0) (T:ET) (bf bq:Nat) (hk:KidsOk w0 F bf T) (w:World) (hp:Past w0 w) (hf:FBox w bf F) (hq:Box w bq (askP bf) 204):
  Calls Tryz.prog 195 #[.agg #[.int .i64 T.kind,.string T.op,.int .i64 T.n,.string T.name,.slice T.kaddr T.kids.length T.kcap],.pointer (some ⟨bq,0,none⟩)] w fun e w'=>e=.returned (.int .i64 (placeE F T:Nat))∧Below w.heap.size w w':=by
 have HP:=hid hp
 have HI:=hid hin
 have HK:=hid hk
 have HF:=hid hf
 have HQ:=hid hq
 have HN:Hid (placeE F T=orE (orE 0 (ownC F T)) (placeEs F T.kids)):=hid (placeE_own F T)
 clear hp hin hk hf hq
 go_enter Tryz.func195,Tryz.ntmps195
 go_wp2_with (go_at_call 35;refine(zeh [(196,#[.pointer (some ⟨w.heap.size,0,none⟩),.pointer (some ⟨bq,0,none⟩)]),(197,#[.pointer (some ⟨w.heap.size,0,none⟩),.pointer (some ⟨bq,0,none⟩)])] (cd [ownC F T,placeEs F T.kids]) _ _ (by show 2≤100;decide) (by simp) ?_ ?_ ?_).mono ?_;(intro k h;match k,h with | 0,_=>exact enters_of Tryz.func196 (by kernel_rfl) rfl | 1,_=>exact enters_of Tryz.func197 (by kernel_rfl) rfl | k+2,h=>exact absurd h (by simp));(intro k h;match k,h with | 0,_=>(refine zab (nb _ (by simp)) ?_;rfl) | 1,_=>(refine zab (nb _ (by simp)) ?_;rfl) | k+2,h=>exact absurd h (by simp));(intro k h W hz hW;match k,h with | 0,_=>exact place1_any HI.out T bf w.heap.size bq W (Past.on ((HP.out.alloc _).alloc _) hW) (bl hW (ob _ (ob _ HF.out))) (bl hW (ob _ (nb _ rfl))) (bl hW (ob _ (ob _ HQ.out))) | 1,_=>exact place2_any T bf w.heap.size bq HK.out W (Past.on ((HP.out.alloc _).alloc _) hW) (bl hW (ob _ (ob _ HF.out))) (bl hW (ob _ (nb _ rfl))) (bl hW (ob _ (ob _ HQ.out))) | k+2,h=>exact absurd h (by simp));rintro e w2 ⟨rfl,hb2⟩;have HB2:=hid hb2;clear hb2)
 go_ret
 exact⟨by rw[HN.out];rfl,zan (bal (bal (bre w) _) _) HB2.out⟩
theorem places_list {w0:World} {F:FT} (hin:F.In w0 0) (bf bq:Nat) (a:Option Addr) (c:Nat) (L:List ET) (hl:L.length≤9223372036854775807) (hL:EsIn w0 0 a 0 L) (hK:∀k (h:k < L.length),KidsOk w0 F bf L[k]) (W:World) (hW:Past w0 W) (hfW:FBox W bf F) (hqW:Box W bq (askP bf) 204):
  Calls Tryz.prog 194 #[.slice a L.length c,.func (.func 195) #[] #[.pointer (some ⟨bq,0,none⟩)]] W fun e w'=>e=.returned (.int .i64 (placeEs F L:Nat))∧Below W.heap.size W w':=by
 have h:=eachE_any a c L hl hL 195 #[.pointer (some ⟨bq,0,none⟩)] (enters_of Tryz.func195 (by kernel_rfl) rfl) (cd (L.map (placeE F))) (fun _ V=>Below W.heap.size W V) (fun k V hV=>hW.on hV) (fun k V o hV=>hV.alloc hV.size o)
  (fun k h V hz hV=>by
   rw[cd_at (placeE F) L k h,ET.val_is]
   exact(place_step hin L[k] bf bq (hK k h) V (hW.on hV) (bl hV hfW) (bl hV hqW)).mono fun e w' q=>⟨q.1,zan hV q.2⟩) W (Below.refl _ _)
 refine h.mono ?_
 rintro e w' ⟨he,k,hk,hb,-⟩
 refine⟨?_,hb⟩
 have:=firstC_list (L.map (placeE F))
 rw[List.length_map,←placeEs_fold] at this
 rw[he,this]
theorem places_any {w0:World} {F:FT} (hin:F.In w0 0) (bf:Nat):∀(m:Nat) (a:Option Addr) (c:Nat) (L:List ET),szs L < m→L.length≤9223372036854775807→EsIn w0 0 a 0 L→∀w,Past w0 w→FBox w bf F →
  Calls Tryz.prog 154 #[.slice a L.length c,askP bf] w fun e w'=>e=.returned (.int .i64 (placeEs F L:Nat))∧Below w.heap.size w w':=by
 intro m
 induction m with
 | zero=>intro a c L hm;omega
 | succ m ih =>
  intro a c L hm hl hL w hp hf
  have hK:∀k (h:k < L.length),KidsOk w0 F bf L[k]:=fun k h W hW hfW=>by
   have h1:=(hL.nth k h).2
   have h2:EsIn w0 0 L[k].kaddr 0 L[k].kids∧L[k].kids.length≤9223372036854775807:=by
    revert h1;cases L[k];intro h1;rw[ET.In] at h1;exact⟨h1.2.2,h1.2.1⟩
   refine ih _ _ _ ?_ h2.2 h2.1 W hW hfW
   have h3:=szs_mem (List.getElem_mem h)
   have h4:szs L[k].kids < L[k].sz:=kids_sz
   omega
  have hE:=fun W=>places_list hin bf w.heap.size a c L hl hL hK W
  have HE:=hid hE
  clear hE
  have HP:=hid hp
  have HF:=hid hf
  clear hp hf hK ih hL hm
  go_enter Tryz.func154,Tryz.ntmps154
  go_wp2_with (go_at_call 194;refine(HE.out _ ?_ ?_ ?_).mono ?_;(exact HP.out.alloc _);(exact ob _ HF.out);(exact nb _ rfl);rintro e w1 ⟨rfl,hb1⟩)
  go_ret
  exact⟨rfl,zan (bal (bre w) _) hb1⟩
end Go.Proofs.YtljbbhhiiiepcaaGreatDoor.Ck

namespace Go.Proofs.YtljbbhhiiiepcaaGreatDoor.Ck
open Go Go.RowKit Go.Proofs.YtljbbhhiiiepcaaGreatDoor
open Go.Lib (hid)
theorem fcells {w:World} {b:Nat} {F:FT} (h:FBox w b F):w.cell? ⟨b,0,none⟩=some (.string F.name)∧w.cell? ⟨b,1,none⟩=some (.slice F.pa F.params.length F.pc)∧w.cell? ⟨b,2,none⟩=some (.slice F.va F.vars.length F.vc)∧w.cell? ⟨b,3,none⟩=some (.slice F.ba F.body.length F.bc)∧b < w.heap.size:=
 ⟨zab h rfl,zab h rfl,zab h rfl,zab h rfl,zcS h⟩
theorem ask1_any (a:Option Addr) (l:List FT) (c mb i bs bx bi:Nat) (S:ST) (hn:l.length≤9223372036854775807) (hi:i < l.length) (ht:-9223372036854775808≤S.tag∧S.tag≤9223372036854775807) (seen:List Int) (hl:seen.length≤1000000) (w:World) (hT:Tg mb w seen) (hs:SBox w bs S) (hx:XBox w bx a l.length c mb) (hib:Box w bi (.int .i64 i) 3):
  Calls Tryz.prog 145 #[.pointer (some ⟨bs,0,none⟩),.pointer (some ⟨bx,0,none⟩),.pointer (some ⟨bi,0,none⟩)] w fun e w'=>e=.returned (.int .i64 (tagF l i S seen:Nat))∧Gr mb w w'∧Tg mb w' (zbu S seen):=by
 obtain⟨s0,s1,s2,s3,s4,s5,s6,hls⟩:=zej hs
 obtain⟨x0,x1,hlx⟩:=zdQ hx
 have i0:=hib.c0
 have hli:=hib.lt
 have HM:=hid (mayTag_any a l.length c mb hn i hi S.tag ht seen hl w hT)
 have HT:=hid hT
 clear hT hs hx hib hl
 by_cases h0:0 < S.tag
 ·have e0:decide (0 < S.tag)=true:=by simpa using h0
  have HS:Hid (zbu S seen=S.tag :: seen):=hid (by unfold zbu;rw[if_pos h0])
  obtain⟨q,hq⟩:∃q,decide (i+1=l.length∧S.tag∉seen)=q:=⟨_,rfl⟩
  have HV:Hid (tagF l i S seen=if q then 0 else 9):=hid (by
   unfold tagF
   rw[if_pos h0,←hq]
   by_cases h:i+1=l.length∧S.tag∉seen
   ·rw[if_pos h,decide_eq_true h];rfl
   ·rw[if_neg h,decide_eq_false h];rfl)
  rw[hq] at HM
  clear hq h0
  cases q
  all_goals
   go_enter Tryz.func145,Tryz.ntmps145
   go_wp2_with (first | (go_at_call 38;refine(zaG _ _ _).mono ?_;rintro e w' ⟨rfl,rfl⟩) | (go_at_call 146;have hx:=HM.out;refine hx.mono ?_;clear hx;rintro e w1 ⟨rfl,hg,ht1⟩;have HG:=hid hg;have HT1:=hid ht1;clear hg ht1))
   go_ret
   exact⟨by rw[HV.out];rfl,HG.out,by rw[HS.out];exact HT1.out⟩
 ·have e0:decide (0 < S.tag)=false:=by simpa using h0
  have HS:Hid (zbu S seen=seen):=hid (by unfold zbu;rw[if_neg h0])
  have HV:Hid (tagF l i S seen=0):=hid (by unfold tagF;rw[if_neg h0])
  clear h0
  go_enter Tryz.func145,Tryz.ntmps145
  go_wp2_with (go_at_call 38;refine(zaG _ _ _).mono ?_;rintro e w' ⟨rfl,rfl⟩)
  go_ret
  exact⟨by rw[HV.out];rfl,zaC _ _,by rw[HS.out];exact HT.out⟩
theorem jumps_any (S:ST) (w:World):Calls Tryz.prog 148 #[.agg #[.int .i64 S.kind,.int .i64 S.tag,.string S.name,.string S.func,.slice S.ea S.en S.ec,.slice S.ba S.bn S.bc,.slice S.la S.ln S.lc]] w fun e w'=>e=.returned (.bool (decide (S.kind=6∨S.kind=7)))∧Below w.heap.size w w':=by
 by_cases h6:S.kind=6
 ·have e6:(S.kind==6)=true:=by simpa using h6
  rw[decide_eq_true (Or.inl h6)]
  clear h6
  go_enter Tryz.func148,Tryz.ntmps148
  go_wp2
  go_ret
  exact⟨rfl,bal (bre w) _⟩
 ·have e6:(S.kind==6)=false:=by simpa using h6
  by_cases h7:S.kind=7
  ·have e7:(S.kind==7)=true:=by simpa using h7
   rw[decide_eq_true (Or.inr h7)]
   clear h6 h7
   go_enter Tryz.func148,Tryz.ntmps148
   go_wp2
   go_ret
   exact⟨rfl,bal (bre w) _⟩
  ·have e7:(S.kind==7)=false:=by simpa using h7
   rw[decide_eq_false (by omega)]
   clear h6 h7
   go_enter Tryz.func148,Tryz.ntmps148
   go_wp2
   go_ret
   exact⟨rfl,bal (bre w) _⟩
theorem ask2_any (S:ST) (looped:Bool) (bs bo:Nat) (w:World) (hs:SBox w bs S) (hb:Box w bo (.bool looped) 4):
  Calls Tryz.prog 147 #[.pointer (some ⟨bs,0,none⟩),.pointer (some ⟨bo,0,none⟩)] w fun e w'=>e=.returned (.int .i64 (jumpF S looped:Nat))∧Below w.heap.size w w':=by
 obtain⟨s0,s1,s2,s3,s4,s5,s6,hls⟩:=zej hs
 have HB:=hid hb
 have l0:=hb.c0
 have hll:=hb.lt
 have HJ:=hid (jumps_any S w)
 obtain⟨q,hq⟩:∃q,decide (S.kind=6∨S.kind=7)=q:=⟨_,rfl⟩
 have HV:Hid (jumpF S looped=if q&&!looped then 8 else 0):=hid (by
  unfold jumpF
  rw[←hq]
  by_cases h:S.kind=6∨S.kind=7<;>cases looped<;>simp[h])
 rw[hq] at HJ
 clear hs hb hq
 cases q
 all_goals cases looped
 all_goals
  go_enter Tryz.func147,Tryz.ntmps147
  go_wp2_with (first | (go_at_call 38;refine(zaG _ _ _).mono ?_;rintro e w' ⟨rfl,rfl⟩) | (go_at_call 148;have hx:=HJ.out;refine hx.mono ?_;clear hx;rintro e w1 ⟨rfl,hb1⟩;have l1:=Box.c0 (bl hb1 HB.out);have hl1:=Box.lt (bl hb1 HB.out);have HB1:=hid hb1;clear hb1))
  go_ret
  exact⟨by rw[HV.out];rfl,HB1.out⟩
theorem target_any {w0:World} {F:FT} (hin:F.In w0 0) (S:ST) (w:World) (hp:Past w0 w):
  Calls Tryz.prog 150 #[.agg #[.string F.name,.slice F.pa F.params.length F.pc,.slice F.va F.vars.length F.vc,.slice F.ba F.body.length F.bc],.agg #[.int .i64 S.kind,.int .i64 S.tag,.string S.name,.string S.func,.slice S.ea S.en S.ec,.slice S.ba S.bn S.bc,.slice S.la S.ln S.lc]] w fun e w'=>e=.returned (.int .i64 (targetF F S:Nat))∧Below w.heap.size w w':=by
 have HP:=hid hp
 obtain⟨q,hq⟩:∃q,decide (S.kind=1)=q:=⟨_,rfl⟩
 have hq2:(S.kind==1)=q:=by rw[←hq];rfl
 have HN:=hid (fun(W:World) (hW:Past w0 W)=>zdu hin S.name q W hW)
 by_cases h0:S.name.data.toList=[]
 ·have HV:Hid (targetF F S=0):=hid (by unfold targetF;rw[if_pos h0])
  have e1:S.name.toList=[]:=by rw[ByteArray.toList_eq];exact h0
  clear hp hin h0 hq
  go_enter Tryz.func150,Tryz.ntmps150
  go_wp2
  go_ret
  exact⟨by rw[HV.out];rfl,bal (bal (bre w) _) _⟩
 ·have HV:Hid (targetF F S=namedF F S.name q):=hid (by unfold targetF;rw[if_neg h0,hq])
  have e1:S.name.toList.isEmpty=false:=by rw[ByteArray.toList_eq];simpa using h0
  clear hp hin h0 hq
  go_enter Tryz.func150,Tryz.ntmps150
  go_wp2_with (go_at_call 42;refine(HN.out _ ?_).mono ?_;(exact(HP.out.alloc _).alloc _);rintro e w1 ⟨rfl,hb1⟩;have HB1:=hid hb1;clear hb1)
  go_ret
  exact⟨by rw[HV.out];rfl,zan (bal (bal (bre w) _) _) HB1.out⟩
theorem ask3_any {w0:World} {F:FT} (hin:F.In w0 0) (S:ST) (bf bs:Nat) (w:World) (hp:Past w0 w) (hf:FBox w bf F) (hs:SBox w bs S):
  Calls Tryz.prog 149 #[.pointer (some ⟨bf,0,none⟩),.pointer (some ⟨bs,0,none⟩)] w fun e w'=>e=.returned (.int .i64 (targetF F S:Nat))∧Below w.heap.size w w':=by
 obtain⟨s0,s1,s2,s3,s4,s5,s6,hls⟩:=zej hs
 obtain⟨f0,f1,f2,f3,hlf⟩:=fcells hf
 have HX:=hid (target_any hin S w hp)
 clear hp hin hf hs
 go_enter Tryz.func149,Tryz.ntmps149
 go_wp2_with (go_at_call 150;have hx:=HX.out;refine hx.mono ?_;clear hx;rintro e w1 ⟨rfl,hb1⟩)
 go_ret
 exact⟨rfl,hb1⟩
theorem callee_any {w0:World} {a:Option Addr} {l:List FT} (hin:FsIn w0 0 a l) (c mb:Nat) (S:ST) (w:World) (hp:Past w0 w):
  Calls Tryz.prog 152 #[.agg #[.slice a l.length c,.map (some mb)],.agg #[.int .i64 S.kind,.int .i64 S.tag,.string S.name,.string S.func,.slice S.ea S.en S.ec,.slice S.ba S.bn S.bc,.slice S.la S.ln S.lc]] w fun e w'=>e=.returned (.int .i64 (calleeF l S:Nat))∧Below w.heap.size w w':=by
 have HP:=hid hp
 have HI:=hid hin
 by_cases h3:S.kind=3
 ·have e3:(S.kind != 3)=false:=by simpa using h3
  have HF:=hid (fun(W:World) (hW:Past w0 W)=>find_any hin c S.func W hW)
  have HV:=hid (callee_code l S h3)
  have HD:=hid (findV_lt l S.func)
  obtain⟨v,hv⟩:∃v,zei l S.func=v:=⟨_,rfl⟩
  rw[hv] at HF HV HD
  clear hp hin h3 hv
  go_enter Tryz.func152,Tryz.ntmps152
  go_wp2_with (first
   | (go_at_call 35;refine(zeh [(192,#[.pointer (some ⟨w1.heap.size,0,none⟩)]),(193,#[.pointer (some ⟨w1.heap.size,0,none⟩),.pointer (some ⟨w.heap.size,0,none⟩),.pointer (some ⟨w.heap.size+1,0,none⟩)])] (cd [ng v,call2 l S]) _ _ (by show 2≤100;decide) (by simp) ?_ ?_ ?_).mono ?_;(intro k h;match k,h with | 0,_=>exact enters_of Tryz.func192 (by kernel_rfl) rfl | 1,_=>exact enters_of Tryz.func193 (by kernel_rfl) rfl | k+2,h=>exact absurd h (by simp));(intro k h;match k,h with | 0,_=>(refine zab (nb _ (by simp)) ?_;rfl) | 1,_=>(refine zab (nb _ (by simp)) ?_;rfl) | k+2,h=>exact absurd h (by simp));(intro k h W hz hW;match k,h with | 0,_=>exact(callee1_any _ v W (bl hW (ob _ (nb _ rfl)))).mono fun e w' h=>⟨h.1,h.2▸Below.refl _ _⟩ | 1,_=>(have hv0:¬v < 0:=(fun h=>by simp[zau,cd,orE,ng,h] at hz);rcases HD.out with ⟨h,-⟩ | ⟨h1,h2,h3⟩;(exact absurd h hv0);(exact callee2_any HI.out c mb _ _ _ S (findN l S.func) h3 rfl W (Past.on (((HP.out.alloc _).alloc _).on HB1.out |>.alloc _ |>.alloc _) hW) (by rw[←h2];exact bl hW (ob _ (nb _ rfl))) (bl hW (ob _ (ob _ HX1.out))) (bl hW (ob _ (ob _ HS1.out))))) | k+2,h=>exact absurd h (by simp));rintro e w2 ⟨rfl,hb2⟩;have HB2:=hid hb2;clear hb2)
   | (go_at_call 19;refine(HF.out _ ?_).mono ?_;(exact(HP.out.alloc _).alloc _);rintro e w1 ⟨rfl,hb1⟩;have HX1:Hid (XBox w1 w.heap.size a l.length c mb):=hid (bl hb1 (ob _ (nb _ rfl)));have HS1:Hid (SBox w1 (w.heap.size+1) S):=hid (bl hb1 (nb _ (by simp)));have HB1:=hid hb1;clear hb1))
  go_ret
  have h1:Below w.heap.size w w1:=zan (bal (bal (bre w) _) _) HB1.out
  exact⟨by rw[HV.out];rfl,zan h1 (zan (bal (bal (bre w1) _) _) HB2.out)⟩
 ·have e3:(S.kind != 3)=true:=by simpa using h3
  have HV:Hid (calleeF l S=0):=hid (by unfold calleeF;rw[if_pos h3])
  clear hp hin h3
  go_enter Tryz.func152,Tryz.ntmps152
  go_wp2
  go_ret
  exact⟨by rw[HV.out];rfl,bal (bal (bre w) _) _⟩
theorem ask4_any {w0:World} {a:Option Addr} {l:List FT} (hin:FsIn w0 0 a l) (c mb:Nat) (S:ST) (bx bs:Nat) (w:World) (hp:Past w0 w) (hx:XBox w bx a l.length c mb) (hs:SBox w bs S):
  Calls Tryz.prog 151 #[.pointer (some ⟨bx,0,none⟩),.pointer (some ⟨bs,0,none⟩)] w fun e w'=>e=.returned (.int .i64 (calleeF l S:Nat))∧Below w.heap.size w w':=by
 obtain⟨s0,s1,s2,s3,s4,s5,s6,hls⟩:=zej hs
 obtain⟨x0,x1,hlx⟩:=zdQ hx
 have HX:=hid (callee_any hin c mb S w hp)
 clear hp hin hx hs
 go_enter Tryz.func151,Tryz.ntmps151
 go_wp2_with (go_at_call 152;have hx:=HX.out;refine hx.mono ?_;clear hx;rintro e w1 ⟨rfl,hb1⟩)
 go_ret
 exact⟨rfl,hb1⟩
theorem en_is (S:ST):S.en=(ST.es S).length:=by cases S;rfl
theorem in_es {w:World} {B:Nat} {S:ST} (h:S.In w B):EsIn w B S.ea 0 (ST.es S)∧(ST.es S).length≤9223372036854775807:=by
 cases S;rw[ST.In] at h;exact⟨h.2.2.1,h.2.1.1⟩
theorem ask5_any {w0:World} {F:FT} (hin:F.In w0 0) (S:ST) (hS:S.In w0 0) (bs bf:Nat) (w:World) (hp:Past w0 w) (hs:SBox w bs S) (hf:FBox w bf F):
  Calls Tryz.prog 153 #[.pointer (some ⟨bs,0,none⟩),.pointer (some ⟨bf,0,none⟩)] w fun e w'=>e=.returned (.int .i64 (placeEs F (ST.es S):Nat))∧Below w.heap.size w w':=by
 have h:=in_es hS
 have hx:=places_any hin bf (szs (ST.es S)+1) S.ea S.ec (ST.es S) (by omega) h.2 h.1 w hp hf
 rw[←en_is] at hx
 have HX:=hid hx
 obtain⟨s0,s1,s2,s3,s4,s5,s6,hls⟩:=zej hs
 clear hx hp hin hs hf hS h
 go_enter Tryz.func153,Tryz.ntmps153
 go_wp2_with (go_at_call 154;have hx:=HX.out;refine hx.mono ?_;clear hx;rintro e w1 ⟨rfl,hb1⟩)
 go_ret
 exact⟨rfl,hb1⟩
end Go.Proofs.YtljbbhhiiiepcaaGreatDoor.Ck

namespace Go.Proofs.YtljbbhhiiiepcaaGreatDoor.Ck
open Go Go.RowKit Go.Proofs.YtljbbhhiiiepcaaGreatDoor
mutual
theorem place_ok {F:FT} {I A:List ByteArray} (hI:∀n∈I,namedF F n false=0) (hA:∀n∈A,namedF F n true=0):∀T:ET,okE I A T=true→placeE F T=0
 | .mk k _ _ nm _ _ kids,h=>by
  rw[okE,Bool.and_eq_true,Bool.and_eq_true] at h
  obtain⟨⟨h1,h2⟩,h3⟩:=h
  rw[placeE,places_ok hI hA kids h3]
  by_cases k1:k=1
  ·subst k1
   rw[if_pos rfl] at h1
   rw[if_pos (Or.inl rfl),show decide ((1:Int)=2)=false by decide,hI _ (of_decide_eq_true h1)];rfl
  ·by_cases k2:k=2
   ·subst k2
    rw[if_pos rfl] at h2
    rw[if_pos (Or.inr rfl),decide_eq_true (show(2:Int)=2 by rfl),hA _ (of_decide_eq_true h2)];rfl
   ·rw[if_neg (by simp[k1,k2])];rfl
theorem places_ok {F:FT} {I A:List ByteArray} (hI:∀n∈I,namedF F n false=0) (hA:∀n∈A,namedF F n true=0):∀l:List ET,okEs I A l=true→placeEs F l=0
 | [],_=>rfl
 | T :: l,h=>by
  rw[okEs,Bool.and_eq_true] at h
  rw[placeEs,place_ok hI hA T h.1,places_ok hI hA l h.2];rfl
end
theorem chkSs_append (l:List FT) (i:Nat) (F:FT) (b:Bool) (x y:List ST):∀seen,zaQ l i F b (x++y) seen=andThen (zaQ l i F b x seen) (zaQ l i F b y):=by
 induction x with
 | nil=>intro seen;rw[List.nil_append,zaQ,andThen,if_pos rfl]
 | cons S r ih =>
  intro seen
  rw[List.cons_append,zaQ,zaQ]
  unfold andThen
  by_cases h:(chkS l i F b S seen).1=0
  ·rw[if_pos h,if_pos h,ih];rfl
  ·rw[if_neg h,if_neg h,if_neg h]
structure Around (l:List FT) (i:Nat) (F:FT) (I A:List ByteArray) (C:List (ByteArray×Nat)):Prop where
 ints:∀n∈I,namedF F n false=0
 arrs:∀n∈A,namedF F n true=0
 call:∀c∈C,∀S:ST,S.func=c.1→S.en=c.2→calleeF l S=0
theorem ask_ok {l:List FT} {i:Nat} {F:FT} {I A:List ByteArray} {C:List (ByteArray×Nat)} (hR:Around l i F I A C) {b:Bool} {S:ST} (h:ownS I A C b S.kind S.name S.func (ST.es S)=true) {seen:List Int} (ht:0 < S.tag→i+1=l.length∧S.tag∉seen):askF l i F S b seen=0:=by
 simp only[ownS,Bool.and_eq_true,Bool.or_eq_true,decide_eq_true_eq] at h
 obtain⟨h1,h2,h3,h4⟩:=h
 have a1:tagF l i S seen=0:=by
  unfold tagF
  by_cases h0:0 < S.tag
  ·rw[if_pos h0,if_pos (ht h0)]
  ·rw[if_neg h0]
 have a2:jumpF S b=0:=by
  unfold jumpF
  rcases h1 with h1 | h1
  ·rw[if_neg (fun h=>by rcases h.1 with h | h;exact h1.1 h;exact h1.2 h)]
  ·rw[if_neg (fun h=>by rw[h1] at h;exact Bool.noConfusion h.2)]
 have a3:targetF F S=0:=by
  unfold targetF
  rcases h2 with h2 | h2
  ·rw[if_pos h2]
  ·by_cases h0:S.name.data.toList=[]
   ·rw[if_pos h0]
   ·rw[if_neg h0]
    by_cases hk:S.kind=1
    ·rw[if_pos hk] at h2
     rw[decide_eq_true hk]
     exact hR.arrs _ (of_decide_eq_true h2)
    ·rw[if_neg hk] at h2
     rw[decide_eq_false hk]
     exact hR.ints _ (of_decide_eq_true h2)
 have a4:calleeF l S=0:=by
  rcases h3 with h3 | h3
  ·unfold calleeF;rw[if_pos h3]
  ·obtain⟨c,hc,h5⟩:=List.any_eq_true.1 h3
   simp only[Bool.and_eq_true,decide_eq_true_eq] at h5
   exact hR.call c hc S h5.1.symm (by rw[h5.2];cases S;rfl)
 unfold askF
 rw[a1,a2,a3,a4,places_ok hR.ints hR.arrs _ h4]
 rfl
theorem seen_is (S:ST) (seen:List Int):zbu S seen=(if 0 < S.tag then [S.tag] else [])++seen:=by
 unfold zbu;split<;>rfl
mutual
theorem chk_ok {l:List FT} {i:Nat} {F:FT} {I A:List ByteArray} {C:List (ByteArray×Nat)} (hR:Around l i F I A C) (b:Bool):∀(S:ST) (seen:List Int),okS I A C b S=true→(tgS S=[]∨i+1=l.length)→(tgS S).Nodup→(∀x∈tgS S,x∉seen)→chkS l i F b S seen=(0,(tgS S).reverse++seen)
 | .mk k t n f ea ec e ba bc c la lc el,seen,h,hm,hn,hd=>by
  rw[okS,Bool.and_eq_true,Bool.and_eq_true] at h
  obtain⟨h1,h2,h3⟩:=h
  rw[tgS] at hm hn hd ⊢
  rw[List.nodup_append] at hn
  obtain⟨n1,n2,n3⟩:=hn
  rw[List.nodup_append] at n2
  obtain⟨n4,n5,n6⟩:=n2
  have ha:=ask_ok hR (S:=.mk k t n f ea ec e ba bc c la lc el) h1 (seen:=seen) (fun h0=>by
   have h0':0 < t:=h0
   refine⟨?_,hd t ?_⟩
   ·rcases hm with hm | hm
    ·rw[if_pos h0'] at hm;simp at hm
    ·exact hm
   ·rw[if_pos h0'];simp)
  have hm2:tgSs c=[]∨i+1=l.length:=hm.imp (fun hm=>by simp at hm;exact hm.2.1) id
  have hm3:tgSs el=[]∨i+1=l.length:=hm.imp (fun hm=>by simp at hm;exact hm.2.2) id
  rw[chkS,ha,seen_is]
  have hk:(ST.mk k t n f ea ec e ba bc c la lc el).tag=t:=rfl
  rw[hk]
  unfold andThen
  dsimp only
  rw[if_pos rfl,zdb hR _ c _ h2 hm2 n4 (fun x hx hs=>by
   rcases List.mem_append.1 hs with hs | hs
   ·exact n3 x hs x (List.mem_append_left _ hx) rfl
   ·exact hd x (by simp[hx]) hs)]
  dsimp only
  rw[if_pos rfl,zdb hR _ el _ h3 hm3 n5 (fun x hx hs=>by
   rcases List.mem_append.1 hs with hs | hs
   ·exact n6 x (List.mem_reverse.1 hs) x hx rfl
   ·rcases List.mem_append.1 hs with hs | hs
    ·exact n3 x hs x (List.mem_append_right _ hx) rfl
    ·exact hd x (by simp[hx]) hs)]
  rw[List.reverse_append,List.reverse_append,List.append_assoc,List.append_assoc]
  congr 3
  by_cases h0:0 < t
  ·rw[if_pos h0];rfl
  ·rw[if_neg h0];rfl
theorem zdb {l:List FT} {i:Nat} {F:FT} {I A:List ByteArray} {C:List (ByteArray×Nat)} (hR:Around l i F I A C) (b:Bool):∀(r:List ST) (seen:List Int),okSs I A C b r=true→(tgSs r=[]∨i+1=l.length)→(tgSs r).Nodup→(∀x∈tgSs r,x∉seen)→zaQ l i F b r seen=(0,(tgSs r).reverse++seen)
 | [],seen,_,_,_,_=>rfl
 | S :: r,seen,h,hm,hn,hd=>by
  rw[okSs,Bool.and_eq_true] at h
  rw[tgSs] at hm hn hd ⊢
  rw[List.nodup_append] at hn
  obtain⟨n1,n2,n3⟩:=hn
  rw[zaQ,chk_ok hR b S seen h.1 (hm.imp (fun hm=>by simp at hm;exact hm.1) id) n1 (fun x hx=>hd x (List.mem_append_left _ hx))]
  unfold andThen
  dsimp only
  rw[if_pos rfl,zdb hR b r _ h.2 (hm.imp (fun hm=>by simp at hm;exact hm.2) id) n2 (fun x hx hs=>by
   rcases List.mem_append.1 hs with hs | hs
   ·exact n3 x (List.mem_reverse.1 hs) x hx rfl
   ·exact hd x (List.mem_append_right _ hx) hs)]
  rw[List.reverse_append,List.append_assoc]
end
end Go.Proofs.YtljbbhhiiiepcaaGreatDoor.Ck
