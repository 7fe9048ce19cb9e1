/- The tags that were seen, counted in a map; whether a statement may have its tag. -/
import Derived.Test.YtljbbhhiiiepcaaGreatDoorKName
import Derived.Maps.Own
import Derived.Maps.OwnOps
import Derived.Maps.Views
set_option linter.unusedSimpArgs false
set_option linter.unusedVariables false
set_option maxHeartbeats 8000000
set_option maxRecDepth 100000
namespace Go.Proofs.YtljbbhhiiiepcaaGreatDoor.Ck
open Go Go.RowKit Go.Proofs.YtljbbhhiiiepcaaGreatDoor
open Go.Lib (hid)
abbrev SBox (w:World) (b:Nat) (S:ST):Prop:=w.heap[b]?=some (.cells #[.int .i64 S.kind,.int .i64 S.tag,.string S.name,.string S.func,.slice S.ea S.en S.ec,.slice S.ba S.bn S.bc,.slice S.la S.ln S.lc] 66 (0,0))
abbrev XBox (w:World) (b:Nat) (a:Option Addr) (n c mb:Nat):Prop:=w.heap[b]?=some (.cells #[.slice a n c,.map (some mb)] 81 (0,0))
theorem last_any (a:Option Addr) (n c mb:Nat) (hn:n≤9223372036854775807) (w:World):
  Calls Tryz.prog 95 #[.agg #[.slice a n c,.map (some mb)]] w fun e w'=>e=.returned (.int .i64 ((n:Int) - 1))∧Below w.heap.size w w':=by
 go_enter Tryz.func95,Tryz.ntmps95
 go_wp2
 go_ret
 exact⟨rfl,bal (bre w) _⟩
theorem find1_any (F:FT) (nm:ByteArray) (b:Nat) (w:World) (hc:Box w b (.string nm) 9):
  Calls Tryz.prog 46 #[.agg #[.string F.name,.slice F.pa F.params.length F.pc,.slice F.va F.vars.length F.vc,.slice F.ba F.body.length F.bc],.pointer (some ⟨b,0,none⟩)] w fun e w'=>e=.returned (.bool (F.name.toList==nm.toList))∧Below w.heap.size w w':=by
 have c0:=zab (k:=0) hc rfl
 have hlt:=lt_of_block hc
 clear hc
 obtain⟨q,hq⟩:∃q,(F.name.toList==nm.toList)=q:=⟨_,rfl⟩
 rw[hq]
 go_enter Tryz.func46,Tryz.ntmps46
 go_wp2
 go_ret
 exact⟨rfl,bal (bre w) _⟩
theorem findN_at {l:List FT} {nm:ByteArray} {n:Nat} (hn:n < l.length) (h:∀j (hj:j < n) (hl:j < l.length),l[j].name≠nm) (e:l[n].name=nm):findN l nm=n:=by
 induction l generalizing n with
 | nil=>simp at hn
 | cons F l ih =>
  cases n with
  | zero=>rw[findN,if_pos (show F.name=nm from e)]
  | succ n =>
   rw[findN,if_neg (show F.name≠nm from h 0 (by omega) (by simp))]
   rw[ih (n:=n) (by simpa using hn) (fun j hj hl=>h (j+1) (by omega) (by simpa using hl)) e]
theorem findN_none {l:List FT} {nm:ByteArray} (h:∀j (hl:j < l.length),l[j].name≠nm):findN l nm=l.length:=by
 induction l with
 | nil=>rfl
 | cons F l ih=>rw[findN,if_neg (show F.name≠nm from h 0 (by simp)),ih (fun j hl=>h (j+1) (by simpa using hl))];rfl
theorem F.cells_is (F:FT):F.cells=#[.string F.name,.slice F.pa F.params.length F.pc,.slice F.va F.vars.length F.vc,.slice F.ba F.body.length F.bc]:=rfl
theorem zed {w0:World} {a:Option Addr} {l:List FT} (hin:FsIn w0 0 a l) (c:Nat) (nm:ByteArray) (b:Nat) (w:World) (hp:Past w0 w) (hc:Box w b (.string nm) 9):
  Calls Tryz.prog 45 #[.slice a l.length c,.func (.func 46) #[] #[.pointer (some ⟨b,0,none⟩)]] w fun e w'=>e=.returned (.int .i64 (zeg l nm))∧Below w.heap.size w w':=by
 have HP:=hid hp
 have HI:=hid hin
 have HC:=hid hc
 have hll:=hin.len
 clear hp hin hc
 go_enter Tryz.func45,Tryz.ntmps45
 go_wp2
 go_loopw [5,8] (fun _ i wr=>∃n:Nat,n≤l.length∧i=.int .i64 n∧Below w.heap.size w wr∧∀j (hj:j < n) (hl:j < l.length),l[j].name≠nm) (fun _ i _=>l.length - (intOf i).toNat)
 case atStart=>exact⟨0,Nat.zero_le _,rfl,Below.refl _ _,fun j hj=>by omega⟩
 case round =>
  obtain⟨n,hn,rfl,hb,hno⟩:=hrel
  have HB:=hid hb
  have HN:=hid hno
  clear hb hno
  by_cases hlt:n < l.length
  ·have hrow:=HI.out.row n hlt
   have hrow':=hrow
   obtain⟨kb,ko,rfl,-⟩:=hrow'
   rw[F.cells_is] at hrow
   obtain⟨r0,r1,r2,r3,hkb⟩:=zbf hrow (HP.out.on HB.out)
   have hcall:=find1_any l[n] nm b wr (bl HB.out HC.out)
   clear hrow
   by_cases he:l[n].name=nm
   ·rw[text_eq.2 he] at hcall
    have HX:=hid hcall
    have HE:Hid (zeg l nm=(n:Int)):=hid (by unfold zeg;rw[findN_at hlt HN.out he,if_pos hlt])
    clear hcall he
    go_wp2_with (go_at_call 46;have hx:=HX.out;refine hx.mono ?_;clear hx;rintro e w1 ⟨rfl,hb1⟩)
    go_ret
    exact⟨by rw[HE.out];rfl,zal HB.out hb1⟩
   ·rw[text_ne he] at hcall
    have HX:=hid hcall
    have HE:Hid (∀j (hj:j < n+1) (hl:j < l.length),l[j].name≠nm):=hid (fun j hj hl=>by
     by_cases e:j=n
     ·subst e;exact he
     ·exact HN.out j (by omega) hl)
    clear hcall he
    go_wp2_with (go_at_call 46;have hx:=HX.out;refine hx.mono ?_;clear hx;rintro e w1 ⟨rfl,hb1⟩)
    go_round
    case rel=>exact⟨n+1,by omega,by go_num,zal HB.out hb1,HE.out⟩
    case measure=>simp[intOf];omega
  ·obtain rfl:n=l.length:=by omega
   go_wp2
   go_ret
   exact⟨by unfold zeg;rw[findN_none (fun j hl=>HN.out j hl hl),if_neg (Nat.lt_irrefl _)];rfl,HB.out⟩
theorem find_any {w0:World} {a:Option Addr} {l:List FT} (hin:FsIn w0 0 a l) (c:Nat) (nm:ByteArray) (w:World) (hp:Past w0 w):
  Calls Tryz.prog 19 #[.agg #[.slice a l.length c],.string nm] w fun e w'=>e=.returned (.int .i64 (zeg l nm))∧Below w.heap.size w w':=by
 have HX:=hid (fun(W:World) (hW:Past w0 W) (b:Nat) (hb:Box W b (.string nm) 9)=>zed hin c nm b W hW hb)
 have HP:=hid hp
 clear hin hp
 go_enter Tryz.func19,Tryz.ntmps19
 go_wp2_with (go_at_call 45;refine(HX.out _ ?_ _ ?_).mono ?_;(exact(HP.out.alloc _).alloc _);(exact nb _ (by simp));rintro e w1 ⟨rfl,hb1⟩)
 go_ret
 exact⟨rfl,zal (bal (bal (bre w) _) _) hb1⟩
theorem findV_lt (l:List FT) (nm:ByteArray):zeg l nm < 0∧l.length≤findN l nm∨0≤zeg l nm∧zeg l nm=(findN l nm:Nat)∧findN l nm < l.length:=by
 unfold zeg
 split
 ·rename_i h;exact Or.inr ⟨by omega,rfl,h⟩
 ·rename_i h;exact Or.inl ⟨by omega,by omega⟩
def call2 (l:List FT) (S:ST):Nat:=if findN l S.func+1=l.length∨((l.map fun F=>F.params.length).getD (findN l S.func) 0)≠S.en then 10 else 0
def ng (v:Int):Nat:=if v < 0 then 6 else 0
theorem callee_code (l:List FT) (S:ST) (hk:S.kind=3):calleeF l S=orE (orE 0 (ng (zeg l S.func))) (call2 l S):=by
 unfold calleeF call2 ng
 rw[if_neg (by omega)]
 rcases findV_lt l S.func with ⟨h1,h2⟩ | ⟨h1,h2,h3⟩
 ·rw[if_pos h2,if_pos h1];rfl
 ·rw[if_neg (show ¬l.length≤findN l S.func by omega),if_neg (show ¬zeg l S.func < 0 by omega)];rfl
theorem callee1_any (b:Nat) (i:Int) (w:World) (hc:Box w b (.int .i64 i) 3):
  Calls Tryz.prog 192 #[.pointer (some ⟨b,0,none⟩)] w fun e w'=>e=.returned (.int .i64 (ng i:Nat))∧w'=w:=by
 have c0:=zab (k:=0) hc rfl
 have hlt:=lt_of_block hc
 clear hc
 by_cases h:i < 0
 ·have e1:decide (i < 0)=true:=by simpa using h
  have HV:ng i=6:=if_pos h
  rw[HV]
  clear h HV
  go_enter Tryz.func192,Tryz.ntmps192
  go_wp2_with (go_at_call 38;refine(zaF _ _ _).mono ?_;rintro e w' ⟨rfl,rfl⟩)
  go_ret
  exact⟨rfl,rfl⟩
 ·have e1:decide (i < 0)=false:=by simpa using h
  have HV:ng i=0:=if_neg h
  rw[HV]
  clear h HV
  go_enter Tryz.func192,Tryz.ntmps192
  go_wp2_with (go_at_call 38;refine(zaF _ _ _).mono ?_;rintro e w' ⟨rfl,rfl⟩)
  go_ret
  exact⟨rfl,rfl⟩
end Go.Proofs.YtljbbhhiiiepcaaGreatDoor.Ck

namespace Go.Proofs.YtljbbhhiiiepcaaGreatDoor.Ck
open Go Go.RowKit Go.Proofs.YtljbbhhiiiepcaaGreatDoor
open Go.Lib (hid)
theorem keyI:Go.Maps.Keyed Tryz.prog 3:=Go.Maps.int_keyed Tryz.underlying3
theorem zeroI (w:World):(zeroValue 3).run Tryz.prog w=.ok (.int .i64 0) w:=by kernel_rfl
def Tg (mb:Nat) (W:World) (seen:List Int):Prop:=∃D:DataW Unit,W.ownsMap Tryz.prog 3 (plainElem Tryz.prog 3) mb seen.length D∧Go.Maps.IsMap D∧∀t:Int,D.atKey (.int .i64 t) (.lit (.int .i64 0))=.lit (.int .i64 (seen.count t:Nat))
theorem Tg.lt {mb:Nat} {W:World} {seen:List Int} (h:Tg mb W seen):mb < W.heap.size:=by
 obtain⟨D,h1,-⟩:=h;exact h1.lt
theorem Tg.on {mb:Nat} {W W':World} {seen:List Int} (h:Tg mb W seen) (hb:Below W.heap.size W W'):Tg mb W' seen:=by
 obtain⟨D,h1,h2,h3⟩:=h
 exact⟨D,h1.kept (row:=none) ⟨hb.os,hb.tape,hb.output,hb.size,fun k hk _=>hb.block k hk⟩ (by simp),h2,h3⟩
theorem Tg.alloc {mb:Nat} {W:World} {seen:List Int} (h:Tg mb W seen) (o:Obj):Tg mb (W.alloc o) seen:=h.on ((Below.refl _ _).alloc (Nat.le_refl _) _)
theorem tg_new (w:World):Tg w.heap.size (w.alloc (.map #[] 0)) []:=
 ⟨.map [],World.ownsMap_made _ _ _ _,Go.Maps.isMap_empty,fun t=>rfl⟩
theorem wf64 {t:Int} (h:-9223372036854775808≤t∧t≤9223372036854775807):(Lit.int .i64 t).wf=true:=WalkArith.wf_i64 h
theorem Tg.look {mb:Nat} {W:World} {seen:List Int} (h:Tg mb W seen) {t:Int} (ht:-9223372036854775808≤t∧t≤9223372036854775807):
  (Instr.lookup 79 (.map (some mb)) (.int .i64 t) false).run Tryz.prog W=.ok (.int .i64 (seen.count t:Nat)) W:=by
 obtain⟨D,h1,h2,h3⟩:=h
 obtain⟨c,hrun,hat,-⟩:=h1.lookup_int keyI Tryz.underlying79 Tryz.underlying3 (zeroI _) (Go.Maps.keyOf_int_mk Tryz.underlying3 (wf64 ht))
 rw[h3 t] at hat
 simp only[DataW.lit.injEq,Lit.int.injEq,true_and] at hat
 rw[hrun,hat]
theorem Tg.upd {mb:Nat} {W:World} {seen:List Int} (h:Tg mb W seen) (hl:seen.length≤1000000) {t:Int} (ht:-9223372036854775808≤t∧t≤9223372036854775807):
  ∃W',(Instr.mapUpdate 79 (.map (some mb)) (.int .i64 t) (.int .i64 ((seen.count t:Nat)+1))).run Tryz.prog W=.ok () W'∧Tg mb W' (t :: seen)∧Gr mb W W':=by
 obtain⟨D,h1,h2,h3⟩:=h
 have hc:seen.count t≤seen.length:=List.count_le_length
 obtain⟨W',hrun,hown,hg⟩:=h1.update keyI Tryz.underlying79 (by unfold maxLen;omega) (key:=.int .i64 t) (Go.Maps.keyOf_int_mk Tryz.underlying3 (wf64 ht)) (plainElem_int Tryz.underlying3 (wf64 (t:=(seen.count t:Nat)+1) (by omega)))
 refine⟨W',hrun,⟨_,hown,h2.put _ _,fun s=>?_⟩,hg⟩
 by_cases e:s=t
 ·subst e
  rw[Go.Maps.atKey_put_same h2 (show Go.WideAt.IsKeyLit (Lit.int .i64 s) from trivial),List.count_cons_self]
  congr 2
 ·rw[Go.Maps.atKey_put_other (by simpa using e),h3 s,List.count_cons_of_ne (fun h=>e h.symm)]
theorem mayTag_any (a:Option Addr) (n c mb:Nat) (hn:n≤9223372036854775807) (i:Nat) (hi:i < n) (t:Int) (ht:-9223372036854775808≤t∧t≤9223372036854775807) (seen:List Int) (hl:seen.length≤1000000) (w:World) (hT:Tg mb w seen):
  Calls Tryz.prog 146 #[.agg #[.slice a n c,.map (some mb)],.int .i64 i,.int .i64 t] w fun e w'=>e=.returned (.bool (decide (i+1=n∧t∉seen)))∧Gr mb w w'∧Tg mb w' (t :: seen):=by
 have hc:seen.count t≤seen.length:=List.count_le_length
 have hmem:t∉seen↔seen.count t=0:=List.count_eq_zero.symm
 have hcs:(t :: seen).count t=seen.count t+1:=List.count_cons_self
 have hTa:=hT.alloc (.cells #[.slice a n c,.map (some mb)] 81)
 have hk:=hTa.look ht
 obtain⟨W1,hrun,hT1,hG1⟩:=hTa.upd hl ht
 have hlt:=hT.lt
 have x0:W1.heap[w.heap.size]?=some (.cells #[.slice a n c,.map (some mb)] 81 (0,0)):=zaq hG1 (by omega) (nb _ rfl)
 have c0:=zab (k:=0) x0 rfl
 have c1:=zab (k:=1) x0 rfl
 have hlx:=lt_of_block x0
 have HT1:=hid hT1
 have HG1:=hid hG1
 have HL:=hid (fun W=>last_any a n c mb hn W)
 have HK2:Hid (∀W,Below W1.heap.size W1 W→(Instr.lookup 79 (.map (some mb)) (.int .i64 t) false).run Tryz.prog W=.ok (.int .i64 ((seen.count t:Nat)+1)) W):=hid (fun W hW=>by have:=(hT1.on hW).look ht;rw[hcs] at this;simpa using this)
 have HX:=hid x0
 have HCNT:Hid (t∉seen↔seen.count t=0):=hid hmem
 obtain⟨k,hkk⟩:∃k,seen.count t=k:=⟨_,rfl⟩
 rw[hkk] at hk hrun hc HK2 HCNT
 have w1:IntKind.i64.wrap ((k:Int)+1)=(k:Int)+1:=IntWalk.i64_in _ (by omega)
 clear hT hTa hT1 hG1 x0 hmem hcs hkk
 by_cases hin:i+1=n
 ·have e1:((i:Int)==(n:Int) - 1)=true:=by simp;omega
  by_cases hk0:k=0
  ·have HR:Hid (decide (i+1=n∧t∉seen)=true):=hid (decide_eq_true ⟨hin,HCNT.out.2 hk0⟩)
   have e2:((k:Int)+1==1)=true:=by simp;omega
   clear hin hk0
   go_enter Tryz.func146,Tryz.ntmps146
   go_wp2_with (go_at_call 95;refine(HL.out _).mono ?_;rintro e w2 ⟨rfl,hb2⟩;have x2:=bl hb2 HX.out;have d0:=zab (k:=0) x2 rfl;have d1:=zab (k:=1) x2 rfl;have hk2:=HK2.out w2 hb2;have HB2:=hid hb2;clear x2 hb2)
   go_ret
   exact⟨by rw[HR.out];rfl,zaz (zaz (zai (zaB _ _) _) HG1.out) (zdH HB2.out),HT1.out.on HB2.out⟩
  ·have HR:Hid (decide (i+1=n∧t∉seen)=false):=hid (decide_eq_false (fun h=>hk0 (HCNT.out.1 h.2)))
   have e2:((k:Int)+1==1)=false:=by simp;omega
   clear hin hk0
   go_enter Tryz.func146,Tryz.ntmps146
   go_wp2_with (go_at_call 95;refine(HL.out _).mono ?_;rintro e w2 ⟨rfl,hb2⟩;have x2:=bl hb2 HX.out;have d0:=zab (k:=0) x2 rfl;have d1:=zab (k:=1) x2 rfl;have hk2:=HK2.out w2 hb2;have HB2:=hid hb2;clear x2 hb2)
   go_ret
   exact⟨by rw[HR.out];rfl,zaz (zaz (zai (zaB _ _) _) HG1.out) (zdH HB2.out),HT1.out.on HB2.out⟩
 ·have e1:((i:Int)==(n:Int) - 1)=false:=by simp;omega
  have HR:Hid (decide (i+1=n∧t∉seen)=false):=hid (decide_eq_false (fun h=>hin h.1))
  clear hin
  go_enter Tryz.func146,Tryz.ntmps146
  go_wp2_with (go_at_call 95;refine(HL.out _).mono ?_;rintro e w2 ⟨rfl,hb2⟩;have x2:=bl hb2 HX.out;have d0:=zab (k:=0) x2 rfl;have d1:=zab (k:=1) x2 rfl;have hk2:=HK2.out w2 hb2;have HB2:=hid hb2;clear x2 hb2)
  go_ret
  exact⟨by rw[HR.out];rfl,zaz (zaz (zai (zaB _ _) _) HG1.out) (zdH HB2.out),HT1.out.on HB2.out⟩
end Go.Proofs.YtljbbhhiiiepcaaGreatDoor.Ck
