/- What Criterion answers. -/
import Derived.Test.YtljbbhhiiiepcaaGreatDoorKWhole4
import Derived.Test.YtljbbhhiiiepcaaGreatDoorKCode
set_option linter.unusedSimpArgs false
set_option linter.unusedVariables false
set_option maxHeartbeats 8000000
set_option maxRecDepth 100000
namespace Go.Proofs.YtljbbhhiiiepcaaGreatDoor.Ck
open Go Go.RowKit Go.Proofs.YtljbbhhiiiepcaaGreatDoor
open Go.Lib (hid)
def e1 (l:List FT):Nat:=if l.all FT.rightB then 0 else 1
def e2 (l:List FT):Nat:=if l.length=0∨16 < l.length∨400 < stsV l then 5 else 0
def e3 (l:List FT):Nat:=e6 (repB (l.map (·.name)))
def e4l (l:List FT):Nat:=if mainB l then 0 else 10
theorem main_at:∀(l:List FT) (k:Nat) (hk:k+1=l.length),mainB l=true↔(l[k].name.data.toList=[109,97,105,110]∧l[k].params.length=0)
 | [],k,h=>by simp at h
 | [F],k,h=>by
  obtain rfl:k=0:=by simpa using h
  show(decide (F.name={data:=#[109,97,105,110]})&&F.params.isEmpty)=true↔_
  rw[Bool.and_eq_true,decide_eq_true_eq,List.isEmpty_iff,List.getElem_cons_zero,List.length_eq_zero_iff]
  constructor
  ·rintro⟨h1,h2⟩;exact⟨by rw[h1],h2⟩
  ·rintro⟨h1,h2⟩;exact⟨zdx.1 h1,h2⟩
 | F :: G :: l,k,h=>by
  obtain⟨j,rfl⟩:∃j,k=j+1:=⟨k - 1,by simp at h;omega⟩
  have:=main_at (G :: l) j (by simpa using h)
  rw[List.getElem_cons_succ]
  exact this
theorem e4_at (l:List FT) (k:Nat) (hk:k+1=l.length) (hkk:k < l.length):e4 l[k]=e4l l:=by
 unfold e4 e4l
 by_cases h:mainB l=true
 ·rw[if_pos h,if_pos ((main_at l k hk).1 h)]
 ·rw[if_neg h,if_neg (fun q=>h ((main_at l k hk).2 q))]
theorem whole_code (l:List FT):wholeF l=zau (cd [e1 l,e2 l,e3 l,e4l l]) 4:=by
 show _=orE (orE (orE (orE 0 (e1 l)) (e2 l)) (e3 l)) (e4l l)
 unfold wholeF e1 e2 e3 e4l e6
 cases h1:l.all FT.rightB
 ·simp[orE]
 ·by_cases h2:l.length=0∨16 < l.length∨400 < stsV l
  ·have g:(if l.length=0∨16 < l.length∨400 < stsV l then 5 else 0)=5:=if_pos h2
   rw[g,if_pos h2];simp[orE]
  ·have g:(if l.length=0∨16 < l.length∨400 < stsV l then 5 else 0)=0:=if_neg h2
   rw[g,if_neg h2]
   cases h3:repB (l.map (·.name))
   ·cases h4:mainB l<;>simp[orE]
   ·simp[orE]
theorem whole1_any {w0:World} {a:Option Addr} {l:List FT} (hin:FsIn w0 0 a l) (c mb bx:Nat) (w:World) (hp:Past w0 w) (hx:XBox w bx a l.length c mb):
  Calls Tryz.prog 88 #[.pointer (some ⟨bx,0,none⟩)] w fun e w'=>e=.returned (.int .i64 (e1 l:Nat))∧Below w.heap.size w w':=by
 obtain⟨x0,x1,hlx⟩:=zdN hx
 have HX:=hid (rightP_any a c l hin w hp)
 obtain⟨q,hq⟩:∃q,l.all FT.rightB=q:=⟨_,rfl⟩
 have HV:Hid (e1 l=if q then 0 else 1):=hid (by unfold e1;rw[hq])
 rw[hq] at HX
 clear hp hin hx hq
 cases q
 all_goals
  go_enter Tryz.func88,Tryz.ntmps88
  go_wp2_with (first | (go_at_call 38;refine(zaF _ _ _).mono ?_;rintro e w' ⟨rfl,rfl⟩) | (go_at_call 22;have hx:=HX.out;refine hx.mono ?_;clear hx;rintro e w1 ⟨rfl,hb1⟩;have HB1:=hid hb1;clear hb1))
  go_ret
  exact⟨by rw[HV.out];rfl,HB1.out⟩
theorem whole2_any {w0:World} {a:Option Addr} {l:List FT} (hin:FsIn w0 0 a l) (hsm:stsV l≤4611686018427387904) (c bo:Nat) (w:World) (hp:Past w0 w) (hb:Box w bo (.slice a l.length c) 22):
  Calls Tryz.prog 89 #[.pointer (some ⟨bo,0,none⟩)] w fun e w'=>e=.returned (.int .i64 (e2 l:Nat))∧Below w.heap.size w w':=by
 have b0:=hb.c0
 have hlb:=hb.lt
 have hll:=hin.len
 have HX:=hid (statements_any hin hsm c w hp)
 obtain⟨s,hs⟩:∃s,stsV l=s:=⟨_,rfl⟩
 obtain⟨n,hn⟩:∃n,l.length=n:=⟨_,rfl⟩
 have HV:Hid (e2 l=if n=0∨16 < n∨400 < s then 5 else 0):=hid (by unfold e2;rw[hs,hn])
 rw[hs] at HX
 rw[hn] at HX b0 hll
 clear hp hin hb hs hn hsm
 by_cases h0:n=0
 ·have q1:((n:Int)==0)=true:=by simp;omega
  have HW:Hid (e2 l=5):=hid (by rw[HV.out,if_pos (Or.inl h0)])
  clear h0 HV
  go_enter Tryz.func89,Tryz.ntmps89
  go_wp2_with (go_at_call 38;refine(zaF _ _ _).mono ?_;rintro e w' ⟨rfl,rfl⟩)
  go_ret
  exact⟨by rw[HW.out];rfl,Below.refl _ _⟩
 ·have q1:((n:Int)==0)=false:=by simp;omega
  by_cases h1:16 < n
  ·have q2:decide (16 < (n:Int))=true:=decide_eq_true (by omega)
   have HW:Hid (e2 l=5):=hid (by rw[HV.out,if_pos (Or.inr (Or.inl h1))])
   clear h0 h1 HV
   go_enter Tryz.func89,Tryz.ntmps89
   go_wp2_with (go_at_call 38;refine(zaF _ _ _).mono ?_;rintro e w' ⟨rfl,rfl⟩)
   go_ret
   exact⟨by rw[HW.out];rfl,Below.refl _ _⟩
  ·have q2:decide (16 < (n:Int))=false:=decide_eq_false (by omega)
   by_cases h2:400 < s
   ·have q3:decide (400 < (s:Int))=true:=decide_eq_true (by omega)
    have HW:Hid (e2 l=5):=hid (by rw[HV.out,if_pos (Or.inr (Or.inr h2))])
    clear h0 h1 h2 HV
    go_enter Tryz.func89,Tryz.ntmps89
    go_wp2_with (first | (go_at_call 38;refine(zaF _ _ _).mono ?_;rintro e w' ⟨rfl,rfl⟩) | (go_at_call 90;have hx:=HX.out;refine hx.mono ?_;clear hx;rintro e w1 ⟨rfl,hb1⟩;have HB1:=hid hb1;clear hb1))
    go_ret
    exact⟨by rw[HW.out];rfl,HB1.out⟩
   ·have q3:decide (400 < (s:Int))=false:=decide_eq_false (by omega)
    have HW:Hid (e2 l=0):=hid (by rw[HV.out,if_neg (by omega)])
    clear h0 h1 h2 HV
    go_enter Tryz.func89,Tryz.ntmps89
    go_wp2_with (first | (go_at_call 38;refine(zaF _ _ _).mono ?_;rintro e w' ⟨rfl,rfl⟩) | (go_at_call 90;have hx:=HX.out;refine hx.mono ?_;clear hx;rintro e w1 ⟨rfl,hb1⟩;have HB1:=hid hb1;clear hb1))
    go_ret
    exact⟨by rw[HW.out];rfl,HB1.out⟩
theorem whole3_any {w0:World} {a:Option Addr} {l:List FT} (hin:FsIn w0 0 a l) (hsm:l.length≤1000) (c bo:Nat) (w:World) (hp:Past w0 w) (hb:Box w bo (.slice a l.length c) 22):
  Calls Tryz.prog 91 #[.pointer (some ⟨bo,0,none⟩)] w fun e w'=>e=.returned (.int .i64 (e3 l:Nat))∧Below w.heap.size w w':=by
 have b0:=hb.c0
 have hlb:=hb.lt
 have hX:=functions_any hin hsm c w hp
 have hDL:(l.map (·.name)).length≤9223372036854775807:=by rw[List.length_map];omega
 unfold e3
 generalize l.map (·.name)=L at hX hDL
 have HX:=hid hX
 have HDL:=hid hDL
 obtain⟨q,hq⟩:∃q,repB L=q:=⟨_,rfl⟩
 have HQ:=hid hq
 rw[hq]
 clear hp hin hb hq hX hDL
 cases q
 all_goals
  go_enter Tryz.func91,Tryz.ntmps91
  go_wp2_with (first | (go_at_call 38;refine(zaF _ _ _).mono ?_;rintro e w' ⟨rfl,rfl⟩) | (go_at_call 92;have hx:=HR.out;refine hx.mono ?_;clear hx;rintro e w2 ⟨rfl,hb2⟩;have HB2:=hid (zal HB1.out hb2);clear hb2) | (go_at_call 93;have hx:=HX.out;refine hx.mono ?_;clear hx;rintro e w1 ⟨⟨a1,c1,rfl,hc1,hs1⟩,hb1⟩;have hr:=repeats_any (w0:=w1) hs1 HDL.out c1 hc1 w1 (Below.refl _ _);rw[HQ.out] at hr;have HR:=hid hr;have HB1:=hid hb1;clear hb1 hs1 hc1 hr))
  go_ret
  exact⟨rfl,HB2.out⟩
theorem e2_len {l:List FT} (h:e2 l=0):0 < l.length∧l.length≤16∧stsV l≤400:=by
 unfold e2 at h
 split at h
 ·omega
 ·omega
theorem whole_any {w0:World} {a:Option Addr} {l:List FT} (hin:FsIn w0 0 a l) (hsm:stsV l≤4611686018427387904) (c mb:Nat) (w:World) (hp:Past w0 w):
  Calls Tryz.prog 58 #[.agg #[.slice a l.length c,.map (some mb)]] w fun e w'=>e=.returned (.int .i64 (wholeF l:Nat))∧Below w.heap.size w w':=by
 have HP:=hid hp
 have HI:=hid hin
 have HV:=hid (whole_code l)
 have HSM:=hid hsm
 clear hp hin hsm
 go_enter Tryz.func58,Tryz.ntmps58
 go_wp2_with (go_at_call 35;refine(zef [(88,#[.pointer (some ⟨w.heap.size,0,none⟩)]),(89,#[.pointer (some ⟨w.heap.size+1,0,none⟩)]),(91,#[.pointer (some ⟨w.heap.size+1,0,none⟩)]),(94,#[.pointer (some ⟨w.heap.size+1,0,none⟩),.pointer (some ⟨w.heap.size,0,none⟩)])] (cd [e1 l,e2 l,e3 l,e4l l]) _ _ (by show 4≤100;decide) (by simp) ?_ ?_ ?_).mono ?_;(intro k h;match k,h with | 0,_=>exact enters_of Tryz.func88 (by kernel_rfl) rfl | 1,_=>exact enters_of Tryz.func89 (by kernel_rfl) rfl | 2,_=>exact enters_of Tryz.func91 (by kernel_rfl) rfl | 3,_=>exact enters_of Tryz.func94 (by kernel_rfl) rfl | k+4,h=>exact absurd h (by simp));(intro k h;match k,h with | 0,_=>(refine zab (nb _ (by simp)) ?_;rfl) | 1,_=>(refine zab (nb _ (by simp)) ?_;rfl) | 2,_=>(refine zab (nb _ (by simp)) ?_;rfl) | 3,_=>(refine zab (nb _ (by simp)) ?_;rfl) | k+4,h=>exact absurd h (by simp));(intro k h W hz hW;match k,h with | 0,_=>exact whole1_any HI.out c mb _ W (Past.on (((HP.out.alloc _).alloc _).alloc _) hW) (bl hW (ob _ (ob _ (nb _ rfl)))) | 1,_=>exact whole2_any HI.out HSM.out c _ W (Past.on (((HP.out.alloc _).alloc _).alloc _) hW) (bl hW (ob _ (nb _ (by simp)))) | 2,_=>(have hz2:=(e2_len (by simp[zau,cd,zbA] at hz;exact hz.2));exact whole3_any HI.out (by omega) c _ W (Past.on (((HP.out.alloc _).alloc _).alloc _) hW) (bl hW (ob _ (nb _ (by simp))))) | 3,_=>(have hz2:=(e2_len (by simp[zau,cd,zbA] at hz;exact hz.1.2));have hk:l.length - 1+1=l.length:=(by omega);have h4:=whole4_any HI.out c mb w.heap.size (w.heap.size+1) (l.length - 1) hk W (Past.on (((HP.out.alloc _).alloc _).alloc _) hW) (bl hW (ob _ (ob _ (nb _ rfl)))) (bl hW (ob _ (nb _ (by simp)))) (by omega);rw[e4_at l _ hk (by omega)] at h4;exact h4) | k+4,h=>exact absurd h (by simp));rintro e w2 ⟨rfl,hb2⟩;have HB2:=hid hb2;clear hb2)
 go_ret
 exact⟨by rw[HV.out];rfl,zal (bal (bal (bal (bre w) _) _) _) HB2.out⟩
theorem new_any (a:Option Addr) (n c:Nat) (w:World):
  Calls Tryz.prog 28 #[.agg #[.slice a n c]] w fun e w'=>(∃mb,e=.returned (.agg #[.slice a n c,.map (some mb)])∧w.heap.size≤mb∧Tg mb w' [])∧Below w.heap.size w w':=by
 have hmm:=@run_makeMap Tryz.prog
 go_enter Tryz.func28,Tryz.ntmps28
 go_wp2
 refine bodyPost_ret (v:=.agg #[.slice a n c,.map (some (w.heap.size+1+1))]) (by simp[results,Tryz.results28,go_sem]) rfl ⟨⟨_,rfl,by omega,?_⟩,bal (bal (bal (bre w) _) _) _⟩
 have h:=tg_new ((w.alloc (.cells #[.slice a n c] 24)).alloc (.cells #[.slice a n c,.map (some (w.heap.size+1+1))] 81))
 simpa using h
theorem fn_len (l:List FT) (i:Nat) (F:FT) (seen:List Int):(fnF l i F seen).2.length≤seen.length+cnts F.body:=by
 unfold fnF
 split
 ·show seen.length≤_;omega
 ·split
  ·show seen.length≤_;omega
  ·exact chk_len _ F.body (Nat.lt_succ_self _) false seen
theorem stsV_drop (l:List FT) (n:Nat) (h:n < l.length):stsV (l.drop n)=cnts l[n].body+stsV (l.drop (n+1)):=by
 rw[List.drop_eq_getElem_cons h,stsV]
def Tell (mb:Nat) (w:World) (r:(Nat×List Int)×Int) (e:Ending) (w':World):Prop:=e=.returned (.tuple #[.int .i64 (r.1.1:Nat),.int .i64 r.2])∧Gr mb w w'∧∃s,Tg mb w' s∧(r.1.1=0→s=r.1.2)
def Small (l:List FT):Prop:=stsV l≤4611686018427387904∧∀k (h:k < l.length),l[k].params.length≤1000000000∧l[k].vars.length≤1000000000
theorem zdb {w0:World} {a:Option Addr} {l:List FT} (hin:FsIn w0 0 a l) (hsm:Small l) (c mb:Nat) (hm:w0.heap.size≤mb) (w:World) (hp:Past w0 w) (hT:Tg mb w []):
  Calls Tryz.prog 29 #[.agg #[.slice a l.length c,.map (some mb)]] w (Tell mb w (zb5 l)):=by
 have HWH:=hid (fun(W:World) (hW:Past w0 W)=>whole_any hin hsm.1 c mb W hW)
 have HP:=hid hp
 have HI:=hid hin
 have HT:=hid hT
 have HM:=hid hm
 have HS:=hid hsm
 have hll:=hin.len
 have hltm:=hT.lt
 by_cases hw:wholeF l=0
 ·have HV:Hid (zb5 l=fnsF l 0 l []):=hid (by unfold zb5;rw[if_pos hw])
  have H400:Hid (stsV l≤400):=hid (by
   rw[whole_code] at hw
   have h2:e2 l=0:=by
    have:orE (orE (orE (orE 0 (e1 l)) (e2 l)) (e3 l)) (e4l l)=0:=hw
    simp only[zbA] at this
    exact this.1.1.2
   exact(e2_len h2).2.2)
  rw[hw] at HWH
  clear hp hin hsm hT hm hw
  go_enter Tryz.func29,Tryz.ntmps29
  go_wp2_with (go_at_call 58;refine(HWH.out _ ?_).mono ?_;(exact HP.out.alloc _);rintro e w1 ⟨rfl,hb1⟩;have hx1:XBox w1 w.heap.size a l.length c mb:=bl hb1 (nb _ rfl);have HX1:=hid hx1;(obtain⟨x0,x1,hlx⟩:=zdN hx1);have HG1:Hid (Gr mb w w1):=hid (gr_on (zai (zaB _ _) _) hb1);have HT1:Hid (Tg mb w1 []):=hid ((HT.out.alloc _).on hb1);clear hb1 hx1)
  go_loopw [5,6,16] (fun _ _ i wr=>∃(n:Nat) (seen:List Int),n≤l.length∧i=.int .i64 n∧XBox wr w.heap.size a l.length c mb∧Gr mb w wr∧Tg mb wr seen∧seen.length+stsV (l.drop n)≤400∧fnsF l n (l.drop n) seen=fnsF l 0 l []) (fun _ _ i _=>l.length - (intOf i).toNat)
  case atStart=>exact⟨0,[],Nat.zero_le _,rfl,HX1.out,HG1.out,HT1.out,by have:=H400.out;simpa using this,by rw[List.drop_zero]⟩
  case round =>
   clear HX1 HG1 HT1 x0 x1 hlx
   obtain⟨n,seen,hn,rfl,hx,hg,ht,hlen,heq⟩:=hrel
   have HX:=hid hx
   have HG:=hid hg
   have HTR:=hid ht
   have HQ:=hid heq
   have HLE:=hid hlen
   obtain⟨x0,x1,hlx⟩:=zdN hx
   by_cases hlt:n < l.length
   ·have hd:l.drop n=l[n] :: l.drop (n+1):=List.drop_eq_getElem_cons hlt
    have hsd:=stsV_drop l n hlt
    have hfl:=fn_len l n l[n] seen
    have hfn:=zb1 HI.out c mb n hlt HM.out (HS.out.2 n hlt) seen (by omega) wr (zcF HP.out hg HM.out) ht
    rw[hd,fnsF] at heq
    have HL2:Hid ((fnF l n l[n] seen).2.length+stsV (l.drop (n+1))≤400):=hid (by omega)
    obtain⟨r,hr⟩:∃r,fnF l n l[n] seen=r:=⟨_,rfl⟩
    rw[hr] at hfn heq HL2
    have HF:=hid hfn
    clear hfn hfl hsd hd hlen hx hg ht hr
    by_cases h0:r.1=0
    ·rw[if_pos h0] at heq
     have HE:=hid heq
     have HZ:=hid h0
     clear heq h0
     go_wp2_with (go_at_call 59;have hx:=HF.out;refine hx.mono ?_;clear hx;rintro e w2 ⟨rfl,hg2,s2,ht2,he2⟩;have hz:=HZ.out;rw[hz];(obtain rfl:=he2 hz);have HG2:=hid hg2;have HT2:=hid ht2;clear hg2 ht2 he2 hz)
     go_round
     case rel=>exact⟨n+1,r.2,by omega,by go_num,zaq HG2.out (by omega) HX.out,zaz HG.out HG2.out,HT2.out,HL2.out,HE.out⟩
     case measure=>simp[intOf];omega
    ·rw[if_neg h0] at heq
     have HE:=hid heq
     obtain⟨rc,hrc⟩:∃rc,r.1=rc:=⟨_,rfl⟩
     have HRC:=hid hrc
     have q1:((rc:Int) != 0)=true:=by rw[←hrc];simpa using h0
     clear heq h0 hrc
     go_wp2_with (go_at_call 59;have hx:=HF.out;refine hx.mono ?_;clear hx;rintro e w2 ⟨rfl,hg2,s2,ht2,he2⟩;rw[HRC.out];have HG2:=hid hg2;have HT2:=hid ht2;have HE2:=hid he2;clear hg2 ht2 he2)
     go_ret2
     rw[HV.out,←HE.out]
     exact⟨by show _=Ending.returned (.tuple #[.int .i64 (r.1:Nat),.int .i64 n]);rw[HRC.out];rfl,zaz HG.out HG2.out,s2,HT2.out,HE2.out⟩
   ·obtain rfl:n=l.length:=by omega
    rw[List.drop_length,fnsF] at heq
    have HE:=hid heq
    clear heq hlen hx hg ht
    go_wp2
    go_ret2
    rw[HV.out,←HE.out]
    exact⟨rfl,HG.out,seen,HTR.out,fun _=>rfl⟩
 ·have HV:Hid (zb5 l=((wholeF l,[]),-1)):=hid (by unfold zb5;rw[if_neg hw])
  obtain⟨v,hv⟩:∃v,wholeF l=v:=⟨_,rfl⟩
  rw[hv] at HWH HV hw
  have q1:((v:Int) != 0)=true:=by simpa using hw
  clear hp hin hsm hT hm hv
  go_enter Tryz.func29,Tryz.ntmps29
  go_wp2_with (go_at_call 58;refine(HWH.out _ ?_).mono ?_;(exact HP.out.alloc _);rintro e w1 ⟨rfl,hb1⟩;have HB1:=hid hb1;clear hb1)
  go_ret2
  rw[HV.out]
  exact⟨rfl,gr_on (zai (zaB _ _) _) HB1.out,[],(HT.out.alloc _).on HB1.out,fun h=>absurd h hw⟩
theorem zcL {w0:World} {a:Option Addr} {l:List FT} (hin:FsIn w0 0 a l) (hsm:Small l) (c:Nat) (w:World) (hp:Past w0 w):
  Calls Tryz.prog 11 #[.agg #[.slice a l.length c]] w fun e w'=>e=.returned (.tuple #[.int .i64 ((chkF l).1:Nat),.int .i64 (chkF l).2])∧Below w.heap.size w w':=by
 have hpr:=fun(mb:Nat) (W:World) (hm:w.heap.size≤mb) (hW:Below w.heap.size w W) (hTW:Tg mb W [])=>zdb hin hsm c mb (Nat.le_trans hp.size hm) W (hp.on hW) hTW
 have HPR:=hid hpr
 have HN:=hid (fun W=>new_any a l.length c W)
 unfold chkF
 clear hp hin hsm hpr
 go_enter Tryz.func11,Tryz.ntmps11
 go_wp2_with (first
  | (go_at_call 29;have hx:=HPR.out mb w1 HMB.out HB1.out HT1.out;refine hx.mono ?_;clear hx;rintro e w2 ⟨rfl,hg2,-⟩;have HG2:=hid hg2;clear hg2)
  | (go_at_call 28;refine(HN.out _).mono ?_;rintro e w1 ⟨⟨mb,rfl,hmb,ht1⟩,hb1⟩;have HMB:Hid (w.heap.size≤mb):=hid (by simp at hmb;omega);have HT1:=hid ht1;have HB1:Hid (Below w.heap.size w w1):=hid (zal (bal (bre w) _) hb1);clear hb1 ht1 hmb))
 go_ret2
 exact⟨rfl,Below.grown HB1.out HG2.out HB1.out.size (fun k e=>by cases e;exact HMB.out)⟩
end Go.Proofs.YtljbbhhiiiepcaaGreatDoor.Ck

namespace Go.Proofs.YtljbbhhiiiepcaaGreatDoor.Ck
open Go Go.RowKit Go.Proofs.YtljbbhhiiiepcaaGreatDoor
open Go.Lib (hid)
def tg9 (tag:Int) (seen:List Int):Nat:=if tag < 1∨tag∉seen then 9 else 0
def lastC (l:List FT) (vars:List ByteArray):Nat:=match l.getLast? with
 | some F=>varsF F vars
 | none=>0
def critF (l:List FT) (tag:Int) (vars:List ByteArray):Nat:=orE (orE (orE 0 (zb5 l).1.1) (tg9 tag (zb5 l).1.2)) (lastC l vars)
abbrev PBox (w:World) (b:Nat) (a:Option Addr) (n c:Nat):Prop:=w.heap[b]?=some (.cells #[.slice a n c] 24 (0,0))
theorem crit1_any {w0:World} {a:Option Addr} {l:List FT} (hin:FsIn w0 0 a l) (hsm:Small l) (c mb:Nat) (hm:w0.heap.size≤mb) (bx:Nat) (w:World) (hp:Past w0 w) (hT:Tg mb w []) (hx:XBox w bx a l.length c mb):
  Calls Tryz.prog 36 #[.pointer (some ⟨bx,0,none⟩)] w (Ans mb w (zb5 l).1):=by
 obtain⟨x0,x1,hlx⟩:=zdN hx
 have HP:=hid (zdb hin hsm c mb hm w hp hT)
 clear hin hsm hm hp hT hx
 go_enter Tryz.func36,Tryz.ntmps36
 go_wp2_with (go_at_call 29;have hx:=HP.out;refine hx.mono ?_;clear hx;intro e w2 hA;have HQ:=hid hA;obtain⟨rfl,-⟩:=hA)
 go_ret
 exact⟨rfl,HQ.out.2.1,HQ.out.2.2⟩
theorem crit2_any (a:Option Addr) (n c mb:Nat) (tag:Int) (ht:-9223372036854775808≤tag∧tag≤9223372036854775807) (seen:List Int) (bt bx:Nat) (w:World) (hT:Tg mb w seen) (hb:Box w bt (.int .i64 tag) 3) (hx:XBox w bx a n c mb):
  Calls Tryz.prog 37 #[.pointer (some ⟨bt,0,none⟩),.pointer (some ⟨bx,0,none⟩)] w fun e w'=>e=.returned (.int .i64 (tg9 tag seen:Nat))∧Below w.heap.size w w':=by
 obtain⟨x0,x1,hlx⟩:=zdN hx
 have b0:=hb.c0
 have hlb:=hb.lt
 have hk:=hT.look ht
 have hmem:tag∉seen↔seen.count tag=0:=List.count_eq_zero.symm
 have hc:seen.count tag≤seen.length:=List.count_le_length
 obtain⟨k,hkk⟩:∃k,seen.count tag=k:=⟨_,rfl⟩
 rw[hkk] at hk hmem
 have HCNT:=hid hmem
 clear hT hb hx hmem hc hkk
 by_cases h1:tag < 1
 ·have q1:decide (tag < 1)=true:=decide_eq_true h1
  have HV:Hid (tg9 tag seen=9):=hid (by unfold tg9;rw[if_pos (Or.inl h1)])
  clear h1 hk
  go_enter Tryz.func37,Tryz.ntmps37
  go_wp2_with (go_at_call 38;refine(zaF _ _ _).mono ?_;rintro e w' ⟨rfl,rfl⟩)
  go_ret
  exact⟨by rw[HV.out];rfl,Below.refl _ _⟩
 ·have q1:decide (tag < 1)=false:=decide_eq_false h1
  by_cases h2:k=0
  ·have q2:((k:Int)==0)=true:=by simpa using h2
   have HV:Hid (tg9 tag seen=9):=hid (by unfold tg9;rw[if_pos (Or.inr (HCNT.out.2 h2))])
   clear h1 h2
   go_enter Tryz.func37,Tryz.ntmps37
   go_wp2_with (go_at_call 38;refine(zaF _ _ _).mono ?_;rintro e w' ⟨rfl,rfl⟩)
   go_ret
   exact⟨by rw[HV.out];rfl,Below.refl _ _⟩
  ·have q2:((k:Int)==0)=false:=by simpa using h2
   have HV:Hid (tg9 tag seen=0):=hid (by unfold tg9;rw[if_neg (fun h=>by rcases h with h | h;(exact h1 h);(exact h2 (HCNT.out.1 h)))])
   clear h1 h2
   go_enter Tryz.func37,Tryz.ntmps37
   go_wp2_with (go_at_call 38;refine(zaF _ _ _).mono ?_;rintro e w' ⟨rfl,rfl⟩)
   go_ret
   exact⟨by rw[HV.out];rfl,Below.refl _ _⟩
theorem crit31_any {w0:World} {F:FT} (hin:F.In w0 0) (nm:ByteArray) (bf:Nat) (w:World) (hp:Past w0 w) (hf:FBox w bf F):
  Calls Tryz.prog 41 #[.string nm,.pointer (some ⟨bf,0,none⟩)] w fun e w'=>e=.returned (.int .i64 (namedF F nm false:Nat))∧Below w.heap.size w w':=by
 obtain⟨f0,f1,f2,f3,hlf⟩:=fcells hf
 have HX:=hid (zds hin nm false w hp)
 clear hp hin hf
 go_enter Tryz.func41,Tryz.ntmps41
 go_wp2_with (go_at_call 42;have hx:=HX.out;refine hx.mono ?_;clear hx;rintro e w1 ⟨rfl,hb1⟩)
 go_ret
 exact⟨rfl,hb1⟩
theorem varsF_fold (F:FT) (L:List ByteArray):varsF F L=(L.map fun s=>namedF F s false).foldr orE 0:=by
 induction L with
 | nil=>rfl
 | cons T L ih=>rw[varsF,ih];rfl
theorem vars_list {w0:World} {F:FT} (hin:F.In w0 0) (va:Option Addr) (vc:Nat) (L:List ByteArray) (hl:L.length≤9223372036854775807) (hL:StrsIn w0 0 va L) (bf:Nat) (W:World) (hW:Past w0 W) (hf:FBox W bf F):
  Calls Tryz.prog 40 #[.slice va L.length vc,.func (.func 41) #[] #[.pointer (some ⟨bf,0,none⟩)]] W fun e w'=>e=.returned (.int .i64 (varsF F L:Nat))∧Below W.heap.size W w':=by
 have h:=eachT_any va vc L hl hL 41 #[.pointer (some ⟨bf,0,none⟩)] (enters_of Tryz.func41 (by kernel_rfl) rfl) (cd (L.map fun s=>namedF F s false)) (fun _ V=>Below W.heap.size W V) (fun k V hV=>hW.on hV)
  (fun k h V hz hV=>by
   rw[cd_at (fun s=>namedF F s false) L k h]
   exact(crit31_any hin L[k] bf V (hW.on hV) (bl hV hf)).mono fun e w' q=>⟨q.1,zal hV q.2⟩) W (Below.refl _ _)
 refine h.mono ?_
 rintro e w' ⟨he,k,hk,hb,-⟩
 refine⟨?_,hb⟩
 have:=firstC_list (L.map fun s=>namedF F s false)
 rw[List.length_map,←varsF_fold] at this
 rw[he,this]
theorem crit3_any {w0:World} {a:Option Addr} {l:List FT} (hin:FsIn w0 0 a l) (h0:0 < l.length) (c:Nat) (va:Option Addr) (vc:Nat) (L:List ByteArray) (hl:L.length≤9223372036854775807) (hL:StrsIn w0 0 va L) (bp bv:Nat) (w:World) (hp:Past w0 w) (hb:PBox w bp a l.length c) (hv:Box w bv (.slice va L.length vc) 32):
  Calls Tryz.prog 39 #[.pointer (some ⟨bp,0,none⟩),.pointer (some ⟨bv,0,none⟩)] w fun e w'=>e=.returned (.int .i64 (lastC l L:Nat))∧Below w.heap.size w w':=by
 obtain⟨k,hk⟩:∃k,k+1=l.length:=⟨l.length - 1,by omega⟩
 have hkk:k < l.length:=by omega
 have HV:Hid (lastC l L=varsF l[k] L):=hid (by
  unfold lastC
  rw[List.getLast?_eq_getElem?,show l.length - 1=k by omega,List.getElem?_eq_getElem hkk])
 have hX:=fun(bf:Nat) (W:World) (hW:Past w0 W) (hf:FBox W bf l[k])=>vars_list (hin.fs k hkk) va vc L hl hL bf W hW hf
 have HX:=hid hX
 have HP:=hid hp
 have p0:=zab (k:=0) hb rfl
 have hlp:=zcR hb
 have v0:=hv.c0
 have hlv:=hv.lt
 have hrow:=hin.row k hkk
 obtain⟨kb,ko,rfl,-⟩:=hrow
 have hrow:=hin.row k hkk
 rw[F.cells_is] at hrow
 obtain⟨r0,r1,r2,r3,hkb⟩:=zbf hrow hp
 have hn:=hin.len
 have el:(l.length:Int) - 1=(k:Int):=by omega
 have ew:IntKind.i64.wrap ((l.length:Int) - 1)=(k:Int):=by rw[el];exact IntWalk.i64_in _ (by omega)
 have HBV:=hid hv
 clear hX hp hb hv hrow hin hL h0
 go_enter Tryz.func39,Tryz.ntmps39
 go_wp2_with (go_at_call 40;refine(HX.out _ _ ?_ ?_).mono ?_;(exact HP.out.alloc _);(exact nb _ rfl);rintro e w1 ⟨rfl,hb1⟩;have HB1:=hid hb1;clear hb1)
 go_ret
 exact⟨by rw[HV.out];rfl,zal (bal (bre w) _) HB1.out⟩
theorem prog_pos {l:List FT} (h:(zb5 l).1.1=0):0 < l.length:=by
 unfold zb5 at h
 by_cases hw:wholeF l=0
 ·rw[whole_code] at hw
  have:orE (orE (orE (orE 0 (e1 l)) (e2 l)) (e3 l)) (e4l l)=0:=hw
  simp only[zbA] at this
  exact(e2_len this.1.1.2).1
 ·rw[if_neg hw] at h;exact absurd h hw
theorem crit_any {w0:World} {a:Option Addr} {l:List FT} (hin:FsIn w0 0 a l) (hsm:Small l) (c:Nat) (tag:Int) (ht:-9223372036854775808≤tag∧tag≤9223372036854775807) (va:Option Addr) (vc:Nat) (L:List ByteArray) (hl:L.length≤9223372036854775807) (hL:StrsIn w0 0 va L) (w:World) (hp:Past w0 w):
  Calls Tryz.prog 17 #[.agg #[.slice a l.length c],.int .i64 tag,.slice va L.length vc] w fun e w'=>e=.returned (.int .i64 (critF l tag L:Nat))∧Below w.heap.size w w':=by
 have HI:=hid hin
 have HL:=hid hL
 have HS:=hid hsm
 have HP:=hid hp
 have HN:=hid (fun W=>new_any a l.length c W)
 clear hp hin hsm hL
 go_enter Tryz.func17,Tryz.ntmps17
 go_wp2_with (first
  | (go_at_call 35;refine(zcT mb [(36,#[.pointer (some ⟨w1.heap.size,0,none⟩)]),(37,#[.pointer (some ⟨w.heap.size+1,0,none⟩),.pointer (some ⟨w1.heap.size,0,none⟩)]),(39,#[.pointer (some ⟨w.heap.size,0,none⟩),.pointer (some ⟨w.heap.size+2,0,none⟩)])] (cd [(zb5 l).1.1,tg9 tag (zb5 l).1.2,lastC l L]) (stl [[],(zb5 l).1.2,(zb5 l).1.2,(zb5 l).1.2]) _ _ (by show 3≤100;decide) ?_ ?_ ?_ ?_ ?_).mono ?_;(have:=HT.out.lt;simp;omega);(intro k h;match k,h with | 0,_=>exact enters_of Tryz.func36 (by kernel_rfl) rfl | 1,_=>exact enters_of Tryz.func37 (by kernel_rfl) rfl | 2,_=>exact enters_of Tryz.func39 (by kernel_rfl) rfl | k+3,h=>exact absurd h (by simp));(intro k h;match k,h with | 0,_=>(refine zab (nb _ (by simp)) ?_;rfl) | 1,_=>(refine zab (nb _ (by simp)) ?_;rfl) | 2,_=>(refine zab (nb _ (by simp)) ?_;rfl) | k+3,h=>exact absurd h (by simp));(intro k h W hz hW hT;match k,h with | 0,_=>exact crit1_any HI.out HS.out c mb (by have:=HMB.out;have:=HP.out.size;omega) _ W (zcF ((Past.on HP.out HB1.out).alloc _ |>.alloc _) hW (by have:=HMB.out;have:=HP.out.size;omega)) hT (zaq hW (by have:=HMB.out;have:=HT.out.lt;omega) (ob _ (nb _ rfl))) | 1,_=>exact(crit2_any a l.length c mb tag ht _ _ _ W hT (zaq hW (by have:=HMB.out;have:=HT.out.lt;omega) (ob _ (ob _ HTB.out))) (zaq hW (by have:=HMB.out;have:=HT.out.lt;omega) (ob _ (nb _ rfl)))).mono fun e w' h=>hT.quiet h | 2,_=>(have h0:0 < l.length:=prog_pos (by simp[zau,cd,zbA] at hz;exact hz.1);exact(crit3_any HI.out h0 c va vc L hl HL.out _ _ W (zcF ((Past.on HP.out HB1.out).alloc _ |>.alloc _) hW (by have:=HMB.out;have:=HP.out.size;omega)) (zaq hW (by have:=HMB.out;have:=HT.out.lt;omega) (ob _ (ob _ HPB.out))) (zaq hW (by have:=HMB.out;have:=HT.out.lt;omega) (ob _ (ob _ HVB.out)))).mono fun e w' h=>hT.quiet h) | k+3,h=>exact absurd h (by simp));(exact(HT.out.alloc _).alloc _);rintro e w2 ⟨rfl,hg2,-⟩;have HG2:=hid hg2;clear hg2)
  | (go_at_call 28;refine(HN.out _).mono ?_;rintro e w1 ⟨⟨mb,rfl,hmb,ht1⟩,hb1⟩;have HMB:Hid (w.heap.size+3≤mb):=hid (by simp at hmb;omega);have HT:=hid ht1;have HPB:Hid (PBox w1 w.heap.size a l.length c):=hid (bl hb1 (ob _ (ob _ (nb _ rfl))));have HTB:Hid (Box w1 (w.heap.size+1) (.int .i64 tag) 3):=hid (bl hb1 (ob _ (nb _ (by simp))));have HVB:Hid (Box w1 (w.heap.size+2) (.slice va L.length vc) 32):=hid (bl hb1 (nb _ (by simp)));have HB1:Hid (Below w.heap.size w w1):=hid (zal (bal (bal (bal (bre w) _) _) _) hb1);clear hb1 ht1 hmb))
 go_ret
 exact⟨rfl,Below.grown HB1.out (zaz (zai (zai (zaB _ _) _) _) HG2.out) HB1.out.size (fun k e=>by cases e;have:=HMB.out;omega)⟩
end Go.Proofs.YtljbbhhiiiepcaaGreatDoor.Ck
