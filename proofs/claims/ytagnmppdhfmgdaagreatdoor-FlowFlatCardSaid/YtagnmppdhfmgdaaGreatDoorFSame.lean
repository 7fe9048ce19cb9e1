/- Numbers, and rows of numbers, held against one another by the statements' own functions; is a number among some. -/
import Derived.Test.YtagnmppdhfmgdaaGreatDoorFNew
import Derived.Test.YtagnmppdhfmgdaaGreatDoorFEdges
import Derived.Test.YtagnmppdhfmgdaaGreatDoorTSame4
import Derived.Laws.MakeOwn
set_option linter.unusedSimpArgs false
set_option linter.unusedVariables false
set_option maxHeartbeats 8000000
set_option maxRecDepth 100000
namespace Go.Proofs.YtagnmppdhfmgdaaGreatDoor.Fl
open Go Go.RowKit Go.Proofs.YtagnmppdhfmgdaaGreatDoor
open Go.Lib (hid)
theorem stm_info:(Tryz.prog.info? 61).map (fun i=>(i.zero,i.size,i.bytes))=some (some (.agg #[.int .i64 0,.int .i64 0,.string {data:=#[]},.string {data:=#[]},.slice none 0 0,.slice none 0 0,.slice none 0 0]),7,120):=by kernel_rfl
theorem made_stmts (n:Nat) (hn:n≤1000001):∃cur:Array Value,cur.size=n*7∧∀W:World,(Instr.makeSlice 32 (.int .i64 (n:Nat)) (.int .i64 (n:Nat))).run Tryz.prog W=.ok (.slice (some ⟨W.heap.size,0,none⟩) n n) (W.alloc (.cells cur 61)):=by
 obtain⟨ei,hin,hz0,hz1,hz2⟩:=info_parts stm_info
 refine⟨madeCells #[.int .i64 0,.int .i64 0,.string {data:=#[]},.string {data:=#[]},.slice none 0 0,.slice none 0 0,.slice none 0 0] (n*7),size_madeCells _ _,fun W=>?_⟩
 have h:=run_make (P:=Tryz.prog) (w:=W) 32 61 ei _ Tryz.underlying32 hin hz0 .i64 .i64 (n:Nat) (n:Nat) (by omega) (by omega) (by rw[hz2];omega) (by omega)
 simp only[Int.toNat_natCast,hz1] at h
 rw[h]
 rfl
theorem set7 (cur:Array Value) (a:Nat) (v0 v1 v2 v3 v4 v5 v6:Value) (ha:a+7≤cur.size):
  (((((((cur.setIfInBounds a v0).setIfInBounds (a+1) v1).setIfInBounds (a+2) v2).setIfInBounds (a+3) v3).setIfInBounds (a+4) v4).setIfInBounds (a+5) v5).setIfInBounds (a+6) v6).size=cur.size ∧
  (∀j u,(#[v0,v1,v2,v3,v4,v5,v6]:Array Value)[j]?=some u→(((((((cur.setIfInBounds a v0).setIfInBounds (a+1) v1).setIfInBounds (a+2) v2).setIfInBounds (a+3) v3).setIfInBounds (a+4) v4).setIfInBounds (a+5) v5).setIfInBounds (a+6) v6)[a+j]?=some u) ∧
  ∀b,b < a→(((((((cur.setIfInBounds a v0).setIfInBounds (a+1) v1).setIfInBounds (a+2) v2).setIfInBounds (a+3) v3).setIfInBounds (a+4) v4).setIfInBounds (a+5) v5).setIfInBounds (a+6) v6)[b]?=cur[b]?:=by
 refine⟨by simp,fun j u hj=>?_,fun b hb=>?_⟩
 ·have hj7:j < 7:=by
   rcases Nat.lt_or_ge j 7 with h | h
   ·exact h
   ·rw[Array.getElem?_eq_none (by simpa using h)] at hj;cases hj
  match j,hj7 with
  | 0,_=>simp[Array.getElem?_setIfInBounds] at hj ⊢;refine⟨by omega,hj⟩
  | 1,_=>simp[Array.getElem?_setIfInBounds] at hj ⊢;refine⟨by omega,hj⟩
  | 2,_=>simp[Array.getElem?_setIfInBounds] at hj ⊢;refine⟨by omega,hj⟩
  | 3,_=>simp[Array.getElem?_setIfInBounds] at hj ⊢;refine⟨by omega,hj⟩
  | 4,_=>simp[Array.getElem?_setIfInBounds] at hj ⊢;refine⟨by omega,hj⟩
  | 5,_=>simp[Array.getElem?_setIfInBounds] at hj ⊢;refine⟨by omega,hj⟩
  | 6,_=>simp[Array.getElem?_setIfInBounds] at hj ⊢;refine⟨by omega,hj⟩
 ·simp only[Array.getElem?_setIfInBounds]
  rw[if_neg (by omega),if_neg (by omega),if_neg (by omega),if_neg (by omega),if_neg (by omega),if_neg (by omega),if_neg (by omega)]
def ToldS (w:World) (B g M k:Nat) (N:List NR):Prop:=B≤g∧∃cur,w.heap[g]?=some (.cells cur 61 (0,0))∧cur.size=M*7∧∀i n j u,i < k→N[i]?=some n→n.S.cells[j]?=some u→cur[i*7+j]?=some u
theorem told_step {wr:World} {B g N k:Nat} {L:List NR} {n:NR} {S:ST} (hS:n.S=S) (hk:k < N) (hn:L[k]?=some n) (hB:B≤g) {cur:Array Value} (hg:wr.heap[g]?=some (.cells cur 61 (0,0))) (hc:cur.size=N*7) (hold:∀i n j u,i < k→L[i]?=some n→n.S.cells[j]?=some u→cur[i*7+j]?=some u) (o:Obj):
  ToldS ((((((((wr.setCell ⟨g,k*7,none⟩ (.int .i64 S.kind)).setCell ⟨g,k*7+1,none⟩ (.int .i64 S.tag)).setCell ⟨g,k*7+2,none⟩ (.string S.name)).setCell ⟨g,k*7+3,none⟩ (.string S.func)).setCell ⟨g,k*7+4,none⟩ (.slice S.ea S.en S.ec)).setCell ⟨g,k*7+5,none⟩ (.slice S.ba S.bn S.bc)).setCell ⟨g,k*7+6,none⟩ (.slice S.la S.ln S.lc)).alloc o) B g N (k+1) L:=by
 obtain⟨h1,h2,h3⟩:=set7 cur (k*7) (.int .i64 S.kind) (.int .i64 S.tag) (.string S.name) (.string S.func) (.slice S.ea S.en S.ec) (.slice S.ba S.bn S.bc) (.slice S.la S.ln S.lc) (by omega)
 refine⟨hB,_,zaf o (zaA _ (zaA _ (zaA _ (zaA _ (zaA _ (zaA _ (zaA _ hg))))))),by rw[h1,hc],fun i m j u hi hm hu=>?_⟩
 rcases Nat.lt_or_ge i k with h | h
 ·have hj7:j < 7:=by
   rw[ST.cells_eq] at hu
   rcases Nat.lt_or_ge j 7 with h | h
   ·exact h
   ·rw[Array.getElem?_eq_none (by simpa using h)] at hu;cases hu
  rw[h3 _ (by omega)]
  exact hold i m j u h hm hu
 ·obtain rfl:i=k:=by omega
  rw[hn] at hm
  simp only[Option.some.injEq] at hm
  subst hm
  rw[hS,ST.cells_eq] at hu
  exact h2 j u hu
theorem told_nd {wr:World} {B g k cn:Nat} {ns:List NR} {vx vo vi:Value} {an:Option Addr} {S:ST} (h:Nd B B ns wr vx vo vi an cn) (hgB:¬g=B) (hgn:(Value.slice an ns.length cn).ownBlock≠some g) (o:Obj):Nd B B ns ((((((((wr.setCell ⟨g,k*7,none⟩ (.int .i64 S.kind)).setCell ⟨g,k*7+1,none⟩ (.int .i64 S.tag)).setCell ⟨g,k*7+2,none⟩ (.string S.name)).setCell ⟨g,k*7+3,none⟩ (.string S.func)).setCell ⟨g,k*7+4,none⟩ (.slice S.ea S.en S.ec)).setCell ⟨g,k*7+5,none⟩ (.slice S.ba S.bn S.bc)).setCell ⟨g,k*7+6,none⟩ (.slice S.la S.ln S.lc)).alloc o) vx vo vi an cn:=by
 have key:∀{w:World} (j:Nat) (u:Value),Nd B B ns w vx vo vi an cn→Nd B B ns (w.setCell ⟨g,j,none⟩ u) vx vo vi an cn:=fun j u hw =>
  ⟨(Below.heap_setCell _ _ _ _ (fun e=>hgB e.symm)).trans hw.box,zbi hw.n hgn _ _⟩
 have h7:=key (k*7+6) (.slice S.la S.ln S.lc) (key (k*7+5) (.slice S.ba S.bn S.bc) (key (k*7+4) (.slice S.ea S.en S.ec) (key (k*7+3) (.string S.func) (key (k*7+2) (.string S.name) (key (k*7+1) (.int .i64 S.tag) (key (k*7) (.int .i64 S.kind) h))))))
 exact⟨zaf o h7.box,h7.n.alloc o⟩
theorem told_below {w wr:World} {B g k:Nat} {S:ST} (h:Below B w wr) (hg:B≤g) (hs:B≤wr.heap.size) (o:Obj):Below B w ((((((((wr.setCell ⟨g,k*7,none⟩ (.int .i64 S.kind)).setCell ⟨g,k*7+1,none⟩ (.int .i64 S.tag)).setCell ⟨g,k*7+2,none⟩ (.string S.name)).setCell ⟨g,k*7+3,none⟩ (.string S.func)).setCell ⟨g,k*7+4,none⟩ (.slice S.ea S.en S.ec)).setCell ⟨g,k*7+5,none⟩ (.slice S.ba S.bn S.bc)).setCell ⟨g,k*7+6,none⟩ (.slice S.la S.ln S.lc)).alloc o):=
 (((((((h.setCell (p:=⟨g,k*7,none⟩) hg _).setCell (p:=⟨g,k*7+1,none⟩) hg _).setCell (p:=⟨g,k*7+2,none⟩) hg _).setCell (p:=⟨g,k*7+3,none⟩) hg _).setCell (p:=⟨g,k*7+4,none⟩) hg _).setCell (p:=⟨g,k*7+5,none⟩) hg _).setCell (p:=⟨g,k*7+6,none⟩) hg _).alloc (by simpa[World.setCell] using hs) o
theorem flat_any {w0:World} (a:Option Addr) (c:Nat) (l:List ST) (hl:l.length≤9223372036854775807) (hin:SsIn w0 0 a 0 l) (hc:cnts l≤100000) (w:World) (hp:Past w0 w):
  Calls Tryz.prog 14 #[.slice a l.length c] w fun e w'=>(∃g,e=.returned (.slice (some ⟨g,0,none⟩) (cnts l) (cnts l))∧ToldS w' w.heap.size g (cnts l) (cnts l) (zaY l))∧Below w.heap.size w w':=by
 have HK:=hid (newB_any (w0:=w0) a c l hl hin hc w hp)
 obtain⟨cur0,hcur0,hmk⟩:=made_stmts (cnts l) (by omega)
 obtain⟨N,hN⟩:∃N,cnts l=N:=⟨_,rfl⟩
 rw[hN] at hmk hcur0 ⊢
 have hNn:((zaY l).map NR.raw).length=N:=by rw[List.length_map,zaG];exact hN
 have HNN:=hid (And.intro hNn hN)
 have HC0:=hid hcur0
 have hq:N≤100000:=by omega
 clear hin hp hcur0 hNn hN
 go_enter Tryz.func14,Tryz.ntmps14
 go_upto_region 2 with (go_at_call 29;(refine HK.out.mono ?_);rintro e w2 ⟨rfl,h2,hb2⟩;have H2:=hid (And.intro h2 hb2);clear h2 hb2)
 obtain⟨ai,an,ci,cn,hO⟩:=bd_open H2.out.1
 obtain⟨b0,b1,b2,b3,bf,bl⟩:=zau hO.box
 rw[HNN.out.1] at b3
 have HB:=hid (And.intro hO H2.out.2)
 have hg0:(w2.alloc (.cells cur0 61)).heap[w2.heap.size]?=_:=zai w2 (.cells cur0 61)
 have HG0:=hid hg0
 clear hO hg0 HK H2
 generalize hwb:w.heap.size=B at *
 go_upto_region 4 with (fail)
 generalize hsg:w2.heap.size=g at *
 have hb4:Below B w (w2.alloc (.cells cur0 61)):=HB.out.2.alloc (by omega) _
 have hn4:Nd B B ((zaY l).map NR.raw) (w2.alloc (.cells cur0 61)) (.slice none 0 0) (.slice none 0 0) (.slice ai N ci) an cn:=⟨by have:=HB.out.1.alloc (.cells cur0 61);have h9:=this.box;rw[HNN.out.1] at h9 ⊢;exact h9,(HB.out.1.alloc (.cells cur0 61)).n⟩
 have HT:=hid (And.intro hb4 (And.intro hn4 (show B≤g by omega)))
 clear hb4 hn4 b0 b1 b2 b3 bf bl HB
 generalize w2.alloc (.cells cur0 61)=w4 at *
 go_loopw [20] (fun i wr=>∃k:Nat,k≤N∧i=.int .i64 k∧ToldS wr B g N k (zaY l)∧Nd B B ((zaY l).map NR.raw) wr (.slice none 0 0) (.slice none 0 0) (.slice ai N ci) an cn∧Below B w wr) (fun i _=>N - (intOf i).toNat)
 case atStart=>exact⟨0,Nat.zero_le _,rfl,⟨HT.out.2.2,cur0,HG0.out,HC0.out,fun i n j u h=>absurd h (by omega)⟩,HT.out.2.1,HT.out.1⟩
 case round =>
  obtain⟨k,hk,rfl,ht,hn,hb⟩:=hrel
  by_cases hlt:k < N
  ·have hkl:k < (zaY l).length:=by rw[zaG];have:=HNN.out.2;omega
   have hnk:=List.getElem?_eq_getElem hkl
   obtain⟨n,hnn⟩:∃n,(zaY l)[k]=n:=⟨_,rfl⟩
   rw[hnn] at hnk
   have hraw:((zaY l).map NR.raw)[k]?=some n.raw:=by rw[List.getElem?_map,hnk];rfl
   obtain⟨gn,rfl,-,gl,-,gf,gc⟩:=nd_at hn hraw
   obtain⟨d0,d1,d2,d3,d4,d5,d6,d7,d8,d9,d10,d11⟩:=zbq gc
   have plt:k < ((zaY l).map NR.raw).length:=by rw[HNN.out.1];exact hlt
   obtain⟨hBg,cur,hcur,hcs,hold⟩:=ht
   have tf:∀k,wr.frozen? ⟨g,k,none⟩=false:=fun k=>zac hcur
   have tl:=lt_of_block hcur
   have tc:∀j,j < 7→∃u,wr.cell? ⟨g,k*7+j,none⟩=some u:=fun j hj=>⟨cur[k*7+j]'(by omega),zab hcur (Array.getElem?_eq_getElem _)⟩
   obtain⟨u0,t0⟩:=tc 0 (by decide)
   obtain⟨u1,t1⟩:=tc 1 (by decide)
   obtain⟨u2,t2⟩:=tc 2 (by decide)
   obtain⟨u3,t3⟩:=tc 3 (by decide)
   obtain⟨u4,t4⟩:=tc 4 (by decide)
   obtain⟨u5,t5⟩:=tc 5 (by decide)
   obtain⟨u6,t6⟩:=tc 6 (by decide)
   rw[Nat.add_zero] at t0
   have HW:=hid (And.intro hcur (And.intro hcs (And.intro hold (And.intro hn hb))))
   have HNK:=hid hnk
   have hgn:¬g=gn:=by
    rintro rfl
    have:=zba hn.n hcur (by decide)
    exact this rfl
   have hgB:¬g=B:=by
    rintro rfl
    have h1:wr.heap[g]?=_:=hn.box
    rw[hcur] at h1
    simp only[Option.some.injEq,Obj.cells.injEq] at h1
    exact absurd h1.2.1 (by decide)
   have HGB:=hid (And.intro hgn hgB)
   clear hkl hnk hnn hraw gc hcur hcs hold hn hb tc
   go_wp2
   go_roundw
   case rel =>
    obtain⟨w1,w2',w3,w4',w5⟩:=HW.out
    exact⟨k+1,by omega,by go_num,told_step (n:=n) (S:=n.S) rfl hlt HNK.out (by omega) w1 w2' w3 _,told_nd (S:=n.S) w4' HGB.out.2 (by simpa[Value.ownBlock] using fun e:gn=g=>HGB.out.1 e.symm) _,told_below (S:=n.S) w5 (by omega) (by omega) _⟩
   case measure=>simp[intOf];omega
  ·obtain rfl:k=N:=by omega
   go_wp2
   go_ret
   rw[hwb]
   exact⟨⟨g,rfl,ht⟩,hb⟩
end Go.Proofs.YtagnmppdhfmgdaaGreatDoor.Fl

namespace Go.Proofs.YtagnmppdhfmgdaaGreatDoor.Fl
open Go Go.RowKit Go.Proofs.YtagnmppdhfmgdaaGreatDoor
open Go.Lib (hid)
theorem below_dN (w:World) (n:Nat):Below w.heap.size w (w.drewN n):=⟨rfl,rfl,rfl,Nat.le_refl _,fun _ _=>rfl⟩
theorem take_step {α:Type} {l m:List α} {n:Nat} (hl:n < l.length) (hm:n < m.length) (ht:l.take n=m.take n) (h:l[n]=m[n]):l.take (n+1)=m.take (n+1):=by
 rw[List.take_succ_eq_append_getElem hl,List.take_succ_eq_append_getElem hm,ht,h]
theorem same_any {w0:World} (a a':Option Addr) (c c':Nat) (l m:List Int) (hl:l.length≤100000) (hm:m.length≤100000) (hin:NumAt w0 a l) (hin':NumAt w0 a' m) (w:World) (hp:Past w0 w):
  Calls Tryz.prog 17 #[.slice a l.length c,.slice a' m.length c'] w fun e w'=>e=.returned (.bool (decide (l=m)))∧Below w.heap.size w w':=by
 have HI:=hid hin
 have HI':=hid hin'
 have HP:=hid hp
 clear hin hin' hp
 by_cases hlen:l.length=m.length
 ·have hne:((l.length:Int) != (m.length:Int))=false:=by rw[hlen];simp
  have hlm:Hid (m.length=l.length):=hid hlen.symm
  have HLN:=hid hlen
  clear hlen
  go_enter Tryz.func17,Tryz.ntmps17
  go_wp2
  go_loopw [5] (fun i wr=>∃n:Nat,n≤l.length∧i=.int .i64 n∧Below w.heap.size w wr∧l.take n=m.take n) (fun i _=>l.length - (intOf i).toNat)
  case atStart=>exact⟨0,Nat.zero_le _,rfl,Below.refl _ _,by simp⟩
  case round =>
   obtain⟨n,hn,rfl,hb,ht⟩:=hrel
   have HB:=hid hb
   have HT:=hid ht
   clear hb ht
   by_cases hlt:n < l.length
   ·have hlt':n < m.length:=by have:=hlm.out;omega
    obtain⟨kb,ko,rfl,r0⟩:=HI.out n hlt
    obtain⟨kb',ko',rfl,s0⟩:=HI'.out n hlt'
    replace r0:=zav (HP.out.on HB.out) (B:=0) _ _ (Nat.zero_le _) r0
    replace s0:=zav (HP.out.on HB.out) (B:=0) _ _ (Nat.zero_le _) s0
    have hkb:=zdA r0
    have hkb2:=zdA s0
    by_cases hr:l[n]=m[n]
    ·have HR:=hid (take_step hlt hlt' HT.out hr)
     have hbb:(l[n] != m[n])=false:=by rw[hr];simp
     clear hr
     go_wp2
     go_quiet (fail)
     go_wp2
     go_round
     case rel=>exact⟨n+1,by omega,by go_num,zaE HB.out (below_dN _ _),HR.out⟩
     case measure=>simp[intOf];omega
    ·have HR:Hid (¬l=m):=hid (fun e=>hr (by subst e;rfl))
     have hbb:(l[n] != m[n])=true:=by simp[hr]
     clear hr
     go_wp2
     go_quiet (fail)
     go_wp2
     go_ret
     exact⟨by rw[decide_eq_false HR.out];rfl,zaE HB.out (below_dN _ _)⟩
   ·obtain rfl:n=l.length:=by omega
    have HT2:Hid (l=m):=hid (by have:=HT.out;rw[List.take_length,HLN.out,List.take_length] at this;exact this)
    go_wp2
    go_ret
    exact⟨by rw[decide_eq_true HT2.out];rfl,HB.out⟩
 ·have hne:((l.length:Int) != (m.length:Int))=true:=by simp;omega
  have HR:=hid (fun e:l=m=>hlen (by rw[e]))
  go_enter Tryz.func17,Tryz.ntmps17
  go_wp2_with fail
  go_ret
  exact⟨by rw[decide_eq_false HR.out];rfl,Below.refl _ _⟩
theorem rows_any {w0:World} (a a':Option Addr) (c c':Nat) (l m:List (List Int)) (hl:l.length≤100000) (hm:m.length≤100000) (hin:RowsAt w0 a l) (hin':RowsAt w0 a' m) (w:World) (hp:Past w0 w):
  Calls Tryz.prog 16 #[.slice a l.length c,.slice a' m.length c'] w fun e w'=>e=.returned (.bool (decide (l=m)))∧Below w.heap.size w w':=by
 have HI:=hid hin
 have HI':=hid hin'
 have HP:=hid hp
 clear hin hin' hp
 by_cases hlen:l.length=m.length
 ·have hne:((l.length:Int) != (m.length:Int))=false:=by rw[hlen];simp
  have hlm:Hid (m.length=l.length):=hid hlen.symm
  have HLN:=hid hlen
  clear hlen
  go_enter Tryz.func16,Tryz.ntmps16
  go_wp2
  go_loopw [5] (fun i wr=>∃n:Nat,n≤l.length∧i=.int .i64 n∧Below w.heap.size w wr∧l.take n=m.take n) (fun i _=>l.length - (intOf i).toNat)
  case atStart=>exact⟨0,Nat.zero_le _,rfl,Below.refl _ _,by simp⟩
  case round =>
   obtain⟨n,hn,rfl,hb,ht⟩:=hrel
   have HB:=hid hb
   have HT:=hid ht
   clear hb ht
   by_cases hlt:n < l.length
   ·have hlt':n < m.length:=by have:=hlm.out;omega
    obtain⟨kb,ko,ra,rc,rfl,r0,rl,rn⟩:=HI.out n hlt
    obtain⟨kb',ko',ra',rc',rfl,s0,sl,sn⟩:=HI'.out n hlt'
    replace r0:=zav (HP.out.on HB.out) (B:=0) _ _ (Nat.zero_le _) r0
    replace s0:=zav (HP.out.on HB.out) (B:=0) _ _ (Nat.zero_le _) s0
    have hkb:=zdA r0
    have hkb2:=zdA s0
    have HC:=hid (fun W hW=>same_any (w0:=w0) ra ra' rc rc' l[n] m[n] rl.1 sl.1 rn sn W hW)
    clear rn sn rl sl
    have hq:Hid (Past w0 wr.drew):=hid ((HP.out.on HB.out).drew)
    have hbel:Hid (Below w.heap.size w wr.drew):=hid (Below.drew HB.out)
    have HS:Hid (∀W,Past wr W→W.cell? ⟨kb,ko+n,none⟩=some (.slice ra l[n].length rc)∧W.cell? ⟨kb',ko'+n,none⟩=some (.slice ra' m[n].length rc')):=hid (fun W hW=>⟨zav hW (B:=0) _ _ (Nat.zero_le _) r0,zav hW (B:=0) _ _ (Nat.zero_le _) s0⟩)
    have hs:Hid (Past wr wr.drew):=hid ((Past.refl _).drew)
    by_cases hr:l[n]=m[n]
    ·have HR:=hid (take_step hlt hlt' HT.out hr)
     rw[decide_eq_true hr] at HC
     clear hr
     go_wp2
     go_region_held3 (fun w'=>w'.cell? ⟨kb,ko+n,none⟩=some (.slice ra l[n].length rc)∧w'.cell? ⟨kb',ko'+n,none⟩=some (.slice ra' m[n].length rc')) (with_reducible exact HS.out _ hs.out)
      ((go_at_call 17;((with_reducible refine(HC.out _ hq.out).mono ?_);rintro e wk ⟨rfl,hb⟩);have hq2:=hid (hq.out.on hb);have hb2:=hid (zaE hbel.out hb);have hs2:=hid (hs.out.on hb);clear hq hb hbel hs;have hq:=hq2;have hbel:=hb2;have hs:=hs2;clear hq2 hb2 hs2))
     go_wp2
     go_round
     case rel=>exact⟨n+1,by omega,by go_num,hbel.out,HR.out⟩
     case measure=>simp[intOf];omega
    ·have HR:Hid (¬l=m):=hid (fun e=>hr (by subst e;rfl))
     rw[decide_eq_false hr] at HC
     clear hr
     go_wp2
     go_region_held3 (fun w'=>w'.cell? ⟨kb,ko+n,none⟩=some (.slice ra l[n].length rc)∧w'.cell? ⟨kb',ko'+n,none⟩=some (.slice ra' m[n].length rc')) (with_reducible exact HS.out _ hs.out)
      ((go_at_call 17;((with_reducible refine(HC.out _ hq.out).mono ?_);rintro e wk ⟨rfl,hb⟩);have hq2:=hid (hq.out.on hb);have hb2:=hid (zaE hbel.out hb);have hs2:=hid (hs.out.on hb);clear hq hb hbel hs;have hq:=hq2;have hbel:=hb2;have hs:=hs2;clear hq2 hb2 hs2))
     go_wp2
     go_ret
     exact⟨by rw[decide_eq_false HR.out];rfl,hbel.out⟩
   ·obtain rfl:n=l.length:=by omega
    have HT2:Hid (l=m):=hid (by have:=HT.out;rw[List.take_length,HLN.out,List.take_length] at this;exact this)
    go_wp2
    go_ret
    exact⟨by rw[decide_eq_true HT2.out];rfl,HB.out⟩
 ·have hne:((l.length:Int) != (m.length:Int))=true:=by simp;omega
  have HR:=hid (fun e:l=m=>hlen (by rw[e]))
  go_enter Tryz.func16,Tryz.ntmps16
  go_wp2_with fail
  go_ret
  exact⟨by rw[decide_eq_false HR.out];rfl,Below.refl _ _⟩
end Go.Proofs.YtagnmppdhfmgdaaGreatDoor.Fl
