/- Graphs of statements as plain data: nodes with the numbers of what stands about them. -/
import Derived.Test.YtagnmppdhfmgdaaGreatDoorTStHeap
import Derived.Lib.LaidU8
import Derived.ProofKit
set_option linter.unusedSimpArgs false
set_option linter.unusedVariables false
set_option maxHeartbeats 8000000
set_option maxRecDepth 100000
namespace Go.Proofs.YtagnmppdhfmgdaaGreatDoor
open Go Go.RowKit
theorem ST.cells_is (k t:Int) (n f:ByteArray) (ea:Option Addr) (ec:Nat) (e:List ET) (ba:Option Addr) (bc:Nat) (b:List ST) (la:Option Addr) (lc:Nat) (l:List ST):(ST.mk k t n f ea ec e ba bc b la lc l).cells=#[.int .i64 k,.int .i64 t,.string n,.string f,.slice ea e.length ec,.slice ba b.length bc,.slice la l.length lc]:=rfl
end Go.Proofs.YtagnmppdhfmgdaaGreatDoor
namespace Go.Proofs.YtagnmppdhfmgdaaGreatDoor
open Go Go.RowKit
def ST.kind:ST→Int
 | .mk k _ _ _ _ _ _ _ _ _ _ _ _=>k
def ST.tag:ST→Int
 | .mk _ t _ _ _ _ _ _ _ _ _ _ _=>t
def ST.name:ST→ByteArray
 | .mk _ _ n _ _ _ _ _ _ _ _ _ _=>n
def ST.func:ST→ByteArray
 | .mk _ _ _ f _ _ _ _ _ _ _ _ _=>f
def ST.ea:ST→Option Addr
 | .mk _ _ _ _ ea ec e ba bc b la lc l=>ea
def ST.ec:ST→Nat
 | .mk _ _ _ _ ea ec e ba bc b la lc l=>ec
def ST.en:ST→Nat
 | .mk _ _ _ _ ea ec e ba bc b la lc l=>e.length
def ST.ba:ST→Option Addr
 | .mk _ _ _ _ ea ec e ba bc b la lc l=>ba
def ST.bc:ST→Nat
 | .mk _ _ _ _ ea ec e ba bc b la lc l=>bc
def ST.bn:ST→Nat
 | .mk _ _ _ _ ea ec e ba bc b la lc l=>b.length
def ST.la:ST→Option Addr
 | .mk _ _ _ _ ea ec e ba bc b la lc l=>la
def ST.lc:ST→Nat
 | .mk _ _ _ _ ea ec e ba bc b la lc l=>lc
def ST.ln:ST→Nat
 | .mk _ _ _ _ ea ec e ba bc b la lc l=>l.length
theorem ST.cells_eq (S:ST):S.cells=#[.int .i64 S.kind,.int .i64 S.tag,.string S.name,.string S.func,.slice S.ea S.en S.ec,.slice S.ba S.bn S.bc,.slice S.la S.ln S.lc]:=by cases S;rfl
theorem ST.val_eq (S:ST):S.val=.agg #[.int .i64 S.kind,.int .i64 S.tag,.string S.name,.string S.func,.slice S.ea S.en S.ec,.slice S.ba S.bn S.bc,.slice S.la S.ln S.lc]:=by cases S;rfl
structure Cells7 (w:World) (b o:Nat) (v0 v1 v2 v3 v4 v5 v6:Value):Prop where
 c0:w.cell? ⟨b,o,none⟩=some v0
 c1:w.cell? ⟨b,o+1,none⟩=some v1
 c2:w.cell? ⟨b,o+2,none⟩=some v2
 c3:w.cell? ⟨b,o+3,none⟩=some v3
 c4:w.cell? ⟨b,o+4,none⟩=some v4
 c5:w.cell? ⟨b,o+5,none⟩=some v5
 c6:w.cell? ⟨b,o+6,none⟩=some v6
 lt:b < w.heap.size
theorem row_cells7 {w0 w:World} {B b o i:Nat} {v0 v1 v2 v3 v4 v5 v6:Value} (h:RowAt w0 B (some ⟨b,o,none⟩) i 7 #[v0,v1,v2,v3,v4,v5,v6]) (hp:Past w0 w):Cells7 w b (o+i*7) v0 v1 v2 v3 v4 v5 v6:=by
 obtain⟨b',o',e,-,hc⟩:=h
 simp only[Option.some.injEq,Addr.mk.injEq,and_true] at e
 obtain⟨rfl,rfl⟩:=e
 have k:=zav hp (B:=0)
 have h0:=k _ _ (Nat.zero_le _) (hc 0 v0 rfl)
 exact⟨h0,k _ _ (Nat.zero_le _) (hc 1 v1 rfl),k _ _ (Nat.zero_le _) (hc 2 v2 rfl),k _ _ (Nat.zero_le _) (hc 3 v3 rfl),k _ _ (Nat.zero_le _) (hc 4 v4 rfl),k _ _ (Nat.zero_le _) (hc 5 v5 rfl),k _ _ (Nat.zero_le _) (hc 6 v6 rfl),cell_lt h0⟩
end Go.Proofs.YtagnmppdhfmgdaaGreatDoor

namespace Go.Proofs.YtagnmppdhfmgdaaGreatDoor
open Go Go.RowKit
structure FT where
 name:ByteArray
 pa:Option Addr
 pc:Nat
 params:List ByteArray
 va:Option Addr
 vc:Nat
 vars:List (ByteArray×Int)
 ba:Option Addr
 bc:Nat
 body:List ST
def FT.cells (F:FT):Array Value:=#[.string F.name,.slice F.pa F.params.length F.pc,.slice F.va F.vars.length F.vc,.slice F.ba F.body.length F.bc]
abbrev FT.val (F:FT):Value:=.agg F.cells
def StrAt (w:World) (B:Nat) (a:Option Addr) (i:Nat) (s:ByteArray):Prop:=∃b o,a=some ⟨b,o,none⟩∧B≤b∧w.cell? ⟨b,o+i,none⟩=some (.string s)
structure FT.In (w:World) (B:Nat) (F:FT):Prop where
 pl:F.params.length≤9223372036854775807
 vl:F.vars.length≤9223372036854775807
 bl:F.body.length≤9223372036854775807
 ps:∀(i:Nat) (h:i < F.params.length),StrAt w B F.pa i F.params[i]
 vs:∀(i:Nat) (h:i < F.vars.length),RowAt w B F.va i 2 #[.string F.vars[i].1,.int .i64 F.vars[i].2]
 vr:∀(i:Nat) (h:i < F.vars.length),-9223372036854775808≤F.vars[i].2∧F.vars[i].2≤9223372036854775807
 ss:SsIn w B F.ba 0 F.body
structure FsIn (w:World) (B:Nat) (a:Option Addr) (l:List FT):Prop where
 len:l.length≤9223372036854775807
 row:∀(i:Nat) (h:i < l.length),RowAt w B a i 4 l[i].cells
 fs:∀(i:Nat) (h:i < l.length),l[i].In w B
theorem StrAt.keep {w w':World} {B:Nat} {a:Option Addr} {i:Nat} {s:ByteArray} (h:StrAt w B a i s) (hk:∀p v,B≤p.block→w.cell? p=some v→w'.cell? p=some v):StrAt w' B a i s:=by
 obtain⟨b,o,e,hB,hc⟩:=h
 exact⟨b,o,e,hB,hk _ _ hB hc⟩
theorem StrAt.mono {w:World} {B B':Nat} {a:Option Addr} {i:Nat} {s:ByteArray} (h:StrAt w B a i s) (hB:B'≤B):StrAt w B' a i s:=by
 obtain⟨b,o,e,h1,hc⟩:=h
 exact⟨b,o,e,Nat.le_trans hB h1,hc⟩
theorem FT.In.keep {w w':World} {B:Nat} {F:FT} (h:F.In w B) (hk:∀p v,B≤p.block→w.cell? p=some v→w'.cell? p=some v):F.In w' B:=
 ⟨h.pl,h.vl,h.bl,fun i hi=>(h.ps i hi).keep hk,fun i hi=>(h.vs i hi).keep hk,h.vr,h.ss.keep hk⟩
theorem FT.In.mono {w:World} {B B':Nat} {F:FT} (h:F.In w B) (hB:B'≤B):F.In w B':=
 ⟨h.pl,h.vl,h.bl,fun i hi=>(h.ps i hi).mono hB,fun i hi=>(h.vs i hi).mono hB,h.vr,h.ss.mono hB⟩
theorem FsIn.keep {w w':World} {B:Nat} {a:Option Addr} {l:List FT} (h:FsIn w B a l) (hk:∀p v,B≤p.block→w.cell? p=some v→w'.cell? p=some v):FsIn w' B a l:=
 ⟨h.len,fun i hi=>(h.row i hi).keep hk,fun i hi=>(h.fs i hi).keep hk⟩
theorem FsIn.mono {w:World} {B B':Nat} {a:Option Addr} {l:List FT} (h:FsIn w B a l) (hB:B'≤B):FsIn w B' a l:=
 ⟨h.len,fun i hi=>(h.row i hi).mono hB,fun i hi=>(h.fs i hi).mono hB⟩
theorem FsIn.on {w w':World} {B:Nat} {a:Option Addr} {l:List FT} (h:FsIn w B a l) (hb:Below w.heap.size w w'):FsIn w' B a l:=h.keep (zav hb)
def declB (d:ByteArray×Int):Bool:=nmB d.1&&decide (0≤d.2)
def FT.rightB (F:FT):Bool:=nmB F.name&&(F.params.all nmB&&(F.vars.all declB&&zak F.body))
def FT.rf (F:FT):RF:={name:=F.name.data.toList,params:=F.params.map fun s=>s.data.toList,vars:=F.vars.map fun d=>(d.1.data.toList,d.2.toNat),body:=rss F.body}
end Go.Proofs.YtagnmppdhfmgdaaGreatDoor
namespace Go.Proofs.YtagnmppdhfmgdaaGreatDoor
open Go Go.RowKit
structure Cells4 (w:World) (b o:Nat) (v0 v1 v2 v3:Value):Prop where
 c0:w.cell? ⟨b,o,none⟩=some v0
 c1:w.cell? ⟨b,o+1,none⟩=some v1
 c2:w.cell? ⟨b,o+2,none⟩=some v2
 c3:w.cell? ⟨b,o+3,none⟩=some v3
 lt:b < w.heap.size
theorem row_cells4 {w0 w:World} {B b o i:Nat} {v0 v1 v2 v3:Value} (h:RowAt w0 B (some ⟨b,o,none⟩) i 4 #[v0,v1,v2,v3]) (hp:Past w0 w):Cells4 w b (o+i*4) v0 v1 v2 v3:=by
 obtain⟨b',o',e,-,hc⟩:=h
 simp only[Option.some.injEq,Addr.mk.injEq,and_true] at e
 obtain⟨rfl,rfl⟩:=e
 have k:=zav hp (B:=0)
 have h0:=k _ _ (Nat.zero_le _) (hc 0 v0 rfl)
 exact⟨h0,k _ _ (Nat.zero_le _) (hc 1 v1 rfl),k _ _ (Nat.zero_le _) (hc 2 v2 rfl),k _ _ (Nat.zero_le _) (hc 3 v3 rfl),cell_lt h0⟩
end Go.Proofs.YtagnmppdhfmgdaaGreatDoor
namespace Go.Proofs.YtagnmppdhfmgdaaGreatDoor
open Go Go.RowKit
theorem FT.cells_eq (F:FT):F.cells=#[.string F.name,.slice F.pa F.params.length F.pc,.slice F.va F.vars.length F.vc,.slice F.ba F.body.length F.bc]:=rfl
theorem FT.val_eq (F:FT):F.val=.agg #[.string F.name,.slice F.pa F.params.length F.pc,.slice F.va F.vars.length F.vc,.slice F.ba F.body.length F.bc]:=rfl
end Go.Proofs.YtagnmppdhfmgdaaGreatDoor

namespace Go.Proofs.YtagnmppdhfmgdaaGreatDoor
open Go Go.RowKit
mutual
def ST.cnt:ST→Nat
 | .mk _ _ _ _ _ _ _ _ _ b _ _ l=>1+(cnts b+cnts l)
def cnts:List ST→Nat
 | []=>0
 | S :: l=>S.cnt+cnts l
end
def ST.body:ST→List ST
 | .mk _ _ _ _ _ _ _ _ _ b _ _ _=>b
def ST.els:ST→List ST
 | .mk _ _ _ _ _ _ _ _ _ _ _ _ l=>l
theorem zb3 (S:ST):S.cnt=1+(cnts S.body+cnts S.els):=by cases S;rw[ST.cnt];rfl
theorem bn_is (S:ST):S.bn=S.body.length:=by cases S;rfl
theorem ln_is (S:ST):S.ln=S.els.length:=by cases S;rfl
theorem in_body {w:World} {B:Nat} {S:ST} (h:S.In w B):SsIn w B S.ba 0 S.body∧S.body.length≤9223372036854775807:=by
 cases S;rw[ST.In] at h;exact⟨h.2.2.2.1,h.2.1.2.1⟩
theorem in_els {w:World} {B:Nat} {S:ST} (h:S.In w B):SsIn w B S.la 0 S.els∧S.els.length≤9223372036854775807:=by
 cases S;rw[ST.In] at h;exact⟨h.2.2.2.2,h.2.1.2.2⟩
theorem zcy (S:ST):Szs S.body < S.sz∧Szs S.els < S.sz:=by
 cases S;simp only[ST.body,ST.els,ST.sz];omega
end Go.Proofs.YtagnmppdhfmgdaaGreatDoor
namespace Go.Proofs.YtagnmppdhfmgdaaGreatDoor
open Go Go.RowKit
theorem Pow.on {w0 w:World} (H:Pow w0) (h:Past w0 w):Pow w:=fun w' h'=>H w' (h.on h')
end Go.Proofs.YtagnmppdhfmgdaaGreatDoor
namespace Go.Proofs.YtagnmppdhfmgdaaGreatDoor
open Go Go.RowKit
end Go.Proofs.YtagnmppdhfmgdaaGreatDoor
namespace Go.Proofs.YtagnmppdhfmgdaaGreatDoor
open Go Go.RowKit
end Go.Proofs.YtagnmppdhfmgdaaGreatDoor
namespace Go.Proofs.YtagnmppdhfmgdaaGreatDoor
open Go Go.RowKit
theorem gPow:Tryz.prog.globalNamed "internal/strconv.uint64pow10"=some 2:=by kernel_rfl
theorem laid_facts {l:List (String×DataW Unit)} {W:World} (h:laidMet Tryz.prog l W) (hm:("internal/strconv.uint64pow10",(Lib.tabData .u64 Lib.pow10Tab:DataW Unit))∈l:=by first | exact .head _ | exact .tail _ (.head _) | exact .tail _ (.tail _ (.head _))):Pow W:=by
 obtain⟨g,ty,cs,fuel,q,hg,hty,hv,hd⟩:=Lib.laidMet.reads h hm
 obtain rfl:=Option.some.inj (gPow.symm.trans hg)
 obtain rfl:231=ty:=Option.some.inj ((show(Tryz.prog.globals[2]?).map (·.type)=some 231 by kernel_rfl).symm.trans hty)
 refine Lib.tabBelow_of_tabIs ?_
 unfold Lib.TabIs
 rw[hv,←Lib.cells_of_tab Tryz.underlying231 Tryz.underlying120 (by kernel_rfl) (by kernel_rfl) hd]
end Go.Proofs.YtagnmppdhfmgdaaGreatDoor

namespace Go.Proofs.YtagnmppdhfmgdaaGreatDoor.Fl
open Go Go.RowKit Go.Proofs.YtagnmppdhfmgdaaGreatDoor
structure NR where
 S:ST
 par:Int
 fol:Int
 brk:Int
 agn:Int
 beh:Int
 oth:Int
def NR.raw (n:NR):NR:={n with fol:=0,brk:=0,agn:=0}
def NR.cells (n:NR):List Value:=[.int .i64 n.S.kind,.int .i64 n.S.tag,.string n.S.name,.string n.S.func,.slice n.S.ea n.S.en n.S.ec,.slice n.S.ba n.S.bn n.S.bc,.slice n.S.la n.S.ln n.S.lc,.int .i64 n.fol,.int .i64 n.brk,.int .i64 n.agn,.int .i64 n.beh,.int .i64 n.oth]
theorem NR.len (n:NR):n.cells.length=12:=rfl
mutual
def layS (p:Nat) (par fol brk agn beh:Int):ST→List NR
 | .mk k t n f ea ec e ba bc b la lc l =>
  ⟨.mk k t n f ea ec e ba bc b la lc l,par,fol,brk,agn,beh,((p+1+cnts b:Nat):Int)⟩ ::
   (lay (p+1) p (if k=5 then p else fol) (if k=5 then fol else brk) (if k=5 then p else agn) b ++
    lay (p+1+cnts b) p (if k=5 then p else fol) (if k=5 then fol else brk) (if k=5 then p else agn) l)
def lay (p:Nat) (par fol brk agn:Int):List ST→List NR
 | []=>[]
 | S :: r=>layS p par (if r=[] then fol else ((p+S.cnt:Nat):Int)) brk agn (if r=[] then -1 else ((p+S.cnt:Nat):Int)) S++lay (p+S.cnt) par fol brk agn r
end
theorem zcS (p:Nat) (par fol brk agn beh:Int) (S:ST):layS p par fol brk agn beh S=⟨S,par,fol,brk,agn,beh,((p+1+cnts S.body:Nat):Int)⟩ ::
   (lay (p+1) p (if S.kind=5 then p else fol) (if S.kind=5 then fol else brk) (if S.kind=5 then p else agn) S.body ++
    lay (p+1+cnts S.body) p (if S.kind=5 then p else fol) (if S.kind=5 then fol else brk) (if S.kind=5 then p else agn) S.els):=by
 cases S;rw[layS];rfl
mutual
theorem zbn (p:Nat) (par fol brk agn beh:Int):∀S:ST,(layS p par fol brk agn beh S).length=S.cnt
 | .mk k t n f ea ec e ba bc b la lc l=>by
  rw[layS,ST.cnt,List.length_cons,List.length_append,zbq,zbq];omega
theorem zbq (p:Nat) (par fol brk agn:Int):∀l:List ST,(lay p par fol brk agn l).length=cnts l
 | []=>by rw[lay,cnts];rfl
 | S :: r=>by rw[lay,cnts,List.length_append,zbn,zbq]
end
theorem cnts_take {l:List ST} {n:Nat} (hn:n < l.length):cnts (l.take (n+1))=cnts (l.take n)+l[n].cnt:=by
 induction l generalizing n with
 | nil=>simp at hn
 | cons S l ih =>
  cases n with
  | zero=>simp[cnts]
  | succ n =>
   have:=ih (n:=n) (by simpa using hn)
   simp only[List.take_succ_cons,cnts,List.getElem_cons_succ] at this ⊢
   omega
theorem zb8 (l:List ST):∀n,cnts (l.take n)≤cnts l:=by
 induction l with
 | nil=>intro n;simp[cnts]
 | cons S l ih =>
  intro n
  cases n with
  | zero=>simp[cnts]
  | succ n=>have:=ih n;simp only[List.take_succ_cons,cnts];omega
theorem lay_step (par fol brk agn:Int):∀(l:List ST) (p n:Nat) (hn:n < l.length),
  (lay p par fol brk agn l).take (cnts (l.take (n+1)))=(lay p par fol brk agn l).take (cnts (l.take n)) ++
   layS (p+cnts (l.take n)) par (if n+1 < l.length then ((p+cnts (l.take n)+l[n].cnt:Nat):Int) else fol) brk agn (if n+1 < l.length then ((p+cnts (l.take n)+l[n].cnt:Nat):Int) else -1) l[n]
 | [],p,n,hn=>by simp at hn
 | S :: r,p,0,_=>by
  have e1:cnts ((S :: r).take 1)=S.cnt:=by simp[cnts]
  rw[e1]
  simp only[List.take_zero,cnts,Nat.add_zero,List.getElem_cons_zero,List.nil_append,List.length_cons,Nat.zero_add]
  rw[lay,List.take_append_of_le_length (by rw[zbn];exact Nat.le_refl _),List.take_of_length_le (by rw[zbn];exact Nat.le_refl _)]
  cases r with
  | nil=>simp
  | cons T r=>simp
 | S :: r,p,n+1,hn=>by
  have ih:=lay_step par fol brk agn r (p+S.cnt) n (by simpa using hn)
  simp only[List.take_succ_cons,cnts,List.getElem_cons_succ,List.length_cons] at ih ⊢
  rw[lay,List.take_append,List.take_append,zbn,List.take_of_length_le (by rw[zbn];omega),List.take_of_length_le (l:=layS _ _ _ _ _ _ S) (by rw[zbn];omega)]
  rw[show S.cnt+cnts (List.take (n+1) r) - S.cnt=cnts (List.take (n+1) r) by omega,show S.cnt+cnts (List.take n r) - S.cnt=cnts (List.take n r) by omega,ih,List.append_assoc]
  congr 2
  have e:p+S.cnt+cnts (List.take n r)=p+(S.cnt+cnts (List.take n r)):=by omega
  rw[e]
  have e2:(n+1 < r.length)=(n+1+1 < r.length+1):=by simp
  simp only[e2]
theorem lay_all (par fol brk agn:Int) (l:List ST) (p:Nat):(lay p par fol brk agn l).take (cnts (l.take l.length))=lay p par fol brk agn l:=by
 rw[List.take_length,List.take_of_length_le (by rw[zbq];exact Nat.le_refl _)]
def endP (x:Int) (N:List NR) (j:Int):Int×Int×Int:=
 if j=-1 then (x,x,x)
 else match N[j.toNat]? with
  | some m=>if m.S.kind=5 then (j,m.fol,j) else (m.fol,m.brk,m.agn)
  | none=>(x,x,x)
structure NR.Fits (x:Int) (N:List NR) (i:Nat) (n:NR):Prop where
 par:n.par=-1∨(0≤n.par∧n.par < i)
 beh:n.beh=-1∨((i:Int) < n.beh∧n.beh < x)
 pl:(n.fol,n.brk,n.agn)=(if n.beh=-1 then (endP x N n.par).1 else n.beh,(endP x N n.par).2)
 kid:n.par=-1∨∃m,N[n.par.toNat]?=some m∧(0 < m.S.bn∨0 < m.S.ln)
theorem endP_at (x:Int) {N:List NR} {p:Nat} {m:NR} (h:N[p]?=some m):endP x N (p:Int)=(if m.S.kind=5 then (p:Int) else m.fol,if m.S.kind=5 then m.fol else m.brk,if m.S.kind=5 then (p:Int) else m.agn):=by
 unfold endP
 rw[if_neg (by omega),Int.toNat_natCast,h]
 simp only
 split<;>rfl
theorem lay_fits (x:Int) (N:List NR):∀(m:Nat) (l:List ST),Szs l < m→∀(p:Nat) (par fol brk agn:Int),(∀i,i < cnts l→N[p+i]?=(lay p par fol brk agn l)[i]?)→((p+cnts l:Nat):Int)≤x→(par=-1∨(0≤par∧par < p))→(par=-1∨l=[]∨∃m,N[par.toNat]?=some m∧(0 < m.S.bn∨0 < m.S.ln))→endP x N par=(fol,brk,agn) →
  ∀(i:Nat) (n:NR),(lay p par fol brk agn l)[i]?=some n→n.Fits x N (p+i):=by
 intro m
 induction m with
 | zero=>intro l h;omega
 | succ m ih =>
  intro l
  induction l with
  | nil=>intro _ p par fol brk agn _ _ _ _ _ i n h;rw[lay] at h;simp at h
  | cons S r ihr =>
   intro hm p par fol brk agn hN hx hpar hkid hend i n hn
   rw[Szs] at hm
   rw[cnts] at hN hx
   have hcp:=zb3 S
   obtain⟨fl,hfl⟩:∃fl:Int,(if r=[] then fol else ((p+S.cnt:Nat):Int))=fl:=⟨_,rfl⟩
   obtain⟨bh,hbh⟩:∃bh:Int,(if r=[] then -1 else ((p+S.cnt:Nat):Int))=bh:=⟨_,rfl⟩
   rw[lay,hfl,hbh] at hn hN
   have hNS:∀j,j < S.cnt→N[p+j]?=(layS p par fl brk agn bh S)[j]?:=fun j hj=>by
    rw[hN j (by omega),List.getElem?_append_left (by rw[zbn];exact hj)]
   have hhead:N[p]?=some ⟨S,par,fl,brk,agn,bh,((p+1+cnts S.body:Nat):Int)⟩:=by
    have:=hNS 0 (by omega)
    rw[zcS] at this
    simpa using this
   have hcr:r=[]∨1≤cnts r:=by
    cases r with
    | nil=>exact .inl rfl
    | cons T r=>right;rw[cnts];have:=zb3 T;omega
   rcases Nat.lt_or_ge i S.cnt with hi | hi
   ·rw[List.getElem?_append_left (by rw[zbn];exact hi),zcS] at hn
    cases i with
    | zero =>
     simp only[List.getElem?_cons_zero,Option.some.injEq] at hn
     subst hn
     have hkid':par=-1∨∃m,N[par.toNat]?=some m∧(0 < m.S.bn∨0 < m.S.ln):=by
      rcases hkid with h | h | h
      ·exact .inl h
      ·cases h
      ·exact .inr h
     refine⟨hpar,?_,?_,hkid'⟩
     ·show bh=-1∨_
      rcases hcr with rfl | hr
      ·left;rw[←hbh,if_pos rfl]
      ·by_cases hr0:r=[]
       ·left;rw[←hbh,if_pos hr0]
       ·right
        show((p+0:Nat):Int) < bh∧bh < x
        rw[←hbh,if_neg hr0];omega
     ·show(fl,brk,agn)=(if bh=-1 then (endP x N par).1 else bh,(endP x N par).2)
      rw[hend,←hfl,←hbh]
      by_cases hr0:r=[]
      ·rw[if_pos hr0,if_pos hr0,if_pos rfl]
      ·rw[if_neg hr0,if_neg hr0,if_neg (by omega)]
    | succ i =>
     rw[List.getElem?_cons_succ] at hn
     have hpe:=endP_at x hhead
     simp only at hpe
     rcases Nat.lt_or_ge i (cnts S.body) with hb | hb
     ·rw[List.getElem?_append_left (by rw[zbq];exact hb)] at hn
      have:=ih S.body (by have:=(zcy S).1;omega) (p+1) p _ _ _ (fun j hj=>by
       have h1:=hNS (j+1) (by omega)
       rw[zcS,List.getElem?_cons_succ,List.getElem?_append_left (by rw[zbq];exact hj)] at h1
       rw[show p+1+j=p+(j+1) by omega];exact h1) (by omega) (.inr ⟨by omega,by omega⟩) (by
       right
       cases hb:S.body with
       | nil=>exact .inl rfl
       | cons T r=>exact .inr ⟨_,by rw[Int.toNat_natCast];exact hhead,.inl (by show 0 < S.bn;rw[bn_is,hb];simp)⟩) hpe i n hn
      rw[show p+(i+1)=p+1+i by omega]
      exact this
     ·rw[List.getElem?_append_right (by rw[zbq];exact hb),zbq] at hn
      have:=ih S.els (by have:=(zcy S).2;omega) (p+1+cnts S.body) p _ _ _ (fun j hj=>by
       have h1:=hNS (cnts S.body+j+1) (by omega)
       rw[zcS,List.getElem?_cons_succ,List.getElem?_append_right (by rw[zbq];omega),zbq,show cnts S.body+j - cnts S.body=j by omega] at h1
       rw[show p+1+cnts S.body+j=p+(cnts S.body+j+1) by omega];exact h1) (by omega) (.inr ⟨by omega,by omega⟩) (by
       right
       cases hb:S.els with
       | nil=>exact .inl rfl
       | cons T r=>exact .inr ⟨_,by rw[Int.toNat_natCast];exact hhead,.inr (by show 0 < S.ln;rw[ln_is,hb];simp)⟩) hpe (i - cnts S.body) n hn
      rw[show p+(i+1)=p+1+cnts S.body+(i - cnts S.body) by omega]
      exact this
   ·rw[List.getElem?_append_right (by rw[zbn];exact hi),zbn] at hn
    have:=ihr (by have:=zcy S;omega) (p+S.cnt) par fol brk agn (fun j hj=>by
     have h1:=hN (S.cnt+j) (by omega)
     rw[List.getElem?_append_right (by rw[zbn];omega),zbn,show S.cnt+j - S.cnt=j by omega] at h1
     rw[show p+S.cnt+j=p+(S.cnt+j) by omega];exact h1) (by omega) (by omega) (by
     rcases hkid with h | h | h
     ·exact .inl h
     ·cases h
     ·exact .inr (.inr h)) hend (i - S.cnt) n hn
    rw[show p+i=p+S.cnt+(i - S.cnt) by omega]
    exact this
def zaF (l:List ST):List NR:=lay 0 (-1) (cnts l:Nat) (cnts l:Nat) (cnts l:Nat) l
theorem zaG (l:List ST):(zaF l).length=cnts l:=zbq ..
theorem zdz (l:List ST) {i:Nat} {n:NR} (h:(zaF l)[i]?=some n):n.Fits (cnts l:Nat) (zaF l) i:=by
 have:=lay_fits (cnts l:Nat) (zaF l) _ l (Nat.lt_succ_self _) 0 (-1) (cnts l:Nat) (cnts l:Nat) (cnts l:Nat) (fun i _=>by rw[Nat.zero_add];rfl) (by omega) (.inl rfl) (.inl rfl) rfl i n h
 rw[Nat.zero_add] at this
 exact this
def zdq (x:Int) (i:Nat) (n:NR):List Int:=
 if n.S.kind=4 then [if n.S.bn=0 then n.fol else (i:Int)+1,if n.S.ln=0 then n.fol else n.oth]
 else if n.S.kind=5 then [if n.S.bn=0 then (i:Int) else (i:Int)+1,n.fol]
 else if n.S.kind=6 then [n.brk] else if n.S.kind=7 then [n.agn] else if n.S.kind=8 then [x] else [n.fol]
def othR (n:NR):Int:=if n.S.kind=6∨n.S.kind=7∨n.S.kind=8 then n.fol else -1
def zcr (l:List ST):List (List Int):=(zaF l).mapIdx (zdq (cnts l:Nat))++[[]]
def zbQ (l:List ST):List Int:=(zaF l).map othR++[-1]
def insG (l:List ST):List Int:=(zaF l).map NR.par++[-1]
def zdk (ns:List (List Int)) (os:List Int) (jumps:Bool):List (List Int):=ns.mapIdx fun i r=>if jumps=true∧0≤os.getD i (-1) then r++[os.getD i (-1)] else r
def backR (ns:List (List Int)) (n:Nat):List Int:=((List.range ns.length).filter fun k=>decide ((n:Int)∈ns.getD k [])).map Int.ofNat
def backG (ns:List (List Int)):List (List Int):=(List.range ns.length).map (backR ns)
end Go.Proofs.YtagnmppdhfmgdaaGreatDoor.Fl
