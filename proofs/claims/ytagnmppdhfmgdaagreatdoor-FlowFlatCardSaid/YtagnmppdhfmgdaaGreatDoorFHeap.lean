/- The graph's builder as it lies in memory: a block of four cells, its rows of nodes and of numbers. -/
import Derived.Test.YtagnmppdhfmgdaaGreatDoorTLaid
import Derived.Test.YtagnmppdhfmgdaaGreatDoorTMade
import Derived.Lib.SmallJoins
import Derived.Shelf.Abstract
import Derived.Deep.RegionLaw
import Derived.Deep.AppendLies
import Derived.Deep.RegionHeld3
set_option linter.unusedSimpArgs false
set_option linter.unusedVariables false
set_option maxHeartbeats 8000000
set_option maxRecDepth 100000
namespace Go.Proofs.YtagnmppdhfmgdaaGreatDoor.Fl
open Go Go.RowKit Go.Proofs.YtagnmppdhfmgdaaGreatDoor
structure NR where
 S:ST
 par:Int
 fol:Int
 brk:Int
 agn:Int
 beh:Int
 oth:Int
def NR.raw (n:NR):NR:={n with fol:=0,brk:=0,agn:=0}
def NR.cells (n:NR):List Value:=[.int .i64 n.S.kind,.int .i64 n.S.tag,.string n.S.name,.string n.S.func,.slice n.S.ea n.S.en n.S.ec,.slice n.S.ba n.S.bn n.S.bc,.slice n.S.la n.S.ln n.S.lc,.int .i64 n.fol,.int .i64 n.brk,.int .i64 n.agn,.int .i64 n.beh,.int .i64 n.oth]
theorem NR.len (n:NR):n.cells.length=12:=rfl
mutual
def layS (p:Nat) (par fol brk agn beh:Int):ST→List NR
 | .mk k t n f ea ec e ba bc b la lc l =>
  ⟨.mk k t n f ea ec e ba bc b la lc l,par,fol,brk,agn,beh,((p+1+cnts b:Nat):Int)⟩ ::
   (lay (p+1) p (if k=5 then p else fol) (if k=5 then fol else brk) (if k=5 then p else agn) b ++
    lay (p+1+cnts b) p (if k=5 then p else fol) (if k=5 then fol else brk) (if k=5 then p else agn) l)
def lay (p:Nat) (par fol brk agn:Int):List ST→List NR
 | []=>[]
 | S :: r=>layS p par (if r=[] then fol else ((p+S.cnt:Nat):Int)) brk agn (if r=[] then -1 else ((p+S.cnt:Nat):Int)) S++lay (p+S.cnt) par fol brk agn r
end
theorem zct (p:Nat) (par fol brk agn beh:Int) (S:ST):layS p par fol brk agn beh S=⟨S,par,fol,brk,agn,beh,((p+1+cnts S.body:Nat):Int)⟩ ::
   (lay (p+1) p (if S.kind=5 then p else fol) (if S.kind=5 then fol else brk) (if S.kind=5 then p else agn) S.body ++
    lay (p+1+cnts S.body) p (if S.kind=5 then p else fol) (if S.kind=5 then fol else brk) (if S.kind=5 then p else agn) S.els):=by
 cases S;rw[layS];rfl
mutual
theorem za0 (p:Nat) (par fol brk agn beh:Int):∀S:ST,(layS p par fol brk agn beh S).length=S.cnt
 | .mk k t n f ea ec e ba bc b la lc l=>by
  rw[layS,ST.cnt,List.length_cons,List.length_append,zbs,zbs];omega
theorem zbs (p:Nat) (par fol brk agn:Int):∀l:List ST,(lay p par fol brk agn l).length=cnts l
 | []=>by rw[lay,cnts];rfl
 | S :: r=>by rw[lay,cnts,List.length_append,za0,zbs]
end
theorem zdU {l:List ST} {n:Nat} (hn:n < l.length):cnts (l.take (n+1))=cnts (l.take n)+l[n].cnt:=by
 induction l generalizing n with
 | nil=>simp at hn
 | cons S l ih =>
  cases n with
  | zero=>simp[cnts]
  | succ n =>
   have:=ih (n:=n) (by simpa using hn)
   simp only[List.take_succ_cons,cnts,List.getElem_cons_succ] at this ⊢
   omega
theorem zbV (l:List ST):∀n,cnts (l.take n)≤cnts l:=by
 induction l with
 | nil=>intro n;simp[cnts]
 | cons S l ih =>
  intro n
  cases n with
  | zero=>simp[cnts]
  | succ n=>have:=ih n;simp only[List.take_succ_cons,cnts];omega
theorem lay_step (par fol brk agn:Int):∀(l:List ST) (p n:Nat) (hn:n < l.length),
  (lay p par fol brk agn l).take (cnts (l.take (n+1)))=(lay p par fol brk agn l).take (cnts (l.take n)) ++
   layS (p+cnts (l.take n)) par (if n+1 < l.length then ((p+cnts (l.take n)+l[n].cnt:Nat):Int) else fol) brk agn (if n+1 < l.length then ((p+cnts (l.take n)+l[n].cnt:Nat):Int) else -1) l[n]
 | [],p,n,hn=>by simp at hn
 | S :: r,p,0,_=>by
  have e1:cnts ((S :: r).take 1)=S.cnt:=by simp[cnts]
  rw[e1]
  simp only[List.take_zero,cnts,Nat.add_zero,List.getElem_cons_zero,List.nil_append,List.length_cons,Nat.zero_add]
  rw[lay,List.take_append_of_le_length (by rw[za0];exact Nat.le_refl _),List.take_of_length_le (by rw[za0];exact Nat.le_refl _)]
  cases r with
  | nil=>simp
  | cons T r=>simp
 | S :: r,p,n+1,hn=>by
  have ih:=lay_step par fol brk agn r (p+S.cnt) n (by simpa using hn)
  simp only[List.take_succ_cons,cnts,List.getElem_cons_succ,List.length_cons] at ih ⊢
  rw[lay,List.take_append,List.take_append,za0,List.take_of_length_le (by rw[za0];omega),List.take_of_length_le (l:=layS _ _ _ _ _ _ S) (by rw[za0];omega)]
  rw[show S.cnt+cnts (List.take (n+1) r) - S.cnt=cnts (List.take (n+1) r) by omega,show S.cnt+cnts (List.take n r) - S.cnt=cnts (List.take n r) by omega,ih,List.append_assoc]
  congr 2
  have e:p+S.cnt+cnts (List.take n r)=p+(S.cnt+cnts (List.take n r)):=by omega
  rw[e]
  have e2:(n+1 < r.length)=(n+1+1 < r.length+1):=by simp
  simp only[e2]
theorem lay_all (par fol brk agn:Int) (l:List ST) (p:Nat):(lay p par fol brk agn l).take (cnts (l.take l.length))=lay p par fol brk agn l:=by
 rw[List.take_length,List.take_of_length_le (by rw[zbs];exact Nat.le_refl _)]
def endP (x:Int) (N:List NR) (j:Int):Int×Int×Int:=
 if j=-1 then (x,x,x)
 else match N[j.toNat]? with
  | some m=>if m.S.kind=5 then (j,m.fol,j) else (m.fol,m.brk,m.agn)
  | none=>(x,x,x)
structure NR.Fits (x:Int) (N:List NR) (i:Nat) (n:NR):Prop where
 par:n.par=-1∨(0≤n.par∧n.par < i)
 beh:n.beh=-1∨((i:Int) < n.beh∧n.beh < x)
 pl:(n.fol,n.brk,n.agn)=(if n.beh=-1 then (endP x N n.par).1 else n.beh,(endP x N n.par).2)
 kid:n.par=-1∨∃m,N[n.par.toNat]?=some m∧(0 < m.S.bn∨0 < m.S.ln)
theorem endP_at (x:Int) {N:List NR} {p:Nat} {m:NR} (h:N[p]?=some m):endP x N (p:Int)=(if m.S.kind=5 then (p:Int) else m.fol,if m.S.kind=5 then m.fol else m.brk,if m.S.kind=5 then (p:Int) else m.agn):=by
 unfold endP
 rw[if_neg (by omega),Int.toNat_natCast,h]
 simp only
 split<;>rfl
theorem lay_fits (x:Int) (N:List NR):∀(m:Nat) (l:List ST),Szs l < m→∀(p:Nat) (par fol brk agn:Int),(∀i,i < cnts l→N[p+i]?=(lay p par fol brk agn l)[i]?)→((p+cnts l:Nat):Int)≤x→(par=-1∨(0≤par∧par < p))→(par=-1∨l=[]∨∃m,N[par.toNat]?=some m∧(0 < m.S.bn∨0 < m.S.ln))→endP x N par=(fol,brk,agn) →
  ∀(i:Nat) (n:NR),(lay p par fol brk agn l)[i]?=some n→n.Fits x N (p+i):=by
 intro m
 induction m with
 | zero=>intro l h;omega
 | succ m ih =>
  intro l
  induction l with
  | nil=>intro _ p par fol brk agn _ _ _ _ _ i n h;rw[lay] at h;simp at h
  | cons S r ihr =>
   intro hm p par fol brk agn hN hx hpar hkid hend i n hn
   rw[Szs] at hm
   rw[cnts] at hN hx
   have hcp:=zbP S
   obtain⟨fl,hfl⟩:∃fl:Int,(if r=[] then fol else ((p+S.cnt:Nat):Int))=fl:=⟨_,rfl⟩
   obtain⟨bh,hbh⟩:∃bh:Int,(if r=[] then -1 else ((p+S.cnt:Nat):Int))=bh:=⟨_,rfl⟩
   rw[lay,hfl,hbh] at hn hN
   have hNS:∀j,j < S.cnt→N[p+j]?=(layS p par fl brk agn bh S)[j]?:=fun j hj=>by
    rw[hN j (by omega),List.getElem?_append_left (by rw[za0];exact hj)]
   have hhead:N[p]?=some ⟨S,par,fl,brk,agn,bh,((p+1+cnts S.body:Nat):Int)⟩:=by
    have:=hNS 0 (by omega)
    rw[zct] at this
    simpa using this
   have hcr:r=[]∨1≤cnts r:=by
    cases r with
    | nil=>exact .inl rfl
    | cons T r=>right;rw[cnts];have:=zbP T;omega
   rcases Nat.lt_or_ge i S.cnt with hi | hi
   ·rw[List.getElem?_append_left (by rw[za0];exact hi),zct] at hn
    cases i with
    | zero =>
     simp only[List.getElem?_cons_zero,Option.some.injEq] at hn
     subst hn
     have hkid':par=-1∨∃m,N[par.toNat]?=some m∧(0 < m.S.bn∨0 < m.S.ln):=by
      rcases hkid with h | h | h
      ·exact .inl h
      ·cases h
      ·exact .inr h
     refine⟨hpar,?_,?_,hkid'⟩
     ·show bh=-1∨_
      rcases hcr with rfl | hr
      ·left;rw[←hbh,if_pos rfl]
      ·by_cases hr0:r=[]
       ·left;rw[←hbh,if_pos hr0]
       ·right
        show((p+0:Nat):Int) < bh∧bh < x
        rw[←hbh,if_neg hr0];omega
     ·show(fl,brk,agn)=(if bh=-1 then (endP x N par).1 else bh,(endP x N par).2)
      rw[hend,←hfl,←hbh]
      by_cases hr0:r=[]
      ·rw[if_pos hr0,if_pos hr0,if_pos rfl]
      ·rw[if_neg hr0,if_neg hr0,if_neg (by omega)]
    | succ i =>
     rw[List.getElem?_cons_succ] at hn
     have hpe:=endP_at x hhead
     simp only at hpe
     rcases Nat.lt_or_ge i (cnts S.body) with hb | hb
     ·rw[List.getElem?_append_left (by rw[zbs];exact hb)] at hn
      have:=ih S.body (by have:=(zcc S).1;omega) (p+1) p _ _ _ (fun j hj=>by
       have h1:=hNS (j+1) (by omega)
       rw[zct,List.getElem?_cons_succ,List.getElem?_append_left (by rw[zbs];exact hj)] at h1
       rw[show p+1+j=p+(j+1) by omega];exact h1) (by omega) (.inr ⟨by omega,by omega⟩) (by
       right
       cases hb:S.body with
       | nil=>exact .inl rfl
       | cons T r=>exact .inr ⟨_,by rw[Int.toNat_natCast];exact hhead,.inl (by show 0 < S.bn;rw[bn_is,hb];simp)⟩) hpe i n hn
      rw[show p+(i+1)=p+1+i by omega]
      exact this
     ·rw[List.getElem?_append_right (by rw[zbs];exact hb),zbs] at hn
      have:=ih S.els (by have:=(zcc S).2;omega) (p+1+cnts S.body) p _ _ _ (fun j hj=>by
       have h1:=hNS (cnts S.body+j+1) (by omega)
       rw[zct,List.getElem?_cons_succ,List.getElem?_append_right (by rw[zbs];omega),zbs,show cnts S.body+j - cnts S.body=j by omega] at h1
       rw[show p+1+cnts S.body+j=p+(cnts S.body+j+1) by omega];exact h1) (by omega) (.inr ⟨by omega,by omega⟩) (by
       right
       cases hb:S.els with
       | nil=>exact .inl rfl
       | cons T r=>exact .inr ⟨_,by rw[Int.toNat_natCast];exact hhead,.inr (by show 0 < S.ln;rw[ln_is,hb];simp)⟩) hpe (i - cnts S.body) n hn
      rw[show p+(i+1)=p+1+cnts S.body+(i - cnts S.body) by omega]
      exact this
   ·rw[List.getElem?_append_right (by rw[za0];exact hi),za0] at hn
    have:=ihr (by have:=zcc S;omega) (p+S.cnt) par fol brk agn (fun j hj=>by
     have h1:=hN (S.cnt+j) (by omega)
     rw[List.getElem?_append_right (by rw[za0];omega),za0,show S.cnt+j - S.cnt=j by omega] at h1
     rw[show p+S.cnt+j=p+(S.cnt+j) by omega];exact h1) (by omega) (by omega) (by
     rcases hkid with h | h | h
     ·exact .inl h
     ·cases h
     ·exact .inr (.inr h)) hend (i - S.cnt) n hn
    rw[show p+i=p+S.cnt+(i - S.cnt) by omega]
    exact this
def zaY (l:List ST):List NR:=lay 0 (-1) (cnts l:Nat) (cnts l:Nat) (cnts l:Nat) l
theorem zaG (l:List ST):(zaY l).length=cnts l:=zbs ..
theorem nodes_fit (l:List ST) {i:Nat} {n:NR} (h:(zaY l)[i]?=some n):n.Fits (cnts l:Nat) (zaY l) i:=by
 have:=lay_fits (cnts l:Nat) (zaY l) _ l (Nat.lt_succ_self _) 0 (-1) (cnts l:Nat) (cnts l:Nat) (cnts l:Nat) (fun i _=>by rw[Nat.zero_add];rfl) (by omega) (.inl rfl) (.inl rfl) rfl i n h
 rw[Nat.zero_add] at this
 exact this
def nextR (x:Int) (i:Nat) (n:NR):List Int:=
 if n.S.kind=4 then [if n.S.bn=0 then n.fol else (i:Int)+1,if n.S.ln=0 then n.fol else n.oth]
 else if n.S.kind=5 then [if n.S.bn=0 then (i:Int) else (i:Int)+1,n.fol]
 else if n.S.kind=6 then [n.brk] else if n.S.kind=7 then [n.agn] else if n.S.kind=8 then [x] else [n.fol]
def othR (n:NR):Int:=if n.S.kind=6∨n.S.kind=7∨n.S.kind=8 then n.fol else -1
def zcV (l:List ST):List (List Int):=(zaY l).mapIdx (nextR (cnts l:Nat))++[[]]
def zce (l:List ST):List Int:=(zaY l).map othR++[-1]
def insG (l:List ST):List Int:=(zaY l).map NR.par++[-1]
def zdw (ns:List (List Int)) (os:List Int) (jumps:Bool):List (List Int):=ns.mapIdx fun i r=>if jumps=true∧0≤os.getD i (-1) then r++[os.getD i (-1)] else r
def backR (ns:List (List Int)) (n:Nat):List Int:=((List.range ns.length).filter fun k=>decide ((n:Int)∈ns.getD k [])).map Int.ofNat
def backG (ns:List (List Int)):List (List Int):=(List.range ns.length).map (backR ns)
end Go.Proofs.YtagnmppdhfmgdaaGreatDoor.Fl

namespace Go.Proofs.YtagnmppdhfmgdaaGreatDoor.Fl
open Go Go.RowKit Go.Proofs.YtagnmppdhfmgdaaGreatDoor
theorem node_info:(Tryz.prog.info? 88).map (fun i=>(i.zero,i.size,i.bytes))=some (some (.agg #[.int .i64 0,.int .i64 0,.string {data:=#[]},.string {data:=#[]},.slice none 0 0,.slice none 0 0,.slice none 0 0,.int .i64 0,.int .i64 0,.int .i64 0,.int .i64 0,.int .i64 0]),12,160):=by kernel_rfl
theorem zcT:(Tryz.prog.info? 3).map (fun i=>(i.zero,i.size,i.bytes))=some (some (.int .i64 0),1,8):=by kernel_rfl
theorem ints_info:(Tryz.prog.info? 29).map (fun i=>(i.zero,i.size,i.bytes))=some (some (.slice none 0 0),1,24):=by kernel_rfl
abbrev ints (l:List Int):List Value:=l.map (Value.int .i64)
abbrev BBox (w:World) (b:Nat) (vx vo vi vn:Value):Prop:=w.heap[b]?=some (.cells #[vx,vo,vi,vn] 77 (0,0))
def Bd (B b:Nat) (ns:List NR) (w:World):Prop:=B≤b∧∃vi vn,BBox w b (.slice none 0 0) (.slice none 0 0) vi vn ∧
 w.ownsRow B 3 1 vi ns.length (ints (ns.map NR.par))∧w.ownsRow B 88 12 vn ns.length (ns.flatMap NR.cells)
theorem zau {w:World} {b:Nat} {vx vo vi vn:Value} (h:BBox w b vx vo vi vn):w.cell? ⟨b,0,none⟩=some vx∧w.cell? ⟨b,1,none⟩=some vo∧w.cell? ⟨b,2,none⟩=some vi∧w.cell? ⟨b,3,none⟩=some vn∧(∀k,w.frozen? ⟨b,k,none⟩=false)∧b < w.heap.size:=
 ⟨zab h rfl,zab h rfl,zab h rfl,zab h rfl,fun k=>zac h,lt_of_block h⟩
theorem zdV:∀(ns:List NR) (i j:Nat) (n:NR),ns[i]?=some n→j < 12→(ns.flatMap NR.cells)[i*12+j]?=n.cells[j]?
 | [],i,j,n,h,_=>by simp at h
 | m :: ns,0,j,n,h,hj=>by
  simp only[List.getElem?_cons_zero,Option.some.injEq] at h
  subst h
  rw[List.flatMap_cons,List.getElem?_append_left (by rw[NR.len];omega)]
  simp
 | m :: ns,i+1,j,n,h,hj=>by
  rw[List.flatMap_cons,List.getElem?_append_right (by rw[NR.len];omega),NR.len]
  rw[show(i+1)*12+j - 12=i*12+j by omega]
  exact zdV ns i j n (by simpa using h) hj
theorem flat_set:∀(ns:List NR) (i j:Nat) (n m:NR) (u:Value),ns[i]?=some n→j < 12→m.cells=n.cells.set j u→(ns.flatMap NR.cells).set (i*12+j) u=(ns.set i m).flatMap NR.cells
 | [],i,j,n,m,u,h,_,_=>by simp at h
 | q :: ns,0,j,n,m,u,h,hj,hm=>by
  simp only[List.getElem?_cons_zero,Option.some.injEq] at h
  subst h
  rw[List.flatMap_cons,List.set_cons_zero,List.flatMap_cons,hm,List.set_append_left _ _ (by rw[NR.len];omega)]
  simp
 | q :: ns,i+1,j,n,m,u,h,hj,hm=>by
  rw[List.flatMap_cons,List.set_cons_succ,List.flatMap_cons,List.set_append_right _ _ (by rw[NR.len];omega),NR.len]
  rw[show(i+1)*12+j - 12=i*12+j by omega,flat_set ns i j n m u (by simpa using h) hj hm]
theorem bb_set {w:World} {b k:Nat} {vx vo vi vn u:Value} (h:BBox w b vx vo vi vn):(w.setCell ⟨b,k,none⟩ u).heap[b]?=some (.cells (#[vx,vo,vi,vn].setIfInBounds k u) 77 (0,0)):=zaA u h
theorem zba {w:World} {B n sz b:Nat} {e t:TypeId} {v:Value} {xs:List Value} {cs:Array Value} {fr:Nat×Nat} (h:w.ownsRow B e sz v n xs) (hb:w.heap[b]?=some (.cells cs t fr)) (ht:t≠e):v.ownBlock≠some b:=fun hv=>by
 rcases h.2 with ⟨rfl,-⟩ | ⟨g,cap,cur,rfl,-,hg,-⟩
 ·simp[Value.ownBlock] at hv
 ·simp only[Value.ownBlock,Option.some.injEq] at hv
  subst hv
  rw[hb] at hg
  simp only[Option.some.injEq,Obj.cells.injEq] at hg
  exact ht hg.2.1
theorem za1 {w:World} {B B' n n' sz sz':Nat} {e e':TypeId} {v v':Value} {xs xs':List Value} (h:w.ownsRow B e sz v n xs) (h':w.ownsRow B' e' sz' v' n' xs') (he:e'≠e):∀g,v'.ownBlock=some g→v.ownBlock≠some g:=fun g hg=>by
 rcases h'.2 with ⟨rfl,-⟩ | ⟨g',cap,cur,rfl,-,hb,-⟩
 ·simp[Value.ownBlock] at hg
 ·simp only[Value.ownBlock,Option.some.injEq] at hg
  subst hg
  exact zba h hb he
theorem zdF {w w':World} {B n sz:Nat} {e:TypeId} {v:Value} {xs:List Value} {r:Option Nat} (h:w.ownsRow B e sz v n xs) (hg:w.grownBy w' r) (hr:∀g,r=some g→v.ownBlock≠some g):w'.ownsRow B e sz v n xs:=by
 refine h.kept hg ?_
 cases hv:v.ownBlock with
 | none=>exact .inl rfl
 | some g=>exact .inr fun e=>hr g e.symm hv
theorem zbi {w:World} {B n sz b:Nat} {e:TypeId} {v:Value} {xs:List Value} (h:w.ownsRow B e sz v n xs) (hb:v.ownBlock≠some b) (k:Nat) (u:Value):(w.setCell ⟨b,k,none⟩ u).ownsRow B e sz v n xs:=
 zdF h (zaQ w b k u) (fun g hg=>by cases hg;exact hb)
theorem zdW {w:World} {B n sz:Nat} {e:TypeId} {v:Value} {xs:List Value} (h:w.ownsRow B e sz v n xs):∃ao cap,v=.slice ao n cap:=by
 rcases h.2 with ⟨e,h9⟩ | ⟨g,cap,cur,e,_⟩
 ·exact⟨none,0,by rw[e,h9]⟩
 ·exact⟨_,_,e⟩
theorem zbk {w:World} {B n sz:Nat} {e:TypeId} {ao:Option Addr} {cap:Nat} {xs:List Value} (h:w.ownsRow B e sz (.slice ao n cap) n xs) (hn:0 < n):∃g,ao=some ⟨g,0,none⟩∧B≤g∧g < w.heap.size∧n≤cap∧cap≤maxLen∧(∀k,w.frozen? ⟨g,k,none⟩=false)∧∀j,j < n*sz→w.cell? ⟨g,j,none⟩=xs[j]?:=by
 rcases h.2 with ⟨_,h0⟩ | ⟨g,cap',cur,hv,hb,hg,hc,hm,_⟩
 ·omega
 ·simp only[Value.slice.injEq] at hv
  obtain⟨rfl,-,rfl⟩:=hv
  exact⟨g,rfl,hb,lt_of_block hg,hc,hm,fun k=>h.frozenAt k,fun j hj=>h.cellAt j hj⟩
def Kp (b:Nat) (w w':World):Prop:=∀q c t f,q≠b→w.heap[q]?=some (.cells c t f)→t≠88→t≠3→w'.heap[q]?=some (.cells c t f)
theorem Kp.refl (b:Nat) (w:World):Kp b w w:=fun _ _ _ _ _ h _ _=>h
theorem Kp.trans {b:Nat} {w w1 w2:World} (h:Kp b w w1) (k:Kp b w1 w2):Kp b w w2:=fun q c t f hq ho h1 h2=>k q c t f hq (h q c t f hq ho h1 h2) h1 h2
theorem Kp.alloc {b:Nat} {w w1:World} (h:Kp b w w1) (o:Obj):Kp b w (w1.alloc o):=fun q c t f hq ho h1 h2=>zaf o (h q c t f hq ho h1 h2)
theorem Kp.drew {b:Nat} {w w1:World} (h:Kp b w w1):Kp b w w1.drew:=h
theorem Kp.set {b:Nat} {w w1:World} (h:Kp b w w1) (j:Nat) (u:Value):Kp b w (w1.setCell ⟨b,j,none⟩ u):=fun q c t f hq ho h1 h2 =>
 (Below.heap_setCell w1 ⟨b,j,none⟩ u q hq).trans (h q c t f hq ho h1 h2)
theorem Kp.grown {b B n sz:Nat} {e:TypeId} {v:Value} {xs:List Value} {w w1 w2:World} (h:Kp b w w1) (ho:w1.ownsRow B e sz v n xs) (he:e=88∨e=3) (hg:w1.grownBy w2 v.ownBlock):Kp b w w2:=fun q c t f hq hb h1 h2=>by
 have h3:=h q c t f hq hb h1 h2
 exact(hg.block q (lt_of_block h3) (fun e'=>zba ho h3 (by rcases he with rfl | rfl;exact h1;exact h2) e'.symm)).trans h3
theorem bd_drew {B b:Nat} {ns:List NR} {w:World} (h:Bd B b ns w):Bd B b ns w.drew:=h
theorem bd_node {B b:Nat} {ns:List NR} {n:NR} {w w5:World} {ai an:Option Addr} {ci cn g cap:Nat} (hB:B≤b) (hb:BBox w b (.slice none 0 0) (.slice none 0 0) (.slice ai ns.length ci) (.slice an ns.length cn))
  (hi:w.ownsRow B 3 1 (.slice ai ns.length ci) ns.length (ints (ns.map NR.par))) (hn:w.ownsRow B 88 12 (.slice an ns.length cn) ns.length (ns.flatMap NR.cells))
  (hown:w5.ownsRow B 88 12 (.slice (some ⟨g,0,none⟩) (ns.length+1) cap) (ns.length+1) (ns.flatMap NR.cells++n.cells)) (hg:w.grownBy w5 (Value.slice an ns.length cn).ownBlock):
  BBox (w5.setCell ⟨b,3,none⟩ (.slice (some ⟨g,0,none⟩) (ns.length+1) cap)) b (.slice none 0 0) (.slice none 0 0) (.slice ai ns.length ci) (.slice (some ⟨g,0,none⟩) (ns.length+1) cap) ∧
  (w5.setCell ⟨b,3,none⟩ (.slice (some ⟨g,0,none⟩) (ns.length+1) cap)).ownsRow B 3 1 (.slice ai ns.length ci) ns.length (ints (ns.map NR.par)) ∧
  (w5.setCell ⟨b,3,none⟩ (.slice (some ⟨g,0,none⟩) (ns.length+1) cap)).ownsRow B 88 12 (.slice (some ⟨g,0,none⟩) (ns.length+1) cap) (ns.length+1) ((ns++[n]).flatMap NR.cells) ∧
  Below B w (w5.setCell ⟨b,3,none⟩ (.slice (some ⟨g,0,none⟩) (ns.length+1) cap))∧Kp b w (w5.setCell ⟨b,3,none⟩ (.slice (some ⟨g,0,none⟩) (ns.length+1) cap)):=by
 have hlt:=lt_of_block hb
 have h5:BBox w5 b (.slice none 0 0) (.slice none 0 0) (.slice ai ns.length ci) (.slice an ns.length cn):=(hg.block b hlt (fun e=>zba hn hb (by decide) e.symm)).trans hb
 have hi5:=zdF hi hg (fun q hq=>za1 hi hn (by decide) q hq)
 refine⟨bb_set h5,zbi hi5 (zba hi5 h5 (by decide)) _ _,?_,?_,?_⟩
 ·rw[List.flatMap_append]
  exact zbi (by simpa using hown) (zba hown h5 (by decide)) _ _
 ·exact((Below.refl B w).grown hg (by omega) (fun k hk=>(hn.lt k hk).1)).setCell (p:=⟨b,3,none⟩) hB _
 ·exact((Kp.refl b w).grown hn (.inl rfl) hg).set _ _
theorem bd_in {B b:Nat} {ns:List NR} {n:NR} {w w5:World} {ai an:Option Addr} {ci cn g cap:Nat} (hB:B≤b) (hb:BBox w b (.slice none 0 0) (.slice none 0 0) (.slice ai ns.length ci) (.slice an (ns.length+1) cn))
  (hi:w.ownsRow B 3 1 (.slice ai ns.length ci) ns.length (ints (ns.map NR.par))) (hn:w.ownsRow B 88 12 (.slice an (ns.length+1) cn) (ns.length+1) ((ns++[n]).flatMap NR.cells))
  (hown:w5.ownsRow B 3 1 (.slice (some ⟨g,0,none⟩) (ns.length+1) cap) (ns.length+1) (ints (ns.map NR.par)++[.int .i64 n.par])) (hg:w.grownBy w5 (Value.slice ai ns.length ci).ownBlock):
  Bd B b (ns++[n]) (w5.setCell ⟨b,2,none⟩ (.slice (some ⟨g,0,none⟩) (ns.length+1) cap)) ∧
  Below B w (w5.setCell ⟨b,2,none⟩ (.slice (some ⟨g,0,none⟩) (ns.length+1) cap))∧Kp b w (w5.setCell ⟨b,2,none⟩ (.slice (some ⟨g,0,none⟩) (ns.length+1) cap)):=by
 have hlt:=lt_of_block hb
 have h5:BBox w5 b (.slice none 0 0) (.slice none 0 0) (.slice ai ns.length ci) (.slice an (ns.length+1) cn):=(hg.block b hlt (fun e=>zba hi hb (by decide) e.symm)).trans hb
 have hn5:=zdF hn hg (fun q hq=>za1 hn hi (by decide) q hq)
 refine⟨⟨hB,_,_,bb_set h5,?_,?_⟩,?_,?_⟩
 ·have:=zbi hown (zba hown h5 (by decide)) 2 (.slice (some ⟨g,0,none⟩) (ns.length+1) cap)
  simpa[ints] using this
 ·have:=zbi hn5 (zba hn5 h5 (by decide)) 2 (.slice (some ⟨g,0,none⟩) (ns.length+1) cap)
  simpa using this
 ·exact((Below.refl B w).grown hg (by omega) (fun k hk=>(hi.lt k hk).1)).setCell (p:=⟨b,2,none⟩) hB _
 ·exact((Kp.refl b w).grown hi (.inr rfl) hg).set _ _
structure BdO (B b:Nat) (ns:List NR) (w:World) (ai an:Option Addr) (ci cn:Nat):Prop where
 hB:B≤b
 box:BBox w b (.slice none 0 0) (.slice none 0 0) (.slice ai ns.length ci) (.slice an ns.length cn)
 i:w.ownsRow B 3 1 (.slice ai ns.length ci) ns.length (ints (ns.map NR.par))
 n:w.ownsRow B 88 12 (.slice an ns.length cn) ns.length (ns.flatMap NR.cells)
theorem bd_open {B b:Nat} {ns:List NR} {w:World} (h:Bd B b ns w):∃ai an ci cn,BdO B b ns w ai an ci cn:=by
 obtain⟨hB,vi,vn,hb,hi,hn⟩:=h
 obtain⟨ai,ci,rfl⟩:=zdW hi
 obtain⟨an,cn,rfl⟩:=zdW hn
 exact⟨ai,an,ci,cn,hB,hb,hi,hn⟩
theorem BdO.bd {B b:Nat} {ns:List NR} {w:World} {ai an:Option Addr} {ci cn:Nat} (h:BdO B b ns w ai an ci cn):Bd B b ns w:=⟨h.hB,_,_,h.box,h.i,h.n⟩
theorem BdO.alloc {B b:Nat} {ns:List NR} {w:World} {ai an:Option Addr} {ci cn:Nat} (h:BdO B b ns w ai an ci cn) (o:Obj):BdO B b ns (w.alloc o) ai an ci cn:=⟨h.hB,zaf o h.box,h.i.alloc o,h.n.alloc o⟩
theorem BdO.drew {B b:Nat} {ns:List NR} {w:World} {ai an:Option Addr} {ci cn:Nat} (h:BdO B b ns w ai an ci cn):BdO B b ns w.drew ai an ci cn:=⟨h.hB,h.box,h.i,h.n⟩
theorem bd_set {B b:Nat} {ns:List NR} {w:World} {an:Option Addr} {ai:Option Addr} {ci cn:Nat} (h:BdO B b ns w ai an ci cn) {p j:Nat} {n m:NR} {u:Value} (hp:ns[p]?=some n) (hj:j < 12) (hm:m.cells=n.cells.set j u) (hpar:m.par=n.par) {g:Nat} (hg:an=some ⟨g,0,none⟩):
  BdO B b (ns.set p m) (w.setCell ⟨g,p*12+j,none⟩ u) ai an ci cn∧Below B w (w.setCell ⟨g,p*12+j,none⟩ u)∧Kp b w (w.setCell ⟨g,p*12+j,none⟩ u):=by
 subst hg
 obtain⟨h1,h2⟩:=h.n.stored (p*12+j) u
 rw[flat_set ns p j n m u hp hj hm] at h1
 have hbg:(Value.slice (some ⟨g,0,none⟩) ns.length cn).ownBlock≠some b:=zba h.n h.box (by decide)
 have hbx:=(h2.block b (lt_of_block h.box) (fun e=>hbg (by simpa[Value.ownBlock] using e.symm))).trans h.box
 have hi2:=zdF h.i h2 (fun q hq=>za1 h.i h.n (by decide) q (by simpa[Value.ownBlock] using hq))
 have hpars:(ns.set p m).map NR.par=ns.map NR.par:=by
  rw[List.map_set,hpar]
  apply List.ext_getElem?
  intro k
  rw[List.getElem?_set]
  split
  ·rename_i e
   subst e
   rw[List.getElem?_map,hp]
   have hlt:p < ns.length:=by
    rcases Nat.lt_or_ge p ns.length with h' | h'
    ·exact h'
    ·rw[List.getElem?_eq_none h'] at hp;cases hp
   simp[hlt]
  ·rfl
 refine⟨⟨h.hB,?_,?_,?_⟩,?_,?_⟩
 ·rw[List.length_set];exact hbx
 ·rw[List.length_set,hpars];exact hi2
 ·rw[List.length_set];exact h1
 ·exact(Below.refl B w).setCell (p:=⟨g,p*12+j,none⟩) (h.n.lt g rfl).1 _
 ·exact(Kp.refl b w).grown h.n (.inl rfl) (by simpa[Value.ownBlock] using h2)
end Go.Proofs.YtagnmppdhfmgdaaGreatDoor.Fl
