/- Graphs of statements as plain data: nodes with the numbers of what stands about them. -/
import Derived.Test.YtagnmppdhfmgdaaGreatDoorTSame4
set_option linter.unusedSimpArgs false
set_option linter.unusedVariables false
set_option maxHeartbeats 8000000
set_option maxRecDepth 100000
namespace Go.Proofs.YtagnmppdhfmgdaaGreatDoor.Fl
open Go Go.RowKit Go.Proofs.YtagnmppdhfmgdaaGreatDoor
structure NR where
 S:ST
 par:Int
 fol:Int
 brk:Int
 agn:Int
 beh:Int
 oth:Int
def NR.raw (n:NR):NR:={n with fol:=0,brk:=0,agn:=0}
def NR.cells (n:NR):List Value:=[.int .i64 n.S.kind,.int .i64 n.S.tag,.string n.S.name,.string n.S.func,.slice n.S.ea n.S.en n.S.ec,.slice n.S.ba n.S.bn n.S.bc,.slice n.S.la n.S.ln n.S.lc,.int .i64 n.fol,.int .i64 n.brk,.int .i64 n.agn,.int .i64 n.beh,.int .i64 n.oth]
theorem NR.len (n:NR):n.cells.length=12:=rfl
mutual
def layS (p:Nat) (par fol brk agn beh:Int):ST→List NR
 | .mk k t n f ea ec e ba bc b la lc l =>
  ⟨.mk k t n f ea ec e ba bc b la lc l,par,fol,brk,agn,beh,((p+1+cnts b:Nat):Int)⟩ ::
   (lay (p+1) p (if k=5 then p else fol) (if k=5 then fol else brk) (if k=5 then p else agn) b ++
    lay (p+1+cnts b) p (if k=5 then p else fol) (if k=5 then fol else brk) (if k=5 then p else agn) l)
def lay (p:Nat) (par fol brk agn:Int):List ST→List NR
 | []=>[]
 | S :: r=>layS p par (if r=[] then fol else ((p+S.cnt:Nat):Int)) brk agn (if r=[] then -1 else ((p+S.cnt:Nat):Int)) S++lay (p+S.cnt) par fol brk agn r
end
theorem zdu (p:Nat) (par fol brk agn beh:Int) (S:ST):layS p par fol brk agn beh S=⟨S,par,fol,brk,agn,beh,((p+1+cnts S.body:Nat):Int)⟩ ::
   (lay (p+1) p (if S.kind=5 then p else fol) (if S.kind=5 then fol else brk) (if S.kind=5 then p else agn) S.body ++
    lay (p+1+cnts S.body) p (if S.kind=5 then p else fol) (if S.kind=5 then fol else brk) (if S.kind=5 then p else agn) S.els):=by
 cases S;rw[layS];rfl
mutual
theorem zbp (p:Nat) (par fol brk agn beh:Int):∀S:ST,(layS p par fol brk agn beh S).length=S.cnt
 | .mk k t n f ea ec e ba bc b la lc l=>by
  rw[layS,ST.cnt,List.length_cons,List.length_append,zbs,zbs];omega
theorem zbs (p:Nat) (par fol brk agn:Int):∀l:List ST,(lay p par fol brk agn l).length=cnts l
 | []=>by rw[lay,cnts];rfl
 | S :: r=>by rw[lay,cnts,List.length_append,zbp,zbs]
end
theorem cnts_take {l:List ST} {n:Nat} (hn:n < l.length):cnts (l.take (n+1))=cnts (l.take n)+l[n].cnt:=by
 induction l generalizing n with
 | nil=>simp at hn
 | cons S l ih =>
  cases n with
  | zero=>simp[cnts]
  | succ n =>
   have:=ih (n:=n) (by simpa using hn)
   simp only[List.take_succ_cons,cnts,List.getElem_cons_succ] at this ⊢
   omega
theorem zcj (l:List ST):∀n,cnts (l.take n)≤cnts l:=by
 induction l with
 | nil=>intro n;simp[cnts]
 | cons S l ih =>
  intro n
  cases n with
  | zero=>simp[cnts]
  | succ n=>have:=ih n;simp only[List.take_succ_cons,cnts];omega
theorem lay_step (par fol brk agn:Int):∀(l:List ST) (p n:Nat) (hn:n < l.length),
  (lay p par fol brk agn l).take (cnts (l.take (n+1)))=(lay p par fol brk agn l).take (cnts (l.take n)) ++
   layS (p+cnts (l.take n)) par (if n+1 < l.length then ((p+cnts (l.take n)+l[n].cnt:Nat):Int) else fol) brk agn (if n+1 < l.length then ((p+cnts (l.take n)+l[n].cnt:Nat):Int) else -1) l[n]
 | [],p,n,hn=>by simp at hn
 | S :: r,p,0,_=>by
  have e1:cnts ((S :: r).take 1)=S.cnt:=by simp[cnts]
  rw[e1]
  simp only[List.take_zero,cnts,Nat.add_zero,List.getElem_cons_zero,List.nil_append,List.length_cons,Nat.zero_add]
  rw[lay,List.take_append_of_le_length (by rw[zbp];exact Nat.le_refl _),List.take_of_length_le (by rw[zbp];exact Nat.le_refl _)]
  cases r with
  | nil=>simp
  | cons T r=>simp
 | S :: r,p,n+1,hn=>by
  have ih:=lay_step par fol brk agn r (p+S.cnt) n (by simpa using hn)
  simp only[List.take_succ_cons,cnts,List.getElem_cons_succ,List.length_cons] at ih ⊢
  rw[lay,List.take_append,List.take_append,zbp,List.take_of_length_le (by rw[zbp];omega),List.take_of_length_le (l:=layS _ _ _ _ _ _ S) (by rw[zbp];omega)]
  rw[show S.cnt+cnts (List.take (n+1) r) - S.cnt=cnts (List.take (n+1) r) by omega,show S.cnt+cnts (List.take n r) - S.cnt=cnts (List.take n r) by omega,ih,List.append_assoc]
  congr 2
  have e:p+S.cnt+cnts (List.take n r)=p+(S.cnt+cnts (List.take n r)):=by omega
  rw[e]
  have e2:(n+1 < r.length)=(n+1+1 < r.length+1):=by simp
  simp only[e2]
theorem lay_all (par fol brk agn:Int) (l:List ST) (p:Nat):(lay p par fol brk agn l).take (cnts (l.take l.length))=lay p par fol brk agn l:=by
 rw[List.take_length,List.take_of_length_le (by rw[zbs];exact Nat.le_refl _)]
def endP (x:Int) (N:List NR) (j:Int):Int×Int×Int:=
 if j=-1 then (x,x,x)
 else match N[j.toNat]? with
  | some m=>if m.S.kind=5 then (j,m.fol,j) else (m.fol,m.brk,m.agn)
  | none=>(x,x,x)
structure NR.Fits (x:Int) (N:List NR) (i:Nat) (n:NR):Prop where
 par:n.par=-1∨(0≤n.par∧n.par < i)
 beh:n.beh=-1∨((i:Int) < n.beh∧n.beh < x)
 pl:(n.fol,n.brk,n.agn)=(if n.beh=-1 then (endP x N n.par).1 else n.beh,(endP x N n.par).2)
 kid:n.par=-1∨∃m,N[n.par.toNat]?=some m∧(0 < m.S.bn∨0 < m.S.ln)
theorem endP_at (x:Int) {N:List NR} {p:Nat} {m:NR} (h:N[p]?=some m):endP x N (p:Int)=(if m.S.kind=5 then (p:Int) else m.fol,if m.S.kind=5 then m.fol else m.brk,if m.S.kind=5 then (p:Int) else m.agn):=by
 unfold endP
 rw[if_neg (by omega),Int.toNat_natCast,h]
 simp only
 split<;>rfl
theorem lay_fits (x:Int) (N:List NR):∀(m:Nat) (l:List ST),Szs l < m→∀(p:Nat) (par fol brk agn:Int),(∀i,i < cnts l→N[p+i]?=(lay p par fol brk agn l)[i]?)→((p+cnts l:Nat):Int)≤x→(par=-1∨(0≤par∧par < p))→(par=-1∨l=[]∨∃m,N[par.toNat]?=some m∧(0 < m.S.bn∨0 < m.S.ln))→endP x N par=(fol,brk,agn) →
  ∀(i:Nat) (n:NR),(lay p par fol brk agn l)[i]?=some n→n.Fits x N (p+i):=by
 intro m
 induction m with
 | zero=>intro l h;omega
 | succ m ih =>
  intro l
  induction l with
  | nil=>intro _ p par fol brk agn _ _ _ _ _ i n h;rw[lay] at h;simp at h
  | cons S r ihr =>
   intro hm p par fol brk agn hN hx hpar hkid hend i n hn
   rw[Szs] at hm
   rw[cnts] at hN hx
   have hcp:=zb7 S
   obtain⟨fl,hfl⟩:∃fl:Int,(if r=[] then fol else ((p+S.cnt:Nat):Int))=fl:=⟨_,rfl⟩
   obtain⟨bh,hbh⟩:∃bh:Int,(if r=[] then -1 else ((p+S.cnt:Nat):Int))=bh:=⟨_,rfl⟩
   rw[lay,hfl,hbh] at hn hN
   have hNS:∀j,j < S.cnt→N[p+j]?=(layS p par fl brk agn bh S)[j]?:=fun j hj=>by
    rw[hN j (by omega),List.getElem?_append_left (by rw[zbp];exact hj)]
   have hhead:N[p]?=some ⟨S,par,fl,brk,agn,bh,((p+1+cnts S.body:Nat):Int)⟩:=by
    have:=hNS 0 (by omega)
    rw[zdu] at this
    simpa using this
   have hcr:r=[]∨1≤cnts r:=by
    cases r with
    | nil=>exact .inl rfl
    | cons T r=>right;rw[cnts];have:=zb7 T;omega
   rcases Nat.lt_or_ge i S.cnt with hi | hi
   ·rw[List.getElem?_append_left (by rw[zbp];exact hi),zdu] at hn
    cases i with
    | zero =>
     simp only[List.getElem?_cons_zero,Option.some.injEq] at hn
     subst hn
     have hkid':par=-1∨∃m,N[par.toNat]?=some m∧(0 < m.S.bn∨0 < m.S.ln):=by
      rcases hkid with h | h | h
      ·exact .inl h
      ·cases h
      ·exact .inr h
     refine⟨hpar,?_,?_,hkid'⟩
     ·show bh=-1∨_
      rcases hcr with rfl | hr
      ·left;rw[←hbh,if_pos rfl]
      ·by_cases hr0:r=[]
       ·left;rw[←hbh,if_pos hr0]
       ·right
        show((p+0:Nat):Int) < bh∧bh < x
        rw[←hbh,if_neg hr0];omega
     ·show(fl,brk,agn)=(if bh=-1 then (endP x N par).1 else bh,(endP x N par).2)
      rw[hend,←hfl,←hbh]
      by_cases hr0:r=[]
      ·rw[if_pos hr0,if_pos hr0,if_pos rfl]
      ·rw[if_neg hr0,if_neg hr0,if_neg (by omega)]
    | succ i =>
     rw[List.getElem?_cons_succ] at hn
     have hpe:=endP_at x hhead
     simp only at hpe
     rcases Nat.lt_or_ge i (cnts S.body) with hb | hb
     ·rw[List.getElem?_append_left (by rw[zbs];exact hb)] at hn
      have:=ih S.body (by have:=(zcW S).1;omega) (p+1) p _ _ _ (fun j hj=>by
       have h1:=hNS (j+1) (by omega)
       rw[zdu,List.getElem?_cons_succ,List.getElem?_append_left (by rw[zbs];exact hj)] at h1
       rw[show p+1+j=p+(j+1) by omega];exact h1) (by omega) (.inr ⟨by omega,by omega⟩) (by
       right
       cases hb:S.body with
       | nil=>exact .inl rfl
       | cons T r=>exact .inr ⟨_,by rw[Int.toNat_natCast];exact hhead,.inl (by show 0 < S.bn;rw[bn_is,hb];simp)⟩) hpe i n hn
      rw[show p+(i+1)=p+1+i by omega]
      exact this
     ·rw[List.getElem?_append_right (by rw[zbs];exact hb),zbs] at hn
      have:=ih S.els (by have:=(zcW S).2;omega) (p+1+cnts S.body) p _ _ _ (fun j hj=>by
       have h1:=hNS (cnts S.body+j+1) (by omega)
       rw[zdu,List.getElem?_cons_succ,List.getElem?_append_right (by rw[zbs];omega),zbs,show cnts S.body+j - cnts S.body=j by omega] at h1
       rw[show p+1+cnts S.body+j=p+(cnts S.body+j+1) by omega];exact h1) (by omega) (.inr ⟨by omega,by omega⟩) (by
       right
       cases hb:S.els with
       | nil=>exact .inl rfl
       | cons T r=>exact .inr ⟨_,by rw[Int.toNat_natCast];exact hhead,.inr (by show 0 < S.ln;rw[ln_is,hb];simp)⟩) hpe (i - cnts S.body) n hn
      rw[show p+(i+1)=p+1+cnts S.body+(i - cnts S.body) by omega]
      exact this
   ·rw[List.getElem?_append_right (by rw[zbp];exact hi),zbp] at hn
    have:=ihr (by have:=zcW S;omega) (p+S.cnt) par fol brk agn (fun j hj=>by
     have h1:=hN (S.cnt+j) (by omega)
     rw[List.getElem?_append_right (by rw[zbp];omega),zbp,show S.cnt+j - S.cnt=j by omega] at h1
     rw[show p+S.cnt+j=p+(S.cnt+j) by omega];exact h1) (by omega) (by omega) (by
     rcases hkid with h | h | h
     ·exact .inl h
     ·cases h
     ·exact .inr (.inr h)) hend (i - S.cnt) n hn
    rw[show p+i=p+S.cnt+(i - S.cnt) by omega]
    exact this
def za9 (l:List ST):List NR:=lay 0 (-1) (cnts l:Nat) (cnts l:Nat) (cnts l:Nat) l
theorem zaD (l:List ST):(za9 l).length=cnts l:=zbs ..
theorem nodes_fit (l:List ST) {i:Nat} {n:NR} (h:(za9 l)[i]?=some n):n.Fits (cnts l:Nat) (za9 l) i:=by
 have:=lay_fits (cnts l:Nat) (za9 l) _ l (Nat.lt_succ_self _) 0 (-1) (cnts l:Nat) (cnts l:Nat) (cnts l:Nat) (fun i _=>by rw[Nat.zero_add];rfl) (by omega) (.inl rfl) (.inl rfl) rfl i n h
 rw[Nat.zero_add] at this
 exact this
def zdv (x:Int) (i:Nat) (n:NR):List Int:=
 if n.S.kind=4 then [if n.S.bn=0 then n.fol else (i:Int)+1,if n.S.ln=0 then n.fol else n.oth]
 else if n.S.kind=5 then [if n.S.bn=0 then (i:Int) else (i:Int)+1,n.fol]
 else if n.S.kind=6 then [n.brk] else if n.S.kind=7 then [n.agn] else if n.S.kind=8 then [x] else [n.fol]
def othR (n:NR):Int:=if n.S.kind=6∨n.S.kind=7∨n.S.kind=8 then n.fol else -1
def zbg (l:List ST):List (List Int):=(za9 l).mapIdx (zdv (cnts l:Nat))++[[]]
def zbe (l:List ST):List Int:=(za9 l).map othR++[-1]
def insG (l:List ST):List Int:=(za9 l).map NR.par++[-1]
def zb9 (ns:List (List Int)) (os:List Int) (jumps:Bool):List (List Int):=ns.mapIdx fun i r=>if jumps=true∧0≤os.getD i (-1) then r++[os.getD i (-1)] else r
def zdw (ns:List (List Int)) (n:Nat):List Int:=((List.range ns.length).filter fun k=>decide ((n:Int)∈ns.getD k [])).map Int.ofNat
def zc6 (ns:List (List Int)):List (List Int):=(List.range ns.length).map (zdw ns)
end Go.Proofs.YtagnmppdhfmgdaaGreatDoor.Fl
