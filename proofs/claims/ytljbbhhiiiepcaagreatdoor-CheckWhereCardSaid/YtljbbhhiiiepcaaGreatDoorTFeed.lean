/- How long what the feed makes is put: right expressions and statements, and bounds of their texts. -/
import Derived.Test.YtljbbhhiiiepcaaGreatDoorTFit
import Derived.Test.YtljbbhhiiiepcaaGreatDoorTMade
import Derived.Deep.RegionHeld3
set_option linter.unusedSimpArgs false
set_option linter.unusedVariables false
set_option maxHeartbeats 8000000
set_option maxRecDepth 100000
namespace Go.Proofs.YtljbbhhiiiepcaaGreatDoor
open Go Go.RowKit
open Go.Lib (hid)
open Go.Lib (decDigits itoa)
open Go.Lib (hid)
def LE:Nat→Nat
 | 0=>24
 | d+1=>2*LE d+12
theorem LE_ge:∀d,24≤LE d
 | 0=>Nat.le_refl _
 | d+1=>by have:=LE_ge d;rw[LE];omega
theorem itoa_len (n:Int) (h:-9223372036854775808≤n∧n≤9223372036854775807):(itoa n).length≤24:=by
 unfold itoa
 split
 ·have:=dec_len n.natAbs (by omega)
  simp only[List.length_cons];omega
 ·have:=dec_len n.toNat (by omega)
  omega
theorem inBr_len (b:Bool) (l:List UInt8):(inBr b l).length≤l.length+2:=by
 cases b<;>simp[inBr]
theorem zc4 {m:ByteArray} (h:nmB m=true):m.data.toList.length≤24:=by
 simp only[nmB,zaK,Bool.and_eq_true,decide_eq_true_eq] at h
 exact h.1.1.1.2
theorem op_len {o:ByteArray} (h:0 < zar o):o.data.toList.length≤2:=by
 have h1:=level_op h
 have h2:ops18.all (fun l=>decide (l.length≤2))=true:=by decide
 rw[List.contains_iff_mem] at h1
 have:=List.all_eq_true.1 h2 _ h1
 simpa using this
variable {I A:List ByteArray} {C:List (ByteArray×Nat)} {m loop:Bool} {t0 t1 t2 t3:Int}
structure GE (I A:List ByteArray) (d:Nat) (T:ET):Prop where
 right:T.rightB=true
 len:(putR levL T.re).length≤LE d
 dep:T.re.dep≤d
 fit:okE I A T=true
theorem ge_num (d:Nat) (n:Int) (h:-9223372036854775808≤n∧n≤9223372036854775807) (a:Option Addr) (c:Nat):GE I A d (.mk 0 mE n mE a c []):=
 ⟨by simp[ET.rightB,zam,zbt],by show(itoa n).length≤_;have:=itoa_len n h;have:=LE_ge d;omega,Nat.zero_le _,fe_num _ _ _ _ _⟩
theorem ge_var (d:Nat) {m:ByteArray} (h:nmB m=true) (hm:m∈I) (a:Option Addr) (c:Nat):GE I A d (.mk 1 mE 0 m a c []):=
 ⟨by simp[ET.rightB,zam,zbt,zbo,h],by show(m.data.toList).length≤_;have:=zc4 h;have:=LE_ge d;omega,Nat.zero_le _,fe_var hm _ _ _ _⟩
theorem ge_idx {d:Nat} {m:ByteArray} (h:nmB m=true) (hm:m∈A) {T:ET} (hT:GE I A d T) (a:Option Addr) (c:Nat):GE I A (d+1) (.mk 2 mE 0 m a c [T]):=
 ⟨by simp[ET.rightB,zam,zbt,zbo,h,hT.right],by
  show(m.data.toList++91 :: (putR levL T.re++[93])).length≤_
  have:=zc4 h
  have:=hT.len
  have:=LE_ge d
  simp only[List.length_append,List.length_cons,List.length_nil,LE];omega,Nat.succ_le_succ hT.dep,fe_idx hm hT.fit _ _ _ _⟩
theorem ge_un {d:Nat} {o:ByteArray} (h:unB o=true) {T:ET} (hT:GE I A d T) (a:Option Addr) (c:Nat):GE I A (d+1) (.mk 3 o 0 mE a c [T]):=
 ⟨by simp[ET.rightB,zam,zbt,zcm,h,hT.right],by
  show((o.data.toList.headD 0) :: inBr (unBr (o.data.toList.headD 0) T.re) (putR levL T.re)).length≤_
  have:=inBr_len (unBr (o.data.toList.headD 0) T.re) (putR levL T.re)
  have:=hT.len
  simp only[List.length_cons,LE];omega,Nat.succ_le_succ hT.dep,fe_un hT.fit _ _ _ _ _⟩
theorem ge_bin {d:Nat} {o:ByteArray} (h:0 < zar o) {T U:ET} (hT:GE I A d T) (hU:GE I A d U) (a:Option Addr) (c:Nat):GE I A (d+1) (.mk 4 o 0 mE a c [T,U]):=
 ⟨by simp[ET.rightB,zam,zbt,zcm,h,hT.right,hU.right],by
  show(inBr (T.re.lower levL (levL o.data.toList)) (putR levL T.re)++32 :: (o.data.toList++32 :: inBr (U.re.lower levL (levL o.data.toList+1)) (putR levL U.re))).length≤_
  have:=inBr_len (T.re.lower levL (levL o.data.toList)) (putR levL T.re)
  have:=inBr_len (U.re.lower levL (levL o.data.toList+1)) (putR levL U.re)
  have:=hT.len
  have:=hU.len
  have:=op_len h
  simp only[List.length_append,List.length_cons,LE];omega,Nat.succ_le_succ (Nat.max_le.2 ⟨hT.dep,hU.dep⟩),fe_bin hT.fit hU.fit _ _ _ _ _⟩
def TagM (m:Bool) (t a b:Int):Prop:=TagAt t a b∧(m=false→b=a)
theorem tabs_len (d:Nat):(za4 d).length=d:=by simp[za4]
theorem tag_len (t:Nat) (h:t≤1000000):(tagT t).length≤22:=by
 unfold tagT
 split
 ·simp
 ·have:=dec_len t (by omega)
  simp only[List.length_append,List.length_cons,List.length_nil];omega
structure GS (I A:List ByteArray) (C:List (ByteArray×Nat)) (m loop:Bool) (t0 t1:Int) (D:Nat) (S:ST):Prop where
 right:S.rightB=true
 len:∀d,d+D≤10→(za4 d++(tagT S.rs.tag++(putB levL d S.rs++[10]))).length≤255*(1+nB S.rs)
 dep:dpB S.rs≤5+D
 fit:FitS I A C loop t0 t1 S
 mn:m=false→t1=t0
structure GL (I A:List ByteArray) (C:List (ByteArray×Nat)) (m loop:Bool) (t0 t1:Int) (D:Nat) (l:List ST):Prop where
 right:zak l=true
 len:∀d,d+D≤10→(putL levL d (rss l)).length≤255*nSs (rss l)
 dep:dpSs (rss l)≤5+D
 fit:FitL I A C loop t0 t1 l
 mn:m=false→t1=t0
theorem GL.tag_is {D:Nat} {l:List ST} (h:GL I A C m loop t0 t1 D l):t1=t0+((tgSs l).length:Int):=by
 have:=h.fit.le
 rw[h.fit.tg,upTo_length this];omega
theorem gl_nil (D:Nat):GL I A C m loop t0 t0 D []:=⟨by rw[zak],fun d _=>by rw[rss,putL];simp,by rw[rss,dpSs];omega,fl_nil _,fun _=>rfl⟩
theorem zdm (l:List ST) (S:ST):zak (l++[S])=(zak l&&S.rightB):=by
 rw[zdN,zak,zak,Bool.and_true]
theorem zd7 (l:List ST) (S:ST):rss (l++[S])=rss l++[S.rs]:=by
 rw[zdV,zdV,List.map_append];rfl
theorem gl_snoc {D:Nat} {l:List ST} {S:ST} (h:GL I A C m loop t0 t1 D l) (hS:GS I A C m loop t1 t2 D S):GL I A C m loop t0 t2 D (l++[S]):=
 ⟨by rw[zdm,h.right,hS.right];rfl,fun d hd=>by
  have h1:=h.len d hd
  have h2:=hS.len d hd
  rw[zd7,zdT,zd5,putL,nSs_append,nSs,nSs]
  simp only[List.length_append,List.length_cons,List.length_nil] at h2 ⊢
  omega,by
  have h1:=h.dep
  have h2:=hS.dep
  rw[zd7,dpSs_append,dpSs,dpSs]
  omega,fl_snoc h.fit hS.fit,fun e=>(hS.mn e).trans (h.mn e)⟩
theorem zdn {S:ST} {D d t n:Nat} (ht:S.rs.tag≤1000000) (hd:d+D≤10) (hb:(putB levL d S.rs).length≤n) (hn:n+33≤255*(1+nB S.rs)):(za4 d++(tagT S.rs.tag++(putB levL d S.rs++[10]))).length≤255*(1+nB S.rs):=by
 have:=tag_len _ ht
 have:=tabs_len d
 simp only[List.length_append,List.length_cons,List.length_nil]
 omega
theorem ge2 {T:ET} {d:Nat} (h:GE I A d T) (hd:d≤2):(putR levL T.re).length≤132:=by
 have h':=h.len
 match d,hd with
 | 0,_=>rw[show LE 0=24 from rfl] at h';omega
 | 1,_=>rw[show LE 1=60 from rfl] at h';omega
 | 2,_=>rw[show LE 2=132 from rfl] at h';omega
theorem ge1 {T:ET} {d:Nat} (h:GE I A d T) (hd:d≤1):(putR levL T.re).length≤60:=by
 have h':=h.len
 match d,hd with
 | 0,_=>rw[show LE 0=24 from rfl] at h';omega
 | 1,_=>rw[show LE 1=60 from rfl] at h';omega
section
variable {t:Int} (h0:0≤t) (h1:t≤1000000)
include h0 h1
theorem zbH:(t < 0∨1000000 < t)=False:=by simp;omega
theorem gs_asg (D:Nat) (htg:TagM m t t0 t1) {n:ByteArray} (hn:nmB n=true) (hnI:n∈I) {d:Nat} {T:ET} (hT:GE I A d T) (hd:d≤2) (ea:Option Addr) (ec:Nat) (ba:Option Addr) (bc:Nat) (la:Option Addr) (lc:Nat):GS I A C m loop t0 t1 D (.mk 0 t n mE ea ec [T] ba bc [] la lc []):=
 ⟨by simp[ST.rightB,zam,zak,zaO,zcb,zaU,hn,hT.right,zbH h0 h1],fun k hk=>by
  refine zdn (t:=t.toNat) (n:=222) (by show t.toNat≤_;omega) hk ?_ (by show _≤255*(1+nB (.asg _ _ T.re));rw[nB];decide)
  show(n.data.toList++32 :: 61 :: 32 :: (putR levL T.re++[59])).length≤_
  have:=zc4 hn
  have:=ge2 hT hd
  simp only[List.length_append,List.length_cons,List.length_nil];omega,by
  show dpB (.asg _ _ T.re)≤_
  rw[dpB]
  have:=hT.dep
  omega,zc3 (own_asg hnI hT.fit) htg.1,htg.2⟩
theorem gs_sto (D:Nat) (htg:TagM m t t0 t1) {n:ByteArray} (hn:nmB n=true) (hnI:n∈A) {d d':Nat} {T U:ET} (hT:GE I A d T) (hd:d≤1) (hU:GE I A d' U) (hd':d'≤2) (ea:Option Addr) (ec:Nat) (ba:Option Addr) (bc:Nat) (la:Option Addr) (lc:Nat):GS I A C m loop t0 t1 D (.mk 1 t n mE ea ec [T,U] ba bc [] la lc []):=
 ⟨by simp[ST.rightB,zam,zak,zaO,zcb,zaU,hn,hT.right,hU.right,zbH h0 h1],fun k hk=>by
  refine zdn (t:=t.toNat) (n:=222) (by show t.toNat≤_;omega) hk ?_ (by show _≤255*(1+nB (.sto _ _ T.re U.re));rw[nB];decide)
  show(n.data.toList++91 :: (putR levL T.re++93 :: 32 :: 61 :: 32 :: (putR levL U.re++[59]))).length≤_
  have:=zc4 hn
  have:=ge1 hT hd
  have:=ge2 hU hd'
  simp only[List.length_append,List.length_cons,List.length_nil];omega,by
  show dpB (.sto _ _ T.re U.re)≤_
  rw[dpB]
  have:=hT.dep
  have:=hU.dep
  omega,zc3 (own_sto hnI hT.fit hU.fit) htg.1,htg.2⟩
theorem gs_rd (D:Nat) (htg:TagM m t t0 t1) {n:ByteArray} (hn:nmB n=true) (hnI:n∈I) (ea:Option Addr) (ec:Nat) (ba:Option Addr) (bc:Nat) (la:Option Addr) (lc:Nat):GS I A C m loop t0 t1 D (.mk 2 t n mE ea ec [] ba bc [] la lc []):=
 ⟨by simp[ST.rightB,zam,zak,zaO,zcb,zaU,hn,zbH h0 h1],fun k hk=>by
  refine zdn (t:=t.toNat) (n:=222) (by show t.toNat≤_;omega) hk ?_ (by show _≤255*(1+nB (.rd _ _));rw[nB];decide)
  show(n.data.toList++[32,61,32,114,101,97,100,40,41,59]).length≤_
  have:=zc4 hn
  simp only[List.length_append,List.length_cons,List.length_nil];omega,by
  show dpB (.rd _ _)≤_
  rw[dpB]
  omega,zc3 (own_rd hnI) htg.1,htg.2⟩
theorem gs_call1 (D:Nat) (htg:TagM m t t0 t1) {n f:ByteArray} (hn:nmB n=true) (hnI:n∈I) (hf:nmB f=true) (hfc:(f,1)∈C) {d:Nat} {T:ET} (hT:GE I A d T) (hd:d≤1) (ea:Option Addr) (ec:Nat) (ba:Option Addr) (bc:Nat) (la:Option Addr) (lc:Nat):GS I A C m loop t0 t1 D (.mk 3 t n f ea ec [T] ba bc [] la lc []):=
 ⟨by simp[ST.rightB,zam,zak,zaO,zcb,zaU,hn,hf,hT.right,zbH h0 h1],fun k hk=>by
  refine zdn (t:=t.toNat) (n:=222) (by show t.toNat≤_;omega) hk ?_ (by show _≤255*(1+nB (.call _ _ _ [T.re]));rw[nB];decide)
  show(n.data.toList++32 :: 61 :: 32 :: (f.data.toList++40 :: (zay [44,32] (putR levL) [T.re]++[41,59]))).length≤_
  have:=zc4 hn
  have:=zc4 hf
  have:=ge1 hT hd
  simp only[zay,List.length_append,List.length_cons,List.length_nil];omega,by
  show dpB (.call _ _ _ [T.re])≤_
  simp only[dpB,depA]
  have:=hT.dep
  omega,zc3 (own_call hnI hfc (by rw[okEs,okEs,hT.fit];rfl)) htg.1,htg.2⟩
theorem gs_call2 (D:Nat) (htg:TagM m t t0 t1) {n f:ByteArray} (hn:nmB n=true) (hnI:n∈I) (hf:nmB f=true) (hfc:(f,2)∈C) {d d':Nat} {T U:ET} (hT:GE I A d T) (hd:d≤1) (hU:GE I A d' U) (hd':d'≤1) (ea:Option Addr) (ec:Nat) (ba:Option Addr) (bc:Nat) (la:Option Addr) (lc:Nat):GS I A C m loop t0 t1 D (.mk 3 t n f ea ec [T,U] ba bc [] la lc []):=
 ⟨by simp[ST.rightB,zam,zak,zaO,zcb,zaU,hn,hf,hT.right,hU.right,zbH h0 h1],fun k hk=>by
  refine zdn (t:=t.toNat) (n:=222) (by show t.toNat≤_;omega) hk ?_ (by show _≤255*(1+nB (.call _ _ _ [T.re,U.re]));rw[nB];decide)
  show(n.data.toList++32 :: 61 :: 32 :: (f.data.toList++40 :: (zay [44,32] (putR levL) [T.re,U.re]++[41,59]))).length≤_
  have:=zc4 hn
  have:=zc4 hf
  have:=ge1 hT hd
  have:=ge1 hU hd'
  simp only[zay,List.length_append,List.length_cons,List.length_nil];omega,by
  show dpB (.call _ _ _ [T.re,U.re])≤_
  simp only[dpB,depA]
  have:=hT.dep
  have:=hU.dep
  omega,zc3 (own_call hnI hfc (by rw[okEs,okEs,okEs,hT.fit,hU.fit];rfl)) htg.1,htg.2⟩
theorem gs_brk (D:Nat) (htg:TagM m t t0 t1) (hlp:loop=true) (ea:Option Addr) (ec:Nat) (ba:Option Addr) (bc:Nat) (la:Option Addr) (lc:Nat):GS I A C m loop t0 t1 D (.mk 6 t mE mE ea ec [] ba bc [] la lc []):=
 ⟨by simp[ST.rightB,zam,zak,zaO,zbg,zaU,zbH h0 h1],fun k hk=>by
  refine zdn (t:=t.toNat) (n:=222) (by show t.toNat≤_;omega) hk ?_ (by show _≤255*(1+nB (.brk _));rw[nB];decide)
  show([98,114,101,97,107]++[59]:List UInt8).length≤_
  decide,by
  show dpB (.brk _)≤_
  rw[dpB]
  omega,zc3 (own_jump hlp (by decide) rfl) htg.1,htg.2⟩
theorem gs_cnt (D:Nat) (htg:TagM m t t0 t1) (hlp:loop=true) (ea:Option Addr) (ec:Nat) (ba:Option Addr) (bc:Nat) (la:Option Addr) (lc:Nat):GS I A C m loop t0 t1 D (.mk 7 t mE mE ea ec [] ba bc [] la lc []):=
 ⟨by simp[ST.rightB,zam,zak,zaO,zbg,zaU,zbH h0 h1],fun k hk=>by
  refine zdn (t:=t.toNat) (n:=222) (by show t.toNat≤_;omega) hk ?_ (by show _≤255*(1+nB (.cnt _));rw[nB];decide)
  show([99,111,110,116,105,110,117,101]++[59]:List UInt8).length≤_
  decide,by
  show dpB (.cnt _)≤_
  rw[dpB]
  omega,zc3 (own_jump hlp (by decide) rfl) htg.1,htg.2⟩
theorem gs_ret (D:Nat) (htg:TagM m t t0 t1) {d:Nat} {T:ET} (hT:GE I A d T) (hd:d≤2) (ea:Option Addr) (ec:Nat) (ba:Option Addr) (bc:Nat) (la:Option Addr) (lc:Nat):GS I A C m loop t0 t1 D (.mk 8 t mE mE ea ec [T] ba bc [] la lc []):=
 ⟨by simp[ST.rightB,zam,zak,zaO,zbg,zaU,hT.right,zbH h0 h1],fun k hk=>by
  refine zdn (t:=t.toNat) (n:=222) (by show t.toNat≤_;omega) hk ?_ (by show _≤255*(1+nB (.ret _ T.re));rw[nB];decide)
  show([114,101,116,117,114,110]++32 :: (putR levL T.re++[59])).length≤_
  have:=ge2 hT hd
  simp only[List.length_append,List.length_cons,List.length_nil];omega,by
  show dpB (.ret _ T.re)≤_
  rw[dpB]
  have:=hT.dep
  omega,zc3 (own_one (by decide) rfl hT.fit) htg.1,htg.2⟩
theorem gs_ass (D:Nat) (htg:TagM m t t0 t1) {d:Nat} {T:ET} (hT:GE I A d T) (hd:d≤2) (ea:Option Addr) (ec:Nat) (ba:Option Addr) (bc:Nat) (la:Option Addr) (lc:Nat):GS I A C m loop t0 t1 D (.mk 9 t mE mE ea ec [T] ba bc [] la lc []):=
 ⟨by simp[ST.rightB,zam,zak,zaO,zbg,zaU,hT.right,zbH h0 h1],fun k hk=>by
  refine zdn (t:=t.toNat) (n:=222) (by show t.toNat≤_;omega) hk ?_ (by show _≤255*(1+nB (.ass _ T.re));rw[nB];decide)
  show([97,115,115,101,114,116]++40 :: (putR levL T.re++[41,59])).length≤_
  have:=ge2 hT hd
  simp only[List.length_append,List.length_cons,List.length_nil];omega,by
  show dpB (.ass _ T.re)≤_
  rw[dpB]
  have:=hT.dep
  omega,zc3 (own_one (by decide) rfl hT.fit) htg.1,htg.2⟩
theorem gs_whl {D:Nat} (htg:TagM m t t0 t1) {d:Nat} {T:ET} (hT:GE I A d T) (hd:d≤2) {b:List ST} (hb:GL I A C m true t1 t2 D b) (hl:b.length≤3) (ea:Option Addr) (ec:Nat) (ba:Option Addr) (bc:Nat) (la:Option Addr) (lc:Nat):GS I A C m loop t0 t2 (D+1) (.mk 5 t mE mE ea ec [T] ba bc b la lc []):=
 ⟨by simp[ST.rightB,zam,zak,zaO,zbg,zaU,hT.right,hb.right,zbH h0 h1],fun k hk=>by
  have hB:=hb.len (k+1) (by omega)
  refine zdn (t:=t.toNat) (n:=222+255*nSs (rss b)) (by show t.toNat≤_;omega) hk ?_ (by show _≤255*(1+nB (.whl _ _ (rss b)));rw[nB];omega)
  show([119,104,105,108,101]++32 :: 40 :: (putR levL T.re++41 :: 32 :: 123 :: 10 :: (putL levL (k+1) (rss b)++(za4 k++[125])))).length≤_
  have:=ge2 hT hd
  have:=tabs_len k
  simp only[List.length_append,List.length_cons,List.length_nil];omega,by
  show dpB (.whl _ T.re (rss b))≤_
  rw[dpB]
  have:=hT.dep
  have:=hb.dep
  omega,fs_whl rfl hT.fit htg.1 hb.fit,fun e=>(hb.mn e).trans (htg.2 e)⟩
theorem gs_ife {D:Nat} (htg:TagM m t t0 t1) {d:Nat} {T:ET} (hT:GE I A d T) (hd:d≤2) {b l:List ST} (hb:GL I A C m loop t1 t2 D b) (hl:b.length≤3) (hl':GL I A C m loop t2 t3 D l) (hll:l.length≤2) (ea:Option Addr) (ec:Nat) (ba:Option Addr) (bc:Nat) (la:Option Addr) (lc:Nat):GS I A C m loop t0 t3 (D+1) (.mk 4 t mE mE ea ec [T] ba bc b la lc l):=
 ⟨by simp[ST.rightB,zam,zak,zaO,zbg,zaU,hT.right,hb.right,hl'.right,zbH h0 h1],fun k hk=>by
  have hB:=hb.len (k+1) (by omega)
  have hL:=hl'.len (k+1) (by omega)
  refine zdn (t:=t.toNat) (n:=222+255*(nSs (rss b)+nSs (rss l))) (by show t.toNat≤_;omega) hk ?_ (by show _≤255*(1+nB (.ife _ _ (rss b) (rss l)));rw[nB];omega)
  show([105,102]++32 :: 40 :: (putR levL T.re++41 :: 32 :: 123 :: 10 :: (putL levL (k+1) (rss b)++(za4 k++125 :: (if (rss l).isEmpty then [] else 32 :: ([101,108,115,101]++32 :: 123 :: 10 :: (putL levL (k+1) (rss l)++(za4 k++[125])))))))).length≤_
  have:=ge2 hT hd
  have:=tabs_len k
  split
  ·simp only[List.length_append,List.length_cons,List.length_nil];omega
  ·simp only[List.length_append,List.length_cons,List.length_nil];omega,by
  show dpB (.ife _ T.re (rss b) (rss l))≤_
  rw[dpB]
  have:=hT.dep
  have:=hb.dep
  have:=hl'.dep
  omega,fs_ife rfl hT.fit htg.1 hb.fit hl'.fit,fun e=>(hl'.mn e).trans ((hb.mn e).trans (htg.2 e))⟩
end
end Go.Proofs.YtljbbhhiiiepcaaGreatDoor
namespace Go.Proofs.YtljbbhhiiiepcaaGreatDoor
open Go Go.RowKit
open Go.Lib (hid)
structure FeedC where
 la:Option Addr
 len:Nat
 cap:Nat
 zs:List Int
 ia:Nat
 ns:List ByteArray
 xa:Nat
 ms:List ByteArray
 main:Bool
def NamesIn (B f ia:Nat) (ns:List ByteArray) (w:World):Prop:=ia < B∧ia≠f∧(0 < ns.length∧ns.length≤10)∧∀i,i < ns.length→w.cell? ⟨ia,i,none⟩=some (.string (ns.getD i mE))∧nmB (ns.getD i mE)=true
theorem NamesIn.grown {B f ia:Nat} {ns:List ByteArray} {w w':World} (h:NamesIn B f ia ns w) (hs:B≤w.heap.size) (hg:w.grownBy w' (some f)):NamesIn B f ia ns w':=
 ⟨h.1,h.2.1,h.2.2.1,fun i hi=>⟨by
  have h1:=(h.2.2.2 i hi).1
  rw[World.cell?_of_block (w:=w) (hg.block ia (by have:=h.1;omega) (by have:=h.2.1;simp;omega))]
  exact h1,(h.2.2.2 i hi).2⟩⟩
structure Fd (F:FeedC) (B f:Nat) (p:Nat) (left tag:Int) (w:World):Prop where
 lt:f < B
 size:B≤w.heap.size
 blk:w.heap[f]?=some (.cells #[.slice F.la F.len F.cap,.int .i64 p,.slice (some ⟨F.ia,0,none⟩) F.ns.length F.ns.length,.slice (some ⟨F.xa,0,none⟩) F.ms.length F.ms.length,.int .i64 left,.int .i64 tag,.bool F.main] 119 (0,0))
 lep:p≤F.len
 lel:F.len≤9223372036854775807
 bytes:∀i,i < F.len→∃b off,F.la=some ⟨b,off,none⟩∧b < B∧b≠f∧w.cell? ⟨b,off+i,none⟩=some (.int .u8 (F.zs.getD i 0))∧0≤F.zs.getD i 0∧F.zs.getD i 0≤255
 ints:NamesIn B f F.ia F.ns w
 arrs:NamesIn B f F.xa F.ms w
section
variable {F:FeedC} {B f:Nat} {p:Nat} {left tag:Int} {w:World}
theorem Fd.put (h:Fd F B f p left tag w) {w':World} (hg:w.grownBy w' (some f)) {q:Nat} {l' t':Int} (hq:q≤F.len) (hb:w'.heap[f]?=some (.cells #[.slice F.la F.len F.cap,.int .i64 q,.slice (some ⟨F.ia,0,none⟩) F.ns.length F.ns.length,.slice (some ⟨F.xa,0,none⟩) F.ms.length F.ms.length,.int .i64 l',.int .i64 t',.bool F.main] 119 (0,0))):Fd F B f q l' t' w':=
 ⟨h.lt,Nat.le_trans h.size hg.size,hb,hq,h.lel,fun i hi=>by
  obtain⟨b,off,e,hb,hne,hc,hv⟩:=h.bytes i hi
  refine⟨b,off,e,hb,hne,?_,hv⟩
  rw[World.cell?_of_block (w:=w) (hg.block b (by have:=h.size;omega) (by simp;omega))]
  exact hc,h.ints.grown h.size hg,h.arrs.grown h.size hg⟩
theorem Fd.setp (h:Fd F B f p left tag w) {q:Nat} (hq:q≤F.len):Fd F B f q left tag (w.setCell ⟨f,1,none⟩ (.int .i64 q)):=h.put (zaZ _ _ _ _) hq (zaH _ h.blk)
theorem Fd.setl (h:Fd F B f p left tag w) (l':Int):Fd F B f p l' tag (w.setCell ⟨f,4,none⟩ (.int .i64 l')):=h.put (zaZ _ _ _ _) h.lep (zaH _ h.blk)
theorem Fd.sett (h:Fd F B f p left tag w) (t':Int):Fd F B f p left t' (w.setCell ⟨f,5,none⟩ (.int .i64 t')):=h.put (zaZ _ _ _ _) h.lep (zaH _ h.blk)
theorem Fd.on (h:Fd F B f p left tag w) {w':World} (hb:Below w.heap.size w w'):Fd F B f p left tag w':=
 h.put ⟨hb.os,hb.tape,hb.output,hb.size,fun k hk _=>hb.block k hk⟩ h.lep ((hb.block f (lt_of_block h.blk)).trans h.blk)
theorem Fd.alloc (h:Fd F B f p left tag w) (o:Obj):Fd F B f p left tag (w.alloc o):=h.on ((Below.refl _ _).alloc (Nat.le_refl _) _)
theorem Fd.keep (h:Fd F B f p left tag w) {w':World} (hs:B≤w'.heap.size) (hk:∀b,b < B→w'.heap[b]?=w.heap[b]?):Fd F B f p left tag w':=
 ⟨h.lt,hs,(hk f h.lt).trans h.blk,h.lep,h.lel,fun i hi=>by
  obtain⟨b,off,e,hb,hne,hc,hv⟩:=h.bytes i hi
  refine⟨b,off,e,hb,hne,?_,hv⟩
  rw[World.cell?_of_block (w:=w) (hk b hb)]
  exact hc,⟨h.ints.1,h.ints.2.1,h.ints.2.2.1,fun i hi=>⟨by
   rw[World.cell?_of_block (w:=w) (hk F.ia h.ints.1)]
   exact(h.ints.2.2.2 i hi).1,(h.ints.2.2.2 i hi).2⟩⟩,⟨h.arrs.1,h.arrs.2.1,h.arrs.2.2.1,fun i hi=>⟨by
   rw[World.cell?_of_block (w:=w) (hk F.xa h.arrs.1)]
   exact(h.arrs.2.2.2 i hi).1,(h.arrs.2.2.2 i hi).2⟩⟩⟩
theorem Fd.far (h:Fd F B f p left tag w) {R:Nat} (hR:B≤R) (k:Nat) (u:Value):Fd F B f p left tag (w.setCell ⟨R,k,none⟩ u):=
 h.keep (by simpa[World.setCell] using h.size) fun b hb=>Below.heap_setCell _ _ _ _ (by simp;omega)
theorem Fd.grownR (h:Fd F B f p left tag w) {R:Nat} (hR:B≤R) {w':World} (hg:w.grownBy w' (some R)):Fd F B f p left tag w':=
 h.keep (Nat.le_trans h.size hg.size) fun b hb=>hg.block b (by have:=h.size;omega) (by simp;omega)
theorem Fd.drew (h:Fd F B f p left tag w):Fd F B f p left tag w.drew:=h.on (Below.refl _ _).drew
theorem Fd.drewN (h:Fd F B f p left tag w) (n:Nat):Fd F B f p left tag (w.drewN n):=h.on ⟨rfl,rfl,rfl,Nat.le_refl _,fun _ _=>rfl⟩
theorem Fd.c0 (h:Fd F B f p left tag w):w.cell? ⟨f,0,none⟩=some (.slice F.la F.len F.cap):=zab h.blk rfl
theorem Fd.c1 (h:Fd F B f p left tag w):w.cell? ⟨f,1,none⟩=some (.int .i64 p):=zab h.blk rfl
theorem Fd.c2 (h:Fd F B f p left tag w):w.cell? ⟨f,2,none⟩=some (.slice (some ⟨F.ia,0,none⟩) F.ns.length F.ns.length):=zab h.blk rfl
theorem Fd.c3 (h:Fd F B f p left tag w):w.cell? ⟨f,3,none⟩=some (.slice (some ⟨F.xa,0,none⟩) F.ms.length F.ms.length):=zab h.blk rfl
theorem Fd.c4 (h:Fd F B f p left tag w):w.cell? ⟨f,4,none⟩=some (.int .i64 left):=zab h.blk rfl
theorem Fd.c5 (h:Fd F B f p left tag w):w.cell? ⟨f,5,none⟩=some (.int .i64 tag):=zab h.blk rfl
theorem Fd.c6 (h:Fd F B f p left tag w):w.cell? ⟨f,6,none⟩=some (.bool F.main):=zab h.blk rfl
theorem Fd.f1 (h:Fd F B f p left tag w) (k:Nat):w.frozen? ⟨f,k,none⟩=false:=zac h.blk
def NextPost (F:FeedC) (B f:Nat) (left tag:Int) (w:World) (e:Ending) (w':World):Prop:=∃(v:Int) (q:Nat),e=.returned (.int .i64 v)∧(0≤v∧v≤255)∧Fd F B f q left tag w'∧w.grownBy w' (some f)
theorem next_any (h:Fd F B f p left tag w):Calls Tryz.prog 133 #[.pointer (some ⟨f,0,none⟩)] w (NextPost F B f left tag w):=by
 have c0:=h.c0
 have c1:=h.c1
 have f1:=h.f1 1
 have hl:=h.lep
 have hm:=h.lel
 by_cases hlt:p < F.len
 ·obtain⟨b,off,hla,-,hne,hc,hv0,hv1⟩:=h.bytes p hlt
  have hne':(b==f)=false:=by simpa using hne
  have n1:decide (F.len≤p)=false:=by simp;omega
  have b1:p < F.len:=hlt
  have H:=hid h
  have HL:=hid hla
  have HC:=hid hc
  clear h hl hc hlt
  rw[hla] at c0
  clear hla
  go_enter Tryz.func133,Tryz.ntmps133
  go_wp2
  go_quiet (fail)
  go_wp2
  have hg:=zat (f:=f) (zas (zaf w (some f)) nq) 1 (.int .i64 (((p+1:Nat)):Int))
  have H2:=(H.out.drewN nq).setp (q:=p+1) (by omega)
  have e1:((p+1:Nat):Int)=(p:Int)+1:=rfl
  rw[e1] at hg
  have H3:Hid (Fd F B f (p+1) left tag ((w.drewN nq).setCell ⟨f,1,none⟩ (.int .i64 ((p:Int)+1)))):=hid H2
  clear H2
  generalize (w.drewN nq).setCell ⟨f,1,none⟩ (.int .i64 ((p:Int)+1))=w2 at hg H3 ⊢
  have HG:=hid hg
  have d0:=H3.out.c0
  have d1:w2.cell? ⟨f,1,none⟩=some (.int .i64 ((p:Int)+1)):=H3.out.c1
  obtain⟨b',off',hla',-,-,d2,-⟩:=H3.out.bytes p b1
  rw[HL.out] at hla'
  simp only[Option.some.injEq,Addr.mk.injEq,and_true] at hla'
  obtain⟨rfl,rfl⟩:=hla'
  rw[HL.out] at d0
  generalize F.zs.getD p 0=v at hv0 hv1 d2
  have k0:(0:Int)≤p:=by omega
  have k1:(p:Int) < F.len:=by omega
  have k2:IntKind.i64.wrap ((p:Int)+1 - 1)=p:=by rw[Int.add_sub_cancel];exact IntWalk.i64_in _ (by omega)
  clear c0 c1 f1 hg hne e1
  go_quiet (fail)
  go_wp2
  go_ret
  exact⟨v,p+1,rfl,⟨hv0,hv1⟩,H3.out.drewN _,zas HG.out _⟩
 ·have n1:decide (F.len≤p)=true:=by simp;omega
  have H:=hid h
  clear h hl
  go_enter Tryz.func133,Tryz.ntmps133
  go_wp2
  go_quiet (fail)
  go_wp2
  go_ret
  exact⟨0,p,rfl,by omega,H.out.drewN _,zas (zaf _ _) _⟩
end
end Go.Proofs.YtljbbhhiiiepcaaGreatDoor
