/- The program that reads so many numbers, as it lies in memory. -/
import Derived.Test.YtbilfdapmbahgaaGreatDoorRSame
import Derived.Test.YtbilfdapmbahgaaGreatDoorREx
set_option linter.unusedSimpArgs false
set_option linter.unusedVariables false
set_option maxHeartbeats 8000000
set_option maxRecDepth 100000
namespace Go.Proofs.YtbilfdapmbahgaaGreatDoor.Rn
open Go Go.RowKit Go.Proofs.YtbilfdapmbahgaaGreatDoor Go.Proofs.YtbilfdapmbahgaaGreatDoor.Ev
open Go.Proofs.YtbilfdapmbahgaaGreatDoor.Ck (progR critR ze2)
def rdBody (n:Nat):List RS:=(List.range n).flatMap fun i=>[.rd 0 [97],.sto 0 [120,115] (.num (i:Nat)) (.var [97])]
def zcp (n:Nat):List RF:=[⟨[109,97,105,110],[],[([97],0),([120,115],15)],[.whl 0 (.num 1) (rdBody n++[.brk 0]),.ret 0 (.num 0)]⟩]
def tlN:Nat→List Int→List Int
 | 0,z=>z
 | i+1,z=>(tlN i z).tail
theorem tlN_drop (z:List Int):∀i,tlN i z=z.drop i
 | 0=>rfl
 | i+1=>by rw[tlN,tlN_drop z i,List.tail_drop]
theorem tlN_head (z:List Int) (i:Nat):(tlN i z).headD 0=z.getD i 0:=by
 rw[tlN_drop,List.headD_eq_head?_getD,List.head?_drop,List.getD_eq_getElem?_getD]
def zcP (n:Nat) (zs:List Int):List Int:=(List.range 15).map fun i=>if i < n then (tlN i zs).headD 0 else 0
def zdR (n:Nat) (zs:List Int):Int×Nat×Nat×Option (List (List UInt8×Bool)×Option (List Int)):=
 ((zaR (zcp n) 100 zs).trapN,(zaR (zcp n) 100 zs).st.left,(zaR (zcp n) 100 zs).st.ev.length,(zaR (zcp n) 100 zs).st.ev.getLast?.map fun u=>(u.cells.map fun c=>(c.name,c.arr),u.cells[1]?.map fun c=>c.v))
theorem rd_ans0 (zs:List Int):zdR 0 zs=(0,97 - 2*0,2*0+3,some ([([97],false),([120,115],true)],some (zcP 0 zs))):=by kernel_rfl
theorem rd_ans1 (zs:List Int):zdR 1 zs=(0,97 - 2*1,2*1+3,some ([([97],false),([120,115],true)],some (zcP 1 zs))):=by kernel_rfl
theorem rd_ans2 (zs:List Int):zdR 2 zs=(0,97 - 2*2,2*2+3,some ([([97],false),([120,115],true)],some (zcP 2 zs))):=by kernel_rfl
theorem rd_ans3 (zs:List Int):zdR 3 zs=(0,97 - 2*3,2*3+3,some ([([97],false),([120,115],true)],some (zcP 3 zs))):=by kernel_rfl
theorem rd_ans4 (zs:List Int):zdR 4 zs=(0,97 - 2*4,2*4+3,some ([([97],false),([120,115],true)],some (zcP 4 zs))):=by kernel_rfl
theorem rd_ans5 (zs:List Int):zdR 5 zs=(0,97 - 2*5,2*5+3,some ([([97],false),([120,115],true)],some (zcP 5 zs))):=by kernel_rfl
theorem rd_ans6 (zs:List Int):zdR 6 zs=(0,97 - 2*6,2*6+3,some ([([97],false),([120,115],true)],some (zcP 6 zs))):=by kernel_rfl
theorem rd_ans7 (zs:List Int):zdR 7 zs=(0,97 - 2*7,2*7+3,some ([([97],false),([120,115],true)],some (zcP 7 zs))):=by kernel_rfl
theorem rd_ans8 (zs:List Int):zdR 8 zs=(0,97 - 2*8,2*8+3,some ([([97],false),([120,115],true)],some (zcP 8 zs))):=by kernel_rfl
theorem rd_ans9 (zs:List Int):zdR 9 zs=(0,97 - 2*9,2*9+3,some ([([97],false),([120,115],true)],some (zcP 9 zs))):=by kernel_rfl
theorem rd_ans10 (zs:List Int):zdR 10 zs=(0,97 - 2*10,2*10+3,some ([([97],false),([120,115],true)],some (zcP 10 zs))):=by kernel_rfl
theorem rd_ans11 (zs:List Int):zdR 11 zs=(0,97 - 2*11,2*11+3,some ([([97],false),([120,115],true)],some (zcP 11 zs))):=by kernel_rfl
theorem rd_ans12 (zs:List Int):zdR 12 zs=(0,97 - 2*12,2*12+3,some ([([97],false),([120,115],true)],some (zcP 12 zs))):=by kernel_rfl
theorem rd_ans13 (zs:List Int):zdR 13 zs=(0,97 - 2*13,2*13+3,some ([([97],false),([120,115],true)],some (zcP 13 zs))):=by kernel_rfl
theorem rd_ans14 (zs:List Int):zdR 14 zs=(0,97 - 2*14,2*14+3,some ([([97],false),([120,115],true)],some (zcP 14 zs))):=by kernel_rfl
theorem rd_ans (n:Nat) (hn:n < 15) (zs:List Int):zdR n zs=(0,97 - 2*n,2*n+3,some ([([97],false),([120,115],true)],some (zcP n zs))):=by
 match n,hn with
 | 0,_=>exact rd_ans0 zs
 | 1,_=>exact rd_ans1 zs
 | 2,_=>exact rd_ans2 zs
 | 3,_=>exact rd_ans3 zs
 | 4,_=>exact rd_ans4 zs
 | 5,_=>exact rd_ans5 zs
 | 6,_=>exact rd_ans6 zs
 | 7,_=>exact rd_ans7 zs
 | 8,_=>exact rd_ans8 zs
 | 9,_=>exact rd_ans9 zs
 | 10,_=>exact rd_ans10 zs
 | 11,_=>exact rd_ans11 zs
 | 12,_=>exact rd_ans12 zs
 | 13,_=>exact rd_ans13 zs
 | 14,_=>exact rd_ans14 zs
 | n+15,h=>exact absurd h (by omega)
theorem rd_ref:∀n,n < 15→refR (zcp n) 100 0 []=0∧runsR (zcp n)=true∧ze2 (zcp n)=true:=by
 intro n hn
 have h:((List.range 15).all fun n=>decide (refR (zcp n) 100 0 []=0)&&(runsR (zcp n)&&ze2 (zcp n)))=true:=by kernel_rfl
 have:=List.all_eq_true.1 h n (List.mem_range.2 hn)
 simp only[Bool.and_eq_true,decide_eq_true_eq] at this
 exact this
end Go.Proofs.YtbilfdapmbahgaaGreatDoor.Rn

namespace Go.Proofs.YtbilfdapmbahgaaGreatDoor.Rn
open Go Go.RowKit Go.Proofs.YtbilfdapmbahgaaGreatDoor Go.Proofs.YtbilfdapmbahgaaGreatDoor.Ev
open Go.Proofs.YtbilfdapmbahgaaGreatDoor.Ck (chkF critF Small StrsIn progR critR ze2 chk_rf crit_rf zdi zbx bal bre nb ob bl zbB PBox)
abbrev e0:ByteArray:={data:=#[]}
abbrev nA1:ByteArray:={data:=#[97]}
abbrev nXs1:ByteArray:={data:=#[120,115]}
abbrev nMn:ByteArray:={data:=#[109,97,105,110]}
def numE (n:Int):ET:=.mk 0 e0 n e0 none 0 []
def varE (s:ByteArray):ET:=.mk 1 e0 0 s none 0 []
def rdS:ST:=.mk 2 0 nA1 e0 none 0 [] none 0 [] none 0 []
def stoS (i:Int) (e:Nat):ST:=.mk 1 0 nXs1 e0 (some ⟨e,0,none⟩) 2 [numE i,varE nA1] none 0 [] none 0 []
def brS:ST:=.mk 6 0 e0 e0 none 0 [] none 0 [] none 0 []
def whS (e:Nat) (ba:Option Addr) (bc:Nat) (b:List ST):ST:=.mk 5 0 e0 e0 (some ⟨e,0,none⟩) 1 [numE 1] ba bc b none 0 []
def rtS (e:Nat):ST:=.mk 8 0 e0 e0 (some ⟨e,0,none⟩) 1 [numE 0] none 0 [] none 0 []
abbrev zcb (n:Int):Array Value:=#[.int .i64 0,.string e0,.int .i64 n,.string e0,.slice none 0 0]
abbrev cell10 (i:Int):Array Value:=#[.int .i64 0,.string e0,.int .i64 i,.string e0,.slice none 0 0,.int .i64 1,.string e0,.int .i64 0,.string nA1,.slice none 0 0]
abbrev cell14 (e:Nat):Array Value:=#[.int .i64 2,.int .i64 0,.string nA1,.string e0,.slice none 0 0,.slice none 0 0,.slice none 0 0,.int .i64 1,.int .i64 0,.string nXs1,.string e0,.slice (some ⟨e,0,none⟩) 2 2,.slice none 0 0,.slice none 0 0]
abbrev cell7:Array Value:=#[.int .i64 6,.int .i64 0,.string e0,.string e0,.slice none 0 0,.slice none 0 0,.slice none 0 0]
abbrev cellM (e:Nat) (ba:Option Addr) (bn bc e':Nat):Array Value:=#[.int .i64 5,.int .i64 0,.string e0,.string e0,.slice (some ⟨e,0,none⟩) 1 1,.slice ba bn bc,.slice none 0 0,.int .i64 8,.int .i64 0,.string e0,.string e0,.slice (some ⟨e',0,none⟩) 1 1,.slice none 0 0,.slice none 0 0]
theorem numE_in {n:Int} (h:-9223372036854775808≤n∧n≤9223372036854775807) (w:World) (B:Nat):(numE n).In w B:=num_in h w B
theorem varE_in (s:ByteArray) (w:World) (B:Nat):(varE s).In w B:=var_in s w B
theorem made_cat {B0 A:Nat} {v v':Value} {l m:List ST} {w w':World} (h:MadeL B0 v l w) (hm:∀S∈m,S.In w A) (hA:B0≤A) (hv:∀k,v.ownBlock=some k→k < A)
  (hown:w'.ownsRow B0 84 7 v' (l.length+m.length) ((l.flatMap fun S=>S.cells.toList)++(m.flatMap fun S=>S.cells.toList))) (hg:w.grownBy w' v.ownBlock) (hat:v'.ownBlock=v.ownBlock∨v'.ownBlock=some w.heap.size):MadeL B0 v' (l++m) w':=by
 have key:∀{T:ST},T.In (hide v.ownBlock w) B0→T.In (hide v'.ownBlock w') B0:=fun hT=>hT.keep fun p u hp hc=>by
  rw[zaG] at hc ⊢
  have hlt:=World.block_lt_of_cell? w p hc.2
  refine⟨?_,?_⟩
  ·rcases hat with e | e
   ·rw[e];exact hc.1
   ·rw[e];simp;omega
  ·rw[World.cell?_of_block (w:=w) (hg.block p.block hlt hc.1)]
   exact hc.2
 refine⟨by rw[List.length_append,List.flatMap_append];exact hown,fun T hT=>?_⟩
 rcases List.mem_append.1 hT with hT | hT
 ·exact key (h.2 T hT)
 ·refine key (((hm T hT).keep (w':=hide v.ownBlock w) fun p u hp hc=>?_).mono hA)
  rw[zaG]
  refine⟨fun e=>?_,hc⟩
  have:=hv _ e.symm
  omega
theorem two_cells (i:Int) (e:Nat):([rdS,stoS i e].flatMap fun S=>S.cells.toList)=(cell14 e).toList:=rfl
theorem br_cells:([brS].flatMap fun S=>S.cells.toList)=cell7.toList:=rfl
theorem flat_in {k t:Int} {n f:ByteArray} {w:World} {B:Nat} (h:-9223372036854775808≤t∧t≤9223372036854775807):(ST.mk k t n f none 0 [] none 0 [] none 0 []).In w B:=by
 rw[ST.In,EsIn,SsIn]
 exact⟨h,by simp,trivial,trivial,trivial⟩
theorem one_in {k t:Int} {n f:ByteArray} {e:Nat} {E:List ET} {ec:Nat} {ba:Option Addr} {bc:Nat} {b:List ST} {w:World} {B:Nat} (h:-9223372036854775808≤t∧t≤9223372036854775807) (hl:E.length≤9223372036854775807∧b.length≤9223372036854775807) (he:EsIn w B (some ⟨e,0,none⟩) 0 E) (hb:SsIn w B ba 0 b):(ST.mk k t n f (some ⟨e,0,none⟩) ec E ba bc b none 0 []).In w B:=by
 rw[ST.In]
 refine⟨h,⟨hl.1,hl.2,by simp⟩,he,hb,?_⟩
 rw[SsIn];trivial
theorem rdS_in (w:World) (B:Nat):rdS.In w B:=flat_in (by decide)
theorem brS_in (w:World) (B:Nat):brS.In w B:=flat_in (by decide)
theorem ss_nil (w:World) (B:Nat):SsIn w B none 0 []:=by rw[SsIn];trivial
theorem stoS_in {i:Int} {e B:Nat} {w:World} (hi:0≤i∧i≤100) (h:w.heap[e]?=some (.cells (cell10 i) 86 (0,0))) (hB:B≤e):(stoS i e).In w B:=
 one_in (by decide) (by show 2≤9223372036854775807∧0≤9223372036854775807;decide) (es_two_of (T:=numE i) (U:=varE nA1) h (fun _ _ h=>h) (numE_in (by omega) w B) (varE_in _ w B) hB) (ss_nil w B)
theorem whS_in {e B bc:Nat} {ba:Option Addr} {b:List ST} {w:World} (h:w.heap[e]?=some (.cells (zcb 1) 86 (0,0))) (hB:B≤e) (hl:b.length≤9223372036854775807) (hb:SsIn w B ba 0 b):(whS e ba bc b).In w B:=
 one_in (by decide) ⟨by decide,hl⟩ (zdF (T:=numE 1) h (numE_in (by decide) w B) hB) hb
theorem rtS_in {e B:Nat} {w:World} (h:w.heap[e]?=some (.cells (zcb 0) 86 (0,0))) (hB:B≤e):(rtS e).In w B:=
 one_in (by decide) (by show 1≤9223372036854775807∧0≤9223372036854775807;decide) (zdF (T:=numE 0) h (numE_in (by decide) w B) hB) (ss_nil w B)
structure RdL (k:Nat) (l:List ST):Prop where
 rs:rss l=rdBody k
 right:zam l=true
 len:l.length=2*k
theorem rdL_nil:RdL 0 []:=⟨rfl,rfl,rfl⟩
theorem rdBody_succ (k:Nat):rdBody (k+1)=rdBody k++[.rd 0 [97],.sto 0 [120,115] (.num (k:Nat)) (.var [97])]:=by
 unfold rdBody
 rw[List.range_succ,List.flatMap_append]
 rfl
theorem rss_app (l m:List ST):rss (l++m)=rss l++rss m:=by rw[rss_map,rss_map,rss_map,List.map_append]
theorem RdL.next {k:Nat} {l:List ST} (h:RdL k l) (e:Nat):RdL (k+1) (l++[rdS,stoS (k:Nat) e]):=by
 refine⟨?_,?_,by rw[List.length_append,h.len];simp;omega⟩
 ·rw[rss_app,h.rs,rdBody_succ];rfl
 ·rw[zbU,h.right];kernel_rfl
def rdF (ba:Option Addr) (va e e':Nat) (q:Nat) (c:Nat) (b:List ST):FT:={name:=nMn,pa:=none,pc:=0,params:=[],va:=some ⟨va,0,none⟩,vc:=2,vars:=[(nA1,0),(nXs1,15)],ba:=some ⟨q,0,none⟩,bc:=2,body:=[whS e ba c b,rtS e']}
structure RdIn (w:World) (n:Nat) (a:Option Addr) (l:List FT):Prop where
 rf:l.map FT.rf=zcp n
 right:l.all FT.rightB=true
 fs:FsIn w 0 a l
 one:l.length=1
theorem RdIn.on {w w':World} {n:Nat} {a:Option Addr} {l:List FT} (h:RdIn w n a l) (hp:Past w w'):RdIn w' n a l:=⟨h.rf,h.right,h.fs.on hp,h.one⟩
abbrev rdC (v q:Nat):Array Value:=#[.string nMn,.slice none 0 0,.slice (some ⟨v,0,none⟩) 2 2,.slice (some ⟨q,0,none⟩) 2 2]
theorem rd_in {w:World} {n:Nat} {ba:Option Addr} {bn bc e e' q v g:Nat} {l:List ST} (hl:RdL n l) (hn:n < 15) (hbn:bn=2*n+1) (hb:SsIn w 0 ba 0 (l++[brS]))
  (h1:w.heap[e]?=some (.cells (zcb 1) 86 (0,0))) (h2:w.heap[e']?=some (.cells (zcb 0) 86 (0,0)))
  (h3:w.heap[q]?=some (.cells (cellM e ba bn bc e') 84 (0,0)))
  (h4:w.heap[v]?=some (.cells #[.string nA1,.int .i64 0,.string nXs1,.int .i64 15] 88 (0,0)))
  (h5:w.heap[g]?=some (.cells (rdC v q) 74 (0,0))):∃L:List FT,RdIn w n (some ⟨g,0,none⟩) L:=by
 have hlen:(l++[brS]).length=bn:=by rw[List.length_append,hl.len,hbn];rfl
 have hrl:zam (l++[brS])=true:=by rw[zbU,hl.right];kernel_rfl
 have hS1:(whS e ba bc (l++[brS])).In w 0:=whS_in h1 (Nat.zero_le _) (by rw[hlen];omega) hb
 have hS2:(rtS e').In w 0:=rtS_in h2 (Nat.zero_le _)
 refine⟨[rdF ba v e e' q bc (l++[brS])],?_,?_,⟨by simp,fun i hi=>?_,fun i hi=>?_⟩,rfl⟩
 ·show[FT.rf _]=_
  unfold zcp
  congr 1
  show RF.mk _ _ _ (rss [whS e ba bc (l++[brS]),rtS e'])=_
  have h6:rss (l++[brS])=rdBody n++[.brk 0]:=by rw[rss_app,hl.rs];rfl
  have h7:rss [whS e ba bc (l++[brS]),rtS e']=[.whl 0 (.num 1) (rss (l++[brS])),.ret 0 (.num 0)]:=by
   rw[rss,rss,rss];rfl
  rw[h7,h6]
  rfl
 ·simp only[List.all_cons,List.all_nil,Bool.and_true,FT.rightB,rdF]
  have h8:zam [whS e ba bc (l++[brS]),rtS e']=true:=by
   rw[zam,zam,zam]
   have h9:(whS e ba bc (l++[brS])).rightB=true:=by
    unfold whS
    rw[ST.rightB,hrl]
    have h10:za8 5 0 e0 e0 [numE 1].length (l++[brS]).length ([]:List ST).length=true:=by rw[hlen];kernel_rfl
    have h12:zaq [numE 1]=true:=by kernel_rfl
    have h13:zam []=true:=by kernel_rfl
    rw[show za8 5 0 e0 e0 [numE 1].length (l++[brS]).length ([]:List ST).length=true from h10,h12,h13]
    rfl
   have h11:(rtS e').rightB=true:=by kernel_rfl
   rw[h9,h11];rfl
  rw[h8]
  decide
 ·obtain rfl:i=0:=by simp at hi;omega
  exact⟨g,0,rfl,Nat.zero_le _,fun j u hj=>by rw[show 0+0*4+j=j by omega];exact zab h5 hj⟩
 ·obtain rfl:i=0:=by simp at hi;omega
  refine⟨by simp[rdF],by simp[rdF],by simp[rdF],fun i hi=>by simp[rdF] at hi,fun i hi=>?_,fun i hi=>?_,?_⟩
  ·have hi2:i < 2:=hi
   refine⟨v,0,rfl,Nat.zero_le _,fun j u hj=>zab h4 ?_⟩
   match i,hi2 with
   | 0,_ =>
    match j,hj with
    | 0,hj=>exact hj
    | 1,hj=>exact hj
    | j+2,hj=>simp at hj
   | 1,_ =>
    match j,hj with
    | 0,hj=>exact hj
    | 1,hj=>exact hj
    | j+2,hj=>simp at hj
  ·have hi2:i < 2:=hi
   match i,hi2 with
   | 0,_=>exact(by decide:(-9223372036854775808:Int)≤0∧(0:Int)≤9223372036854775807)
   | 1,_=>exact(by decide:(-9223372036854775808:Int)≤15∧(15:Int)≤9223372036854775807)
  ·show SsIn w 0 (some ⟨q,0,none⟩) 0 [whS e ba bc (l++[brS]),rtS e']
   rw[SsIn,SsIn,SsIn]
   have hc:(whS e ba bc (l++[brS])).cells=#[.int .i64 5,.int .i64 0,.string e0,.string e0,.slice (some ⟨e,0,none⟩) 1 1,.slice ba bn bc,.slice none 0 0]:=by rw[←hlen];rfl
   refine⟨⟨q,0,rfl,Nat.zero_le _,fun j u hj=>zab h3 ?_⟩,hS1,⟨q,0,rfl,Nat.zero_le _,fun j u hj=>zab h3 ?_⟩,hS2,trivial⟩
   ·rw[hc] at hj
    match j,hj with
    | 0,hj=>exact hj
    | 1,hj=>exact hj
    | 2,hj=>exact hj
    | 3,hj=>exact hj
    | 4,hj=>exact hj
    | 5,hj=>exact hj
    | 6,hj=>exact hj
    | j+7,hj=>simp at hj
   ·have hj:(#[.int .i64 8,.int .i64 0,.string e0,.string e0,.slice (some ⟨e',0,none⟩) 1 1,.slice none 0 0,.slice none 0 0]:Array Value)[j]?=some u:=hj
    match j,hj with
    | 0,hj=>exact hj
    | 1,hj=>exact hj
    | 2,hj=>exact hj
    | 3,hj=>exact hj
    | 4,hj=>exact hj
    | 5,hj=>exact hj
    | 6,hj=>exact hj
    | j+7,hj=>simp at hj
structure RdR (w0:World) (n N:Nat) (zs:List Int) (a:Option Addr) (aa:Option Addr) (an ac:Nat):Prop where
 run:∀W,Past w0 W→Calls Tryz.prog 12 #[.agg #[.slice a 1 1],.slice aa an ac,.int .i64 100,.int .i64 0,.slice none 0 0] W fun e w'=>(∃p va vn vc,e=.returned (.tuple #[.agg #[.int .i64 0,.int .i64 ((N+1:Nat):Int),.int .i64 p,.slice va vn vc],.int .i64 0]))∧Below W.heap.size W w'
 vis:∀W,Past w0 W→Calls Tryz.prog 16 #[.agg #[.slice a 1 1],.slice aa an ac,.int .i64 100] W fun e w'=>(∃g g2 g3 tc c2 c3,e=.returned (.tuple #[.slice (some ⟨g,0,none⟩) (N+1) tc,.int .i64 0])∧w'.cell? ⟨g,N*2+1,none⟩=some (.slice (some ⟨g2,0,none⟩) 2 c2)∧w'.cell? ⟨g2,5,none⟩=some (.slice (some ⟨g3,0,none⟩) 15 c3)∧∀i,i < 15→w'.cell? ⟨g3,i,none⟩=some (.int .i64 (if i < n then zs.getD i 0 else 0)))∧Below W.heap.size W w'
theorem rd_r {w0:World} {n N:Nat} {zs:List Int} {a aa:Option Addr} {an ac:Nat} {l:List FT} (h:RdIn w0 n a l) (hn:n < 15) (hN:N=2*n+2) (hz:RowIn .i64 w0 aa an zs) (hzl:zs.length=an) (hz64:∀z∈zs,in64 z) (hcap:an≤ac∧ac≤9223372036854775807):RdR w0 n N zs a aa an ac:=by
 subst hN
 obtain⟨rf,rn,sm⟩:=rd_ref n hn
 have ha:=rd_ans n hn zs
 simp only[zdR,Prod.mk.injEq] at ha
 obtain⟨a1,a2,a3,a4⟩:=ha
 have e1:(100:Int).toNat=100:=rfl
 refine⟨fun W hW=>?_,fun W hW=>?_⟩
 ·have hx:=run_any (w:=W) (fa:=a) (aa:=aa) (va:=none) (fc:=1) (an:=an) (ac:=ac) (vc:=0) (l:=l) (zs:=zs) (fuel:=100) (tag:=0) (vars:=[]) (fun _=>runs_rf h.right (by rw[h.rf];exact rn)) (h.fs.on hW) (zdi h.right (by rw[h.rf];exact sm)) (by decide) (by decide) (fun i hi=>absurd hi (by simp)) (fun s hs=>by cases hs) (zd6 hz hW) hzl hz64 hcap
  rw[h.one] at hx
  refine hx.mono ?_
  intro e w' hq
  unfold RunPost at hq
  rw[ref_rf h.right,h.rf] at hq
  obtain⟨hb,⟨h1,-⟩ | ⟨-,v,hv,rfl⟩⟩:=hq
  ·exact absurd rf h1
  ·rw[e1,a1,a2]
   obtain⟨va,vc,rfl,-⟩:=hv
   refine⟨⟨ze7 (zaR (zcp n) 100 zs),va,(zdm 0 [] (zaR (zcp n) ((100:Int).toNat) zs).st.ev).length,vc,?_⟩,hb⟩
   rw[show 100 - (97 - 2*n)=2*n+2+1 by omega]
 ·have hx:=visits_any (w:=W) (fa:=a) (aa:=aa) (fc:=1) (an:=an) (ac:=ac) (l:=l) (zs:=zs) (fuel:=100) (fun _=>runs_rf h.right (by rw[h.rf];exact rn)) (h.fs.on hW) (zdi h.right (by rw[h.rf];exact sm)) (zd6 hz hW) hzl hz64 hcap
  rw[h.one] at hx
  refine hx.mono ?_
  intro e w' hq
  unfold VisPost at hq
  rw[ref_rf h.right,h.rf] at hq
  obtain⟨hb,⟨h1,-⟩ | ⟨-,v,hv,rfl⟩⟩:=hq
  ·exact absurd rf h1
  ·rw[e1] at hv
   obtain⟨va,vc,rfl,hv⟩:=hv
   rw[a3]
   generalize (zaR (zcp n) 100 zs).st.ev=ev at *
   cases hu:ev.getLast? with
   | none=>rw[hu] at a4;cases a4
   | some u =>
    rw[hu] at a4
    simp only[Option.map_some,Option.some.injEq,Prod.mk.injEq] at a4
    obtain⟨c1,c2⟩:=a4
    have hu2:ev[2*n+2]?=some u:=by
     rw[←hu,List.getLast?_eq_getElem?,a3];rfl
    obtain⟨g,s,rfl,q1,q2,ca,cc,rfl,hc⟩:=hv _ u hu2
    have hlen:u.cells.length=2:=by have:=congrArg List.length c1;simpa using this
    cases hp:u.cells[1]? with
    | none=>rw[List.getElem?_eq_none_iff] at hp;omega
    | some pc =>
     rw[hp] at c2
     have hpv:pc.v=zcP n zs:=by simpa using c2
     obtain⟨g2,u2,rfl,-,-,-,q3,na,nc,rfl,hnn⟩:=hc 1 pc hp
     have hrl:(zcP n zs).length=15:=by simp[zcP]
     have hget:∀i,i < 15→(zcP n zs)[i]?=some (if i < n then zs.getD i 0 else 0):=fun i hi=>by
      unfold zcP
      rw[List.getElem?_map,List.getElem?_range hi,Option.map_some,tlN_head]
     obtain⟨g3,rfl,-,q4⟩:=hnn 0 _ (by rw[hpv];exact hget 0 (by omega))
     rw[hlen] at q2
     rw[hpv,hrl] at q3
     refine⟨⟨g,g2,g3,_,_,_,rfl,q2,q3,fun i hi=>?_⟩,hb⟩
     obtain⟨g4,e4,-,q5⟩:=hnn i _ (by rw[hpv];exact hget i hi)
     cases e4
     exact q5
end Go.Proofs.YtbilfdapmbahgaaGreatDoor.Rn
