/- A row that a loop appends to, of whatever elements: each takes so many cells; what an element's own parts ask lies elsewhere. -/
import Derived.Test.YtljbbhhiiiepcaaGreatDoorPFin
import Derived.Test.YtljbbhhiiiepcaaGreatDoorPStB
import Derived.Test.YtljbbhhiiiepcaaGreatDoorTProg3
set_option linter.unusedSimpArgs false
set_option linter.unusedVariables false
set_option maxHeartbeats 8000000
set_option maxRecDepth 100000
namespace Go.Proofs.YtljbbhhiiiepcaaGreatDoor.Pm
open Go Go.RowKit Go.Proofs.YtljbbhhiiiepcaaGreatDoor
open Go.Lib (hid)
structure Kd (α:Type) where
 t:TypeId
 z:Nat
 cl:α→List Value
 In:World→Nat→α→Prop
 len:∀a,(cl a).length=z
 keep:∀{w w':World} {B:Nat} {a:α},In w B a→(∀p v,B≤p.block→w.cell? p=some v→w'.cell? p=some v)→In w' B a
 mono:∀{w:World} {B B':Nat} {a:α},In w B a→B'≤B→In w B' a
section
variable {α:Type} {K:Kd α} {B0 A f:Nat} {v v':Value} {l:List α} {S:α} {w w':World}
def MadeG (K:Kd α) (B0:Nat) (v:Value) (l:List α) (w:World):Prop:=
 w.ownsRow B0 K.t K.z v l.length (l.flatMap K.cl)∧∀S∈l,K.In (hide v.ownBlock w) B0 S
theorem made_oneG (K:Kd α) {a:α} {n:Nat} {c:Array Value} (hc:c.toList=K.cl a) (hb:w.heap[n]?=some (.cells c K.t (0,0))) (hn:B0≤n) (ha:K.In (hide (some n) w) B0 a):MadeG K B0 (.slice (some ⟨n,0,none⟩) 1 1) [a] w:=by
 refine⟨⟨by simp[K.len a],Or.inr ⟨n,1,c,rfl,hn,hb,Nat.le_refl _,by decide,?_,?_⟩⟩,fun S hS=>?_⟩
 ·rw[←Array.length_toList,hc,K.len a,Nat.one_mul]
 ·rw[hc,←K.len a]
  simp
 ·simp only[List.mem_singleton] at hS
  subst hS
  exact ha
theorem MadeG.grown (h:MadeG K B0 v l w) (hg:w.grownBy w' (some f)) (hf:f < B0):MadeG K B0 v l w':=by
 have hne:v.ownBlock≠some f:=fun e=>by have:=(h.1.lt _ e).1;omega
 refine⟨h.1.kept hg (Or.inr hne),fun S hS=>K.keep (h.2 S hS) fun p u hp hc=>?_⟩
 rw[zav] at hc ⊢
 refine⟨hc.1,?_⟩
 rw[World.cell?_of_block (w:=w) (hg.block p.block (World.block_lt_of_cell? w p hc.2) (by simp;omega))]
 exact hc.2
theorem MadeG.alloc (h:MadeG K B0 v l w) (o:Obj):MadeG K B0 v l (w.alloc o):=by
 refine⟨h.1.alloc o,fun S hS=>K.keep (h.2 S hS) fun p u hp hc=>?_⟩
 rw[zav] at hc ⊢
 refine⟨hc.1,?_⟩
 rw[World.cell?_alloc_lt _ _ _ (World.block_lt_of_cell? w p hc.2)]
 exact hc.2
theorem MadeG.snoc (h:MadeG K B0 v l w) (hS:K.In w A S) (hA:B0≤A) (hv:∀k,v.ownBlock=some k→k < A)
  (hown:w'.ownsRow B0 K.t K.z v' (l.length+1) ((l.flatMap K.cl)++K.cl S)) (hg:w.grownBy w' v.ownBlock) (hat:v'.ownBlock=v.ownBlock∨v'.ownBlock=some w.heap.size):MadeG K B0 v' (l++[S]) w':=by
 have key:∀{T:α},K.In (hide v.ownBlock w) B0 T→K.In (hide v'.ownBlock w') B0 T:=fun hT=>K.keep hT fun p u hp hc=>by
  rw[zav] at hc ⊢
  have hlt:=World.block_lt_of_cell? w p hc.2
  refine⟨?_,?_⟩
  ·rcases hat with e | e
   ·rw[e];exact hc.1
   ·rw[e];simp;omega
  ·rw[World.cell?_of_block (w:=w) (hg.block p.block hlt hc.1)]
   exact hc.2
 refine⟨by simpa using hown,fun T hT=>?_⟩
 rcases List.mem_append.1 hT with hT | hT
 ·exact key (h.2 T hT)
 ·simp only[List.mem_singleton] at hT
  subst hT
  refine key (K.mono (K.keep (w':=hide v.ownBlock w) hS fun p u hp hc=>?_) hA)
  rw[zav]
  refine⟨fun e=>?_,hc⟩
  have:=hv _ e.symm
  omega
theorem flat_atG (K:Kd α):∀(l:List α) (i j:Nat) (hi:i < l.length),j < K.z→(l.flatMap K.cl)[i*K.z+j]?=(K.cl l[i])[j]?
 | S :: l,0,j,_,hj=>by
  rw[List.flatMap_cons,List.getElem?_append_left (by rw[K.len];omega)]
  simp
 | S :: l,i+1,j,hi,hj=>by
  rw[List.flatMap_cons,List.getElem?_append_right (by rw[K.len,Nat.add_mul];omega),K.len]
  rw[show(i+1)*K.z+j - K.z=i*K.z+j by rw[Nat.add_mul];omega]
  exact flat_atG K l i j (by simpa using hi) hj
def RowsG (K:Kd α) (w:World) (B:Nat) (a:Option Addr) (l:List α):Prop:=∀(i:Nat) (hi:i < l.length),RowAt w B a i K.z (K.cl l[i]).toArray∧K.In w B l[i]
theorem MadeG.rows (h:MadeG K B0 v l w):∃a c,v=.slice a l.length c∧RowsG K w B0 a l:=by
 have hin:∀S∈l,K.In w B0 S:=fun S hS=>K.keep (h.2 S hS) fun p u hp hc=>(zav.1 hc).2
 rcases h.1.2 with ⟨e,hl⟩ | ⟨g,cap,cur,e,hg,hb,hn,hm,hs,ht⟩
 ·have:l=[]:=List.length_eq_zero_iff.1 hl
  subst this
  exact⟨none,0,e,fun i hi=>by simp at hi⟩
 ·refine⟨some ⟨g,0,none⟩,cap,e,fun j hj=>⟨⟨g,0,rfl,hg,fun k u hk=>?_⟩,hin _ (List.getElem_mem hj)⟩⟩
  have hk5:k < K.z:=by
   have h1:=K.len l[j]
   rcases Nat.lt_or_ge k K.z with h2 | h2
   ·exact h2
   ·rw[Array.getElem?_eq_none (by simpa using (by rw[←h1] at h2;simpa using h2))] at hk;cases hk
  refine zab hb ?_
  have h1:=flat_atG K l j k hj hk5
  rw[←ht] at h1
  rw[List.getElem?_take_of_lt (by
   have h2:j*K.z+K.z≤l.length*K.z:=by
    have:=Nat.mul_le_mul_right K.z (show j+1≤l.length from hj)
    rw[Nat.add_mul] at this
    omega
   omega)] at h1
  rw[show 0+j*K.z+k=j*K.z+k by omega,←Array.getElem?_toList,h1]
  simpa using hk
theorem RowsG.keep {B:Nat} {a:Option Addr} (h:RowsG K w B a l) (hk:∀p v,B≤p.block→w.cell? p=some v→w'.cell? p=some v):RowsG K w' B a l:=fun i hi=>⟨(h i hi).1.keep hk,K.keep (h i hi).2 hk⟩
theorem RowsG.mono {B B':Nat} {a:Option Addr} (h:RowsG K w B a l) (hB:B'≤B):RowsG K w B' a l:=fun i hi=>⟨(h i hi).1.mono hB,K.mono (h i hi).2 hB⟩
theorem RowsG.on {B:Nat} {a:Option Addr} (h:RowsG K w B a l) (hb:Below w.heap.size w w'):RowsG K w' B a l:=h.keep (zaP hb)
end
def KN:Kd (List UInt8):=⟨9,1,fun a=>[.string (bs a)],fun _ _ _=>True,fun _=>rfl,fun _ _=>trivial,fun _ _=>trivial⟩
def KD:Kd (List UInt8×Nat):=⟨76,2,fun a=>[.string (bs a.1),.int .i64 (a.2:Nat)],fun _ _ _=>True,fun _=>rfl,fun _ _=>trivial,fun _ _=>trivial⟩
def KF:Kd FT:=⟨47,4,fun a=>a.cells.toList,fun w B a=>a.In w B,fun _=>rfl,fun h hk=>h.keep hk,fun h hB=>h.mono hB⟩
def CNs:List (List UInt8)→Value→Nat→World→Prop:=fun r v A w=>∃(a:Option Addr) (c:Nat) (l:List (List UInt8)),v=.slice a l.length c∧l=r∧(∀x∈l,zaK x=true)∧RowsG KN w A a l∧l.length≤200000
def okD (d:List UInt8×Nat):Prop:=zaK d.1=true∧d.2≤1000000
def CDs:List (List UInt8×Nat)→Value→Nat→World→Prop:=fun r v A w=>∃(a:Option Addr) (c:Nat) (l:List (List UInt8×Nat)),v=.slice a l.length c∧l=r∧(∀x∈l,okD x)∧RowsG KD w A a l∧l.length≤200000
def CD:List UInt8×Nat→Value→Nat→World→Prop:=fun d v _ _=>v=.agg #[.string (bs d.1),.int .i64 (d.2:Nat)]∧okD d
def CF:RF→Value→Nat→World→Prop:=fun r v A w=>∃T:FT,v=T.val∧T.rf=r∧T.rightB=true∧T.In w A
def CFs:List RF→Value→Nat→World→Prop:=fun r v A w=>∃(a:Option Addr) (c:Nat) (l:List FT),v=.agg #[.slice a l.length c]∧l.map FT.rf=r∧l.all FT.rightB=true∧FsIn w A a l∧l.length≤200000
structure GInv {α:Type} (K:Kd α) (R:α→Prop) (F:PC) (B f:Nat) (m:PS→PR α) (all:PR (List α)) (w wr:World) (v:Value) (n:Nat) (s':PS) (l:List α):Prop where
 tl:more F.z m n l s'=all
 pa:Pa F B f s' wr
 gr:w.grownBy wr (some f)
 md:MadeG K w.heap.size v l wr
 rt:∀x∈l,R x
 ln:l.length+s'.ws.length≤F.ws.length+1
def GRel {α:Type} (K:Kd α) (R:α→Prop) (F:PC) (B f:Nat) (m:PS→PR α) (all:PR (List α)) (w:World) (v:Value) (wr:World):Prop:=∃(n:Nat) (s':PS) (l:List α),GInv K R F B f m all w wr v n s' l
theorem all_snoc {α:Type} {R:α→Prop} {l:List α} {a:α} (h:∀x∈l,R x) (ha:R a):∀x∈l++[a],R x:=fun x hx=>by
 rcases List.mem_append.1 hx with hx | hx
 ·exact h x hx
 ·simp only[List.mem_singleton] at hx;subst hx;exact ha
theorem zcR {α:Type} {K:Kd α} {P:Nat→Prop} {a:Option Addr} {l:List α} {wa wb:World} {A A':Nat} (hk:KeptP P wa wb) (hP:∀b,A≤b→¬P b) (hA:A'≤A) (h:RowsG K wa A a l):RowsG K wb A' a l:=(h.keep fun p v hp hc=>hk.cell (hP _ hp) hc).mono hA
end Go.Proofs.YtljbbhhiiiepcaaGreatDoor.Pm
namespace Go.Proofs.YtljbbhhiiiepcaaGreatDoor.Pm
open Go Go.RowKit Go.Proofs.YtljbbhhiiiepcaaGreatDoor
open Go.Lib (hid)
theorem str_info:(Tryz.prog.info? 9).map (fun i=>(i.zero,i.size,i.bytes))=some (some (.string {data:=#[]}),1,16):=by kernel_rfl
section
variable {F:PC} {B f:Nat} {s:PS} {w:World}
theorem listN_any (n:Nat) (h:Pa F B f s w) (hfin:Fin (list F.z n (name F.z) s)):
  Calls Tryz.prog 179 #[ptrP f,.func (.func 120) #[] #[]] w (QPost F B f CNs (list F.z n (name F.z) s) w):=by
 have HH:=hid h
 have HFIN:=hid hfin
 have HLT:=hid h.lt
 have HLE:=hid h.le
 obtain⟨ei,hi,hz0,hz1,hz2⟩:=info_parts str_info
 clear hfin h
 go_enter Tryz.func179,Tryz.ntmps179
 go_wp2_with (go_at_call 120;refine(zcy HH.out).mono ?_;intro e w1 hq;rcases hq.split with ⟨a,s1,v,hr,rfl,hC,hp,hg⟩ | ⟨k,s',hr,rfl,hp,hg⟩;rotate_left;(exact⟨rfl,QPost.wrong (by unfold list;rw[hr];rfl) hp hg⟩);obtain rfl:v=.string (bs a):=hC;have HE1:=hid hr;have HP1:=hid hp;have HG1:=hid hg;have HR1:Hid ((fun x=>zaK x=true) a):=hid (name_ok HH.out HE1.out);clear hr hp hg hq)
 have HS0:Hid (GRel KN (fun x=>zaK x=true) F B f (name F.z) (list F.z n (name F.z) s) w (.slice (some ⟨w1.heap.size,0,none⟩) 1 1) (w1.alloc (.cells #[.string (bs a)] 9))):=hid ⟨n,s1,[a],⟨by unfold list;rw[HE1.out];rfl,HP1.out.alloc _,zad HG1.out _,made_oneG KN (c:=#[.string (bs a)]) rfl (zaj _ _) HG1.out.size trivial,fun x hx=>by simp only[List.mem_singleton] at hx;subst hx;exact HR1.out,by have h1:=HP1.out.len;simp;omega⟩⟩
 clear HE1 HP1 HG1 HR1 HH
 go_loopw [5] (fun v wr=>GRel KN (fun x=>zaK x=true) F B f (name F.z) (list F.z n (name F.z) s) w v wr) (fun _ wr=>F.ws.length - posW f wr)
 case atStart=>exact HS0.out
 case round =>
  clear HS0
  obtain⟨n1,s',l,hI⟩:=hrel
  have HTL:=hid hI.tl
  have HP1:=hid hI.pa
  have HG1:=hid hI.gr
  have HMD:=hid hI.md
  have HRT:=hid hI.rt
  have HLN:=hid hI.ln
  have HMY:=hid hI.pa.many
  clear hI
  obtain⟨n2,rfl⟩:∃n2,n1=n2+1:=by
   cases n1 with
   | zero=>exact absurd (by rw[←HTL.out,more]) (HFIN.out s')
   | succ n2=>exact⟨n2,rfl⟩
  rcases hat:at' F.z [44] s' with _ | _
  ·have HTT:Hid (more F.z (name F.z) (n2+1) l s'=.ok l s'):=hid (by rw[more,if_neg (by simp[hat])])
   have HAT:=hid hat
   clear hat
   go_wp2_with (go_at_call 174;refine(zaD HP1.out {data:=#[44]} [44] rfl _ HAT.out).mono ?_;rintro e w2 ⟨rfl,hb⟩;have HB2:=hid hb;clear hb)
   go_ret
   obtain⟨a,c,e,he⟩:=HMD.out.rows
   have hle:=HLE.out
   have hlt:=HLT.out
   refine QPost.good (by rw[←HTL.out,HTT.out]) ⟨a,c,l,e,rfl,HRT.out,he.on HB2.out,by have h1:=HLN.out;have h2:=HMY.out;omega⟩ (HP1.out.on HB2.out) (zaa HG1.out (zae HB2.out _))
  ·have htx:=zcq hat
   have HTT:Hid (more F.z (name F.z) (n2+1) l s'=(name F.z (skip s')).bind fun x s2=>more F.z (name F.z) n2 (l++[x]) s2):=hid (by rw[more,if_pos hat])
   have HAT:=hid hat
   have HTH:Hid (s'.ws≠[]):=hid (zbx htx (by simp))
   have HFL:Hid (za8 (cur F.z s').text=false∧za9 (cur F.z s').text=false):=hid (by rw[htx];exact⟨rfl,rfl⟩)
   clear hat htx
   go_wp2_with (first
    | (at_builtin;refine wpList_append_own_at _ rfl _ _ 32 rfl w.heap.size 9 ei _ 1 16 Tryz.underlying32 hi hz0 hz1 hz2 rfl (by decide) _ l.length _ rfl (HMD4.out.1.alloc _) ⟨w4.heap.size,0,none⟩ 1 1 [.string (bs a)] rfl rfl (World.news_of_block (zaj w4 (.cells #[.string (bs a)] 9))) (fun u hu=>by simp only[List.mem_singleton] at hu;subst hu;rfl) (by have h1:=HLN.out;have h2:=HMY.out;unfold maxLen;omega) (by have h1:=HLN.out;have h2:=HMY.out;omega) (by have:=HG4.out.size;simp;omega) ?_;intro v' w5 hown hgrow hnil hat;have HO5:=hid (And.intro hown (And.intro hgrow hat));clear hown hgrow hnil hat)
    | (go_at_call 120;refine(zcy HP3.out).mono ?_;intro e w4 hq;rcases hq.split with ⟨a,s4,v4,hr,rfl,hC,hp,hg⟩ | ⟨k,s9,hr,rfl,hp,hg⟩;rotate_left;(exact⟨rfl,QPost.wrong (by rw[←HTL.out,HTT.out,hr];rfl) hp (zaa HG3.out hg)⟩);obtain rfl:v4=.string (bs a):=hC;have HE4:=hid hr;have HP4:=hid hp;have HG4:=hid (zaa HG3.out hg);have HMD4:=hid (HMD3.out.grown hg (by have:=HLT.out;have:=HLE.out;omega));have HR4:Hid ((fun x=>zaK x=true) a):=hid (name_ok HP3.out HE4.out);clear hr hp hg hq)
    | (go_at_call 175;refine(zaV HP2.out HTH.out HFL.out.1 HFL.out.2).mono ?_;rintro e w3 ⟨rfl,hp,hg⟩;have HP3:Hid (Pa F B f (skip s') w3):=hid hp;have HG3:=hid (zaa HG2.out hg);have HMD3:=hid (HMD2.out.grown hg (by have:=HLT.out;have:=HLE.out;omega));clear hp hg)
    | (go_at_call 174;refine(zaD HP1.out {data:=#[44]} [44] rfl _ HAT.out).mono ?_;rintro e w2 ⟨rfl,hb⟩;have HP2:=hid (HP1.out.on hb);have HG2:=hid (zaa HG1.out (zae hb (some f)));have HMD2:=hid (HMD.out.grown (zae hb (some f)) (by have:=HLT.out;have:=HLE.out;omega));clear hb))
   obtain⟨o1,o2,o3⟩:=HO5.out
   have hle:=HLE.out
   have hlt:=HLT.out
   have hp5:Pa F B f s4 w5:=(HP4.out.alloc _).grownR (fun R hR=>by have:=(HMD4.out.1.lt _ hR).1;omega) o2
   have h2:=(zdY F.z _ _ _ HE4.out).1
   have h3:(skip s').ws=s'.ws.tail:=rfl
   have h4:0 < s'.ws.length:=List.length_pos_iff.2 HTH.out
   rw[h3,List.length_tail] at h2
   have h1:=HLN.out
   go_roundw
   case rel =>
    refine⟨n2,s4,l++[a],⟨by rw[←HTL.out,HTT.out,HE4.out];rfl,hp5,zdv (zad HG4.out _) o2 (fun k hk=>(HMD4.out.1.lt _ hk).1),(HMD4.out.alloc _).snoc (S:=a) (A:=w3.heap.size) trivial (by have:=HG3.out.size;omega) (fun k hk=>(HMD3.out.1.lt _ hk).2) o1 o2 o3,all_snoc HRT.out HR4.out,by simp;omega⟩⟩
   case measure=>exact meas (s2:=s4) hp5 HP1.out (by omega)
def inN (z n:Nat) (s:PS):PR (List (List UInt8)):=if at' z [41] s then .ok [] s else list z n (name z) s
theorem keeps_inN {z n:Nat}:Keeps (inN z n):=by
 intro s a s' h
 unfold inN at h
 split at h
 ·cases h;exact⟨Nat.le_refl _,rfl⟩
 ·exact keeps_list (keeps_name z) _ _ _ h
def BoxN (bx:Nat) (w:World):Prop:=w.heap[bx]?=some (.cells #[.func (.func 120) #[] #[]] 186 (0,0))
theorem closN_any (n:Nat) (bx:Nat) (hx:BoxN bx w) (h:Pa F B f s w) (hfin:Fin (inN F.z n s)):
  Calls Tryz.prog 178 #[ptrP f,.pointer (some ⟨bx,0,none⟩)] w (QPost F B f CNs (inN F.z n s) w):=by
 have HP0:=hid h
 have HX:=hid hx
 have hbl:=lt_of_block hx
 rcases hat:at' F.z [41] s with _ | _
 ·have HN:Hid (inN F.z n s=list F.z n (name F.z) s):=hid (by unfold inN;rw[if_neg (by simp[hat])])
  have HFI:Hid (Fin (list F.z n (name F.z) s)):=hid (by rw[←HN.out];exact hfin)
  have HAT:=hid hat
  clear hat h hx hfin
  go_enter Tryz.func178,Tryz.ntmps178
  go_wp2_with (first
   | (go_at_call 179;refine(listN_any n (HP0.out.on HB.out) HFI.out).mono ?_;intro e w2 hq;rcases hq.split with ⟨a,s2,v,hr,rfl,hC,hp,hg⟩ | ⟨k,s',hr,rfl,hp,hg⟩;rotate_left;(exact⟨rfl,QPost.wrong (by rw[HN.out,hr]) hp (zaa (zae HB.out _) hg)⟩);obtain⟨ea,ec,l,hv,hC⟩:=hC;subst hv;have HQ:=hid (And.intro hr (And.intro hp (And.intro hg hC)));clear hr hp hg hq hC)
   | (go_at_call 174;refine(zaD HP0.out {data:=#[41]} [41] rfl _ HAT.out).mono ?_;rintro e w1 ⟨rfl,hb⟩;have HB:=hid hb;have b0:=zab (k:=0) ((hb.block bx hbl).trans HX.out) rfl;have hbl1:=lt_of_block ((hb.block bx hbl).trans HX.out);clear hb))
  go_ret
  obtain⟨hr,hp,hg,hC⟩:=HQ.out
  refine QPost.good (by rw[HN.out,hr]) ⟨ea,ec,l,rfl,hC.1,hC.2.1,hC.2.2.1.mono HB.out.size,hC.2.2.2⟩ hp (zaa (zae HB.out _) hg)
 ·have HN:Hid (inN F.z n s=.ok [] s):=hid (by unfold inN;rw[if_pos hat])
  have HAT:=hid hat
  clear hat h hx hfin
  go_enter Tryz.func178,Tryz.ntmps178
  go_wp2_with (go_at_call 174;refine(zaD HP0.out {data:=#[41]} [41] rfl _ HAT.out).mono ?_;rintro e w1 ⟨rfl,hb⟩;have HB:=hid hb;clear hb)
  go_ret
  exact QPost.good HN.out ⟨none,0,[],rfl,rfl,(fun x hx=>by cases hx),(fun i hi=>by simp at hi),by simp⟩ (HP0.out.on HB.out) (zae HB.out _)
theorem withinNs_any (n:Nat) (bx:Nat) (hbx:B≤bx) (hx:BoxN bx w) (h:Pa F B f s w) (hfin:Fin (zap F.z [40] (inN F.z n) [41] s)):
  Calls Tryz.prog 177 #[ptrP f,.string {data:=#[40]},.func (.func 178) #[] #[.pointer (some ⟨bx,0,none⟩)],.string {data:=#[41]}] w (QPost F B f CNs (zap F.z [40] (inN F.z n) [41] s) w):=by
 have HP0:=hid h
 have HX:=hid hx
 have HFIN:=hid hfin
 have HNE:Hid (some bx≠some f):=hid (by have:=h.lt;simp;omega)
 have HFL:=hid h.flt
 clear h hx hfin
 go_enter Tryz.func177,Tryz.ntmps177
 go_wp2_with (first
  | (go_at_call 119;refine(zaJ HP2.out {data:=#[41]} [41] rfl (by simp) (fun _=>HOP.out)).mono ?_;intro e w3 hq;rcases hq.split with ⟨a,s3,v,hr,rfl,hC,hp,hg⟩ | ⟨k,s',hr,rfl,hp,hg⟩;rotate_left;(exact⟨rfl,QPost.wrong (by unfold zap;rw[HE1.out];show(inN F.z n s1).bind _=_;rw[HE2.out];show(take F.z [41] s2).bind _=_;rw[hr];rfl) hp (zaa HG2.out hg)⟩);obtain rfl:v=.tuple #[]:=hC;have HE3:=hid hr;have HP3:=hid hp;have HG3:=hid (zaa HG2.out hg);have HK3:=hid ((KeptP.refl (fun b=>b=f) w2).grown rfl hg);clear hr hp hg hq)
  | (go_at_call 178;refine(closN_any n bx HX1.out HP1.out ((HFIN.out.snd HE1.out).fst)).mono ?_;intro e w2 hq;rcases hq.split with ⟨a,s2,v,hr,rfl,hC,hp,hg⟩ | ⟨k,s',hr,rfl,hp,hg⟩;rotate_left;(exact⟨rfl,QPost.wrong (by unfold zap;rw[HE1.out];show(inN F.z n s1).bind _=_;rw[hr];rfl) hp (zaa HG1.out hg)⟩);obtain⟨ea,ec,l,hv,hC⟩:=hC;subst hv;have HC:=hid hC;have HE2:=hid hr;have HP2:=hid hp;have HG2:=hid (zaa HG1.out hg);have HOP:Hid (0 < s2.op):=hid (by have:=(keeps_inN _ _ _ hr).2;have:=(zbr HE1.out rfl).2;omega);clear hr hp hg hq hC)
  | (go_at_call 119;refine(zaJ HP0.out {data:=#[40]} [40] rfl (by simp) (fun e=>by cases e)).mono ?_;intro e w1 hq;rcases hq.split with ⟨a,s1,v,hr,rfl,hC,hp,hg⟩ | ⟨k,s',hr,rfl,hp,hg⟩;rotate_left;(exact⟨rfl,QPost.wrong (by unfold zap;rw[hr];rfl) hp hg⟩);obtain rfl:v=.tuple #[]:=hC;have HE1:=hid hr;have HP1:=hid hp;have HG1:=hid hg;have HX1:Hid (BoxN bx w1):=hid ((hg.block bx (lt_of_block HX.out) HNE.out).trans HX.out);clear hr hp hg hq))
 go_ret
 obtain⟨h1,h2,h3,h4⟩:=HC.out
 have h5:=HG1.out.size
 exact QPost.good (by unfold zap;rw[HE1.out];show(inN F.z n s1).bind _=_;rw[HE2.out];show(take F.z [41] s2).bind _=_;rw[HE3.out];rfl) ⟨ea,ec,l,rfl,h1,h2,zcR HK3.out (fun b hb e=>by have:=HFL.out;omega) h5 h3,h4⟩ HP3.out HG3.out
theorem argsN_any (n:Nat) (h:Pa F B f s w) (hfin:Fin (args F.z n (name F.z) s)):
  Calls Tryz.prog 121 #[ptrP f,.func (.func 120) #[] #[]] w (QPost F B f CNs (args F.z n (name F.z) s) w):=by
 have hmf:∀(fn:Fn) (first cap:Array Value) (w:World),(Instr.makeFunc fn first cap).run Tryz.prog w=.ok (.func fn first cap) w:=fun _ _ _ _=>rfl
 have e0:args F.z n (name F.z) s=zap F.z [40] (inN F.z n) [41] s:=rfl
 have HX:=hid (withinNs_any n w.heap.size h.le (zaj w _) (h.alloc (.cells #[.func (.func 120) #[] #[]] 186)) (by rw[←e0];exact hfin))
 have HN:=hid e0
 clear h hfin e0
 go_enter Tryz.func121,Tryz.ntmps121
 go_wp2_with (go_at_call 177;refine HX.out.mono ?_;intro e w1 hq;rcases hq.split with ⟨a,s1,v,hr,rfl,hC,hp,hg⟩ | ⟨k,s',hr,rfl,hp,hg⟩;rotate_left;(exact⟨rfl,QPost.wrong (by rw[HN.out,hr]) hp (zaa (zad (zaf w _) _) hg)⟩);obtain⟨ea,ec,l,hv,hC⟩:=hC;subst hv;have HQ:=hid (And.intro hr (And.intro hp (And.intro hg hC)));clear hr hp hg hq hC)
 go_ret
 obtain⟨hr,hp,hg,hC⟩:=HQ.out
 exact QPost.good (by rw[HN.out,hr]) ⟨ea,ec,l,rfl,hC.1,hC.2.1,hC.2.2.1.mono (by simp),hC.2.2.2⟩ hp (zaa (zad (zaf w (some f)) _) hg)
end
end Go.Proofs.YtljbbhhiiiepcaaGreatDoor.Pm
namespace Go.Proofs.YtljbbhhiiiepcaaGreatDoor.Pm
open Go Go.RowKit Go.Proofs.YtljbbhhiiiepcaaGreatDoor
open Go.Lib (hid)
def CL:Nat→Value→Nat→World→Prop:=fun n v _ _=>v=.int .i64 (n:Nat)∧n≤1000000
section
variable {F:PC} {B f:Nat} {s:PS} {w:World}
theorem length_any (h:Pa F B f s w):Calls Tryz.prog 210 #[ptrP f] w (QPost F B f CL (length F.z s) w):=by
 have HW:=hid (za3 h)
 have HP0:=hid h
 have hfd:=fld_n
 rcases hk:(cur F.z s).kind==2 with _ | _
 ·have HN:Hid (length F.z s=.bad 3 s):=hid (by unfold length;rw[hk];rfl)
  have HK:=hid hk
  clear h hk
  go_enter Tryz.func210,Tryz.ntmps210
  go_wp2_with (first
   | (go_at_call 118;refine(zc8 _).mono ?_;rintro e w2 ⟨rfl,rfl⟩;exact⟨rfl,QPost.wrong HN.out HP2.out HG2.out⟩)
   | (go_at_call 208;refine(zbc HP1.out 2 _ HK.out).mono ?_;rintro e w2 ⟨rfl,hb⟩;have HP2:=hid (HP1.out.on hb);have HG2:=hid (zaa HG1.out (zae hb (some f)));clear hb)
   | (go_at_call 117;refine HW.out.mono ?_;rintro e w1 ⟨rfl,hb⟩;have HP1:=hid (HP0.out.on hb);have HG1:=hid (zaa (zaf w (some f)) (zae hb (some f)));clear hb))
 ·have hk2:(cur F.z s).kind=2:=by simpa using hk
  have fl:=(zbb h).fl (by omega)
  have F1:=hid fl
  have HT:=hid (zci hk2 (by decide))
  have HK:=hid hk
  by_cases h1:1≤(cur F.z s).n
  ·by_cases h2:(cur F.z s).n≤1000000
   ·have HN:Hid (length F.z s=.ok (cur F.z s).n (skip s)):=hid (by unfold length;rw[hk,if_pos (by simp;omega)])
    have H2:=hid h2
    have k1:(1:Int)≤(cur F.z s).n:=by omega
    have k2:((cur F.z s).n:Int)≤1000000:=by omega
    have d1:decide ((1:Int)≤(cur F.z s).n)=true:=decide_eq_true (by omega)
    have d2:decide (((cur F.z s).n:Int)≤1000000)=true:=decide_eq_true (by omega)
    clear h hk hk2 fl h1 h2
    go_enter Tryz.func210,Tryz.ntmps210
    go_wp2_with (first
     | (go_at_call 175;refine(zaV HP2.out HT.out F1.out.1 F1.out.2).mono ?_;rintro e w3 ⟨rfl,hp,hg⟩;have HP3:Hid (Pa F B f (skip s) w3):=hid hp;have HG3:=hid (zaa HG2.out hg);clear hp hg)
     | (go_at_call 118;refine(zcx _).mono ?_;rintro e w2 ⟨rfl,rfl⟩)
     | (go_at_call 208;refine(zbc HP1.out 2 _ HK.out).mono ?_;rintro e w2 ⟨rfl,hb⟩;have HP2:=hid (HP1.out.on hb);have HG2:=hid (zaa HG1.out (zae hb (some f)));clear hb)
     | (go_at_call 117;refine HW.out.mono ?_;rintro e w1 ⟨rfl,hb⟩;have HP1:=hid (HP0.out.on hb);have HG1:=hid (zaa (zaf w (some f)) (zae hb (some f)));clear hb))
    go_ret
    exact QPost.good HN.out ⟨rfl,H2.out⟩ HP3.out HG3.out
   ·have HN:Hid (length F.z s=.bad 3 s):=hid (by unfold length;rw[hk,if_neg (by simp;omega)])
    have k1:(1:Int)≤(cur F.z s).n:=by omega
    have d1:decide ((1:Int)≤(cur F.z s).n)=true:=decide_eq_true (by omega)
    have d2:decide (((cur F.z s).n:Int)≤1000000)=false:=decide_eq_false (by omega)
    clear h hk hk2 fl h1 h2
    go_enter Tryz.func210,Tryz.ntmps210
    go_wp2_with (first
     | (go_at_call 118;refine(zc8 _).mono ?_;rintro e w2 ⟨rfl,rfl⟩;exact⟨rfl,QPost.wrong HN.out HP2.out HG2.out⟩)
     | (go_at_call 208;refine(zbc HP1.out 2 _ HK.out).mono ?_;rintro e w2 ⟨rfl,hb⟩;have HP2:=hid (HP1.out.on hb);have HG2:=hid (zaa HG1.out (zae hb (some f)));clear hb)
     | (go_at_call 117;refine HW.out.mono ?_;rintro e w1 ⟨rfl,hb⟩;have HP1:=hid (HP0.out.on hb);have HG1:=hid (zaa (zaf w (some f)) (zae hb (some f)));clear hb))
  ·have HN:Hid (length F.z s=.bad 3 s):=hid (by unfold length;rw[hk,if_neg (by simp;omega)])
   have d1:decide ((1:Int)≤(cur F.z s).n)=false:=decide_eq_false (by omega)
   clear h hk hk2 fl h1
   go_enter Tryz.func210,Tryz.ntmps210
   go_wp2_with (first
    | (go_at_call 118;refine(zc8 _).mono ?_;rintro e w2 ⟨rfl,rfl⟩;exact⟨rfl,QPost.wrong HN.out HP2.out HG2.out⟩)
    | (go_at_call 208;refine(zbc HP1.out 2 _ HK.out).mono ?_;rintro e w2 ⟨rfl,hb⟩;have HP2:=hid (HP1.out.on hb);have HG2:=hid (zaa HG1.out (zae hb (some f)));clear hb)
    | (go_at_call 117;refine HW.out.mono ?_;rintro e w1 ⟨rfl,hb⟩;have HP1:=hid (HP0.out.on hb);have HG1:=hid (zaa (zaf w (some f)) (zae hb (some f)));clear hb))
theorem withinI_any (h:Pa F B f s w):Calls Tryz.prog 209 #[ptrP f,.string {data:=#[91]},.func (.func 210) #[] #[],.string {data:=#[93]}] w (QPost F B f CL (zap F.z [91] (length F.z) [93] s) w):=by
 have HP0:=hid h
 clear h
 go_enter Tryz.func209,Tryz.ntmps209
 go_wp2_with (first
  | (go_at_call 119;refine(zaJ HP2.out {data:=#[93]} [93] rfl (by simp) (fun _=>HOP.out)).mono ?_;intro e w3 hq;rcases hq.split with ⟨a,s3,v,hr,rfl,hC,hp,hg⟩ | ⟨k,s',hr,rfl,hp,hg⟩;rotate_left;(exact⟨rfl,QPost.wrong (by unfold zap;rw[HE1.out];show(length F.z s1).bind _=_;rw[HE2.out];show(take F.z [93] s2).bind _=_;rw[hr];rfl) hp (zaa HG2.out hg)⟩);obtain rfl:v=.tuple #[]:=hC;have HE3:=hid hr;have HP3:=hid hp;have HG3:=hid (zaa HG2.out hg);clear hr hp hg hq)
  | (go_at_call 210;refine(length_any HP1.out).mono ?_;intro e w2 hq;rcases hq.split with ⟨q,s2,v,hr,rfl,hC,hp,hg⟩ | ⟨k,s',hr,rfl,hp,hg⟩;rotate_left;(exact⟨rfl,QPost.wrong (by unfold zap;rw[HE1.out];show(length F.z s1).bind _=_;rw[hr];rfl) hp (zaa HG1.out hg)⟩);obtain⟨hv,hC⟩:=hC;subst hv;have HC:=hid hC;have HE2:=hid hr;have HP2:=hid hp;have HG2:=hid (zaa HG1.out hg);have HOP:Hid (0 < s2.op):=hid (by have:=(kr_length F.z _ _ _ hr).2.1;have:=(zbr HE1.out rfl).2;omega);clear hr hp hg hq hC)
  | (go_at_call 119;refine(zaJ HP0.out {data:=#[91]} [91] rfl (by simp) (fun e=>by cases e)).mono ?_;intro e w1 hq;rcases hq.split with ⟨a,s1,v,hr,rfl,hC,hp,hg⟩ | ⟨k,s',hr,rfl,hp,hg⟩;rotate_left;(exact⟨rfl,QPost.wrong (by unfold zap;rw[hr];rfl) hp hg⟩);obtain rfl:v=.tuple #[]:=hC;have HE1:=hid hr;have HP1:=hid hp;have HG1:=hid hg;clear hr hp hg hq))
 go_ret
 exact QPost.good (by unfold zap;rw[HE1.out];show(length F.z s1).bind _=_;rw[HE2.out];show(take F.z [93] s2).bind _=_;rw[HE3.out];rfl) ⟨rfl,HC.out⟩ HP3.out HG3.out
end
end Go.Proofs.YtljbbhhiiiepcaaGreatDoor.Pm
namespace Go.Proofs.YtljbbhhiiiepcaaGreatDoor.Pm
open Go Go.RowKit Go.Proofs.YtljbbhhiiiepcaaGreatDoor
open Go.Lib (hid)
section
variable {F:PC} {B f:Nat} {s:PS} {w:World}
theorem zeb (h:Pa F B f s w):Calls Tryz.prog 181 #[ptrP f] w (QPost F B f CD (decl F.z s) w):=by
 have HP0:=hid (h.alloc (.cells #[.string ⟨#[]⟩,.int .i64 0] 76))
 have HG0:Hid (w.grownBy (w.alloc (.cells #[.string ⟨#[]⟩,.int .i64 0] 76)) (some f)):=hid (zad (zaf w (some f)) _)
 have HRr0:Hid ((w.alloc (.cells #[.string ⟨#[]⟩,.int .i64 0] 76)).heap[w.heap.size]?=some (.cells #[.string ⟨#[]⟩,.int .i64 0] 76 (0,0))):=hid (zaj w _)
 have HBr:Hid (B≤w.heap.size):=hid h.le
 have HNr:Hid ((some w.heap.size:Option Nat)≠some f):=hid (by have h1:=h.lt;have h2:=h.le;simp;omega)
 have HWr:Hid (w.heap.size≤w.heap.size):=hid (Nat.le_refl _)
 have HLT:=hid h.lt
 have HLE:=hid h.le
 clear h
 go_enter Tryz.func181,Tryz.ntmps181
 go_wp2_with (go_at_call 120;refine(zcy HP0.out).mono ?_;intro e w1 hq;rcases hq.split with ⟨a1,s1,v1,hr,rfl,hC,hp,hg⟩ | ⟨n,s',hr,rfl,hp,hg⟩;rotate_left;(exact⟨rfl,QPost.wrong (by unfold decl;rw[hr];rfl) hp (zaa HG0.out hg)⟩);have HE1:=hid hr;have HP1:=hid hp;obtain rfl:v1=.string (bs a1):=hC;have HG1:Hid (w.grownBy w1 (some f)):=hid (zaa HG0.out hg);have HS1:=hid hg.size;have hrr:w1.heap[w.heap.size]?=some (.cells #[.string ⟨#[]⟩,.int .i64 0] 76 (0,0)):=(hg.block w.heap.size (lt_of_block HRr0.out) HNr.out).trans HRr0.out;have HRr1:=hid hrr;have ry:=fun k=>zac (k:=k) hrr;have rx0:=zab (k:=0) hrr rfl;have rx1:=zab (k:=1) hrr rfl;have rl:=lt_of_block hrr;clear hrr;clear hg hr hp hq)
 have HNM:=hid (name_ok HP0.out HE1.out)
 rcases hat:at' F.z [91] s1 with _ | _
 ·have HAT:=hid hat
  clear hat
  go_wp2_with (go_at_call 174;refine(zaD (HP1.out.alloc (.cells #[.string (bs a1),.int .i64 0] 76)) {data:=#[91]} [91] rfl false HAT.out).mono ?_;rintro e w2 ⟨rfl,hb⟩;have hg:=zae hb (some f);have HP2:=hid ((HP1.out.alloc (.cells #[.string (bs a1),.int .i64 0] 76)).on hb);have HG2:Hid (w.grownBy w2 (some f)):=hid (zaa (zad HG1.out (.cells #[.string (bs a1),.int .i64 0] 76)) hg);have HS2:=hid hg.size;have HNq:Hid ((some (w1.heap.size):Option Nat)≠some f):=hid (by have h0:=HP1.out.flt;simp at h0 ⊢;omega);have HBq:Hid (B≤w1.heap.size):=hid (by have h0:=HP1.out.le;simp at h0 ⊢;omega);have HWq:Hid (w.heap.size≤w1.heap.size):=hid (by have h0:=HG1.out.size;simp at h0 ⊢;omega);have HQrq:Hid (w.heap.size < w1.heap.size):=hid (by have h0:=lt_of_block HRr1.out;simp at h0 ⊢;omega);have nqrq:=Nat.ne_of_lt HQrq.out;have hrr:w2.heap[w.heap.size]?=some (.cells #[.string ⟨#[]⟩,.int .i64 0] 76 (0,0)):=(hg.block w.heap.size (lt_of_block (zai (.cells #[.string (bs a1),.int .i64 0] 76) HRr1.out)) HNr.out).trans (zai (.cells #[.string (bs a1),.int .i64 0] 76) HRr1.out);have HRr2:=hid hrr;clear ry rx0 rx1 rl;have ry:=fun k=>zac (k:=k) hrr;have rx0:=zab (k:=0) hrr rfl;have rx1:=zab (k:=1) hrr rfl;have rl:=lt_of_block hrr;clear hrr;have hrq:w2.heap[w1.heap.size]?=some (.cells #[.string (bs a1),.int .i64 0] 76 (0,0)):=(hg.block w1.heap.size (lt_of_block (zao (.cells #[.string (bs a1),.int .i64 0] 76) (by simp))) HNq.out).trans (zao (.cells #[.string (bs a1),.int .i64 0] 76) (by simp));have HRq2:=hid hrq;have qy:=fun k=>zac (k:=k) hrq;have qx0:=zab (k:=0) hrq rfl;have qx1:=zab (k:=1) hrq rfl;have ql:=lt_of_block hrq;clear hrq;clear hg hb)
  refine bodyPost_ret (v:=.agg #[.string (bs a1),.int .i64 0]) (by simp[results,Tryz.results181,go_sem, *]) rfl (QPost.good (a:=(a1,0)) (by unfold decl;rw[HE1.out];show(if at' F.z [91] s1=true then _ else _)=_;rw[if_neg (by rw[HAT.out];decide)]) ⟨rfl,HNM.out,Nat.zero_le _⟩ ?_ ?_)
  ·repeat (first | with_reducible exact HP2.out | (with_reducible refine Pa.far ?_ HBr.out _ _) | (with_reducible refine Pa.alloc ?_ _))
  ·repeat (first | with_reducible exact HG2.out | (with_reducible refine zag ?_ (Nat.le_refl _) _ _) | (with_reducible refine zad ?_ _))
 ·have HAT:=hid hat
  clear hat
  go_wp2_with (first
   | (go_at_call 209;refine(withinI_any HP2.out).mono ?_;intro e w3 hq;rcases hq.split with ⟨a3,s3,v3,hr,rfl,hC,hp,hg⟩ | ⟨n,s',hr,rfl,hp,hg⟩;rotate_left;(exact⟨rfl,QPost.wrong (by unfold decl;rw[HE1.out];show(if at' F.z [91] s1=true then (zap _ _ _ _ s1).bind _ else _)=_;rw[if_pos HAT.out,hr];rfl) hp (zaa HG2.out hg)⟩);have HE3:=hid hr;have HP3:=hid hp;obtain⟨hv,hT⟩:=hC;subst hv;have HT3:=hid hT;clear hT;have HG3:Hid (w.grownBy w3 (some f)):=hid (zaa HG2.out hg);have HS3:=hid hg.size;have hrr:w3.heap[w.heap.size]?=some (.cells #[.string ⟨#[]⟩,.int .i64 0] 76 (0,0)):=(hg.block w.heap.size (lt_of_block HRr2.out) HNr.out).trans HRr2.out;have HRr3:=hid hrr;clear ry rx0 rx1 rl;have ry:=fun k=>zac (k:=k) hrr;have rx0:=zab (k:=0) hrr rfl;have rx1:=zab (k:=1) hrr rfl;have rl:=lt_of_block hrr;clear hrr;have hrq:w3.heap[w1.heap.size]?=some (.cells #[.string (bs a1),.int .i64 0] 76 (0,0)):=(hg.block w1.heap.size (lt_of_block HRq2.out) HNq.out).trans HRq2.out;have HRq3:=hid hrq;clear qy qx0 qx1 ql;have qy:=fun k=>zac (k:=k) hrq;have qx0:=zab (k:=0) hrq rfl;have qx1:=zab (k:=1) hrq rfl;have ql:=lt_of_block hrq;clear hrq;clear hg hr hp hq)
   | (go_at_call 174;refine(zaD (HP1.out.alloc (.cells #[.string (bs a1),.int .i64 0] 76)) {data:=#[91]} [91] rfl true HAT.out).mono ?_;rintro e w2 ⟨rfl,hb⟩;have hg:=zae hb (some f);have HP2:=hid ((HP1.out.alloc (.cells #[.string (bs a1),.int .i64 0] 76)).on hb);have HG2:Hid (w.grownBy w2 (some f)):=hid (zaa (zad HG1.out (.cells #[.string (bs a1),.int .i64 0] 76)) hg);have HS2:=hid hg.size;have HNq:Hid ((some (w1.heap.size):Option Nat)≠some f):=hid (by have h0:=HP1.out.flt;simp at h0 ⊢;omega);have HBq:Hid (B≤w1.heap.size):=hid (by have h0:=HP1.out.le;simp at h0 ⊢;omega);have HWq:Hid (w.heap.size≤w1.heap.size):=hid (by have h0:=HG1.out.size;simp at h0 ⊢;omega);have HQrq:Hid (w.heap.size < w1.heap.size):=hid (by have h0:=lt_of_block HRr1.out;simp at h0 ⊢;omega);have nqrq:=Nat.ne_of_lt HQrq.out;have hrr:w2.heap[w.heap.size]?=some (.cells #[.string ⟨#[]⟩,.int .i64 0] 76 (0,0)):=(hg.block w.heap.size (lt_of_block (zai (.cells #[.string (bs a1),.int .i64 0] 76) HRr1.out)) HNr.out).trans (zai (.cells #[.string (bs a1),.int .i64 0] 76) HRr1.out);have HRr2:=hid hrr;clear ry rx0 rx1 rl;have ry:=fun k=>zac (k:=k) hrr;have rx0:=zab (k:=0) hrr rfl;have rx1:=zab (k:=1) hrr rfl;have rl:=lt_of_block hrr;clear hrr;have hrq:w2.heap[w1.heap.size]?=some (.cells #[.string (bs a1),.int .i64 0] 76 (0,0)):=(hg.block w1.heap.size (lt_of_block (zao (.cells #[.string (bs a1),.int .i64 0] 76) (by simp))) HNq.out).trans (zao (.cells #[.string (bs a1),.int .i64 0] 76) (by simp));have HRq2:=hid hrq;have qy:=fun k=>zac (k:=k) hrq;have qx0:=zab (k:=0) hrq rfl;have qx1:=zab (k:=1) hrq rfl;have ql:=lt_of_block hrq;clear hrq;clear hg hb))
  refine bodyPost_ret (v:=.agg #[.string (bs a1),.int .i64 (a3:Nat)]) (by simp[results,Tryz.results181,go_sem, *]) rfl (QPost.good (a:=(a1,a3)) (by unfold decl;rw[HE1.out];show(if at' F.z [91] s1=true then (zap _ _ _ _ s1).bind _ else _)=_;rw[if_pos HAT.out,HE3.out];rfl) ⟨rfl,HNM.out,HT3.out⟩ ?_ ?_)
  ·repeat (first | with_reducible exact HP3.out | (first | with_reducible refine Pa.far ?_ HBr.out _ _ | with_reducible refine Pa.far ?_ HBq.out _ _) | (with_reducible refine Pa.alloc ?_ _))
  ·repeat (first | with_reducible exact HG3.out | (first | with_reducible refine zag ?_ (Nat.le_refl _) _ _ | with_reducible refine zag ?_ HWq.out _ _) | (with_reducible refine zad ?_ _))
theorem dec_info:(Tryz.prog.info? 76).map (fun i=>(i.zero,i.size,i.bytes))=some (some (.agg #[.string {data:=#[]},.int .i64 0]),2,24):=by kernel_rfl
theorem listD_any (n:Nat) (h:Pa F B f s w) (hfin:Fin (list F.z n (decl F.z) s)):
  Calls Tryz.prog 180 #[ptrP f,.func (.func 181) #[] #[]] w (QPost F B f CDs (list F.z n (decl F.z) s) w):=by
 have HH:=hid h
 have HFIN:=hid hfin
 have HLT:=hid h.lt
 have HLE:=hid h.le
 obtain⟨ei,hi,hz0,hz1,hz2⟩:=info_parts dec_info
 clear hfin h
 go_enter Tryz.func180,Tryz.ntmps180
 go_wp2_with (go_at_call 181;refine(zeb HH.out).mono ?_;intro e w1 hq;rcases hq.split with ⟨a,s1,v,hr,rfl,hC,hp,hg⟩ | ⟨k,s',hr,rfl,hp,hg⟩;rotate_left;(exact⟨rfl,QPost.wrong (by unfold list;rw[hr];rfl) hp hg⟩);obtain⟨hv,hok⟩:=hC;subst hv;have HE1:=hid hr;have HP1:=hid hp;have HG1:=hid hg;have HR1:Hid ((okD) a):=hid (hok);clear hr hp hg hq hok)
 have HS0:Hid (GRel KD (okD) F B f (decl F.z) (list F.z n (decl F.z) s) w (.slice (some ⟨w1.heap.size,0,none⟩) 1 1) (w1.alloc (.cells #[.string (bs a.1),.int .i64 (a.2:Nat)] 76))):=hid ⟨n,s1,[a],⟨by unfold list;rw[HE1.out];rfl,HP1.out.alloc _,zad HG1.out _,made_oneG KD (c:=#[.string (bs a.1),.int .i64 (a.2:Nat)]) rfl (zaj _ _) HG1.out.size trivial,fun x hx=>by simp only[List.mem_singleton] at hx;subst hx;exact HR1.out,by have h1:=HP1.out.len;simp;omega⟩⟩
 clear HE1 HP1 HG1 HR1 HH
 go_loopw [5] (fun v wr=>GRel KD (okD) F B f (decl F.z) (list F.z n (decl F.z) s) w v wr) (fun _ wr=>F.ws.length - posW f wr)
 case atStart=>exact HS0.out
 case round =>
  clear HS0
  obtain⟨n1,s',l,hI⟩:=hrel
  have HTL:=hid hI.tl
  have HP1:=hid hI.pa
  have HG1:=hid hI.gr
  have HMD:=hid hI.md
  have HRT:=hid hI.rt
  have HLN:=hid hI.ln
  have HMY:=hid hI.pa.many
  clear hI
  obtain⟨n2,rfl⟩:∃n2,n1=n2+1:=by
   cases n1 with
   | zero=>exact absurd (by rw[←HTL.out,more]) (HFIN.out s')
   | succ n2=>exact⟨n2,rfl⟩
  rcases hat:at' F.z [44] s' with _ | _
  ·have HTT:Hid (more F.z (decl F.z) (n2+1) l s'=.ok l s'):=hid (by rw[more,if_neg (by simp[hat])])
   have HAT:=hid hat
   clear hat
   go_wp2_with (go_at_call 174;refine(zaD HP1.out {data:=#[44]} [44] rfl _ HAT.out).mono ?_;rintro e w2 ⟨rfl,hb⟩;have HB2:=hid hb;clear hb)
   go_ret
   obtain⟨a,c,e,he⟩:=HMD.out.rows
   have hle:=HLE.out
   have hlt:=HLT.out
   refine QPost.good (by rw[←HTL.out,HTT.out]) ⟨a,c,l,e,rfl,HRT.out,he.on HB2.out,by have h1:=HLN.out;have h2:=HMY.out;omega⟩ (HP1.out.on HB2.out) (zaa HG1.out (zae HB2.out _))
  ·have htx:=zcq hat
   have HTT:Hid (more F.z (decl F.z) (n2+1) l s'=(decl F.z (skip s')).bind fun x s2=>more F.z (decl F.z) n2 (l++[x]) s2):=hid (by rw[more,if_pos hat])
   have HAT:=hid hat
   have HTH:Hid (s'.ws≠[]):=hid (zbx htx (by simp))
   have HFL:Hid (za8 (cur F.z s').text=false∧za9 (cur F.z s').text=false):=hid (by rw[htx];exact⟨rfl,rfl⟩)
   clear hat htx
   go_wp2_with (first
    | (at_builtin;refine wpList_append_own_at _ rfl _ _ 44 rfl w.heap.size 76 ei _ 2 24 Tryz.underlying44 hi hz0 hz1 hz2 rfl (by decide) _ l.length _ rfl (HMD4.out.1.alloc _) ⟨w4.heap.size,0,none⟩ 1 1 [.string (bs a.1),.int .i64 (a.2:Nat)] rfl rfl (World.news_of_block (zaj w4 (.cells #[.string (bs a.1),.int .i64 (a.2:Nat)] 76))) (fun u hu=>by simp only[List.mem_cons,List.not_mem_nil,or_false] at hu;rcases hu with rfl | rfl<;>rfl) (by have h1:=HLN.out;have h2:=HMY.out;unfold maxLen;omega) (by have h1:=HLN.out;have h2:=HMY.out;omega) (by have:=HG4.out.size;simp;omega) ?_;intro v' w5 hown hgrow hnil hat;have HO5:=hid (And.intro hown (And.intro hgrow hat));clear hown hgrow hnil hat)
    | (go_at_call 181;refine(zeb HP3.out).mono ?_;intro e w4 hq;rcases hq.split with ⟨a,s4,v4,hr,rfl,hC,hp,hg⟩ | ⟨k,s9,hr,rfl,hp,hg⟩;rotate_left;(exact⟨rfl,QPost.wrong (by rw[←HTL.out,HTT.out,hr];rfl) hp (zaa HG3.out hg)⟩);obtain⟨hv,hok⟩:=hC;subst hv;have HE4:=hid hr;have HP4:=hid hp;have HG4:=hid (zaa HG3.out hg);have HMD4:=hid (HMD3.out.grown hg (by have:=HLT.out;have:=HLE.out;omega));have HR4:Hid ((okD) a):=hid (hok);clear hr hp hg hq hok)
    | (go_at_call 175;refine(zaV HP2.out HTH.out HFL.out.1 HFL.out.2).mono ?_;rintro e w3 ⟨rfl,hp,hg⟩;have HP3:Hid (Pa F B f (skip s') w3):=hid hp;have HG3:=hid (zaa HG2.out hg);have HMD3:=hid (HMD2.out.grown hg (by have:=HLT.out;have:=HLE.out;omega));clear hp hg)
    | (go_at_call 174;refine(zaD HP1.out {data:=#[44]} [44] rfl _ HAT.out).mono ?_;rintro e w2 ⟨rfl,hb⟩;have HP2:=hid (HP1.out.on hb);have HG2:=hid (zaa HG1.out (zae hb (some f)));have HMD2:=hid (HMD.out.grown (zae hb (some f)) (by have:=HLT.out;have:=HLE.out;omega));clear hb))
   obtain⟨o1,o2,o3⟩:=HO5.out
   have hle:=HLE.out
   have hlt:=HLT.out
   have hp5:Pa F B f s4 w5:=(HP4.out.alloc _).grownR (fun R hR=>by have:=(HMD4.out.1.lt _ hR).1;omega) o2
   have h2:=(kr_decl F.z _ _ _ HE4.out).1
   have h3:(skip s').ws=s'.ws.tail:=rfl
   have h4:0 < s'.ws.length:=List.length_pos_iff.2 HTH.out
   rw[h3,List.length_tail] at h2
   have h1:=HLN.out
   go_roundw
   case rel =>
    refine⟨n2,s4,l++[a],⟨by rw[←HTL.out,HTT.out,HE4.out];rfl,hp5,zdv (zad HG4.out _) o2 (fun k hk=>(HMD4.out.1.lt _ hk).1),(HMD4.out.alloc _).snoc (S:=a) (A:=w3.heap.size) trivial (by have:=HG3.out.size;omega) (fun k hk=>(HMD3.out.1.lt _ hk).2) o1 o2 o3,all_snoc HRT.out HR4.out,by simp;omega⟩⟩
   case measure=>exact meas (s2:=s4) hp5 HP1.out (by omega)
theorem vars_any (n:Nat) (h:Pa F B f s w) (hfin:Fin (vars F.z n s)):Calls Tryz.prog 122 #[ptrP f] w (QPost F B f CDs (vars F.z n s) w):=by
 have HFU:=hfin
 unfold vars at HFU
 have HP0:=hid h
 have HG0:Hid (w.grownBy w (some f)):=hid (zaf w (some f))
 have HLT:=hid h.lt
 have HLE:=hid h.le
 rcases hat:at' F.z kVar s with _ | _
 ·have HAT:=hid hat
  clear h hat hfin HFU
  go_enter Tryz.func122,Tryz.ntmps122
  go_wp2_with (go_at_call 174;refine(zaD HP0.out {data:=#[118,97,114]} kVar rfl false HAT.out).mono ?_;rintro e w1 ⟨rfl,hb⟩;have hg:=zae hb (some f);have HP1:=hid (HP0.out.on hb);have HG1:Hid (w.grownBy w1 (some f)):=hid (zaa HG0.out hg);have HS1:=hid hg.size;clear hg hb)
  go_ret
  exact QPost.good (by unfold vars;rw[if_neg (by rw[HAT.out];decide)]) ⟨none,0,[],rfl,rfl,(fun x hx=>by cases hx),(fun i hi=>by simp at hi),by simp⟩ HP1.out HG1.out
 ·have HAT:=hid hat
  have htx:=zcq hat
  have HTH:=hid (zbx htx (by decide))
  have HFL:Hid (za8 (cur F.z s).text=false∧za9 (cur F.z s).text=false):=hid (by rw[htx];exact⟨rfl,rfl⟩)
  rw[if_pos hat] at HFU
  have HFI:=hid HFU.fst
  clear htx
  clear h hat hfin HFU
  go_enter Tryz.func122,Tryz.ntmps122
  go_wp2_with (first
   | (go_at_call 119;refine(zaJ HP3.out {data:=#[59]} [59] rfl (by decide) (fun e=>by cases e)).mono ?_;intro e w4 hq;rcases hq.split with ⟨a4,s4,v4,hr,rfl,hC,hp,hg⟩ | ⟨n,s',hr,rfl,hp,hg⟩;rotate_left;(exact⟨rfl,QPost.wrong (by unfold vars;rw[if_pos HAT.out,HE3.out];show(take _ _ _).bind _=_;rw[hr];rfl) hp (zaa HG3.out hg)⟩);have HE4:=hid hr;have HP4:=hid hp;obtain rfl:v4=.tuple #[]:=hC;have HG4:Hid (w.grownBy w4 (some f)):=hid (zaa HG3.out hg);have HS4:=hid hg.size;have HK3_4:=hid (HK3_3.out.grown (Or.inl rfl) hg);clear hg hr hp hq)
   | (go_at_call 180;refine(listD_any n HP2.out HFI.out).mono ?_;intro e w3 hq;rcases hq.split with ⟨a3,s3,v3,hr,rfl,hC,hp,hg⟩ | ⟨n,s',hr,rfl,hp,hg⟩;rotate_left;(exact⟨rfl,QPost.wrong (by unfold vars;rw[if_pos HAT.out,hr];rfl) hp (zaa HG2.out hg)⟩);have HE3:=hid hr;have HP3:=hid hp;obtain⟨ea3,ec3,l3,hv,hT⟩:=hC;subst hv;have HT3:=hid hT;clear hT;have HG3:Hid (w.grownBy w3 (some f)):=hid (zaa HG2.out hg);have HS3:=hid hg.size;have HK3_3:=hid (KeptP.refl (fun b=>b=f∨b=f∨b=f) w3);clear hg hr hp hq)
   | (go_at_call 175;refine(zaV HP1.out HTH.out HFL.out.1 HFL.out.2).mono ?_;rintro e w2 ⟨rfl,hp,hg⟩;have HP2:Hid (Pa F B f (skip s) w2):=hid hp;have HG2:Hid (w.grownBy w2 (some f)):=hid (zaa HG1.out hg);have HS2:=hid hg.size;clear hg hp)
   | (go_at_call 174;refine(zaD HP0.out {data:=#[118,97,114]} kVar rfl true HAT.out).mono ?_;rintro e w1 ⟨rfl,hb⟩;have hg:=zae hb (some f);have HP1:=hid (HP0.out.on hb);have HG1:Hid (w.grownBy w1 (some f)):=hid (zaa HG0.out hg);have HS1:=hid hg.size;clear hg hb))
  go_ret
  obtain⟨t1,t2,t3,t4⟩:=HT3.out
  have h5:=HG2.out.size
  have h6:=HLT.out
  have h7:=HLE.out
  exact QPost.good (by unfold vars;rw[if_pos HAT.out,HE3.out];show(take _ _ _).bind _=_;rw[HE4.out];rfl) ⟨ea3,ec3,l3,rfl,t1,t2,zcR HK3_4.out (fun b hb e=>by simp at e;omega) h5 t3,t4⟩ HP4.out HG4.out
end
end Go.Proofs.YtljbbhhiiiepcaaGreatDoor.Pm
