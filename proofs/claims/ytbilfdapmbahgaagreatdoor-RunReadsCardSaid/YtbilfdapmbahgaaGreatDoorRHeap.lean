/- How a machine and a frame lie in memory: what does not change, the nodes of a function, the environment's own blocks, what the watcher keeps. -/
import Derived.Test.YtbilfdapmbahgaaGreatDoorLRow
import Derived.Test.YtbilfdapmbahgaaGreatDoorKWhole4
import Derived.Laws.MakeOwn
import Derived.Carry
set_option linter.unusedSimpArgs false
set_option linter.unusedVariables false
set_option maxHeartbeats 8000000
set_option maxRecDepth 100000
namespace Go.Proofs.YtbilfdapmbahgaaGreatDoor.Ev
open Go Go.RowKit Go.Proofs.YtbilfdapmbahgaaGreatDoor
open Go.Lib (hid)
def roomN (n:Int):Nat:=(min (max n 1) 64).toNat
theorem roomN_le (n:Int):roomN n≤64:=by unfold roomN;omega
theorem room_any (n:Int) (w:World):Calls Tryz.prog 139 #[.int .i64 n] w fun e w'=>e=.returned (.int .i64 (roomN n:Nat))∧w'=w:=by
 have h:((roomN n:Nat):Int)=min (max n 1) 64:=by unfold roomN;omega
 rw[h]
 clear h
 go_enter Tryz.func139,Tryz.ntmps139
 go_wp2
 go_ret
 exact⟨rfl,rfl⟩
def parC (zs:List Int) (i:Nat) (p:ByteArray):PC:=⟨p.data.toList,false,[zs.getD i 0]⟩
def zc1 (zs:List Int):Nat→List ByteArray→List PC
 | _,[]=>[]
 | i,p :: l=>parC zs i p :: zc1 zs (i+1) l
theorem parsL_len (zs:List Int):∀(l:List ByteArray) (i:Nat),(zc1 zs i l).length=l.length
 | [],i=>rfl
 | p :: l,i=>by rw[zc1,List.length_cons,parsL_len zs l,List.length_cons]
theorem parsL_take (zs:List Int):∀(l:List ByteArray) (i k:Nat) (hk:k < l.length),zc1 zs i (l.take (k+1))=zc1 zs i (l.take k)++[parC zs (i+k) l[k]]
 | p :: l,i,0,hk=>by simp[zc1]
 | p :: l,i,k+1,hk=>by
  have:=parsL_take zs l (i+1) k (by simpa using hk)
  rw[List.take_succ_cons,List.take_succ_cons,zc1,zc1,this,show i+1+k=i+(k+1) by omega]
  rfl
def varC (d:ByteArray×Int):PC:=⟨d.1.data.toList,decide (0 < d.2),List.replicate (roomN d.2) 0⟩
def newL (ps:List ByteArray) (ds:List (ByteArray×Int)) (zs:List Int):List PC:=zc1 zs 0 ps++ds.map varC
def StrsAt (w:World) (a:Option Addr) (ps:List ByteArray):Prop:=∀i s,ps[i]?=some s→∃b o,a=some ⟨b,o,none⟩∧w.cell? ⟨b,o+i,none⟩=some (.string s)∧s.size≤maxLen
def DeclsAt (w:World) (a:Option Addr) (ds:List (ByteArray×Int)):Prop:=∀i d,ds[i]?=some d→∃b o,a=some ⟨b,o,none⟩∧w.cell? ⟨b,o+i*2,none⟩=some (.string d.1)∧w.cell? ⟨b,o+i*2+1,none⟩=some (.int .i64 d.2)∧d.1.size≤maxLen
theorem run_mapN {P:Program} (t k e:TypeId) (ht:P.underlying t=some (.map k e)) (n:Int) (w:World):(Instr.makeMap t (some (.int .i64 n))).run P w=.ok (.map (some w.heap.size)) (w.alloc (.map #[] 0)):=by
 simp[Instr.makeMap,run_underlying ht,Result.andThen,asInt,asIntOf]
theorem zcO {w:World} {b:Nat} {x:Option Obj} (h:w.heap[b]?=x):w.drew.heap[b]?=x:=h
theorem map_new' {w:World} {n:Nat} (h:w.heap.size=n):MapIn n [] (w.alloc (.map #[] 0)):=by subst h;exact map_new w
theorem MapIn.alloc {M:Nat} {L:List PC} {w:World} (h:MapIn M L w) (o:Obj):MapIn M L (w.alloc o):=h.on ((Below.refl _ _).alloc (Nat.le_refl _) _)
theorem env_new {B E g M cap:Nat} {blk:Nat→Nat} {mc:Array Value} {W:World} (hE:W.heap[E]?=some (.cells #[.slice (some ⟨g,0,none⟩) 0 cap,.map (some M)] 156 (0,0))) (hg:W.heap[g]?=some (.cells mc 76 (0,0))) (hs:mc.size=cap*3) (hc:cap≤maxLen) (hM:MapIn M [] W) (h1:B≤E) (h2:B≤g) (h3:B≤M):EnvIn B E blk [] W:=
 ⟨⟨_,M,hE,⟨h1,h3⟩,⟨rfl,.inr ⟨g,cap,mc,rfl,h2,hg,Nat.zero_le _,hc,hs,by simp[zbc]⟩⟩,hM⟩,fun k c h=>by simp at h,fun k m h=>by simp at h,fun c h=>by simp at h⟩
theorem stepB {a w w':World} (h:Below a.heap.size a w) (hb:Below w.heap.size w w'):Below a.heap.size a w':=h.trans (hb.mono h.size)
theorem made_one (W:World):(Instr.makeSlice 40 (.int .i64 1) (.int .i64 1)).run Tryz.prog W=.ok (.slice (some ⟨W.heap.size,0,none⟩) 1 1) (W.alloc (.cells #[.int .i64 0] 2)):=by kernel_rfl
theorem cellB {w w':World} {p:Addr} {v:Value} (hb:Below w.heap.size w w') (hc:w.cell? p=some v):w'.cell? p=some v:=by
 rw[World.cell?_of_block (w:=w) (hb.block p.block (World.block_lt_of_cell? w p hc))]
 exact hc
theorem wf_in64 {z:Int} (h:(Lit.int .i64 z).wf=true):in64 z:=by
 simp only[Lit.wf,IntKind.min,IntKind.max,Bool.and_eq_true] at h
 exact⟨of_decide_eq_true h.1,of_decide_eq_true h.2⟩
theorem one_num {z:Int} (h:in64 z):(∀x∈[z],in64 x)∧[z].length≤64:=⟨fun x hx=>by simp at hx;subst hx;exact h,by simp⟩
structure NInv (w:World) (E:Nat) (L:List PC) (FV:Array Value) (wr:World):Prop where
 env:∃blk,EnvIn w.heap.size E blk L wr
 bel:Below w.heap.size w wr
 ne:E≠w.heap.size
 box:wr.heap[w.heap.size]?=some (.cells FV 74 (0,0))
theorem NInv.on {w wr w':World} {E:Nat} {L:List PC} {FV:Array Value} (h:NInv w E L FV wr) (hb:Below wr.heap.size wr w'):NInv w E L FV w':=by
 obtain⟨⟨blk,h1⟩,h2,h3,h4⟩:=h
 exact⟨⟨blk,h1.on hb⟩,stepB h2 hb,h3,(hb.block _ (lt_of_block h4)).trans h4⟩
theorem NInv.add {w wr wx:World} {E b:Nat} {L:List PC} {FV:Array Value} (h:NInv w E L FV wr) (hb:Below wr.heap.size wr wx) (hl:L.length≤100000) (s:ByteArray) (hs:s.size≤maxLen) (arr:Bool) (v:List Int) (hbw:wr.heap.size≤b) (hbb:wx.heap[b]?=some (.cells (numV v) 2 (0,0))) (hn:(∀x∈v,in64 x)∧v.length≤64) {n:Nat} (hvn:v.length=n):
  Calls Tryz.prog 138 #[.pointer (some ⟨E,0,none⟩),.agg #[.string s,.bool arr,.slice (some ⟨b,0,none⟩) n n]] wx fun e w'=>e=.returned (.tuple #[])∧NInv w E (L++[⟨s.data.toList,arr,v⟩]) FV w'∧KeptE E wx w':=by
 subst hvn
 obtain⟨⟨blk,h1⟩,h2,h3,h4⟩:=h
 have h1':=h1.on hb
 refine(add_any h1' hl s hs arr b v (by have:=h2.size;omega) hbb hn (fun k hk e=>?_)).mono ?_
 ·have h5:=(h1.bl k _ (List.getElem?_eq_getElem hk)).2
  have:=lt_of_block h5
  omega
 ·rintro e w' ⟨rfl,g1,g2,g3,g4⟩
  refine⟨rfl,⟨⟨_,g1⟩,(stepB h2 hb).trans g2,h3,g3 _ _ _ _ ((hb.block _ (lt_of_block h4)).trans h4) (fun e=>h3 e.symm) (by decide)⟩,g3⟩
theorem num_info:(Tryz.prog.info? 2).map (fun i=>(i.zero,i.size,i.bytes))=some (some (.int .i64 0),1,8):=by kernel_rfl
theorem made_zeros (n:Nat):madeCells #[.int .i64 0] n=numV (List.replicate n 0):=by
 apply Array.ext
 ·simp[madeCells,numV]
 ·intro i h1 h2
  simp[madeCells,numV,Nat.mod_one]
theorem made_n (n:Nat) (hn:n≤64) (W:World):(Instr.makeSlice 40 (.int .i64 (n:Nat)) (.int .i64 (n:Nat))).run Tryz.prog W=.ok (.slice (some ⟨W.heap.size,0,none⟩) n n) (W.alloc (.cells (numV (List.replicate n 0)) 2)):=by
 obtain⟨ei,hin,hz0,hz1,hz2⟩:=info_parts num_info
 have h:=run_make (P:=Tryz.prog) (w:=W) 40 2 ei _ Tryz.underlying40 hin hz0 .i64 .i64 (n:Nat) (n:Nat) (by omega) (by omega) (by rw[hz2];omega) (by omega)
 rw[hz1,Int.toNat_natCast,Nat.mul_one] at h
 rw[←made_zeros]
 exact h
theorem zeros_in (n:Nat) (hn:n≤64):(∀x∈List.replicate n (0:Int),in64 x)∧(List.replicate n (0:Int)).length≤64:=⟨fun x hx=>by rw[List.mem_replicate] at hx;rw[hx.2];decide,by simpa using hn⟩
theorem new_any (nm:ByteArray) (pa va aa:Option Addr) (pc vc ac an:Nat) (bv:Value) (ps:List ByteArray) (ds:List (ByteArray×Int)) (zs:List Int) (hps:ps.length≤1000) (hds:ds.length≤1000) (w:World) (hp:StrsAt w pa ps) (hd:DeclsAt w va ds) (hz:RowIn .i64 w aa an zs) (hzl:zs.length=an):
  Calls Tryz.prog 92 #[.agg #[.string nm,.slice pa ps.length pc,.slice va ds.length vc,bv],.slice aa an ac] w fun e w'=>(∃E blk,e=.returned (.pointer (some ⟨E,0,none⟩))∧EnvIn w.heap.size E blk (newL ps ds zs) w')∧Below w.heap.size w w':=by
 have hmp:=@run_mapN Tryz.prog 154 _ _ Tryz.underlying154 ((ps.length:Int)+(ds.length:Int))
 have hsum:IntKind.i64.wrap ((ps.length:Int)+(ds.length:Int))=(ps.length:Int)+(ds.length:Int):=IntWalk.i64_in _ (by omega)
 obtain⟨ei,hin,hz0,hz1,hz2⟩:=info_parts ze4
 have hmk:∀W:World,(Instr.makeSlice 57 (.int .i64 0) (.int .i64 ((ps.length:Int)+(ds.length:Int)))).run Tryz.prog W=.ok (.slice (some ⟨W.heap.size,0,none⟩) 0 (ps.length+ds.length)) (W.alloc (.cells (madeCells #[.string {data:=#[]},.bool false,.slice none 0 0] ((ps.length+ds.length)*3)) 76)):=fun W=>by
  have h:=run_make (P:=Tryz.prog) (w:=W) 57 76 ei _ Tryz.underlying57 hin hz0 .i64 .i64 0 ((ps.length:Int)+(ds.length:Int)) (by omega) (by omega) (by rw[hz2];omega) (by omega)
  rw[hz1,show((ps.length:Int)+(ds.length:Int)).toNat=ps.length+ds.length by omega] at h
  exact h
 have hms:(madeCells #[.string {data:=#[]},.bool false,.slice none 0 0] ((ps.length+ds.length)*3)).size=(ps.length+ds.length)*3:=by simp[madeCells]
 generalize madeCells #[.string {data:=#[]},.bool false,.slice none 0 0] ((ps.length+ds.length)*3)=mc at hmk hms
 have HMS:=hid hms
 clear hms hz0 hz1 hz2 hin
 go_enter Tryz.func92,Tryz.ntmps92
 go_wp2
 go_cut [6] (fun y wx=>∃E,y=.pointer (some ⟨E,0,none⟩)∧w.heap.size≤E∧EnvIn w.heap.size E (fun _=>0) [] wx∧Below w.heap.size w wx∧E≠w.heap.size∧wx.heap[w.heap.size]?=some (.cells #[.string nm,.slice pa ps.length pc,.slice va ds.length vc,bv] 74 (0,0)))
 case first =>
  go_region
  all_goals go_wp2
  ·go_meet
   refine⟨w.heap.size+1+1+1,rfl,by omega,env_new (g:=w.heap.size+1) (M:=w.heap.size+1+1) (cap:=ps.length+ds.length) (mc:=mc) ?_ ?_ HMS.out (by unfold maxLen;omega) ?_ (by omega) (by omega) (by omega),?_,by omega,?_⟩
   ·(repeat' (first | (with_reducible refine zaB _ ?_;simp;done) | with_reducible apply zak | with_reducible apply zcO))
   ·(repeat' (first | (with_reducible refine zaB _ ?_;simp;done) | with_reducible apply zak | with_reducible apply zcO))
   ·exact(map_new' (by simp)).alloc _
   ·repeat' (first | with_reducible exact Below.refl _ _ | with_reducible refine Below.alloc ?_ ?_ _ | with_reducible refine Below.drew ?_ | (simp;done) | (simp;omega))
   ·(repeat' (first | (with_reducible refine zaB _ ?_;simp;done) | with_reducible apply zak | with_reducible apply zcO))
  ·go_meet
   refine⟨w.heap.size+1+1+1,rfl,by omega,env_new (g:=w.heap.size+1+1) (M:=w.heap.size+1) (cap:=ps.length+ds.length) (mc:=mc) ?_ ?_ HMS.out (by unfold maxLen;omega) ?_ (by omega) (by omega) (by omega),?_,by omega,?_⟩
   ·(repeat' (first | (with_reducible refine zaB _ ?_;simp;done) | with_reducible apply zak | with_reducible apply zcO))
   ·(repeat' (first | (with_reducible refine zaB _ ?_;simp;done) | with_reducible apply zak | with_reducible apply zcO))
   ·exact((map_new' (by simp)).alloc _).alloc _
   ·repeat' (first | with_reducible exact Below.refl _ _ | with_reducible refine Below.alloc ?_ ?_ _ | with_reducible refine Below.drew ?_ | (simp;done) | (simp;omega))
   ·(repeat' (first | (with_reducible refine zaB _ ?_;simp;done) | with_reducible apply zak | with_reducible apply zcO))
 case rest =>
  obtain⟨E,rfl,hBE,hE,hb,hne,hF⟩:=hcut
  have hN:NInv w E (zc1 zs 0 (ps.take 0)) #[.string nm,.slice pa ps.length pc,.slice va ds.length vc,bv] _:=⟨⟨_,hE⟩,hb,hne,hF⟩
  have f1:=zab (k:=1) hF rfl
  have HN:=hid hN
  clear hN hE hb hF hmk HMS hsum hmp
  go_wp2
  go_loopw [7,8,9,28] (fun _ _ _ i wr=>∃k:Nat,k≤ps.length∧i=.int .i64 k∧NInv w E (zc1 zs 0 (ps.take k)) #[.string nm,.slice pa ps.length pc,.slice va ds.length vc,bv] wr) (fun _ _ _ i _=>ps.length - (intOf i).toNat)
  case atStart=>exact⟨0,Nat.zero_le _,rfl,HN.out⟩
  case round =>
   obtain⟨k,hk,rfl,hI⟩:=hrel
   by_cases hlt:k < ps.length
   ·obtain⟨pb,po,rfl,hpc,hps⟩:=hp k ps[k] (List.getElem?_eq_getElem hlt)
    have p0:=cellB hI.bel hpc
    have HI:=hid hI
    have HS:=hid hps
    have hpb:=World.block_lt_of_cell? _ _ p0
    simp only at hpb
    have HL:Hid ((zc1 zs 0 (ps.take k)).length≤100000):=hid (by rw[parsL_len];simp;omega)
    have HE:Hid (zc1 zs 0 (ps.take (k+1))=zc1 zs 0 (ps.take k)++[⟨ps[k].data.toList,false,[zs.getD k 0]⟩]):=hid (by rw[parsL_take zs ps 0 k hlt,Nat.zero_add];rfl)
    have hm1:=made_one
    by_cases hka:k < an
    ·obtain⟨ab,ao,rfl,-,hcc⟩:=hz.2 (by omega)
     obtain⟨hc0,hw0⟩:=hcc k hka
     have a0:=cellB hI.bel hc0
     have HW:=hid hw0
     have hab:=World.block_lt_of_cell? _ _ a0
     simp only at hab
     generalize zs.getD k 0=z at a0 HW HE
     generalize ps[k]=s at *
     go_wp2
     go_region
     all_goals go_wp2_with (go_at_call 138;refine(HI.out.add (by repeat' (first | with_reducible exact Below.refl _ _ | with_reducible refine Below.alloc ?_ ?_ _ | with_reducible refine Below.drew ?_ | with_reducible refine Below.setCell ?_ ?_ _ | (simp;done) | (simp;omega))) HL.out s HS.out false [z] (Nat.le_refl _) (zcO (zak _ (zah wr _))) (one_num (wf_in64 HW.out)) rfl).mono ?_;rintro e w2 ⟨rfl,hN,-⟩;have HN2:=hid hN;clear hN)
     all_goals
      go_round
      case rel=>exact⟨k+1,by omega,by go_num,by rw[HE.out];exact HN2.out⟩
      case measure=>simp[intOf];omega
    ·have hz0:zs.getD k 0=0:=by simp[List.getD,List.getElem?_eq_none (show zs.length≤k by omega)]
     rw[hz0] at HE
     clear hz0
     generalize ps[k]=s at *
     go_wp2_with (go_at_call 138;refine(HI.out.add (by repeat' (first | with_reducible exact Below.refl _ _ | with_reducible refine Below.alloc ?_ ?_ _ | with_reducible refine Below.drew ?_ | with_reducible refine Below.setCell ?_ ?_ _ | (simp;done) | (simp;omega))) HL.out s HS.out false [0] (Nat.le_refl _) (zak _ (zah wr _)) (one_num (by decide)) rfl).mono ?_;rintro e w2 ⟨rfl,hN,-⟩;have HN2:=hid hN;clear hN)
     go_round
     case rel=>exact⟨k+1,by omega,by go_num,by rw[HE.out];exact HN2.out⟩
     case measure=>simp[intOf];omega
   ·obtain rfl:k=ps.length:=by omega
    rw[List.take_length] at hI
    have hF:=hI.box
    have f2:=zab (k:=2) hF rfl
    have HI:=hid hI
    clear hI hF hz hp hk hlt
    go_wp2
    go_loopw [11,54] (fun _ i wr=>∃k:Nat,k≤ds.length∧i=.int .i64 k∧NInv w E (zc1 zs 0 ps++(ds.take k).map varC) #[.string nm,.slice pa ps.length pc,.slice va ds.length vc,bv] wr) (fun _ i _=>ds.length - (intOf i).toNat)
    case atStart=>exact⟨0,Nat.zero_le _,rfl,by simpa using HI.out⟩
    case round =>
     obtain⟨k,hk,rfl,hI⟩:=hrel
     by_cases hlt:k < ds.length
     ·obtain⟨db,dof,rfl,hc0,hc1,hss⟩:=hd k ds[k] (List.getElem?_eq_getElem hlt)
      have p0:=cellB hI.bel hc0
      have p1:=cellB hI.bel hc1
      have hdb:=World.block_lt_of_cell? _ _ p0
      simp only at hdb
      have HI:=hid hI
      have HS:=hid hss
      have HL:Hid ((zc1 zs 0 ps++(ds.take k).map varC).length≤100000):=hid (by rw[List.length_append,parsL_len];simp;omega)
      have HE:Hid (zc1 zs 0 ps++(ds.take (k+1)).map varC=(zc1 zs 0 ps++(ds.take k).map varC)++[varC ds[k]]):=hid (by rw[List.take_succ_eq_append_getElem hlt,List.map_append,List.append_assoc];rfl)
      generalize ds[k]=d at *
      obtain⟨s,z⟩:=d
      simp only at p0 p1 HS
      have hrn:=roomN_le z
      have HR:Hid (∀W,Calls Tryz.prog 139 #[.int .i64 z] W fun e w'=>e=.returned (.int .i64 (roomN z:Nat))∧w'=W):=hid (room_any z)
      have hmk:=made_n (roomN z) hrn
      have HV:Hid (varC (s,z)=⟨s.data.toList,decide (0 < z),List.replicate (roomN z) 0⟩):=hid rfl
      generalize roomN z=n at *
      have q0:((wr.alloc (.cells #[.string s,.int .i64 z] 88)).drew).cell? ⟨wr.heap.size,0,none⟩=some (.string s):=zab (zcO (zah wr _)) rfl
      have q1:((wr.alloc (.cells #[.string s,.int .i64 z] 88)).drew).cell? ⟨wr.heap.size,1,none⟩=some (.int .i64 z):=zab (zcO (zah wr _)) rfl
      have hwb:Below wr.heap.size wr (((wr.alloc (.cells #[.string s,.int .i64 z] 88)).drew).alloc (.cells (numV (List.replicate n 0)) 2)):=(((Below.refl _ _).alloc (Nat.le_refl _) _).drew).alloc (by simp) _
      have hnw:(((wr.alloc (.cells #[.string s,.int .i64 z] 88)).drew).alloc (.cells (numV (List.replicate n 0)) 2)).heap[wr.heap.size+1]?=some (.cells (numV (List.replicate n 0)) 2 (0,0)):=zaB _ (by simp)
      have hbx:(((wr.alloc (.cells #[.string s,.int .i64 z] 88)).drew).alloc (.cells (numV (List.replicate n 0)) 2)).heap[wr.heap.size]?=some (.cells #[.string s,.int .i64 z] 88 (0,0)):=zak _ (zcO (zah wr _))
      have hen:wr.heap.size≠E:=by
       obtain⟨blk,h9⟩:=hI.env
       have:=h9.lt
       omega
      have HWB:=hid (And.intro hwb hnw)
      have HBX:=hid (And.intro hbx hen)
      clear hwb hnw hbx hen
      clear hI hc0 hc1 hss
      go_wp2
      go_region_held3 (fun W=>W.cell? ⟨wr.heap.size,0,none⟩=some (.string s)∧W.cell? ⟨wr.heap.size,1,none⟩=some (.int .i64 z)) (go_keep) (first
       | (go_at_call 139;((with_reducible refine(HR.out _).mono ?_);rintro e w1 ⟨rfl,rfl⟩))
       | (go_at_call 138;refine(HI.out.add HWB.out.1 HL.out s HS.out (decide (0 < z)) (List.replicate n 0) (Nat.le_succ _) HWB.out.2 (zeros_in n hrn) (List.length_replicate)).mono ?_;rintro e w2 ⟨rfl,hN,hkk⟩;have HN2:=hid hN;have hbz:=hkk _ _ _ _ HBX.out.1 HBX.out.2 (by decide);have q0:=zab (k:=0) hbz rfl;have q1:=zab (k:=1) hbz rfl;clear hN hkk hbz))
      go_wp2
      go_round
      case rel=>exact⟨k+1,by omega,by go_num,by rw[HE.out,HV.out];exact HN2.out⟩
      case measure=>simp[intOf];omega
     ·obtain rfl:k=ds.length:=by omega
      rw[List.take_length] at hI
      obtain⟨blk,hE⟩:=hI.env
      have HX:=hid (And.intro hE hI.bel)
      clear hE hI
      go_wp2
      go_ret
      exact⟨⟨E,blk,rfl,HX.out.1⟩,HX.out.2⟩
end Go.Proofs.YtbilfdapmbahgaaGreatDoor.Ev

namespace Go.Proofs.YtbilfdapmbahgaaGreatDoor.Rn
open Go Go.RowKit Go.Proofs.YtbilfdapmbahgaaGreatDoor Go.Proofs.YtbilfdapmbahgaaGreatDoor.Ev
def parsR (zs:List Int):Nat→List (List UInt8)→List PC
 | _,[]=>[]
 | i,p :: l=>⟨p,false,[zs.getD i 0]⟩ :: parsR zs (i+1) l
def varR (d:List UInt8×Nat):PC:=⟨d.1,decide (0 < d.2),List.replicate (roomN d.2) 0⟩
def newR (F:RF) (zs:List Int):List PC:=parsR zs 0 F.params++F.vars.map varR
theorem new_rf (F:FT) (zs:List Int):newL F.params F.vars zs=newR F.rf zs:=by
 have h1:∀(l:List ByteArray) (i:Nat),zc1 zs i l=parsR zs i (l.map fun s=>s.data.toList):=by
  intro l
  induction l with
  | nil=>intro i;rfl
  | cons p l ih=>intro i;rw[zc1,ih,List.map_cons,parsR];rfl
 have h2:∀d:ByteArray×Int,varC d=varR (d.1.data.toList,d.2.toNat):=by
  intro d
  unfold varC varR roomN
  have e1:decide (0 < d.2)=decide (0 < d.2.toNat):=by rw[decide_eq_decide];omega
  have e2:(min (max d.2 1) 64).toNat=(min (max (d.2.toNat:Int) 1) 64).toNat:=by omega
  rw[e1,e2]
 unfold newL newR
 rw[h1]
 congr 1
 show F.vars.map varC=(F.vars.map _).map varR
 rw[List.map_map]
 exact List.map_congr_left fun d _=>h2 d
structure Vis where
 node:Nat
 tag:Nat
 cells:List PC
deriving DecidableEq
structure MS where
 left:Nat
 at':Nat
 inp:List Int
 ev:List Vis
deriving DecidableEq
structure Fr where
 L:List PC
 r:Int
deriving DecidableEq
inductive Task where
 | seq (k:Nat) (l:List RS)
 | loop (k t:Nat) (c:RE) (b:List RS)
inductive Out where
 | go (way:Nat) (f:Fr) (s:MS)
 | trap (t:Int) (s:MS)
deriving DecidableEq
def stop (d k:Nat) (s:MS):MS:={s with at':=if d=1 then k else s.at'}
def came (d k t:Nat) (L:List PC) (s:MS):MS:=⟨s.left - 1,if d=1 then k else s.at',s.inp,if d=1 then s.ev++[⟨k,t,L⟩] else s.ev⟩
def zeB (L:List PC):List RE→List Int×Int
 | []=>([],0)
 | e :: l=>if (evE L e).2=0 then ((evE L e).1 :: (zeB L l).1,(zeB L l).2) else ([],(evE L e).2)
def zca (r:Int×Int) (s:MS) (k:Int→Out):Out:=if r.2=0 then k r.1 else .trap r.2 s
def backO (n:List UInt8) (f:Fr):Out→Out
 | .go _ f' s'=>.go 0 ⟨setV f.L n false 0 f'.r,f.r⟩ s'
 | .trap t s'=>.trap t s'
def doG (rec:Nat→Task→Fr→MS→Out) (fs:List RF) (d k:Nat) (f:Fr) (s:MS):RS→Out
 | .asg _ n e=>zca (evE f.L e) s fun v=>.go 0 ⟨setV f.L n false 0 v,f.r⟩ s
 | .sto _ n i e=>zca (evE f.L i) s fun j=>zca (evE f.L e) s fun v=>if slot f.L n true j=none then .trap 3 s else .go 0 ⟨setV f.L n true j v,f.r⟩ s
 | .rd _ n=>.go 0 ⟨setV f.L n false 0 (s.inp.headD 0),f.r⟩ ⟨s.left,s.at',s.inp.tail,s.ev⟩
 | .call _ n g es=>if (zeB f.L es).2=0 then (if d=40 then .trap 5 s else match fs[Ck.zbx fs g]? with
   | none=>.trap 7 s
   | some F=>backO n f (rec (d+1) (.seq 0 F.body) ⟨newR F (zeB f.L es).1,0⟩ s)) else .trap (zeB f.L es).2 s
 | .ife _ c b l=>zca (evE f.L c) s fun v=>if v=0 then rec d (.seq (k+1+nSs b) l) f s else rec d (.seq (k+1) b) f s
 | .whl t c b=>rec d (.loop k t c b) f s
 | .brk _=>.go 1 f s
 | .cnt _=>.go 2 f s
 | .ret _ e=>zca (evE f.L e) s fun v=>.go 3 ⟨f.L,v⟩ s
 | .ass _ e=>zca (evE f.L e) s fun v=>if v=0 then .trap 4 s else .go 0 f s
def seqO (o:Out) (k:Fr→MS→Out):Out:=match o with
 | .go 0 f s=>k f s
 | .go (w+1) f s=>.go (w+1) f s
 | .trap t s=>.trap t s
def rndO (o:Out) (d k:Nat) (K:Fr→MS→Out):Out:=match o with
 | .go 1 f s=>.go 0 f s
 | .go 3 f s=>.go 3 f s
 | .go _ f s=>if s.left=0 then .trap 6 (stop d k s) else K f s
 | .trap t s=>.trap t s
def runG (fs:List RF):Nat→Nat→Task→Fr→MS→Out
 | 0,_,_,_,s=>.trap 7 s
 | g+1,d,.seq k [],f,s=>.go 0 f s
 | g+1,d,.seq k (x :: l),f,s=>if s.left=0 then .trap 6 (stop d k s) else
   seqO (doG (runG fs g) fs d k f (came d k x.tag f.L s) x) fun f' s'=>runG fs g d (.seq (k+1+nB x) l) f' s'
 | g+1,d,.loop k t c b,f,s=>zca (evE f.L c) s fun v=>if v=0 then .go 0 f s else
   rndO (runG fs g d (.seq (k+1) b) f s) d k fun f' s'=>runG fs g d (.loop k t c b) f' (came d k t f'.L s')
def Out.st:Out→MS
 | .go _ _ s=>s
 | .trap _ s=>s
def Task.more:Task→Nat
 | .seq ..=>1
 | .loop ..=>2
structure Mo (s s':MS):Prop where
 left:s'.left≤s.left
 ev:s.ev <+: s'.ev
 num:s'.ev.length+s'.left≤s.ev.length+s.left
theorem Mo.refl (s:MS):Mo s s:=⟨Nat.le_refl _,List.prefix_refl _,Nat.le_refl _⟩
theorem Mo.trans {a b c:MS} (h:Mo a b) (k:Mo b c):Mo a c:=⟨Nat.le_trans k.left h.left,h.ev.trans k.ev,Nat.le_trans k.num h.num⟩
theorem mo_stop (d k:Nat) (s:MS):Mo s (stop d k s):=⟨Nat.le_refl _,List.prefix_refl _,Nat.le_refl _⟩
theorem mo_came (d k t:Nat) (L:List PC) {s:MS} (h:s.left≠0):Mo s (came d k t L s):=by
 refine⟨Nat.sub_le _ _,?_,?_⟩
 ·show s.ev <+: if d=1 then s.ev++[⟨k,t,L⟩] else s.ev
  split
  ·exact List.prefix_append _ _
  ·exact List.prefix_refl _
 ·show(if d=1 then s.ev++[⟨k,t,L⟩] else s.ev).length+(s.left - 1)≤_
  split
  ·rw[List.length_append,List.length_singleton];omega
  ·omega
theorem zeC {s:MS} {r:Int×Int} {s0:MS} {k:Int→Out} (h0:Mo s s0) (h:∀v,Mo s (k v).st):Mo s (zca r s0 k).st:=by
 unfold zca
 split
 ·exact h _
 ·exact h0
theorem mo_do {rec:Nat→Task→Fr→MS→Out} (hr:∀d T f s,Mo s (rec d T f s).st) (fs:List RF) (d k:Nat) (f:Fr) (s:MS) (x:RS):Mo s (doG rec fs d k f s x).st:=by
 cases x<;>simp only[doG]
 case asg t n e=>exact zeC (Mo.refl _) fun v=>Mo.refl _
 case sto t n i e=>exact zeC (Mo.refl _) fun v=>zeC (Mo.refl _) fun v=>by split<;>exact Mo.refl _
 case rd t n=>exact⟨Nat.le_refl _,List.prefix_refl _,Nat.le_refl _⟩
 case call t n gn es =>
  split
  ·split
   ·exact Mo.refl _
   ·split
    ·exact Mo.refl _
    ·rename_i F _
     have:=hr (d+1) (.seq 0 F.body) ⟨newR F (zeB f.L es).1,0⟩ s
     generalize rec (d+1) (.seq 0 F.body) ⟨newR F (zeB f.L es).1,0⟩ s=o at this
     cases o<;>exact this
  ·exact Mo.refl _
 case ife t c b l=>exact zeC (Mo.refl _) fun v=>by split<;>exact hr ..
 case whl t c b=>exact hr ..
 case brk t=>exact Mo.refl _
 case cnt t=>exact Mo.refl _
 case ret t e=>exact zeC (Mo.refl _) fun v=>Mo.refl _
 case ass t e=>exact zeC (Mo.refl _) fun v=>by split<;>exact Mo.refl _
theorem mo_seq {s:MS} {o:Out} {k:Fr→MS→Out} (h:Mo s o.st) (hk:∀f s',Mo s' (k f s').st):Mo s (seqO o k).st:=by
 match o,h with
 | .go 0 f' s',h=>exact h.trans (hk ..)
 | .go (w+1) f' s',h=>exact h
 | .trap t s',h=>exact h
theorem mo_rnd {s:MS} {o:Out} {d k:Nat} {K:Fr→MS→Out} (h:Mo s o.st) (hk:∀f s',s'.left≠0→Mo s' (K f s').st):Mo s (rndO o d k K).st:=by
 have h2:∀f' s',Mo s s'→Mo s (if s'.left=0 then Out.trap 6 (stop d k s') else K f' s').st:=by
  intro f' s' h
  split
  ·exact h.trans (mo_stop ..)
  ·rename_i h0;exact h.trans (hk _ _ h0)
 match o,h with
 | .go 1 f' s',h=>exact h
 | .go 3 f' s',h=>exact h
 | .go 0 f' s',h=>exact h2 _ _ h
 | .go 2 f' s',h=>exact h2 _ _ h
 | .go (w+4) f' s',h=>exact h2 _ _ h
 | .trap t s',h=>exact h
theorem runG_mo (fs:List RF):∀(g d:Nat) (T:Task) (f:Fr) (s:MS),Mo s (runG fs g d T f s).st:=by
 intro g
 induction g with
 | zero=>intro d T f s;cases T<;>exact Mo.refl _
 | succ g ih =>
  intro d T f s
  match T with
  | .seq k []=>exact Mo.refl _
  | .seq k (x :: l) =>
   rw[runG]
   split
   ·exact mo_stop ..
   ·rename_i h0
    exact mo_seq ((mo_came d k x.tag f.L h0).trans (mo_do ih ..)) fun f' s'=>ih ..
  | .loop k t c b =>
   rw[runG]
   refine zeC (Mo.refl _) fun v=>?_
   split
   ·exact Mo.refl _
   ·exact mo_rnd (ih ..) fun f' s' h0=>(mo_came d k t f'.L h0).trans (ih ..)
end Go.Proofs.YtbilfdapmbahgaaGreatDoor.Rn

namespace Go.Proofs.YtbilfdapmbahgaaGreatDoor.Rn
open Go Go.RowKit Go.Proofs.YtbilfdapmbahgaaGreatDoor Go.Proofs.YtbilfdapmbahgaaGreatDoor.Ev
structure Sta (ws w:World):Prop where
 size:ws.heap.size≤w.heap.size
 cell:∀p v,ws.cell? p=some v→w.cell? p=some v
theorem Sta.refl (w:World):Sta w w:=⟨Nat.le_refl _,fun _ _ h=>h⟩
theorem Sta.keep {ws w:World} (h:Sta ws w) (p:Addr) (v:Value) (_:0≤p.block) (hc:ws.cell? p=some v):w.cell? p=some v:=h.cell p v hc
structure Old (B:Nat) (X:Nat→Prop) (w w':World):Prop where
 os:w'.os=w.os
 tape:w'.tape=w.tape
 output:w'.output=w.output
 size:w.heap.size≤w'.heap.size
 block:∀b,b < B→¬X b→w'.heap[b]?=w.heap[b]?
theorem Old.refl (B:Nat) (X:Nat→Prop) (w:World):Old B X w w:=⟨rfl,rfl,rfl,Nat.le_refl _,fun _ _ _=>rfl⟩
theorem Old.trans {B:Nat} {X:Nat→Prop} {a b c:World} (h:Old B X a b) (k:Old B X b c):Old B X a c:=
 ⟨k.os.trans h.os,k.tape.trans h.tape,k.output.trans h.output,Nat.le_trans h.size k.size,fun i hi hx=>(k.block i hi hx).trans (h.block i hi hx)⟩
theorem Old.mono {B B':Nat} {X X':Nat→Prop} {a b:World} (h:Old B X a b) (hB:B'≤B) (hX:∀i,i < B'→X i→X' i):Old B' X' a b:=
 ⟨h.os,h.tape,h.output,h.size,fun i hi hx=>h.block i (by omega) (fun e=>hx (hX i hi e))⟩
theorem Old.below {B:Nat} {X:Nat→Prop} {w w':World} (h:Below B w w'):Old B X w w':=⟨h.os,h.tape,h.output,h.size,fun i hi _=>h.block i hi⟩
theorem Old.set {B:Nat} {X:Nat→Prop} {w w':World} (h:Old B X w w') {b:Nat} (hb:B≤b∨X b) (k:Nat) (u:Value):Old B X w (w'.setCell ⟨b,k,none⟩ u):=
 ⟨h.os,h.tape,h.output,by simpa[World.setCell] using h.size,fun i hi hx=>(Below.heap_setCell _ _ _ _ (by rintro rfl;rcases hb with hb | hb;omega;exact hx hb)).trans (h.block i hi hx)⟩
theorem Old.alloc {B:Nat} {X:Nat→Prop} {w w':World} (h:Old B X w w') (hB:B≤w'.heap.size) (o:Obj):Old B X w (w'.alloc o):=
 h.trans (Old.below ((Below.refl B w').alloc hB o))
theorem Old.drew {B:Nat} {X:Nat→Prop} {w w':World} (h:Old B X w w'):Old B X w w'.drew:=⟨h.os,h.tape,h.output,h.size,h.block⟩
theorem Old.grown {B R:Nat} {w w':World} (h:Old w.heap.size (·=R) w w'):w.grownBy w' (some R):=⟨h.os,h.tape,h.output,h.size,fun k hk hn=>h.block k hk (by simpa using hn)⟩
theorem Sta.old {B:Nat} {X:Nat→Prop} {ws w w':World} (h:Sta ws w) (hB:ws.heap.size≤B) (hX:∀p v,ws.cell? p=some v→¬X p.block) (k:Old B X w w'):Sta ws w':=
 ⟨Nat.le_trans h.size k.size,fun p v hp=>by
  rw[World.cell?_of_block (w:=w) (k.block p.block (Nat.lt_of_lt_of_le (World.block_lt_of_cell? ws p hp) hB) (hX p v hp))]
  exact h.cell p v hp⟩
mutual
def NIn (w:World) (B:Nat) (a:Option Addr) (i k:Nat):ST→Prop
 | .mk kd t n f ea ec e ba bc b la lc l=>∃(ab al:Option Addr) (cb cl:Nat),RowAt w B a i 10 #[.int .i64 kd,.int .i64 t,.string n,.string f,.slice ea e.length ec,.slice ba b.length bc,.slice la l.length lc,.int .i64 (k:Nat),.slice ab b.length cb,.slice al l.length cl] ∧
   NsIn w B ab 0 (k+1) b∧NsIn w B al 0 (k+1+cnts b) l
def NsIn (w:World) (B:Nat) (a:Option Addr):Nat→Nat→List ST→Prop
 | _,_,[]=>True
 | i,k,S :: l=>NIn w B a i k S∧NsIn w B a (i+1) (k+S.cnt) l
end
mutual
theorem NIn.keep {w w':World} {B B':Nat} (hB:B'≤B) (hk:∀p v,B≤p.block→w.cell? p=some v→w'.cell? p=some v) {a:Option Addr}:∀{i k:Nat} {S:ST},NIn w B a i k S→NIn w' B' a i k S
 | i,k,.mk kd t n f ea ec e ba bc b la lc l,h=>by
  rw[NIn] at h ⊢
  obtain⟨ab,al,cb,cl,h1,h3,h4⟩:=h
  exact⟨ab,al,cb,cl,(h1.keep hk).mono hB,NsIn.keep hB hk h3,NsIn.keep hB hk h4⟩
theorem NsIn.keep {w w':World} {B B':Nat} (hB:B'≤B) (hk:∀p v,B≤p.block→w.cell? p=some v→w'.cell? p=some v) {a:Option Addr}:∀{i k:Nat} {l:List ST},NsIn w B a i k l→NsIn w' B' a i k l
 | _,_,[],_=>by rw[NsIn];trivial
 | i,k,S :: l,h=>by
  rw[NsIn] at h ⊢
  exact⟨NIn.keep hB hk h.1,NsIn.keep hB hk h.2⟩
end
theorem NsIn.nth {w:World} {B:Nat} {a:Option Addr}:∀{l:List ST} {i k:Nat},NsIn w B a i k l→∀(j:Nat) (hj:j < l.length),NIn w B a (i+j) (k+cnts (l.take j)) l[j]
 | [],_,_,_,j,hj=>by simp at hj
 | S :: l,i,k,h,j,hj=>by
  rw[NsIn] at h
  cases j with
  | zero=>simpa[cnts] using h.1
  | succ j =>
   have:=NsIn.nth h.2 j (by simpa using hj)
   rw[List.take_succ_cons,cnts,show i+(j+1)=i+1+j by omega,←Nat.add_assoc]
   exact this
theorem nsIn_of {w:World} {B:Nat} {a:Option Addr}:∀(l:List ST) (i k:Nat),(∀j (hj:j < l.length),NIn w B a (i+j) (k+cnts (l.take j)) l[j])→NsIn w B a i k l
 | [],_,_,_=>by rw[NsIn];trivial
 | S :: l,i,k,h=>by
  rw[NsIn]
  refine⟨h 0 (by simp),nsIn_of l (i+1) (k+S.cnt) fun j hj=>?_⟩
  have:=h (j+1) (by simpa using hj)
  rw[List.take_succ_cons,cnts,show i+(j+1)=i+1+j by omega,←Nat.add_assoc] at this
  exact this
structure EnvV (B E:Nat) (blk:Nat→Nat) (v:Value) (M:Nat) (L:List PC) (w:World):Prop where
 cel:w.heap[E]?=some (.cells #[v,.map (some M)] 156 (0,0))
 base:B≤E∧B≤M
 row:w.ownsRow B 76 3 v L.length (zbc blk 0 L)
 map:MapIn M L w
 bl:∀k c,L[k]?=some c→B≤blk k∧w.heap[blk k]?=some (.cells (numV c.v) 2 (0,0))
 inj:∀k m,k < L.length→m < L.length→blk k=blk m→k=m
 nums:Nums L
theorem EnvV.env {B E:Nat} {blk:Nat→Nat} {v:Value} {M:Nat} {L:List PC} {w:World} (h:EnvV B E blk v M L w):EnvIn B E blk L w:=⟨⟨v,M,h.cel,h.base,h.row,h.map⟩,h.bl,h.inj,h.nums⟩
theorem envV_of {B E:Nat} {blk:Nat→Nat} {L:List PC} {w:World} (h:EnvIn B E blk L w):∃v M,EnvV B E blk v M L w:=by
 obtain⟨⟨v,M,h1,h2,h3,h4⟩,h5,h6,h7⟩:=h
 exact⟨v,M,h1,h2,h3,h4,h5,h6,h7⟩
def EnvP (E:Nat) (blk:Nat→Nat) (v:Value) (M n:Nat) (b:Nat):Prop:=b=E∨b=M∨v.ownBlock=some b∨∃k,k < n∧b=blk k
theorem EnvV.lt {B E:Nat} {blk:Nat→Nat} {v:Value} {M:Nat} {L:List PC} {w:World} (h:EnvV B E blk v M L w) {b:Nat} (hb:EnvP E blk v M L.length b):B≤b∧b < w.heap.size:=by
 rcases hb with rfl | rfl | hb | ⟨k,hk,rfl⟩
 ·exact⟨h.base.1,lt_of_block h.cel⟩
 ·exact⟨h.base.2,h.map.lt⟩
 ·exact(h.row.lt b hb)
 ·have:=h.bl k _ (List.getElem?_eq_getElem hk)
  exact⟨this.1,lt_of_block this.2⟩
theorem ze5 {w w':World} {B n sz:Nat} {e:TypeId} {v:Value} {xs:List Value} (h:w.ownsRow B e sz v n xs) (hk:∀b,v.ownBlock=some b→w'.heap[b]?=w.heap[b]?):w'.ownsRow B e sz v n xs:=by
 refine⟨h.1,?_⟩
 rcases h.2 with h0 | ⟨g,cap,cur,rfl,h2,h3,h4⟩
 ·exact .inl h0
 ·exact .inr ⟨g,cap,cur,rfl,h2,(hk g rfl).trans h3,h4⟩
theorem map_same {M:Nat} {L:List PC} {w w':World} (h:MapIn M L w) (hk:w'.heap[M]?=w.heap[M]?):MapIn M L w':=by
 obtain⟨D,⟨es,clock,h1,h2⟩,h3,h4⟩:=h
 exact⟨D,⟨es,clock,hk.trans h1,h2⟩,h3,h4⟩
theorem EnvV.keep {B E:Nat} {blk:Nat→Nat} {v:Value} {M:Nat} {L:List PC} {w w':World} (h:EnvV B E blk v M L w) (hk:∀b,EnvP E blk v M L.length b→w'.heap[b]?=w.heap[b]?):EnvV B E blk v M L w':=
 ⟨(hk E (.inl rfl)).trans h.cel,h.base,ze5 h.row fun b hb=>hk b (.inr (.inr (.inl hb))),map_same h.map (hk M (.inr (.inl rfl))),fun k c hc=>⟨(h.bl k c hc).1,(hk _ (.inr (.inr (.inr ⟨k,(List.getElem?_eq_some_iff.1 hc).1,rfl⟩)))).trans (h.bl k c hc).2⟩,h.inj,h.nums⟩
theorem EnvV.again {B E:Nat} {blk:Nat→Nat} {v:Value} {M:Nat} {L L':List PC} {w w':World} (h:EnvV B E blk v M L w) (h':EnvIn B E blk L' w') (hk:w'.heap[E]?=w.heap[E]?):EnvV B E blk v M L' w':=by
 obtain⟨v',M',k⟩:=envV_of h'
 have e:=k.cel
 rw[hk,h.cel] at e
 simp only[Option.some.injEq,Obj.cells.injEq,and_true] at e
 have e2:#[v,Value.map (some M)]=#[v',Value.map (some M')]:=e
 simp only[Array.mk.injEq,List.cons.injEq,Value.map.injEq,Option.some.injEq,and_true] at e2
 obtain⟨rfl,rfl⟩:=e2
 exact k
theorem setV_len (L:List PC) (s:List UInt8) (arr:Bool) (i n:Int):(setV L s arr i n).length=L.length:=by
 unfold setV
 split
 ·rfl
 ·simp[setAt]
end Go.Proofs.YtbilfdapmbahgaaGreatDoor.Rn
