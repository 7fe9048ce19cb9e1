/- An expression is reckoned in a frame, or traps; what is asked of a node. -/
import Derived.Test.YtbilfdapmbahgaaGreatDoorEPlace
import Derived.Test.YtbilfdapmbahgaaGreatDoorRHeap
import Derived.Test.YtbilfdapmbahgaaGreatDoorTFeed
import Derived.Test.YtbilfdapmbahgaaGreatDoorLRow
import Derived.RegionTactic
import Derived.ChangeAlike
import Derived.Outline
set_option linter.unusedSimpArgs false
set_option linter.unusedVariables false
set_option maxHeartbeats 8000000
set_option maxRecDepth 100000
namespace Go.Proofs.YtbilfdapmbahgaaGreatDoor.Rn
open Go Go.RowKit Go.Proofs.YtbilfdapmbahgaaGreatDoor Go.Proofs.YtbilfdapmbahgaaGreatDoor.Ev
mutual
def okC (P:List UInt8→Nat→Bool):RS→Bool
 | .call _ _ f l=>P f l.length
 | .ife _ _ b l=>okCs P b&&okCs P l
 | .whl _ _ b=>okCs P b
 | .asg _ _ _=>true
 | .sto _ _ _ _=>true
 | .rd _ _=>true
 | .brk _=>true
 | .cnt _=>true
 | .ret _ _=>true
 | .ass _ _=>true
def okCs (P:List UInt8→Nat→Bool):List RS→Bool
 | []=>true
 | s :: l=>okC P s&&okCs P l
end
structure Cx where
 fa:Option Addr
 fc:Nat
 l:List FT
 ca:Option Addr
 cc:Nat
 fuel:Nat
 g:Nat
 caps:Array Value
abbrev Cx.rf (C:Cx):List RF:=C.l.map FT.rf
def Cx.known (C:Cx) (nm:List UInt8) (n:Nat):Bool:=decide (Ck.zbx C.rf nm < C.l.length∧n≤64)
structure CxIn (C:Cx) (ws:World):Prop where
 fs:FsIn ws 0 C.fa C.l
 many:C.l.length≤1000
 code:∀(i:Nat) (h:i < C.l.length),∃a c,RowAt ws 0 C.ca i 1 #[.slice a C.l[i].body.length c]∧NsIn ws 0 a 0 0 C.l[i].body
 right:∀F∈C.l,F.rightB=true
 sts:∀F∈C.l,cnts F.body≤1000∧F.params.length≤1000∧F.vars.length≤1000
 calls:∀F∈C.l,okCs C.known (rss F.body)=true
 fuel:C.fuel≤1048576
def InpV (ws:World) (v:Value) (zs:List Int):Prop:=∃a cap,v=.slice a zs.length cap∧zs.length≤cap∧cap≤9223372036854775807∧(∀z∈zs,in64 z)∧∀i z,zs[i]?=some z→∃b o,a=some ⟨b,o,none⟩∧ws.cell? ⟨b,o+i,none⟩=some (.int .i64 z)
abbrev mcl (C:Cx) (iv:Value) (st wh:Nat):Array Value:=#[.slice C.fa C.l.length C.fc,.slice C.ca C.l.length C.cc,iv,.int .i64 (C.fuel:Nat),.int .i64 (st:Nat),.int .i64 (wh:Nat),.func (.func C.g) #[] C.caps]
structure Mch (C:Cx) (ws:World) (Mb:Nat) (s:MS) (w:World):Prop where
 left:s.left≤C.fuel
 at':s.at'≤2000
 blk:∃iv,InpV ws iv s.inp∧w.heap[Mb]?=some (.cells (mcl C iv (C.fuel - s.left) s.at') 109 (0,0))
abbrev ptr (b:Nat):Value:=.pointer (some ⟨b,0,none⟩)
abbrev meth (k Fb:Nat):Value:=.func (.func k) #[ptr Fb] #[]
abbrev fcl (Mb Fb E d:Nat) (r:Int):Array Value:=#[ptr Mb,ptr E,.int .i64 (d:Nat),meth 140 Fb,meth 141 Fb,meth 142 Fb,meth 143 Fb,meth 144 Fb,meth 145 Fb,meth 146 Fb,meth 147 Fb,meth 148 Fb,meth 149 Fb,.int .i64 r]
abbrev WtP:=List Vis→(Nat→Prop)→World→Prop
structure Fx where
 B0:Nat
 Mb:Nat
 Fb:Nat
 E:Nat
 blk:Nat→Nat
 v:Value
 M:Nat
 d:Nat
abbrev Fx.own (X:Fx) (n b:Nat):Prop:=EnvP X.E X.blk X.v X.M n b
structure FS (C:Cx) (wt:WtP) (ws:World) (X:Fx) (fp:Nat→Prop) (f:Fr) (s:MS) (w:World):Prop where
 sta:Sta ws w
 hid:∀p v,ws.cell? p=some v→p.block≠X.Mb∧¬fp p.block
 wsz:ws.heap.size≤X.B0
 lt:X.Mb < X.B0∧X.B0≤X.Fb
 mch:Mch C ws X.Mb s w
 frm:w.heap[X.Fb]?=some (.cells (fcl X.Mb X.Fb X.E X.d f.r) 192 (0,0))
 env:EnvV X.B0 X.E X.blk X.v X.M f.L w
 dj:¬fp X.Mb∧¬fp X.Fb∧∀b,X.own f.L.length b→¬fp b
 own:∀b,X.own f.L.length b→b≠X.Fb
 wat:wt s.ev fp w
 num:s.ev.length+s.left≤C.fuel
 r64:in64 f.r
 len:f.L.length≤2000
 dep:1≤X.d∧X.d≤40
structure Gone (X:Fx) (fp fp':Nat→Prop) (w w':World):Prop where
 nw:∀b,fp' b→fp b∨w.heap.size≤b
 old:Old X.B0 (fun b=>b=X.Mb∨(X.d=1∧fp b)) w w'
theorem Gone.refl (X:Fx) (fp:Nat→Prop) (w:World):Gone X fp fp w w:=⟨fun _ h=>.inl h,Old.refl ..⟩
theorem Gone.trans {X:Fx} {fp fp1 fp2:Nat→Prop} {w w1 w2:World} (h:Gone X fp fp1 w w1) (k:Gone X fp1 fp2 w1 w2) (hB:X.B0≤w.heap.size):Gone X fp fp2 w w2:=by
 have hs:=h.old.size
 refine⟨fun b hb=>?_,h.old.trans (k.old.mono (Nat.le_refl _) fun i hi hx=>?_)⟩
 ·rcases k.nw b hb with h1 | h1
  ·exact h.nw b h1
  ·exact .inr (by omega)
 ·rcases hx with hx | ⟨h1,h2⟩
  ·exact .inl hx
  ·rcases h.nw i h2 with h3 | h3
   ·exact .inr ⟨h1,h3⟩
   ·omega
structure Hal (C:Cx) (wt:WtP) (ws:World) (Mb:Nat) (fp:Nat→Prop) (s:MS) (w:World):Prop where
 mch:Mch C ws Mb s w
 wat:wt s.ev fp w
 num:s.ev.length+s.left≤C.fuel
abbrev zb5 (t:Int):Value:=.iface 33 (.int .i64 t)
def RQ (C:Cx) (wt:WtP) (ws:World) (X:Fx) (fp:Nat→Prop) (w:World) (o:Out) (e:Ending) (w':World):Prop:=match o with
 | .go k f s=>e=.returned (.int .i64 (k:Nat))∧∃fp',FS C wt ws X fp' f s w'∧Gone X fp fp' w w'
 | .trap t s=>e=.panicked [{v:=zb5 t,recovered:=false}]∧∃fp',Hal C wt ws X.Mb fp' s w'∧Gone X fp fp' w w'
structure Wat (C:Cx) (ws:World) (wt:WtP):Prop where
 ent:∀args w,(callFunc C.g args).run Tryz.prog w=.ok (.enter C.g args) w
 keep:∀ev fp w w',wt ev fp w→(∀b,fp b→w'.heap[b]?=w.heap[b]?)→wt ev fp w'
 lt:∀ev fp w,wt ev fp w→∀b,fp b→b < w.heap.size
 call:∀ev fp w nb no k t B E blk v M L,Sta ws w→wt ev fp w→ev.length≤1048576→w.cell? ⟨nb,no+1,none⟩=some (.int .i64 (t:Nat))→w.cell? ⟨nb,no+7,none⟩=some (.int .i64 (k:Nat))→k≤2000→t≤1000000→¬fp nb→EnvV B E blk v M L w→L.length≤2000→(∀b,EnvP E blk v M L.length b→¬fp b) →
  Calls Tryz.prog C.g (#[.pointer (some ⟨nb,no,none⟩),ptr E]++C.caps) w fun e w'=>e=.returned (.tuple #[])∧∃fp',wt (ev++[⟨k,t,L⟩]) fp' w'∧(∀b,fp' b→fp b∨w.heap.size≤b)∧Old w.heap.size fp w w'
section
variable {C:Cx} {wt:WtP} {ws:World} {X:Fx} {fp:Nat→Prop} {f:Fr} {s:MS} {w w':World}
theorem Mch.same {Mb:Nat} (h:Mch C ws Mb s w) (hk:w'.heap[Mb]?=w.heap[Mb]?):Mch C ws Mb s w':=by
 obtain⟨h1,h2,iv,h3,h4⟩:=h
 exact⟨h1,h2,iv,h3,hk.trans h4⟩
theorem FS.size (h:FS C wt ws X fp f s w):X.B0≤w.heap.size:=by
 have:=lt_of_block h.frm
 have:=h.lt
 omega
theorem FS.mlt (h:FS C wt ws X fp f s w):X.Mb < w.heap.size:=by
 have:=h.size;have:=h.lt;omega
theorem FS.on (W:Wat C ws wt) (h:FS C wt ws X fp f s w) (hb:Below w.heap.size w w'):FS C wt ws X fp f s w':=
 ⟨⟨Nat.le_trans h.sta.size hb.size,fun p v hp=>by have:=h.sta.cell p v hp;rw[World.cell?_of_block (w:=w) (hb.block _ (World.block_lt_of_cell? w p this))];exact this⟩,h.hid,h.wsz,h.lt,h.mch.same (hb.block _ h.mlt),(hb.block _ (lt_of_block h.frm)).trans h.frm,
  h.env.keep fun b hb'=>hb.block b (h.env.lt hb').2,h.dj,h.own,W.keep _ _ _ _ h.wat fun b hb'=>hb.block b (W.lt _ _ _ h.wat b hb'),h.num,h.r64,h.len,h.dep⟩
theorem zaI (hb:Below w.heap.size w w') (hB:X.B0≤w.heap.size):Gone X fp fp w w':=⟨fun _ h=>.inl h,Old.below (hb.mono hB)⟩
theorem FS.turn (W:Wat C ws wt) (h:FS C wt ws X fp f s w) (ho:Old w.heap.size (·=X.Mb) w w') {s':MS} (hm:Mch C ws X.Mb s' w') (he:s'.ev=s.ev) (hn:s'.left≤s.left):FS C wt ws X fp f s' w':=by
 have hk:∀b,b < w.heap.size→b≠X.Mb→w'.heap[b]?=w.heap[b]?:=fun b h1 h2=>ho.block b h1 h2
 have hl:=h.lt
 refine⟨h.sta.old h.wsz (X:=(·=X.Mb)) (fun p v hp=>(h.hid p v hp).1) (ho.mono h.size fun _ _ e=>e),h.hid,h.wsz,h.lt,hm,(hk _ (lt_of_block h.frm) (by omega)).trans h.frm,
  h.env.keep fun b hb'=>hk b (h.env.lt hb').2 (by have:=(h.env.lt hb').1;omega),h.dj,h.own,?_,by have:=h.num;rw[he];omega,h.r64,h.len,h.dep⟩
 rw[he]
 exact W.keep _ _ _ _ h.wat fun b hb'=>hk b (W.lt _ _ _ h.wat b hb') (by rintro rfl;exact h.dj.1 hb')
theorem zdP (ho:Old w.heap.size (·=X.Mb) w w') (hB:X.B0≤w.heap.size):Gone X fp fp w w':=⟨fun _ h=>.inl h,ho.mono hB fun _ _ e=>.inl e⟩
theorem FS.setE (W:Wat C ws wt) (h:FS C wt ws X fp f s w) {nm:List UInt8} {arr:Bool} {i n:Int} {e:Ending} (hs:SetIn X.B0 X.E X.blk f.L nm arr i n w e w'):FS C wt ws X fp ⟨setV f.L nm arr i n,f.r⟩ s w'∧Gone X fp fp w w'∧e=.returned (.bool (slot f.L nm arr i).isSome):=by
 obtain⟨he,h1,h2,h3,h4⟩:=hs
 have hlen:=setV_len f.L nm arr i n
 have hl:=h.lt
 have hk:∀b,(∀k,k < f.L.length→b≠X.blk k)→w'.heap[b]?=w.heap[b]?:=by
  intro b hb
  rcases h4 with ⟨-,rfl⟩ | ⟨k,j,e,rfl⟩
  ·rfl
  ·obtain⟨-,-,c,hc,-⟩:=slot_is e
   exact Below.heap_setCell _ _ _ _ (hb k (List.getElem?_eq_some_iff.1 hc).1)
 have hE:w'.heap[X.E]?=w.heap[X.E]?:=by
  refine hk _ fun k hk e=>?_
  have h5:=h.env.cel
  rw[e,(h.env.bl k _ (List.getElem?_eq_getElem hk)).2] at h5
  simp only[Option.some.injEq,Obj.cells.injEq] at h5
  exact absurd h5.2.1 (by decide)
 have hB:∀b,b < X.B0→w'.heap[b]?=w.heap[b]?:=fun b hb=>h2.block b hb
 refine⟨⟨⟨Nat.le_trans h.sta.size h2.size,fun p v hp=>?_⟩,h.hid,h.wsz,h.lt,h.mch.same (hB _ hl.1),?_,?_,⟨h.dj.1,h.dj.2.1,?_⟩,?_,?_,h.num,h.r64,by show(setV _ _ _ _ _).length≤_;rw[hlen];exact h.len,h.dep⟩,⟨fun _ h=>.inl h,Old.below h2⟩,he⟩
 ·have hw:=World.block_lt_of_cell? ws p hp
  rw[World.cell?_of_block (w:=w) (hB _ (Nat.lt_of_lt_of_le hw h.wsz))]
  exact h.sta.cell p v hp
 ·refine(hk _ fun k hk e=>h.own (X.blk k) (.inr (.inr (.inr ⟨k,hk,rfl⟩))) e.symm).trans h.frm
 ·exact h.env.again h1 hE
 ·intro b hb
  exact h.dj.2.2 b (by rwa [hlen] at hb)
 ·intro b hb
  exact h.own b (by rwa [hlen] at hb)
 ·exact W.keep _ _ _ _ h.wat fun b hb'=>hk b fun k hk e=>h.dj.2.2 b (.inr (.inr (.inr ⟨k,hk,e⟩))) hb'
theorem FS.setR (W:Wat C ws wt) (h:FS C wt ws X fp f s w) {n:Int} (hn:in64 n):FS C wt ws X fp ⟨f.L,n⟩ s (w.setCell ⟨X.Fb,13,none⟩ (.int .i64 n))∧Gone X fp fp w (w.setCell ⟨X.Fb,13,none⟩ (.int .i64 n)):=by
 have hl:=h.lt
 have hk:∀b,b≠X.Fb→(w.setCell ⟨X.Fb,13,none⟩ (.int .i64 n)).heap[b]?=w.heap[b]?:=fun b hb=>Below.heap_setCell _ _ _ _ hb
 refine⟨⟨⟨by simpa[World.setCell] using h.sta.size,fun p v hp=>?_⟩,h.hid,h.wsz,h.lt,h.mch.same (hk _ (by omega)),?_,h.env.keep fun b hb=>hk b (h.own b hb),h.dj,h.own,?_,h.num,hn,h.len,h.dep⟩,⟨fun _ h=>.inl h,(Old.refl ..).set (.inl hl.2) _ _⟩⟩
 ·have hw:=World.block_lt_of_cell? ws p hp
  have:=h.wsz
  rw[World.cell?_of_block (w:=w) (hk _ (by omega))]
  exact h.sta.cell p v hp
 ·rw[zat _ h.frm];rfl
 ·exact W.keep _ _ _ _ h.wat fun b hb'=>hk b (by rintro rfl;exact h.dj.2.1 hb')
theorem FS.seen (W:Wat C ws wt) (h:FS C wt ws X fp f s w) (hd:X.d=1) {fp':Nat→Prop} {u:Vis} (hw:wt (s.ev++[u]) fp' w') (hf:∀b,fp' b→fp b∨w.heap.size≤b) (ho:Old w.heap.size fp w w') (hn:s.ev.length+s.left < C.fuel):FS C wt ws X fp' f ⟨s.left,s.at',s.inp,s.ev++[u]⟩ w'∧Gone X fp fp' w w':=by
 have hl:=h.lt
 have hsz:=h.size
 have hk:∀b,b < w.heap.size→¬fp b→w'.heap[b]?=w.heap[b]?:=ho.block
 have hn':∀b,b < w.heap.size→¬fp b→¬fp' b:=fun b h1 h2 h3=>by rcases hf b h3 with h4 | h4;exact h2 h4;omega
 obtain⟨m1,m2,m3⟩:=h.mch
 refine⟨⟨h.sta.old h.wsz (fun p v hp=>(h.hid p v hp).2) (ho.mono hsz fun _ _ e=>e),fun p v hp=>⟨(h.hid p v hp).1,hn' _ ?_ (h.hid p v hp).2⟩,h.wsz,h.lt,?_,(hk _ (lt_of_block h.frm) h.dj.2.1).trans h.frm,h.env.keep fun b hb=>hk b (h.env.lt hb).2 (h.dj.2.2 b hb),⟨hn' _ h.mlt h.dj.1,hn' _ (lt_of_block h.frm) h.dj.2.1,fun b hb=>hn' _ (h.env.lt hb).2 (h.dj.2.2 b hb)⟩,h.own,hw,by show(s.ev++[u]).length+s.left≤_;rw[List.length_append,List.length_singleton];omega,h.r64,h.len,h.dep⟩,⟨hf,ho.mono hsz fun _ _ e=>.inr ⟨hd,e⟩⟩⟩
 ·have hw:=World.block_lt_of_cell? ws p hp
  have:=h.wsz
  omega
 ·obtain⟨iv,h3,h4⟩:=m3
  exact⟨m1,m2,iv,h3,(hk _ h.mlt h.dj.1).trans h4⟩
theorem FS.hal (h:FS C wt ws X fp f s w):Hal C wt ws X.Mb fp s w:=⟨h.mch,h.wat,h.num⟩
end
end Go.Proofs.YtbilfdapmbahgaaGreatDoor.Rn

namespace Go.Proofs.YtbilfdapmbahgaaGreatDoor.Rn
open Go Go.RowKit Go.Proofs.YtbilfdapmbahgaaGreatDoor Go.Proofs.YtbilfdapmbahgaaGreatDoor.Ev
open Go.Lib (hid)
theorem old_drewN {B:Nat} {X:Nat→Prop} {w:World} (n:Nat):Old B X w (w.drewN n):=⟨rfl,rfl,rfl,Nat.le_refl _,fun _ _ _=>rfl⟩
theorem bl_drewN {w:World} (n:Nat):Below w.heap.size w (w.drewN n):=⟨rfl,rfl,rfl,Nat.le_refl _,fun _ _=>rfl⟩
abbrev mca (v0 v1 v2:Value) (F k:Nat) (v5 v6:Value):Obj:=.cells #[v0,v1,v2,.int .i64 (F:Nat),.int .i64 (k:Nat),v5,v6] 109 (0,0)
section
variable {v0 v1 v2 v5 v6:Value} {F k Mb:Nat} {w:World}
theorem burn_go (h:w.heap[Mb]?=some (mca v0 v1 v2 F k v5 v6)) (hF:F≤1048576) (hk:k < F):
  Calls Tryz.prog 202 #[ptr Mb] w fun e w'=>e=.returned (.tuple #[])∧Old w.heap.size (·=Mb) w w'∧w'.heap[Mb]?=some (mca v0 v1 v2 F (k+1) v5 v6):=by
 have c3:=zab (k:=3) h rfl
 have c4:=zab (k:=4) h rfl
 have f4:=zaf (k:=4) h
 have hl:=lt_of_block h
 have e0:((k:Int)==(F:Int))=false:=by simp;omega
 have HH:=hid h
 clear h
 go_enter Tryz.func202,Tryz.ntmps202
 go_wp2
 go_quiet (fail)
 go_wp2
 go_end0
 refine⟨rfl,Old.set (X:=(·=Mb)) (old_drewN _) (.inr rfl) _ _,?_⟩
 exact(zat (w:=w.drewN _) (k:=4) (.int .i64 ((k:Int)+1)) HH.out).trans rfl
theorem burn_no (h:w.heap[Mb]?=some (mca v0 v1 v2 F F v5 v6)):
  Calls Tryz.prog 202 #[ptr Mb] w fun e w'=>e=.panicked [{v:=zb5 6,recovered:=false}]∧Below w.heap.size w w':=by
 have c3:=zab (k:=3) h rfl
 have c4:=zab (k:=4) h rfl
 have hl:=lt_of_block h
 clear h
 go_enter Tryz.func202,Tryz.ntmps202
 go_wp2
 go_quiet (fail)
 go_wp2
 exact⟨rfl,rfl,bl_drewN _⟩
end
section
variable {C:Cx} {wt:WtP} {ws:World} {X:Fx} {fp:Nat→Prop} {f:Fr} {s:MS} {w:World}
theorem next_any {Mb:Nat} (hS:Sta ws w) (hM:Mch C ws Mb s w) (hF:C.fuel≤1048576) (hws:∀p v,ws.cell? p=some v→p.block≠Mb):
  Calls Tryz.prog 199 #[ptr Mb] w fun e w'=>e=.returned (.int .i64 (s.inp.headD 0))∧Old w.heap.size (·=Mb) w w'∧Mch C ws Mb ⟨s.left,s.at',s.inp.tail,s.ev⟩ w':=by
 obtain⟨m1,m2,iv,⟨a,cap,rfl,n1,n2,n3,n4⟩,hb⟩:=hM
 have c2:=zab (k:=2) hb rfl
 have f2:=zaf (k:=2) hb
 have hl:=lt_of_block hb
 cases hi:s.inp with
 | nil =>
  rw[hi] at c2 hb n1
  have HB:=hid hb
  have HZ:Hid (InpV ws (.slice a ([]:List Int).length cap) []):=hid ⟨a,cap,rfl,n1,n2,by simp,by simp⟩
  have HL:=hid (And.intro m1 m2)
  clear n4 n3 hb m1 m2 hi
  go_enter Tryz.func199,Tryz.ntmps199
  go_wp2
  go_ret
  exact⟨rfl,Old.refl ..,HL.out.1,HL.out.2,_,HZ.out,HB.out⟩
 | cons z zs =>
  rw[hi] at c2 hb n1 n3 n4
  obtain⟨b,o,rfl,hc⟩:=n4 0 z rfl
  have hcw:=hS.cell _ _ hc
  rw[Nat.add_zero] at hcw
  have hlb:=World.block_lt_of_cell? w _ hcw
  have HB:=hid hb
  have HL:=hid (And.intro m1 m2)
  have HI:Hid (InpV ws (.slice (if cap=1 then some ⟨b,o,none⟩ else some ⟨b,o+1,none⟩) zs.length (cap - 1)) zs):=hid (by
   refine⟨_,_,rfl,by simp at n1;omega,by omega,fun x hx=>n3 x (List.mem_cons_of_mem _ hx),fun i x hx=>?_⟩
   have hi:=(List.getElem?_eq_some_iff.1 hx).1
   rw[if_neg (by simp at n1;omega)]
   obtain⟨b',o',e,h'⟩:=n4 (i+1) x hx
   cases e
   exact⟨b,o+1,rfl,by rw[show o+1+i=o+(i+1) by omega];exact h'⟩)
  have hlen:(z :: zs).length=zs.length+1:=rfl
  rw[hlen] at c2 n1
  generalize hzl:zs.length=n at *
  have n1':1≤cap:=by omega
  have hneq:b≠Mb:=hws _ _ hc
  clear n4 n3 hb m1 m2 hi hc hlen
  by_cases hcap:cap=1
  ·subst hcap
   rw[if_pos rfl] at HI
   obtain rfl:n=0:=by omega
   go_enter Tryz.func199,Tryz.ntmps199
   go_wp2
   go_region
   all_goals
    go_wp2
    go_ret
    exact⟨rfl,(Old.set (X:=(·=Mb)) (Old.refl ..) (.inr rfl) _ _).drew,HL.out.1,HL.out.2,_,HI.out,(zat (k:=2) _ HB.out).trans rfl⟩
  ·rw[if_neg hcap] at HI
   go_enter Tryz.func199,Tryz.ntmps199
   go_wp2
   go_region
   all_goals
    go_wp2
    go_ret
    exact⟨rfl,(Old.set (X:=(·=Mb)) (Old.refl ..) (.inr rfl) _ _).drew,HL.out.1,HL.out.2,_,HI.out,(zat (k:=2) _ HB.out).trans rfl⟩
theorem FS.mc (h:FS C wt ws X fp f s w):∃iv,InpV ws iv s.inp∧w.heap[X.Mb]?=some (mca (.slice C.fa C.l.length C.fc) (.slice C.ca C.l.length C.cc) iv C.fuel (C.fuel - s.left) (.int .i64 (s.at':Nat)) (.func (.func C.g) #[] C.caps)):=h.mch.blk
theorem FS.f0 (h:FS C wt ws X fp f s w):w.cell? ⟨X.Fb,0,none⟩=some (ptr X.Mb):=zab h.frm rfl
theorem FS.f1 (h:FS C wt ws X fp f s w):w.cell? ⟨X.Fb,1,none⟩=some (ptr X.E):=zab h.frm rfl
theorem FS.f2 (h:FS C wt ws X fp f s w):w.cell? ⟨X.Fb,2,none⟩=some (.int .i64 (X.d:Nat)):=zab h.frm rfl
theorem FS.flt (h:FS C wt ws X fp f s w):X.Fb < w.heap.size:=lt_of_block h.frm
theorem FS.ff (h:FS C wt ws X fp f s w) (k:Nat):w.frozen? ⟨X.Fb,k,none⟩=false:=zaf h.frm
theorem FS.mf (h:FS C wt ws X fp f s w) (k:Nat):w.frozen? ⟨X.Mb,k,none⟩=false:=by
 obtain⟨iv,-,hb⟩:=h.mc
 exact zaf hb
abbrev nptr (nb no:Nat):Value:=.pointer (some ⟨nb,no,none⟩)
theorem come_low (W:Wat C ws wt) (hC:C.fuel≤1048576) (h:FS C wt ws X fp f s w) (hd:X.d≠1) (h0:s.left≠0) (nb no k t:Nat):
  Calls Tryz.prog 150 #[ptr X.Fb,nptr nb no] w fun e w'=>e=.returned (.tuple #[])∧FS C wt ws X fp f (came X.d k t f.L s) w'∧Gone X fp fp w w':=by
 obtain⟨iv,hiv,hb⟩:=h.mc
 have hle:=h.mch.left
 have hB:=hid (burn_go hb hC (show C.fuel - s.left < C.fuel by omega))
 have hL:=hid h0
 have HI:=hid hiv
 have HS:=hid h
 have f0:=h.f0
 have f2:=h.f2
 have fl:=h.flt
 have e0:((X.d:Int)==1)=false:=by rw[beq_eq_false_iff_ne];omega
 have HD:=hid hd
 have hdd:=h.dep
 clear hb hle h0 hiv h hd hC
 go_enter Tryz.func150,Tryz.ntmps150
 go_wp2_with (go_at_call 202;refine hB.out.mono ?_;rintro e w1 ⟨rfl,ho,hm⟩;have HO:=hid ho;have HM:=hid hm;clear ho hm)
 go_end0
 have hfs:=HS.out
 have hn:came X.d k t f.L s=⟨s.left - 1,s.at',s.inp,s.ev⟩:=by unfold came;rw[if_neg HD.out,if_neg HD.out]
 rw[hn]
 have hl0:=hL.out
 have hle:=hfs.mch.left
 refine⟨rfl,hfs.turn W HO.out ⟨by show s.left - 1≤_;omega,hfs.mch.at',iv,HI.out,?_⟩ rfl (Nat.sub_le _ _),zdP HO.out hfs.size⟩
 have:=HM.out
 rw[show C.fuel - s.left+1=C.fuel - (s.left - 1) by omega] at this
 exact this
theorem come_lowstop (W:Wat C ws wt) (h:FS C wt ws X fp f s w) (hd:X.d≠1) (h0:s.left=0) (nb no k:Nat):
  Calls Tryz.prog 150 #[ptr X.Fb,nptr nb no] w fun e w'=>e=.panicked [{v:=zb5 6,recovered:=false}]∧Hal C wt ws X.Mb fp (stop X.d k s) w'∧Gone X fp fp w w':=by
 obtain⟨iv,hiv,hb⟩:=h.mc
 rw[h0,Nat.sub_zero] at hb
 have hB:=hid (burn_no hb)
 have HS:=hid h
 have f0:=h.f0
 have f2:=h.f2
 have fl:=h.flt
 have e0:((X.d:Int)==1)=false:=by rw[beq_eq_false_iff_ne];omega
 have HD:=hid hd
 have hdd:=h.dep
 clear hb hiv h hd h0
 go_enter Tryz.func150,Tryz.ntmps150
 go_wp2_with (go_at_call 202;refine hB.out.mono ?_;rintro e w1 ⟨rfl,ho⟩;have hfs:=HS.out;exact⟨rfl,rfl,by rw[show stop X.d k s=s by unfold stop;rw[if_neg HD.out]];exact(hfs.on W ho).hal,zaI ho hfs.size⟩)
theorem FS.atNode (W:Wat C ws wt) (h:FS C wt ws X fp f s w) {k:Nat} (hk:k≤2000):FS C wt ws X fp f ⟨s.left,k,s.inp,s.ev⟩ (w.setCell ⟨X.Mb,5,none⟩ (.int .i64 (k:Nat)))∧Gone X fp fp w (w.setCell ⟨X.Mb,5,none⟩ (.int .i64 (k:Nat))):=by
 have ho:Old w.heap.size (·=X.Mb) w (w.setCell ⟨X.Mb,5,none⟩ (.int .i64 (k:Nat))):=Old.set (X:=(·=X.Mb)) (Old.refl ..) (.inr rfl) _ _
 obtain⟨iv,hiv,hb⟩:=h.mc
 refine⟨h.turn W ho ⟨h.mch.left,hk,iv,hiv,?_⟩ rfl (Nat.le_refl _),zdP ho h.size⟩
 rw[zat _ hb];rfl
theorem FS.drew (W:Wat C ws wt) (h:FS C wt ws X fp f s w):FS C wt ws X fp f s w.drew:=h.on W (Below.refl _ _).drew
theorem zbt {fp':Nat→Prop} {w':World} (h:Gone X fp fp' w w'):Gone X fp fp' w w'.drew:=⟨h.nw,h.old.drew⟩
theorem come_main (W:Wat C ws wt) (hC:C.fuel≤1048576) (h:FS C wt ws X fp f s w) (hd:X.d=1) (h0:s.left≠0) (nb no k t:Nat) (hn1:ws.cell? ⟨nb,no+1,none⟩=some (.int .i64 (t:Nat))) (hn7:ws.cell? ⟨nb,no+7,none⟩=some (.int .i64 (k:Nat))) (hk:k≤2000) (ht:t≤1000000):
  Calls Tryz.prog 150 #[ptr X.Fb,nptr nb no] w fun e w'=>e=.returned (.tuple #[])∧∃fp',FS C wt ws X fp' f (came X.d k t f.L s) w'∧Gone X fp fp' w w':=by
 have f0:=h.f0
 have f2:=h.f2
 have fl:=h.flt
 have ml:=h.mlt
 have mf:=h.mf 5
 have m5:w.cell? ⟨X.Mb,5,none⟩=some (.int .i64 (s.at':Nat)):=by obtain⟨iv,-,hb⟩:=h.mc;exact zab hb rfl
 have n7:=h.sta.cell _ _ hn7
 have nl:=World.block_lt_of_cell? w _ n7
 have hne:nb≠X.Mb:=(h.hid _ _ hn7).1
 have e0:((X.d:Int)==1)=true:=by rw[beq_iff_eq];omega
 have HS:=hid h
 have HA:=hid (And.intro hn1 hn7)
 have HN:=hid (And.intro h0 hd)
 have eg:∀args w,(callFunc C.g args).run Tryz.prog w=.ok (.enter C.g args) w:=W.ent
 clear h h0 hn1 hn7 hd
 have HA1:=hid (HS.out.atNode W hk)
 have HB:Hid (∀W2,Old w.heap.size (·=X.Mb) w W2→FS C wt ws X fp f ⟨s.left,k,s.inp,s.ev⟩ W2→Calls Tryz.prog 202 #[ptr X.Mb] W2 fun e w'=>e=.returned (.tuple #[])∧Old w.heap.size (·=X.Mb) w w'∧FS C wt ws X fp f ⟨s.left - 1,k,s.inp,s.ev⟩ w'):=hid (by
  intro W2 ho2 h2
  obtain⟨iv,hiv,hb⟩:=h2.mc
  have hl2:=h2.mch.left
  have h0:=HN.out.1
  refine(burn_go hb hC (show C.fuel - s.left < C.fuel by have:s.left≤C.fuel:=hl2;omega)).mono ?_
  rintro e w' ⟨he,ho,hm⟩
  refine⟨he,ho2.trans (ho.mono ho2.size fun _ _ e=>e),h2.turn W ho ⟨by show s.left - 1≤_;have:s.left≤C.fuel:=hl2;omega,h2.mch.at',iv,hiv,?_⟩ rfl (Nat.sub_le _ _)⟩
  have:s.left≤C.fuel:=hl2
  have hm2:=hm
  rw[show C.fuel - s.left+1=C.fuel - (s.left - 1) by omega] at hm2
  exact hm2)
 have HW:Hid (∀W2,FS C wt ws X fp f ⟨s.left - 1,k,s.inp,s.ev⟩ W2→Calls Tryz.prog C.g (#[nptr nb no,ptr X.E]++C.caps) W2 fun e w'=>e=.returned (.tuple #[])∧∃fp',FS C wt ws X fp' f (came X.d k t f.L s) w'∧Gone X fp fp' W2 w'):=hid (by
  intro W2 h2
  have hnum:=HS.out.num
  have hf:=C.fuel
  have h0:=HN.out.1
  have hd:=HN.out.2
  refine(W.call s.ev fp W2 nb no k t X.B0 X.E X.blk X.v X.M f.L h2.sta h2.wat (by omega) (h2.sta.cell _ _ HA.out.1) (h2.sta.cell _ _ HA.out.2) hk ht (h2.hid _ _ HA.out.1).2 h2.env h2.len h2.dj.2.2).mono ?_
  rintro e w' ⟨he,fp',h3,h4,h5⟩
  have h6:=h2.seen W hd h3 h4 h5 (by show s.ev.length+(s.left - 1) < C.fuel;omega)
  have hc:came X.d k t f.L s=⟨s.left - 1,k,s.inp,s.ev++[⟨k,t,f.L⟩]⟩:=by unfold came;rw[if_pos hd,if_pos hd]
  rw[hc]
  exact⟨he,fp',h6.1,h6.2⟩)
 go_enter Tryz.func150,Tryz.ntmps150
 go_wp2
 go_region
 all_goals
  go_wp2_with (go_at_call 202;refine(HB.out _ (Old.drew (Old.set (X:=(·=X.Mb)) (Old.refl ..) (.inr rfl) _ _)) (HA1.out.1.drew W)).mono ?_;rintro e w1 ⟨rfl,ho,h1⟩;have g0:=h1.f0;have g1:=h1.f1;have gl:=h1.flt;have gm:=h1.mlt;have g6:w1.cell? ⟨X.Mb,6,none⟩=some (.func (.func C.g) #[] C.caps):=(by obtain⟨iv,-,hb⟩:=h1.mc;exact zab hb rfl);have HO:=hid ho;have H1:=hid h1;clear ho h1)
  go_region_with (go_at_fn C.g;refine(HW.out _ (H1.out.drew W)).mono ?_;rintro e w2 ⟨rfl,hq⟩;have HQ:=hid hq;clear hq)
  all_goals
   go_wp2
   go_end0
   obtain⟨fp',h3,h4⟩:=HQ.out
   have hs:=HS.out.size
   exact⟨rfl,fp',h3,Gone.trans (fp1:=fp) ⟨fun _ h=>.inl h,(HO.out.mono hs fun _ _ e=>.inl e).drew⟩ h4 hs⟩
theorem come_mainstop (W:Wat C ws wt) (h:FS C wt ws X fp f s w) (hd:X.d=1) (h0:s.left=0) (nb no k:Nat) (hn7:ws.cell? ⟨nb,no+7,none⟩=some (.int .i64 (k:Nat))) (hk:k≤2000):
  Calls Tryz.prog 150 #[ptr X.Fb,nptr nb no] w fun e w'=>e=.panicked [{v:=zb5 6,recovered:=false}]∧Hal C wt ws X.Mb fp (stop X.d k s) w'∧Gone X fp fp w w':=by
 have f0:=h.f0
 have f2:=h.f2
 have fl:=h.flt
 have ml:=h.mlt
 have mf:=h.mf 5
 have m5:w.cell? ⟨X.Mb,5,none⟩=some (.int .i64 (s.at':Nat)):=by obtain⟨iv,-,hb⟩:=h.mc;exact zab hb rfl
 have n7:=h.sta.cell _ _ hn7
 have nl:=World.block_lt_of_cell? w _ n7
 have hne:nb≠X.Mb:=(h.hid _ _ hn7).1
 have e0:((X.d:Int)==1)=true:=by rw[beq_iff_eq];omega
 have HS:=hid h
 have HN:Hid (stop X.d k s=⟨s.left,k,s.inp,s.ev⟩):=hid (by unfold stop;rw[if_pos hd])
 have HA1:=hid (h.atNode W hk)
 have HB:Hid (∀W2,FS C wt ws X fp f ⟨s.left,k,s.inp,s.ev⟩ W2→Calls Tryz.prog 202 #[ptr X.Mb] W2 fun e w'=>e=.panicked [{v:=zb5 6,recovered:=false}]∧Below W2.heap.size W2 w'∧Hal C wt ws X.Mb fp (stop X.d k s) w'):=hid (by
  intro W2 h2
  obtain⟨iv,hiv,hb⟩:=h2.mc
  have hb2:=hb
  rw[show C.fuel - (⟨s.left,k,s.inp,s.ev⟩:MS).left=C.fuel by show C.fuel - s.left=C.fuel;omega] at hb2
  refine(burn_no hb2).mono ?_
  rintro e w' ⟨he,ho⟩
  refine⟨he,ho,?_⟩
  rw[HN.out]
  exact(h2.on W ho).hal)
 clear h h0 hn7 hd
 have hlt:=fun hh:X.Fb=X.Mb=>by have:=HS.out.lt;omega
 go_enter Tryz.func150,Tryz.ntmps150
 go_wp2
 go_region
 all_goals
  go_wp2_with (go_at_call 202;refine(HB.out _ (HA1.out.1.drew W)).mono ?_;rintro e w1 ⟨rfl,ho,h1⟩;exact⟨rfl,rfl,h1,Gone.trans (zbt HA1.out.2) (zaI ho (HA1.out.1.drew W).size) HS.out.size⟩)
end
end Go.Proofs.YtbilfdapmbahgaaGreatDoor.Rn

namespace Go.Proofs.YtbilfdapmbahgaaGreatDoor.Rn
open Go Go.RowKit Go.Proofs.YtbilfdapmbahgaaGreatDoor Go.Proofs.YtbilfdapmbahgaaGreatDoor.Ev
open Go.Lib (hid)
section
variable {C:Cx} {wt:WtP} {ws:World} {X:Fx} {fp:Nat→Prop} {f:Fr} {s:MS} {w:World}
theorem zbL (h:FS C wt ws X fp f s w) {T:ET} (hin:T.In ws 0) (hr:T.rightB=true) (h0:(evE f.L T.re).2=0):
  Calls Tryz.prog 197 #[ptr X.Fb,T.val] w fun e w'=>e=.returned (.int .i64 (evE f.L T.re).1)∧Below w.heap.size w w':=by
 have HE:=hid (eval_any (w0:=w) h.env.env T (hin.keep h.sta.keep))
 have f1:=h.f1
 have fl:=h.flt
 rw[ET.val_is] at HE ⊢
 have he:evT f.L T=((evE f.L T.re).1,0):=by unfold evT;rw[if_pos hr,←h0]
 rw[he] at HE
 generalize (evE f.L T.re).1=r at HE ⊢
 unfold Rk at HE
 clear h hin hr h0
 generalize T.kind=k at *
 generalize T.op=o at *
 generalize T.n=n at *
 generalize T.name=nm at *
 generalize Value.slice T.kaddr T.kids.length T.kcap=v at *
 go_enter Tryz.func197,Tryz.ntmps197
 go_wp2
 go_region_with (go_at_call 238;refine(HE.out _ (by first | exact(Past.refl _).alloc _ | exact((Past.refl _).alloc _).drew)).mono ?_;rintro e w1 ⟨rfl,hb⟩;have HB:=hid hb;clear hb)
 all_goals
  go_wp2
  go_ret
  exact⟨rfl,zae (by first | exact(Below.refl _ _).alloc (Nat.le_refl _) _ | exact((Below.refl _ _).alloc (Nat.le_refl _) _).drew) HB.out⟩
theorem zch (h:FS C wt ws X fp f s w) {T:ET} (hin:T.In ws 0) (hr:T.rightB=true) (h0:(evE f.L T.re).2≠0):
  Calls Tryz.prog 197 #[ptr X.Fb,T.val] w fun e w'=>e=.panicked [{v:=zb5 (evE f.L T.re).2,recovered:=false}]∧Below w.heap.size w w':=by
 have HE:=hid (eval_any (w0:=w) h.env.env T (hin.keep h.sta.keep))
 have f1:=h.f1
 have fl:=h.flt
 rw[ET.val_is] at HE ⊢
 have he:evT f.L T=evE f.L T.re:=by unfold evT;rw[if_pos hr]
 rw[he] at HE
 have e0:((evE f.L T.re).2 != 0)=true:=by simpa using h0
 clear he
 generalize evE f.L T.re=q at *
 obtain⟨r,r2⟩:=q
 unfold Rk at HE
 clear h hin hr h0
 generalize T.kind=k at *
 generalize T.op=o at *
 generalize T.n=n at *
 generalize T.name=nm at *
 generalize Value.slice T.kaddr T.kids.length T.kcap=v at *
 go_enter Tryz.func197,Tryz.ntmps197
 go_wp2
 go_region_with (go_at_call 238;refine(HE.out _ (by first | exact(Past.refl _).alloc _ | exact((Past.refl _).alloc _).drew)).mono ?_;rintro e w1 ⟨rfl,hb⟩;have HB:=hid hb;clear hb)
 all_goals
  go_wp2
  exact⟨rfl,rfl,zae (by first | exact(Below.refl _ _).alloc (Nat.le_refl _) _ | exact((Below.refl _ _).alloc (Nat.le_refl _) _).drew) HB.out⟩
theorem zd5 (h:FS C wt ws X fp f s w) {T:ET} {kb ko ec nb no:Nat} (h4:ws.cell? ⟨nb,no+4,none⟩=some (.slice (some ⟨kb,ko,none⟩) 1 ec)) (hrow:RowAt ws 0 (some ⟨kb,ko,none⟩) 0 5 T.cells) (hin:T.In ws 0) (hr:T.rightB=true) (h0:(evE f.L T.re).2=0):
  Calls Tryz.prog 201 #[ptr X.Fb,nptr nb no] w fun e w'=>e=.returned (.bool ((evE f.L T.re).1 != 0))∧Below w.heap.size w w':=by
 have HR:=hid (zbL h hin hr h0)
 have n4:=h.sta.cell _ _ h4
 have nl:=World.block_lt_of_cell? w _ n4
 rw[ET.cells_is] at hrow
 obtain⟨c0,c1,c2,c3,c4,cl⟩:=zaF (hrow.keep h.sta.keep) (Past.refl w)
 simp only[Nat.zero_mul,Nat.add_zero] at c0 c1 c2 c3 c4
 rw[ET.val_is] at HR
 generalize (evE f.L T.re).1=r at HR ⊢
 clear h h4 hin hr h0 hrow
 generalize T.kind=k at *
 generalize T.op=o at *
 generalize T.n=n at *
 generalize T.name=nm at *
 generalize Value.slice T.kaddr T.kids.length T.kcap=v at *
 go_enter Tryz.func201,Tryz.ntmps201
 go_wp2_with (go_at_call 197;refine HR.out.mono ?_;rintro e w1 ⟨rfl,hb⟩;have HB:=hid hb;clear hb)
 go_ret
 exact⟨rfl,HB.out⟩
theorem holds_bad (h:FS C wt ws X fp f s w) {T:ET} {kb ko ec nb no:Nat} (h4:ws.cell? ⟨nb,no+4,none⟩=some (.slice (some ⟨kb,ko,none⟩) 1 ec)) (hrow:RowAt ws 0 (some ⟨kb,ko,none⟩) 0 5 T.cells) (hin:T.In ws 0) (hr:T.rightB=true) (h0:(evE f.L T.re).2≠0):
  Calls Tryz.prog 201 #[ptr X.Fb,nptr nb no] w fun e w'=>e=.panicked [{v:=zb5 (evE f.L T.re).2,recovered:=false}]∧Below w.heap.size w w':=by
 have HR:=hid (zch h hin hr h0)
 have n4:=h.sta.cell _ _ h4
 have nl:=World.block_lt_of_cell? w _ n4
 rw[ET.cells_is] at hrow
 obtain⟨c0,c1,c2,c3,c4,cl⟩:=zaF (hrow.keep h.sta.keep) (Past.refl w)
 simp only[Nat.zero_mul,Nat.add_zero] at c0 c1 c2 c3 c4
 rw[ET.val_is] at HR
 generalize (evE f.L T.re).2=r at HR ⊢
 clear h h4 hin hr h0 hrow
 generalize T.kind=k at *
 generalize T.op=o at *
 generalize T.n=n at *
 generalize T.name=nm at *
 generalize Value.slice T.kaddr T.kids.length T.kcap=v at *
 go_enter Tryz.func201,Tryz.ntmps201
 go_wp2_with (go_at_call 197;refine HR.out.mono ?_;rintro e w1 ⟨rfl,hb⟩;exact⟨rfl,rfl,hb⟩)
end
end Go.Proofs.YtbilfdapmbahgaaGreatDoor.Rn
