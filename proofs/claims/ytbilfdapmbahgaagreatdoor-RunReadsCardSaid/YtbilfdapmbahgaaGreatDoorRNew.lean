/- A machine is made of a program: its functions' nodes. -/
import Derived.Test.YtbilfdapmbahgaaGreatDoorRRun
import Derived.Test.YtbilfdapmbahgaaGreatDoorTFeedS
import Derived.Test.YtbilfdapmbahgaaGreatDoorECells
import Derived.Test.YtbilfdapmbahgaaGreatDoorPVars2
set_option linter.unusedSimpArgs false
set_option linter.unusedVariables false
set_option maxHeartbeats 8000000
set_option maxRecDepth 100000
namespace Go.Proofs.YtbilfdapmbahgaaGreatDoor.Rn
open Go Go.RowKit Go.Proofs.YtbilfdapmbahgaaGreatDoor Go.Proofs.YtbilfdapmbahgaaGreatDoor.Ev
open Go.Lib (hid)
theorem node_info:(Tryz.prog.info? 102).map (fun i=>(i.zero,i.size,i.bytes))=some (some (.agg #[.int .i64 0,.int .i64 0,.string {data:=#[]},.string {data:=#[]},.slice none 0 0,.slice none 0 0,.slice none 0 0,.int .i64 0,.slice none 0 0,.slice none 0 0]),10,176):=by kernel_rfl
def put8 (W:World) (b p:Nat) (kd t:Int) (n f:ByteArray) (ea ba la:Option Addr) (en ec bn bc ln lc kk:Nat):World:=((((((((W.setCell ⟨b,p,none⟩ (.int .i64 kd)).setCell ⟨b,p+1,none⟩ (.int .i64 t)).setCell ⟨b,p+2,none⟩ (.string n)).setCell ⟨b,p+3,none⟩ (.string f)).setCell ⟨b,p+4,none⟩ (.slice ea en ec)).setCell ⟨b,p+5,none⟩ (.slice ba bn bc)).setCell ⟨b,p+6,none⟩ (.slice la ln lc)).setCell ⟨b,p+7,none⟩ (.int .i64 (kk:Nat)))
def cur8 (cur:Array Value) (p:Nat) (kd t:Int) (n f:ByteArray) (ea ba la:Option Addr) (en ec bn bc ln lc kk:Nat):Array Value:=((((((((cur.setIfInBounds (p) (.int .i64 kd)).setIfInBounds (p+1) (.int .i64 t)).setIfInBounds (p+2) (.string n)).setIfInBounds (p+3) (.string f)).setIfInBounds (p+4) (.slice ea en ec)).setIfInBounds (p+5) (.slice ba bn bc)).setIfInBounds (p+6) (.slice la ln lc)).setIfInBounds (p+7) (.int .i64 (kk:Nat)))
theorem put8_heap {W:World} {b p:Nat} {cur:Array Value} {kd t:Int} {n f:ByteArray} {ea ba la:Option Addr} {en ec bn bc ln lc kk:Nat} (h:W.heap[b]?=some (.cells cur 102 (0,0))):(put8 W b p kd t n f ea ba la en ec bn bc ln lc kk).heap[b]?=some (.cells (cur8 cur p kd t n f ea ba la en ec bn bc ln lc kk) 102 (0,0)):=by
 have h:=zat (k:=p) (.int .i64 kd) h
 have h:=zat (k:=p+1) (.int .i64 t) h
 have h:=zat (k:=p+2) (.string n) h
 have h:=zat (k:=p+3) (.string f) h
 have h:=zat (k:=p+4) (.slice ea en ec) h
 have h:=zat (k:=p+5) (.slice ba bn bc) h
 have h:=zat (k:=p+6) (.slice la ln lc) h
 have h:=zat (k:=p+7) (.int .i64 (kk:Nat)) h
 exact h
theorem put8_old {W:World} {b p q:Nat} {kd t:Int} {n f:ByteArray} {ea ba la:Option Addr} {en ec bn bc ln lc kk:Nat} (h:q≠b):(put8 W b p kd t n f ea ba la en ec bn bc ln lc kk).heap[q]?=W.heap[q]?:=by
 unfold put8
 rw[Below.heap_setCell _ ⟨b,p+7,none⟩ _ q h,Below.heap_setCell _ ⟨b,p+6,none⟩ _ q h,Below.heap_setCell _ ⟨b,p+5,none⟩ _ q h,Below.heap_setCell _ ⟨b,p+4,none⟩ _ q h,Below.heap_setCell _ ⟨b,p+3,none⟩ _ q h,Below.heap_setCell _ ⟨b,p+2,none⟩ _ q h,Below.heap_setCell _ ⟨b,p+1,none⟩ _ q h,Below.heap_setCell _ ⟨b,p,none⟩ _ q h]
theorem ze6 {W:World} {b p:Nat} {kd t:Int} {n f:ByteArray} {ea ba la:Option Addr} {en ec bn bc ln lc kk:Nat}:(put8 W b p kd t n f ea ba la en ec bn bc ln lc kk).heap.size=W.heap.size:=by simp[put8,World.setCell]
theorem put8_os {W:World} {b p:Nat} {kd t:Int} {n f:ByteArray} {ea ba la:Option Addr} {en ec bn bc ln lc kk:Nat}:(put8 W b p kd t n f ea ba la en ec bn bc ln lc kk).os=W.os∧(put8 W b p kd t n f ea ba la en ec bn bc ln lc kk).tape=W.tape∧(put8 W b p kd t n f ea ba la en ec bn bc ln lc kk).output=W.output:=by simp[put8,World.setCell]
theorem cur8_size {cur:Array Value} {p:Nat} {kd t:Int} {n f:ByteArray} {ea ba la:Option Addr} {en ec bn bc ln lc kk:Nat}:(cur8 cur p kd t n f ea ba la en ec bn bc ln lc kk).size=cur.size:=by simp[cur8]
theorem cur8_at {cur:Array Value} {p:Nat} {kd t:Int} {n f:ByteArray} {ea ba la:Option Addr} {en ec bn bc ln lc kk:Nat} (hp:p+10≤cur.size):∀q,q < 8→(cur8 cur p kd t n f ea ba la en ec bn bc ln lc kk)[p+q]?=#[.int .i64 kd,.int .i64 t,.string n,.string f,.slice ea en ec,.slice ba bn bc,.slice la ln lc,.int .i64 (kk:Nat)][q]?:=by
 intro q hq
 unfold cur8
 match q,hq with
 | 0,_=>simp[Array.getElem?_setIfInBounds];try omega
 | 1,_=>simp[Array.getElem?_setIfInBounds];try omega
 | 2,_=>simp[Array.getElem?_setIfInBounds];try omega
 | 3,_=>simp[Array.getElem?_setIfInBounds];try omega
 | 4,_=>simp[Array.getElem?_setIfInBounds];try omega
 | 5,_=>simp[Array.getElem?_setIfInBounds];try omega
 | 6,_=>simp[Array.getElem?_setIfInBounds];try omega
 | 7,_=>simp[Array.getElem?_setIfInBounds];try omega
 | q+8,h=>omega
theorem cur8_far {cur:Array Value} {p q:Nat} {kd t:Int} {n f:ByteArray} {ea ba la:Option Addr} {en ec bn bc ln lc kk:Nat} (h:q < p∨p+8≤q):(cur8 cur p kd t n f ea ba la en ec bn bc ln lc kk)[q]?=cur[q]?:=by
 unfold cur8
 have h0:∀j,j < 8→p+j≠q:=fun j hj=>by omega
 have a0:=h0 0 (by decide);have a1:=h0 1 (by decide);have a2:=h0 2 (by decide);have a3:=h0 3 (by decide);have a4:=h0 4 (by decide);have a5:=h0 5 (by decide);have a6:=h0 6 (by decide);have a7:=h0 7 (by decide)
 rw[Nat.add_zero] at a0
 simp only[Array.getElem?_setIfInBounds,if_neg a0,if_neg a1,if_neg a2,if_neg a3,if_neg a4,if_neg a5,if_neg a6,if_neg a7]
structure NodeR (wr:World) (b:Nat) (cur:Array Value) (j k:Nat) (S:ST):Prop where
 ex:∃(ab al:Option Addr) (cb cl:Nat),(∀q v,(S.cells++#[.int .i64 (k:Nat),.slice ab (ST.bn S) cb,.slice al (ST.ln S) cl])[q]?=some v→cur[j*10+q]?=some v)∧NsIn wr (b+1) ab 0 (k+1) (ST.body S)∧NsIn wr (b+1) al 0 (k+1+cnts (ST.body S)) (ST.els S)
structure NumR (w wr:World) (l:List ST) (k i:Nat):Prop where
 below:Below w.heap.size w wr
 row:∃cur,wr.heap[w.heap.size]?=some (.cells cur 102 (0,0))∧cur.size=l.length*10∧∀j (h:j < l.length),j < i→NodeR wr w.heap.size cur j (k+cnts (l.take j)) l[j]
theorem put8_below {B:Nat} {w W:World} {b p:Nat} {kd t:Int} {n f:ByteArray} {ea ba la:Option Addr} {en ec bn bc ln lc kk:Nat} (h:Below B w W) (hb:B≤b):Below B w (put8 W b p kd t n f ea ba la en ec bn bc ln lc kk):=
 ⟨put8_os.1.trans h.os,put8_os.2.1.trans h.tape,put8_os.2.2.trans h.output,by rw[ze6];exact h.size,fun q hq=>(put8_old (by omega)).trans (h.block q hq)⟩
theorem put8_ho {W:World} {b p:Nat} {kd t:Int} {n f:ByteArray} {ea ba la:Option Addr} {en ec bn bc ln lc kk:Nat} (o:Obj):Old W.heap.size (·=b) W ((put8 W b p kd t n f ea ba la en ec bn bc ln lc kk).alloc o):=by
 have h1:Old W.heap.size (·=b) W (put8 W b p kd t n f ea ba la en ec bn bc ln lc kk):=⟨put8_os.1,put8_os.2.1,put8_os.2.2,by rw[ze6];exact Nat.le_refl _,fun q hq hx=>put8_old hx⟩
 exact h1.alloc (by rw[ze6];exact Nat.le_refl _) o
theorem old_bl {w wr W:World} (h:Old wr.heap.size (·=w.heap.size) wr W) (hs:w.heap.size≤wr.heap.size):Below w.heap.size wr W:=
 ⟨h.os,h.tape,h.output,h.size,fun q hq=>h.block q (by omega) (by show ¬q=w.heap.size;omega)⟩
theorem node_cell {C8:Array Value} {p q:Nat} {v0 v1 v2 v3 v4 v5 v6 v7 v8 v9 v:Value} (h8:∀q,q < 8→C8[p+q]?=#[v0,v1,v2,v3,v4,v5,v6,v7][q]?) (hs:p+10≤C8.size) (hv:(#[v0,v1,v2,v3,v4,v5,v6]++#[v7,v8,v9])[q]?=some v):((C8.setIfInBounds (p+8) v8).setIfInBounds (p+9) v9)[p+q]?=some v:=by
 have e:(#[v0,v1,v2,v3,v4,v5,v6]++#[v7,v8,v9]:Array Value)=#[v0,v1,v2,v3,v4,v5,v6,v7,v8,v9]:=rfl
 rw[e] at hv
 rw[Array.getElem?_setIfInBounds,Array.getElem?_setIfInBounds]
 match q,hv with
 | 0,hv=>rw[if_neg (by omega),if_neg (by omega),h8 0 (by omega)];exact hv
 | 1,hv=>rw[if_neg (by omega),if_neg (by omega),h8 1 (by omega)];exact hv
 | 2,hv=>rw[if_neg (by omega),if_neg (by omega),h8 2 (by omega)];exact hv
 | 3,hv=>rw[if_neg (by omega),if_neg (by omega),h8 3 (by omega)];exact hv
 | 4,hv=>rw[if_neg (by omega),if_neg (by omega),h8 4 (by omega)];exact hv
 | 5,hv=>rw[if_neg (by omega),if_neg (by omega),h8 5 (by omega)];exact hv
 | 6,hv=>rw[if_neg (by omega),if_neg (by omega),h8 6 (by omega)];exact hv
 | 7,hv=>rw[if_neg (by omega),if_neg (by omega),h8 7 (by omega)];exact hv
 | 8,hv=>rw[if_neg (by omega),if_pos rfl,if_pos (by omega)];exact hv
 | 9,hv=>rw[if_pos rfl,if_pos (by simp;omega)];exact hv
 | q+10,hv=>simp at hv
theorem made_nodes (n:Nat) (hn:n≤100000) (W:World):(Instr.makeSlice 100 (.int .i64 (n:Nat)) (.int .i64 (n:Nat))).run Tryz.prog W=.ok (.slice (some ⟨W.heap.size,0,none⟩) n n) (W.alloc (.cells (madeCells #[.int .i64 0,.int .i64 0,.string {data:=#[]},.string {data:=#[]},.slice none 0 0,.slice none 0 0,.slice none 0 0,.int .i64 0,.slice none 0 0,.slice none 0 0] (n*10)) 102)):=by
 obtain⟨ei,hin,hz0,hz1,hz2⟩:=info_parts node_info
 have h:=run_make (P:=Tryz.prog) (w:=W) 100 102 ei _ Tryz.underlying100 hin hz0 .i64 .i64 (n:Nat) (n:Nat) (by omega) (by omega) (by rw[hz2];omega) (by omega)
 rw[hz1] at h
 rw[Int.toNat_natCast] at h
 exact h
def NumQ (l:List ST) (k:Nat) (w:World) (e:Ending) (w':World):Prop:=∃b,e=.returned (.tuple #[.slice (some ⟨b,0,none⟩) l.length l.length,.int .i64 ((k+cnts l:Nat):Int)])∧NsIn w' w.heap.size (some ⟨b,0,none⟩) 0 k l∧Below w.heap.size w w'
theorem node_in {w:World} {b k j:Nat} {cur:Array Value} {S:ST} (h:w.heap[b]?=some (.cells cur 102 (0,0))) (hn:NodeR w b cur j k S):NIn w b (some ⟨b,0,none⟩) j k S:=by
 obtain⟨ab,al,cb,cl,hc,h1,h2⟩:=hn
 obtain⟨kd,t,n,f,ea,ec,e,ba,bc,bd,la,lc,el⟩:=S
 rw[NIn]
 exact⟨ab,al,cb,cl,⟨b,0,rfl,Nat.le_refl _,fun q v hv=>by rw[Nat.zero_add];exact zab h (hc q v hv)⟩,h1.keep (Nat.le_succ _) fun _ _ _ h=>h,h2.keep (Nat.le_succ _) fun _ _ _ h=>h⟩
theorem numbered_any {w0:World}:∀(m:Nat) (a:Option Addr) (l:List ST) (c k:Nat),Szs l < m→SsIn w0 0 a 0 l→k+cnts l≤100000→∀w,Past w0 w→Calls Tryz.prog 54 #[.slice a l.length c,.int .i64 (k:Nat)] w (NumQ l k w):=by
 intro m
 induction m with
 | zero=>intro a l c k h;omega
 | succ m ih =>
  intro a l c k hsz hin hk w hp
  have hlen:l.length≤100000:=by have:=zdW l;omega
  have hmk:=fun W=>made_nodes l.length hlen W
  have HIH:=hid ih
  have HIN:=hid hin
  have HP:=hid hp
  have HK:=hid (And.intro hsz hk)
  clear ih hin hp hsz hk
  go_enter Tryz.func54,Tryz.ntmps54
  go_wp2
  go_loopw [5,6,7,8,15] (fun nx _ _ _ i wr=>∃n:Nat,n≤l.length∧i=.int .i64 n∧nx=.int .i64 ((k+cnts (l.take n):Nat):Int)∧NumR w wr l k n) (fun _ _ _ _ i _=>l.length - (intOf i).toNat)
  case atStart=>exact⟨0,Nat.zero_le _,rfl,by simp[cnts],⟨(Below.refl _ _).alloc (Nat.le_refl _) _,⟨_,zah w _,size_madeCells _ _,fun j _ h=>by omega⟩⟩⟩
  case round =>
   clear hmk
   obtain⟨n,hn,rfl,rfl,hb,⟨cur,hcur,hcs,hnodes⟩⟩:=hrel
   by_cases hlt:n < l.length
   ·obtain⟨hrow,hSin⟩:=HIN.out.nth n hlt
    rw[Nat.zero_add,ST.cells_eq] at hrow
    have hpw:Past w0 wr:=Past.on HP.out hb
    have hrow2:=hrow
    obtain⟨sb,so,rfl,-⟩:=hrow2
    obtain⟨c0,c1,c2,c3,c4,c5,c6,cl⟩:=zdU hrow hpw
    have hszn:=zes hlt
    have hct:=zeS hlt
    have hctl:=cnts_take_le l (n+1)
    generalize hS:l[n]=S at *
    have hbs:Szs S.body < S.sz:=by cases S;simp only[ST.body,ST.sz];omega
    have hls:Szs S.els < S.sz:=by cases S;simp only[ST.els,ST.sz];omega
    have hcS:S.cnt=1+(cnts S.body+cnts S.els):=by cases S;rw[ST.cnt];rfl
    obtain⟨kk,hkk⟩:∃kk,k+cnts (l.take n)=kk:=⟨_,rfl⟩
    rw[hkk]
    have hk2:=HK.out.2
    have hsz2:=HK.out.1
    obtain⟨k2,hK2⟩:∃k2,kk+1+cnts S.body=k2:=⟨_,rfl⟩
    obtain⟨k3,hK3⟩:∃k3,k2+cnts S.els=k3:=⟨_,rfl⟩
    have q1:∀W2,Past w0 W2→Calls Tryz.prog 54 #[.slice S.ba S.bn S.bc,.int .i64 ((kk:Int)+1)] W2 fun e w'=>∃b,e=.returned (.tuple #[.slice (some ⟨b,0,none⟩) S.bn S.bn,.int .i64 (k2:Nat)])∧NsIn w' W2.heap.size (some ⟨b,0,none⟩) 0 (kk+1) S.body∧Below W2.heap.size W2 w':=by
     intro W2 hW2
     have:=HIH.out S.ba S.body S.bc (kk+1) (by omega) (in_body hSin).1 (by omega) W2 hW2
     unfold NumQ at this
     rw[hK2,←bn_is] at this
     exact this
    have q2:∀W2,Past w0 W2→Calls Tryz.prog 54 #[.slice S.la S.ln S.lc,.int .i64 (k2:Nat)] W2 fun e w'=>∃b,e=.returned (.tuple #[.slice (some ⟨b,0,none⟩) S.ln S.ln,.int .i64 (k3:Nat)])∧NsIn w' W2.heap.size (some ⟨b,0,none⟩) 0 k2 S.els∧Below W2.heap.size W2 w':=by
     intro W2 hW2
     have:=HIH.out S.la S.els S.lc k2 (by omega) (in_els hSin).1 (by omega) W2 hW2
     unfold NumQ at this
     rw[hK3,←ln_is] at this
     exact this
    have Q1:=hid q1
    have Q2:=hid q2
    have HCU:=hid (And.intro hcur (And.intro hcs hnodes))
    have HB:=hid (And.intro hb hpw)
    have HX:Hid (n < l.length∧k+cnts (l.take (n+1))=k3∧l[n]'hlt=S∧kk+1+cnts S.body=k2∧k+cnts (l.take n)=kk):=hid ⟨hlt,by omega,hS,hK2,hkk⟩
    have hp10:n*10+10≤cur.size:=by omega
    have x0:=zab (k:=n*10) hcur (Array.getElem?_eq_getElem (by omega))
    have x1:=zab (k:=n*10+1) hcur (Array.getElem?_eq_getElem (by omega))
    have x2:=zab (k:=n*10+2) hcur (Array.getElem?_eq_getElem (by omega))
    have x3:=zab (k:=n*10+3) hcur (Array.getElem?_eq_getElem (by omega))
    have x4:=zab (k:=n*10+4) hcur (Array.getElem?_eq_getElem (by omega))
    have x5:=zab (k:=n*10+5) hcur (Array.getElem?_eq_getElem (by omega))
    have x6:=zab (k:=n*10+6) hcur (Array.getElem?_eq_getElem (by omega))
    have x7:=zab (k:=n*10+7) hcur (Array.getElem?_eq_getElem (by omega))
    generalize cur[n*10]'(by omega)=y0 at x0
    generalize cur[n*10+1]'(by omega)=y1 at x1
    generalize cur[n*10+2]'(by omega)=y2 at x2
    generalize cur[n*10+3]'(by omega)=y3 at x3
    generalize cur[n*10+4]'(by omega)=y4 at x4
    generalize cur[n*10+5]'(by omega)=y5 at x5
    generalize cur[n*10+6]'(by omega)=y6 at x6
    generalize cur[n*10+7]'(by omega)=y7 at x7
    have fz:=fun j=>zaf (k:=j) hcur
    have bl9:=lt_of_block hcur
    have HW8:Hid (Past w0 ((put8 wr w.heap.size (n*10) S.kind S.tag S.name S.func S.ea S.ba S.la S.en S.ec S.bn S.bc S.ln S.lc kk).alloc (.cells #[.int .i64 S.kind,.int .i64 S.tag,.string S.name,.string S.func,.slice S.ea S.en S.ec,.slice S.ba S.bn S.bc,.slice S.la S.ln S.lc] 84))):=hid (Past.alloc (put8_below hpw HP.out.size) _)
    have HH8:Hid (((put8 wr w.heap.size (n*10) S.kind S.tag S.name S.func S.ea S.ba S.la S.en S.ec S.bn S.bc S.ln S.lc kk).alloc (.cells #[.int .i64 S.kind,.int .i64 S.tag,.string S.name,.string S.func,.slice S.ea S.en S.ec,.slice S.ba S.bn S.bc,.slice S.la S.ln S.lc] 84)).heap[w.heap.size]?=some (.cells (cur8 cur (n*10) S.kind S.tag S.name S.func S.ea S.ba S.la S.en S.ec S.bn S.bc S.ln S.lc kk) 102 (0,0))):=hid (zak _ (put8_heap hcur))
    have HS8:Hid (((put8 wr w.heap.size (n*10) S.kind S.tag S.name S.func S.ea S.ba S.la S.en S.ec S.bn S.bc S.ln S.lc kk).alloc (.cells #[.int .i64 S.kind,.int .i64 S.tag,.string S.name,.string S.func,.slice S.ea S.en S.ec,.slice S.ba S.bn S.bc,.slice S.la S.ln S.lc] 84)).heap[wr.heap.size]?=some (.cells #[.int .i64 S.kind,.int .i64 S.tag,.string S.name,.string S.func,.slice S.ea S.en S.ec,.slice S.ba S.bn S.bc,.slice S.la S.ln S.lc] 84 (0,0))):=hid (by have h9:=zah (put8 wr w.heap.size (n*10) S.kind S.tag S.name S.func S.ea S.ba S.la S.en S.ec S.bn S.bc S.ln S.lc kk) (.cells #[.int .i64 S.kind,.int .i64 S.tag,.string S.name,.string S.func,.slice S.ea S.en S.ec,.slice S.ba S.bn S.bc,.slice S.la S.ln S.lc] 84);rw[ze6] at h9;exact h9)
    have hcnt:kk+cnts S.body≤100000:=by omega
    have hkb:kk≤100000:=by omega
    have HO8:Hid (Old wr.heap.size (·=w.heap.size) wr ((put8 wr w.heap.size (n*10) S.kind S.tag S.name S.func S.ea S.ba S.la S.en S.ec S.bn S.bc S.ln S.lc kk).alloc (.cells #[.int .i64 S.kind,.int .i64 S.tag,.string S.name,.string S.func,.slice S.ea S.en S.ec,.slice S.ba S.bn S.bc,.slice S.la S.ln S.lc] 84))):=hid (put8_ho _)
    have HC8:Hid ((cur8 cur (n*10) S.kind S.tag S.name S.func S.ea S.ba S.la S.en S.ec S.bn S.bc S.ln S.lc kk).size=cur.size∧(∀q,q < 8→(cur8 cur (n*10) S.kind S.tag S.name S.func S.ea S.ba S.la S.en S.ec S.bn S.bc S.ln S.lc kk)[n*10+q]?=#[.int .i64 S.kind,.int .i64 S.tag,.string S.name,.string S.func,.slice S.ea S.en S.ec,.slice S.ba S.bn S.bc,.slice S.la S.ln S.lc,.int .i64 (kk:Nat)][q]?)∧∀q,q < n*10∨n*10+8≤q→(cur8 cur (n*10) S.kind S.tag S.name S.func S.ea S.ba S.la S.en S.ec S.bn S.bc S.ln S.lc kk)[q]?=cur[q]?):=hid ⟨cur8_size,cur8_at hp10,fun q hq=>cur8_far hq⟩
    obtain⟨WB,hWB⟩:∃WB,(put8 wr w.heap.size (n*10) S.kind S.tag S.name S.func S.ea S.ba S.la S.en S.ec S.bn S.bc S.ln S.lc kk).alloc (.cells #[.int .i64 S.kind,.int .i64 S.tag,.string S.name,.string S.func,.slice S.ea S.en S.ec,.slice S.ba S.bn S.bc,.slice S.la S.ln S.lc] 84)=WB:=⟨_,rfl⟩
    obtain⟨C8,hC8⟩:∃C8,cur8 cur (n*10) S.kind S.tag S.name S.func S.ea S.ba S.la S.en S.ec S.bn S.bc S.ln S.lc kk=C8:=⟨_,rfl⟩
    rw[hWB] at HW8 HH8 HS8 HO8
    rw[hC8] at HH8 HC8
    have HWB:=hid hWB
    have HPX:=hid hp10
    clear hrow hb hcur hcs hnodes hpw hSin hszn hct hctl hbs hls hcS hkk hk2 hsz2 q1 q2 hS hK2 hK3 hWB hC8 hp10
    go_wp2_with (first
     | (go_at_call 54;(with_reducible refine(Q2.out _ HW9.out).mono ?_);rintro e w2 ⟨al,rfl,hns2,hb2⟩;have r2:=(hb2.block w.heap.size (lt_of_block HH9.out)).trans HH9.out;have z9:w2.cell? ⟨w.heap.size,n*10+9,none⟩=some y9:=(by rw[World.cell?_of_block (w:=w1.setCell ⟨w.heap.size,n*10+8,none⟩ (.slice (some ⟨ab,0,none⟩) S.bn S.bn)) (r2.trans HH9.out.symm)];exact HZ9.out);have fz2:=fun j=>zaf (k:=j) r2;have lz2:=lt_of_block r2;have HR2:=hid r2;have HN2:=hid (And.intro hns2 hb2);clear r2 hns2 hb2)
     | (go_at_call 54;have hx:=Q1.out _ HW8.out;rw[←HWB.out] at hx;unfold put8 at hx;(with_reducible refine hx.mono ?_);clear hx;rintro e w1 ⟨ab,rfl,hns,hb1⟩;have hb1:Below WB.heap.size WB w1:=(by rw[←HWB.out];exact hb1);have hns:NsIn w1 WB.heap.size (some ⟨ab,0,none⟩) 0 (kk+1) S.body:=(by rw[←HWB.out];exact hns);have r1:=(hb1.block w.heap.size (lt_of_block HH8.out)).trans HH8.out;have s1:=(hb1.block wr.heap.size (lt_of_block HS8.out)).trans HS8.out;have z8:=zab (k:=n*10+8) r1 (Array.getElem?_eq_getElem (by have:=HC8.out.1;have:=HPX.out;omega));have z9:=zab (k:=n*10+9) r1 (Array.getElem?_eq_getElem (by have:=HC8.out.1;have:=HPX.out;omega));obtain⟨y9,hy9⟩:∃y9,w1.cell? ⟨w.heap.size,n*10+9,none⟩=some y9:=⟨_,z9⟩;clear z9;have fz1:=fun j=>zaf (k:=j) r1;have lz1:=lt_of_block r1;have s6:=zab (k:=6) s1 rfl;have sl:=lt_of_block s1;have HW9:Hid (Past w0 (w1.setCell ⟨w.heap.size,n*10+8,none⟩ (.slice (some ⟨ab,0,none⟩) S.bn S.bn))):=hid (((HW8.out.trans (hb1.mono HW8.out.size))).setCell (p:=⟨w.heap.size,n*10+8,none⟩) HP.out.size _);have HH9:=hid (zat (k:=n*10+8) (.slice (some ⟨ab,0,none⟩) S.bn S.bn) r1);have HZ9:Hid ((w1.setCell ⟨w.heap.size,n*10+8,none⟩ (.slice (some ⟨ab,0,none⟩) S.bn S.bn)).cell? ⟨w.heap.size,n*10+9,none⟩=some y9):=hid (by rw[World.cell?_setCell_other _ _ _ _ (by simp)];exact hy9);have HN1:=hid (And.intro hns hb1);clear r1 s1 hns hb1 hy9))
    go_round
    case rel =>
     obtain⟨hlt,ek3,eS,ek2,ekk⟩:=HX.out
     obtain⟨hcur,hcs,hnodes⟩:=HCU.out
     obtain⟨hb,-⟩:=HB.out
     obtain⟨n1,b1⟩:=HN1.out
     obtain⟨n2,b2⟩:=HN2.out
     have hbl:w.heap.size < wr.heap.size:=lt_of_block hcur
     have o1:Old wr.heap.size (·=w.heap.size) wr w1:=HO8.out.trans (Old.below (b1.mono HO8.out.size))
     have o2:=o1.set (b:=w.heap.size) (.inr rfl) (n*10+8) (.slice (some ⟨ab,0,none⟩) S.bn S.bn)
     have o3:=o2.trans (Old.below (b2.mono o2.size))
     have o4:=o3.set (b:=w.heap.size) (.inr rfl) (n*10+9) (.slice (some ⟨al,0,none⟩) S.ln S.ln)
     have p2:Old w1.heap.size (·=w.heap.size) w1 (w1.setCell ⟨w.heap.size,n*10+8,none⟩ (.slice (some ⟨ab,0,none⟩) S.bn S.bn)):=Old.set (X:=(·=w.heap.size)) (Old.refl ..) (.inr rfl) _ _
     have p4:=(p2.trans (Old.below (b2.mono p2.size))).set (b:=w.heap.size) (.inr rfl) (n*10+9) (.slice (some ⟨al,0,none⟩) S.ln S.ln)
     have q4:Old w2.heap.size (·=w.heap.size) w2 (w2.setCell ⟨w.heap.size,n*10+9,none⟩ (.slice (some ⟨al,0,none⟩) S.ln S.ln)):=Old.set (X:=(·=w.heap.size)) (Old.refl ..) (.inr rfl) _ _
     refine⟨n+1,hlt,by go_num,by rw[ek3],⟨hb.trans (old_bl o4 (Nat.le_of_lt hbl)),⟨_,zat (k:=n*10+9) (.slice (some ⟨al,0,none⟩) S.ln S.ln) HR2.out,by have:=HC8.out.1;simp;omega,fun j hj hjn=>?_⟩⟩⟩
     by_cases e:j=n
     ·subst e
      rw[eS,ekk]
      refine⟨some ⟨ab,0,none⟩,some ⟨al,0,none⟩,S.bn,S.ln,fun q v hv=>?_,?_,?_⟩
      ·rw[ST.cells_eq] at hv
       exact node_cell HC8.out.2.1 (by have:=HC8.out.1;have:=HPX.out;omega) hv
      ·exact n1.keep (by have:=b1.size;have:=lt_of_block HH8.out;omega) fun p v hp hc=>by
        rw[World.cell?_of_block (w:=w1) (p4.block p.block (World.block_lt_of_cell? w1 p hc) (by have:=lt_of_block HH8.out;show ¬p.block=w.heap.size;omega))]
        exact hc
      ·rw[ek2]
       exact n2.keep (by have:=lt_of_block HH9.out;omega) fun p v hp hc=>by
        rw[World.cell?_of_block (w:=w2) (q4.block p.block (World.block_lt_of_cell? w2 p hc) (by have:=lt_of_block HH9.out;show ¬p.block=w.heap.size;omega))]
        exact hc
     ·obtain⟨ab',al',cb',cl',hc,h1,h2⟩:=hnodes j hj (by omega)
      have hk:∀p v,w.heap.size+1≤p.block→wr.cell? p=some v→(w2.setCell ⟨w.heap.size,n*10+9,none⟩ (.slice (some ⟨al,0,none⟩) S.ln S.ln)).cell? p=some v:=fun p v hp hc=>by
       rw[World.cell?_of_block (w:=wr) (o4.block p.block (World.block_lt_of_cell? wr p hc) (by show ¬p.block=w.heap.size;omega))]
       exact hc
      refine⟨ab',al',cb',cl',fun q v hv=>?_,h1.keep (Nat.le_refl _) hk,h2.keep (Nat.le_refl _) hk⟩
      have hq:q < 10:=by
       have:=(Array.getElem?_eq_some_iff.1 hv).1
       rw[ST.cells_eq] at this
       simpa using this
      have h3:=hc q v hv
      rw[←HC8.out.2.2 (j*10+q) (by omega)] at h3
      rw[Array.getElem?_setIfInBounds,if_neg (by omega),Array.getElem?_setIfInBounds,if_neg (by omega)]
      exact h3
    case measure=>simp[intOf];have:=HX.out.1;omega
   ·obtain rfl:n=l.length:=by omega
    have HNS:Hid (NsIn wr w.heap.size (some ⟨w.heap.size,0,none⟩) 0 k l):=hid (nsIn_of l 0 k fun j hj=>by rw[Nat.zero_add];exact node_in hcur (hnodes j hj hj))
    have HB:=hid hb
    rw[List.take_length]
    clear hb hcur hcs hnodes
    go_wp2
    go_ret2
    exact⟨w.heap.size,rfl,HNS.out,HB.out⟩
end Go.Proofs.YtbilfdapmbahgaaGreatDoor.Rn

namespace Go.Proofs.YtbilfdapmbahgaaGreatDoor.Rn
open Go Go.RowKit Go.Proofs.YtbilfdapmbahgaaGreatDoor Go.Proofs.YtbilfdapmbahgaaGreatDoor.Ev
open Go.Lib (hid)
open Go.Proofs.YtbilfdapmbahgaaGreatDoor.Pm (Kd MadeG RowsG)
open Go.Lib (hid)
def CodeK:Kd (Nat×List ST):=⟨100,1,fun a=>[.slice (some ⟨a.1,0,none⟩) a.2.length a.2.length],fun w B a=>NsIn w B (some ⟨a.1,0,none⟩) 0 0 a.2,fun _=>rfl,fun h hk=>h.keep (Nat.le_refl _) hk,fun h hB=>h.keep hB fun _ _ _ h=>h⟩
theorem code_info:(Tryz.prog.info? 100).map (fun i=>(i.zero,i.size,i.bytes))=some (some (.slice none 0 0),1,24):=by kernel_rfl
abbrev mc0 (fa:Option Addr) (n fc:Nat) (cv iv:Value) (fuel:Nat) (g:Nat) (caps:Array Value):Array Value:=#[.slice fa n fc,cv,iv,.int .i64 (fuel:Nat),.int .i64 0,.int .i64 0,.func (.func g) #[] caps]
structure NewR (w wr:World) (fa:Option Addr) (fc:Nat) (l:List FT) (iv:Value) (fuel g:Nat) (caps:Array Value) (n:Nat):Prop where
 below:Below w.heap.size w wr
 mch:∃cv items,wr.heap[w.heap.size+1]?=some (.cells (mc0 fa l.length fc cv iv fuel g caps) 109 (0,0))∧MadeG CodeK (w.heap.size+2) cv items wr∧items.map (·.2)=(l.take n).map FT.body
def MadeM (w:World) (fa:Option Addr) (fc:Nat) (l:List FT) (iv:Value) (fuel g:Nat) (caps:Array Value) (e:Ending) (w':World):Prop:=e=.returned (ptr (w.heap.size+1))∧NewR w w' fa fc l iv fuel g caps l.length
theorem zef {w0:World} {fa:Option Addr} {fc:Nat} {l:List FT} {aa:Option Addr} {an ac fuel g:Nat} {caps:Array Value} (hin:FsIn w0 0 fa l) (hl:l.length≤1000) (hs:∀F∈l,cnts F.body≤2000) (w:World) (hp:Past w0 w):
  Calls Tryz.prog 31 #[.agg #[.slice fa l.length fc],.slice aa an ac,.int .i64 (fuel:Nat),.func (.func g) #[] caps] w (MadeM w fa fc l (.slice aa an ac) fuel g caps):=by
 obtain⟨ei,hi,hz0,hz1,hz2⟩:=info_parts code_info
 have HIN:=hid hin
 have HP:=hid hp
 have HSS:=hid hs
 clear hin hp hs
 go_enter Tryz.func31,Tryz.ntmps31
 go_wp2
 go_loopw [11,12,13,23] (fun _ _ _ i wr=>∃n:Nat,n≤l.length∧i=.int .i64 n∧NewR w wr fa fc l (.slice aa an ac) fuel g caps n) (fun _ _ _ i _=>l.length - (intOf i).toNat)
 case atStart =>
  refine⟨0,Nat.zero_le _,rfl,⟨((Below.refl _ _).alloc (Nat.le_refl _) _).alloc (by simp) _,.slice none 0 0,[],?_,⟨World.ownsRow_nil _ _ _ _,fun S hS=>by cases hS⟩,rfl⟩⟩
  have:=zah (w.alloc (.cells #[.slice fa l.length fc] 24)) (.cells (mc0 fa l.length fc (.slice none 0 0) (.slice aa an ac) fuel g caps) 109)
  simpa using this
 case round =>
  obtain⟨n,hn,rfl,hb,cv,items,hm,hmd,hit⟩:=hrel
  by_cases hlt:n < l.length
  ·have hrow:=HIN.out.row n hlt
   have hFin:=HIN.out.fs n hlt
   have hpw:Past w0 wr:=Past.on HP.out hb
   have hrow2:=hrow
   obtain⟨sb,so,rfl,-⟩:=hrow2
   rw[FT.cells_eq] at hrow
   obtain⟨c0,c1,c2,c3,cl⟩:=zbf hrow hpw
   have hsF:=HSS.out _ (List.getElem_mem hlt)
   have hq:∀W2,Past w0 W2→Calls Tryz.prog 54 #[.slice l[n].ba l[n].body.length l[n].bc,.int .i64 0] W2 (NumQ l[n].body 0 W2):=fun W2 hW2=>numbered_any (Szs l[n].body+1) l[n].ba l[n].body l[n].bc 0 (Nat.lt_succ_self _) hFin.ss (by omega) W2 hW2
   have HQ:=hid hq
   obtain⟨ca,cc,rfl⟩:=zbn hmd.1
   have HM:=hid hm
   have HMD:=hid hmd
   have HB:=hid (And.intro hb hpw)
   have hil:items.length=n:=by
    have:=congrArg List.length hit
    simp only[List.length_map,List.length_take] at this
    omega
   have HIT:=hid (And.intro hit (And.intro hlt hil))
   have HBD:Hid (l[n].body.length≤2000):=hid (by have:=zdW l[n].body;omega)
   have HLL:=hid hl
   clear hb hm hmd hit hrow hFin hpw hsF hq hil
   have HBY:Hid (l[n]'hlt=l[n]'hlt):=hid rfl
   generalize hF:l[n]=F at *
   have HFE:=hid hF
   clear hF
   generalize hbl:F.body.length=bn at *
   have HBL:=hid hbl
   clear hbl
   go_wp2_with (first
    | (at_builtin;refine wpList_append_own_at _ rfl _ _ 106 rfl (w.heap.size+2) 100 ei _ 1 24 Tryz.underlying106 hi hz0 hz1 hz2 rfl (by decide) _ items.length _ rfl (HMD1.out.1.alloc _) ⟨w1.heap.size,0,none⟩ 1 1 [.slice (some ⟨b,0,none⟩) bn bn] rfl rfl (World.news_of_block (zah w1 (.cells #[.slice (some ⟨b,0,none⟩) bn bn] 100))) (fun u hu=>by simp only[List.mem_singleton] at hu;subst hu;rfl) (by have h1:=HIT.out.2.1;have h2:=HIT.out.2.2;have h3:=HLL.out;unfold maxLen;omega) (by have h1:=HIT.out.2.1;have h2:=HIT.out.2.2;have h3:=HLL.out;omega) (by have h1:=HB1.out.1;simp;omega) ?_;intro v' w5 hown hgrow hnil hat;obtain⟨va,vc,rfl⟩:=zbn hown;have r5:=(hgrow.block (w.heap.size+1) (by have h1:=lt_of_block HR1.out;simp;omega) (fun e=>by have h1:=(HMD1.out.1.lt _ e.symm).1;omega)).trans (zak _ HR1.out);have k1:=zab (k:=1) r5 rfl;have kf:=zaf (k:=1) r5;have kl:=lt_of_block r5;have HR5:=hid r5;have HO5:=hid (And.intro hown (And.intro hgrow hat));clear r5 hown hgrow hnil hat)
    | (go_at_call 54;(with_reducible refine(HQ.out _ (Past.alloc HB.out.2 _)).mono ?_);rintro e w1 ⟨b,rfl,hns,hb1⟩;rw[HBL.out];have r1:=(hb1.block (w.heap.size+1) (by have h1:=lt_of_block HM.out;simp;omega)).trans (zak _ HM.out);have k1:=zab (k:=1) r1 rfl;have kf:=zaf (k:=1) r1;have kl:=lt_of_block r1;have HR1:=hid r1;have HMD1:=hid ((HMD.out.alloc _).grown (Ck.zc5 (m:=w.heap.size+1) hb1) (by omega));have HNS:=hid hns;have HB1:Hid (w.heap.size+2≤w1.heap.size∧_):=hid (And.intro (by have h1:=lt_of_block HM.out;have h2:=hb1.size;simp at h2;omega) hb1);clear r1 hns hb1))
   go_round
   case rel =>
    obtain⟨hit,hlt,hil⟩:=HIT.out
    obtain⟨hown,hgrow,hat⟩:=HO5.out
    have hbl:=HBL.out
    have hms:=lt_of_block HM.out
    have hb1:=HB1.out.2
    have s1:wr.heap.size+1≤w1.heap.size:=by have:=hb1.size;simpa using this
    have b1:Below w.heap.size w w1:=HB.out.1.trans ((((Below.refl _ _).alloc (Nat.le_refl _) _).trans (hb1.mono (by simp))).mono HB.out.1.size)
    have b5:Below w.heap.size w w5:=(b1.alloc b1.size _).grown hgrow (by have:=b1.size;simp;omega) (fun k hk=>by have:=(HMD1.out.1.lt k hk).1;omega)
    have hNS:NsIn (w1.alloc (.cells #[.slice (some ⟨b,0,none⟩) bn bn] 100)) (wr.heap.size+1) (some ⟨b,0,none⟩) 0 0 F.body:=NsIn.keep (by simp) (fun p v _ hc=>by rw[World.cell?_alloc_lt _ _ _ (World.block_lt_of_cell? w1 p hc)];exact hc) HNS.out
    have hmd5:MadeG CodeK (w.heap.size+2) (.slice va (items.length+1) vc) (items++[(b,F.body)]) w5:=by
     refine(HMD1.out.alloc _).snoc (A:=wr.heap.size+1) (S:=(b,F.body)) hNS (by omega) (fun k hk=>by have:=(HMD.out.1.lt k hk).2;omega) ?_ hgrow hat
     have e:CodeK.cl (b,F.body)=[.slice (some ⟨b,0,none⟩) bn bn]:=by rw[←hbl];rfl
     rw[e]
     exact hown
    have g5:w5.grownBy (w5.setCell ⟨w.heap.size+1,1,none⟩ (.slice va (items.length+1) vc)) (some (w.heap.size+1)):=Old.grown (B:=0) (Old.set (X:=(·=w.heap.size+1)) (Old.refl ..) (.inr rfl) _ _)
    refine⟨n+1,hlt,by go_num,⟨b5.setCell (p:=⟨w.heap.size+1,1,none⟩) (Nat.le_succ _) _,_,items++[(b,F.body)],zat (k:=1) _ HR5.out,hmd5.grown g5 (by omega),?_⟩⟩
    rw[List.map_append,hit,List.take_succ_eq_append_getElem hlt,List.map_append,HFE.out]
    rfl
   case measure=>simp[intOf];have:=HIT.out.2.1;omega
  ·obtain rfl:n=l.length:=by omega
   have HR:Hid (NewR w wr fa fc l (.slice aa an ac) fuel g caps l.length):=hid ⟨hb,cv,items,hm,hmd,hit⟩
   clear hb hm hmd hit
   go_wp2
   go_ret
   exact⟨rfl,HR.out⟩
end Go.Proofs.YtbilfdapmbahgaaGreatDoor.Rn
