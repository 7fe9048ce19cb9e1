/- What the writer writes of a list of expressions, ahead of a line, and round a block. -/
import Derived.Test.YtljbbhhiiiepcaaGreatDoorTStRight2
set_option linter.unusedSimpArgs false
set_option linter.unusedVariables false
set_option maxHeartbeats 8000000
set_option maxRecDepth 100000
namespace Go.Proofs.YtljbbhhiiiepcaaGreatDoor
open Go Go.RowKit
open Go.Lib (hid)
theorem commas_snoc {α β:Type} (c:List β) (f:α→List β) (l:List α) (a:α):zay c f (l++[a])=zay c f l++((if l.isEmpty then [] else c)++f a):=by
 induction l with
 | nil=>rfl
 | cons b l ih =>
  cases l with
  | nil=>simp[zay]
  | cons b' l =>
   rw[List.cons_append,List.cons_append,zcg,←List.cons_append,ih,zcg]
   simp
theorem zdX {α β:Type} (c:List β) (f:α→List β) (l:List α) (n:Nat) (hn:n < l.length):zay c f (l.take (n+1))=zay c f (l.take n)++((if n=0 then [] else c)++f l[n]):=by
 rw[List.take_succ_eq_append_getElem hn,commas_snoc]
 congr 2
 cases n with
 | zero=>rfl
 | succ n =>
  cases l with
  | nil=>simp at hn
  | cons a l=>rfl
theorem commas_len {α β:Type} (c:List β) (f:α→List β) (l m:List α):(zay c f l).length≤(zay c f (l++m)).length:=by
 induction m generalizing l with
 | nil=>simp
 | cons a m ih =>
  have h:=ih (l++[a])
  rw[commas_snoc,List.append_assoc] at h
  simp only[List.length_append,List.singleton_append] at h ⊢
  omega
theorem zcp {α β:Type} (c:List β) (f:α→List β) (l:List α) (n:Nat):(zay c f (l.take n)).length≤(zay c f l).length:=by
 have:=commas_len c f (l.take n) (l.drop n)
 rwa [List.take_append_drop] at this
theorem Went.cell2 {B b:Nat} {bs:List UInt8} {k:Int} {w:World} (h:Wr B b bs k w):w.cell? ⟨b,2,none⟩=some (.int .i64 k):=by
 obtain⟨hB,p,v,hp,hb,ho,hne⟩:=h
 exact zab hb rfl
theorem Wr.free {B b:Nat} {bs:List UInt8} {k:Int} {w:World} (h:Wr B b bs k w) (j:Nat):w.frozen? ⟨b,j,none⟩=false:=by
 obtain⟨hB,p,v,hp,hb,ho,hne⟩:=h
 exact zac hb
theorem Wr.blocks {B b:Nat} {bs:List UInt8} {k:Int} {w:World} (h:Wr B b bs k w) (m:Int):Went B b bs m w (w.setCell ⟨b,2,none⟩ (.int .i64 m)):=by
 obtain⟨hB,p,v,hp,hb,ho,hne⟩:=h
 refine⟨⟨hB,p,v,hp,by rw[zaH _ hb];rfl,?_,hne⟩,(Below.refl B w).setCell (p:=⟨b,2,none⟩) hB _,(Keeps.refl b w).set 2 _⟩
 exact ho.kept (row:=some b) ⟨rfl,rfl,rfl,by simp[World.setCell],fun k _ hk=>Below.heap_setCell _ _ _ _ (fun e=>hk (by simp[e]))⟩ (Or.inr hne)
theorem Went.cast {B b:Nat} {bs cs:List UInt8} {k:Int} {w w1:World} (h:Went B b bs k w w1) (e:bs=cs):Went B b cs k w w1:=e▸h
theorem tabs_succ (n:Nat):za4 (n+1)=za4 n++[9]:=by unfold za4;rw[List.replicate_succ']
theorem za2 (n:Nat):(za4 n).length=n:=by simp[za4]
theorem tabs_any {B b:Nat} {bs:List UInt8} {d:Nat} {w:World} (h:Wr B b bs (d:Int) w) (hlen:bs.length+d≤140737488355328):
  Calls Tryz.prog 184 #[ptrW b] w fun e w'=>e=.returned (.tuple #[])∧Went B b (bs++za4 d) d w w':=by
 have c2:=Went.cell2 h
 have HW:=hid h
 clear h
 go_enter Tryz.func184,Tryz.ntmps184
 go_wp2
 go_loopw [6] (fun i wr=>∃n:Nat,n≤d∧i=.int .i64 n∧Went B b (bs++za4 n) d w wr) (fun i _=>d - (intOf i).toNat)
 case atStart=>exact⟨0,Nat.zero_le _,rfl,by simpa[za4] using HW.out.went⟩
 case round =>
  clear c2
  obtain⟨n,hn,rfl,hw⟩:=hrel
  have HN:=hid hw
  clear hw
  by_cases hlt:n < d
  ·have HL:Hid ((bs++za4 n).length+1≤140737488355328):=hid (by rw[List.length_append,za2];omega)
   have HC:Hid (∀W,Wr B b (bs++za4 n) d W→Calls Tryz.prog 214 #[.pointer (some ⟨b,0,none⟩),.int .u8 9] W fun e w'=>e=.returned .nilIface∧Went B b ((bs++za4 n)++[9]) d W w'):=hid fun W hW=>writeByte_any hW 9 HL.out
   go_wp2_with (go_at_call 214;have hx:=HC.out _ HN.out.wr;refine hx.mono ?_;clear hx;rintro e w2 ⟨rfl,g2⟩;have G2:=hid (HN.out.trans g2);clear g2)
   go_round
   case rel=>exact⟨n+1,by omega,by go_num,G2.out.cast (by rw[tabs_succ,List.append_assoc])⟩
   case measure=>simp[intOf];omega
  ·obtain rfl:n=d:=by omega
   go_wp2
   go_end0
   exact⟨rfl,HN.out⟩
theorem tag_any {w0:World} (H:Pow w0) {B b:Nat} {bs:List UInt8} {k:Int} {w:World} (hp:Past w0 w) (h:Wr B b bs k w) (t:Int) (ht0:0≤t) (ht1:t≤1000000) (hlen:bs.length+(tagT t.toNat).length≤140737488355328):
  Calls Tryz.prog 187 #[ptrW b,.int .i64 t] w fun e w'=>e=.returned (.tuple #[])∧Went B b (bs++tagT t.toNat) k w w':=by
 have HW:=hid h
 have HP:=hid hp
 by_cases h0:t=0
 ·subst h0
  clear h hp H hlen ht0 ht1
  go_enter Tryz.func187,Tryz.ntmps187
  go_wp2_with fail
  go_end0
  exact⟨rfl,HW.out.went.cast (by simp[tagT])⟩
 ·have hpos:decide (0 < t)=true:=decide_eq_true (by omega)
  have ec:catB [{data:=#[64]},txt t,{data:=#[32]}]=tagT t.toNat:=by
   have e2:(txt t).data.toList=Lib.decDigits t.toNat:=by
    show Lib.itoa t=_
    unfold Lib.itoa
    rw[if_neg (by omega)]
   simp only[catB,List.flatMap_cons,List.flatMap_nil,e2,List.append_nil,tagT]
   rw[if_neg (by omega)]
   rfl
  have L1:Hid (bs.length+(catB [{data:=#[64]},txt t,{data:=#[32]}]).length≤140737488355328):=hid (by rw[ec];exact hlen)
  have EC:=hid ec
  have HT:=hid (fun W=>zdk H t (by omega) W)
  clear h hp H hlen ht0 ht1 ec
  go_enter Tryz.func187,Tryz.ntmps187
  go_wp2_with (first
   | (go_at_call 124;have hx:=zaF (G1.out.wr.alloc (.cells #[.string {data:=#[64]},.string (txt t),.string {data:=#[32]}] 9)) w1.heap.size 3 [{data:=#[64]},txt t,{data:=#[32]}] _ (zaj _ _) rfl (by simp) L1.out;refine hx.mono ?_;clear hx;rintro e w2 ⟨rfl,g2⟩;have G2:=hid ((G1.out.alloc _).trans g2);clear g2)
   | (go_at_call 215;refine(HT.out _ HP.out).mono ?_;rintro e w1 ⟨rfl,hb⟩;have G1:=hid (HW.out.on hb);clear hb))
  go_end0
  exact⟨rfl,G2.out.cast (by rw[EC.out])⟩
theorem open_any {B b:Nat} {bs:List UInt8} {d:Nat} {w:World} (h:Wr B b bs (d:Int) w) (hd:d≤140737488355328) (hlen:bs.length+3≤140737488355328):
  Calls Tryz.prog 127 #[ptrW b] w fun e w'=>e=.returned (.tuple #[])∧Went B b (bs++[32,123,10]) ((d+1:Nat):Int) w w':=by
 have ec:catB [{data:=#[32,123,10]}]=[32,123,10]:=by simp[catB]
 have L1:Hid (bs.length+(catB [{data:=#[32,123,10]}]).length≤140737488355328):=hid (by rw[ec];exact hlen)
 have EC:=hid ec
 have HW:=hid h
 clear h hlen ec
 go_enter Tryz.func127,Tryz.ntmps127
 go_wp2_with (go_at_call 124;have hx:=zaF (HW.out.alloc (.cells #[.string {data:=#[32,123,10]}] 9)) w.heap.size 1 [{data:=#[32,123,10]}] _ (zaj _ _) rfl (by simp) L1.out;refine hx.mono ?_;clear hx;rintro e w1 ⟨rfl,g1⟩;have G1:=hid ((HW.out.went.alloc _).trans g1);have c2:=Went.cell2 g1.wr;have f2:=g1.wr.free 2;clear g1)
 go_end0
 exact⟨rfl,(G1.out.cast (by rw[EC.out])).trans ((G1.out.cast (by rw[EC.out])).wr.blocks _)⟩
theorem shut_any {B b:Nat} {bs:List UInt8} {d:Nat} {w:World} (h:Wr B b bs ((d+1:Nat):Int) w) (hlen:bs.length+d+1≤140737488355328):
  Calls Tryz.prog 130 #[ptrW b] w fun e w'=>e=.returned (.tuple #[])∧Went B b (bs++(za4 d++[125])) d w w':=by
 have ec:catB [{data:=#[125]}]=[125]:=by simp[catB]
 have L0:Hid (bs.length+d≤140737488355328):=hid (by omega)
 have L1:Hid ((bs++za4 d).length+(catB [{data:=#[125]}]).length≤140737488355328):=hid (by rw[ec,List.length_append,za2];exact hlen)
 have EC:=hid ec
 have c2:=Went.cell2 h
 have f2:=h.free 2
 have HW:=hid h
 have G0:Hid (Went B b bs (d:Int) w (w.setCell ⟨b,2,none⟩ (.int .i64 (d:Int)))):=hid (h.blocks _)
 have e1:((d+1:Nat):Int) - 1=(d:Int):=by omega
 rw[show((d+1:Nat):Int)=(d:Int)+1 by omega] at c2
 have hd:d≤140737488355328:=by omega
 clear h hlen ec
 go_enter Tryz.func130,Tryz.ntmps130
 go_wp2_with (first
  | (go_at_call 124;have hx:=zaF (G1.out.wr.alloc (.cells #[.string {data:=#[125]}] 9)) w1.heap.size 1 [{data:=#[125]}] _ (zaj _ _) rfl (by simp) L1.out;refine hx.mono ?_;clear hx;rintro e w2 ⟨rfl,g2⟩;have G2:=hid ((G1.out.alloc _).trans g2);clear g2)
  | (go_at_call 184;have hx:=tabs_any G0.out.wr L0.out;refine hx.mono ?_;clear hx;rintro e w1 ⟨rfl,g1⟩;have G1:=hid (G0.out.trans g1);clear g1))
 go_end0
 exact⟨rfl,G2.out.cast (by rw[EC.out,List.append_assoc])⟩
end Go.Proofs.YtljbbhhiiiepcaaGreatDoor
namespace Go.Proofs.YtljbbhhiiiepcaaGreatDoor
open Go Go.RowKit
open Go.Lib (hid)
def zc6 (l:List ET):List UInt8:=zay [44,32] (fun T=>putR levL T.re) l
theorem putAE_is (l:List ET):putA levL (res l)=zc6 l:=by
 unfold putA zc6 res
 induction l with
 | nil=>rfl
 | cons T l ih =>
  cases l with
  | nil=>rfl
  | cons U l =>
   simp only[List.map_cons] at ih ⊢
   rw[zcg,zcg,ih]
theorem list_exprs {w0:World} (H:Pow w0) (a:Option Addr) (c:Nat) (l:List ET) (hl:l.length≤9223372036854775807) (hin:EsIn w0 0 a 0 l) (hr:zam l=true)
  (B b:Nat) (bs:List UInt8) (k:Int) (w:World) (hB:w0.heap.size≤B) (h:Wr B b bs k w) (hp:Past w0 w) (hlen:bs.length+(zc6 l).length≤140737488355328):
  Calls Tryz.prog 217 #[ptrW b,.slice a l.length c,.func (.func 218) #[] #[]] w fun e w'=>e=.returned (.tuple #[])∧Went B b (bs++zc6 l) k w w':=by
 have HE:Hid (∀(n:Nat) (hn:n < l.length),ExprDoes w0 218 l[n].val (putR levL l[n].re)):=hid fun n hn=>zbf H _ l[n] (Nat.le_refl _) ((zdW l).1 hr _ (List.getElem_mem hn)) (hin.nth n hn).2
 have HI:=hid hin
 have HP:=hid hp
 have HW:=hid h
 have HB:=hid hB
 have HL:=hid hlen
 clear hin hp h hB hlen hr H
 go_enter Tryz.func217,Tryz.ntmps217
 go_wp2
 go_loopw [6,7,10] (fun _ _ i wr=>∃n:Nat,n≤l.length∧i=.int .i64 n∧Went B b (bs++zc6 (l.take n)) k w wr) (fun _ _ i _=>l.length - (intOf i).toNat)
 case atStart=>exact⟨0,Nat.zero_le _,rfl,HW.out.went.cast (by simp[zc6,zay])⟩
 case round =>
  obtain⟨n,hn,rfl,hw⟩:=hrel
  have HN:=hid hw
  clear hw
  by_cases hlt:n < l.length
  ·obtain⟨hrow,-⟩:=HI.out.nth n hlt
   have hrow':=hrow
   obtain⟨kb,ko,rfl,-⟩:=hrow'
   rw[ET.cells_is,Nat.zero_add] at hrow
   obtain⟨r0,r1,r2,r3,r4,hkb⟩:=za1 hrow (HP.out.went HB.out HN.out)
   have hcall:=HE.out n hlt
   unfold ExprDoes at hcall
   rw[ET.val_is] at hcall
   have HC:=hid hcall
   have et:zc6 (l.take (n+1))=zc6 (l.take n)++((if n=0 then [] else [44,32])++putR levL l[n].re):=zdX [44,32] (fun T:ET=>putR levL T.re) l n hlt
   have el:(zc6 (l.take (n+1))).length≤(zc6 l).length:=zcp _ _ _ _
   have ET':=hid et
   have htot:Hid ((bs++zc6 (l.take n)).length+(((if n=0 then [] else [44,32]):List UInt8).length+(putR levL l[n].re).length)≤140737488355328):=hid (by
    rw[et,List.length_append,List.length_append] at el
    have:=HL.out
    rw[List.length_append];omega)
   clear hcall hrow et el
   generalize putR levL l[n].re=tx at HC ET' htot
   by_cases h0:n=0
   ·subst h0
    simp only[Nat.zero_mul,Nat.add_zero] at r0 r1 r2 r3 r4
    have L1:Hid ((bs++zc6 (l.take 0)).length+tx.length≤140737488355328):=hid (by have:=htot.out;simp at this ⊢;omega)
    go_wp2_with (go_at_call 218;have hx:=HC.out B b _ k _ HB.out (HN.out.wr.alloc (.cells #[.int .i64 l[0].kind,.string l[0].op,.int .i64 l[0].n,.string l[0].name,.slice l[0].kaddr l[0].kids.length l[0].kcap] 68)) ((HP.out.went HB.out HN.out).alloc _) L1.out;refine hx.mono ?_;clear hx;rintro e w2 ⟨rfl,g2⟩;have G2:=hid ((HN.out.alloc _).trans g2);clear g2)
    go_round
    case rel=>exact⟨1,by omega,by go_num,G2.out.cast (by rw[ET'.out];simp)⟩
    case measure=>simp[intOf];omega
   ·have hpos:decide ((0:Int) < (n:Int))=true:=decide_eq_true (by omega)
    have ec:catB [{data:=#[44,32]}]=[44,32]:=by simp[catB]
    have EC:=hid ec
    have L1:Hid ((bs++zc6 (l.take n)).length+(catB [{data:=#[44,32]}]).length≤140737488355328):=hid (by have:=htot.out;rw[if_neg h0] at this;rw[ec];simp at this ⊢;omega)
    have L2:Hid (((bs++zc6 (l.take n))++catB [{data:=#[44,32]}]).length+tx.length≤140737488355328):=hid (by have:=htot.out;rw[if_neg h0] at this;rw[ec];simp at this ⊢;omega)
    have HF:Hid (zc6 (l.take (n+1))=zc6 (l.take n)++([44,32]++tx)):=hid (by rw[ET'.out,if_neg h0])
    have hltb:=hid HN.out.wr.lt
    clear ec htot ET'
    go_wp2_with (first
     | (go_at_call 218;have hx:=HC.out B b _ k _ HB.out G1.out.wr (HP.out.went HB.out G1.out) L2.out;refine hx.mono ?_;clear hx;rintro e w2 ⟨rfl,g2⟩;have G2:=hid (G1.out.trans g2);clear g2)
     | (go_at_call 124;have hx:=zaF ((HN.out.alloc (.cells #[.int .i64 l[n].kind,.string l[n].op,.int .i64 l[n].n,.string l[n].name,.slice l[n].kaddr l[n].kids.length l[n].kcap] 68)).wr.alloc (.cells #[.string {data:=#[44,32]}] 9)) (wr.heap.size+1) 1 [{data:=#[44,32]}] _ (zao _ (by simp)) rfl (by simp) L1.out;refine hx.mono ?_;clear hx;rintro e w1 ⟨rfl,g1⟩;have G1:=hid (((HN.out.alloc _).alloc _).trans g1);have hbox:=g1.keeps.box (zai _ (zaj wr _)) (Nat.ne_of_gt hltb.out) (by decide);obtain⟨c0,c1,c2,c3,c4⟩:=zbp hbox;clear g1 hbox))
    go_round
    case rel=>exact⟨n+1,by omega,by go_num,G2.out.cast (by rw[HF.out,EC.out];simp)⟩
    case measure=>simp[intOf];omega
  ·obtain rfl:n=l.length:=by omega
   go_wp2
   go_end0
   exact⟨rfl,HN.out.cast (by rw[List.take_length])⟩
def StmtsDoes (w0:World) (d:Nat) (v:Value) (tx:List UInt8):Prop:=
 ∀(B b:Nat) (bs:List UInt8) (w:World),w0.heap.size≤B→Wr B b bs (d:Int) w→Past w0 w→bs.length+tx.length≤140737488355328 →
  Calls Tryz.prog 129 #[ptrW b,v] w fun e w'=>e=.returned (.tuple #[])∧Went B b (bs++tx) (d:Int) w w'
theorem block_of {w0:World} {d:Nat} {a:Option Addr} {len c:Nat} {tx:List UInt8} (HS:StmtsDoes w0 (d+1) (.slice a len c) tx) (B b:Nat) (bs:List UInt8) (w:World) (hB:w0.heap.size≤B) (h:Wr B b bs (d:Int) w) (hp:Past w0 w)
  (hlen:bs.length+(3+(tx.length+(d+1)))≤140737488355328):
  Calls Tryz.prog 219 #[ptrW b,.slice a len c] w fun e w'=>e=.returned (.tuple #[])∧Went B b (bs++(32 :: 123 :: 10 :: (tx++(za4 d++[125])))) (d:Int) w w':=by
 have L1:Hid (bs.length+3≤140737488355328):=hid (by omega)
 have L2:Hid ((bs++[32,123,10]).length+tx.length≤140737488355328):=hid (by simp;omega)
 have L3:Hid (((bs++[32,123,10])++tx).length+d+1≤140737488355328):=hid (by simp;omega)
 have hd:Hid (d≤140737488355328):=hid (by omega)
 have HW:=hid h
 have HP:=hid hp
 have HB:=hid hB
 have HX:=hid HS
 clear h hp hB hlen HS
 go_enter Tryz.func219,Tryz.ntmps219
 go_wp2_with (first
  | (go_at_call 130;have hx:=shut_any G2.out.wr L3.out;refine hx.mono ?_;clear hx;rintro e w3 ⟨rfl,g3⟩;have G3:=hid (G2.out.trans g3);clear g3)
  | (go_at_call 129;have hx:=HX.out B b _ _ HB.out G1.out.wr (HP.out.went HB.out G1.out) L2.out;refine hx.mono ?_;clear hx;rintro e w2 ⟨rfl,g2⟩;have G2:=hid (G1.out.trans g2);clear g2)
  | (go_at_call 127;have hx:=open_any HW.out hd.out L1.out;refine hx.mono ?_;clear hx;rintro e w1 ⟨rfl,g1⟩;have G1:=hid (HW.out.went.trans g1);clear g1))
 go_end0
 exact⟨rfl,G3.out.cast (by simp)⟩
end Go.Proofs.YtljbbhhiiiepcaaGreatDoor
namespace Go.Proofs.YtljbbhhiiiepcaaGreatDoor
open Go Go.RowKit
open Go.Lib (hid)
def StmtDoes (w0:World) (d:Nat) (v:Value) (tx:List UInt8):Prop:=
 ∀(B b:Nat) (bs:List UInt8) (w:World),w0.heap.size≤B→Wr B b bs (d:Int) w→Past w0 w→bs.length+tx.length≤140737488355328 →
  Calls Tryz.prog 188 #[ptrW b,v] w fun e w'=>e=.returned (.tuple #[])∧Went B b (bs++tx) (d:Int) w w'
abbrev agE (k1:Int) (o1:ByteArray) (n1:Int) (m1:ByteArray) (v1:Value):Value:=.agg #[.int .i64 k1,.string o1,.int .i64 n1,.string m1,v1]
theorem stmt_rd {w0:World} (d:Nat) (t:Int) (n f:ByteArray) (ea:Option Addr) (ec:Nat) (ba:Option Addr) (bc:Nat) (la:Option Addr) (lc:Nat):StmtDoes w0 d (.agg #[.int .i64 2,.int .i64 t,.string n,.string f,.slice ea 0 ec,.slice ba 0 bc,.slice la 0 lc]) (n.data.toList++[32,61,32,114,101,97,100,40,41,59]):=by
 intro B b bs w hB h hp hlen
 have ecc:catB [n,{data:=#[32,61,32,114,101,97,100,40,41,59]}]=n.data.toList++[32,61,32,114,101,97,100,40,41,59]:=by simp[catB]
 have L1:Hid (bs.length+(catB [n,{data:=#[32,61,32,114,101,97,100,40,41,59]}]).length≤140737488355328):=hid (by rw[ecc];exact hlen)
 have EC:=hid ecc
 have HW:=hid h
 clear h hp hB hlen ecc
 go_enter Tryz.func188,Tryz.ntmps188
 go_wp2_with (go_at_call 124;have hx:=zaF ((HW.out.alloc (.cells #[.int .i64 2,.int .i64 t,.string n,.string f,.slice ea 0 ec,.slice ba 0 bc,.slice la 0 lc] 66)).alloc (.cells #[.string n,.string {data:=#[32,61,32,114,101,97,100,40,41,59]}] 9)) (w.heap.size+1) 2 [n,{data:=#[32,61,32,114,101,97,100,40,41,59]}] _ (zao _ (by simp)) rfl (by simp) L1.out;refine hx.mono ?_;clear hx;rintro e w1 ⟨rfl,g1⟩;have G1:=hid (((HW.out.went.alloc _).alloc _).trans g1);clear g1)
 go_end0
 exact⟨rfl,G1.out.cast (by rw[EC.out])⟩
theorem stmt_brk {w0:World} (d:Nat) (t:Int) (n f:ByteArray) (ea:Option Addr) (ec:Nat) (ba:Option Addr) (bc:Nat) (la:Option Addr) (lc:Nat):StmtDoes w0 d (.agg #[.int .i64 6,.int .i64 t,.string n,.string f,.slice ea 0 ec,.slice ba 0 bc,.slice la 0 lc]) ([98,114,101,97,107,59]):=by
 intro B b bs w hB h hp hlen
 have ecc:catB [{data:=#[98,114,101,97,107,59]}]=[98,114,101,97,107,59]:=by simp[catB]
 have L1:Hid (bs.length+(catB [{data:=#[98,114,101,97,107,59]}]).length≤140737488355328):=hid (by rw[ecc];exact hlen)
 have EC:=hid ecc
 have HW:=hid h
 clear h hp hB hlen ecc
 go_enter Tryz.func188,Tryz.ntmps188
 go_wp2_with (go_at_call 124;have hx:=zaF ((HW.out.alloc (.cells #[.int .i64 6,.int .i64 t,.string n,.string f,.slice ea 0 ec,.slice ba 0 bc,.slice la 0 lc] 66)).alloc (.cells #[.string {data:=#[98,114,101,97,107,59]}] 9)) (w.heap.size+1) 1 [{data:=#[98,114,101,97,107,59]}] _ (zao _ (by simp)) rfl (by simp) L1.out;refine hx.mono ?_;clear hx;rintro e w1 ⟨rfl,g1⟩;have G1:=hid (((HW.out.went.alloc _).alloc _).trans g1);clear g1)
 go_end0
 exact⟨rfl,G1.out.cast (by rw[EC.out])⟩
theorem stmt_cnt {w0:World} (d:Nat) (t:Int) (n f:ByteArray) (ea:Option Addr) (ec:Nat) (ba:Option Addr) (bc:Nat) (la:Option Addr) (lc:Nat):StmtDoes w0 d (.agg #[.int .i64 7,.int .i64 t,.string n,.string f,.slice ea 0 ec,.slice ba 0 bc,.slice la 0 lc]) ([99,111,110,116,105,110,117,101,59]):=by
 intro B b bs w hB h hp hlen
 have ecc:catB [{data:=#[99,111,110,116,105,110,117,101,59]}]=[99,111,110,116,105,110,117,101,59]:=by simp[catB]
 have L1:Hid (bs.length+(catB [{data:=#[99,111,110,116,105,110,117,101,59]}]).length≤140737488355328):=hid (by rw[ecc];exact hlen)
 have EC:=hid ecc
 have HW:=hid h
 clear h hp hB hlen ecc
 go_enter Tryz.func188,Tryz.ntmps188
 go_wp2_with (go_at_call 124;have hx:=zaF ((HW.out.alloc (.cells #[.int .i64 7,.int .i64 t,.string n,.string f,.slice ea 0 ec,.slice ba 0 bc,.slice la 0 lc] 66)).alloc (.cells #[.string {data:=#[99,111,110,116,105,110,117,101,59]}] 9)) (w.heap.size+1) 1 [{data:=#[99,111,110,116,105,110,117,101,59]}] _ (zao _ (by simp)) rfl (by simp) L1.out;refine hx.mono ?_;clear hx;rintro e w1 ⟨rfl,g1⟩;have G1:=hid (((HW.out.went.alloc _).alloc _).trans g1);clear g1)
 go_end0
 exact⟨rfl,G1.out.cast (by rw[EC.out])⟩
theorem stmt_ret {w0:World} (d:Nat) {k1:Int} {o1:ByteArray} {n1:Int} {m1:ByteArray} {v1:Value} {t1:List UInt8} (H1:ExprDoes w0 218 (agE k1 o1 n1 m1 v1) t1) (kb ko ec:Nat) (hr:RowAt w0 0 (some ⟨kb,ko,none⟩) 0 5 #[.int .i64 k1,.string o1,.int .i64 n1,.string m1,v1]) (t:Int) (n f:ByteArray) (ba:Option Addr) (bc:Nat) (la:Option Addr) (lc:Nat):StmtDoes w0 d (.agg #[.int .i64 8,.int .i64 t,.string n,.string f,.slice (some ⟨kb,ko,none⟩) 1 ec,.slice ba 0 bc,.slice la 0 lc]) ([114,101,116,117,114,110,32]++(t1++[59])):=by
 intro B b bs w hB h hp hlen
 obtain⟨r0,r1,r2,r3,r4,hkb⟩:=za1 hr hp
 simp only[Nat.zero_mul,Nat.add_zero] at r0 r1 r2 r3 r4
 have L1:Hid (bs.length+(({data:=#[114,101,116,117,114,110,32]}:ByteArray).size+t1.length+({data:=#[59]}:ByteArray).size)≤140737488355328):=hid (by
  show bs.length+(7+t1.length+1)≤_
  simp only[List.length_append,List.length_cons,List.length_nil] at hlen
  omega)
 have HW:=hid h
 have HP:=hid hp
 have HB:=hid hB
 have HA:=hid (zbv H1 {data:=#[114,101,116,117,114,110,32]} {data:=#[59]} B b bs d)
 clear h hp hB hlen H1 hr
 go_enter Tryz.func188,Tryz.ntmps188
 go_wp2_with (go_at_call 216;have hx:=HA.out _ HB.out (HW.out.alloc (.cells #[.int .i64 8,.int .i64 t,.string n,.string f,.slice (some ⟨kb,ko,none⟩) 1 ec,.slice ba 0 bc,.slice la 0 lc] 66)) (HP.out.alloc _) L1.out;refine hx.mono ?_;clear hx;rintro e w1 ⟨rfl,g1⟩;have G1:=hid ((HW.out.went.alloc _).trans g1);clear g1)
 go_end0
 exact⟨rfl,G1.out.cast (by simp)⟩
theorem stmt_ass {w0:World} (d:Nat) {k1:Int} {o1:ByteArray} {n1:Int} {m1:ByteArray} {v1:Value} {t1:List UInt8} (H1:ExprDoes w0 218 (agE k1 o1 n1 m1 v1) t1) (kb ko ec:Nat) (hr:RowAt w0 0 (some ⟨kb,ko,none⟩) 0 5 #[.int .i64 k1,.string o1,.int .i64 n1,.string m1,v1]) (t:Int) (n f:ByteArray) (ba:Option Addr) (bc:Nat) (la:Option Addr) (lc:Nat):StmtDoes w0 d (.agg #[.int .i64 9,.int .i64 t,.string n,.string f,.slice (some ⟨kb,ko,none⟩) 1 ec,.slice ba 0 bc,.slice la 0 lc]) ([97,115,115,101,114,116,40]++(t1++[41,59])):=by
 intro B b bs w hB h hp hlen
 obtain⟨r0,r1,r2,r3,r4,hkb⟩:=za1 hr hp
 simp only[Nat.zero_mul,Nat.add_zero] at r0 r1 r2 r3 r4
 have L1:Hid (bs.length+(({data:=#[97,115,115,101,114,116,40]}:ByteArray).size+t1.length+({data:=#[41,59]}:ByteArray).size)≤140737488355328):=hid (by
  show bs.length+(7+t1.length+2)≤_
  simp only[List.length_append,List.length_cons,List.length_nil] at hlen
  omega)
 have HW:=hid h
 have HP:=hid hp
 have HB:=hid hB
 have HA:=hid (zbv H1 {data:=#[97,115,115,101,114,116,40]} {data:=#[41,59]} B b bs d)
 clear h hp hB hlen H1 hr
 go_enter Tryz.func188,Tryz.ntmps188
 go_wp2_with (go_at_call 216;have hx:=HA.out _ HB.out (HW.out.alloc (.cells #[.int .i64 9,.int .i64 t,.string n,.string f,.slice (some ⟨kb,ko,none⟩) 1 ec,.slice ba 0 bc,.slice la 0 lc] 66)) (HP.out.alloc _) L1.out;refine hx.mono ?_;clear hx;rintro e w1 ⟨rfl,g1⟩;have G1:=hid ((HW.out.went.alloc _).trans g1);clear g1)
 go_end0
 exact⟨rfl,G1.out.cast (by simp)⟩
theorem stmt_asg {w0:World} (d:Nat) {k1:Int} {o1:ByteArray} {n1:Int} {m1:ByteArray} {v1:Value} {t1:List UInt8} (H1:ExprDoes w0 218 (agE k1 o1 n1 m1 v1) t1) (kb ko ec:Nat) (hr:RowAt w0 0 (some ⟨kb,ko,none⟩) 0 5 #[.int .i64 k1,.string o1,.int .i64 n1,.string m1,v1]) (t:Int) (n f:ByteArray) (ba:Option Addr) (bc:Nat) (la:Option Addr) (lc:Nat):StmtDoes w0 d (.agg #[.int .i64 0,.int .i64 t,.string n,.string f,.slice (some ⟨kb,ko,none⟩) 1 ec,.slice ba 0 bc,.slice la 0 lc]) (n.data.toList++32 :: 61 :: 32 :: (t1++[59])):=by
 intro B b bs w hB h hp hlen
 obtain⟨r0,r1,r2,r3,r4,hkb⟩:=za1 hr hp
 simp only[Nat.zero_mul,Nat.add_zero] at r0 r1 r2 r3 r4
 have hz:n.data.toList.length=n.size:=Array.length_toList
 have hzm:n.size≤140737488355328:=by
  simp only[List.length_append,List.length_cons,List.length_nil] at hlen
  omega
 have L1:Hid (bs.length+((n++{data:=#[32,61,32]}:ByteArray).size+t1.length+({data:=#[59]}:ByteArray).size)≤140737488355328):=hid (by
  rw[ByteArray.size_append]
  show bs.length+(n.size+3+t1.length+1)≤_
  simp only[List.length_append,List.length_cons,List.length_nil] at hlen
  omega)
 have HW:=hid h
 have HP:=hid hp
 have HB:=hid hB
 have HA:=hid (zbv H1 (n++{data:=#[32,61,32]}) {data:=#[59]} B b bs d)
 clear h hp hB hlen H1 hr hz
 go_enter Tryz.func188,Tryz.ntmps188
 go_wp2
 go_region_with (go_at_call 216;have hx:=HA.out _ HB.out (HW.out.went.alloc (.cells #[.int .i64 0,.int .i64 t,.string n,.string f,.slice (some ⟨kb,ko,none⟩) 1 ec,.slice ba 0 bc,.slice la 0 lc] 66)).drew.wr (HP.out.alloc _).drew L1.out;refine hx.mono ?_;clear hx;rintro e w2 ⟨rfl,g2⟩;have G2:=hid ((HW.out.went.alloc _).drew.trans g2);clear g2)
 all_goals
  go_wp2_with fail
  go_end0
  refine⟨rfl,G2.out.cast ?_⟩
  rw[ByteArray.data_append,Array.toList_append]
  simp only[List.append_assoc,List.cons_append,List.nil_append]
theorem stmt_sto {w0:World} (d:Nat) {k1:Int} {o1:ByteArray} {n1:Int} {m1:ByteArray} {v1:Value} {t1:List UInt8} (H1:ExprDoes w0 218 (agE k1 o1 n1 m1 v1) t1) {k2:Int} {o2:ByteArray} {n2:Int} {m2:ByteArray} {v2:Value} {t2:List UInt8} (H2:ExprDoes w0 218 (agE k2 o2 n2 m2 v2) t2) (kb ko ec:Nat) (hr:RowAt w0 0 (some ⟨kb,ko,none⟩) 0 5 #[.int .i64 k1,.string o1,.int .i64 n1,.string m1,v1]) (hr2:RowAt w0 0 (some ⟨kb,ko,none⟩) 1 5 #[.int .i64 k2,.string o2,.int .i64 n2,.string m2,v2]) (t:Int) (n f:ByteArray) (ba:Option Addr) (bc:Nat) (la:Option Addr) (lc:Nat):StmtDoes w0 d (.agg #[.int .i64 1,.int .i64 t,.string n,.string f,.slice (some ⟨kb,ko,none⟩) 2 ec,.slice ba 0 bc,.slice la 0 lc]) (n.data.toList++91 :: (t1++93 :: 32 :: 61 :: 32 :: (t2++[59]))):=by
 intro B b bs w hB h hp hlen
 obtain⟨r0,r1,r2,r3,r4,hkb⟩:=za1 hr hp
 simp only[Nat.zero_mul,Nat.add_zero] at r0 r1 r2 r3 r4
 have hz:n.data.toList.length=n.size:=Array.length_toList
 have hzm:n.size≤140737488355328:=by
  simp only[List.length_append,List.length_cons,List.length_nil] at hlen
  omega
 have ez:(n++{data:=#[91]}:ByteArray).data.toList=n.data.toList++[91]:=by rw[ByteArray.data_append,Array.toList_append]
 have L1:Hid (bs.length+((n++{data:=#[91]}:ByteArray).size+t1.length+({data:=#[93,32,61,32]}:ByteArray).size)≤140737488355328):=hid (by
  rw[ByteArray.size_append]
  show bs.length+(n.size+1+t1.length+4)≤_
  simp only[List.length_append,List.length_cons,List.length_nil] at hlen
  omega)
 have L2:Hid ((bs++(n.data.toList++91 :: (t1++[93,32,61,32]))).length+(({data:=#[]}:ByteArray).size+t2.length+({data:=#[59]}:ByteArray).size)≤140737488355328):=hid (by
  show _+(0+t2.length+1)≤_
  simp only[List.length_append,List.length_cons,List.length_nil] at hlen ⊢
  omega)
 have HW:=hid h
 have HP:=hid hp
 have HB:=hid hB
 have HA:=hid (zbv H1 (n++{data:=#[91]}) {data:=#[93,32,61,32]} B b bs d)
 have HA2:=hid (zbv H2 {data:=#[]} {data:=#[59]} B b (bs++(n.data.toList++91 :: (t1++[93,32,61,32]))) d)
 have HR2:=hid hr2
 have hlt:=hid h.lt
 have EZ:=hid ez
 clear h hp hB hlen H1 H2 hr hr2 hz ez
 go_enter Tryz.func188,Tryz.ntmps188
 go_upto_region 5 with fail
 go_cut [27] (fun _ wx=>Went B b (bs++(n.data.toList++91 :: (t1++[93,32,61,32]))) d w wx∧wx.heap[w.heap.size]?=some (.cells #[.int .i64 1,.int .i64 t,.string n,.string f,.slice (some ⟨kb,ko,none⟩) 2 ec,.slice ba 0 bc,.slice la 0 lc] 66 (0,0)))
 case first =>
  go_region_with (go_at_call 216;have hx:=HA.out _ HB.out (HW.out.went.alloc (.cells #[.int .i64 1,.int .i64 t,.string n,.string f,.slice (some ⟨kb,ko,none⟩) 2 ec,.slice ba 0 bc,.slice la 0 lc] 66)).drew.wr (HP.out.alloc _).drew L1.out;refine hx.mono ?_;clear hx;rintro e w2 ⟨rfl,g2⟩;have G2:=hid ((HW.out.went.alloc _).drew.trans g2);have X2:=hid (g2.keeps.box (show(w.alloc _).drew.heap[w.heap.size]?=_ from zaj w _) (Nat.ne_of_gt hlt.out) (by decide));clear g2)
  all_goals
   go_wp2_with fail
   go_meet
   refine⟨G2.out.cast ?_,X2.out⟩
   rw[EZ.out]
   simp only[List.append_assoc,List.cons_append,List.nil_append]
 case rest =>
  obtain⟨g2,x2⟩:=hcut
  have G2:=hid g2
  obtain⟨c0,c1,c2,c3,c4,c5,c6⟩:=zbB x2
  obtain⟨s0,s1,s2,s3,s4,hkb2⟩:=za1 HR2.out (HP.out.went HB.out g2)
  simp only[Nat.one_mul] at s0 s1 s2 s3 s4
  clear g2 x2 r0 r1 r2 r3 r4 hkb
  go_wp2_with (go_at_call 216;have hx:=HA2.out _ HB.out G2.out.wr (HP.out.went HB.out G2.out) L2.out;refine hx.mono ?_;clear hx;rintro e w3 ⟨rfl,g3⟩;have G3:=hid (G2.out.trans g3);clear g3)
  go_end0
  exact⟨rfl,G3.out.cast (by simp)⟩
theorem stmt_call {w0:World} (H:Pow w0) (d:Nat) (ea:Option Addr) (ec:Nat) (l:List ET) (hl:l.length≤9223372036854775807) (hin:EsIn w0 0 ea 0 l) (hr:zam l=true) (t:Int) (n f:ByteArray) (ba:Option Addr) (bc:Nat) (la:Option Addr) (lc:Nat):StmtDoes w0 d (.agg #[.int .i64 3,.int .i64 t,.string n,.string f,.slice ea l.length ec,.slice ba 0 bc,.slice la 0 lc]) (n.data.toList++32 :: 61 :: 32 :: (f.data.toList++40 :: (zc6 l++[41,59]))):=by
 intro B b bs w hB h hp hlen
 have ecc:catB [n,{data:=#[32,61,32]},f,{data:=#[40]}]=n.data.toList++32 :: 61 :: 32 :: (f.data.toList++[40]):=by simp[catB]
 have ec2:catB [{data:=#[41,59]}]=[41,59]:=by simp[catB]
 have L1:Hid (bs.length+(catB [n,{data:=#[32,61,32]},f,{data:=#[40]}]).length≤140737488355328):=hid (by rw[ecc];simp at hlen ⊢;omega)
 have L2:Hid ((bs++catB [n,{data:=#[32,61,32]},f,{data:=#[40]}]).length+(zc6 l).length≤140737488355328):=hid (by rw[ecc];simp at hlen ⊢;omega)
 have L3:Hid (((bs++catB [n,{data:=#[32,61,32]},f,{data:=#[40]}])++zc6 l).length+(catB [{data:=#[41,59]}]).length≤140737488355328):=hid (by rw[ecc,ec2];simp at hlen ⊢;omega)
 have EC:=hid ecc
 have EC2:=hid ec2
 have HW:=hid h
 have HP:=hid hp
 have HB:=hid hB
 have HA:=hid (list_exprs H ea ec l hl hin hr B b (bs++catB [n,{data:=#[32,61,32]},f,{data:=#[40]}]) d)
 have hlt:=hid h.lt
 clear h hp hB hlen hin hr ecc ec2 H
 go_enter Tryz.func188,Tryz.ntmps188
 go_wp2_with (first
  | (go_at_call 124;have hx:=zaF (G2.out.wr.alloc (.cells #[.string {data:=#[41,59]}] 9)) w2.heap.size 1 [{data:=#[41,59]}] _ (zaj _ _) rfl (by simp) L3.out;refine hx.mono ?_;clear hx;rintro e w3 ⟨rfl,g3⟩;have G3:=hid ((G2.out.alloc _).trans g3);clear g3)
  | (go_at_call 217;have hx:=HA.out _ HB.out G1.out.wr (HP.out.went HB.out G1.out) L2.out;refine hx.mono ?_;clear hx;rintro e w2 ⟨rfl,g2⟩;have G2:=hid (G1.out.trans g2);clear g2)
  | (go_at_call 124;have hx:=zaF ((HW.out.alloc (.cells #[.int .i64 3,.int .i64 t,.string n,.string f,.slice ea l.length ec,.slice ba 0 bc,.slice la 0 lc] 66)).alloc (.cells #[.string n,.string {data:=#[32,61,32]},.string f,.string {data:=#[40]}] 9)) (w.heap.size+1) 4 [n,{data:=#[32,61,32]},f,{data:=#[40]}] _ (zao _ (by simp)) rfl (by simp) L1.out;refine hx.mono ?_;clear hx;rintro e w1 ⟨rfl,g1⟩;have G1:=hid (((HW.out.went.alloc _).alloc _).trans g1);have hbox:=g1.keeps.box (zai _ (zaj w _)) (Nat.ne_of_gt hlt.out) (by decide);obtain⟨c0,c1,c2,c3,c4,c5,c6⟩:=zbB hbox;clear g1 hbox))
 go_end0
 refine⟨rfl,G3.out.cast ?_⟩
 rw[EC.out,EC2.out]
 simp
theorem stmt_whl {w0:World} (d:Nat) {k1:Int} {o1:ByteArray} {n1:Int} {m1:ByteArray} {v1:Value} {t1:List UInt8} (H1:ExprDoes w0 218 (agE k1 o1 n1 m1 v1) t1) (kb ko ec:Nat) (hr:RowAt w0 0 (some ⟨kb,ko,none⟩) 0 5 #[.int .i64 k1,.string o1,.int .i64 n1,.string m1,v1]) (t:Int) (n f:ByteArray) (ba:Option Addr) (bl bc:Nat) (la:Option Addr) (lc:Nat) {tb:List UInt8} (HS:StmtsDoes w0 (d+1) (.slice ba bl bc) tb):StmtDoes w0 d (.agg #[.int .i64 5,.int .i64 t,.string n,.string f,.slice (some ⟨kb,ko,none⟩) 1 ec,.slice ba bl bc,.slice la 0 lc]) ([119,104,105,108,101,32,40]++(t1++41 :: 32 :: 123 :: 10 :: (tb++(za4 d++[125])))):=by
 intro B b bs w hB h hp hlen
 obtain⟨r0,r1,r2,r3,r4,hkb⟩:=za1 hr hp
 simp only[Nat.zero_mul,Nat.add_zero] at r0 r1 r2 r3 r4
 have hz:=za2 d
 have L1:Hid (bs.length+(({data:=#[119,104,105,108,101,32,40]}:ByteArray).size+t1.length+({data:=#[41]}:ByteArray).size)≤140737488355328):=hid (by
  show bs.length+(7+t1.length+1)≤_
  simp only[List.length_append,List.length_cons,List.length_nil] at hlen
  omega)
 have L2:Hid ((bs++([119,104,105,108,101,32,40]++(t1++[41]))).length+(3+(tb.length+(d+1)))≤140737488355328):=hid (by
  simp only[List.length_append,List.length_cons,List.length_nil] at hlen ⊢
  omega)
 have HW:=hid h
 have HP:=hid hp
 have HB:=hid hB
 have HA:=hid (zbv H1 {data:=#[119,104,105,108,101,32,40]} {data:=#[41]} B b bs d)
 have HS':=hid (block_of HS B b (bs++([119,104,105,108,101,32,40]++(t1++[41]))))
 have hlt:=hid h.lt
 clear h hp hB hlen H1 hr hz HS
 go_enter Tryz.func188,Tryz.ntmps188
 go_wp2_with (first
  | (go_at_call 219;have hx:=HS'.out _ HB.out G1.out.wr (HP.out.went HB.out G1.out) L2.out;refine hx.mono ?_;clear hx;rintro e w2 ⟨rfl,g2⟩;have G2:=hid (G1.out.trans g2);have X2:=hid (g2.keeps.box X1.out (Nat.ne_of_gt hlt.out) (by decide));obtain⟨p0,p1,p2,p3,p4,p5,p6⟩:=zbB X2.out;clear g2)
  | (go_at_call 216;have hx:=HA.out _ HB.out (HW.out.alloc (.cells #[.int .i64 5,.int .i64 t,.string n,.string f,.slice (some ⟨kb,ko,none⟩) 1 ec,.slice ba bl bc,.slice la 0 lc] 66)) (HP.out.alloc _) L1.out;refine hx.mono ?_;clear hx;rintro e w1 ⟨rfl,g1⟩;have G1:=hid ((HW.out.went.alloc _).trans g1);have X1:=hid (g1.keeps.box (zaj w _) (Nat.ne_of_gt hlt.out) (by decide));obtain⟨c0,c1,c2,c3,c4,c5,c6⟩:=zbB X1.out;clear g1))
 go_end0
 exact⟨rfl,G2.out.cast (by simp)⟩
theorem stmt_if0 {w0:World} (d:Nat) {k1:Int} {o1:ByteArray} {n1:Int} {m1:ByteArray} {v1:Value} {t1:List UInt8} (H1:ExprDoes w0 218 (agE k1 o1 n1 m1 v1) t1) (kb ko ec:Nat) (hr:RowAt w0 0 (some ⟨kb,ko,none⟩) 0 5 #[.int .i64 k1,.string o1,.int .i64 n1,.string m1,v1]) (t:Int) (n f:ByteArray) (ba:Option Addr) (bl bc:Nat) (la:Option Addr) (lc:Nat) {tb:List UInt8} (HS:StmtsDoes w0 (d+1) (.slice ba bl bc) tb):StmtDoes w0 d (.agg #[.int .i64 4,.int .i64 t,.string n,.string f,.slice (some ⟨kb,ko,none⟩) 1 ec,.slice ba bl bc,.slice la 0 lc]) ([105,102,32,40]++(t1++41 :: 32 :: 123 :: 10 :: (tb++(za4 d++[125])))):=by
 intro B b bs w hB h hp hlen
 obtain⟨r0,r1,r2,r3,r4,hkb⟩:=za1 hr hp
 simp only[Nat.zero_mul,Nat.add_zero] at r0 r1 r2 r3 r4
 have hz:=za2 d
 have L1:Hid (bs.length+(({data:=#[105,102,32,40]}:ByteArray).size+t1.length+({data:=#[41]}:ByteArray).size)≤140737488355328):=hid (by
  show bs.length+(4+t1.length+1)≤_
  simp only[List.length_append,List.length_cons,List.length_nil] at hlen
  omega)
 have L2:Hid ((bs++([105,102,32,40]++(t1++[41]))).length+(3+(tb.length+(d+1)))≤140737488355328):=hid (by
  simp only[List.length_append,List.length_cons,List.length_nil] at hlen ⊢
  omega)
 have HW:=hid h
 have HP:=hid hp
 have HB:=hid hB
 have HA:=hid (zbv H1 {data:=#[105,102,32,40]} {data:=#[41]} B b bs d)
 have HS':=hid (block_of HS B b (bs++([105,102,32,40]++(t1++[41]))))
 have hlt:=hid h.lt
 clear h hp hB hlen H1 hr hz HS
 go_enter Tryz.func188,Tryz.ntmps188
 go_wp2_with (first
  | (go_at_call 219;have hx:=HS'.out _ HB.out G1.out.wr (HP.out.went HB.out G1.out) L2.out;refine hx.mono ?_;clear hx;rintro e w2 ⟨rfl,g2⟩;have G2:=hid (G1.out.trans g2);have X2:=hid (g2.keeps.box X1.out (Nat.ne_of_gt hlt.out) (by decide));obtain⟨p0,p1,p2,p3,p4,p5,p6⟩:=zbB X2.out;clear g2)
  | (go_at_call 216;have hx:=HA.out _ HB.out (HW.out.alloc (.cells #[.int .i64 4,.int .i64 t,.string n,.string f,.slice (some ⟨kb,ko,none⟩) 1 ec,.slice ba bl bc,.slice la 0 lc] 66)) (HP.out.alloc _) L1.out;refine hx.mono ?_;clear hx;rintro e w1 ⟨rfl,g1⟩;have G1:=hid ((HW.out.went.alloc _).trans g1);have X1:=hid (g1.keeps.box (zaj w _) (Nat.ne_of_gt hlt.out) (by decide));obtain⟨c0,c1,c2,c3,c4,c5,c6⟩:=zbB X1.out;clear g1))
 go_end0
 exact⟨rfl,G2.out.cast (by simp)⟩
theorem stmt_if1 {w0:World} (d:Nat) {k1:Int} {o1:ByteArray} {n1:Int} {m1:ByteArray} {v1:Value} {t1:List UInt8} (H1:ExprDoes w0 218 (agE k1 o1 n1 m1 v1) t1) (kb ko ec:Nat) (hr:RowAt w0 0 (some ⟨kb,ko,none⟩) 0 5 #[.int .i64 k1,.string o1,.int .i64 n1,.string m1,v1]) (t:Int) (n f:ByteArray) (ba:Option Addr) (bl bc:Nat) (la:Option Addr) (ll lc:Nat) {tb:List UInt8} (HS:StmtsDoes w0 (d+1) (.slice ba bl bc) tb) {te:List UInt8} (HS2:StmtsDoes w0 (d+1) (.slice la ll lc) te) (hll:0 < ll):StmtDoes w0 d (.agg #[.int .i64 4,.int .i64 t,.string n,.string f,.slice (some ⟨kb,ko,none⟩) 1 ec,.slice ba bl bc,.slice la ll lc]) ([105,102,32,40]++(t1++41 :: 32 :: 123 :: 10 :: (tb++(za4 d++125 :: 32 :: 101 :: 108 :: 115 :: 101 :: 32 :: 123 :: 10 :: (te++(za4 d++[125])))))):=by
 intro B b bs w hB h hp hlen
 obtain⟨r0,r1,r2,r3,r4,hkb⟩:=za1 hr hp
 simp only[Nat.zero_mul,Nat.add_zero] at r0 r1 r2 r3 r4
 have hz:=za2 d
 have L1:Hid (bs.length+(({data:=#[105,102,32,40]}:ByteArray).size+t1.length+({data:=#[41]}:ByteArray).size)≤140737488355328):=hid (by
  show bs.length+(4+t1.length+1)≤_
  simp only[List.length_append,List.length_cons,List.length_nil] at hlen
  omega)
 have L2:Hid ((bs++([105,102,32,40]++(t1++[41]))).length+(3+(tb.length+(d+1)))≤140737488355328):=hid (by
  simp only[List.length_append,List.length_cons,List.length_nil] at hlen ⊢
  omega)
 have ecc:catB [{data:=#[32,101,108,115,101]}]=[32,101,108,115,101]:=by simp[catB]
 have L3:Hid (((bs++([105,102,32,40]++(t1++[41])))++32 :: 123 :: 10 :: (tb++(za4 d++[125]))).length+(catB [{data:=#[32,101,108,115,101]}]).length≤140737488355328):=hid (by
  rw[ecc]
  simp only[List.length_append,List.length_cons,List.length_nil] at hlen ⊢
  omega)
 have L4:Hid ((((bs++([105,102,32,40]++(t1++[41])))++32 :: 123 :: 10 :: (tb++(za4 d++[125])))++catB [{data:=#[32,101,108,115,101]}]).length+(3+(te.length+(d+1)))≤140737488355328):=hid (by
  rw[ecc]
  simp only[List.length_append,List.length_cons,List.length_nil] at hlen ⊢
  omega)
 have hpos:decide ((0:Int) < (ll:Int))=true:=decide_eq_true (by omega)
 have EC:=hid ecc
 have HS2':=hid (block_of HS2 B b (((bs++([105,102,32,40]++(t1++[41])))++32 :: 123 :: 10 :: (tb++(za4 d++[125])))++catB [{data:=#[32,101,108,115,101]}]))
 clear ecc HS2
 have HW:=hid h
 have HP:=hid hp
 have HB:=hid hB
 have HA:=hid (zbv H1 {data:=#[105,102,32,40]} {data:=#[41]} B b bs d)
 have HS':=hid (block_of HS B b (bs++([105,102,32,40]++(t1++[41]))))
 have hlt:=hid h.lt
 clear h hp hB hlen H1 hr hz HS
 go_enter Tryz.func188,Tryz.ntmps188
 go_wp2_with (first
  | (go_at_call 219;have hx:=HS2'.out _ HB.out G3.out.wr (HP.out.went HB.out G3.out) L4.out;refine hx.mono ?_;clear hx;rintro e w4 ⟨rfl,g4⟩;have G4:=hid (G3.out.trans g4);clear g4)
  | (go_at_call 124;have hx:=zaF (G2.out.wr.alloc (.cells #[.string {data:=#[32,101,108,115,101]}] 9)) w2.heap.size 1 [{data:=#[32,101,108,115,101]}] _ (zaj _ _) rfl (by simp) L3.out;refine hx.mono ?_;clear hx;rintro e w3 ⟨rfl,g3⟩;have G3:=hid ((G2.out.alloc _).trans g3);have X3:=hid (g3.keeps.box (zai _ X2.out) (Nat.ne_of_gt hlt.out) (by decide));obtain⟨q0,q1,q2,q3,q4,q5,q6⟩:=zbB X3.out;clear g3)
  | (go_at_call 219;have hx:=HS'.out _ HB.out G1.out.wr (HP.out.went HB.out G1.out) L2.out;refine hx.mono ?_;clear hx;rintro e w2 ⟨rfl,g2⟩;have G2:=hid (G1.out.trans g2);have X2:=hid (g2.keeps.box X1.out (Nat.ne_of_gt hlt.out) (by decide));obtain⟨p0,p1,p2,p3,p4,p5,p6⟩:=zbB X2.out;clear g2)
  | (go_at_call 216;have hx:=HA.out _ HB.out (HW.out.alloc (.cells #[.int .i64 4,.int .i64 t,.string n,.string f,.slice (some ⟨kb,ko,none⟩) 1 ec,.slice ba bl bc,.slice la ll lc] 66)) (HP.out.alloc _) L1.out;refine hx.mono ?_;clear hx;rintro e w1 ⟨rfl,g1⟩;have G1:=hid ((HW.out.went.alloc _).trans g1);have X1:=hid (g1.keeps.box (zaj w _) (Nat.ne_of_gt hlt.out) (by decide));obtain⟨c0,c1,c2,c3,c4,c5,c6⟩:=zbB X1.out;clear g1))
 go_end0
 refine⟨rfl,G4.out.cast ?_⟩
 rw[EC.out]
 simp
end Go.Proofs.YtljbbhhiiiepcaaGreatDoor
namespace Go.Proofs.YtljbbhhiiiepcaaGreatDoor
open Go Go.RowKit
open Go.Lib (hid)
theorem putL_take (d:Nat) (l:List ST) (n:Nat) (hn:n < l.length):putL levL d (rss (l.take (n+1)))=putL levL d (rss (l.take n))++(za4 d++(tagT l[n].rs.tag++(putB levL d l[n].rs++[10]))):=by
 rw[List.take_succ_eq_append_getElem hn,zdV,List.map_append,zdT,←zdV,List.map_cons,List.map_nil,zd5,putL]
theorem putL_take_len (d:Nat) (l:List ST) (n:Nat):(putL levL d (rss (l.take n))).length≤(putL levL d (rss l)).length:=by
 have e:rss l=rss (l.take n)++rss (l.drop n):=by rw[zdV,zdV,zdV,←List.map_append,List.take_append_drop]
 rw[e,zdT,List.length_append];omega
theorem rs_tag {S:ST} (h:S.rightB=true):S.rs.tag=S.tag.toNat∧0≤S.tag∧S.tag≤1000000:=by
 obtain⟨t,ht0,ht1,hc⟩:=zct h
 rcases hc with ⟨n,ea,ec,e,ba,bc,la,lc,hn,he,rfl⟩ | ⟨n,ea,ec,e,e2,ba,bc,la,lc,hn,he,he2,rfl⟩ | ⟨n,ea,ec,ba,bc,la,lc,hn,rfl⟩ | ⟨n,f,ea,ec,e,ba,bc,la,lc,hn,hf,he,rfl⟩ | ⟨ea,ec,e,ba,bc,b,la,lc,l,he,hb,hl,rfl⟩ | ⟨ea,ec,e,ba,bc,b,la,lc,he,hb,rfl⟩ | ⟨ea,ec,ba,bc,la,lc,rfl⟩ | ⟨ea,ec,ba,bc,la,lc,rfl⟩ | ⟨ea,ec,e,ba,bc,la,lc,he,rfl⟩ | ⟨ea,ec,e,ba,bc,la,lc,he,rfl⟩
 all_goals exact⟨rfl,ht0,ht1⟩
theorem stmts_of {w0:World} (H:Pow w0) (d:Nat) (a:Option Addr) (c:Nat) (l:List ST) (hl:l.length≤9223372036854775807) (hin:SsIn w0 0 a 0 l) (hr:zak l=true)
  (hs:∀(n:Nat) (hn:n < l.length),StmtDoes w0 d l[n].val (putB levL d l[n].rs)):StmtsDoes w0 d (.slice a l.length c) (putL levL d (rss l)):=by
 intro B b bs w hB h hp hlen
 have HS:=hid hs
 have HT:Hid (∀(n:Nat) (hn:n < l.length),l[n].rs.tag=l[n].tag.toNat∧0≤l[n].tag∧l[n].tag≤1000000):=hid fun n hn=>rs_tag ((zc1 l).1 hr _ (List.getElem_mem hn))
 have HI:=hid hin
 have HP:=hid hp
 have HW:=hid h
 have HB:=hid hB
 have HL:=hid hlen
 have HPw:=hid H
 clear hs hin hp h hB hlen hr H
 go_enter Tryz.func129,Tryz.ntmps129
 go_wp2
 go_loopw [5,8] (fun _ i wr=>∃n:Nat,n≤l.length∧i=.int .i64 n∧Went B b (bs++putL levL d (rss (l.take n))) (d:Int) w wr) (fun _ i _=>l.length - (intOf i).toNat)
 case atStart=>exact⟨0,Nat.zero_le _,rfl,HW.out.went.cast (by simp[rss,putL])⟩
 case round =>
  obtain⟨n,hn,rfl,hw⟩:=hrel
  have HN:=hid hw
  clear hw
  by_cases hlt:n < l.length
  ·obtain⟨hrow,-⟩:=HI.out.nth n hlt
   have hrow':=hrow
   obtain⟨kb,ko,rfl,-⟩:=hrow'
   rw[ST.cells_eq,Nat.zero_add] at hrow
   obtain⟨r0,r1,r2,r3,r4,r5,r6,hkb⟩:=zdG hrow (HP.out.went HB.out HN.out)
   have hcall:=HS.out n hlt
   unfold StmtDoes at hcall
   rw[ST.val_eq] at hcall
   have HC:=hid hcall
   obtain⟨tg,tg0,tg1⟩:=HT.out n hlt
   have et:=putL_take d l n hlt
   have el:=putL_take_len d l (n+1)
   rw[tg] at et
   generalize putB levL d l[n].rs=tb at HC et
   have HTG:=hid (And.intro tg0 tg1)
   have ET':=hid et
   have htot:Hid ((bs++putL levL d (rss (l.take n))).length+(d+((tagT l[n].tag.toNat).length+(tb.length+1)))≤140737488355328):=hid (by
    rw[et] at el
    simp only[List.length_append,List.length_cons,List.length_nil,za2] at el ⊢
    have:=HL.out
    omega)
   clear hcall hrow et el tg tg0 tg1
   have ec:catB [{data:=#[10]}]=[10]:=by simp[catB]
   have EC:=hid ec
   have L1:Hid ((bs++putL levL d (rss (l.take n))).length+d≤140737488355328):=hid (by have:=htot.out;omega)
   have L2:Hid (((bs++putL levL d (rss (l.take n)))++za4 d).length+(tagT l[n].tag.toNat).length≤140737488355328):=hid (by have:=htot.out;rw[List.length_append,za2];omega)
   have L3:Hid ((((bs++putL levL d (rss (l.take n)))++za4 d)++tagT l[n].tag.toNat).length+tb.length≤140737488355328):=hid (by have:=htot.out;simp only[List.length_append,za2] at this ⊢;omega)
   have L4:Hid (((((bs++putL levL d (rss (l.take n)))++za4 d)++tagT l[n].tag.toNat)++tb).length+(catB [{data:=#[10]}]).length≤140737488355328):=hid (by have:=htot.out;rw[ec];simp only[List.length_append,za2,List.length_cons,List.length_nil] at this ⊢;omega)
   have hltb:=hid HN.out.wr.lt
   clear ec htot
   go_wp2_with (first
    | (go_at_call 124;have hx:=zaF (G3.out.wr.alloc (.cells #[.string {data:=#[10]}] 9)) w3.heap.size 1 [{data:=#[10]}] _ (zaj _ _) rfl (by simp) L4.out;refine hx.mono ?_;clear hx;rintro e w4 ⟨rfl,g4⟩;have G4:=hid ((G3.out.alloc _).trans g4);clear g4)
    | (go_at_call 188;have hx:=HC.out B b _ _ HB.out G2.out.wr (HP.out.went HB.out G2.out) L3.out;refine hx.mono ?_;clear hx;rintro e w3 ⟨rfl,g3⟩;have G3:=hid (G2.out.trans g3);clear g3)
    | (go_at_call 187;have hx:=tag_any HPw.out (HP.out.went HB.out G1.out) G1.out.wr l[n].tag HTG.out.1 HTG.out.2 L2.out;refine hx.mono ?_;clear hx;rintro e w2 ⟨rfl,g2⟩;have G2:=hid (G1.out.trans g2);have X2:=hid (g2.keeps.box X1.out (Nat.ne_of_gt hltb.out) (by decide));obtain⟨d0,d1,d2,d3,d4,d5,d6⟩:=zbB X2.out;clear g2)
    | (go_at_call 184;have hx:=tabs_any (HN.out.alloc (.cells #[.int .i64 l[n].kind,.int .i64 l[n].tag,.string l[n].name,.string l[n].func,.slice l[n].ea l[n].en l[n].ec,.slice l[n].ba l[n].bn l[n].bc,.slice l[n].la l[n].ln l[n].lc] 66)).wr L1.out;refine hx.mono ?_;clear hx;rintro e w1 ⟨rfl,g1⟩;have G1:=hid ((HN.out.alloc _).trans g1);have X1:=hid (g1.keeps.box (zaj wr _) (Nat.ne_of_gt hltb.out) (by decide));obtain⟨c0,c1,c2,c3,c4,c5,c6⟩:=zbB X1.out;clear g1))
   go_round
   case rel=>exact⟨n+1,by omega,by go_num,G4.out.cast (by rw[ET'.out,EC.out];simp)⟩
   case measure=>simp[intOf];omega
  ·obtain rfl:n=l.length:=by omega
   go_wp2
   go_end0
   exact⟨rfl,HN.out.cast (by rw[List.take_length])⟩
theorem stmt_any {w0:World} (H:Pow w0):∀(m:Nat) (S:ST),S.sz≤m→S.rightB=true→S.In w0 0→∀d,StmtDoes w0 d S.val (putB levL d S.rs):=by
 intro m
 induction m with
 | zero=>intro S hm;obtain⟨k,t,n,f,ea,ec,e,ba,bc,b,la,lc,l⟩:=S;simp[ST.sz] at hm
 | succ m ih =>
  intro S hm h hin d
  have list:∀{a:Option Addr} {c:Nat} {l:List ST},Szs l≤m→l.length≤9223372036854775807→zak l=true→SsIn w0 0 a 0 l→StmtsDoes w0 (d+1) (.slice a l.length c) (putL levL (d+1) (rss l)):=by
   intro a c l hs hl hr hi
   exact stmts_of H (d+1) a c l hl hi hr fun n hn=>ih l[n] (by have:=zdU hn;omega) ((zc1 l).1 hr _ (List.getElem_mem hn)) (hi.nth n hn).2 (d+1)
  obtain⟨t,ht0,ht1,hc⟩:=zct h
  rcases hc with ⟨n,ea,ec,e,ba,bc,la,lc,hn,he,rfl⟩ | ⟨n,ea,ec,e,e2,ba,bc,la,lc,hn,he,he2,rfl⟩ | ⟨n,ea,ec,ba,bc,la,lc,hn,rfl⟩ | ⟨n,f,ea,ec,e,ba,bc,la,lc,hn,hf,he,rfl⟩ | ⟨ea,ec,e,ba,bc,b,la,lc,l,he,hb,hl,rfl⟩ | ⟨ea,ec,e,ba,bc,b,la,lc,he,hb,rfl⟩ | ⟨ea,ec,ba,bc,la,lc,rfl⟩ | ⟨ea,ec,ba,bc,la,lc,rfl⟩ | ⟨ea,ec,e,ba,bc,la,lc,he,rfl⟩ | ⟨ea,ec,e,ba,bc,la,lc,he,rfl⟩
  all_goals
   rw[ST.In] at hin
   simp only[ST.sz,szs,Szs] at hm
   obtain⟨-,⟨z1,z2,z3⟩,i1,i2,i3⟩:=hin
  ·rw[EsIn] at i1
   obtain⟨hrow,hi,-⟩:=i1
   have hrow':=hrow
   obtain⟨kb,ko,rfl,-⟩:=hrow
   rw[ET.cells_is] at hrow'
   have H1:=zbf H _ e (Nat.le_refl _) he hi
   rw[ET.val_is] at H1
   exact stmt_asg d H1 kb ko ec hrow' t n _ ba bc la lc
  ·rw[EsIn,EsIn] at i1
   obtain⟨hrow,hi,hrow2,hi2,-⟩:=i1
   have hrow':=hrow
   obtain⟨kb,ko,rfl,-⟩:=hrow
   rw[ET.cells_is] at hrow' hrow2
   have H1:=zbf H _ e (Nat.le_refl _) he hi
   have H2:=zbf H _ e2 (Nat.le_refl _) he2 hi2
   rw[ET.val_is] at H1 H2
   exact stmt_sto d H1 H2 kb ko ec hrow' hrow2 t n _ ba bc la lc
  ·exact stmt_rd d t n _ ea ec ba bc la lc
  ·have:=stmt_call H d ea ec e z1 i1 he t n f ba bc la lc
   rw[←putAE_is] at this
   exact this
  ·rw[EsIn] at i1
   obtain⟨hrow,hi,-⟩:=i1
   have hrow':=hrow
   obtain⟨kb,ko,rfl,-⟩:=hrow
   rw[ET.cells_is] at hrow'
   have H1:=zbf H _ e (Nat.le_refl _) he hi
   rw[ET.val_is] at H1
   have HS:=list (c:=bc) (by omega) z2 hb i2
   cases l with
   | nil =>
    have:=stmt_if0 d H1 kb ko ec hrow' t {data:=#[]} {data:=#[]} ba b.length bc la lc HS
    exact this
   | cons S l =>
    have HS2:=list (c:=lc) (by omega) z3 hl i3
    have:=stmt_if1 d H1 kb ko ec hrow' t {data:=#[]} {data:=#[]} ba b.length bc la (S :: l).length lc HS HS2 (by simp)
    exact this
  ·rw[EsIn] at i1
   obtain⟨hrow,hi,-⟩:=i1
   have hrow':=hrow
   obtain⟨kb,ko,rfl,-⟩:=hrow
   rw[ET.cells_is] at hrow'
   have H1:=zbf H _ e (Nat.le_refl _) he hi
   rw[ET.val_is] at H1
   have HS:=list (c:=bc) (by omega) z2 hb i2
   exact stmt_whl d H1 kb ko ec hrow' t _ _ ba b.length bc la lc HS
  ·exact stmt_brk d t _ _ ea ec ba bc la lc
  ·exact stmt_cnt d t _ _ ea ec ba bc la lc
  ·rw[EsIn] at i1
   obtain⟨hrow,hi,-⟩:=i1
   have hrow':=hrow
   obtain⟨kb,ko,rfl,-⟩:=hrow
   rw[ET.cells_is] at hrow'
   have H1:=zbf H _ e (Nat.le_refl _) he hi
   rw[ET.val_is] at H1
   exact stmt_ret d H1 kb ko ec hrow' t _ _ ba bc la lc
  ·rw[EsIn] at i1
   obtain⟨hrow,hi,-⟩:=i1
   have hrow':=hrow
   obtain⟨kb,ko,rfl,-⟩:=hrow
   rw[ET.cells_is] at hrow'
   have H1:=zbf H _ e (Nat.le_refl _) he hi
   rw[ET.val_is] at H1
   exact stmt_ass d H1 kb ko ec hrow' t _ _ ba bc la lc
theorem stmts_any {w0:World} (H:Pow w0) (d:Nat) (a:Option Addr) (c:Nat) (l:List ST) (hl:l.length≤9223372036854775807) (hin:SsIn w0 0 a 0 l) (hr:zak l=true):StmtsDoes w0 d (.slice a l.length c) (putL levL d (rss l)):=
 stmts_of H d a c l hl hin hr fun n hn=>stmt_any H _ l[n] (Nat.le_refl _) ((zc1 l).1 hr _ (List.getElem_mem hn)) (hin.nth n hn).2 d
end Go.Proofs.YtljbbhhiiiepcaaGreatDoor
