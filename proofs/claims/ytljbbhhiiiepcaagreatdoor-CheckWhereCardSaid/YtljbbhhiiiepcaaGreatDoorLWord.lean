/- What the reader's takers answer, and word: the word that comes next. -/
import Derived.Test.YtljbbhhiiiepcaaGreatDoorLValue
set_option linter.unusedSimpArgs false
set_option linter.unusedVariables false
set_option maxHeartbeats 8000000
set_option maxRecDepth 100000
namespace Go.Proofs.YtljbbhhiiiepcaaGreatDoor.Lx
open Go Go.RowKit
open Go.Lib (hid)
def tokV (kd:Nat) (t:ByteArray) (n at':Nat):Value:=.agg #[.int .i64 kd,.string t,.int .u64 n,.int .i64 at']
def zb8:Value:=.agg #[.int .i64 0,.string ⟨#[]⟩,.int .u64 0,.int .i64 0]
def Took (s:ByteArray) (k:Nat) (o:Option (Nat×Nat×Nat)) (w:World) (e:Ending) (w':World):Prop:=
 Below w.heap.size w w'∧match o with
 | some (kd,len,n)=>e=.returned (.tuple #[tokV kd ⟨((rest s k).data.toList.take len).toArray⟩ n k,.bool true])
 | none=>e=.returned (.tuple #[zb8,.bool false])
def tw (p:UInt8→Bool) (s:ByteArray):Nat:=(s.data.toList.takeWhile p).length
theorem tw_le (p:UInt8→Bool) (s:ByteArray):tw p s≤s.size:=by
 have h:=(List.takeWhile_prefix p (l:=s.data.toList)).length_le
 rw[zd2] at h
 exact h
theorem zcf (s:ByteArray) (hs:s.size≤9223372036854775807) (w:World):
  Calls Tryz.prog 107 #[.string s,.func (.func 108) #[] #[]] w fun e w'=>e=.returned (.int .i64 ((tw isPt s:Nat):Int))∧w=w':=extent_pt s hs w
theorem zdD (s:ByteArray) (hs:s.size≤9223372036854775807) (w:World):
  Calls Tryz.prog 107 #[.string s,.func (.func 157) #[] #[]] w fun e w'=>e=.returned (.int .i64 ((tw isDg s:Nat):Int))∧w=w':=extent_dg s hs w
theorem cut_is (s:ByteArray) (m:Nat):s.extract 0 m=⟨(s.data.toList.take m).toArray⟩:=by
 apply ba_ext
 rw[Lib.extract_data]
 simp
theorem zcY (w:World) (n:Nat):Below w.heap.size w (w.drewN n):=⟨rfl,rfl,rfl,Nat.le_refl _,fun _ _=>rfl⟩
theorem zd3 (w:World) (o:Obj) (n:Nat):Below w.heap.size w ((w.alloc o).drewN n):=((Below.refl _ _).alloc (Nat.le_refl _) o).trans ((zcY _ n).mono (by simp))
theorem bel_ad4 (w:World) (o:Obj) (n:Nat) (a b c d:Value):Below w.heap.size w ((((((w.alloc o).drewN n).setCell ⟨w.heap.size,0,none⟩ a).setCell ⟨w.heap.size,1,none⟩ b).setCell ⟨w.heap.size,2,none⟩ c).setCell ⟨w.heap.size,3,none⟩ d):=
 ((((zd3 w o n).setCell (Nat.le_refl _) _).setCell (Nat.le_refl _) _).setCell (Nat.le_refl _) _).setCell (Nat.le_refl _) _
section
variable {w:World} {R:Nat} {s:ByteArray} {k:Nat} {SH SG cap:Nat}
theorem takeName_any (hr:Reader w R s k SH SG cap) (hk:k≤s.size) (hz:s.size≤9223372036854775807):
  Calls Tryz.prog 164 #[me R] w (Took s k (if zbn ((rest s k).data.toList.takeWhile isPt) then some (5,tw isPt (rest s k),0) else if 24 < tw isPt (rest s k) then none else some (1,tw isPt (rest s k),0)) w):=by
 have HR:=hid (hr.on ((Below.refl _ _).alloc (Nat.le_refl _) (.cells #[.int .i64 0,.string ⟨#[]⟩,.int .u64 0,.int .i64 0] 175)))
 have hlt:=lt_of_block hr.blk
 have c1:=HR.out.c1
 have HK:=hid hk
 have hrz:(rest s k).size≤9223372036854775807:=by have:=zbE s k;omega
 have hl:=tw_le isPt (rest s k)
 have hT:=cut_is (rest s k) (tw isPt (rest s k))
 have hTz:(ByteArray.mk ((rest s k).data.toList.take (tw isPt (rest s k))).toArray).size=tw isPt (rest s k):=by
  show(List.toArray _).size=_
  rw[List.size_toArray,List.length_take,zd2];omega
 have hTw:(rest s k).data.toList.take (tw isPt (rest s k))=(rest s k).data.toList.takeWhile isPt:=tw_take _
 rw[←hTw]
 clear hTw hr hk
 unfold me
 cases hkey:zbn ((rest s k).data.toList.take (tw isPt (rest s k)))
 ·rw[if_neg (by simp)]
  by_cases h24:24 < tw isPt (rest s k)
  ·rw[if_pos h24]
   obtain⟨T,eT⟩:∃T:ByteArray,T=⟨((rest s k).data.toList.take (tw isPt (rest s k))).toArray⟩:=⟨_,rfl⟩
   rw[←eT] at hT hTz
   have hkey':zbn T.data.toList=false:=by rw[eT];exact hkey
   have HE:=hid eT
   clear eT hkey
   go_enter Tryz.func164,Tryz.ntmps164
   go_wp2_with (first
    | (go_at_call 171;refine(zca (by first | exact HR.out | exact HR.out.drewN _) HK.out).mono ?_;rintro e w' ⟨rfl,n,rfl⟩)
    | (go_at_call 107;refine(zcf _ hrz _).mono ?_;rintro e w' ⟨rfl,rfl⟩)
    | (go_at_call 105;refine(zbY _ _).mono ?_;rintro e w' ⟨rfl,rfl⟩))
   exact bodyPost_ret (v:=(.tuple #[zb8,.bool false])) (by simp[results,Tryz.results164,zb8,tokV,go_sem]) rfl ⟨by first | exact bel_ad4 _ _ _ _ _ _ _ | exact zd3 _ _ _,rfl⟩
  ·rw[if_neg h24]
   obtain⟨T,eT⟩:∃T:ByteArray,T=⟨((rest s k).data.toList.take (tw isPt (rest s k))).toArray⟩:=⟨_,rfl⟩
   rw[←eT] at hT hTz
   have hkey':zbn T.data.toList=false:=by rw[eT];exact hkey
   have HE:=hid eT
   clear eT hkey
   go_enter Tryz.func164,Tryz.ntmps164
   go_wp2_with (first
    | (go_at_call 171;refine(zca (by first | exact HR.out | exact HR.out.drewN _) HK.out).mono ?_;rintro e w' ⟨rfl,n,rfl⟩)
    | (go_at_call 107;refine(zcf _ hrz _).mono ?_;rintro e w' ⟨rfl,rfl⟩)
    | (go_at_call 105;refine(zbY _ _).mono ?_;rintro e w' ⟨rfl,rfl⟩))
   exact bodyPost_ret (v:=(.tuple #[tokV 1 T 0 k,.bool true])) (by simp[results,Tryz.results164,zb8,tokV,go_sem]) rfl ⟨by first | exact bel_ad4 _ _ _ _ _ _ _ | exact zd3 _ _ _,by rw[HE.out]⟩
 ·rw[if_pos rfl]
  obtain⟨T,eT⟩:∃T:ByteArray,T=⟨((rest s k).data.toList.take (tw isPt (rest s k))).toArray⟩:=⟨_,rfl⟩
  rw[←eT] at hT hTz
  have hkey':zbn T.data.toList=true:=by rw[eT];exact hkey
  have HE:=hid eT
  clear eT hkey
  go_enter Tryz.func164,Tryz.ntmps164
  go_wp2_with (first
   | (go_at_call 171;refine(zca (by first | exact HR.out | exact HR.out.drewN _) HK.out).mono ?_;rintro e w' ⟨rfl,n,rfl⟩)
   | (go_at_call 107;refine(zcf _ hrz _).mono ?_;rintro e w' ⟨rfl,rfl⟩)
   | (go_at_call 105;refine(zbY _ _).mono ?_;rintro e w' ⟨rfl,rfl⟩))
  exact bodyPost_ret (v:=(.tuple #[tokV 5 T 0 k,.bool true])) (by simp[results,Tryz.results164,zb8,tokV,go_sem]) rfl ⟨by first | exact bel_ad4 _ _ _ _ _ _ _ | exact zd3 _ _ _,by rw[HE.out]⟩
theorem value_some (t:ByteArray) (M:Int) (most u:Nat) (hM:M=(most:Int)) (hz:t.size≤281474976710656) (H:Errs w) (hn:zbC most t.data.toList=some u):
  Calls Tryz.prog 204 #[.string t,.int .u64 M] w fun e w'=>e=.returned (.tuple #[.int .u64 u,.bool true])∧Below w.heap.size w w':=
 (value_any t M most hM hz H).mono fun e w' h=>by unfold Valued valN valB at h;rw[hn] at h;exact h
theorem value_none (t:ByteArray) (M:Int) (most:Nat) (hM:M=(most:Int)) (hz:t.size≤281474976710656) (H:Errs w) (hn:zbC most t.data.toList=none):
  Calls Tryz.prog 204 #[.string t,.int .u64 M] w fun e w'=>e=.returned (.tuple #[.int .u64 0,.bool false])∧Below w.heap.size w w':=
 (value_any t M most hM hz H).mono fun e w' h=>by unfold Valued valN valB at h;rw[hn] at h;exact h
abbrev tok0:Obj:=.cells #[.int .i64 0,.string ⟨#[]⟩,.int .u64 0,.int .i64 0] 175
theorem zdE {w w2:World} {n:Nat} (hb:Below ((w.alloc tok0).drewN n).heap.size ((w.alloc tok0).drewN n) w2):
  w2.cell? ⟨w.heap.size,0,none⟩=some (.int .i64 0)∧w2.cell? ⟨w.heap.size,1,none⟩=some (.string ⟨#[]⟩)∧w2.cell? ⟨w.heap.size,2,none⟩=some (.int .u64 0)∧w2.cell? ⟨w.heap.size,3,none⟩=some (.int .i64 0) ∧
  w2.frozen? ⟨w.heap.size,0,none⟩=false∧w2.frozen? ⟨w.heap.size,1,none⟩=false∧w2.frozen? ⟨w.heap.size,2,none⟩=false∧w2.frozen? ⟨w.heap.size,3,none⟩=false∧Below w.heap.size w w2:=by
 have hq:w2.heap[w.heap.size]?=some tok0:=(hb.block _ (by simp)).trans (zaj w _)
 exact⟨zab hq rfl,zab hq rfl,zab hq rfl,zab hq rfl,zac hq,zac hq,zac hq,zac hq,(zd3 w tok0 n).trans (hb.mono (by simp))⟩
theorem set4 {w w2:World} (h:Below w.heap.size w w2) (a b c d:Value):Below w.heap.size w ((((w2.setCell ⟨w.heap.size,0,none⟩ a).setCell ⟨w.heap.size,1,none⟩ b).setCell ⟨w.heap.size,2,none⟩ c).setCell ⟨w.heap.size,3,none⟩ d):=
 (((h.setCell (Nat.le_refl _) _).setCell (Nat.le_refl _) _).setCell (Nat.le_refl _) _).setCell (Nat.le_refl _) _
theorem takeNumber_any (hr:Reader w R s k SH SG cap) (hk:k≤s.size) (hz:s.size≤281474976710656) (H:Errs w):
  Calls Tryz.prog 166 #[me R] w (Took s k ((zbC 9223372036854775808 ((rest s k).data.toList.takeWhile isDg)).map fun n=>(2,tw isDg (rest s k),n)) w):=by
 have HR:=hid (hr.on ((Below.refl _ _).alloc (Nat.le_refl _) tok0))
 have hlt:=lt_of_block hr.blk
 have HK:=hid hk
 have hrz:(rest s k).size≤281474976710656:=by have:=zbE s k;omega
 have HRZ:=hid hrz
 have hl:=tw_le isDg (rest s k)
 have hT:=cut_is (rest s k) (tw isDg (rest s k))
 have hTz:(ByteArray.mk ((rest s k).data.toList.take (tw isDg (rest s k))).toArray).size=tw isDg (rest s k):=by
  show(List.toArray _).size=_
  rw[List.size_toArray,List.length_take,zd2];omega
 have hTw:(rest s k).data.toList.take (tw isDg (rest s k))=(rest s k).data.toList.takeWhile isDg:=tw_take _
 rw[←hTw]
 have HER:∀n,Hid (Errs ((w.alloc tok0).drewN n)):=fun n=>hid (H.on ((Past.refl w).on (zd3 w tok0 n)))
 obtain⟨M,eM⟩:∃M:Nat,M=9223372036854775808:=⟨_,rfl⟩
 have HM:Hid ((9223372036854775808:Int)=(M:Int)):=hid (by rw[eM];rfl)
 rw[←eM]
 obtain⟨T,eT⟩:∃T:ByteArray,T=⟨((rest s k).data.toList.take (tw isDg (rest s k))).toArray⟩:=⟨_,rfl⟩
 rw[←eT] at hT hTz
 have eT':(rest s k).data.toList.take (tw isDg (rest s k))=T.data.toList:=by rw[eT]
 rw[eT']
 have HE:=hid eT
 have HTZ:Hid (T.size≤281474976710656):=hid (by omega)
 clear hTw hr hk hz H eM eT eT'
 unfold me
 cases hn:zbC M T.data.toList with
 | none =>
  have HN:=hid hn
  clear hn hTz
  go_enter Tryz.func166,Tryz.ntmps166
  go_wp2_with (first
   | (go_at_call 171;refine(zca (by first | exact HR.out | exact HR.out.drewN _) HK.out).mono ?_;rintro e w' ⟨rfl,n,rfl⟩)
   | (go_at_call 107;refine(zdD _ (by have:=HRZ.out;omega) _).mono ?_;rintro e w' ⟨rfl,rfl⟩)
   | (go_at_call 204;refine(value_none _ _ M HM.out HTZ.out (HER _).out HN.out).mono ?_;rintro e w2 ⟨rfl,hb⟩;have c1:=((HR.out.drewN _).on hb).c1;obtain⟨q0,q1,q2,q3,f0,f1,f2,f3,hbw⟩:=zdE hb;clear hb))
  exact bodyPost_ret (v:=(.tuple #[zb8,.bool false])) (by simp[results,Tryz.results166,zb8,tokV,go_sem,q0,q1,q2,q3]) rfl ⟨set4 hbw _ _ _ _,rfl⟩
 | some u =>
  have HN:=hid hn
  clear hn hTz
  go_enter Tryz.func166,Tryz.ntmps166
  go_wp2_with (first
   | (go_at_call 171;refine(zca (by first | exact HR.out | exact HR.out.drewN _) HK.out).mono ?_;rintro e w' ⟨rfl,n,rfl⟩)
   | (go_at_call 107;refine(zdD _ (by have:=HRZ.out;omega) _).mono ?_;rintro e w' ⟨rfl,rfl⟩)
   | (go_at_call 204;refine(value_some _ _ M u HM.out HTZ.out (HER _).out HN.out).mono ?_;rintro e w2 ⟨rfl,hb⟩;have c1:=((HR.out.drewN _).on hb).c1;obtain⟨q0,q1,q2,q3,f0,f1,f2,f3,hbw⟩:=zdE hb;clear hb))
  exact bodyPost_ret (v:=(.tuple #[tokV 2 T u k,.bool true])) (by simp[results,Tryz.results166,zb8,tokV,go_sem,q0,q1,q2,q3]) rfl ⟨set4 hbw _ _ _ _,by rw[HE.out];rfl⟩
theorem rest_rest (s:ByteArray) (k:Nat):(rest s k).extract 1 (rest s k).size=rest s (k+1):=by
 apply ba_ext
 rw[Lib.extract_to_end]
 show(s.data.toList.drop k).drop 1=s.data.toList.drop (k+1)
 rw[List.drop_drop]
theorem zbF (s:ByteArray) (k:Nat):(rest s k).data.toList=s.data.toList.drop k:=rfl
theorem takeTag_any (hr:Reader w R s k SH SG cap) (hk:k < s.size) (hz:s.size≤281474976710656) (H:Errs w):
  Calls Tryz.prog 168 #[me R] w (Took s k ((zbC 1000000 ((rest s (k+1)).data.toList.takeWhile isDg)).map fun n=>(3,1+tw isDg (rest s (k+1)),n)) w):=by
 have HR:=hid (hr.on ((Below.refl _ _).alloc (Nat.le_refl _) tok0))
 have hlt:=lt_of_block hr.blk
 have HK:Hid (k≤s.size):=hid (Nat.le_of_lt hk)
 have hrs:=zbE s k
 have hrs1:=zbE s (k+1)
 have h1:1≤(rest s k).size:=by omega
 have hrr:=rest_rest s k
 have hrz:(rest s k).size≤281474976710656:=by omega
 have hrz1:(rest s (k+1)).size≤281474976710656:=by omega
 have HRZ:=hid hrz1
 have hl:=tw_le isDg (rest s (k+1))
 have hl2:1+tw isDg (rest s (k+1))≤(rest s k).size:=by omega
 have hT:=cut_is (rest s k) (1+tw isDg (rest s (k+1)))
 obtain⟨T,eT⟩:∃T:ByteArray,T=⟨((rest s k).data.toList.take (1+tw isDg (rest s (k+1)))).toArray⟩:=⟨_,rfl⟩
 have hTz:T.size=1+tw isDg (rest s (k+1)):=by
  rw[eT]
  show(List.toArray _).size=_
  rw[List.size_toArray,List.length_take,zd2];omega
 rw[←eT] at hT
 obtain⟨D,eD⟩:∃D:ByteArray,D=⟨((rest s (k+1)).data.toList.takeWhile isDg).toArray⟩:=⟨_,rfl⟩
 have hD:T.extract 1 T.size=D:=by
  apply ba_ext
  rw[Lib.extract_to_end,eT,eD]
  show((rest s k).data.toList.take _).drop 1=(rest s (k+1)).data.toList.takeWhile isDg
  rw[←tw_take (p:=isDg) (rest s (k+1)).data.toList,zbF,zbF,List.drop_take,List.drop_drop]
  congr 1
  show 1+((rest s (k+1)).data.toList.takeWhile isDg).length - 1=_
  rw[Nat.add_sub_cancel_left];rfl
 have eD':(rest s (k+1)).data.toList.takeWhile isDg=D.data.toList:=by rw[eD]
 rw[eD']
 have hDz:D.size≤281474976710656:=by
  have e:D.size=tw isDg (rest s (k+1)):=by rw[eD];show(List.toArray _).size=_;rw[List.size_toArray];rfl
  omega
 have HE:=hid eT
 have HDZ:=hid hDz
 have HER:∀n,Hid (Errs ((w.alloc tok0).drewN n)):=fun n=>hid (H.on ((Past.refl w).on (zd3 w tok0 n)))
 obtain⟨M,eM⟩:∃M:Nat,M=1000000:=⟨_,rfl⟩
 have HM:Hid ((1000000:Int)=(M:Int)):=hid (by rw[eM];rfl)
 rw[←eM]
 have hT1:1≤T.size:=by omega
 clear hr hk hz H eM eT eD eD' hDz hrs hrs1
 have HTZ:=hid hTz
 clear hTz
 unfold me
 cases hn:zbC M D.data.toList with
 | none =>
  have HN:=hid hn
  clear hn
  go_enter Tryz.func168,Tryz.ntmps168
  go_wp2_with (first
   | (go_at_call 171;refine(zca (by first | exact HR.out | exact HR.out.drewN _) HK.out).mono ?_;rintro e w' ⟨rfl,n,rfl⟩)
   | (go_at_call 107;refine(zdD _ (by have:=HRZ.out;omega) _).mono ?_;rintro e w' ⟨rfl,rfl⟩)
   | (go_at_call 204;refine(value_none _ _ M HM.out HDZ.out (HER _).out HN.out).mono ?_;rintro e w2 ⟨rfl,hb⟩;have c1:=((HR.out.drewN _).on hb).c1;obtain⟨q0,q1,q2,q3,f0,f1,f2,f3,hbw⟩:=zdE hb;clear hb))
  exact bodyPost_ret (v:=(.tuple #[zb8,.bool false])) (by simp[results,Tryz.results168,zb8,tokV,go_sem,q0,q1,q2,q3]) rfl ⟨set4 hbw _ _ _ _,rfl⟩
 | some u =>
  have HN:=hid hn
  clear hn
  go_enter Tryz.func168,Tryz.ntmps168
  go_wp2_with (first
   | (go_at_call 171;refine(zca (by first | exact HR.out | exact HR.out.drewN _) HK.out).mono ?_;rintro e w' ⟨rfl,n,rfl⟩)
   | (go_at_call 107;refine(zdD _ (by have:=HRZ.out;omega) _).mono ?_;rintro e w' ⟨rfl,rfl⟩)
   | (go_at_call 204;refine(value_some _ _ M u HM.out HDZ.out (HER _).out HN.out).mono ?_;rintro e w2 ⟨rfl,hb⟩;have c1:=((HR.out.drewN _).on hb).c1;obtain⟨q0,q1,q2,q3,f0,f1,f2,f3,hbw⟩:=zdE hb;clear hb))
  exact bodyPost_ret (v:=(.tuple #[tokV 3 T u k,.bool true])) (by simp[results,Tryz.results168,zb8,tokV,go_sem,q0,q1,q2,q3]) rfl ⟨set4 hbw _ _ _ _,by rw[HE.out];rfl⟩
theorem best_is (l:List UInt8):zbA l 29=⟨(l.take (zaB l).length).toArray⟩:=by
 apply ba_ext
 have h:=List.prefix_iff_eq_take.1 (zbP l).2
 rw[best_end,←h]
theorem atSign_no (hr:Reader w R s k SH SG cap) (hk:k≤s.size) (hn:zaB (rest s k).data.toList=[]):
  Calls Tryz.prog 169 #[me R] w fun e w'=>e=.returned (.bool false)∧∃n,w'=w.drewN n:=by
 have HR:=hid hr
 have HK:=hid hk
 have hl:(zbA (rest s k).data.toList 29).toList=[]:=by rw[ByteArray.toList_eq,best_end];exact hn
 have hl2:(!(zbA (rest s k).data.toList 29).toList.isEmpty)=false:=by rw[hl];rfl
 clear hr hk hn
 unfold me
 go_enter Tryz.func169,Tryz.ntmps169
 go_wp2_with (go_at_call 205;refine(zdS HR.out HK.out).mono ?_;rintro e w' ⟨rfl,n,rfl⟩)
 go_ret
 exact⟨rfl,_,rfl⟩
theorem atSign_yes (hr:Reader w R s k SH SG cap) (hk:k≤s.size) (hn:zaB (rest s k).data.toList≠[]):
  Calls Tryz.prog 169 #[me R] w fun e w'=>e=.returned (.bool true)∧∃n,w'=w.drewN n:=by
 have HR:=hid hr
 have HK:=hid hk
 have hl0:(zbA (rest s k).data.toList 29).toList=zaB (rest s k).data.toList:=by rw[ByteArray.toList_eq,best_end]
 have hl:(zbA (rest s k).data.toList 29).toList.isEmpty=false:=by
  rw[hl0]
  cases e:zaB (rest s k).data.toList with
  | nil=>exact absurd e hn
  | cons=>rfl
 have hl2:((zbA (rest s k).data.toList 29).toList=[])↔False:=by rw[hl0];simp[hn]
 clear hr hk hn hl0
 unfold me
 go_enter Tryz.func169,Tryz.ntmps169
 go_wp2_with (go_at_call 205;refine(zdS HR.out HK.out).mono ?_;rintro e w' ⟨rfl,n,rfl⟩)
 go_ret
 exact⟨rfl,_,rfl⟩
theorem takeSign_any (hr:Reader w R s k SH SG cap) (hk:k≤s.size):
  Calls Tryz.prog 170 #[me R] w (Took s k (some (4,(zaB (rest s k).data.toList).length,0)) w):=by
 have HR:=hid (hr.on ((Below.refl _ _).alloc (Nat.le_refl _) tok0))
 have hlt:=lt_of_block hr.blk
 have c1:=HR.out.c1
 have HK:=hid hk
 obtain⟨T,eT⟩:∃T:ByteArray,zbA (rest s k).data.toList 29=T:=⟨_,rfl⟩
 have eT2:T=⟨((rest s k).data.toList.take (zaB (rest s k).data.toList).length).toArray⟩:=by
  rw[←eT]
  exact best_is _
 have HE:=hid eT2
 have HT:=hid eT
 clear hr hk eT eT2
 unfold me
 go_enter Tryz.func170,Tryz.ntmps170
 go_wp2
 go_region_with (go_at_call 205;refine(zdS (by first | exact HR.out | exact HR.out.drewN _ | exact HR.out.drew | exact HR.out.drew.drew) HK.out).mono ?_;rintro e w' ⟨rfl,n,rfl⟩;rw[HT.out])
 all_goals
  go_wp2
  exact bodyPost_ret (v:=(.tuple #[tokV 4 T 0 k,.bool true])) (by simp[results,Tryz.results170,tokV,go_sem]) rfl ⟨by first | exact zd3 _ _ _ | exact bel_ad4 _ _ _ _ _ _ _,by rw[HE.out]⟩
end
end Go.Proofs.YtljbbhhiiiepcaaGreatDoor.Lx
