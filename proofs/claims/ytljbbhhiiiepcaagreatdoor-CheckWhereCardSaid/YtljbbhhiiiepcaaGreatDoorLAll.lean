/- lex's word: the word that comes next, at every byte. -/
import Derived.Test.YtljbbhhiiiepcaaGreatDoorLWord
import Derived.Handy
set_option linter.unusedSimpArgs false
set_option linter.unusedVariables false
set_option maxHeartbeats 8000000
set_option maxRecDepth 100000
namespace Go.Proofs.YtljbbhhiiiepcaaGreatDoor.Lx
open Go Go.RowKit
open Go.Lib (hid)
section
variable {w:World} {R:Nat} {s:ByteArray} {k:Nat} {SH SG cap:Nat}
theorem Reader.al {p:Int} (h:Reader w R s p SH SG cap) (o:Obj):Reader (w.alloc o) R s p SH SG cap:=h.on ((Below.refl _ _).alloc (Nat.le_refl _) o)
theorem zdh {f:Nat} {a:Array Value} {kd len n:Nat} (h:Calls Tryz.prog f a w (Took s k (some (kd,len,n)) w)):
  Calls Tryz.prog f a w fun e w'=>e=.returned (.tuple #[.agg #[.int .i64 kd,.string ⟨((rest s k).data.toList.take len).toArray⟩,.int .u64 n,.int .i64 k],.bool true])∧Below w.heap.size w w':=h.mono fun _ _ ⟨a,b⟩=>⟨b,a⟩
theorem zdi {f:Nat} {a:Array Value} (h:Calls Tryz.prog f a w (Took s k none w)):
  Calls Tryz.prog f a w fun e w'=>e=.returned (.tuple #[.agg #[.int .i64 0,.string ⟨#[]⟩,.int .u64 0,.int .i64 0],.bool false])∧Below w.heap.size w w':=h.mono fun _ _ ⟨a,b⟩=>⟨b,a⟩
structure Mid (w wr:World) (R:Nat) (s:ByteArray) (k SH SG cap:Nat):Prop where
 past:Past (w.alloc tok0) wr
 rd:Reader wr R s k SH SG cap
 er:Errs wr
theorem Mid.on {wr w2:World} (h:Mid w wr R s k SH SG cap) (hb:Below wr.heap.size wr w2):Mid w w2 R s k SH SG cap:=
 ⟨h.past.on hb,h.rd.on hb,h.er.on hb⟩
theorem Mid.step {wr:World} (h:Mid w wr R s k SH SG cap) (o:Obj) (n:Nat):Mid w ((wr.alloc o).drewN n) R s k SH SG cap:=h.on (zd3 wr o n)
theorem Mid.tok {wr:World} (h:Mid w wr R s k SH SG cap):wr.heap[w.heap.size]?=some tok0:=(h.past.block _ (by simp)).trans (zaj w _)
theorem Mid.below {wr:World} (h:Mid w wr R s k SH SG cap):Below w.heap.size w wr:=((Below.refl _ _).alloc (Nat.le_refl _) tok0).trans (h.past.mono (by simp))
theorem rest_cons (hk:k < s.size):(rest s k).data.toList=s[k] :: (rest s (k+1)).data.toList:=by
 rw[zbF,zbF]
 exact List.drop_eq_getElem_cons (by simpa using hk)
theorem word_letter (hr:Reader w R s k SH SG cap) (hk:k < s.size) (H:Errs w) (o:Option (Nat×Nat×Nat)) (h0:ltI (s[k].toNat:Int)=true)
  (htake:∀w',Reader w' R s k SH SG cap→Errs w'→Calls Tryz.prog 164 #[me R] w' (Took s k o w')):
  Calls Tryz.prog 115 #[me R] w (Took s k o w):=by
 have HM:=hid (Mid.mk (Past.refl (w.alloc tok0)) (hr.al tok0) (H.on ((Past.refl w).alloc tok0)))
 have HK:=hid hk
 have hlt:=lt_of_block hr.blk
 have c2:=HM.out.rd.c2
 have HT:=hid htake
 clear hr H htake
 unfold me
 rcases o with _ | ⟨kd,len,u⟩
 all_goals (
  go_enter Tryz.func115,Tryz.ntmps115
  go_wp2
  go_loopw [11] (fun i wr=>∃j:Nat,j≤0∧i=.int .i64 j∧Mid w wr R s k SH SG cap) (fun i _=>5 - (intOf i).toNat)
  case atStart=>exact⟨0,by omega,rfl,HM.out⟩
  case round =>
   clear c2
   obtain⟨j,hj,rfl,hmid⟩:=hrel
   have HMI:=hid hmid
   have hjc:j=0:=by omega
   have s0:=zab (k:=0) hmid.rd.shp rfl
   have s1:=zab (k:=1) hmid.rd.shp rfl
   have s2:=zab (k:=2) hmid.rd.shp rfl
   have s3:=zab (k:=3) hmid.rd.shp rfl
   have s4:=zab (k:=4) hmid.rd.shp rfl
   have s5:=zab (k:=5) hmid.rd.shp rfl
   have s6:=zab (k:=6) hmid.rd.shp rfl
   have s7:=zab (k:=7) hmid.rd.shp rfl
   have q0:=zab (k:=0) hmid.tok rfl
   have q1:=zab (k:=1) hmid.tok rfl
   have q2:=zab (k:=2) hmid.tok rfl
   have q3:=zab (k:=3) hmid.tok rfl
   have f0:=zac (k:=0) hmid.tok
   have f1:=zac (k:=1) hmid.tok
   have f2:=zac (k:=2) hmid.tok
   have f3:=zac (k:=3) hmid.tok
   have z0:=lt_of_block hmid.tok
   clear hmid hj
   unfold me at s0 s1 s2 s3 s4 s5 s6 s7
   rcases hjc with rfl
   ·go_wp2_with (first
     | (go_at_call 163;refine(zbZ (HMI.out.rd.al _) HK.out).mono ?_;rintro e w' ⟨rfl,n,rfl⟩)
     | (go_at_call 164;(first | refine(zdi (HT.out _ (HMI.out.step _ _).rd (HMI.out.step _ _).er)).mono ?_ | refine(zdh (HT.out _ (HMI.out.step _ _).rd (HMI.out.step _ _).er)).mono ?_);rintro e w2 ⟨rfl,hb⟩;have HM2:=hid ((HMI.out.step _ _).on hb);have q0':=zab (k:=0) HM2.out.tok rfl;have q1':=zab (k:=1) HM2.out.tok rfl;have q2':=zab (k:=2) HM2.out.tok rfl;have q3':=zab (k:=3) HM2.out.tok rfl;have f0':=zac (k:=0) HM2.out.tok;have f1':=zac (k:=1) HM2.out.tok;have f2':=zac (k:=2) HM2.out.tok;have f3':=zac (k:=3) HM2.out.tok;clear hb))
    first | exact bodyPost_ret (v:=(.tuple #[zb8,.bool false])) (by simp[results,Tryz.results115,zb8,tokV,go_sem,q0',q1',q2',q3']) rfl ⟨set4 HM2.out.below _ _ _ _,rfl⟩ | exact bodyPost_ret (v:=(.tuple #[tokV kd ⟨((rest s k).data.toList.take len).toArray⟩ u k,.bool true])) (by simp[results,Tryz.results115,zb8,tokV,go_sem,q0',q1',q2',q3']) rfl ⟨set4 HM2.out.below _ _ _ _,rfl⟩)
theorem word_digit (hr:Reader w R s k SH SG cap) (hk:k < s.size) (H:Errs w) (o:Option (Nat×Nat×Nat)) (h0:ltI (s[k].toNat:Int)=false) (h1:dgI (s[k].toNat:Int)=true)
  (htake:∀w',Reader w' R s k SH SG cap→Errs w'→Calls Tryz.prog 166 #[me R] w' (Took s k o w')):
  Calls Tryz.prog 115 #[me R] w (Took s k o w):=by
 have HM:=hid (Mid.mk (Past.refl (w.alloc tok0)) (hr.al tok0) (H.on ((Past.refl w).alloc tok0)))
 have HK:=hid hk
 have hlt:=lt_of_block hr.blk
 have c2:=HM.out.rd.c2
 have HT:=hid htake
 clear hr H htake
 unfold me
 rcases o with _ | ⟨kd,len,u⟩
 all_goals (
  go_enter Tryz.func115,Tryz.ntmps115
  go_wp2
  go_loopw [11] (fun i wr=>∃j:Nat,j≤1∧i=.int .i64 j∧Mid w wr R s k SH SG cap) (fun i _=>5 - (intOf i).toNat)
  case atStart=>exact⟨0,by omega,rfl,HM.out⟩
  case round =>
   clear c2
   obtain⟨j,hj,rfl,hmid⟩:=hrel
   have HMI:=hid hmid
   have hjc:j=0∨j=1:=by omega
   have s0:=zab (k:=0) hmid.rd.shp rfl
   have s1:=zab (k:=1) hmid.rd.shp rfl
   have s2:=zab (k:=2) hmid.rd.shp rfl
   have s3:=zab (k:=3) hmid.rd.shp rfl
   have s4:=zab (k:=4) hmid.rd.shp rfl
   have s5:=zab (k:=5) hmid.rd.shp rfl
   have s6:=zab (k:=6) hmid.rd.shp rfl
   have s7:=zab (k:=7) hmid.rd.shp rfl
   have q0:=zab (k:=0) hmid.tok rfl
   have q1:=zab (k:=1) hmid.tok rfl
   have q2:=zab (k:=2) hmid.tok rfl
   have q3:=zab (k:=3) hmid.tok rfl
   have f0:=zac (k:=0) hmid.tok
   have f1:=zac (k:=1) hmid.tok
   have f2:=zac (k:=2) hmid.tok
   have f3:=zac (k:=3) hmid.tok
   have z0:=lt_of_block hmid.tok
   clear hmid hj
   unfold me at s0 s1 s2 s3 s4 s5 s6 s7
   rcases hjc with rfl | rfl
   ·go_wp2_with (go_at_call 163;refine(zbZ (HMI.out.rd.al _) HK.out).mono ?_;rintro e w' ⟨rfl,n,rfl⟩)
    go_roundw
    case rel=>exact⟨1,by omega,by first | rfl | go_num,HMI.out.step _ _⟩
    case measure=>simp[intOf]
   ·go_wp2_with (first
     | (go_at_call 165;refine(zcW (HMI.out.rd.al _) HK.out).mono ?_;rintro e w' ⟨rfl,n,rfl⟩)
     | (go_at_call 166;(first | refine(zdi (HT.out _ (HMI.out.step _ _).rd (HMI.out.step _ _).er)).mono ?_ | refine(zdh (HT.out _ (HMI.out.step _ _).rd (HMI.out.step _ _).er)).mono ?_);rintro e w2 ⟨rfl,hb⟩;have HM2:=hid ((HMI.out.step _ _).on hb);have q0':=zab (k:=0) HM2.out.tok rfl;have q1':=zab (k:=1) HM2.out.tok rfl;have q2':=zab (k:=2) HM2.out.tok rfl;have q3':=zab (k:=3) HM2.out.tok rfl;have f0':=zac (k:=0) HM2.out.tok;have f1':=zac (k:=1) HM2.out.tok;have f2':=zac (k:=2) HM2.out.tok;have f3':=zac (k:=3) HM2.out.tok;clear hb))
    first | exact bodyPost_ret (v:=(.tuple #[zb8,.bool false])) (by simp[results,Tryz.results115,zb8,tokV,go_sem,q0',q1',q2',q3']) rfl ⟨set4 HM2.out.below _ _ _ _,rfl⟩ | exact bodyPost_ret (v:=(.tuple #[tokV kd ⟨((rest s k).data.toList.take len).toArray⟩ u k,.bool true])) (by simp[results,Tryz.results115,zb8,tokV,go_sem,q0',q1',q2',q3']) rfl ⟨set4 HM2.out.below _ _ _ _,rfl⟩)
theorem word_tag (hr:Reader w R s k SH SG cap) (hk:k < s.size) (H:Errs w) (o:Option (Nat×Nat×Nat)) (h0:ltI (s[k].toNat:Int)=false) (h1:dgI (s[k].toNat:Int)=false) (h2:((s[k].toNat:Int)==64)=true)
  (htake:∀w',Reader w' R s k SH SG cap→Errs w'→Calls Tryz.prog 168 #[me R] w' (Took s k o w')):
  Calls Tryz.prog 115 #[me R] w (Took s k o w):=by
 have HM:=hid (Mid.mk (Past.refl (w.alloc tok0)) (hr.al tok0) (H.on ((Past.refl w).alloc tok0)))
 have HK:=hid hk
 have hlt:=lt_of_block hr.blk
 have c2:=HM.out.rd.c2
 have HT:=hid htake
 clear hr H htake
 unfold me
 rcases o with _ | ⟨kd,len,u⟩
 all_goals (
  go_enter Tryz.func115,Tryz.ntmps115
  go_wp2
  go_loopw [11] (fun i wr=>∃j:Nat,j≤2∧i=.int .i64 j∧Mid w wr R s k SH SG cap) (fun i _=>5 - (intOf i).toNat)
  case atStart=>exact⟨0,by omega,rfl,HM.out⟩
  case round =>
   clear c2
   obtain⟨j,hj,rfl,hmid⟩:=hrel
   have HMI:=hid hmid
   have hjc:j=0∨j=1∨j=2:=by omega
   have s0:=zab (k:=0) hmid.rd.shp rfl
   have s1:=zab (k:=1) hmid.rd.shp rfl
   have s2:=zab (k:=2) hmid.rd.shp rfl
   have s3:=zab (k:=3) hmid.rd.shp rfl
   have s4:=zab (k:=4) hmid.rd.shp rfl
   have s5:=zab (k:=5) hmid.rd.shp rfl
   have s6:=zab (k:=6) hmid.rd.shp rfl
   have s7:=zab (k:=7) hmid.rd.shp rfl
   have q0:=zab (k:=0) hmid.tok rfl
   have q1:=zab (k:=1) hmid.tok rfl
   have q2:=zab (k:=2) hmid.tok rfl
   have q3:=zab (k:=3) hmid.tok rfl
   have f0:=zac (k:=0) hmid.tok
   have f1:=zac (k:=1) hmid.tok
   have f2:=zac (k:=2) hmid.tok
   have f3:=zac (k:=3) hmid.tok
   have z0:=lt_of_block hmid.tok
   clear hmid hj
   unfold me at s0 s1 s2 s3 s4 s5 s6 s7
   rcases hjc with rfl | rfl | rfl
   ·go_wp2_with (go_at_call 163;refine(zbZ (HMI.out.rd.al _) HK.out).mono ?_;rintro e w' ⟨rfl,n,rfl⟩)
    go_roundw
    case rel=>exact⟨1,by omega,by first | rfl | go_num,HMI.out.step _ _⟩
    case measure=>simp[intOf]
   ·go_wp2_with (go_at_call 165;refine(zcW (HMI.out.rd.al _) HK.out).mono ?_;rintro e w' ⟨rfl,n,rfl⟩)
    go_roundw
    case rel=>exact⟨2,by omega,by first | rfl | go_num,HMI.out.step _ _⟩
    case measure=>simp[intOf]
   ·go_wp2_with (first
     | (go_at_call 167;refine(atTag_any (HMI.out.rd.al _) HK.out).mono ?_;rintro e w' ⟨rfl,n,rfl⟩)
     | (go_at_call 168;(first | refine(zdi (HT.out _ (HMI.out.step _ _).rd (HMI.out.step _ _).er)).mono ?_ | refine(zdh (HT.out _ (HMI.out.step _ _).rd (HMI.out.step _ _).er)).mono ?_);rintro e w2 ⟨rfl,hb⟩;have HM2:=hid ((HMI.out.step _ _).on hb);have q0':=zab (k:=0) HM2.out.tok rfl;have q1':=zab (k:=1) HM2.out.tok rfl;have q2':=zab (k:=2) HM2.out.tok rfl;have q3':=zab (k:=3) HM2.out.tok rfl;have f0':=zac (k:=0) HM2.out.tok;have f1':=zac (k:=1) HM2.out.tok;have f2':=zac (k:=2) HM2.out.tok;have f3':=zac (k:=3) HM2.out.tok;clear hb))
    first | exact bodyPost_ret (v:=(.tuple #[zb8,.bool false])) (by simp[results,Tryz.results115,zb8,tokV,go_sem,q0',q1',q2',q3']) rfl ⟨set4 HM2.out.below _ _ _ _,rfl⟩ | exact bodyPost_ret (v:=(.tuple #[tokV kd ⟨((rest s k).data.toList.take len).toArray⟩ u k,.bool true])) (by simp[results,Tryz.results115,zb8,tokV,go_sem,q0',q1',q2',q3']) rfl ⟨set4 HM2.out.below _ _ _ _,rfl⟩)
theorem word_sign (hr:Reader w R s k SH SG cap) (hk:k < s.size) (H:Errs w) (o:Option (Nat×Nat×Nat)) (h0:ltI (s[k].toNat:Int)=false) (h1:dgI (s[k].toNat:Int)=false) (h2:((s[k].toNat:Int)==64)=false) (HL:Hid (zaB (rest s k).data.toList≠[]))
  (htake:∀w',Reader w' R s k SH SG cap→Errs w'→Calls Tryz.prog 170 #[me R] w' (Took s k o w')):
  Calls Tryz.prog 115 #[me R] w (Took s k o w):=by
 have HM:=hid (Mid.mk (Past.refl (w.alloc tok0)) (hr.al tok0) (H.on ((Past.refl w).alloc tok0)))
 have HK:=hid hk
 have hlt:=lt_of_block hr.blk
 have c2:=HM.out.rd.c2
 have HT:=hid htake
 clear hr H htake
 unfold me
 rcases o with _ | ⟨kd,len,u⟩
 all_goals (
  go_enter Tryz.func115,Tryz.ntmps115
  go_wp2
  go_loopw [11] (fun i wr=>∃j:Nat,j≤3∧i=.int .i64 j∧Mid w wr R s k SH SG cap) (fun i _=>5 - (intOf i).toNat)
  case atStart=>exact⟨0,by omega,rfl,HM.out⟩
  case round =>
   clear c2
   obtain⟨j,hj,rfl,hmid⟩:=hrel
   have HMI:=hid hmid
   have hjc:j=0∨j=1∨j=2∨j=3:=by omega
   have s0:=zab (k:=0) hmid.rd.shp rfl
   have s1:=zab (k:=1) hmid.rd.shp rfl
   have s2:=zab (k:=2) hmid.rd.shp rfl
   have s3:=zab (k:=3) hmid.rd.shp rfl
   have s4:=zab (k:=4) hmid.rd.shp rfl
   have s5:=zab (k:=5) hmid.rd.shp rfl
   have s6:=zab (k:=6) hmid.rd.shp rfl
   have s7:=zab (k:=7) hmid.rd.shp rfl
   have q0:=zab (k:=0) hmid.tok rfl
   have q1:=zab (k:=1) hmid.tok rfl
   have q2:=zab (k:=2) hmid.tok rfl
   have q3:=zab (k:=3) hmid.tok rfl
   have f0:=zac (k:=0) hmid.tok
   have f1:=zac (k:=1) hmid.tok
   have f2:=zac (k:=2) hmid.tok
   have f3:=zac (k:=3) hmid.tok
   have z0:=lt_of_block hmid.tok
   clear hmid hj
   unfold me at s0 s1 s2 s3 s4 s5 s6 s7
   rcases hjc with rfl | rfl | rfl | rfl
   ·go_wp2_with (go_at_call 163;refine(zbZ (HMI.out.rd.al _) HK.out).mono ?_;rintro e w' ⟨rfl,n,rfl⟩)
    go_roundw
    case rel=>exact⟨1,by omega,by first | rfl | go_num,HMI.out.step _ _⟩
    case measure=>simp[intOf]
   ·go_wp2_with (go_at_call 165;refine(zcW (HMI.out.rd.al _) HK.out).mono ?_;rintro e w' ⟨rfl,n,rfl⟩)
    go_roundw
    case rel=>exact⟨2,by omega,by first | rfl | go_num,HMI.out.step _ _⟩
    case measure=>simp[intOf]
   ·go_wp2_with (go_at_call 167;refine(atTag_any (HMI.out.rd.al _) HK.out).mono ?_;rintro e w' ⟨rfl,n,rfl⟩)
    go_roundw
    case rel=>exact⟨3,by omega,by first | rfl | go_num,HMI.out.step _ _⟩
    case measure=>simp[intOf]
   ·go_wp2_with (first
     | (go_at_call 169;refine(atSign_yes (HMI.out.rd.al _) (Nat.le_of_lt HK.out) HL.out).mono ?_;rintro e w' ⟨rfl,n,rfl⟩)
     | (go_at_call 170;(first | refine(zdi (HT.out _ (HMI.out.step _ _).rd (HMI.out.step _ _).er)).mono ?_ | refine(zdh (HT.out _ (HMI.out.step _ _).rd (HMI.out.step _ _).er)).mono ?_);rintro e w2 ⟨rfl,hb⟩;have HM2:=hid ((HMI.out.step _ _).on hb);have q0':=zab (k:=0) HM2.out.tok rfl;have q1':=zab (k:=1) HM2.out.tok rfl;have q2':=zab (k:=2) HM2.out.tok rfl;have q3':=zab (k:=3) HM2.out.tok rfl;have f0':=zac (k:=0) HM2.out.tok;have f1':=zac (k:=1) HM2.out.tok;have f2':=zac (k:=2) HM2.out.tok;have f3':=zac (k:=3) HM2.out.tok;clear hb))
    first | exact bodyPost_ret (v:=(.tuple #[zb8,.bool false])) (by simp[results,Tryz.results115,zb8,tokV,go_sem,q0',q1',q2',q3']) rfl ⟨set4 HM2.out.below _ _ _ _,rfl⟩ | exact bodyPost_ret (v:=(.tuple #[tokV kd ⟨((rest s k).data.toList.take len).toArray⟩ u k,.bool true])) (by simp[results,Tryz.results115,zb8,tokV,go_sem,q0',q1',q2',q3']) rfl ⟨set4 HM2.out.below _ _ _ _,rfl⟩)
theorem word_nothing (hr:Reader w R s k SH SG cap) (hk:k < s.size) (H:Errs w) (o:Option (Nat×Nat×Nat)) (h0:ltI (s[k].toNat:Int)=false) (h1:dgI (s[k].toNat:Int)=false) (h2:((s[k].toNat:Int)==64)=false) (HL:Hid (zaB (rest s k).data.toList=[]))
  (ho:o=none):
  Calls Tryz.prog 115 #[me R] w (Took s k o w):=by
 have HM:=hid (Mid.mk (Past.refl (w.alloc tok0)) (hr.al tok0) (H.on ((Past.refl w).alloc tok0)))
 have HK:=hid hk
 have hlt:=lt_of_block hr.blk
 have c2:=HM.out.rd.c2
 clear hr H
 unfold me
 subst ho
 go_enter Tryz.func115,Tryz.ntmps115
 go_wp2
 go_loopw [11] (fun i wr=>∃j:Nat,j≤4∧i=.int .i64 j∧Mid w wr R s k SH SG cap) (fun i _=>5 - (intOf i).toNat)
 case atStart=>exact⟨0,by omega,rfl,HM.out⟩
 case round =>
  clear c2
  obtain⟨j,hj,rfl,hmid⟩:=hrel
  have HMI:=hid hmid
  have hjc:j=0∨j=1∨j=2∨j=3∨j=4:=by omega
  have s0:=zab (k:=0) hmid.rd.shp rfl
  have s1:=zab (k:=1) hmid.rd.shp rfl
  have s2:=zab (k:=2) hmid.rd.shp rfl
  have s3:=zab (k:=3) hmid.rd.shp rfl
  have s4:=zab (k:=4) hmid.rd.shp rfl
  have s5:=zab (k:=5) hmid.rd.shp rfl
  have s6:=zab (k:=6) hmid.rd.shp rfl
  have s7:=zab (k:=7) hmid.rd.shp rfl
  have q0:=zab (k:=0) hmid.tok rfl
  have q1:=zab (k:=1) hmid.tok rfl
  have q2:=zab (k:=2) hmid.tok rfl
  have q3:=zab (k:=3) hmid.tok rfl
  have f0:=zac (k:=0) hmid.tok
  have f1:=zac (k:=1) hmid.tok
  have f2:=zac (k:=2) hmid.tok
  have f3:=zac (k:=3) hmid.tok
  have z0:=lt_of_block hmid.tok
  clear hmid hj
  unfold me at s0 s1 s2 s3 s4 s5 s6 s7
  rcases hjc with rfl | rfl | rfl | rfl | rfl
  ·go_wp2_with (go_at_call 163;refine(zbZ (HMI.out.rd.al _) HK.out).mono ?_;rintro e w' ⟨rfl,n,rfl⟩)
   go_roundw
   case rel=>exact⟨1,by omega,by first | rfl | go_num,HMI.out.step _ _⟩
   case measure=>simp[intOf]
  ·go_wp2_with (go_at_call 165;refine(zcW (HMI.out.rd.al _) HK.out).mono ?_;rintro e w' ⟨rfl,n,rfl⟩)
   go_roundw
   case rel=>exact⟨2,by omega,by first | rfl | go_num,HMI.out.step _ _⟩
   case measure=>simp[intOf]
  ·go_wp2_with (go_at_call 167;refine(atTag_any (HMI.out.rd.al _) HK.out).mono ?_;rintro e w' ⟨rfl,n,rfl⟩)
   go_roundw
   case rel=>exact⟨3,by omega,by first | rfl | go_num,HMI.out.step _ _⟩
   case measure=>simp[intOf]
  ·go_wp2_with (go_at_call 169;refine(atSign_no (HMI.out.rd.al _) (Nat.le_of_lt HK.out) HL.out).mono ?_;rintro e w' ⟨rfl,n,rfl⟩)
   go_roundw
   case rel=>exact⟨4,by omega,by first | rfl | go_num,HMI.out.step _ _⟩
   case measure=>simp[intOf]
  ·go_wp2
   exact bodyPost_ret (v:=(.tuple #[zb8,.bool false])) (by simp[results,Tryz.results115,zb8,go_sem,q0,q1,q2,q3]) rfl ⟨by first | exact HMI.out.below | exact set4 HMI.out.below _ _ _ _,rfl⟩
end
end Go.Proofs.YtljbbhhiiiepcaaGreatDoor.Lx
namespace Go.Proofs.YtljbbhhiiiepcaaGreatDoor.Lx
open Go Go.RowKit
open Go.Lib (hid)
theorem zcZ {c:UInt8} {r:List UInt8} (h:isLt c=true):za6 (c :: r)=if zbn ((c :: r).takeWhile isPt) then some (5,((c :: r).takeWhile isPt).length,0) else if 24 < ((c :: r).takeWhile isPt).length then none else some (1,((c :: r).takeWhile isPt).length,0):=by
 unfold za6;simp only[h,if_true]
theorem zdj {c:UInt8} {r:List UInt8} (h:isLt c=false) (h1:isDg c=true):za6 (c :: r)=(zbC 9223372036854775808 ((c :: r).takeWhile isDg)).map fun n=>(2,((c :: r).takeWhile isDg).length,n):=by
 unfold za6;simp only[h,h1,if_true,Bool.false_eq_true,if_false]
theorem wordOf_tag {c:UInt8} {r:List UInt8} (h:isLt c=false) (h1:isDg c=false) (h2:(c.toNat==64)=true):za6 (c :: r)=(zbC 1000000 (r.takeWhile isDg)).map fun n=>(3,1+(r.takeWhile isDg).length,n):=by
 unfold za6;simp only[h,h1,h2,if_true,Bool.false_eq_true,if_false]
theorem zcs {c:UInt8} {r:List UInt8} (h:isLt c=false) (h1:isDg c=false) (h2:(c.toNat==64)=false):za6 (c :: r)=if zaB (c :: r)=[] then none else some (4,(zaB (c :: r)).length,0):=by
 unfold za6;simp only[h,h1,h2,Bool.false_eq_true,if_false]
section
variable {w:World} {R:Nat} {s:ByteArray} {k:Nat} {SH SG cap:Nat}
theorem za3 (hr:Reader w R s k SH SG cap) (hk:k < s.size) (hz:s.size≤281474976710656) (H:Errs w):
  Calls Tryz.prog 115 #[me R] w (Took s k (za6 (rest s k).data.toList) w):=by
 have e:=rest_cons hk
 have hk':k≤s.size:=Nat.le_of_lt hk
 cases h0:isLt s[k] with
 | true =>
  refine word_letter hr hk H _ (by rw[ltI_nat];exact h0) (fun w' h1 h2=>?_)
  rw[e,zcZ h0,←e]
  exact takeName_any h1 hk' (by omega)
 | false =>
  have g0:ltI (s[k].toNat:Int)=false:=by rw[ltI_nat];exact h0
  cases h1:isDg s[k] with
  | true =>
   refine word_digit hr hk H _ g0 (by rw[zdR];exact h1) (fun w' j1 j2=>?_)
   rw[e,zdj h0 h1,←e]
   exact takeNumber_any j1 hk' hz j2
  | false =>
   have g1:dgI (s[k].toNat:Int)=false:=by rw[zdR];exact h1
   have ec:((s[k].toNat:Int)==64)=(s[k].toNat==64):=zbQ _ 64
   cases h2:(s[k].toNat==64) with
   | true =>
    refine word_tag hr hk H _ g0 g1 (by rw[ec];exact h2) (fun w' j1 j2=>?_)
    rw[e,wordOf_tag h0 h1 h2]
    exact takeTag_any j1 hk hz j2
   | false =>
    have g2:((s[k].toNat:Int)==64)=false:=by rw[ec];exact h2
    by_cases h3:zaB (rest s k).data.toList=[]
    ·refine word_nothing hr hk H _ g0 g1 g2 (hid h3) ?_
     rw[e,zcs h0 h1 h2,←e,if_pos h3]
    ·refine word_sign hr hk H _ g0 g1 g2 (hid h3) (fun w' j1 j2=>?_)
     rw[e,zcs h0 h1 h2,←e,if_neg h3]
     exact takeSign_any j1 hk'
theorem zdM (hr:Reader w R s k SH SG cap) (hk:k≤s.size) (hs:s.size≤9223372036854775807):
  Calls Tryz.prog 113 #[me R] w fun e w'=>e=.returned (.tuple #[])∧w.grownBy w' (some R)∧Reader w' R s ((k+tw isSp (rest s k):Nat):Int) SH SG cap:=
 (passSpace_any hr hk hs).mono fun e w' ⟨he,n,hw⟩=>⟨he,by
  subst hw
  refine⟨⟨rfl,rfl,rfl,by simp[World.setCell],fun b hb hne=>Below.heap_setCell _ _ _ _ (fun e=>hne (by rw[e]))⟩,?_⟩
  exact(hr.set _).drewN n⟩
theorem pass_step (kd:Int) (t:ByteArray) (n at':Int) (hr:Reader w R s k SH SG cap) (hk:k+t.size≤9223372036854775807):
  Calls Tryz.prog 116 #[me R,.agg #[.int .i64 kd,.string t,.int .u64 n,.int .i64 at']] w fun e w'=>e=.returned (.tuple #[])∧w.grownBy w' (some R)∧Reader w' R s ((k+t.size:Nat):Int) SH SG cap:=
 (pass_any kd t n at' hr hk).mono fun e w' ⟨he,o,n,hw⟩=>⟨he,by
  subst hw
  have hlt:=lt_of_block hr.blk
  refine⟨⟨rfl,rfl,rfl,by simp[World.setCell],fun b hb hne=>(Below.heap_alloc _ _ _ (by simpa[World.setCell] using hb)).trans (Below.heap_setCell _ _ _ _ (fun e=>hne (by rw[e])))⟩,?_⟩
  exact((hr.set _).al o).drewN n⟩
theorem ended_no (hr:Reader w R s k SH SG cap) (hk:k < s.size):
  Calls Tryz.prog 114 #[me R] w fun e w'=>e=.returned (.bool false)∧Below w.heap.size w w':=
 (zdg hr).mono fun e w' ⟨he,n,hw⟩=>⟨by rw[he,show((k:Int)==s.size)=false by simp;omega],by subst hw;exact zcY w n⟩
theorem ended_yes (hr:Reader w R s s.size SH SG cap):
  Calls Tryz.prog 114 #[me R] w fun e w'=>e=.returned (.bool true)∧Below w.heap.size w w':=
 (zdg hr).mono fun e w' ⟨he,n,hw⟩=>⟨by rw[he];simp,by subst hw;exact zcY w n⟩
end
def bsOf (l:List UInt8):ByteArray:=⟨l.toArray⟩
def zd4 (t:Tok):List Value:=[.int .i64 t.kind,.string (bsOf t.text),.int .u64 t.n,.int .i64 t.at']
def toksV (ts:List Tok):List Value:=ts.flatMap zd4
theorem toksV_snoc (ts:List Tok) (t:Tok):toksV (ts++[t])=toksV ts++zd4 t:=by simp[toksV]
structure St (w wr:World) (B R:Nat) (s:ByteArray) (p SH SG cap:Nat) (v:Value) (ts:List Tok):Prop where
 past:Past w wr
 rd:Reader wr R s p SH SG cap
 own:wr.ownsRow B 175 4 v ts.length (toksV ts)
 bR:w.heap.size≤R
 bB:R < B∧SH < B∧SG < B∧B≤wr.heap.size
section
variable {w wr w2:World} {B R p SH SG cap:Nat} {s:ByteArray} {v:Value} {ts:List Tok}
theorem grown_of_below {a b:World} (h:Below a.heap.size a b) (row:Option Nat):a.grownBy b row:=⟨h.os,h.tape,h.output,h.size,fun k hk _=>h.block k hk⟩
theorem St.on (h:St w wr B R s p SH SG cap v ts) (hb:Below wr.heap.size wr w2):St w w2 B R s p SH SG cap v ts:=
 ⟨h.past.on hb,h.rd.on hb,h.own.kept (grown_of_below hb none) (by cases v.ownBlock<;>simp),h.bR,h.bB.1,h.bB.2.1,h.bB.2.2.1,Nat.le_trans h.bB.2.2.2 hb.size⟩
theorem St.ne (h:St w wr B R s p SH SG cap v ts):∀k,v.ownBlock=some k→B≤k:=fun k hk=>(h.own.lt k hk).1
theorem St.moved (h:St w wr B R s p SH SG cap v ts) (hg:wr.grownBy w2 (some R)) {q:Nat} (hr:Reader w2 R s q SH SG cap):St w w2 B R s q SH SG cap v ts:=
 ⟨h.past.grown hg h.past.size (fun k hk=>by cases hk;exact h.bR),hr,h.own.kept hg (by
  rcases e:v.ownBlock with _ | k
  ·exact .inl rfl
  ·have:=h.ne k e
   have:=h.bB.1
   exact .inr (by simp;omega)),h.bR,h.bB.1,h.bB.2.1,h.bB.2.2.1,Nat.le_trans h.bB.2.2.2 hg.size⟩
theorem Reader.grown {row:Option Nat} (h:Reader wr R s p SH SG cap) (hg:wr.grownBy w2 row) (h1:some R≠row) (h2:some SH≠row) (h3:some SG≠row):Reader w2 R s p SH SG cap:=
 ⟨(hg.block _ (lt_of_block h.blk) h1).trans h.blk,(hg.block _ (lt_of_block h.shp) h2).trans h.shp,fun k hk=>(World.cell?_of_block (hg.block _ h.lt h3)).trans (h.sgn k hk),h.ne1,h.ne2,Nat.lt_of_lt_of_le h.lt hg.size⟩
theorem St.app (h:St w wr B R s p SH SG cap v ts) {v':Value} {t:Tok} (hg:wr.grownBy w2 v.ownBlock) (ho:w2.ownsRow B 175 4 v' (ts.length+1) (toksV ts++zd4 t)):St w w2 B R s p SH SG cap v' (ts++[t]):=
 ⟨h.past.grown hg h.past.size (fun k hk=>by have:=h.ne k hk;have:=h.bB.1;have:=h.bR;omega),
  h.rd.grown hg (fun e=>by have:=h.ne _ e.symm;have:=h.bB.1;omega) (fun e=>by have:=h.ne _ e.symm;have:=h.bB.2.1;omega) (fun e=>by have:=h.ne _ e.symm;have:=h.bB.2.2.1;omega),
  by rw[toksV_snoc,List.length_append];exact ho,h.bR,h.bB.1,h.bB.2.1,h.bB.2.2.1,Nat.le_trans h.bB.2.2.2 hg.size⟩
end
def Inv (s:ByteArray) (p:Nat) (ts:List Tok):Prop:=
 p≤s.size∧ts.length≤p∧(∀c,(rest s p).data.toList.head?=some c→isSp c=false)∧lexP 0 s.data.toList=((lexP p (rest s p).data.toList).1.map (ts++·),(lexP p (rest s p).data.toList).2)
theorem skip_to (s:ByteArray) (p:Nat):lexP p (rest s p).data.toList=lexP (p+tw isSp (rest s p)) (rest s (p+tw isSp (rest s p))).data.toList∧∀c,(rest s (p+tw isSp (rest s p))).data.toList.head?=some c→isSp c=false:=by
 have e:(rest s (p+tw isSp (rest s p))).data.toList=(rest s p).data.toList.drop ((rest s p).data.toList.takeWhile isSp).length:=by
  rw[zbF,zbF,List.drop_drop];rfl
 refine⟨?_,fun c hc=>?_⟩
 ·rw[e];exact lexP_skip p _
 ·rw[e] at hc;exact tw_drop _ c hc
theorem inv_start (s:ByteArray):Inv s (0+tw isSp (rest s 0)) []:=by
 have h:=skip_to s 0
 have hl:=tw_le isSp (rest s 0)
 have hz:=zbE s 0
 have e:lexP 0 s.data.toList=lexP 0 (rest s 0).data.toList:=rfl
 refine⟨by omega,by simp,h.2,?_⟩
 rw[e,h.1]
 cases lexP (0+tw isSp (rest s 0)) (rest s (0+tw isSp (rest s 0))).data.toList with
 | mk a b=>cases a<;>rfl
theorem inv_step {s:ByteArray} {p:Nat} {ts:List Tok} (h:Inv s p ts) {kd len n:Nat} (hw:za6 (rest s p).data.toList=some (kd,len,n)):
  Inv s (p+len+tw isSp (rest s (p+len))) (ts++[⟨kd,(rest s p).data.toList.take len,n,p⟩]):=by
 obtain⟨h1,h2,h3,h4⟩:=h
 have hlen:=zce hw
 have hz:=zbE s p
 rw[zd2] at hlen
 have hz2:=zbE s (p+len)
 have hl:=tw_le isSp (rest s (p+len))
 have hs:=skip_to s (p+len)
 cases e:(rest s p).data.toList with
 | nil=>rw[e] at hw;simp[za6] at hw
 | cons c r =>
  have hc:=h3 c (by rw[e];rfl)
  rw[e] at hw
  have hx:=zd1 p r hc hw
  rw[←e] at hx
  have ed:(rest s p).data.toList.drop len=(rest s (p+len)).data.toList:=by rw[zbF,zbF,List.drop_drop]
  rw[ed,hs.1] at hx
  refine⟨by omega,by rw[List.length_append,List.length_singleton];omega,hs.2,?_⟩
  rw[h4,hx,e]
  cases lexP (p+len+tw isSp (rest s (p+len))) (rest s (p+len+tw isSp (rest s (p+len)))).data.toList with
  | mk a b=>cases a<;>simp[pre]
theorem inv_end {s:ByteArray} {ts:List Tok} (h:Inv s s.size ts):lexP 0 s.data.toList=(some ts,s.size):=by
 obtain⟨_,_,_,h4⟩:=h
 have e:(rest s s.size).data.toList=[]:=by rw[zbF];exact List.drop_of_length_le (by simp)
 rw[h4,e,lexP_nil]
 simp
theorem inv_bad {s:ByteArray} {p:Nat} {ts:List Tok} (h:Inv s p ts) (hp:p < s.size) (hw:za6 (rest s p).data.toList=none):lexP 0 s.data.toList=(none,p):=by
 obtain⟨_,_,h3,h4⟩:=h
 have e:=rest_cons hp
 have hc:=h3 s[p] (by rw[e];rfl)
 rw[e] at hw
 rw[h4,e,lexP_bad p _ hc hw]
 rfl
def AllPost (s:ByteArray) (w:World) (e:Ending) (w':World):Prop:=
 Below w.heap.size w w'∧match lexP 0 s.data.toList with
 | (some ts,_)=>∃v,e=.returned (.tuple #[v,.int .i64 s.size,.int .i64 0])∧w'.ownsRow w.heap.size 175 4 v ts.length (toksV ts)
 | (none,p)=>e=.returned (.tuple #[.slice none 0 0,.int .i64 p,.int .i64 2])
theorem ownsRow_mono {w:World} {b b':Nat} {e:TypeId} {z n:Nat} {v:Value} {xs:List Value} (h:w.ownsRow b e z v n xs) (hb:b'≤b):w.ownsRow b' e z v n xs:=
 ⟨h.1,h.2.imp id fun⟨g,cap,cur,h1,h2,h3⟩=>⟨g,cap,cur,h1,Nat.le_trans hb h2,h3⟩⟩
section
variable {w wr:World} {B R p SH SG cap:Nat} {s:ByteArray} {v:Value} {ts:List Tok}
theorem all_ok (h:St w wr B R s s.size SH SG cap v ts) (hi:Inv s s.size ts):AllPost s w (.returned (.tuple #[v,.int .i64 s.size,.int .i64 0])) wr:=by
 unfold AllPost
 rw[inv_end hi]
 exact⟨h.past,v,rfl,ownsRow_mono h.own (by have:=h.bR;have:=h.bB.1;omega)⟩
theorem all_bad (h:Past w wr) (hi:Inv s p ts) (hp:p < s.size) (hw:za6 (rest s p).data.toList=none) (n:Nat):AllPost s w (.returned (.tuple #[.slice none 0 0,.int .i64 p,.int .i64 2])) (wr.drewN n):=by
 unfold AllPost
 rw[inv_bad hi hp hw]
 exact⟨h.on (zcY wr n),rfl⟩
end
def posOf (R:Nat) (w:World):Nat:=(intOf ((w.cell? ⟨R,1,none⟩).getD (.bool false))).toNat
theorem posOf_is {w:World} {R p SH SG cap:Nat} {s:ByteArray} (h:Reader w R s p SH SG cap):posOf R w=p:=by
 unfold posOf;rw[h.c1];simp[intOf]
theorem tInfoT:(Tryz.prog.info? 175).map (fun i=>(i.zero,i.size,i.bytes))=some (some (.agg #[.int .i64 0,.string ⟨#[]⟩,.int .u64 0,.int .i64 0]),4,40):=by kernel_rfl
theorem all_any (s:ByteArray) (hs:s.size≤8192) (w:World) (H:Errs w):
  Calls Tryz.prog 76 #[.string s] w (AllPost s w):=by
 obtain⟨i0,hi,hz0,hz1,hz2⟩:=info_parts tInfoT
 have HE:=hid H
 have hd:decide ((s.size:Int)≤8192)=true:=by simp;omega
 have HI:=hid (And.intro hi (And.intro hz0 (And.intro hz1 hz2)))
 clear H hi hz0 hz1 hz2
 go_enter Tryz.func76,Tryz.ntmps76
 go_wp2_with (first
  | (go_at_call 112;refine(newReader_any s w).mono ?_;rintro e w1 ⟨R,SH,SG,cap,rfl,hR,hrd,hb⟩;have HR:Hid (St w w1 w1.heap.size R s 0 SH SG cap (.slice none 0 0) []):=hid ⟨hb,hrd,World.ownsRow_nil _ _ _ _,hR,lt_of_block hrd.blk,lt_of_block hrd.shp,hrd.lt,Nat.le_refl _⟩;obtain⟨B,hB⟩:∃B,B=w1.heap.size:=⟨_,rfl⟩;rw[←hB] at HR;clear hrd hb hB;unfold me)
  | (go_at_call 113;refine(zdM HR.out.rd (Nat.zero_le _) (by omega)).mono ?_;rintro e w2 ⟨rfl,hg,hr⟩;have HS:=hid (HR.out.moved hg hr);clear hg hr))
 go_loopw [2] (fun v wr=>∃(p:Nat) (ts:List Tok),St w wr B R s p SH SG cap v ts∧Inv s p ts) (fun _ wr=>s.size - posOf R wr)
 case atStart=>exact⟨_,_,HS.out,inv_start s⟩
 case round =>
  clear HS
  obtain⟨p,ts,hst,hinv⟩:=hrel
  have HS:=hid hst
  have HV:=hid hinv
  clear hst hinv
  by_cases hlt:p < s.size
  ·cases hw:za6 (rest s p).data.toList with
   | none =>
    have HW:=hid hw
    clear hw
    go_wp2_with (first
     | (go_at_call 114;refine(ended_no HS.out.rd hlt).mono ?_;rintro e w3 ⟨rfl,hb⟩;have HS3:=hid (HS.out.on hb);clear hb)
     | (go_at_call 115;refine(zdi (by have h:=za3 HS3.out.rd hlt (by omega) (HE.out.on HS3.out.past);rw[HW.out] at h;exact h)).mono ?_;rintro e w4 ⟨rfl,hb⟩;have HS4:=hid (HS3.out.on hb);clear hb;have c1:=(HS4.out.on ((Below.refl _ _).alloc (Nat.le_refl _) tok0)).rd.c1))
    go_quiet (fail)
    go_wp2
    go_ret3
    exact all_bad (HS4.out.past.alloc _) HV.out hlt HW.out _
   | some x =>
    obtain⟨kd,len,u⟩:=x
    have hlen:=zce hw
    have hrz:=zbE s p
    rw[zd2] at hlen
    have hzT:(ByteArray.mk ((rest s p).data.toList.take len).toArray).size=len:=by
     show(List.toArray _).size=_
     rw[List.size_toArray,List.length_take,zd2];omega
    have HZ:=hid hzT
    have HP:Hid (p+len≤s.size):=hid (by omega)
    have HL:Hid (0 < len):=hid hlen.1
    have HW:=hid hw
    clear hw hlen hrz hzT
    obtain⟨T,hT⟩:∃T:ByteArray,T=ByteArray.mk ((rest s p).data.toList.take len).toArray:=⟨_,rfl⟩
    rw[←hT] at HZ
    have HT:=hid hT
    clear hT
    obtain⟨tk,htk⟩:∃tk:Tok,tk=⟨kd,(rest s p).data.toList.take len,u,p⟩:=⟨_,rfl⟩
    have HK:Hid (zd4 tk=[.int .i64 kd,.string T,.int .u64 u,.int .i64 p]):=hid (by rw[htk,HT.out];rfl)
    have HTK:=hid htk
    clear htk
    go_wp2_with (first
     | (go_at_call 114;refine(ended_no HS.out.rd hlt).mono ?_;rintro e w3 ⟨rfl,hb⟩;have HS3:=hid (HS.out.on hb);clear hb)
     | (go_at_call 115;refine(zdh (by have h:=za3 HS3.out.rd hlt (by omega) (HE.out.on HS3.out.past);rw[HW.out] at h;exact h)).mono ?_;rintro e w4 ⟨rfl,hb⟩;have HS4:=hid (HS3.out.on hb);clear hb;rw[←HT.out])
     | (at_builtin;refine wpList_append_own _ rfl _ _ 140 rfl B 175 i0 (.agg #[.int .i64 0,.string ⟨#[]⟩,.int .u64 0,.int .i64 0]) 4 40 Tryz.underlying140 HI.out.1 HI.out.2.1 HI.out.2.2.1 HI.out.2.2.2 rfl (by decide) _ _ _ rfl ((HS4.out.own.alloc _).alloc _) ⟨w4.heap.size+1,0,none⟩ 1 1 [.int .i64 kd,.string T,.int .u64 u,.int .i64 p] rfl rfl ?c1 ?c2 ?c3 ?c4 ?c5 ?_))
    case c1 =>
     intro j x hx
     rw[add_zero']
     exact zab (zao _ (by simp)) (by rw[←Array.getElem?_toList];exact hx)
    case c2 =>
     intro x hx
     simp only[List.mem_cons,List.not_mem_nil,or_false] at hx
     rcases hx with rfl | rfl | rfl | rfl<;>rfl
    case c3=>have:=HV.out.2.1;unfold maxLen;omega
    case c4=>have:=HV.out.2.1;omega
    case c5=>have:=HS4.out.bB.2.2.2;simp;omega
    intro v' w5 hown' hg _
    rw[←HK.out] at hown'
    have HS5:=hid (((HS4.out.on ((Below.refl _ _).alloc (Nat.le_refl _) _)).on ((Below.refl _ _).alloc (Nat.le_refl _) _)).app hg hown')
    have hq:w5.heap[w4.heap.size]?=some (.cells #[.int .i64 kd,.string T,.int .u64 u,.int .i64 p] 175 (0,0)):=
     (hg.block _ (by simp;omega) (fun e=>by have:=(HS4.out.own.lt _ e.symm).2;omega)).trans (zai _ (zaj w4 _))
    have q0:=zab (k:=0) hq rfl
    have q1:=zab (k:=1) hq rfl
    have q2:=zab (k:=2) hq rfl
    have q3:=zab (k:=3) hq rfl
    clear hown' hg hq
    go_wp2_with (first
     | (go_at_call 116;refine(pass_step _ _ _ _ HS5.out.rd (by rw[HZ.out];have:=HP.out;omega)).mono ?_;rintro e w6 ⟨rfl,hg,hr⟩;rw[HZ.out] at hr;have HS6:=hid (HS5.out.moved hg hr);clear hg hr)
     | (go_at_call 113;refine(zdM HS6.out.rd HP.out (by omega)).mono ?_;rintro e w7 ⟨rfl,hg,hr⟩;have HS7:=hid (HS6.out.moved hg hr);clear hg hr))
    go_roundw
    case rel=>exact⟨_,_,HS7.out,by rw[HTK.out];exact inv_step HV.out HW.out⟩
    case measure =>
     rw[posOf_is HS7.out.rd,posOf_is HS.out.rd]
     have:=HL.out
     omega
  ·obtain rfl:p=s.size:=by have:=HV.out.1;omega
   go_wp2_with (go_at_call 114;refine(ended_yes HS.out.rd).mono ?_;rintro e w3 ⟨rfl,hb⟩;have HS3:=hid (HS.out.on hb);clear hb)
   go_ret3
   exact all_ok HS3.out HV.out
end Go.Proofs.YtljbbhhiiiepcaaGreatDoor.Lx
