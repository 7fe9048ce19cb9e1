/- How long what the feed makes is put: right expressions and statements, and bounds of their texts. -/
import Derived.Test.YtbilfdapmbahgaaGreatDoorEPlace
import Derived.Test.YtbilfdapmbahgaaGreatDoorTRight2
import Derived.Test.YtbilfdapmbahgaaGreatDoorWUn
import Derived.Test.YtbilfdapmbahgaaGreatDoorTMade
import Derived.Deep.RegionHeld3
set_option linter.unusedSimpArgs false
set_option linter.unusedVariables false
set_option maxHeartbeats 8000000
set_option maxRecDepth 100000
namespace Go.Proofs.YtbilfdapmbahgaaGreatDoor.Ev
open Go Go.RowKit Go.Proofs.YtbilfdapmbahgaaGreatDoor
open Go.Lib (hid)
def zdl:Value:=.agg #[.func (.func 337) #[] #[],.func (.func 338) #[] #[],.func (.func 339) #[] #[],.func (.func 340) #[] #[],.func (.func 341) #[] #[]]
theorem ze3 (w:World):Calls Tryz.prog 321 #[] w fun e w'=>e=.returned zdl∧Below w.heap.size w w':=by
 go_enter Tryz.func321,Tryz.ntmps321
 go_wp2
 refine bodyPost_ret (v:=zdl) (by simp[results,Tryz.results321,zdl,go_sem]) rfl ⟨rfl,?_⟩
 repeat' (first | with_reducible exact Below.refl _ _ | with_reducible refine Below.alloc ?_ ?_ _ | with_reducible refine Below.setCell ?_ ?_ _ | (simp;done) | (simp;omega))
def Rk (w0:World) (E:Nat) (f:FuncId) (X:Value) (r:Int×Int):Prop:=
 ∀w,Past w0 w→Calls Tryz.prog f #[.pointer (some ⟨E,0,none⟩),X] w fun e w'=>e=.returned (.tuple #[.int .i64 r.1,.int .i64 r.2])∧Below w.heap.size w w'
theorem number_is {w0:World} {E:Nat} (k n:Int) (o s:ByteArray) (v:Value):Rk w0 E 337 (.agg #[.int .i64 k,.string o,.int .i64 n,.string s,v]) (n,0):=by
 intro w hp
 go_enter Tryz.func337,Tryz.ntmps337
 go_wp2
 go_ret2
 exact⟨rfl,(Below.refl _ _).alloc (Nat.le_refl _) _⟩
theorem variable_is {w0:World} {B E:Nat} {blk:Nat→Nat} {L:List PC} (hE:EnvIn B E blk L w0) (k n:Int) (o s:ByteArray) (hs:s.size≤maxLen) (v:Value):Rk w0 E 338 (.agg #[.int .i64 k,.string o,.int .i64 n,.string s,v]) (oneV (getV L s.data.toList false 0),0):=by
 intro w hp
 have HG:Hid (∀W,Past w0 W→Calls Tryz.prog 55 #[.pointer (some ⟨E,0,none⟩),.string s] W fun e w'=>e=.returned (zeA (getV L s.data.toList false 0))∧w'=W):=hid fun W hW=>get_any (hE.past hW) s hs
 have HP:=hid hp
 clear hE hp hs
 generalize getV L s.data.toList false 0=g at HG ⊢
 cases g
 all_goals
  unfold zeA at HG
  go_enter Tryz.func338,Tryz.ntmps338
  go_wp2_with (go_at_call 55;refine(HG.out _ (HP.out.alloc _)).mono ?_;rintro e w1 ⟨rfl,rfl⟩)
  go_ret2
  exact⟨rfl,(Below.refl _ _).alloc (Nat.le_refl _) _⟩
theorem index_is {w0:World} {B E:Nat} {blk:Nat→Nat} {L:List PC} (hE:EnvIn B E blk L w0) {k1:Int} {o1:ByteArray} {n1:Int} {m1:ByteArray} {v1:Value} {r:Int×Int} (H1:Rk w0 E 278 (.agg #[.int .i64 k1,.string o1,.int .i64 n1,.string m1,v1]) r)
  (kb ko cap:Nat) (hr:RowAt w0 0 (some ⟨kb,ko,none⟩) 0 5 #[.int .i64 k1,.string o1,.int .i64 n1,.string m1,v1]) (n:Int) (o s:ByteArray) (hs:s.size≤maxLen):
  Rk w0 E 339 (.agg #[.int .i64 2,.string o,.int .i64 n,.string s,.slice (some ⟨kb,ko,none⟩) 1 cap]) (idxR L s.data.toList r):=by
 intro w hp
 obtain⟨r0,r1,r2,r3,r4,hkb⟩:=zaF hr (hp.alloc (.cells #[.int .i64 2,.string o,.int .i64 n,.string s,.slice (some ⟨kb,ko,none⟩) 1 cap] 86))
 simp only[Nat.zero_mul,Nat.add_zero] at r0 r1 r2 r3 r4
 obtain⟨a,t⟩:=r
 have HG:Hid (∀W,Past w0 W→Calls Tryz.prog 349 #[.pointer (some ⟨E,0,none⟩),.string s,.int .i64 a] W fun e w'=>e=.returned (zeA (getV L s.data.toList true a))∧w'=W):=hid fun W hW=>at_any (hE.past hW) s hs a
 have HP:=hid hp
 have H1:=hid H1
 clear hE hp hs hr
 by_cases ht:t=0
 ·subst ht
  have e0:((0:Int) != 0)=false:=rfl
  have HR:Hid (idxR L s.data.toList (a,0)=valR (getV L s.data.toList true a)):=hid (by unfold idxR;simp only[if_pos])
  generalize getV L s.data.toList true a=g at HG HR
  cases g
  all_goals
   unfold zeA at HG
   go_enter Tryz.func339,Tryz.ntmps339
   go_wp2_with (first
    | (go_at_call 349;refine(HG.out _ ((HP.out.alloc _).on HB1.out)).mono ?_;rintro e w2 ⟨rfl,rfl⟩)
    | (go_at_call 278;refine(H1.out _ (HP.out.alloc _)).mono ?_;rintro e w1 ⟨rfl,hb⟩;obtain⟨b0,b1,b2,b3,b4⟩:=box5 (zah w _) hb;have HB1:=hid hb;clear hb))
   go_ret2
   exact⟨by rw[HR.out];rfl,zae ((Below.refl _ _).alloc (Nat.le_refl _) _) HB1.out⟩
 ·have e0:(t != 0)=true:=by simpa using ht
  have HT:Hid (idxR L s.data.toList (a,t)=((0:Int),t)):=hid (by unfold idxR;simp only[if_neg ht])
  clear ht HG
  go_enter Tryz.func339,Tryz.ntmps339
  go_wp2_with (go_at_call 278;refine(H1.out _ (HP.out.alloc _)).mono ?_;rintro e w1 ⟨rfl,hb⟩;obtain⟨b0,b1,b2,b3,b4⟩:=box5 (zah w _) hb;have HB1:=hid hb;clear hb)
  go_ret2
  exact⟨by rw[HT.out];rfl,zae ((Below.refl _ _).alloc (Nat.le_refl _) _) HB1.out⟩
theorem unary_is {w0:World} {E:Nat} {k1:Int} {o1:ByteArray} {n1:Int} {m1:ByteArray} {v1:Value} {r:Int×Int} (H1:Rk w0 E 278 (.agg #[.int .i64 k1,.string o1,.int .i64 n1,.string m1,v1]) r)
  (kb ko cap:Nat) (hr:RowAt w0 0 (some ⟨kb,ko,none⟩) 0 5 #[.int .i64 k1,.string o1,.int .i64 n1,.string m1,v1]) (hin:in64 r.1) (n:Int) (o s:ByteArray):
  Rk w0 E 340 (.agg #[.int .i64 3,.string o,.int .i64 n,.string s,.slice (some ⟨kb,ko,none⟩) 1 cap]) (unR o r):=by
 intro w hp
 obtain⟨r0,r1,r2,r3,r4,hkb⟩:=zaF hr (hp.alloc (.cells #[.int .i64 3,.string o,.int .i64 n,.string s,.slice (some ⟨kb,ko,none⟩) 1 cap] 86))
 simp only[Nat.zero_mul,Nat.add_zero] at r0 r1 r2 r3 r4
 obtain⟨a,t⟩:=r
 have HG:Hid (∀W,Calls Tryz.prog 208 #[.string o,.int .i64 a] W fun e w'=>e=.returned (.tuple #[.int .i64 (unV o a),.bool (unB o)])∧Below W.heap.size W w'):=hid fun W=>un_any o a hin W
 have HP:=hid hp
 have H1:=hid H1
 clear hp hr hin
 by_cases ht:t=0
 ·subst ht
  have e0:((0:Int) != 0)=false:=rfl
  have HR:Hid (unR o (a,0)=(unV o a,0)):=hid (by unfold unR;simp only[if_pos])
  generalize unV o a=g at HG HR
  go_enter Tryz.func340,Tryz.ntmps340
  go_wp2_with (first
   | (go_at_call 208;refine(HG.out _).mono ?_;rintro e w2 ⟨rfl,hb⟩;have HB2:=hid hb;clear hb)
   | (go_at_call 278;refine(H1.out _ (HP.out.alloc _)).mono ?_;rintro e w1 ⟨rfl,hb⟩;obtain⟨b0,b1,b2,b3,b4⟩:=box5 (zah w _) hb;have HB1:=hid hb;clear hb))
  go_ret2
  exact⟨by rw[HR.out];rfl,zae (zae ((Below.refl _ _).alloc (Nat.le_refl _) _) HB1.out) HB2.out⟩
 ·have e0:(t != 0)=true:=by simpa using ht
  have HT:Hid (unR o (a,t)=((0:Int),t)):=hid (by unfold unR;simp only[if_neg ht])
  clear ht HG
  go_enter Tryz.func340,Tryz.ntmps340
  go_wp2_with (go_at_call 278;refine(H1.out _ (HP.out.alloc _)).mono ?_;rintro e w1 ⟨rfl,hb⟩;obtain⟨b0,b1,b2,b3,b4⟩:=box5 (zah w _) hb;have HB1:=hid hb;clear hb)
  go_ret2
  exact⟨by rw[HT.out];rfl,zae ((Below.refl _ _).alloc (Nat.le_refl _) _) HB1.out⟩
theorem beq_dec (l m:List UInt8):(l==m)=decide (l=m):=by by_cases h:l=m<;>simp[h]
theorem alone_any (o:ByteArray) (a:Int) (w:World):Calls Tryz.prog 350 #[.string o,.int .i64 a] w fun e w'=>e=.returned (zeA (zcn o a))∧w'=w:=by
 have q1:(o.toList==[38,38])=decide (o.data.toList=[38,38]):=by rw[ByteArray.toList_eq];exact beq_dec _ _
 have q2:(o.toList==[124,124])=decide (o.data.toList=[124,124]):=by rw[ByteArray.toList_eq];exact beq_dec _ _
 by_cases h1:o.data.toList=[38,38]
 ·have n2:¬o.data.toList=[124,124]:=by rw[h1];decide
  rw[decide_eq_true h1] at q1
  rw[decide_eq_false n2] at q2
  by_cases ha:a=0
  ·have HR:Hid (zcn o a=some 0):=hid (by unfold zcn;rw[if_pos ⟨h1,ha⟩])
   have e0:(a==0)=true:=by simpa using ha
   have e1:(a != 0)=false:=by simpa using ha
   clear h1 n2 ha
   go_enter Tryz.func350,Tryz.ntmps350
   go_wp2
   go_ret2
   exact⟨by rw[HR.out];rfl,rfl⟩
  ·have HR:Hid (zcn o a=none):=hid (by unfold zcn;rw[if_neg (fun h=>ha h.2),if_neg (fun h=>n2 h.1)])
   have e0:(a==0)=false:=by simpa using ha
   have e1:(a != 0)=true:=by simpa using ha
   clear h1 n2 ha
   go_enter Tryz.func350,Tryz.ntmps350
   go_wp2
   go_ret2
   exact⟨by rw[HR.out];rfl,rfl⟩
 ·rw[decide_eq_false h1] at q1
  by_cases h2:o.data.toList=[124,124]
  ·rw[decide_eq_true h2] at q2
   by_cases ha:a=0
   ·have HR:Hid (zcn o a=none):=hid (by unfold zcn;rw[if_neg (fun h=>h1 h.1),if_neg (fun h=>h.2 ha)])
    have e0:(a==0)=true:=by simpa using ha
    have e1:(a != 0)=false:=by simpa using ha
    clear h1 h2 ha
    go_enter Tryz.func350,Tryz.ntmps350
    go_wp2
    go_ret2
    exact⟨by rw[HR.out];rfl,rfl⟩
   ·have HR:Hid (zcn o a=some 1):=hid (by unfold zcn;rw[if_neg (fun h=>h1 h.1),if_pos ⟨h2,ha⟩])
    have e0:(a==0)=false:=by simpa using ha
    have e1:(a != 0)=true:=by simpa using ha
    clear h1 h2 ha
    go_enter Tryz.func350,Tryz.ntmps350
    go_wp2
    go_ret2
    exact⟨by rw[HR.out];rfl,rfl⟩
  ·rw[decide_eq_false h2] at q2
   have HR:Hid (zcn o a=none):=hid (by unfold zcn;rw[if_neg (fun h=>h1 h.1),if_neg (fun h=>h2 h.1)])
   clear h1 h2
   go_enter Tryz.func350,Tryz.ntmps350
   go_wp2
   go_ret2
   exact⟨by rw[HR.out];rfl,rfl⟩
theorem binary_is {w0:World} {E:Nat} {k1:Int} {o1:ByteArray} {n1:Int} {m1:ByteArray} {v1:Value} {r:Int×Int} (H1:Rk w0 E 278 (.agg #[.int .i64 k1,.string o1,.int .i64 n1,.string m1,v1]) r)
  (kb ko cap:Nat) (hr:RowAt w0 0 (some ⟨kb,ko,none⟩) 0 5 #[.int .i64 k1,.string o1,.int .i64 n1,.string m1,v1]) {k2:Int} {o2:ByteArray} {n2:Int} {m2:ByteArray} {v2:Value} {q:Int×Int} (H2:Rk w0 E 278 (.agg #[.int .i64 k2,.string o2,.int .i64 n2,.string m2,v2]) q)
  (hr2:RowAt w0 0 (some ⟨kb,ko,none⟩) 1 5 #[.int .i64 k2,.string o2,.int .i64 n2,.string m2,v2]) (n:Int) (o s:ByteArray):
  Rk w0 E 341 (.agg #[.int .i64 4,.string o,.int .i64 n,.string s,.slice (some ⟨kb,ko,none⟩) 2 cap]) (binR o r q):=by
 intro w hp
 obtain⟨r0,r1,r2,r3,r4,hkb⟩:=zaF hr (hp.alloc (.cells #[.int .i64 4,.string o,.int .i64 n,.string s,.slice (some ⟨kb,ko,none⟩) 2 cap] 86))
 simp only[Nat.zero_mul,Nat.add_zero] at r0 r1 r2 r3 r4
 obtain⟨a,t⟩:=r
 obtain⟨b,u⟩:=q
 have HA:Hid (∀W,Calls Tryz.prog 350 #[.string o,.int .i64 a] W fun e w'=>e=.returned (zeA (zcn o a))∧w'=W):=hid fun W=>alone_any o a W
 have HBN:Hid (∀W,Calls Tryz.prog 351 #[.string o,.int .i64 a,.int .i64 b] W fun e w'=>e=.returned (.tuple #[.int .i64 (binV o a b),.int .i64 (binT o b)])∧Below W.heap.size W w'):=hid fun W=>bin_any o a b W
 have HP:=hid hp
 have H1:=hid H1
 have H2:=hid H2
 have HR2:=hid hr2
 clear hp hr hr2
 by_cases ht:t=0
 ·subst ht
  have e0:((0:Int) != 0)=false:=rfl
  obtain⟨g,hg⟩:∃g,zcn o a=g:=⟨_,rfl⟩
  rw[hg] at HA
  cases g with
  | some x =>
   have HR:Hid (binR o (a,0) (b,u)=(x,0)):=hid (by unfold binR;simp only[if_pos];rw[hg])
   unfold zeA at HA
   clear hg HBN H2
   go_enter Tryz.func341,Tryz.ntmps341
   go_wp2_with (first
    | (go_at_call 350;refine(HA.out _).mono ?_;rintro e w2 ⟨rfl,rfl⟩)
    | (go_at_call 278;refine(H1.out _ (HP.out.alloc _)).mono ?_;rintro e w1 ⟨rfl,hb⟩;obtain⟨b0,b1,b2,b3,b4⟩:=box5 (zah w _) hb;obtain⟨s0,s1,s2,s3,s4,-⟩:=zaF HR2.out ((HP.out.alloc _).on hb);have HB1:=hid hb;clear hb))
   go_ret2
   exact⟨by rw[HR.out];rfl,zae ((Below.refl _ _).alloc (Nat.le_refl _) _) HB1.out⟩
  | none =>
   unfold zeA at HA
   by_cases hu:u=0
   ·subst hu
    have HR:Hid (binR o (a,0) (b,0)=(binV o a b,binT o b)):=hid (by unfold binR;simp only[if_pos];rw[hg])
    generalize binV o a b=bv at HBN HR
    generalize binT o b=bt at HBN HR
    clear hg
    go_enter Tryz.func341,Tryz.ntmps341
    go_wp2_with (first
     | (go_at_call 351;refine(HBN.out _).mono ?_;rintro e w4 ⟨rfl,hb⟩;have HB4:=hid hb;clear hb)
     | (go_at_call 350;refine(HA.out _).mono ?_;rintro e w2 ⟨rfl,rfl⟩)
     | (go_at_call 278;refine(H2.out _ ((HP.out.alloc _).on HB1.out)).mono ?_;rintro e w3 ⟨rfl,hb⟩;obtain⟨b0,b1,b2,b3,b4⟩:=box5 (zah w _) (zae HB1.out hb);have HB3:=hid hb;clear hb)
     | (go_at_call 278;refine(H1.out _ (HP.out.alloc _)).mono ?_;rintro e w1 ⟨rfl,hb⟩;obtain⟨b0,b1,b2,b3,b4⟩:=box5 (zah w _) hb;obtain⟨s0,s1,s2,s3,s4,-⟩:=zaF HR2.out ((HP.out.alloc _).on hb);have HB1:=hid hb;clear hb))
    go_ret2
    exact⟨by rw[HR.out];rfl,zae (zae (zae ((Below.refl _ _).alloc (Nat.le_refl _) _) HB1.out) HB3.out) HB4.out⟩
   ·have e1:(u != 0)=true:=by simpa using hu
    have HR:Hid (binR o (a,0) (b,u)=(0,u)):=hid (by unfold binR;simp only[if_pos];rw[hg];simp only[if_neg hu])
    clear hg hu HBN
    go_enter Tryz.func341,Tryz.ntmps341
    go_wp2_with (first
     | (go_at_call 350;refine(HA.out _).mono ?_;rintro e w2 ⟨rfl,rfl⟩)
     | (go_at_call 278;refine(H2.out _ ((HP.out.alloc _).on HB1.out)).mono ?_;rintro e w3 ⟨rfl,hb⟩;obtain⟨b0,b1,b2,b3,b4⟩:=box5 (zah w _) (zae HB1.out hb);have HB3:=hid hb;clear hb)
     | (go_at_call 278;refine(H1.out _ (HP.out.alloc _)).mono ?_;rintro e w1 ⟨rfl,hb⟩;obtain⟨b0,b1,b2,b3,b4⟩:=box5 (zah w _) hb;obtain⟨s0,s1,s2,s3,s4,-⟩:=zaF HR2.out ((HP.out.alloc _).on hb);have HB1:=hid hb;clear hb))
    go_ret2
    exact⟨by rw[HR.out];rfl,zae (zae ((Below.refl _ _).alloc (Nat.le_refl _) _) HB1.out) HB3.out⟩
 ·have e0:(t != 0)=true:=by simpa using ht
  have HR:Hid (binR o (a,t) (b,u)=(0,t)):=hid (by unfold binR;simp only[if_neg ht])
  clear ht HA HBN H2
  go_enter Tryz.func341,Tryz.ntmps341
  go_wp2_with (go_at_call 278;refine(H1.out _ (HP.out.alloc _)).mono ?_;rintro e w1 ⟨rfl,hb⟩;obtain⟨b0,b1,b2,b3,b4⟩:=box5 (zah w _) hb;obtain⟨s0,s1,s2,s3,s4,-⟩:=zaF HR2.out ((HP.out.alloc _).on hb);have HB1:=hid hb;clear hb)
  go_ret2
  exact⟨by rw[HR.out];rfl,zae ((Below.refl _ _).alloc (Nat.le_refl _) _) HB1.out⟩
theorem ways_at0 (w:World):(Instr.index 343 zdl (.int .i64 0)).run Tryz.prog w=.ok (.func (.func 337) #[] #[]) w:=by kernel_rfl
theorem ways_at1 (w:World):(Instr.index 343 zdl (.int .i64 1)).run Tryz.prog w=.ok (.func (.func 338) #[] #[]) w:=by kernel_rfl
theorem ways_at2 (w:World):(Instr.index 343 zdl (.int .i64 2)).run Tryz.prog w=.ok (.func (.func 339) #[] #[]) w:=by kernel_rfl
theorem ways_at3 (w:World):(Instr.index 343 zdl (.int .i64 3)).run Tryz.prog w=.ok (.func (.func 340) #[] #[]) w:=by kernel_rfl
theorem ways_at4 (w:World):(Instr.index 343 zdl (.int .i64 4)).run Tryz.prog w=.ok (.func (.func 341) #[] #[]) w:=by kernel_rfl
theorem reckon_number {w0:World} {E:Nat} {o:ByteArray} {n:Int} {s:ByteArray} {v:Value} {r:Int×Int} (H:Rk w0 E 337 (.agg #[.int .i64 0,.string o,.int .i64 n,.string s,v]) r):
  Rk w0 E 278 (.agg #[.int .i64 0,.string o,.int .i64 n,.string s,v]) r:=by
 intro w hp
 have HW:Hid (∀W,Calls Tryz.prog 321 #[] W fun e w'=>e=.returned zdl∧Below W.heap.size W w'):=hid ze3
 have HX:Hid (∀W,Past (w.alloc (.cells #[.int .i64 0,.string o,.int .i64 n,.string s,v] 86)) W→Calls Tryz.prog 337 #[.pointer (some ⟨E,0,none⟩),.agg #[.int .i64 0,.string o,.int .i64 n,.string s,v]] W fun e w'=>e=.returned (.tuple #[.int .i64 r.1,.int .i64 r.2])∧Below W.heap.size W w'):=hid fun W hW=>H W ((hp.alloc _).on hW)
 have hi:=ways_at0
 have HC:Hid (∀W,Past (w.alloc (.cells #[.int .i64 0,.string o,.int .i64 n,.string s,v] 86)) W→W.cell? ⟨w.heap.size,0,none⟩=some (.int .i64 0)∧W.cell? ⟨w.heap.size,1,none⟩=some (.string o)∧W.cell? ⟨w.heap.size,2,none⟩=some (.int .i64 n)∧W.cell? ⟨w.heap.size,3,none⟩=some (.string s)∧W.cell? ⟨w.heap.size,4,none⟩=some v):=hid fun W hW=>box5 (zah w _) hW
 have hq:Hid (Past (w.alloc (.cells #[.int .i64 0,.string o,.int .i64 n,.string s,v] 86)) (w.alloc (.cells #[.int .i64 0,.string o,.int .i64 n,.string s,v] 86)).drew):=hid (Below.refl _ _).drew
 clear hp H
 unfold zdl at hi HW
 go_enter Tryz.func278,Tryz.ntmps278
 go_wp2
 go_region_held3 (fun W=>W.cell? ⟨w.heap.size,0,none⟩=some (.int .i64 0)∧W.cell? ⟨w.heap.size,1,none⟩=some (.string o)∧W.cell? ⟨w.heap.size,2,none⟩=some (.int .i64 n)∧W.cell? ⟨w.heap.size,3,none⟩=some (.string s)∧W.cell? ⟨w.heap.size,4,none⟩=some v) (with_reducible exact HC.out _ hq.out)
  (first
  | (go_at_call 337;((with_reducible refine(HX.out _ hq.out).mono ?_);rintro e w2 ⟨rfl,hb⟩);have hz:=hid (hq.out.on hb);clear hq hb;have hq:=hz;clear hz)
  | (go_at_call 321;((with_reducible refine(HW.out _).mono ?_);rintro e w1 ⟨rfl,hb⟩);have hz:=hid (hq.out.on hb);clear hq hb;have hq:=hz;clear hz))
 go_wp2
 go_ret2
 exact⟨rfl,zae ((Below.refl _ _).alloc (Nat.le_refl _) _) hq.out⟩
theorem reckon_variable {w0:World} {E:Nat} {o:ByteArray} {n:Int} {s:ByteArray} {v:Value} {r:Int×Int} (H:Rk w0 E 338 (.agg #[.int .i64 1,.string o,.int .i64 n,.string s,v]) r):
  Rk w0 E 278 (.agg #[.int .i64 1,.string o,.int .i64 n,.string s,v]) r:=by
 intro w hp
 have HW:Hid (∀W,Calls Tryz.prog 321 #[] W fun e w'=>e=.returned zdl∧Below W.heap.size W w'):=hid ze3
 have HX:Hid (∀W,Past (w.alloc (.cells #[.int .i64 1,.string o,.int .i64 n,.string s,v] 86)) W→Calls Tryz.prog 338 #[.pointer (some ⟨E,0,none⟩),.agg #[.int .i64 1,.string o,.int .i64 n,.string s,v]] W fun e w'=>e=.returned (.tuple #[.int .i64 r.1,.int .i64 r.2])∧Below W.heap.size W w'):=hid fun W hW=>H W ((hp.alloc _).on hW)
 have hi:=ways_at1
 have HC:Hid (∀W,Past (w.alloc (.cells #[.int .i64 1,.string o,.int .i64 n,.string s,v] 86)) W→W.cell? ⟨w.heap.size,0,none⟩=some (.int .i64 1)∧W.cell? ⟨w.heap.size,1,none⟩=some (.string o)∧W.cell? ⟨w.heap.size,2,none⟩=some (.int .i64 n)∧W.cell? ⟨w.heap.size,3,none⟩=some (.string s)∧W.cell? ⟨w.heap.size,4,none⟩=some v):=hid fun W hW=>box5 (zah w _) hW
 have hq:Hid (Past (w.alloc (.cells #[.int .i64 1,.string o,.int .i64 n,.string s,v] 86)) (w.alloc (.cells #[.int .i64 1,.string o,.int .i64 n,.string s,v] 86)).drew):=hid (Below.refl _ _).drew
 clear hp H
 unfold zdl at hi HW
 go_enter Tryz.func278,Tryz.ntmps278
 go_wp2
 go_region_held3 (fun W=>W.cell? ⟨w.heap.size,0,none⟩=some (.int .i64 1)∧W.cell? ⟨w.heap.size,1,none⟩=some (.string o)∧W.cell? ⟨w.heap.size,2,none⟩=some (.int .i64 n)∧W.cell? ⟨w.heap.size,3,none⟩=some (.string s)∧W.cell? ⟨w.heap.size,4,none⟩=some v) (with_reducible exact HC.out _ hq.out)
  (first
  | (go_at_call 338;((with_reducible refine(HX.out _ hq.out).mono ?_);rintro e w2 ⟨rfl,hb⟩);have hz:=hid (hq.out.on hb);clear hq hb;have hq:=hz;clear hz)
  | (go_at_call 321;((with_reducible refine(HW.out _).mono ?_);rintro e w1 ⟨rfl,hb⟩);have hz:=hid (hq.out.on hb);clear hq hb;have hq:=hz;clear hz))
 go_wp2
 go_ret2
 exact⟨rfl,zae ((Below.refl _ _).alloc (Nat.le_refl _) _) hq.out⟩
theorem reckon_index {w0:World} {E:Nat} {o:ByteArray} {n:Int} {s:ByteArray} {v:Value} {r:Int×Int} (H:Rk w0 E 339 (.agg #[.int .i64 2,.string o,.int .i64 n,.string s,v]) r):
  Rk w0 E 278 (.agg #[.int .i64 2,.string o,.int .i64 n,.string s,v]) r:=by
 intro w hp
 have HW:Hid (∀W,Calls Tryz.prog 321 #[] W fun e w'=>e=.returned zdl∧Below W.heap.size W w'):=hid ze3
 have HX:Hid (∀W,Past (w.alloc (.cells #[.int .i64 2,.string o,.int .i64 n,.string s,v] 86)) W→Calls Tryz.prog 339 #[.pointer (some ⟨E,0,none⟩),.agg #[.int .i64 2,.string o,.int .i64 n,.string s,v]] W fun e w'=>e=.returned (.tuple #[.int .i64 r.1,.int .i64 r.2])∧Below W.heap.size W w'):=hid fun W hW=>H W ((hp.alloc _).on hW)
 have hi:=ways_at2
 have HC:Hid (∀W,Past (w.alloc (.cells #[.int .i64 2,.string o,.int .i64 n,.string s,v] 86)) W→W.cell? ⟨w.heap.size,0,none⟩=some (.int .i64 2)∧W.cell? ⟨w.heap.size,1,none⟩=some (.string o)∧W.cell? ⟨w.heap.size,2,none⟩=some (.int .i64 n)∧W.cell? ⟨w.heap.size,3,none⟩=some (.string s)∧W.cell? ⟨w.heap.size,4,none⟩=some v):=hid fun W hW=>box5 (zah w _) hW
 have hq:Hid (Past (w.alloc (.cells #[.int .i64 2,.string o,.int .i64 n,.string s,v] 86)) (w.alloc (.cells #[.int .i64 2,.string o,.int .i64 n,.string s,v] 86)).drew):=hid (Below.refl _ _).drew
 clear hp H
 unfold zdl at hi HW
 go_enter Tryz.func278,Tryz.ntmps278
 go_wp2
 go_region_held3 (fun W=>W.cell? ⟨w.heap.size,0,none⟩=some (.int .i64 2)∧W.cell? ⟨w.heap.size,1,none⟩=some (.string o)∧W.cell? ⟨w.heap.size,2,none⟩=some (.int .i64 n)∧W.cell? ⟨w.heap.size,3,none⟩=some (.string s)∧W.cell? ⟨w.heap.size,4,none⟩=some v) (with_reducible exact HC.out _ hq.out)
  (first
  | (go_at_call 339;((with_reducible refine(HX.out _ hq.out).mono ?_);rintro e w2 ⟨rfl,hb⟩);have hz:=hid (hq.out.on hb);clear hq hb;have hq:=hz;clear hz)
  | (go_at_call 321;((with_reducible refine(HW.out _).mono ?_);rintro e w1 ⟨rfl,hb⟩);have hz:=hid (hq.out.on hb);clear hq hb;have hq:=hz;clear hz))
 go_wp2
 go_ret2
 exact⟨rfl,zae ((Below.refl _ _).alloc (Nat.le_refl _) _) hq.out⟩
theorem reckon_unary {w0:World} {E:Nat} {o:ByteArray} {n:Int} {s:ByteArray} {v:Value} {r:Int×Int} (H:Rk w0 E 340 (.agg #[.int .i64 3,.string o,.int .i64 n,.string s,v]) r):
  Rk w0 E 278 (.agg #[.int .i64 3,.string o,.int .i64 n,.string s,v]) r:=by
 intro w hp
 have HW:Hid (∀W,Calls Tryz.prog 321 #[] W fun e w'=>e=.returned zdl∧Below W.heap.size W w'):=hid ze3
 have HX:Hid (∀W,Past (w.alloc (.cells #[.int .i64 3,.string o,.int .i64 n,.string s,v] 86)) W→Calls Tryz.prog 340 #[.pointer (some ⟨E,0,none⟩),.agg #[.int .i64 3,.string o,.int .i64 n,.string s,v]] W fun e w'=>e=.returned (.tuple #[.int .i64 r.1,.int .i64 r.2])∧Below W.heap.size W w'):=hid fun W hW=>H W ((hp.alloc _).on hW)
 have hi:=ways_at3
 have HC:Hid (∀W,Past (w.alloc (.cells #[.int .i64 3,.string o,.int .i64 n,.string s,v] 86)) W→W.cell? ⟨w.heap.size,0,none⟩=some (.int .i64 3)∧W.cell? ⟨w.heap.size,1,none⟩=some (.string o)∧W.cell? ⟨w.heap.size,2,none⟩=some (.int .i64 n)∧W.cell? ⟨w.heap.size,3,none⟩=some (.string s)∧W.cell? ⟨w.heap.size,4,none⟩=some v):=hid fun W hW=>box5 (zah w _) hW
 have hq:Hid (Past (w.alloc (.cells #[.int .i64 3,.string o,.int .i64 n,.string s,v] 86)) (w.alloc (.cells #[.int .i64 3,.string o,.int .i64 n,.string s,v] 86)).drew):=hid (Below.refl _ _).drew
 clear hp H
 unfold zdl at hi HW
 go_enter Tryz.func278,Tryz.ntmps278
 go_wp2
 go_region_held3 (fun W=>W.cell? ⟨w.heap.size,0,none⟩=some (.int .i64 3)∧W.cell? ⟨w.heap.size,1,none⟩=some (.string o)∧W.cell? ⟨w.heap.size,2,none⟩=some (.int .i64 n)∧W.cell? ⟨w.heap.size,3,none⟩=some (.string s)∧W.cell? ⟨w.heap.size,4,none⟩=some v) (with_reducible exact HC.out _ hq.out)
  (first
  | (go_at_call 340;((with_reducible refine(HX.out _ hq.out).mono ?_);rintro e w2 ⟨rfl,hb⟩);have hz:=hid (hq.out.on hb);clear hq hb;have hq:=hz;clear hz)
  | (go_at_call 321;((with_reducible refine(HW.out _).mono ?_);rintro e w1 ⟨rfl,hb⟩);have hz:=hid (hq.out.on hb);clear hq hb;have hq:=hz;clear hz))
 go_wp2
 go_ret2
 exact⟨rfl,zae ((Below.refl _ _).alloc (Nat.le_refl _) _) hq.out⟩
theorem reckon_binary {w0:World} {E:Nat} {o:ByteArray} {n:Int} {s:ByteArray} {v:Value} {r:Int×Int} (H:Rk w0 E 341 (.agg #[.int .i64 4,.string o,.int .i64 n,.string s,v]) r):
  Rk w0 E 278 (.agg #[.int .i64 4,.string o,.int .i64 n,.string s,v]) r:=by
 intro w hp
 have HW:Hid (∀W,Calls Tryz.prog 321 #[] W fun e w'=>e=.returned zdl∧Below W.heap.size W w'):=hid ze3
 have HX:Hid (∀W,Past (w.alloc (.cells #[.int .i64 4,.string o,.int .i64 n,.string s,v] 86)) W→Calls Tryz.prog 341 #[.pointer (some ⟨E,0,none⟩),.agg #[.int .i64 4,.string o,.int .i64 n,.string s,v]] W fun e w'=>e=.returned (.tuple #[.int .i64 r.1,.int .i64 r.2])∧Below W.heap.size W w'):=hid fun W hW=>H W ((hp.alloc _).on hW)
 have hi:=ways_at4
 have HC:Hid (∀W,Past (w.alloc (.cells #[.int .i64 4,.string o,.int .i64 n,.string s,v] 86)) W→W.cell? ⟨w.heap.size,0,none⟩=some (.int .i64 4)∧W.cell? ⟨w.heap.size,1,none⟩=some (.string o)∧W.cell? ⟨w.heap.size,2,none⟩=some (.int .i64 n)∧W.cell? ⟨w.heap.size,3,none⟩=some (.string s)∧W.cell? ⟨w.heap.size,4,none⟩=some v):=hid fun W hW=>box5 (zah w _) hW
 have hq:Hid (Past (w.alloc (.cells #[.int .i64 4,.string o,.int .i64 n,.string s,v] 86)) (w.alloc (.cells #[.int .i64 4,.string o,.int .i64 n,.string s,v] 86)).drew):=hid (Below.refl _ _).drew
 clear hp H
 unfold zdl at hi HW
 go_enter Tryz.func278,Tryz.ntmps278
 go_wp2
 go_region_held3 (fun W=>W.cell? ⟨w.heap.size,0,none⟩=some (.int .i64 4)∧W.cell? ⟨w.heap.size,1,none⟩=some (.string o)∧W.cell? ⟨w.heap.size,2,none⟩=some (.int .i64 n)∧W.cell? ⟨w.heap.size,3,none⟩=some (.string s)∧W.cell? ⟨w.heap.size,4,none⟩=some v) (with_reducible exact HC.out _ hq.out)
  (first
  | (go_at_call 341;((with_reducible refine(HX.out _ hq.out).mono ?_);rintro e w2 ⟨rfl,hb⟩);have hz:=hid (hq.out.on hb);clear hq hb;have hq:=hz;clear hz)
  | (go_at_call 321;((with_reducible refine(HW.out _).mono ?_);rintro e w1 ⟨rfl,hb⟩);have hz:=hid (hq.out.on hb);clear hq hb;have hq:=hz;clear hz))
 go_wp2
 go_ret2
 exact⟨rfl,zae ((Below.refl _ _).alloc (Nat.le_refl _) _) hq.out⟩
end Go.Proofs.YtbilfdapmbahgaaGreatDoor.Ev

namespace Go.Proofs.YtbilfdapmbahgaaGreatDoor
open Go Go.RowKit
open Go.Lib (hid)
open Go.Lib (decDigits itoa)
open Go.Lib (hid)
theorem nmB_len {m:ByteArray} (h:nmB m=true):m.data.toList.length≤24:=by
 simp only[nmB,zaM,Bool.and_eq_true,decide_eq_true_eq] at h
 exact h.1.1.1.2
variable {I A:List ByteArray} {C:List (ByteArray×Nat)} {m loop:Bool} {t0 t1 t2 t3:Int}
theorem rightSs_snoc (l:List ST) (S:ST):zam (l++[S])=(zam l&&S.rightB):=by
 rw[zbU,zam,zam,Bool.and_true]
theorem rss_snoc (l:List ST) (S:ST):rss (l++[S])=rss l++[S.rs]:=by
 rw[rss_map,rss_map,List.map_append];rfl
section
variable {t:Int} (h0:0≤t) (h1:t≤1000000)
include h0 h1
end
end Go.Proofs.YtbilfdapmbahgaaGreatDoor
namespace Go.Proofs.YtbilfdapmbahgaaGreatDoor
open Go Go.RowKit
open Go.Lib (hid)
structure FeedC where
 la:Option Addr
 len:Nat
 cap:Nat
 zs:List Int
 ia:Nat
 ns:List ByteArray
 xa:Nat
 ms:List ByteArray
 main:Bool
def NamesIn (B f ia:Nat) (ns:List ByteArray) (w:World):Prop:=ia < B∧ia≠f∧(0 < ns.length∧ns.length≤10)∧∀i,i < ns.length→w.cell? ⟨ia,i,none⟩=some (.string (ns.getD i mE))∧nmB (ns.getD i mE)=true
theorem NamesIn.grown {B f ia:Nat} {ns:List ByteArray} {w w':World} (h:NamesIn B f ia ns w) (hs:B≤w.heap.size) (hg:w.grownBy w' (some f)):NamesIn B f ia ns w':=
 ⟨h.1,h.2.1,h.2.2.1,fun i hi=>⟨by
  have h1:=(h.2.2.2 i hi).1
  rw[World.cell?_of_block (w:=w) (hg.block ia (by have:=h.1;omega) (by have:=h.2.1;simp;omega))]
  exact h1,(h.2.2.2 i hi).2⟩⟩
structure Fd (F:FeedC) (B f:Nat) (p:Nat) (left tag:Int) (w:World):Prop where
 lt:f < B
 size:B≤w.heap.size
 blk:w.heap[f]?=some (.cells #[.slice F.la F.len F.cap,.int .i64 p,.slice (some ⟨F.ia,0,none⟩) F.ns.length F.ns.length,.slice (some ⟨F.xa,0,none⟩) F.ms.length F.ms.length,.int .i64 left,.int .i64 tag,.bool F.main] 137 (0,0))
 lep:p≤F.len
 lel:F.len≤9223372036854775807
 bytes:∀i,i < F.len→∃b off,F.la=some ⟨b,off,none⟩∧b < B∧b≠f∧w.cell? ⟨b,off+i,none⟩=some (.int .u8 (F.zs.getD i 0))∧0≤F.zs.getD i 0∧F.zs.getD i 0≤255
 ints:NamesIn B f F.ia F.ns w
 arrs:NamesIn B f F.xa F.ms w
section
variable {F:FeedC} {B f:Nat} {p:Nat} {left tag:Int} {w:World}
theorem Fd.put (h:Fd F B f p left tag w) {w':World} (hg:w.grownBy w' (some f)) {q:Nat} {l' t':Int} (hq:q≤F.len) (hb:w'.heap[f]?=some (.cells #[.slice F.la F.len F.cap,.int .i64 q,.slice (some ⟨F.ia,0,none⟩) F.ns.length F.ns.length,.slice (some ⟨F.xa,0,none⟩) F.ms.length F.ms.length,.int .i64 l',.int .i64 t',.bool F.main] 137 (0,0))):Fd F B f q l' t' w':=
 ⟨h.lt,Nat.le_trans h.size hg.size,hb,hq,h.lel,fun i hi=>by
  obtain⟨b,off,e,hb,hne,hc,hv⟩:=h.bytes i hi
  refine⟨b,off,e,hb,hne,?_,hv⟩
  rw[World.cell?_of_block (w:=w) (hg.block b (by have:=h.size;omega) (by simp;omega))]
  exact hc,h.ints.grown h.size hg,h.arrs.grown h.size hg⟩
theorem Fd.setp (h:Fd F B f p left tag w) {q:Nat} (hq:q≤F.len):Fd F B f q left tag (w.setCell ⟨f,1,none⟩ (.int .i64 q)):=h.put (zbb _ _ _ _) hq (zat _ h.blk)
theorem Fd.on (h:Fd F B f p left tag w) {w':World} (hb:Below w.heap.size w w'):Fd F B f p left tag w':=
 h.put ⟨hb.os,hb.tape,hb.output,hb.size,fun k hk _=>hb.block k hk⟩ h.lep ((hb.block f (lt_of_block h.blk)).trans h.blk)
theorem Fd.alloc (h:Fd F B f p left tag w) (o:Obj):Fd F B f p left tag (w.alloc o):=h.on ((Below.refl _ _).alloc (Nat.le_refl _) _)
theorem Fd.keep (h:Fd F B f p left tag w) {w':World} (hs:B≤w'.heap.size) (hk:∀b,b < B→w'.heap[b]?=w.heap[b]?):Fd F B f p left tag w':=
 ⟨h.lt,hs,(hk f h.lt).trans h.blk,h.lep,h.lel,fun i hi=>by
  obtain⟨b,off,e,hb,hne,hc,hv⟩:=h.bytes i hi
  refine⟨b,off,e,hb,hne,?_,hv⟩
  rw[World.cell?_of_block (w:=w) (hk b hb)]
  exact hc,⟨h.ints.1,h.ints.2.1,h.ints.2.2.1,fun i hi=>⟨by
   rw[World.cell?_of_block (w:=w) (hk F.ia h.ints.1)]
   exact(h.ints.2.2.2 i hi).1,(h.ints.2.2.2 i hi).2⟩⟩,⟨h.arrs.1,h.arrs.2.1,h.arrs.2.2.1,fun i hi=>⟨by
   rw[World.cell?_of_block (w:=w) (hk F.xa h.arrs.1)]
   exact(h.arrs.2.2.2 i hi).1,(h.arrs.2.2.2 i hi).2⟩⟩⟩
theorem Fd.far (h:Fd F B f p left tag w) {R:Nat} (hR:B≤R) (k:Nat) (u:Value):Fd F B f p left tag (w.setCell ⟨R,k,none⟩ u):=
 h.keep (by simpa[World.setCell] using h.size) fun b hb=>Below.heap_setCell _ _ _ _ (by simp;omega)
theorem Fd.grownR (h:Fd F B f p left tag w) {R:Nat} (hR:B≤R) {w':World} (hg:w.grownBy w' (some R)):Fd F B f p left tag w':=
 h.keep (Nat.le_trans h.size hg.size) fun b hb=>hg.block b (by have:=h.size;omega) (by simp;omega)
theorem Fd.drew (h:Fd F B f p left tag w):Fd F B f p left tag w.drew:=h.on (Below.refl _ _).drew
theorem Fd.drewN (h:Fd F B f p left tag w) (n:Nat):Fd F B f p left tag (w.drewN n):=h.on ⟨rfl,rfl,rfl,Nat.le_refl _,fun _ _=>rfl⟩
theorem Fd.c0 (h:Fd F B f p left tag w):w.cell? ⟨f,0,none⟩=some (.slice F.la F.len F.cap):=zab h.blk rfl
theorem Fd.c1 (h:Fd F B f p left tag w):w.cell? ⟨f,1,none⟩=some (.int .i64 p):=zab h.blk rfl
theorem Fd.c2 (h:Fd F B f p left tag w):w.cell? ⟨f,2,none⟩=some (.slice (some ⟨F.ia,0,none⟩) F.ns.length F.ns.length):=zab h.blk rfl
theorem Fd.c3 (h:Fd F B f p left tag w):w.cell? ⟨f,3,none⟩=some (.slice (some ⟨F.xa,0,none⟩) F.ms.length F.ms.length):=zab h.blk rfl
theorem Fd.c4 (h:Fd F B f p left tag w):w.cell? ⟨f,4,none⟩=some (.int .i64 left):=zab h.blk rfl
theorem Fd.c5 (h:Fd F B f p left tag w):w.cell? ⟨f,5,none⟩=some (.int .i64 tag):=zab h.blk rfl
theorem Fd.c6 (h:Fd F B f p left tag w):w.cell? ⟨f,6,none⟩=some (.bool F.main):=zab h.blk rfl
theorem Fd.f1 (h:Fd F B f p left tag w) (k:Nat):w.frozen? ⟨f,k,none⟩=false:=zaf h.blk
def NextPost (F:FeedC) (B f:Nat) (left tag:Int) (w:World) (e:Ending) (w':World):Prop:=∃(v:Int) (q:Nat),e=.returned (.int .i64 v)∧(0≤v∧v≤255)∧Fd F B f q left tag w'∧w.grownBy w' (some f)
theorem next_any (h:Fd F B f p left tag w):Calls Tryz.prog 126 #[.pointer (some ⟨f,0,none⟩)] w (NextPost F B f left tag w):=by
 have c0:=h.c0
 have c1:=h.c1
 have f1:=h.f1 1
 have hl:=h.lep
 have hm:=h.lel
 by_cases hlt:p < F.len
 ·obtain⟨b,off,hla,-,hne,hc,hv0,hv1⟩:=h.bytes p hlt
  have hne':(b==f)=false:=by simpa using hne
  have n1:decide (F.len≤p)=false:=by simp;omega
  have b1:p < F.len:=hlt
  have H:=hid h
  have HL:=hid hla
  have HC:=hid hc
  clear h hl hc hlt
  rw[hla] at c0
  clear hla
  go_enter Tryz.func126,Tryz.ntmps126
  go_wp2
  go_quiet (fail)
  go_wp2
  have hg:=zbp (f:=f) (zew (zai w (some f)) nq) 1 (.int .i64 (((p+1:Nat)):Int))
  have H2:=(H.out.drewN nq).setp (q:=p+1) (by omega)
  have e1:((p+1:Nat):Int)=(p:Int)+1:=rfl
  rw[e1] at hg
  have H3:Hid (Fd F B f (p+1) left tag ((w.drewN nq).setCell ⟨f,1,none⟩ (.int .i64 ((p:Int)+1)))):=hid H2
  clear H2
  generalize (w.drewN nq).setCell ⟨f,1,none⟩ (.int .i64 ((p:Int)+1))=w2 at hg H3 ⊢
  have HG:=hid hg
  have d0:=H3.out.c0
  have d1:w2.cell? ⟨f,1,none⟩=some (.int .i64 ((p:Int)+1)):=H3.out.c1
  obtain⟨b',off',hla',-,-,d2,-⟩:=H3.out.bytes p b1
  rw[HL.out] at hla'
  simp only[Option.some.injEq,Addr.mk.injEq,and_true] at hla'
  obtain⟨rfl,rfl⟩:=hla'
  rw[HL.out] at d0
  generalize F.zs.getD p 0=v at hv0 hv1 d2
  have k0:(0:Int)≤p:=by omega
  have k1:(p:Int) < F.len:=by omega
  have k2:IntKind.i64.wrap ((p:Int)+1 - 1)=p:=by rw[Int.add_sub_cancel];exact IntWalk.i64_in _ (by omega)
  clear c0 c1 f1 hg hne e1
  go_quiet (fail)
  go_wp2
  go_ret
  exact⟨v,p+1,rfl,⟨hv0,hv1⟩,H3.out.drewN _,zew HG.out _⟩
 ·have n1:decide (F.len≤p)=true:=by simp;omega
  have H:=hid h
  clear h hl
  go_enter Tryz.func126,Tryz.ntmps126
  go_wp2
  go_quiet (fail)
  go_wp2
  go_ret
  exact⟨0,p,rfl,by omega,H.out.drewN _,zew (zai _ _) _⟩
end
end Go.Proofs.YtbilfdapmbahgaaGreatDoor
