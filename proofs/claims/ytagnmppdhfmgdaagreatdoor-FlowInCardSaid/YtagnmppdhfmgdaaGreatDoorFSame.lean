/- Numbers, and rows of numbers, held against one another by the statements' own functions; is a number among some. -/
import Derived.Test.YtagnmppdhfmgdaaGreatDoorFRows
import Derived.Test.YtagnmppdhfmgdaaGreatDoorTRight2
import Derived.Test.YtagnmppdhfmgdaaGreatDoorTSame4
set_option linter.unusedSimpArgs false
set_option linter.unusedVariables false
set_option maxHeartbeats 8000000
set_option maxRecDepth 100000
namespace Go.Proofs.YtagnmppdhfmgdaaGreatDoor.Fl
open Go Go.RowKit Go.Proofs.YtagnmppdhfmgdaaGreatDoor
open Go.Lib (hid)
theorem below_dN (w:World) (n:Nat):Below w.heap.size w (w.drewN n):=⟨rfl,rfl,rfl,Nat.le_refl _,fun _ _=>rfl⟩
theorem take_step {α:Type} {l m:List α} {n:Nat} (hl:n < l.length) (hm:n < m.length) (ht:l.take n=m.take n) (h:l[n]=m[n]):l.take (n+1)=m.take (n+1):=by
 rw[List.take_succ_eq_append_getElem hl,List.take_succ_eq_append_getElem hm,ht,h]
theorem same_any {w0:World} (a a':Option Addr) (c c':Nat) (l m:List Int) (hl:l.length≤100000) (hm:m.length≤100000) (hin:NumAt w0 a l) (hin':NumAt w0 a' m) (w:World) (hp:Past w0 w):
  Calls Tryz.prog 17 #[.slice a l.length c,.slice a' m.length c'] w fun e w'=>e=.returned (.bool (decide (l=m)))∧Below w.heap.size w w':=by
 have HI:=hid hin
 have HI':=hid hin'
 have HP:=hid hp
 clear hin hin' hp
 by_cases hlen:l.length=m.length
 ·have hne:((l.length:Int) != (m.length:Int))=false:=by rw[hlen];simp
  have hlm:Hid (m.length=l.length):=hid hlen.symm
  have HLN:=hid hlen
  clear hlen
  go_enter Tryz.func17,Tryz.ntmps17
  go_wp2
  go_loopw [5] (fun i wr=>∃n:Nat,n≤l.length∧i=.int .i64 n∧Below w.heap.size w wr∧l.take n=m.take n) (fun i _=>l.length - (intOf i).toNat)
  case atStart=>exact⟨0,Nat.zero_le _,rfl,Below.refl _ _,by simp⟩
  case round =>
   obtain⟨n,hn,rfl,hb,ht⟩:=hrel
   have HB:=hid hb
   have HT:=hid ht
   clear hb ht
   by_cases hlt:n < l.length
   ·have hlt':n < m.length:=by have:=hlm.out;omega
    obtain⟨kb,ko,rfl,r0⟩:=HI.out n hlt
    obtain⟨kb',ko',rfl,s0⟩:=HI'.out n hlt'
    replace r0:=zav (HP.out.on HB.out) (B:=0) _ _ (Nat.zero_le _) r0
    replace s0:=zav (HP.out.on HB.out) (B:=0) _ _ (Nat.zero_le _) s0
    have hkb:=cell_lt r0
    have hkb2:=cell_lt s0
    by_cases hr:l[n]=m[n]
    ·have HR:=hid (take_step hlt hlt' HT.out hr)
     have hbb:(l[n] != m[n])=false:=by rw[hr];simp
     clear hr
     go_wp2
     go_quiet (fail)
     go_wp2
     go_round
     case rel=>exact⟨n+1,by omega,by go_num,zbe HB.out (below_dN _ _),HR.out⟩
     case measure=>simp[intOf];omega
    ·have HR:Hid (¬l=m):=hid (fun e=>hr (by subst e;rfl))
     have hbb:(l[n] != m[n])=true:=by simp[hr]
     clear hr
     go_wp2
     go_quiet (fail)
     go_wp2
     go_ret
     exact⟨by rw[decide_eq_false HR.out];rfl,zbe HB.out (below_dN _ _)⟩
   ·obtain rfl:n=l.length:=by omega
    have HT2:Hid (l=m):=hid (by have:=HT.out;rw[List.take_length,HLN.out,List.take_length] at this;exact this)
    go_wp2
    go_ret
    exact⟨by rw[decide_eq_true HT2.out];rfl,HB.out⟩
 ·have hne:((l.length:Int) != (m.length:Int))=true:=by simp;omega
  have HR:=hid (fun e:l=m=>hlen (by rw[e]))
  go_enter Tryz.func17,Tryz.ntmps17
  go_wp2_with fail
  go_ret
  exact⟨by rw[decide_eq_false HR.out];rfl,Below.refl _ _⟩
theorem rows_any {w0:World} (a a':Option Addr) (c c':Nat) (l m:List (List Int)) (hl:l.length≤100000) (hm:m.length≤100000) (hin:RowsAt w0 a l) (hin':RowsAt w0 a' m) (w:World) (hp:Past w0 w):
  Calls Tryz.prog 16 #[.slice a l.length c,.slice a' m.length c'] w fun e w'=>e=.returned (.bool (decide (l=m)))∧Below w.heap.size w w':=by
 have HI:=hid hin
 have HI':=hid hin'
 have HP:=hid hp
 clear hin hin' hp
 by_cases hlen:l.length=m.length
 ·have hne:((l.length:Int) != (m.length:Int))=false:=by rw[hlen];simp
  have hlm:Hid (m.length=l.length):=hid hlen.symm
  have HLN:=hid hlen
  clear hlen
  go_enter Tryz.func16,Tryz.ntmps16
  go_wp2
  go_loopw [5] (fun i wr=>∃n:Nat,n≤l.length∧i=.int .i64 n∧Below w.heap.size w wr∧l.take n=m.take n) (fun i _=>l.length - (intOf i).toNat)
  case atStart=>exact⟨0,Nat.zero_le _,rfl,Below.refl _ _,by simp⟩
  case round =>
   obtain⟨n,hn,rfl,hb,ht⟩:=hrel
   have HB:=hid hb
   have HT:=hid ht
   clear hb ht
   by_cases hlt:n < l.length
   ·have hlt':n < m.length:=by have:=hlm.out;omega
    obtain⟨kb,ko,ra,rc,rfl,r0,rl,rn⟩:=HI.out n hlt
    obtain⟨kb',ko',ra',rc',rfl,s0,sl,sn⟩:=HI'.out n hlt'
    replace r0:=zav (HP.out.on HB.out) (B:=0) _ _ (Nat.zero_le _) r0
    replace s0:=zav (HP.out.on HB.out) (B:=0) _ _ (Nat.zero_le _) s0
    have hkb:=cell_lt r0
    have hkb2:=cell_lt s0
    have HC:=hid (fun W hW=>same_any (w0:=w0) ra ra' rc rc' l[n] m[n] rl.1 sl.1 rn sn W hW)
    clear rn sn rl sl
    have hq:Hid (Past w0 wr.drew):=hid ((HP.out.on HB.out).drew)
    have hbel:Hid (Below w.heap.size w wr.drew):=hid (Below.drew HB.out)
    have HS:Hid (∀W,Past wr W→W.cell? ⟨kb,ko+n,none⟩=some (.slice ra l[n].length rc)∧W.cell? ⟨kb',ko'+n,none⟩=some (.slice ra' m[n].length rc')):=hid (fun W hW=>⟨zav hW (B:=0) _ _ (Nat.zero_le _) r0,zav hW (B:=0) _ _ (Nat.zero_le _) s0⟩)
    have hs:Hid (Past wr wr.drew):=hid ((Past.refl _).drew)
    by_cases hr:l[n]=m[n]
    ·have HR:=hid (take_step hlt hlt' HT.out hr)
     rw[decide_eq_true hr] at HC
     clear hr
     go_wp2
     go_region_held3 (fun w'=>w'.cell? ⟨kb,ko+n,none⟩=some (.slice ra l[n].length rc)∧w'.cell? ⟨kb',ko'+n,none⟩=some (.slice ra' m[n].length rc')) (with_reducible exact HS.out _ hs.out)
      ((go_at_call 17;((with_reducible refine(HC.out _ hq.out).mono ?_);rintro e wk ⟨rfl,hb⟩);have hq2:=hid (hq.out.on hb);have hb2:=hid (zbe hbel.out hb);have hs2:=hid (hs.out.on hb);clear hq hb hbel hs;have hq:=hq2;have hbel:=hb2;have hs:=hs2;clear hq2 hb2 hs2))
     go_wp2
     go_round
     case rel=>exact⟨n+1,by omega,by go_num,hbel.out,HR.out⟩
     case measure=>simp[intOf];omega
    ·have HR:Hid (¬l=m):=hid (fun e=>hr (by subst e;rfl))
     rw[decide_eq_false hr] at HC
     clear hr
     go_wp2
     go_region_held3 (fun w'=>w'.cell? ⟨kb,ko+n,none⟩=some (.slice ra l[n].length rc)∧w'.cell? ⟨kb',ko'+n,none⟩=some (.slice ra' m[n].length rc')) (with_reducible exact HS.out _ hs.out)
      ((go_at_call 17;((with_reducible refine(HC.out _ hq.out).mono ?_);rintro e wk ⟨rfl,hb⟩);have hq2:=hid (hq.out.on hb);have hb2:=hid (zbe hbel.out hb);have hs2:=hid (hs.out.on hb);clear hq hb hbel hs;have hq:=hq2;have hbel:=hb2;have hs:=hs2;clear hq2 hb2 hs2))
     go_wp2
     go_ret
     exact⟨by rw[decide_eq_false HR.out];rfl,hbel.out⟩
   ·obtain rfl:n=l.length:=by omega
    have HT2:Hid (l=m):=hid (by have:=HT.out;rw[List.take_length,HLN.out,List.take_length] at this;exact this)
    go_wp2
    go_ret
    exact⟨by rw[decide_eq_true HT2.out];rfl,HB.out⟩
 ·have hne:((l.length:Int) != (m.length:Int))=true:=by simp;omega
  have HR:=hid (fun e:l=m=>hlen (by rw[e]))
  go_enter Tryz.func16,Tryz.ntmps16
  go_wp2_with fail
  go_ret
  exact⟨by rw[decide_eq_false HR.out];rfl,Below.refl _ _⟩
end Go.Proofs.YtagnmppdhfmgdaaGreatDoor.Fl
