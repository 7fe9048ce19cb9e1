/- What statements do that hold no others: a number is set, an element, one is read; jumps, a result, an assertion. -/
import Derived.Test.YtbilfdapmbahgaaGreatDoorRReck
set_option linter.unusedSimpArgs false
set_option linter.unusedVariables false
set_option maxHeartbeats 8000000
set_option maxRecDepth 100000
namespace Go.Proofs.YtbilfdapmbahgaaGreatDoor.Rn
open Go Go.RowKit Go.Proofs.YtbilfdapmbahgaaGreatDoor Go.Proofs.YtbilfdapmbahgaaGreatDoor.Ev
open Go.Lib (hid)
section
variable {C:Cx} {wt:WtP} {ws:World} {X:Fx} {fp:Nat→Prop} {f:Fr} {s:MS} {w:World}
theorem RQ.go {k:Nat} {f':Fr} {s':MS} {fp':Nat→Prop} {w':World} (h:FS C wt ws X fp' f' s' w') (g:Gone X fp fp' w w'):RQ C wt ws X fp w (.go k f' s') (.returned (.int .i64 (k:Nat))) w':=⟨rfl,fp',h,g⟩
theorem RQ.fall {t:Int} {s':MS} {fp':Nat→Prop} {w':World} (h:Hal C wt ws X.Mb fp' s' w') (g:Gone X fp fp' w w'):RQ C wt ws X fp w (.trap t s') (.panicked [{v:=zb5 t,recovered:=false}]) w':=⟨rfl,fp',h,g⟩
theorem assign_ok (W:Wat C ws wt) (h:FS C wt ws X fp f s w) {T:ET} {nm:ByteArray} {kb ko ec nb no:Nat} (h2:ws.cell? ⟨nb,no+2,none⟩=some (.string nm)) (h4:ws.cell? ⟨nb,no+4,none⟩=some (.slice (some ⟨kb,ko,none⟩) 1 ec)) (hrow:RowAt ws 0 (some ⟨kb,ko,none⟩) 0 5 T.cells) (hin:T.In ws 0) (hr:T.rightB=true) (hnm:nm.size≤maxLen) (h0:(evE f.L T.re).2=0):
  Calls Tryz.prog 140 #[ptr X.Fb,nptr nb no] w (RQ C wt ws X fp w (.go 0 ⟨setV f.L nm.data.toList false 0 (evE f.L T.re).1,f.r⟩ s)):=by
 have HR:Hid (∀W2,FS C wt ws X fp f s W2→Calls Tryz.prog 197 #[ptr X.Fb,T.val] W2 fun e w'=>e=.returned (.int .i64 (evE f.L T.re).1)∧Below W2.heap.size W2 w'):=hid fun W2 h2=>zbL h2 hin hr h0
 have hi:=ev_in h.env.nums _ T (Nat.le_refl _) hr hin
 have HSE:Hid (∀W2,FS C wt ws X fp f s W2→Calls Tryz.prog 196 #[ptr X.E,.string nm,.int .i64 (evE f.L T.re).1] W2 fun e w'=>e=.returned (.bool (slot f.L nm.data.toList false 0).isSome)∧FS C wt ws X fp ⟨setV f.L nm.data.toList false 0 (evE f.L T.re).1,f.r⟩ s w'∧Gone X fp fp W2 w'):=hid fun W2 hW2=>(set_any hW2.env.env nm hnm hi).mono fun e w' hq=>by
  obtain⟨a,b,c⟩:=hW2.setE W hq
  exact⟨c,a,b⟩
 have HS:=hid (h.drew W)
 have HG:=hid (zbt (Gone.refl X fp w))
 have HB:=hid h.size
 have fl:=h.flt
 have HN2:Hid (∀(f':Fr) (s':MS) (fp':Nat→Prop) (W2:World),FS C wt ws X fp' f' s' W2→W2.cell? ⟨X.Fb,1,none⟩=some (ptr X.E)∧W2.cell? ⟨nb,no+2,none⟩=some (.string nm)):=hid fun f' s' fp' W2 hW=>⟨hW.f1,hW.sta.cell _ _ h2⟩
 have HN4:Hid (∀(f':Fr) (s':MS) (fp':Nat→Prop) (W2:World),FS C wt ws X fp' f' s' W2→W2.cell? ⟨nb,no+4,none⟩=some (.slice (some ⟨kb,ko,none⟩) 1 ec)):=hid fun f' s' fp' W2 hW=>hW.sta.cell _ _ h4
 have nl:=World.block_lt_of_cell? w _ (h.sta.cell _ _ h4)
 have HC0:Hid (∀(f':Fr) (s':MS) (fp':Nat→Prop) (W2:World),FS C wt ws X fp' f' s' W2→W2.cell? ⟨kb,ko,none⟩=some (.int .i64 T.kind)∧W2.cell? ⟨kb,ko+1,none⟩=some (.string T.op)∧W2.cell? ⟨kb,ko+2,none⟩=some (.int .i64 T.n)∧W2.cell? ⟨kb,ko+3,none⟩=some (.string T.name)∧W2.cell? ⟨kb,ko+4,none⟩=some (.slice T.kaddr T.kids.length T.kcap)):=hid (by
  intro f' s' fp' W2 hW
  have hrw:=hrow
  rw[ET.cells_is] at hrw
  obtain⟨c0,c1,c2,c3,c4,cl⟩:=zaF (hrw.keep hW.sta.keep) (Past.refl W2)
  simp only[Nat.zero_mul,Nat.add_zero,Nat.one_mul,Nat.add_assoc,Nat.reduceAdd] at c0 c1 c2 c3 c4
  exact⟨c0,c1,c2,c3,c4⟩)
 rw[ET.val_is] at HR
 generalize evE f.L T.re=q at *
 obtain⟨r,r2⟩:=q
 simp only at HR HSE hi h0 ⊢
 have kl:=World.block_lt_of_cell? w _ (HC0.out _ _ _ _ h).1
 have hC:Hid (∀(f':Fr) (s':MS) (fp':Nat→Prop) (W2:World),FS C wt ws X fp' f' s' W2→_):=hid fun f' s' fp' W2 hW=>And.intro (HN2.out f' s' fp' W2 hW) (And.intro (HN4.out f' s' fp' W2 hW) (HC0.out f' s' fp' W2 hW))
 clear h h2 h4 hin hr h0 hrow hi hnm HN2 HN4 HC0
 generalize T.kind=k at *
 generalize T.op=o at *
 generalize T.n=n at *
 generalize T.name=nn at *
 generalize Value.slice T.kaddr T.kids.length T.kcap=v at *
 go_enter Tryz.func140,Tryz.ntmps140
 go_wp2
 go_region_held3 (fun W2=>(W2.cell? ⟨X.Fb,1,none⟩=some (ptr X.E)∧W2.cell? ⟨nb,no+2,none⟩=some (.string nm))∧W2.cell? ⟨nb,no+4,none⟩=some (.slice (some ⟨kb,ko,none⟩) 1 ec)∧W2.cell? ⟨kb,ko,none⟩=some (.int .i64 k)∧W2.cell? ⟨kb,ko+1,none⟩=some (.string o)∧W2.cell? ⟨kb,ko+2,none⟩=some (.int .i64 n)∧W2.cell? ⟨kb,ko+3,none⟩=some (.string nn)∧W2.cell? ⟨kb,ko+4,none⟩=some v) ((with_reducible exact hC.out _ _ _ _ HS.out)) ((first
  | (go_at_call 196;refine(HSE.out _ HS.out).mono ?_;rintro e w2 ⟨rfl,h3,h4⟩;have HG2:=hid (Gone.trans HG.out h4 HB.out);clear HS HG;have HS:=hid h3;have HG:=HG2;clear h3 h4 HG2)
  | (go_at_call 197;(with_reducible refine(HR.out _ HS.out).mono ?_);rintro e w1 ⟨rfl,hb⟩;have HS1:=hid (HS.out.on W hb);have HG1:=hid (Gone.trans HG.out (zaI (X:=X) (fp:=fp) hb HS.out.size) HB.out);clear HS HG hb;have HS:=HS1;have HG:=HG1;clear HS1 HG1)))
 go_wp2
 go_ret
 exact RQ.go HS.out HG.out
theorem assign_bad (W:Wat C ws wt) (h:FS C wt ws X fp f s w) {T:ET} {nm:ByteArray} {kb ko ec nb no:Nat} (h2:ws.cell? ⟨nb,no+2,none⟩=some (.string nm)) (h4:ws.cell? ⟨nb,no+4,none⟩=some (.slice (some ⟨kb,ko,none⟩) 1 ec)) (hrow:RowAt ws 0 (some ⟨kb,ko,none⟩) 0 5 T.cells) (hin:T.In ws 0) (hr:T.rightB=true) (hnm:nm.size≤maxLen) (h0:(evE f.L T.re).2≠0):
  Calls Tryz.prog 140 #[ptr X.Fb,nptr nb no] w (RQ C wt ws X fp w (.trap (evE f.L T.re).2 s)):=by
 have HR:Hid (∀W2,FS C wt ws X fp f s W2→Calls Tryz.prog 197 #[ptr X.Fb,T.val] W2 fun e w'=>e=.panicked [{v:=zb5 (evE f.L T.re).2,recovered:=false}]∧Below W2.heap.size W2 w'):=hid fun W2 h2=>zch h2 hin hr h0
 have HS:=hid (h.drew W)
 have HG:=hid (zbt (Gone.refl X fp w))
 have HB:=hid h.size
 have fl:=h.flt
 have HN2:Hid (∀(f':Fr) (s':MS) (fp':Nat→Prop) (W2:World),FS C wt ws X fp' f' s' W2→W2.cell? ⟨X.Fb,1,none⟩=some (ptr X.E)∧W2.cell? ⟨nb,no+2,none⟩=some (.string nm)):=hid fun f' s' fp' W2 hW=>⟨hW.f1,hW.sta.cell _ _ h2⟩
 have HN4:Hid (∀(f':Fr) (s':MS) (fp':Nat→Prop) (W2:World),FS C wt ws X fp' f' s' W2→W2.cell? ⟨nb,no+4,none⟩=some (.slice (some ⟨kb,ko,none⟩) 1 ec)):=hid fun f' s' fp' W2 hW=>hW.sta.cell _ _ h4
 have nl:=World.block_lt_of_cell? w _ (h.sta.cell _ _ h4)
 have HC0:Hid (∀(f':Fr) (s':MS) (fp':Nat→Prop) (W2:World),FS C wt ws X fp' f' s' W2→W2.cell? ⟨kb,ko,none⟩=some (.int .i64 T.kind)∧W2.cell? ⟨kb,ko+1,none⟩=some (.string T.op)∧W2.cell? ⟨kb,ko+2,none⟩=some (.int .i64 T.n)∧W2.cell? ⟨kb,ko+3,none⟩=some (.string T.name)∧W2.cell? ⟨kb,ko+4,none⟩=some (.slice T.kaddr T.kids.length T.kcap)):=hid (by
  intro f' s' fp' W2 hW
  have hrw:=hrow
  rw[ET.cells_is] at hrw
  obtain⟨c0,c1,c2,c3,c4,cl⟩:=zaF (hrw.keep hW.sta.keep) (Past.refl W2)
  simp only[Nat.zero_mul,Nat.add_zero,Nat.one_mul,Nat.add_assoc,Nat.reduceAdd] at c0 c1 c2 c3 c4
  exact⟨c0,c1,c2,c3,c4⟩)
 rw[ET.val_is] at HR
 generalize evE f.L T.re=q at *
 obtain⟨r,r2⟩:=q
 simp only at HR h0 ⊢
 have HR2:Hid (∀W2,FS C wt ws X fp f s W2→Calls Tryz.prog 197 #[ptr X.Fb,.agg #[.int .i64 T.kind,.string T.op,.int .i64 T.n,.string T.name,.slice T.kaddr T.kids.length T.kcap]] W2 fun e w'=>(e=.returned (.int .i64 0)∧False∧Below W2.heap.size W2 w')∨(e=.panicked [{v:=zb5 r2,recovered:=false}]∧Below W2.heap.size W2 w')):=hid fun W2 h2=>(HR.out W2 h2).mono fun e w' hq=>.inr hq
 have HZ:Hid (False→∀W2:World,Calls Tryz.prog 196 #[ptr X.E,.string nm,.int .i64 0] W2 fun e w'=>e=.returned (.bool true)∧Below W2.heap.size W2 w'):=hid fun hf=>hf.elim
 clear HR
 obtain⟨f1,n2⟩:=HN2.out _ _ _ _ h
 have n4:=HN4.out _ _ _ _ h
 obtain⟨c0,c1,c2,c3,c4⟩:=HC0.out _ _ _ _ h
 have kl:=World.block_lt_of_cell? w _ c0
 have HP:Hid (∀W2,FS C wt ws X fp f s W2→RQ C wt ws X fp w (.trap r2 s) (.panicked [{v:=zb5 r2,recovered:=false}]) W2∨True):=hid fun _ _=>.inr trivial
 clear h h2 h4 hin hr h0 hrow hnm HN4 HC0 HP
 generalize T.kind=k at *
 generalize T.op=o at *
 generalize T.n=n at *
 generalize T.name=nn at *
 generalize Value.slice T.kaddr T.kids.length T.kcap=v at *
 go_enter Tryz.func140,Tryz.ntmps140
 go_wp2
 go_region_with (first | (go_at_call 196;(with_reducible refine(HZ.out HF.out _).mono ?_);rintro e w2 ⟨rfl,hb⟩) | (go_at_call 197;(with_reducible refine(HR2.out _ HS.out).mono ?_);intro e w1 hq;rcases hq with ⟨rfl,hf,hb⟩ | ⟨rfl,hb⟩;rotate_left;(exact⟨rfl,RQ.fall (HS.out.on W hb).hal (Gone.trans HG.out (zaI (X:=X) (fp:=fp) hb HS.out.size) HB.out)⟩);have HF:=hid hf;obtain⟨f1,n2⟩:=HN2.out _ _ _ _ (HS.out.on W hb);have HSX:=hid (HS.out.on W hb);clear hf hb))
 all_goals exact HF.out.elim
theorem end_ok (W:Wat C ws wt) (h:FS C wt ws X fp f s w) {T:ET} {kb ko ec nb no:Nat} (h4:ws.cell? ⟨nb,no+4,none⟩=some (.slice (some ⟨kb,ko,none⟩) 1 ec)) (hrow:RowAt ws 0 (some ⟨kb,ko,none⟩) 0 5 T.cells) (hin:T.In ws 0) (hr:T.rightB=true) (h0:(evE f.L T.re).2=0):
  Calls Tryz.prog 148 #[ptr X.Fb,nptr nb no] w (RQ C wt ws X fp w (.go 3 ⟨f.L,(evE f.L T.re).1⟩ s)):=by
 have HR:Hid (∀W2,FS C wt ws X fp f s W2→Calls Tryz.prog 197 #[ptr X.Fb,T.val] W2 fun e w'=>e=.returned (.int .i64 (evE f.L T.re).1)∧Below W2.heap.size W2 w'):=hid fun W2 h2=>zbL h2 hin hr h0
 have hi:=ev_in h.env.nums _ T (Nat.le_refl _) hr hin
 have HS:=hid (h)
 have HG:=hid (Gone.refl X fp w)
 have HB:=hid h.size
 have fl:=h.flt
 have HN4:Hid (∀(f':Fr) (s':MS) (fp':Nat→Prop) (W2:World),FS C wt ws X fp' f' s' W2→W2.cell? ⟨nb,no+4,none⟩=some (.slice (some ⟨kb,ko,none⟩) 1 ec)):=hid fun f' s' fp' W2 hW=>hW.sta.cell _ _ h4
 have nl:=World.block_lt_of_cell? w _ (h.sta.cell _ _ h4)
 have HC0:Hid (∀(f':Fr) (s':MS) (fp':Nat→Prop) (W2:World),FS C wt ws X fp' f' s' W2→W2.cell? ⟨kb,ko,none⟩=some (.int .i64 T.kind)∧W2.cell? ⟨kb,ko+1,none⟩=some (.string T.op)∧W2.cell? ⟨kb,ko+2,none⟩=some (.int .i64 T.n)∧W2.cell? ⟨kb,ko+3,none⟩=some (.string T.name)∧W2.cell? ⟨kb,ko+4,none⟩=some (.slice T.kaddr T.kids.length T.kcap)):=hid (by
  intro f' s' fp' W2 hW
  have hrw:=hrow
  rw[ET.cells_is] at hrw
  obtain⟨c0,c1,c2,c3,c4,cl⟩:=zaF (hrw.keep hW.sta.keep) (Past.refl W2)
  simp only[Nat.zero_mul,Nat.add_zero,Nat.one_mul,Nat.add_assoc,Nat.reduceAdd] at c0 c1 c2 c3 c4
  exact⟨c0,c1,c2,c3,c4⟩)
 rw[ET.val_is] at HR
 generalize evE f.L T.re=q at *
 obtain⟨r,r2⟩:=q
 simp only at HR hi h0 ⊢
 have n4:=HN4.out _ _ _ _ h
 obtain⟨c0,c1,c2,c3,c4⟩:=HC0.out _ _ _ _ h
 have kl:=World.block_lt_of_cell? w _ c0
 have HI:=hid hi
 clear h h4 hin hr h0 hrow hi HN4 HC0
 generalize T.kind=k at *
 generalize T.op=o at *
 generalize T.n=n at *
 generalize T.name=nn at *
 generalize Value.slice T.kaddr T.kids.length T.kcap=v at *
 go_enter Tryz.func148,Tryz.ntmps148
 go_wp2_with (go_at_call 197;(with_reducible refine(HR.out _ HS.out).mono ?_);rintro e w1 ⟨rfl,hb⟩;have HS1:=hid (HS.out.on W hb);have HG1:=hid (Gone.trans HG.out (zaI (X:=X) (fp:=fp) hb HS.out.size) HB.out);clear HS HG hb;have HS:=HS1;have HG:=HG1;clear HS1 HG1;have g13:w1.cell? ⟨X.Fb,13,none⟩=some (.int .i64 f.r):=zab HS.out.frm rfl;have gf:=HS.out.ff 13;have gl:=HS.out.flt)
 go_ret
 exact RQ.go (HS.out.setR W HI.out).1 (Gone.trans HG.out (HS.out.setR W HI.out).2 HB.out)
theorem end_bad (W:Wat C ws wt) (h:FS C wt ws X fp f s w) {T:ET} {kb ko ec nb no:Nat} (h4:ws.cell? ⟨nb,no+4,none⟩=some (.slice (some ⟨kb,ko,none⟩) 1 ec)) (hrow:RowAt ws 0 (some ⟨kb,ko,none⟩) 0 5 T.cells) (hin:T.In ws 0) (hr:T.rightB=true) (h0:(evE f.L T.re).2≠0):
  Calls Tryz.prog 148 #[ptr X.Fb,nptr nb no] w (RQ C wt ws X fp w (.trap (evE f.L T.re).2 s)):=by
 have HR:Hid (∀W2,FS C wt ws X fp f s W2→Calls Tryz.prog 197 #[ptr X.Fb,T.val] W2 fun e w'=>e=.panicked [{v:=zb5 (evE f.L T.re).2,recovered:=false}]∧Below W2.heap.size W2 w'):=hid fun W2 h2=>zch h2 hin hr h0
 have HS:=hid (h)
 have HG:=hid (Gone.refl X fp w)
 have HB:=hid h.size
 have fl:=h.flt
 have HN4:Hid (∀(f':Fr) (s':MS) (fp':Nat→Prop) (W2:World),FS C wt ws X fp' f' s' W2→W2.cell? ⟨nb,no+4,none⟩=some (.slice (some ⟨kb,ko,none⟩) 1 ec)):=hid fun f' s' fp' W2 hW=>hW.sta.cell _ _ h4
 have nl:=World.block_lt_of_cell? w _ (h.sta.cell _ _ h4)
 have HC0:Hid (∀(f':Fr) (s':MS) (fp':Nat→Prop) (W2:World),FS C wt ws X fp' f' s' W2→W2.cell? ⟨kb,ko,none⟩=some (.int .i64 T.kind)∧W2.cell? ⟨kb,ko+1,none⟩=some (.string T.op)∧W2.cell? ⟨kb,ko+2,none⟩=some (.int .i64 T.n)∧W2.cell? ⟨kb,ko+3,none⟩=some (.string T.name)∧W2.cell? ⟨kb,ko+4,none⟩=some (.slice T.kaddr T.kids.length T.kcap)):=hid (by
  intro f' s' fp' W2 hW
  have hrw:=hrow
  rw[ET.cells_is] at hrw
  obtain⟨c0,c1,c2,c3,c4,cl⟩:=zaF (hrw.keep hW.sta.keep) (Past.refl W2)
  simp only[Nat.zero_mul,Nat.add_zero,Nat.one_mul,Nat.add_assoc,Nat.reduceAdd] at c0 c1 c2 c3 c4
  exact⟨c0,c1,c2,c3,c4⟩)
 rw[ET.val_is] at HR
 generalize evE f.L T.re=q at *
 obtain⟨r,r2⟩:=q
 simp only at HR h0 ⊢
 have n4:=HN4.out _ _ _ _ h
 obtain⟨c0,c1,c2,c3,c4⟩:=HC0.out _ _ _ _ h
 have kl:=World.block_lt_of_cell? w _ c0
 clear h h4 hin hr h0 hrow HN4 HC0
 generalize T.kind=k at *
 generalize T.op=o at *
 generalize T.n=n at *
 generalize T.name=nn at *
 generalize Value.slice T.kaddr T.kids.length T.kcap=v at *
 go_enter Tryz.func148,Tryz.ntmps148
 go_wp2_with (go_at_call 197;(with_reducible refine(HR.out _ HS.out).mono ?_);rintro e w1 ⟨rfl,hb⟩;exact⟨rfl,RQ.fall (HS.out.on W hb).hal (Gone.trans HG.out (zaI (X:=X) (fp:=fp) hb HS.out.size) HB.out)⟩)
theorem assert_ok (W:Wat C ws wt) (h:FS C wt ws X fp f s w) {T:ET} {kb ko ec nb no:Nat} (h4:ws.cell? ⟨nb,no+4,none⟩=some (.slice (some ⟨kb,ko,none⟩) 1 ec)) (hrow:RowAt ws 0 (some ⟨kb,ko,none⟩) 0 5 T.cells) (hin:T.In ws 0) (hr:T.rightB=true) (h0:(evE f.L T.re).2=0) (h1:(evE f.L T.re).1≠0):
  Calls Tryz.prog 149 #[ptr X.Fb,nptr nb no] w (RQ C wt ws X fp w (.go 0 f s)):=by
 have HR:Hid (∀W2,FS C wt ws X fp f s W2→Calls Tryz.prog 201 #[ptr X.Fb,nptr nb no] W2 fun e w'=>e=.returned (.bool ((evE f.L T.re).1 != 0))∧Below W2.heap.size W2 w'):=hid fun W2 h2=>zd5 h2 h4 hrow hin hr h0
 have HS:=hid (h)
 have HG:=hid (Gone.refl X fp w)
 have HB:=hid h.size
 have fl:=h.flt
 rw[show((evE f.L T.re).1 != 0)=true by simpa using h1] at HR
 clear h h4 hin hr h0 h1 hrow
 go_enter Tryz.func149,Tryz.ntmps149
 go_wp2_with (go_at_call 201;(with_reducible refine(HR.out _ HS.out).mono ?_);rintro e w1 ⟨rfl,hb⟩;have HS1:=hid (HS.out.on W hb);have HG1:=hid (Gone.trans HG.out (zaI (X:=X) (fp:=fp) hb HS.out.size) HB.out);clear HS HG hb;have HS:=HS1;have HG:=HG1;clear HS1 HG1)
 go_ret
 exact RQ.go HS.out HG.out
theorem assert_no (W:Wat C ws wt) (h:FS C wt ws X fp f s w) {T:ET} {kb ko ec nb no:Nat} (h4:ws.cell? ⟨nb,no+4,none⟩=some (.slice (some ⟨kb,ko,none⟩) 1 ec)) (hrow:RowAt ws 0 (some ⟨kb,ko,none⟩) 0 5 T.cells) (hin:T.In ws 0) (hr:T.rightB=true) (h0:(evE f.L T.re).2=0) (h1:(evE f.L T.re).1=0):
  Calls Tryz.prog 149 #[ptr X.Fb,nptr nb no] w (RQ C wt ws X fp w (.trap 4 s)):=by
 have HR:Hid (∀W2,FS C wt ws X fp f s W2→Calls Tryz.prog 201 #[ptr X.Fb,nptr nb no] W2 fun e w'=>e=.returned (.bool ((evE f.L T.re).1 != 0))∧Below W2.heap.size W2 w'):=hid fun W2 h2=>zd5 h2 h4 hrow hin hr h0
 have HS:=hid (h)
 have HG:=hid (Gone.refl X fp w)
 have HB:=hid h.size
 have fl:=h.flt
 rw[show((evE f.L T.re).1 != 0)=false by simpa using h1] at HR
 clear h h4 hin hr h0 h1 hrow
 go_enter Tryz.func149,Tryz.ntmps149
 go_wp2_with (go_at_call 201;(with_reducible refine(HR.out _ HS.out).mono ?_);rintro e w1 ⟨rfl,hb⟩;have HS1:=hid (HS.out.on W hb);have HG1:=hid (Gone.trans HG.out (zaI (X:=X) (fp:=fp) hb HS.out.size) HB.out);clear HS HG hb;have HS:=HS1;have HG:=HG1;clear HS1 HG1)
 exact⟨rfl,RQ.fall HS.out.hal HG.out⟩
theorem assert_bad (W:Wat C ws wt) (h:FS C wt ws X fp f s w) {T:ET} {kb ko ec nb no:Nat} (h4:ws.cell? ⟨nb,no+4,none⟩=some (.slice (some ⟨kb,ko,none⟩) 1 ec)) (hrow:RowAt ws 0 (some ⟨kb,ko,none⟩) 0 5 T.cells) (hin:T.In ws 0) (hr:T.rightB=true) (h0:(evE f.L T.re).2≠0):
  Calls Tryz.prog 149 #[ptr X.Fb,nptr nb no] w (RQ C wt ws X fp w (.trap (evE f.L T.re).2 s)):=by
 have HR:Hid (∀W2,FS C wt ws X fp f s W2→Calls Tryz.prog 201 #[ptr X.Fb,nptr nb no] W2 fun e w'=>e=.panicked [{v:=zb5 (evE f.L T.re).2,recovered:=false}]∧Below W2.heap.size W2 w'):=hid fun W2 h2=>holds_bad h2 h4 hrow hin hr h0
 have HS:=hid (h)
 have HG:=hid (Gone.refl X fp w)
 have HB:=hid h.size
 have fl:=h.flt
 clear h h4 hin hr h0 hrow
 go_enter Tryz.func149,Tryz.ntmps149
 go_wp2_with (go_at_call 201;(with_reducible refine(HR.out _ HS.out).mono ?_);rintro e w1 ⟨rfl,hb⟩;exact⟨rfl,RQ.fall (HS.out.on W hb).hal (Gone.trans HG.out (zaI (X:=X) (fp:=fp) hb HS.out.size) HB.out)⟩)
theorem zcY (h:FS C wt ws X fp f s w) (nb no:Nat):
  Calls Tryz.prog 146 #[ptr X.Fb,nptr nb no] w (RQ C wt ws X fp w (.go 1 f s)):=by
 have HS:=hid h
 clear h
 go_enter Tryz.func146,Tryz.ntmps146
 go_wp2
 go_ret
 exact RQ.go HS.out (Gone.refl ..)
theorem resume_any (h:FS C wt ws X fp f s w) (nb no:Nat):
  Calls Tryz.prog 147 #[ptr X.Fb,nptr nb no] w (RQ C wt ws X fp w (.go 2 f s)):=by
 have HS:=hid h
 clear h
 go_enter Tryz.func147,Tryz.ntmps147
 go_wp2
 go_ret
 exact RQ.go HS.out (Gone.refl ..)
theorem read_any (W:Wat C ws wt) (hC:C.fuel≤1048576) (h:FS C wt ws X fp f s w) {nm:ByteArray} {nb no:Nat} (h2:ws.cell? ⟨nb,no+2,none⟩=some (.string nm)) (hnm:nm.size≤maxLen):
  Calls Tryz.prog 142 #[ptr X.Fb,nptr nb no] w (RQ C wt ws X fp w (.go 0 ⟨setV f.L nm.data.toList false 0 (s.inp.headD 0),f.r⟩ ⟨s.left,s.at',s.inp.tail,s.ev⟩)):=by
 have hi:in64 (s.inp.headD 0):=by
  obtain⟨iv,⟨a,cap,-,-,-,n3,-⟩,-⟩:=h.mc
  cases hs:s.inp with
  | nil=>exact⟨by decide,by decide⟩
  | cons z zs=>exact n3 z (by rw[hs];exact List.mem_cons_self)
 have HNX:Hid (∀W2,FS C wt ws X fp f s W2→Calls Tryz.prog 199 #[ptr X.Mb] W2 fun e w'=>e=.returned (.int .i64 (s.inp.headD 0))∧FS C wt ws X fp f ⟨s.left,s.at',s.inp.tail,s.ev⟩ w'∧Gone X fp fp W2 w'):=hid fun W2 hW2=>(next_any hW2.sta hW2.mch hC fun p v hp=>(hW2.hid p v hp).1).mono fun e w' hq=>⟨hq.1,hW2.turn W hq.2.1 hq.2.2 rfl (Nat.le_refl _),zdP hq.2.1 hW2.size⟩
 have HSE:Hid (∀W2,FS C wt ws X fp f ⟨s.left,s.at',s.inp.tail,s.ev⟩ W2→Calls Tryz.prog 196 #[ptr X.E,.string nm,.int .i64 (s.inp.headD 0)] W2 fun e w'=>e=.returned (.bool (slot f.L nm.data.toList false 0).isSome)∧FS C wt ws X fp ⟨setV f.L nm.data.toList false 0 (s.inp.headD 0),f.r⟩ ⟨s.left,s.at',s.inp.tail,s.ev⟩ w'∧Gone X fp fp W2 w'):=hid fun W2 hW2=>(set_any hW2.env.env nm hnm hi).mono fun e w' hq=>by
  obtain⟨a,b,c⟩:=hW2.setE W hq
  exact⟨c,a,b⟩
 have HS:=hid (h.drew W)
 have HG:=hid (zbt (Gone.refl X fp w))
 have HB:=hid h.size
 have fl:=h.flt
 have hC2:Hid (∀(f':Fr) (s':MS) (fp':Nat→Prop) (W2:World),FS C wt ws X fp' f' s' W2→W2.cell? ⟨X.Fb,0,none⟩=some (ptr X.Mb)∧W2.cell? ⟨X.Fb,1,none⟩=some (ptr X.E)∧W2.cell? ⟨nb,no+2,none⟩=some (.string nm)):=hid fun f' s' fp' W2 hW=>⟨hW.f0,hW.f1,hW.sta.cell _ _ h2⟩
 have nl:=World.block_lt_of_cell? w _ (h.sta.cell _ _ h2)
 clear h h2 hnm hi hC
 generalize s.inp.headD 0=z at *
 go_enter Tryz.func142,Tryz.ntmps142
 go_wp2
 go_region_held3 (fun W2=>W2.cell? ⟨X.Fb,0,none⟩=some (ptr X.Mb)∧W2.cell? ⟨X.Fb,1,none⟩=some (ptr X.E)∧W2.cell? ⟨nb,no+2,none⟩=some (.string nm)) ((with_reducible exact hC2.out _ _ _ _ HS.out)) ((first
  | (go_at_call 196;refine(HSE.out _ HS.out).mono ?_;rintro e w2 ⟨rfl,h3,h4⟩;have HG2:=hid (Gone.trans HG.out h4 HB.out);clear HS HG;have HS:=hid h3;have HG:=HG2;clear h3 h4 HG2)
  | (go_at_call 199;refine(HNX.out _ HS.out).mono ?_;rintro e w1 ⟨rfl,h3,h4⟩;have HG2:=hid (Gone.trans HG.out h4 HB.out);clear HS HG;have HS:=hid h3;have HG:=HG2;clear h3 h4 HG2)))
 go_wp2
 go_ret
 exact RQ.go HS.out HG.out
theorem store_bad (W:Wat C ws wt) (h:FS C wt ws X fp f s w) {T U:ET} {nm:ByteArray} {kb ko ec nb no:Nat} (h2:ws.cell? ⟨nb,no+2,none⟩=some (.string nm)) (h4:ws.cell? ⟨nb,no+4,none⟩=some (.slice (some ⟨kb,ko,none⟩) 2 ec)) (hrow:RowAt ws 0 (some ⟨kb,ko,none⟩) 0 5 T.cells) (hin:T.In ws 0) (hr:T.rightB=true) (hrow2:RowAt ws 0 (some ⟨kb,ko,none⟩) 1 5 U.cells) (hin2:U.In ws 0) (hr2:U.rightB=true) (hnm:nm.size≤maxLen) (h0:(evE f.L T.re).2≠0):
  Calls Tryz.prog 141 #[ptr X.Fb,nptr nb no] w (RQ C wt ws X fp w (.trap (evE f.L T.re).2 s)):=by
 have HR:Hid (∀W2,FS C wt ws X fp f s W2→Calls Tryz.prog 197 #[ptr X.Fb,T.val] W2 fun e w'=>e=.panicked [{v:=zb5 (evE f.L T.re).2,recovered:=false}]∧Below W2.heap.size W2 w'):=hid fun W2 h2=>zch h2 hin hr h0
 have HS:=hid (h)
 have HG:=hid (Gone.refl X fp w)
 have HB:=hid h.size
 have fl:=h.flt
 have HN2:Hid (∀(f':Fr) (s':MS) (fp':Nat→Prop) (W2:World),FS C wt ws X fp' f' s' W2→W2.cell? ⟨X.Fb,1,none⟩=some (ptr X.E)∧W2.cell? ⟨nb,no+2,none⟩=some (.string nm)):=hid fun f' s' fp' W2 hW=>⟨hW.f1,hW.sta.cell _ _ h2⟩
 have HN4:Hid (∀(f':Fr) (s':MS) (fp':Nat→Prop) (W2:World),FS C wt ws X fp' f' s' W2→W2.cell? ⟨nb,no+4,none⟩=some (.slice (some ⟨kb,ko,none⟩) 2 ec)):=hid fun f' s' fp' W2 hW=>hW.sta.cell _ _ h4
 have nl:=World.block_lt_of_cell? w _ (h.sta.cell _ _ h4)
 have HC0:Hid (∀(f':Fr) (s':MS) (fp':Nat→Prop) (W2:World),FS C wt ws X fp' f' s' W2→W2.cell? ⟨kb,ko,none⟩=some (.int .i64 T.kind)∧W2.cell? ⟨kb,ko+1,none⟩=some (.string T.op)∧W2.cell? ⟨kb,ko+2,none⟩=some (.int .i64 T.n)∧W2.cell? ⟨kb,ko+3,none⟩=some (.string T.name)∧W2.cell? ⟨kb,ko+4,none⟩=some (.slice T.kaddr T.kids.length T.kcap)):=hid (by
  intro f' s' fp' W2 hW
  have hrw:=hrow
  rw[ET.cells_is] at hrw
  obtain⟨c0,c1,c2,c3,c4,cl⟩:=zaF (hrw.keep hW.sta.keep) (Past.refl W2)
  simp only[Nat.zero_mul,Nat.add_zero,Nat.one_mul,Nat.add_assoc,Nat.reduceAdd] at c0 c1 c2 c3 c4
  exact⟨c0,c1,c2,c3,c4⟩)
 have HC1:Hid (∀(f':Fr) (s':MS) (fp':Nat→Prop) (W2:World),FS C wt ws X fp' f' s' W2→W2.cell? ⟨kb,ko+5,none⟩=some (.int .i64 U.kind)∧W2.cell? ⟨kb,ko+6,none⟩=some (.string U.op)∧W2.cell? ⟨kb,ko+7,none⟩=some (.int .i64 U.n)∧W2.cell? ⟨kb,ko+8,none⟩=some (.string U.name)∧W2.cell? ⟨kb,ko+9,none⟩=some (.slice U.kaddr U.kids.length U.kcap)):=hid (by
  intro f' s' fp' W2 hW
  have hrw:=hrow2
  rw[ET.cells_is] at hrw
  obtain⟨c0,c1,c2,c3,c4,cl⟩:=zaF (hrw.keep hW.sta.keep) (Past.refl W2)
  simp only[Nat.zero_mul,Nat.add_zero,Nat.one_mul,Nat.add_assoc,Nat.reduceAdd] at c0 c1 c2 c3 c4
  exact⟨c0,c1,c2,c3,c4⟩)
 rw[ET.val_is] at HR
 generalize evE f.L T.re=q at *
 obtain⟨r,r2⟩:=q
 simp only at HR h0 ⊢
 obtain⟨f1,n2⟩:=HN2.out _ _ _ _ h
 have n4:=HN4.out _ _ _ _ h
 obtain⟨c0,c1,c2,c3,c4⟩:=HC0.out _ _ _ _ h
 have kl:=World.block_lt_of_cell? w _ c0
 clear h h2 h4 hin hr h0 hrow hin2 hr2 hrow2 hnm HN2 HN4 HC0 HC1
 generalize T.kind=k at *
 generalize T.op=o at *
 generalize T.n=n at *
 generalize T.name=nn at *
 generalize Value.slice T.kaddr T.kids.length T.kcap=v at *
 go_enter Tryz.func141,Tryz.ntmps141
 go_wp2_with (go_at_call 197;(with_reducible refine(HR.out _ HS.out).mono ?_);rintro e w1 ⟨rfl,hb⟩;exact⟨rfl,RQ.fall (HS.out.on W hb).hal (Gone.trans HG.out (zaI (X:=X) (fp:=fp) hb HS.out.size) HB.out)⟩)
theorem store_bad2 (W:Wat C ws wt) (h:FS C wt ws X fp f s w) {T U:ET} {nm:ByteArray} {kb ko ec nb no:Nat} (h2:ws.cell? ⟨nb,no+2,none⟩=some (.string nm)) (h4:ws.cell? ⟨nb,no+4,none⟩=some (.slice (some ⟨kb,ko,none⟩) 2 ec)) (hrow:RowAt ws 0 (some ⟨kb,ko,none⟩) 0 5 T.cells) (hin:T.In ws 0) (hr:T.rightB=true) (hrow2:RowAt ws 0 (some ⟨kb,ko,none⟩) 1 5 U.cells) (hin2:U.In ws 0) (hr2:U.rightB=true) (hnm:nm.size≤maxLen) (h0:(evE f.L T.re).2=0) (h1:(evE f.L U.re).2≠0):
  Calls Tryz.prog 141 #[ptr X.Fb,nptr nb no] w (RQ C wt ws X fp w (.trap (evE f.L U.re).2 s)):=by
 have HR:Hid (∀W2,FS C wt ws X fp f s W2→Calls Tryz.prog 197 #[ptr X.Fb,T.val] W2 fun e w'=>e=.returned (.int .i64 (evE f.L T.re).1)∧Below W2.heap.size W2 w'):=hid fun W2 h2=>zbL h2 hin hr h0
 have HR2:Hid (∀W2,FS C wt ws X fp f s W2→Calls Tryz.prog 197 #[ptr X.Fb,U.val] W2 fun e w'=>e=.panicked [{v:=zb5 (evE f.L U.re).2,recovered:=false}]∧Below W2.heap.size W2 w'):=hid fun W2 h2=>zch h2 hin2 hr2 h1
 have HS:=hid (h)
 have HG:=hid (Gone.refl X fp w)
 have HB:=hid h.size
 have fl:=h.flt
 have HN2:Hid (∀(f':Fr) (s':MS) (fp':Nat→Prop) (W2:World),FS C wt ws X fp' f' s' W2→W2.cell? ⟨X.Fb,1,none⟩=some (ptr X.E)∧W2.cell? ⟨nb,no+2,none⟩=some (.string nm)):=hid fun f' s' fp' W2 hW=>⟨hW.f1,hW.sta.cell _ _ h2⟩
 have HN4:Hid (∀(f':Fr) (s':MS) (fp':Nat→Prop) (W2:World),FS C wt ws X fp' f' s' W2→W2.cell? ⟨nb,no+4,none⟩=some (.slice (some ⟨kb,ko,none⟩) 2 ec)):=hid fun f' s' fp' W2 hW=>hW.sta.cell _ _ h4
 have nl:=World.block_lt_of_cell? w _ (h.sta.cell _ _ h4)
 have HC0:Hid (∀(f':Fr) (s':MS) (fp':Nat→Prop) (W2:World),FS C wt ws X fp' f' s' W2→W2.cell? ⟨kb,ko,none⟩=some (.int .i64 T.kind)∧W2.cell? ⟨kb,ko+1,none⟩=some (.string T.op)∧W2.cell? ⟨kb,ko+2,none⟩=some (.int .i64 T.n)∧W2.cell? ⟨kb,ko+3,none⟩=some (.string T.name)∧W2.cell? ⟨kb,ko+4,none⟩=some (.slice T.kaddr T.kids.length T.kcap)):=hid (by
  intro f' s' fp' W2 hW
  have hrw:=hrow
  rw[ET.cells_is] at hrw
  obtain⟨c0,c1,c2,c3,c4,cl⟩:=zaF (hrw.keep hW.sta.keep) (Past.refl W2)
  simp only[Nat.zero_mul,Nat.add_zero,Nat.one_mul,Nat.add_assoc,Nat.reduceAdd] at c0 c1 c2 c3 c4
  exact⟨c0,c1,c2,c3,c4⟩)
 have HC1:Hid (∀(f':Fr) (s':MS) (fp':Nat→Prop) (W2:World),FS C wt ws X fp' f' s' W2→W2.cell? ⟨kb,ko+5,none⟩=some (.int .i64 U.kind)∧W2.cell? ⟨kb,ko+6,none⟩=some (.string U.op)∧W2.cell? ⟨kb,ko+7,none⟩=some (.int .i64 U.n)∧W2.cell? ⟨kb,ko+8,none⟩=some (.string U.name)∧W2.cell? ⟨kb,ko+9,none⟩=some (.slice U.kaddr U.kids.length U.kcap)):=hid (by
  intro f' s' fp' W2 hW
  have hrw:=hrow2
  rw[ET.cells_is] at hrw
  obtain⟨c0,c1,c2,c3,c4,cl⟩:=zaF (hrw.keep hW.sta.keep) (Past.refl W2)
  simp only[Nat.zero_mul,Nat.add_zero,Nat.one_mul,Nat.add_assoc,Nat.reduceAdd] at c0 c1 c2 c3 c4
  exact⟨c0,c1,c2,c3,c4⟩)
 rw[ET.val_is] at HR HR2
 generalize evE f.L T.re=q at *
 obtain⟨r,r2⟩:=q
 generalize evE f.L U.re=p at *
 obtain⟨u,u2⟩:=p
 simp only at HR HR2 h0 h1 ⊢
 obtain⟨f1,n2⟩:=HN2.out _ _ _ _ h
 have n4:=HN4.out _ _ _ _ h
 obtain⟨c0,c1,c2,c3,c4⟩:=HC0.out _ _ _ _ h
 have kl:=World.block_lt_of_cell? w _ c0
 clear h h2 h4 hin hr h0 h1 hrow hin2 hr2 hrow2 hnm HN2 HC0
 generalize T.kind=k at *
 generalize T.op=o at *
 generalize T.n=n at *
 generalize T.name=nn at *
 generalize Value.slice T.kaddr T.kids.length T.kcap=v at *
 generalize U.kind=k9 at *
 generalize U.op=o9 at *
 generalize U.n=n9 at *
 generalize U.name=nn9 at *
 generalize Value.slice U.kaddr U.kids.length U.kcap=v9 at *
 go_enter Tryz.func141,Tryz.ntmps141
 go_wp2_with (first | (go_at_call 197;(with_reducible refine(HR2.out _ HS.out).mono ?_);rintro e w2 ⟨rfl,hb⟩;exact⟨rfl,RQ.fall (HS.out.on W hb).hal (Gone.trans HG.out (zaI (X:=X) (fp:=fp) hb HS.out.size) HB.out)⟩) | (go_at_call 197;(with_reducible refine(HR.out _ HS.out).mono ?_);rintro e w1 ⟨rfl,hb⟩;have HS1:=hid (HS.out.on W hb);have HG1:=hid (Gone.trans HG.out (zaI (X:=X) (fp:=fp) hb HS.out.size) HB.out);clear HS HG hb;have HS:=HS1;have HG:=HG1;clear HS1 HG1;have n4:=HN4.out _ _ _ _ HS.out;obtain⟨d0,d1,d2,d3,d4⟩:=HC1.out _ _ _ _ HS.out;have gl:=HS.out.flt;have kl1:=World.block_lt_of_cell? _ _ d0;have nl1:=World.block_lt_of_cell? _ _ n4))
theorem store_ok (W:Wat C ws wt) (h:FS C wt ws X fp f s w) {T U:ET} {nm:ByteArray} {kb ko ec nb no:Nat} (h2:ws.cell? ⟨nb,no+2,none⟩=some (.string nm)) (h4:ws.cell? ⟨nb,no+4,none⟩=some (.slice (some ⟨kb,ko,none⟩) 2 ec)) (hrow:RowAt ws 0 (some ⟨kb,ko,none⟩) 0 5 T.cells) (hin:T.In ws 0) (hr:T.rightB=true) (hrow2:RowAt ws 0 (some ⟨kb,ko,none⟩) 1 5 U.cells) (hin2:U.In ws 0) (hr2:U.rightB=true) (hnm:nm.size≤maxLen) (h0:(evE f.L T.re).2=0) (h1:(evE f.L U.re).2=0) (h3:slot f.L nm.data.toList true (evE f.L T.re).1≠none):
  Calls Tryz.prog 141 #[ptr X.Fb,nptr nb no] w (RQ C wt ws X fp w (.go 0 ⟨setV f.L nm.data.toList true (evE f.L T.re).1 (evE f.L U.re).1,f.r⟩ s)):=by
 have HR:Hid (∀W2,FS C wt ws X fp f s W2→Calls Tryz.prog 197 #[ptr X.Fb,T.val] W2 fun e w'=>e=.returned (.int .i64 (evE f.L T.re).1)∧Below W2.heap.size W2 w'):=hid fun W2 h2=>zbL h2 hin hr h0
 have HR2:Hid (∀W2,FS C wt ws X fp f s W2→Calls Tryz.prog 197 #[ptr X.Fb,U.val] W2 fun e w'=>e=.returned (.int .i64 (evE f.L U.re).1)∧Below W2.heap.size W2 w'):=hid fun W2 h2=>zbL h2 hin2 hr2 h1
 have hi:=ev_in h.env.nums _ U (Nat.le_refl _) hr2 hin2
 have HSE:Hid (∀W2,FS C wt ws X fp f s W2→Calls Tryz.prog 198 #[ptr X.E,.string nm,.int .i64 (evE f.L T.re).1,.int .i64 (evE f.L U.re).1] W2 fun e w'=>e=.returned (.bool (slot f.L nm.data.toList true (evE f.L T.re).1).isSome)∧FS C wt ws X fp ⟨setV f.L nm.data.toList true (evE f.L T.re).1 (evE f.L U.re).1,f.r⟩ s w'∧Gone X fp fp W2 w'):=hid fun W2 hW2=>(put_any' hW2.env.env nm hnm (evE f.L T.re).1 hi).mono fun e w' hq=>by
  obtain⟨a,b,c⟩:=hW2.setE W hq
  exact⟨c,a,b⟩
 have hso:(slot f.L nm.data.toList true (evE f.L T.re).1).isSome=true:=by
  cases hs:slot f.L nm.data.toList true (evE f.L T.re).1 with
  | none=>exact absurd hs h3
  | some p=>rfl
 rw[hso] at HSE
 clear hso
 have HS:=hid (h)
 have HG:=hid (Gone.refl X fp w)
 have HB:=hid h.size
 have fl:=h.flt
 have HN2:Hid (∀(f':Fr) (s':MS) (fp':Nat→Prop) (W2:World),FS C wt ws X fp' f' s' W2→W2.cell? ⟨X.Fb,1,none⟩=some (ptr X.E)∧W2.cell? ⟨nb,no+2,none⟩=some (.string nm)):=hid fun f' s' fp' W2 hW=>⟨hW.f1,hW.sta.cell _ _ h2⟩
 have HN4:Hid (∀(f':Fr) (s':MS) (fp':Nat→Prop) (W2:World),FS C wt ws X fp' f' s' W2→W2.cell? ⟨nb,no+4,none⟩=some (.slice (some ⟨kb,ko,none⟩) 2 ec)):=hid fun f' s' fp' W2 hW=>hW.sta.cell _ _ h4
 have nl:=World.block_lt_of_cell? w _ (h.sta.cell _ _ h4)
 have HC0:Hid (∀(f':Fr) (s':MS) (fp':Nat→Prop) (W2:World),FS C wt ws X fp' f' s' W2→W2.cell? ⟨kb,ko,none⟩=some (.int .i64 T.kind)∧W2.cell? ⟨kb,ko+1,none⟩=some (.string T.op)∧W2.cell? ⟨kb,ko+2,none⟩=some (.int .i64 T.n)∧W2.cell? ⟨kb,ko+3,none⟩=some (.string T.name)∧W2.cell? ⟨kb,ko+4,none⟩=some (.slice T.kaddr T.kids.length T.kcap)):=hid (by
  intro f' s' fp' W2 hW
  have hrw:=hrow
  rw[ET.cells_is] at hrw
  obtain⟨c0,c1,c2,c3,c4,cl⟩:=zaF (hrw.keep hW.sta.keep) (Past.refl W2)
  simp only[Nat.zero_mul,Nat.add_zero,Nat.one_mul,Nat.add_assoc,Nat.reduceAdd] at c0 c1 c2 c3 c4
  exact⟨c0,c1,c2,c3,c4⟩)
 have HC1:Hid (∀(f':Fr) (s':MS) (fp':Nat→Prop) (W2:World),FS C wt ws X fp' f' s' W2→W2.cell? ⟨kb,ko+5,none⟩=some (.int .i64 U.kind)∧W2.cell? ⟨kb,ko+6,none⟩=some (.string U.op)∧W2.cell? ⟨kb,ko+7,none⟩=some (.int .i64 U.n)∧W2.cell? ⟨kb,ko+8,none⟩=some (.string U.name)∧W2.cell? ⟨kb,ko+9,none⟩=some (.slice U.kaddr U.kids.length U.kcap)):=hid (by
  intro f' s' fp' W2 hW
  have hrw:=hrow2
  rw[ET.cells_is] at hrw
  obtain⟨c0,c1,c2,c3,c4,cl⟩:=zaF (hrw.keep hW.sta.keep) (Past.refl W2)
  simp only[Nat.zero_mul,Nat.add_zero,Nat.one_mul,Nat.add_assoc,Nat.reduceAdd] at c0 c1 c2 c3 c4
  exact⟨c0,c1,c2,c3,c4⟩)
 rw[ET.val_is] at HR HR2
 generalize evE f.L T.re=q at *
 obtain⟨r,r2⟩:=q
 generalize evE f.L U.re=p at *
 obtain⟨u,u2⟩:=p
 simp only at HR HR2 HSE hi h0 h1 h3 ⊢
 obtain⟨f1,n2⟩:=HN2.out _ _ _ _ h
 have n4:=HN4.out _ _ _ _ h
 obtain⟨c0,c1,c2,c3,c4⟩:=HC0.out _ _ _ _ h
 have kl:=World.block_lt_of_cell? w _ c0
 clear h h2 h4 hin hr h0 h1 h3 hi hrow hin2 hr2 hrow2 hnm HC0
 generalize T.kind=k at *
 generalize T.op=o at *
 generalize T.n=n at *
 generalize T.name=nn at *
 generalize Value.slice T.kaddr T.kids.length T.kcap=v at *
 generalize U.kind=k9 at *
 generalize U.op=o9 at *
 generalize U.n=n9 at *
 generalize U.name=nn9 at *
 generalize Value.slice U.kaddr U.kids.length U.kcap=v9 at *
 go_enter Tryz.func141,Tryz.ntmps141
 go_wp2_with (first | (go_at_call 197;(with_reducible refine(HR2.out _ HS.out).mono ?_);rintro e w2 ⟨rfl,hb⟩;have HS1:=hid (HS.out.on W hb);have HG1:=hid (Gone.trans HG.out (zaI (X:=X) (fp:=fp) hb HS.out.size) HB.out);clear HS HG hb;have HS:=HS1;have HG:=HG1;clear HS1 HG1;have gl2:=HS.out.flt;have nl2:=World.block_lt_of_cell? _ _ (HN4.out _ _ _ _ HS.out)) | (go_at_call 197;(with_reducible refine(HR.out _ HS.out).mono ?_);rintro e w1 ⟨rfl,hb⟩;have HS1:=hid (HS.out.on W hb);have HG1:=hid (Gone.trans HG.out (zaI (X:=X) (fp:=fp) hb HS.out.size) HB.out);clear HS HG hb;have HS:=HS1;have HG:=HG1;clear HS1 HG1;have n4:=HN4.out _ _ _ _ HS.out;obtain⟨d0,d1,d2,d3,d4⟩:=HC1.out _ _ _ _ HS.out;have gl:=HS.out.flt;have kl1:=World.block_lt_of_cell? _ _ d0;have nl1:=World.block_lt_of_cell? _ _ n4))
 have HSD:=hid (HS.out.drew W)
 have HGD:=hid (zbt HG.out)
 clear HS HG
 have HS:=HSD
 have HG:=HGD
 clear HSD HGD
 go_region_held3 (fun W2=>W2.cell? ⟨X.Fb,1,none⟩=some (ptr X.E)∧W2.cell? ⟨nb,no+2,none⟩=some (.string nm)) ((with_reducible exact HN2.out _ _ _ _ HS.out)) ((go_at_call 198;refine(HSE.out _ HS.out).mono ?_;rintro e w3 ⟨rfl,h3,h4⟩;have HG2:=hid (Gone.trans HG.out h4 HB.out);clear HS HG;have HS:=hid h3;have HG:=HG2;clear h3 h4 HG2))
 go_wp2
 go_ret
 exact RQ.go HS.out HG.out
theorem store_out (W:Wat C ws wt) (h:FS C wt ws X fp f s w) {T U:ET} {nm:ByteArray} {kb ko ec nb no:Nat} (h2:ws.cell? ⟨nb,no+2,none⟩=some (.string nm)) (h4:ws.cell? ⟨nb,no+4,none⟩=some (.slice (some ⟨kb,ko,none⟩) 2 ec)) (hrow:RowAt ws 0 (some ⟨kb,ko,none⟩) 0 5 T.cells) (hin:T.In ws 0) (hr:T.rightB=true) (hrow2:RowAt ws 0 (some ⟨kb,ko,none⟩) 1 5 U.cells) (hin2:U.In ws 0) (hr2:U.rightB=true) (hnm:nm.size≤maxLen) (h0:(evE f.L T.re).2=0) (h1:(evE f.L U.re).2=0) (h3:slot f.L nm.data.toList true (evE f.L T.re).1=none):
  Calls Tryz.prog 141 #[ptr X.Fb,nptr nb no] w (RQ C wt ws X fp w (.trap 3 s)):=by
 have HR:Hid (∀W2,FS C wt ws X fp f s W2→Calls Tryz.prog 197 #[ptr X.Fb,T.val] W2 fun e w'=>e=.returned (.int .i64 (evE f.L T.re).1)∧Below W2.heap.size W2 w'):=hid fun W2 h2=>zbL h2 hin hr h0
 have HR2:Hid (∀W2,FS C wt ws X fp f s W2→Calls Tryz.prog 197 #[ptr X.Fb,U.val] W2 fun e w'=>e=.returned (.int .i64 (evE f.L U.re).1)∧Below W2.heap.size W2 w'):=hid fun W2 h2=>zbL h2 hin2 hr2 h1
 have hi:=ev_in h.env.nums _ U (Nat.le_refl _) hr2 hin2
 have HSE:Hid (∀W2,FS C wt ws X fp f s W2→Calls Tryz.prog 198 #[ptr X.E,.string nm,.int .i64 (evE f.L T.re).1,.int .i64 (evE f.L U.re).1] W2 fun e w'=>e=.returned (.bool (slot f.L nm.data.toList true (evE f.L T.re).1).isSome)∧FS C wt ws X fp ⟨setV f.L nm.data.toList true (evE f.L T.re).1 (evE f.L U.re).1,f.r⟩ s w'∧Gone X fp fp W2 w'):=hid fun W2 hW2=>(put_any' hW2.env.env nm hnm (evE f.L T.re).1 hi).mono fun e w' hq=>by
  obtain⟨a,b,c⟩:=hW2.setE W hq
  exact⟨c,a,b⟩
 rw[h3,show setV f.L nm.data.toList true (evE f.L T.re).1 (evE f.L U.re).1=f.L by unfold setV;rw[h3]] at HSE
 have HS:=hid (h)
 have HG:=hid (Gone.refl X fp w)
 have HB:=hid h.size
 have fl:=h.flt
 have HN2:Hid (∀(f':Fr) (s':MS) (fp':Nat→Prop) (W2:World),FS C wt ws X fp' f' s' W2→W2.cell? ⟨X.Fb,1,none⟩=some (ptr X.E)∧W2.cell? ⟨nb,no+2,none⟩=some (.string nm)):=hid fun f' s' fp' W2 hW=>⟨hW.f1,hW.sta.cell _ _ h2⟩
 have HN4:Hid (∀(f':Fr) (s':MS) (fp':Nat→Prop) (W2:World),FS C wt ws X fp' f' s' W2→W2.cell? ⟨nb,no+4,none⟩=some (.slice (some ⟨kb,ko,none⟩) 2 ec)):=hid fun f' s' fp' W2 hW=>hW.sta.cell _ _ h4
 have nl:=World.block_lt_of_cell? w _ (h.sta.cell _ _ h4)
 have HC0:Hid (∀(f':Fr) (s':MS) (fp':Nat→Prop) (W2:World),FS C wt ws X fp' f' s' W2→W2.cell? ⟨kb,ko,none⟩=some (.int .i64 T.kind)∧W2.cell? ⟨kb,ko+1,none⟩=some (.string T.op)∧W2.cell? ⟨kb,ko+2,none⟩=some (.int .i64 T.n)∧W2.cell? ⟨kb,ko+3,none⟩=some (.string T.name)∧W2.cell? ⟨kb,ko+4,none⟩=some (.slice T.kaddr T.kids.length T.kcap)):=hid (by
  intro f' s' fp' W2 hW
  have hrw:=hrow
  rw[ET.cells_is] at hrw
  obtain⟨c0,c1,c2,c3,c4,cl⟩:=zaF (hrw.keep hW.sta.keep) (Past.refl W2)
  simp only[Nat.zero_mul,Nat.add_zero,Nat.one_mul,Nat.add_assoc,Nat.reduceAdd] at c0 c1 c2 c3 c4
  exact⟨c0,c1,c2,c3,c4⟩)
 have HC1:Hid (∀(f':Fr) (s':MS) (fp':Nat→Prop) (W2:World),FS C wt ws X fp' f' s' W2→W2.cell? ⟨kb,ko+5,none⟩=some (.int .i64 U.kind)∧W2.cell? ⟨kb,ko+6,none⟩=some (.string U.op)∧W2.cell? ⟨kb,ko+7,none⟩=some (.int .i64 U.n)∧W2.cell? ⟨kb,ko+8,none⟩=some (.string U.name)∧W2.cell? ⟨kb,ko+9,none⟩=some (.slice U.kaddr U.kids.length U.kcap)):=hid (by
  intro f' s' fp' W2 hW
  have hrw:=hrow2
  rw[ET.cells_is] at hrw
  obtain⟨c0,c1,c2,c3,c4,cl⟩:=zaF (hrw.keep hW.sta.keep) (Past.refl W2)
  simp only[Nat.zero_mul,Nat.add_zero,Nat.one_mul,Nat.add_assoc,Nat.reduceAdd] at c0 c1 c2 c3 c4
  exact⟨c0,c1,c2,c3,c4⟩)
 rw[ET.val_is] at HR HR2
 generalize evE f.L T.re=q at *
 obtain⟨r,r2⟩:=q
 generalize evE f.L U.re=p at *
 obtain⟨u,u2⟩:=p
 simp only at HR HR2 HSE hi h0 h1 h3 ⊢
 obtain⟨f1,n2⟩:=HN2.out _ _ _ _ h
 have n4:=HN4.out _ _ _ _ h
 obtain⟨c0,c1,c2,c3,c4⟩:=HC0.out _ _ _ _ h
 have kl:=World.block_lt_of_cell? w _ c0
 clear h h2 h4 hin hr h0 h1 h3 hi hrow hin2 hr2 hrow2 hnm HC0
 generalize T.kind=k at *
 generalize T.op=o at *
 generalize T.n=n at *
 generalize T.name=nn at *
 generalize Value.slice T.kaddr T.kids.length T.kcap=v at *
 generalize U.kind=k9 at *
 generalize U.op=o9 at *
 generalize U.n=n9 at *
 generalize U.name=nn9 at *
 generalize Value.slice U.kaddr U.kids.length U.kcap=v9 at *
 go_enter Tryz.func141,Tryz.ntmps141
 go_wp2_with (first | (go_at_call 197;(with_reducible refine(HR2.out _ HS.out).mono ?_);rintro e w2 ⟨rfl,hb⟩;have HS1:=hid (HS.out.on W hb);have HG1:=hid (Gone.trans HG.out (zaI (X:=X) (fp:=fp) hb HS.out.size) HB.out);clear HS HG hb;have HS:=HS1;have HG:=HG1;clear HS1 HG1;have gl2:=HS.out.flt;have nl2:=World.block_lt_of_cell? _ _ (HN4.out _ _ _ _ HS.out)) | (go_at_call 197;(with_reducible refine(HR.out _ HS.out).mono ?_);rintro e w1 ⟨rfl,hb⟩;have HS1:=hid (HS.out.on W hb);have HG1:=hid (Gone.trans HG.out (zaI (X:=X) (fp:=fp) hb HS.out.size) HB.out);clear HS HG hb;have HS:=HS1;have HG:=HG1;clear HS1 HG1;have n4:=HN4.out _ _ _ _ HS.out;obtain⟨d0,d1,d2,d3,d4⟩:=HC1.out _ _ _ _ HS.out;have gl:=HS.out.flt;have kl1:=World.block_lt_of_cell? _ _ d0;have nl1:=World.block_lt_of_cell? _ _ n4))
 have HSD:=hid (HS.out.drew W)
 have HGD:=hid (zbt HG.out)
 clear HS HG
 have HS:=HSD
 have HG:=HGD
 clear HSD HGD
 go_region_held3 (fun W2=>W2.cell? ⟨X.Fb,1,none⟩=some (ptr X.E)∧W2.cell? ⟨nb,no+2,none⟩=some (.string nm)) ((with_reducible exact HN2.out _ _ _ _ HS.out)) ((go_at_call 198;refine(HSE.out _ HS.out).mono ?_;rintro e w3 ⟨rfl,h3,h4⟩;have HG2:=hid (Gone.trans HG.out h4 HB.out);clear HS HG;have HS:=hid h3;have HG:=HG2;clear h3 h4 HG2))
 go_wp2
 exact⟨rfl,RQ.fall HS.out.hal HG.out⟩
end
end Go.Proofs.YtbilfdapmbahgaaGreatDoor.Rn
