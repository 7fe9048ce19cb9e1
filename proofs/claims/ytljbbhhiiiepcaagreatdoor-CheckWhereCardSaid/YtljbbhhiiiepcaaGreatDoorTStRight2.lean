/- What right asks of one statement. -/
import Derived.Test.YtljbbhhiiiepcaaGreatDoorTRight2
import Derived.Test.YtljbbhhiiiepcaaGreatDoorTStHeap
set_option linter.unusedSimpArgs false
set_option linter.unusedVariables false
set_option maxHeartbeats 8000000
set_option maxRecDepth 100000
namespace Go.Proofs.YtljbbhhiiiepcaaGreatDoor
open Go Go.RowKit
open Go.Lib (hid)
theorem zbB {w:World} {b:Nat} {t:TypeId} {fr:Nat×Nat} {v0 v1 v2 v3 v4 v5 v6:Value} (h:w.heap[b]?=some (.cells #[v0,v1,v2,v3,v4,v5,v6] t fr)):
  w.cell? ⟨b,0,none⟩=some v0∧w.cell? ⟨b,1,none⟩=some v1∧w.cell? ⟨b,2,none⟩=some v2∧w.cell? ⟨b,3,none⟩=some v3∧w.cell? ⟨b,4,none⟩=some v4∧w.cell? ⟨b,5,none⟩=some v5∧w.cell? ⟨b,6,none⟩=some v6:=
 ⟨zab h rfl,zab h rfl,zab h rfl,zab h rfl,zab h rfl,zab h rfl,zab h rfl⟩
theorem ST.cells_is (k t:Int) (n f:ByteArray) (ea:Option Addr) (ec:Nat) (e:List ET) (ba:Option Addr) (bc:Nat) (b:List ST) (la:Option Addr) (lc:Nat) (l:List ST):(ST.mk k t n f ea ec e ba bc b la lc l).cells=#[.int .i64 k,.int .i64 t,.string n,.string f,.slice ea e.length ec,.slice ba b.length bc,.slice la l.length lc]:=rfl
abbrev stV (k t:Int) (n f:ByteArray) (ve:Value) (ba:Option Addr) (b bc:Nat) (la:Option Addr) (l lc:Nat):Value:=.agg #[.int .i64 k,.int .i64 t,.string n,.string f,ve,.slice ba b bc,.slice la l lc]
theorem sets_any (k t:Int) (n f:ByteArray) (ve:Value) (ba:Option Addr) (b bc:Nat) (la:Option Addr) (l lc:Nat) (w:World):
  Calls Tryz.prog 158 #[.agg #[.int .i64 k,.int .i64 t,.string n,.string f,ve,.slice ba b bc,.slice la l lc]] w fun e w'=>e=.returned (.bool (zcb n f))∧Below w.heap.size w w':=by
 have key:nmB n=false∧zcb n f=false∨nmB n=true∧(f.toList.isEmpty=false∧zcb n f=false∨f.toList.isEmpty=true∧zcb n f=true):=by
  unfold zcb
  cases nmB n<;>cases f.toList.isEmpty<;>simp
 generalize zcb n f=r at key ⊢
 rcases key with ⟨h1,rfl⟩ | ⟨h1,(⟨h2,rfl⟩ | ⟨h2,rfl⟩)⟩
 all_goals
  go_enter Tryz.func158,Tryz.ntmps158
  go_wp2_with (go_at_call 70;refine(zbT _ _).mono ?_;rintro e w' ⟨rfl,rfl⟩;rw[h1])
  go_ret
  exact⟨by simp,(Below.refl _ _).alloc (Nat.le_refl _) _⟩
theorem zdo (k t:Int) (n f:ByteArray) (ve:Value) (ba:Option Addr) (b bc:Nat) (la:Option Addr) (l lc:Nat) (w:World):
  Calls Tryz.prog 160 #[.agg #[.int .i64 k,.int .i64 t,.string n,.string f,ve,.slice ba b bc,.slice la l lc]] w fun e w'=>e=.returned (.bool (zbg n f))∧Below w.heap.size w w':=by
 have key:n.toList.isEmpty=false∧zbg n f=false∨n.toList.isEmpty=true∧(f.toList.isEmpty=false∧zbg n f=false∨f.toList.isEmpty=true∧zbg n f=true):=by
  unfold zbg
  cases n.toList.isEmpty<;>cases f.toList.isEmpty<;>simp
 generalize zbg n f=r at key ⊢
 rcases key with ⟨h1,rfl⟩ | ⟨h1,(⟨h2,rfl⟩ | ⟨h2,rfl⟩)⟩
 all_goals
  go_enter Tryz.func160,Tryz.ntmps160
  go_wp2_with fail
  go_ret
  exact⟨by simp,(Below.refl _ _).alloc (Nat.le_refl _) _⟩
theorem zc5 (k t:Int) (n f:ByteArray) (ve:Value) (ba:Option Addr) (b bc:Nat) (la:Option Addr) (l lc:Nat) (w:World):
  Calls Tryz.prog 159 #[.agg #[.int .i64 k,.int .i64 t,.string n,.string f,ve,.slice ba b bc,.slice la l lc]] w fun e w'=>e=.returned (.bool (zaU b l))∧Below w.heap.size w w':=by
 have key:((b:Int)==0)=false∧zaU b l=false∨((b:Int)==0)=true∧(((l:Int)==0)=false∧zaU b l=false∨((l:Int)==0)=true∧zaU b l=true):=by
  unfold zaU
  rw[show((b:Int)==0)=(b==0) from zcO b 0,show((l:Int)==0)=(l==0) from zcO l 0]
  cases (b==0)<;>cases (l==0)<;>simp
 generalize zaU b l=r at key ⊢
 rcases key with ⟨h1,rfl⟩ | ⟨h1,(⟨h2,rfl⟩ | ⟨h2,rfl⟩)⟩
 all_goals
  go_enter Tryz.func159,Tryz.ntmps159
  go_wp2_with fail
  go_ret
  exact⟨by simp,(Below.refl _ _).alloc (Nat.le_refl _) _⟩
theorem formedS_a (k:Int) (c:Nat) (d:Int) (hk:k=0∧c=1∧d=1∨k=1∧c=2∧d=2∨k=2∧c=0∧d=0) (t:Int) (ht0:0≤t) (ht1:t≤1000000) (n f:ByteArray) (ea:Option Addr) (e ec:Nat) (ba:Option Addr) (b bc:Nat) (la:Option Addr) (l lc:Nat) (w:World):
  Calls Tryz.prog 109 #[stV k t n f (.slice ea e ec) ba b bc la l lc] w (FormedPost (zcb n f&&zaU b l&&e==c) w):=by
 have hd:(c:Int)=d:=by omega
 generalize hr:(zcb n f&&zaU b l&&e==c)=r
 have key:zcb n f=false∧r=false∨zcb n f=true∧(zaU b l=false∧r=false∨zaU b l=true∧(((e:Int)==d)=false∧r=false∨((e:Int)==d)=true∧r=true)):=by
  rw[←hr,show((e:Int)==d)=(e==c) from hd▸zcO e c]
  cases zcb n f<;>cases zaU b l<;>cases (e==c)<;>simp
 clear hr
 have t0:decide (t < 0)=false:=decide_eq_false (by omega)
 have t1:decide (1000000 < t)=false:=decide_eq_false (by omega)
 clear ht0 ht1
 clear hd
 rcases hk with ⟨rfl,rfl,rfl⟩ | ⟨rfl,rfl,rfl⟩ | ⟨rfl,rfl,rfl⟩
 all_goals rcases key with ⟨h1,rfl⟩ | ⟨h1,(⟨h2,rfl⟩ | ⟨h2,(⟨h3,rfl⟩ | ⟨h3,rfl⟩)⟩)⟩
 all_goals
  go_enter Tryz.func109,Tryz.ntmps109
  go_wp2_with (first
   | (go_at_call 159;refine(zc5 _ _ _ _ _ _ _ _ _ _ _ _).mono ?_;rintro e w2 ⟨rfl,hb2⟩;rw[h2];have HB2:=hid (zan HB1.out hb2);clear hb2)
   | (go_at_call 158;refine(sets_any _ _ _ _ _ _ _ _ _ _ _ _).mono ?_;rintro e w1 ⟨rfl,hb⟩;rw[h1];obtain⟨c0,c1,c2,c3,c4,c5,c6⟩:=zbB ((hb.block w.heap.size (by simp)).trans (zaj _ _));have HB1:=hid (zan ((Below.refl _ _).alloc (Nat.le_refl _) _) hb);clear hb))
  go_ret
  exact⟨by simp,by first | exact HB2.out | exact HB1.out | exact(Below.refl _ _).alloc (Nat.le_refl _) _⟩
theorem formedS_3 (t:Int) (ht0:0≤t) (ht1:t≤1000000) (n f:ByteArray) (ea:Option Addr) (e ec:Nat) (ba:Option Addr) (b bc:Nat) (la:Option Addr) (l lc:Nat) (w:World):
  Calls Tryz.prog 109 #[stV 3 t n f (.slice ea e ec) ba b bc la l lc] w (FormedPost (nmB n&&nmB f&&zaU b l) w):=by
 generalize hr:(nmB n&&nmB f&&zaU b l)=r
 have key:nmB n=false∧r=false∨nmB n=true∧(nmB f=false∧r=false∨nmB f=true∧(zaU b l=false∧r=false∨zaU b l=true∧r=true)):=by
  rw[←hr]
  cases nmB n<;>cases nmB f<;>cases zaU b l<;>simp
 clear hr
 have t0:decide (t < 0)=false:=decide_eq_false (by omega)
 have t1:decide (1000000 < t)=false:=decide_eq_false (by omega)
 clear ht0 ht1
 rcases key with ⟨h1,rfl⟩ | ⟨h1,(⟨h2,rfl⟩ | ⟨h2,(⟨h3,rfl⟩ | ⟨h3,rfl⟩)⟩)⟩
 all_goals
  go_enter Tryz.func109,Tryz.ntmps109
  go_wp2_with (first
   | (go_at_call 159;refine(zc5 _ _ _ _ _ _ _ _ _ _ _ _).mono ?_;rintro e w2 ⟨rfl,hb2⟩;rw[h3];have HB2:=hid (zan ((Below.refl _ _).alloc (Nat.le_refl _) _) hb2);clear hb2)
   | (go_at_call 70;refine(zbT _ _).mono ?_;rintro e w' ⟨rfl,rfl⟩;first | rw[h1] | rw[h2]))
  go_ret
  exact⟨by simp,by first | exact HB2.out | exact HB1.out | exact(Below.refl _ _).alloc (Nat.le_refl _) _⟩
theorem formedS_4 (t:Int) (ht0:0≤t) (ht1:t≤1000000) (n f:ByteArray) (ea:Option Addr) (e ec:Nat) (ba:Option Addr) (b bc:Nat) (la:Option Addr) (l lc:Nat) (w:World):
  Calls Tryz.prog 109 #[stV 4 t n f (.slice ea e ec) ba b bc la l lc] w (FormedPost (zbg n f&&e==1) w):=by
 generalize hr:(zbg n f&&e==1)=r
 have key:zbg n f=false∧r=false∨zbg n f=true∧(((e:Int)==1)=false∧r=false∨((e:Int)==1)=true∧r=true):=by
  rw[←hr,show((e:Int)==1)=(e==1) from zcO e 1]
  cases zbg n f<;>cases (e==1)<;>simp
 clear hr
 have t0:decide (t < 0)=false:=decide_eq_false (by omega)
 have t1:decide (1000000 < t)=false:=decide_eq_false (by omega)
 clear ht0 ht1
 rcases key with ⟨h1,rfl⟩ | ⟨h1,(⟨h2,rfl⟩ | ⟨h2,rfl⟩)⟩
 all_goals
  go_enter Tryz.func109,Tryz.ntmps109
  go_wp2_with (first
   | (go_at_call 160;refine(zdo _ _ _ _ _ _ _ _ _ _ _ _).mono ?_;rintro e w1 ⟨rfl,hb⟩;rw[h1];obtain⟨c0,c1,c2,c3,c4,c5,c6⟩:=zbB ((hb.block w.heap.size (by simp)).trans (zaj _ _));have HB1:=hid (zan ((Below.refl _ _).alloc (Nat.le_refl _) _) hb);clear hb))
  go_ret
  exact⟨by simp,by first | exact HB2.out | exact HB1.out | exact(Below.refl _ _).alloc (Nat.le_refl _) _⟩
theorem formedS_5 (t:Int) (ht0:0≤t) (ht1:t≤1000000) (n f:ByteArray) (ea:Option Addr) (e ec:Nat) (ba:Option Addr) (b bc:Nat) (la:Option Addr) (l lc:Nat) (w:World):
  Calls Tryz.prog 109 #[stV 5 t n f (.slice ea e ec) ba b bc la l lc] w (FormedPost (zbg n f&&l==0&&e==1) w):=by
 generalize hr:(zbg n f&&l==0&&e==1)=r
 have key:zbg n f=false∧r=false∨zbg n f=true∧(((l:Int)==0)=false∧r=false∨((l:Int)==0)=true∧(((e:Int)==1)=false∧r=false∨((e:Int)==1)=true∧r=true)):=by
  rw[←hr,show((l:Int)==0)=(l==0) from zcO l 0,show((e:Int)==1)=(e==1) from zcO e 1]
  cases zbg n f<;>cases (l==0)<;>cases (e==1)<;>simp
 clear hr
 have t0:decide (t < 0)=false:=decide_eq_false (by omega)
 have t1:decide (1000000 < t)=false:=decide_eq_false (by omega)
 clear ht0 ht1
 rcases key with ⟨h1,rfl⟩ | ⟨h1,(⟨h2,rfl⟩ | ⟨h2,(⟨h3,rfl⟩ | ⟨h3,rfl⟩)⟩)⟩
 all_goals
  go_enter Tryz.func109,Tryz.ntmps109
  go_wp2_with (first
   | (go_at_call 160;refine(zdo _ _ _ _ _ _ _ _ _ _ _ _).mono ?_;rintro e w1 ⟨rfl,hb⟩;rw[h1];obtain⟨c0,c1,c2,c3,c4,c5,c6⟩:=zbB ((hb.block w.heap.size (by simp)).trans (zaj _ _));have HB1:=hid (zan ((Below.refl _ _).alloc (Nat.le_refl _) _) hb);clear hb))
  go_ret
  exact⟨by simp,by first | exact HB2.out | exact HB1.out | exact(Below.refl _ _).alloc (Nat.le_refl _) _⟩
theorem zd9 (k:Int) (c:Nat) (d:Int) (hk:k=6∧c=0∧d=0∨k=7∧c=0∧d=0∨k=8∧c=1∧d=1∨k=9∧c=1∧d=1) (t:Int) (ht0:0≤t) (ht1:t≤1000000) (n f:ByteArray) (ea:Option Addr) (e ec:Nat) (ba:Option Addr) (b bc:Nat) (la:Option Addr) (l lc:Nat) (w:World):
  Calls Tryz.prog 109 #[stV k t n f (.slice ea e ec) ba b bc la l lc] w (FormedPost (zbg n f&&zaU b l&&e==c) w):=by
 have hd:(c:Int)=d:=by omega
 generalize hr:(zbg n f&&zaU b l&&e==c)=r
 have key:zbg n f=false∧r=false∨zbg n f=true∧(zaU b l=false∧r=false∨zaU b l=true∧(((e:Int)==d)=false∧r=false∨((e:Int)==d)=true∧r=true)):=by
  rw[←hr,show((e:Int)==d)=(e==c) from hd▸zcO e c]
  cases zbg n f<;>cases zaU b l<;>cases (e==c)<;>simp
 clear hr
 have t0:decide (t < 0)=false:=decide_eq_false (by omega)
 have t1:decide (1000000 < t)=false:=decide_eq_false (by omega)
 clear ht0 ht1
 clear hd
 rcases hk with ⟨rfl,rfl,rfl⟩ | ⟨rfl,rfl,rfl⟩ | ⟨rfl,rfl,rfl⟩ | ⟨rfl,rfl,rfl⟩
 all_goals rcases key with ⟨h1,rfl⟩ | ⟨h1,(⟨h2,rfl⟩ | ⟨h2,(⟨h3,rfl⟩ | ⟨h3,rfl⟩)⟩)⟩
 all_goals
  go_enter Tryz.func109,Tryz.ntmps109
  go_wp2_with (first
   | (go_at_call 159;refine(zc5 _ _ _ _ _ _ _ _ _ _ _ _).mono ?_;rintro e w2 ⟨rfl,hb2⟩;rw[h2];have HB2:=hid (zan HB1.out hb2);clear hb2)
   | (go_at_call 160;refine(zdo _ _ _ _ _ _ _ _ _ _ _ _).mono ?_;rintro e w1 ⟨rfl,hb⟩;rw[h1];obtain⟨c0,c1,c2,c3,c4,c5,c6⟩:=zbB ((hb.block w.heap.size (by simp)).trans (zaj _ _));have HB1:=hid (zan ((Below.refl _ _).alloc (Nat.le_refl _) _) hb);clear hb))
  go_ret
  exact⟨by simp,by first | exact HB2.out | exact HB1.out | exact(Below.refl _ _).alloc (Nat.le_refl _) _⟩
theorem formedS_any (k t:Int) (n f:ByteArray) (ea:Option Addr) (e ec:Nat) (ba:Option Addr) (b bc:Nat) (la:Option Addr) (l lc:Nat) (w:World):
  Calls Tryz.prog 109 #[stV k t n f (.slice ea e ec) ba b bc la l lc] w (FormedPost (zaO k t n f e b l) w):=by
 unfold zaO
 by_cases ht:t < 0∨1000000 < t
 ·rw[if_pos ht]
  rcases(show decide (t < 0)=true∨(decide (t < 0)=false∧decide (1000000 < t)=true) by
   by_cases h:t < 0
   ·exact .inl (decide_eq_true h)
   ·exact .inr ⟨decide_eq_false h,decide_eq_true (by omega)⟩) with ht' | ⟨ht',ht2⟩
  all_goals
   clear ht
   go_enter Tryz.func109,Tryz.ntmps109
   go_wp2_with fail
   go_ret
   exact⟨by simp,(Below.refl _ _).alloc (Nat.le_refl _) _⟩
 rw[if_neg ht]
 have ht0:0≤t:=by omega
 have ht1:t≤1000000:=by omega
 clear ht
 by_cases h0:k=0
 ·subst h0;rw[if_pos rfl];exact formedS_a 0 1 1 (by decide) t ht0 ht1 n f ea e ec ba b bc la l lc w
 rw[if_neg h0]
 by_cases h1:k=1
 ·subst h1;rw[if_pos rfl];exact formedS_a 1 2 2 (by decide) t ht0 ht1 n f ea e ec ba b bc la l lc w
 rw[if_neg h1]
 by_cases h2:k=2
 ·subst h2;rw[if_pos rfl];exact formedS_a 2 0 0 (by decide) t ht0 ht1 n f ea e ec ba b bc la l lc w
 rw[if_neg h2]
 by_cases h3:k=3
 ·subst h3;rw[if_pos rfl];exact formedS_3 t ht0 ht1 n f ea e ec ba b bc la l lc w
 rw[if_neg h3]
 by_cases h4:k=4
 ·subst h4;rw[if_pos rfl];exact formedS_4 t ht0 ht1 n f ea e ec ba b bc la l lc w
 rw[if_neg h4]
 by_cases h5:k=5
 ·subst h5;rw[if_pos rfl];exact formedS_5 t ht0 ht1 n f ea e ec ba b bc la l lc w
 rw[if_neg h5]
 by_cases h6:k=6
 ·subst h6;rw[if_pos rfl];exact zd9 6 0 0 (by decide) t ht0 ht1 n f ea e ec ba b bc la l lc w
 rw[if_neg h6]
 by_cases h7:k=7
 ·subst h7;rw[if_pos rfl];exact zd9 7 0 0 (by decide) t ht0 ht1 n f ea e ec ba b bc la l lc w
 rw[if_neg h7]
 by_cases h8:k=8
 ·subst h8;rw[if_pos rfl];exact zd9 8 1 1 (by decide) t ht0 ht1 n f ea e ec ba b bc la l lc w
 rw[if_neg h8]
 by_cases h9:k=9
 ·subst h9;rw[if_pos rfl];exact zd9 9 1 1 (by decide) t ht0 ht1 n f ea e ec ba b bc la l lc w
 rw[if_neg h9]
 have t0:decide (t < 0)=false:=decide_eq_false (by omega)
 have t1:decide (1000000 < t)=false:=decide_eq_false (by omega)
 clear ht0 ht1
 go_enter Tryz.func109,Tryz.ntmps109
 go_wp2_with fail
 go_ret
 exact⟨by simp,(Below.refl _ _).alloc (Nat.le_refl _) _⟩
end Go.Proofs.YtljbbhhiiiepcaaGreatDoor
namespace Go.Proofs.YtljbbhhiiiepcaaGreatDoor
open Go Go.RowKit
open Go.Lib (hid)
def ST.kind:ST→Int
 | .mk k _ _ _ _ _ _ _ _ _ _ _ _=>k
def ST.tag:ST→Int
 | .mk _ t _ _ _ _ _ _ _ _ _ _ _=>t
def ST.name:ST→ByteArray
 | .mk _ _ n _ _ _ _ _ _ _ _ _ _=>n
def ST.func:ST→ByteArray
 | .mk _ _ _ f _ _ _ _ _ _ _ _ _=>f
def ST.ea:ST→Option Addr
 | .mk _ _ _ _ ea ec e ba bc b la lc l=>ea
def ST.ec:ST→Nat
 | .mk _ _ _ _ ea ec e ba bc b la lc l=>ec
def ST.en:ST→Nat
 | .mk _ _ _ _ ea ec e ba bc b la lc l=>e.length
def ST.ba:ST→Option Addr
 | .mk _ _ _ _ ea ec e ba bc b la lc l=>ba
def ST.bc:ST→Nat
 | .mk _ _ _ _ ea ec e ba bc b la lc l=>bc
def ST.bn:ST→Nat
 | .mk _ _ _ _ ea ec e ba bc b la lc l=>b.length
def ST.la:ST→Option Addr
 | .mk _ _ _ _ ea ec e ba bc b la lc l=>la
def ST.lc:ST→Nat
 | .mk _ _ _ _ ea ec e ba bc b la lc l=>lc
def ST.ln:ST→Nat
 | .mk _ _ _ _ ea ec e ba bc b la lc l=>l.length
theorem ST.cells_eq (S:ST):S.cells=#[.int .i64 S.kind,.int .i64 S.tag,.string S.name,.string S.func,.slice S.ea S.en S.ec,.slice S.ba S.bn S.bc,.slice S.la S.ln S.lc]:=by cases S;rfl
theorem ST.val_eq (S:ST):S.val=.agg #[.int .i64 S.kind,.int .i64 S.tag,.string S.name,.string S.func,.slice S.ea S.en S.ec,.slice S.ba S.bn S.bc,.slice S.la S.ln S.lc]:=by cases S;rfl
structure Cells7 (w:World) (b o:Nat) (v0 v1 v2 v3 v4 v5 v6:Value):Prop where
 c0:w.cell? ⟨b,o,none⟩=some v0
 c1:w.cell? ⟨b,o+1,none⟩=some v1
 c2:w.cell? ⟨b,o+2,none⟩=some v2
 c3:w.cell? ⟨b,o+3,none⟩=some v3
 c4:w.cell? ⟨b,o+4,none⟩=some v4
 c5:w.cell? ⟨b,o+5,none⟩=some v5
 c6:w.cell? ⟨b,o+6,none⟩=some v6
 lt:b < w.heap.size
theorem zdG {w0 w:World} {B b o i:Nat} {v0 v1 v2 v3 v4 v5 v6:Value} (h:RowAt w0 B (some ⟨b,o,none⟩) i 7 #[v0,v1,v2,v3,v4,v5,v6]) (hp:Past w0 w):Cells7 w b (o+i*7) v0 v1 v2 v3 v4 v5 v6:=by
 obtain⟨b',o',e,-,hc⟩:=h
 simp only[Option.some.injEq,Addr.mk.injEq,and_true] at e
 obtain⟨rfl,rfl⟩:=e
 have k:=zaP hp (B:=0)
 have h0:=k _ _ (Nat.zero_le _) (hc 0 v0 rfl)
 exact⟨h0,k _ _ (Nat.zero_le _) (hc 1 v1 rfl),k _ _ (Nat.zero_le _) (hc 2 v2 rfl),k _ _ (Nat.zero_le _) (hc 3 v3 rfl),k _ _ (Nat.zero_le _) (hc 4 v4 rfl),k _ _ (Nat.zero_le _) (hc 5 v5 rfl),k _ _ (Nat.zero_le _) (hc 6 v6 rfl),zdl h0⟩
theorem all_stmts {w0:World} (a:Option Addr) (c:Nat) (l:List ST) (hl:l.length≤9223372036854775807) (hin:SsIn w0 0 a 0 l)
  (hf:∀(n:Nat) (hn:n < l.length) (w:World),Past w0 w→Calls Tryz.prog 75 #[l[n].val] w fun e w'=>e=.returned (.bool l[n].rightB)∧Below w.heap.size w w') (w:World) (hp:Past w0 w):
  Calls Tryz.prog 74 #[.slice a l.length c,.func (.func 75) #[] #[]] w fun e w'=>e=.returned (.bool (zak l))∧Below w.heap.size w w':=by
 have HF:=hid hf
 have HI:=hid hin
 have HP:=hid hp
 clear hf hin hp
 go_enter Tryz.func74,Tryz.ntmps74
 go_wp2
 go_loopw [6,9] (fun _ i wr=>∃n:Nat,n≤l.length∧i=.int .i64 n∧Below w.heap.size w wr∧zak (l.take n)=true) (fun _ i _=>l.length - (intOf i).toNat)
 case atStart=>exact⟨0,Nat.zero_le _,rfl,Below.refl _ _,rfl⟩
 case round =>
  obtain⟨n,hn,rfl,hb,ht⟩:=hrel
  have HB:=hid hb
  have HT:=hid ht
  clear hb ht
  by_cases hlt:n < l.length
  ·obtain⟨hrow,-⟩:=HI.out.nth n hlt
   have hrow':=hrow
   obtain⟨kb,ko,rfl,-⟩:=hrow'
   rw[ST.cells_eq,Nat.zero_add] at hrow
   obtain⟨r0,r1,r2,r3,r4,r5,r6,hkb⟩:=zdG hrow (HP.out.on HB.out)
   have hcall:=HF.out n hlt
   rw[ST.val_eq] at hcall
   have HC:=hid hcall
   clear hcall hrow
   cases hr:l[n].rightB with
   | false =>
    have HR:=hid (rightSs_false hlt hr)
    rw[hr] at HC
    clear hr
    go_wp2_with (go_at_call 75;have hx:=HC.out _ ((HP.out.on HB.out).alloc (.cells #[.int .i64 l[n].kind,.int .i64 l[n].tag,.string l[n].name,.string l[n].func,.slice l[n].ea l[n].en l[n].ec,.slice l[n].ba l[n].bn l[n].bc,.slice l[n].la l[n].ln l[n].lc] 66));refine hx.mono ?_;clear hx;rintro e w2 ⟨rfl,hb2⟩;have HB2:=hid (zan (HB.out.alloc HB.out.size _) hb2);clear hb2)
    go_ret
    exact⟨by rw[HR.out];rfl,HB2.out⟩
   | true =>
    have HR:=hid (show zak (l.take (n+1))=true by rw[rightSs_take hlt,HT.out,hr];rfl)
    rw[hr] at HC
    clear hr
    go_wp2_with (go_at_call 75;have hx:=HC.out _ ((HP.out.on HB.out).alloc (.cells #[.int .i64 l[n].kind,.int .i64 l[n].tag,.string l[n].name,.string l[n].func,.slice l[n].ea l[n].en l[n].ec,.slice l[n].ba l[n].bn l[n].bc,.slice l[n].la l[n].ln l[n].lc] 66));refine hx.mono ?_;clear hx;rintro e w2 ⟨rfl,hb2⟩;have HB2:=hid (zan (HB.out.alloc HB.out.size _) hb2);clear hb2)
    go_round
    case rel=>exact⟨n+1,by omega,by go_num,HB2.out,HR.out⟩
    case measure=>simp[intOf];omega
  ·obtain rfl:n=l.length:=by omega
   rw[List.take_length] at HT
   go_wp2
   go_ret
   exact⟨by rw[HT.out];rfl,HB.out⟩
def SRightOk (w0:World) (S:ST):Prop:=∀w,Past w0 w→Calls Tryz.prog 75 #[S.val] w fun e w'=>e=.returned (.bool S.rightB)∧Below w.heap.size w w'
theorem rightS_any {w0:World}:∀(m:Nat) (S:ST),S.sz≤m→S.In w0 0→SRightOk w0 S:=by
 intro m
 induction m with
 | zero=>intro S hm;obtain⟨k,t,n,f,ea,ec,e,ba,bc,b,la,lc,l⟩:=S;simp[ST.sz] at hm
 | succ m ih =>
  intro S hm hin w hp
  obtain⟨k,t,n,f,ea,ec,e,ba,bc,b,la,lc,l⟩:=S
  rw[ST.In] at hin
  obtain⟨-,⟨z1,z2,z3⟩,i1,i2,i3⟩:=hin
  simp only[ST.sz] at hm
  have HA:=hid (fun W hW=>all_exprs (w0:=w0) ea ec e z1 i1 (fun n hn w hw=>right_any _ e[n] (Nat.le_refl _) (i1.nth n hn).2 w hw) W hW)
  have HB:=hid (fun W hW=>all_stmts (w0:=w0) ba bc b z2 i2 (fun n hn w hw=>ih b[n] (by have:=zdU hn;omega) (i2.nth n hn).2 w hw) W hW)
  have HL:=hid (fun W hW=>all_stmts (w0:=w0) la lc l z3 i3 (fun n hn w hw=>ih l[n] (by have:=zdU hn;omega) (i3.nth n hn).2 w hw) W hW)
  have HP:=hid hp
  have e1:(ST.mk k t n f ea ec e ba bc b la lc l).rightB=(zaO k t n f e.length b.length l.length&&zam e&&zak b&&zak l):=by rw[ST.rightB]
  rw[e1]
  show Calls Tryz.prog 75 #[stV k t n f (.slice ea e.length ec) ba b.length bc la l.length lc] w _
  have HF:=hid (fun W=>formedS_any k t n f ea e.length ec ba b.length bc la l.length lc W)
  generalize zaO k t n f e.length b.length l.length=r1 at HF
  generalize zam e=r2 at HA
  generalize zak b=r3 at HB
  generalize zak l=r4 at HL
  clear ih hp e1 z1 z2 z3 i1 i2 i3 hm
  generalize hr:(r1&&r2&&r3&&r4)=r
  have key:r1=false∧r=false∨r1=true∧(r2=false∧r=false∨r2=true∧(r3=false∧r=false∨r3=true∧r4=r)):=by
   rw[←hr]
   cases r1<;>cases r2<;>cases r3<;>simp
  clear hr
  rcases key with ⟨rfl,rfl⟩ | ⟨rfl,(⟨rfl,rfl⟩ | ⟨rfl,(⟨rfl,rfl⟩ | ⟨rfl,rfl⟩)⟩)⟩
  all_goals
   go_enter Tryz.func75,Tryz.ntmps75
   go_wp2_with (first
    | (go_at_call 74;have hx:=HL.out _ (HP.out.on B3.out);refine hx.mono ?_;clear hx;rintro e w4 ⟨rfl,hb4⟩;have B4:=hid (zan B3.out hb4);clear hb4)
    | (go_at_call 74;have hx:=HB.out _ (HP.out.on B2.out);refine hx.mono ?_;clear hx;rintro e w3 ⟨rfl,hb3⟩;have B3:=hid (zan B2.out hb3);have X3:=hid ((hb3.block w.heap.size (lt_of_block X2.out)).trans X2.out);obtain⟨p0,p1,p2,p3,p4,p5,p6⟩:=zbB X3.out;clear hb3)
    | (go_at_call 110;have hx:=HA.out _ (HP.out.on B1.out);refine hx.mono ?_;clear hx;rintro e w2 ⟨rfl,hb2⟩;have B2:=hid (zan B1.out hb2);have X2:=hid ((hb2.block w.heap.size (lt_of_block X1.out)).trans X1.out);obtain⟨d0,d1,d2,d3,d4,d5,d6⟩:=zbB X2.out;clear hb2)
    | (go_at_call 109;refine(HF.out _).mono ?_;rintro e w1 ⟨rfl,hb⟩;have B1:=hid (zan ((Below.refl _ _).alloc (Nat.le_refl _) _) hb);have X1:=hid ((hb.block w.heap.size (by simp)).trans (zaj w _));obtain⟨c0,c1,c2,c3,c4,c5,c6⟩:=zbB X1.out;clear hb))
   go_ret
   exact⟨by simp,by first | exact B4.out | exact B3.out | exact B2.out | exact B1.out⟩
end Go.Proofs.YtljbbhhiiiepcaaGreatDoor
