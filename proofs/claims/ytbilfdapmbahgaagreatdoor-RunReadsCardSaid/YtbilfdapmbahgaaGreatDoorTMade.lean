/- Worlds between which little has turned: what they keep of expressions and statements; rows of one expression, of two. -/
import Derived.Test.YtbilfdapmbahgaaGreatDoorTText
import Derived.Test.YtbilfdapmbahgaaGreatDoorWFind
import Derived.Test.YtbilfdapmbahgaaGreatDoorTStHeap
import Derived.Maps.AppendAt
set_option linter.unusedSimpArgs false
set_option linter.unusedVariables false
set_option maxHeartbeats 8000000
set_option maxRecDepth 100000
namespace Go.Proofs.YtbilfdapmbahgaaGreatDoor.Pm
open Go
structure PS where
 ws:List Tok
 sts:Nat
 op:Nat
 mo:Nat
deriving DecidableEq
inductive PR (α:Type) where
 | ok (a:α) (s:PS)
 | bad (e:Nat) (s:PS)
deriving DecidableEq
def PR.bind {α β:Type} (r:PR α) (f:α→PS→PR β):PR β:=match r with
 | .ok a s=>f a s
 | .bad e s=>.bad e s
def cur (z:Nat) (s:PS):Tok:=s.ws.headD ⟨0,[],0,z⟩
def nxt (z:Nat) (s:PS):Tok:=s.ws.tail.headD ⟨0,[],0,z⟩
def place (z:Nat) (s:PS):Nat:=(cur z s).at'
def enter (s:PS):PR Unit:=if s.op=40 then .bad 4 s else .ok () {s with op:=s.op+1,mo:=max s.mo (s.op+1)}
def za0 (t:List UInt8):Bool:=t==[40]||t==[91]||t==[123]
def za1 (t:List UInt8):Bool:=t==[41]||t==[93]||t==[125]
def pass (z:Nat) (s:PS):PR Tok:=
 if za0 (cur z s).text then (enter s).bind fun _ s'=>.ok (cur z s) {s' with ws:=s'.ws.tail}
 else if za1 (cur z s).text then .ok (cur z s) {s with ws:=s.ws.tail,op:=s.op - 1}
 else .ok (cur z s) {s with ws:=s.ws.tail}
def must (b:Bool) (s:PS):PR Unit:=if b then .ok () s else .bad 3 s
def at' (z:Nat) (t:List UInt8) (s:PS):Bool:=(cur z s).text==t
def take (z:Nat) (t:List UInt8) (s:PS):PR Unit:=if at' z t s then (pass z s).bind fun _ s'=>.ok () s' else .bad 3 s
def zdX (z k:Nat) (s:PS):PR Tok:=if (cur z s).kind==k then pass z s else .bad 3 s
def skip (s:PS):PS:={s with ws:=s.ws.tail}
def name (z:Nat) (s:PS):PR (List UInt8):=if (cur z s).kind==1 then .ok (cur z s).text (skip s) else .bad 3 s
def zao {α:Type} (z:Nat) (o:List UInt8) (inside:PS→PR α) (c:List UInt8) (s:PS):PR α:=
 (take z o s).bind fun _ s1=>(inside s1).bind fun x s2=>(take z c s2).bind fun _ s3=>.ok x s3
def lev (t:List UInt8):Int:=zas ⟨t.toArray⟩
def isUn (t:List UInt8):Bool:=t==[45]||t==[126]||t==[33]
def leave (s:PS):PS:={s with op:=s.op - 1}
def more {α:Type} (z:Nat) (item:PS→PR α):Nat→List α→PS→PR (List α)
 | 0,_,s=>.bad 99 s
 | m+1,l,s=>if at' z [44] s then (item (skip s)).bind fun x s2=>more z item m (l++[x]) s2 else .ok l s
def list {α:Type} (z m:Nat) (item:PS→PR α) (s:PS):PR (List α):=(item s).bind fun x s1=>more z item m [x] s1
def args {α:Type} (z m:Nat) (item:PS→PR α) (s:PS):PR (List α):=
 zao z [40] (fun s1=>if at' z [41] s1 then .ok [] s1 else list z m item s1) [41] s
def zec (z:Nat) (s:PS):PR RE:=if (cur z s).n < 9223372036854775808 then .ok (.num (cur z s).n) (skip s) else .bad 3 s
def zda (z:Nat) (s:PS):PR RE:=.ok (.num (-((nxt z s).n:Int))) (skip (skip s))
def named (z:Nat) (m:PS→PR RE) (s:PS):PR RE:=(name z s).bind fun x s1=>if at' z [91] s1 then (zao z [91] m [93] s1).bind fun e s2=>.ok (.idx x e) s2 else .ok (.var x) s1
def zd8 (z:Nat) (m:PS→PR RE) (s:PS):PR RE:=if isUn (cur z s).text then (enter s).bind fun _ s1=>(m (skip s1)).bind fun e s3=>.ok (.un ((cur z s).text.headD 0) e) (leave s3) else .bad 3 s
mutual
def zav (z:Nat):Nat→PS→PR RE
 | 0,s=>.bad 99 s
 | m+1,s =>
  if (cur z s).kind==2 then zec z s
  else if (cur z s).kind==1 then named z (zbg z m 1) s
  else if at' z [45] s&&(nxt z s).kind==2 then zda z s
  else if at' z [40] s then zao z [40] (zbg z m 1) [41] s
  else zd8 z (zav z m) s
def zbg (z:Nat):Nat→Int→PS→PR RE
 | 0,_,s=>.bad 99 s
 | m+1,k,s=>(zav z m s).bind fun x s1=>tail z m k x s1
def tail (z:Nat):Nat→Int→RE→PS→PR RE
 | 0,_,_,s=>.bad 99 s
 | m+1,k,x,s=>if k≤lev (cur z s).text then (zbg z m (lev (cur z s).text+1) (skip s)).bind fun y s2=>tail z m k (.bin (cur z s).text x y) s2 else .ok x s
end
def expr (z m:Nat):PS→PR RE:=zbg z m 1
def RS.put (t:Nat):RS→RS
 | .asg _ x e=>.asg t x e
 | .sto _ x i e=>.sto t x i e
 | .rd _ x=>.rd t x
 | .call _ x f l=>.call t x f l
 | .ife _ c b l=>.ife t c b l
 | .whl _ c b=>.whl t c b
 | .brk _=>.brk t
 | .cnt _=>.cnt t
 | .ret _ e=>.ret t e
 | .ass _ e=>.ass t e
def kIf:List UInt8:=[105,102]
def kWhile:List UInt8:=[119,104,105,108,101]
def kBreak:List UInt8:=[98,114,101,97,107]
def zbZ:List UInt8:=[99,111,110,116,105,110,117,101]
def zdB:List UInt8:=[114,101,116,117,114,110]
def zdC:List UInt8:=[97,115,115,101,114,116]
def kElse:List UInt8:=[101,108,115,101]
def zeu:List UInt8:=[114,101,97,100]
def kFunc:List UInt8:=[102,117,110,99]
def kVar:List UInt8:=[118,97,114]
def tag (z:Nat) (s:PS):PR Nat:=if (cur z s).kind==3 then (if 0 < (cur z s).n then .ok (cur z s).n (skip s) else .bad 3 s) else .ok 0 s
def zaD (z:Nat) (r:RS) (s:PS):PR RS:=(take z [59] s).bind fun _ s1=>.ok r s1
def test (z m:Nat) (k:List UInt8) (s:PS):PR RE:=(take z k s).bind fun _ s1=>zao z [40] (expr z m) [41] s1
def zdY (z:Nat) (s:PS):PR RS:=(take z kBreak s).bind fun _ s1=>zaD z (.brk 0) s1
def goOn (z:Nat) (s:PS):PR RS:=(take z zbZ s).bind fun _ s1=>zaD z (.cnt 0) s1
def zb7 (z m:Nat) (s:PS):PR RS:=(take z zdB s).bind fun _ s1=>(expr z m s1).bind fun e s2=>zaD z (.ret 0 e) s2
def zb0 (z m:Nat) (s:PS):PR RS:=(test z m zdC s).bind fun e s1=>zaD z (.ass 0 e) s1
def store (z m:Nat) (x:List UInt8) (s:PS):PR RS:=(zao z [91] (expr z m) [93] s).bind fun i s1=>(take z [61] s1).bind fun _ s2=>(expr z m s2).bind fun e s3=>zaD z (.sto 0 x i e) s3
def input (z:Nat) (x:List UInt8) (s:PS):PR RS:=(take z zeu s).bind fun _ s1=>(take z [40] s1).bind fun _ s2=>(take z [41] s2).bind fun _ s3=>zaD z (.rd 0 x) s3
def call (z m:Nat) (x:List UInt8) (s:PS):PR RS:=(name z s).bind fun f s1=>(args z m (expr z m) s1).bind fun l s2=>zaD z (.call 0 x f l) s2
def zaP (z m:Nat) (s:PS):PR RS:=(name z s).bind fun x s1 =>
 if at' z [91] s1 then store z m x s1
 else (take z [61] s1).bind fun _ s2 =>
  if at' z zeu s2 then input z x s2
  else if (cur z s2).kind==1&&(nxt z s2).text==[40] then call z m x s2
  else (expr z m s2).bind fun e s3=>zaD z (.asg 0 x e) s3
mutual
def za6 (z:Nat):Nat→PS→PR RS
 | 0,s=>.bad 99 s
 | m+1,s=>(test z m kIf s).bind fun c s1=>(zao z [123] (block z m []) [125] s1).bind fun b s2 =>
  if at' z kElse s2 then (zao z [123] (block z m []) [125] (skip s2)).bind fun l s4=>.ok (.ife 0 c b l) s4 else .ok (.ife 0 c b []) s2
def loop (z:Nat):Nat→PS→PR RS
 | 0,s=>.bad 99 s
 | m+1,s=>(test z m kWhile s).bind fun c s1=>(zao z [123] (block z m []) [125] s1).bind fun b s2=>.ok (.whl 0 c b) s2
def stmt (z:Nat):Nat→PS→PR RS
 | 0,s=>.bad 99 s
 | m+1,s=>(tag z s).bind fun t s1=>(
  if at' z kIf s1 then za6 z m s1
  else if at' z kWhile s1 then loop z m s1
  else if at' z kBreak s1 then zdY z s1
  else if at' z zbZ s1 then goOn z s1
  else if at' z zdB s1 then zb7 z m s1
  else if at' z zdC s1 then zb0 z m s1
  else zaP z m s1).bind fun r s2=>.ok (RS.put t r) s2
def block (z:Nat):Nat→List RS→PS→PR (List RS)
 | 0,_,s=>.bad 99 s
 | m+1,l,s=>if at' z [125] s then .ok l s else if s.sts=400 then .bad 5 s
  else (stmt z m {s with sts:=s.sts+1}).bind fun r s1=>block z m (l++[r]) s1
end
def length (z:Nat) (s:PS):PR Nat:=if (cur z s).kind==2&&(decide (1≤(cur z s).n)&&decide ((cur z s).n≤1000000)) then .ok (cur z s).n (skip s) else .bad 3 s
def decl (z:Nat) (s:PS):PR (List UInt8×Nat):=(name z s).bind fun x s1=>if at' z [91] s1 then (zao z [91] (length z) [93] s1).bind fun n s2=>.ok (x,n) s2 else .ok (x,0) s1
def vars (z m:Nat) (s:PS):PR (List (List UInt8×Nat)):=if at' z kVar s then (list z m (decl z) (skip s)).bind fun l s2=>(take z [59] s2).bind fun _ s3=>.ok l s3 else .ok [] s
def za2 (z m:Nat) (s:PS):PR RF:=(take z kFunc s).bind fun _ s1=>(name z s1).bind fun x s2=>(args z m (name z) s2).bind fun ps s3=>(take z [123] s3).bind fun _ s4 =>
 (vars z m s4).bind fun vs s5=>(block z m [] s5).bind fun b s6=>(take z [125] s6).bind fun _ s7=>.ok ⟨x,ps,vs,b⟩ s7
def funcs (z m:Nat):Nat→List RF→PS→PR (List RF)
 | 0,_,s=>.bad 99 s
 | k+1,l,s=>if s.ws.isEmpty then .ok l s else (za2 z m s).bind fun f s1=>funcs z m k (l++[f]) s1
def zbG (z m:Nat) (s:PS):PR (List RF):=(za2 z m s).bind fun f s1=>funcs z m m [f] s1
def whole {α:Type} (z:Nat) (rule:PS→PR α) (ws:List Tok):PR α:=(rule ⟨ws,0,0,0⟩).bind fun x s=>if s.ws.isEmpty then .ok x s else .bad 3 s
def Fin {α:Type} (r:PR α):Prop:=∀s',r≠.bad 99 s'
theorem Fin.fst {α β:Type} {r:PR α} {g:α→PS→PR β} (h:Fin (r.bind g)):Fin r:=fun s' e=>h s' (by rw[e];rfl)
theorem Fin.snd {α β:Type} {r:PR α} {g:α→PS→PR β} (h:Fin (r.bind g)) {a:α} {s:PS} (e:r=.ok a s):Fin (g a s):=fun s' e'=>h s' (by rw[e];exact e')
end Go.Proofs.YtbilfdapmbahgaaGreatDoor.Pm
namespace Go.Proofs.YtbilfdapmbahgaaGreatDoor.Pm
open Go
def Keeps {α:Type} (m:PS→PR α):Prop:=∀s a s',m s=.ok a s'→s'.ws.length≤s.ws.length∧s'.op=s.op
theorem zaQ {α β:Type} {r:PR α} {g:α→PS→PR β} {b:β} {s':PS} (h:r.bind g=.ok b s'):∃a s1,r=.ok a s1∧g a s1=.ok b s':=by
 cases r with
 | ok a s1=>exact⟨a,s1,rfl,h⟩
 | bad n s1=>cases h
theorem zdD {z:Nat} {s s':PS} {t:Tok} (h:pass z s=.ok t s'):t=cur z s∧s'.ws=s.ws.tail∧s'.sts=s.sts∧(za0 t.text=true→s'.op=s.op+1)∧(za0 t.text=false→za1 t.text=true→s'.op=s.op - 1)∧(za0 t.text=false→za1 t.text=false→s'.op=s.op):=by
 unfold pass at h
 split at h
 ·rename_i ho
  obtain⟨u,s1,h1,h2⟩:=zaQ h
  unfold enter at h1
  split at h1
  ·cases h1
  ·cases h1
   cases h2
   exact⟨rfl,rfl,rfl,by simp_all,by simp_all,by simp_all⟩
 ·rename_i ho
  have ho':za0 (cur z s).text=false:=by simpa using ho
  split at h
  ·rename_i hc
   cases h
   exact⟨rfl,rfl,rfl,by simp_all,by simp_all,by simp_all⟩
  ·rename_i hc
   cases h
   have hc':za1 (cur z s).text=false:=by simpa using hc
   exact⟨rfl,rfl,rfl,by simp_all,by simp_all,by simp_all⟩
theorem pass_len {z:Nat} {s s':PS} {t:Tok} (h:pass z s=.ok t s'):s'.ws.length≤s.ws.length:=by
 have:=(zdD h).2.1
 rw[this,List.length_tail];omega
theorem pass_flat {z:Nat} {s s':PS} {t:Tok} (h:pass z s=.ok t s') (h1:za0 (cur z s).text=false) (h2:za1 (cur z s).text=false):s'.ws.length≤s.ws.length∧s'.op=s.op:=by
 obtain⟨rfl,-,-,-,-,h3⟩:=zdD h
 exact⟨pass_len h,h3 h1 h2⟩
theorem take_ok {z:Nat} {l:List UInt8} {s s':PS} {u:Unit} (h:take z l s=.ok u s'):(cur z s).text=l∧pass z s=.ok (cur z s) s':=by
 unfold take at h
 split at h
 ·rename_i ha
  obtain⟨t,s1,h1,h2⟩:=zaQ h
  cases h2
  unfold at' at ha
  obtain⟨rfl,-⟩:=zdD h1
  exact⟨by simpa using ha,h1⟩
 ·cases h
theorem take_flat {z:Nat} {l:List UInt8} {s s':PS} {u:Unit} (h:take z l s=.ok u s') (h1:za0 l=false) (h2:za1 l=false):s'.ws.length≤s.ws.length∧s'.op=s.op:=by
 obtain⟨e,hp⟩:=take_ok h
 exact pass_flat hp (by rw[e];exact h1) (by rw[e];exact h2)
theorem zbk {z:Nat} {l:List UInt8} {s s':PS} {u:Unit} (h:take z l s=.ok u s') (h1:za0 l=true):s'.ws.length≤s.ws.length∧s'.op=s.op+1:=by
 obtain⟨e,hp⟩:=take_ok h
 exact⟨pass_len hp,(zdD hp).2.2.2.1 (by rw[e];exact h1)⟩
theorem zeV {z:Nat} {l:List UInt8} {s s':PS} {u:Unit} (h:take z l s=.ok u s') (h1:za0 l=false) (h2:za1 l=true):s'.ws.length≤s.ws.length∧s'.op=s.op - 1:=by
 obtain⟨e,hp⟩:=take_ok h
 exact⟨pass_len hp,(zdD hp).2.2.2.2.1 (by rw[e];exact h1) (by rw[e];exact h2)⟩
theorem keeps_within {α:Type} {z:Nat} {o c:List UInt8} {m:PS→PR α} (ho:za0 o=true) (hc:za0 c=false) (hs:za1 c=true) (hm:Keeps m):Keeps (zao z o m c):=by
 intro s a s' h
 unfold zao at h
 obtain⟨u,s1,h1,h⟩:=zaQ h
 obtain⟨x,s2,h2,h⟩:=zaQ h
 obtain⟨u',s3,h3,h⟩:=zaQ h
 cases h
 have e1:=zbk h1 ho
 have e2:=hm _ _ _ h2
 have e3:=zeV h3 hc hs
 omega
theorem zb8 (s:PS):(skip s).ws.length≤s.ws.length∧(skip s).op=s.op:=⟨by show s.ws.tail.length≤_;rw[List.length_tail];omega,rfl⟩
theorem keeps_name (z:Nat):Keeps (name z):=by
 intro s a s' h
 unfold name at h
 split at h
 ·cases h;exact zb8 s
 ·cases h
theorem keeps_number (z:Nat):Keeps (zec z):=by
 intro s a s' h
 unfold zec at h
 split at h
 ·cases h;exact zb8 s
 ·cases h
theorem keeps_negative (z:Nat):Keeps (zda z):=by
 intro s a s' h
 unfold zda at h
 cases h
 have h1:=zb8 s
 have h2:=zb8 (skip s)
 omega
theorem keeps_named {z:Nat} {m:PS→PR RE} (hm:Keeps m):Keeps (named z m):=by
 intro s a s' h
 unfold named at h
 obtain⟨x,s1,h1,h⟩:=zaQ h
 have k1:=keeps_name z _ _ _ h1
 split at h
 ·obtain⟨e,s2,h2,h⟩:=zaQ h
  cases h
  have k2:=keeps_within (o:=[91]) (c:=[93]) rfl rfl rfl hm _ _ _ h2
  omega
 ·cases h;exact k1
theorem keeps_unary {z:Nat} {m:PS→PR RE} (hm:Keeps m):Keeps (zd8 z m):=by
 intro s a s' h
 unfold zd8 at h
 split at h
 ·obtain⟨u,s1,h1,h⟩:=zaQ h
  obtain⟨e,s2,h2,h⟩:=zaQ h
  cases h
  have k2:=hm _ _ _ h2
  have k3:=zb8 s1
  unfold enter at h1
  split at h1
  ·cases h1
  ·cases h1
   refine⟨?_,?_⟩
   ·show s2.ws.length≤_
    have:=k3.1
    simp only at this k2
    omega
   ·show s2.op - 1=_
    have e1:s2.op=s.op+1:=k2.2
    omega
 ·cases h
theorem zce (z:Nat):∀m,Keeps (zav z m)∧(∀k,Keeps (zbg z m k))∧(∀k x,Keeps (tail z m k x)):=by
 intro m
 induction m with
 | zero =>
  refine⟨fun s a s' h=>?_,fun k s a s' h=>?_,fun k x s a s' h=>?_⟩
  ·rw[zav] at h;cases h
  ·rw[zbg] at h;cases h
  ·rw[tail] at h;cases h
 | succ m ih =>
  obtain⟨i1,i2,i3⟩:=ih
  refine⟨fun s a s' h=>?_,fun k s a s' h=>?_,fun k x s a s' h=>?_⟩
  ·rw[zav] at h
   split at h
   ·exact keeps_number z _ _ _ h
   ·split at h
    ·exact keeps_named (i2 1) _ _ _ h
    ·split at h
     ·exact keeps_negative z _ _ _ h
     ·split at h
      ·exact keeps_within (o:=[40]) (c:=[41]) rfl rfl rfl (i2 1) _ _ _ h
      ·exact keeps_unary i1 _ _ _ h
  ·rw[zbg] at h
   obtain⟨x,s1,h1,h⟩:=zaQ h
   have k1:=i1 _ _ _ h1
   have k2:=i3 _ _ _ _ _ h
   omega
  ·rw[tail] at h
   split at h
   ·obtain⟨y,s1,h1,h⟩:=zaQ h
    have k1:=i2 _ _ _ _ h1
    have k2:=i3 _ _ _ _ _ h
    have k3:=zb8 s
    omega
   ·cases h
    exact⟨Nat.le_refl _,rfl⟩
end Go.Proofs.YtbilfdapmbahgaaGreatDoor.Pm
namespace Go.Proofs.YtbilfdapmbahgaaGreatDoor.Pm
open Go
def KR {α:Type} (s:PS) (r:PR α):Prop:=∀a s',r=.ok a s'→s'.ws.length≤s.ws.length∧s'.op=s.op∧s.sts≤s'.sts
theorem zcK {α:Type} (s:PS) (a:α):KR s (.ok a s):=fun _ _ h=>by cases h;exact⟨Nat.le_refl _,rfl,Nat.le_refl _⟩
theorem zcw {α:Type} (s s':PS) (n:Nat):KR (α:=α) s (.bad n s'):=fun _ _ h=>by cases h
theorem zaK {α β:Type} {s:PS} {r:PR α} {g:α→PS→PR β} (h:KR s r) (hg:∀a s1,KR s1 (g a s1)):KR s (r.bind g):=fun a s' e=>by
 obtain⟨x,s1,h1,h2⟩:=zaQ e
 have k1:=h _ _ h1
 have k2:=hg _ _ _ _ h2
 omega
theorem zcL {α:Type} {s:PS} {r:PR α} (h:KR (skip s) r):KR s r:=fun a s' e=>by
 have k1:=h _ _ e
 have k2:=zb8 s
 have k3:(skip s).sts=s.sts:=rfl
 omega
theorem zdE {z:Nat} {l:List UInt8} (h1:za0 l=false) (h2:za1 l=false) (s:PS):KR s (take z l s):=fun a s' e=>by
 have k1:=take_flat e h1 h2
 have k2:=(zdD (take_ok e).2).2.2.1
 omega
theorem zcx {z:Nat} {l:List UInt8} {s s':PS} {u:Unit} (h:take z l s=.ok u s'):s'.sts=s.sts:=(zdD (take_ok h).2).2.2.1
theorem zbH {α:Type} {z:Nat} {o c:List UInt8} {m:PS→PR α} (ho:za0 o=true) (hc:za0 c=false) (hs:za1 c=true) (hm:∀s,KR s (m s)) (s:PS):KR s (zao z o m c s):=by
 intro a s' h
 unfold zao at h
 obtain⟨u,s1,h1,h⟩:=zaQ h
 obtain⟨x,s2,h2,h⟩:=zaQ h
 obtain⟨u',s3,h3,h⟩:=zaQ h
 cases h
 have e1:=zbk h1 ho
 have e2:=hm _ _ _ h2
 have e3:=zeV h3 hc hs
 have e4:=zcx h1
 have e5:=zcx h3
 omega
theorem zev (z:Nat) (s:PS):KR s (name z s):=by
 unfold name
 split
 ·exact zcL (zcK _ _)
 ·exact zcw _ _ _
theorem kr_expr (z:Nat):∀m,(∀s,KR s (zav z m s))∧(∀k s,KR s (zbg z m k s))∧(∀k x s,KR s (tail z m k x s)):=by
 intro m
 induction m with
 | zero =>
  refine⟨fun s=>?_,fun k s=>?_,fun k x s=>?_⟩
  ·rw[zav];exact zcw _ _ _
  ·rw[zbg];exact zcw _ _ _
  ·rw[tail];exact zcw _ _ _
 | succ m ih =>
  obtain⟨i1,i2,i3⟩:=ih
  refine⟨fun s=>?_,fun k s=>?_,fun k x s=>?_⟩
  ·rw[zav]
   split
   ·unfold zec
    split
    ·exact zcL (zcK _ _)
    ·exact zcw _ _ _
   ·split
    ·unfold named
     refine zaK (zev _ _) fun x s1=>?_
     split
     ·exact zaK (zbH rfl rfl rfl (i2 1) _) fun _ _=>zcK _ _
     ·exact zcK _ _
    ·split
     ·unfold zda;exact zcL (zcL (zcK _ _))
     ·split
      ·exact zbH rfl rfl rfl (i2 1) _
      ·unfold zd8
       split
       ·intro a s' h
        obtain⟨u,s1,h1,h⟩:=zaQ h
        obtain⟨e,s2,h2,h⟩:=zaQ h
        cases h
        have k2:=i1 _ _ _ h2
        have k3:=zb8 s1
        have k4:(skip s1).sts=s1.sts:=rfl
        unfold enter at h1
        split at h1
        ·cases h1
        ·cases h1
         have e1:s2.op=s.op+1:=k2.2.1
         have e2:s.sts≤s2.sts:=k2.2.2
         have e3:=k3.1
         simp only at e3
         refine⟨?_,?_,e2⟩
         ·show s2.ws.length≤_;omega
         ·show s2.op - 1=_;omega
       ·exact zcw _ _ _
  ·rw[zbg];exact zaK (i1 _) fun _ _=>i3 _ _ _
  ·rw[tail]
   split
   ·exact zcL (zaK (i2 _ _) fun _ _=>i3 _ _ _)
   ·exact zcK _ _
theorem kr_ex (z m:Nat) (s:PS):KR s (expr z m s):=(kr_expr z m).2.1 1 s
theorem kr_more {α:Type} {z:Nat} {m:PS→PR α} (hm:∀s,KR s (m s)):∀n (l:List α) s,KR s (more z m n l s):=by
 intro n
 induction n with
 | zero=>intro l s;rw[more];exact zcw _ _ _
 | succ n ih =>
  intro l s
  rw[more]
  split
  ·exact zcL (zaK (hm _) fun _ _=>ih _ _)
  ·exact zcK _ _
theorem kr_list {α:Type} {z n:Nat} {m:PS→PR α} (hm:∀s,KR s (m s)) (s:PS):KR s (list z n m s):=zaK (hm _) fun _ _=>kr_more hm _ _ _
theorem kr_args {α:Type} {z n:Nat} {m:PS→PR α} (hm:∀s,KR s (m s)) (s:PS):KR s (args z n m s):=by
 unfold args
 refine zbH rfl rfl rfl (fun s=>?_) _
 split
 ·exact zcK _ _
 ·exact kr_list hm _
theorem kr_tag (z:Nat) (s:PS):KR s (tag z s):=by
 unfold tag
 split
 ·split
  ·exact zcL (zcK _ _)
  ·exact zcw _ _ _
 ·exact zcK _ _
theorem zb1 (z:Nat) (r:RS) (s:PS):KR s (zaD z r s):=zaK (zdE rfl rfl _) fun _ _=>zcK _ _
theorem kr_test (z m:Nat) {k:List UInt8} (h1:za0 k=false) (h2:za1 k=false) (s:PS):KR s (test z m k s):=zaK (zdE h1 h2 _) fun _ _=>zbH rfl rfl rfl (kr_ex z m) _
theorem kr_setting (z m:Nat) (s:PS):KR s (zaP z m s):=by
 unfold zaP
 refine zaK (zev _ _) fun x s1=>?_
 split
 ·exact zaK (zbH rfl rfl rfl (kr_ex z m) _) fun _ _=>zaK (zdE rfl rfl _) fun _ _=>zaK (kr_ex z m _) fun _ _=>zb1 _ _ _
 ·refine zaK (zdE rfl rfl _) fun _ s2=>?_
  split
  ·unfold input
   intro a s' h
   obtain⟨u1,t1,h1,h⟩:=zaQ h
   obtain⟨u2,t2,h2,h⟩:=zaQ h
   obtain⟨u3,t3,h3,h⟩:=zaQ h
   have k1:=take_flat h1 rfl rfl
   have k2:=zbk h2 rfl
   have k3:=zeV h3 rfl rfl
   have k4:=zb1 _ _ _ _ _ h
   have k5:=zcx h1
   have k6:=zcx h2
   have k7:=zcx h3
   omega
  ·split
   ·exact zaK (zev _ _) fun _ _=>zaK (kr_args (kr_ex z m) _) fun _ _=>zb1 _ _ _
   ·exact zaK (kr_ex z m _) fun _ _=>zb1 _ _ _
theorem kr_stmts (z:Nat):∀m,(∀s,KR s (za6 z m s))∧(∀s,KR s (loop z m s))∧(∀s,KR s (stmt z m s))∧(∀l s,KR s (block z m l s)):=by
 intro m
 induction m with
 | zero =>
  refine⟨fun s=>?_,fun s=>?_,fun s=>?_,fun l s=>?_⟩
  ·rw[za6];exact zcw _ _ _
  ·rw[loop];exact zcw _ _ _
  ·rw[stmt];exact zcw _ _ _
  ·rw[block];exact zcw _ _ _
 | succ m ih =>
  obtain⟨i1,i2,i3,i4⟩:=ih
  refine⟨fun s=>?_,fun s=>?_,fun s=>?_,fun l s=>?_⟩
  ·rw[za6]
   refine zaK (kr_test z m rfl rfl _) fun c s1=>zaK (zbH rfl rfl rfl (i4 []) _) fun b s2=>?_
   split
   ·exact zcL (zaK (zbH rfl rfl rfl (i4 []) _) fun _ _=>zcK _ _)
   ·exact zcK _ _
  ·rw[loop]
   exact zaK (kr_test z m rfl rfl _) fun c s1=>zaK (zbH rfl rfl rfl (i4 []) _) fun b s2=>zcK _ _
  ·rw[stmt]
   refine zaK (kr_tag _ _) fun t s1=>zaK ?_ fun _ _=>zcK _ _
   split
   ·exact i1 _
   ·split
    ·exact i2 _
    ·split
     ·exact zaK (zdE rfl rfl _) fun _ _=>zb1 _ _ _
     ·split
      ·exact zaK (zdE rfl rfl _) fun _ _=>zb1 _ _ _
      ·split
       ·exact zaK (zdE rfl rfl _) fun _ _=>zaK (kr_ex z m _) fun _ _=>zb1 _ _ _
       ·split
        ·exact zaK (kr_test z m rfl rfl _) fun _ _=>zb1 _ _ _
        ·exact kr_setting _ _ _
  ·rw[block]
   split
   ·exact zcK _ _
   ·split
    ·exact zcw _ _ _
    ·intro a s' h
     obtain⟨r,s1,h1,h⟩:=zaQ h
     have k1:=i3 _ _ _ h1
     have k2:=i4 _ _ _ _ h
     have e1:s1.ws.length≤s.ws.length:=k1.1
     have e2:s1.op=s.op:=k1.2.1
     have e3:s.sts+1≤s1.sts:=k1.2.2
     omega
end Go.Proofs.YtbilfdapmbahgaaGreatDoor.Pm

namespace Go.Proofs.YtbilfdapmbahgaaGreatDoor
open Go Go.RowKit
abbrev mE:ByteArray:={data:=#[]}
theorem zbb (w:World) (f k:Nat) (u:Value):w.grownBy (w.setCell ⟨f,k,none⟩ u) (some f):=
 ⟨rfl,rfl,rfl,by simp[World.setCell],fun k _ hk=>Below.heap_setCell _ _ _ _ (fun e=>hk (by simp[e]))⟩
theorem zai (w:World) (r:Option Nat):w.grownBy w r:=⟨rfl,rfl,rfl,Nat.le_refl _,fun _ _ _=>rfl⟩
theorem zaa {w w1 w2:World} {r:Option Nat} (h:w.grownBy w1 r) (k:w1.grownBy w2 r):w.grownBy w2 r:=
 ⟨k.os.trans h.os,k.tape.trans h.tape,k.output.trans h.output,Nat.le_trans h.size k.size,fun i hi hr=>(k.block i (Nat.lt_of_lt_of_le hi h.size) hr).trans (h.block i hi hr)⟩
theorem zad {w w1:World} {r:Option Nat} (h:w.grownBy w1 r) (o:Obj):w.grownBy (w1.alloc o) r:=zaa h (World.grownBy_alloc _ o r)
theorem grown_drew {w w1:World} {r:Option Nat} (h:w.grownBy w1 r):w.grownBy w1.drew r:=zaa h ⟨rfl,rfl,rfl,Nat.le_refl _,fun _ _ _=>rfl⟩
theorem zew {w w1:World} {r:Option Nat} (h:w.grownBy w1 r) (n:Nat):w.grownBy (w1.drewN n) r:=zaa h ⟨rfl,rfl,rfl,Nat.le_refl _,fun _ _ _=>rfl⟩
theorem zbp {w w1:World} {f:Nat} (h:w.grownBy w1 (some f)) (k:Nat) (u:Value):w.grownBy (w1.setCell ⟨f,k,none⟩ u) (some f):=zaa h (zbb _ _ _ _)
theorem zaj {w w1:World} {r:Option Nat} (h:w.grownBy w1 r) {R:Nat} (hR:w.heap.size≤R) (k:Nat) (u:Value):w.grownBy (w1.setCell ⟨R,k,none⟩ u) r:=
 ⟨h.os,h.tape,h.output,by simpa[World.setCell] using h.size,fun i hi hr=>(Below.heap_setCell _ _ _ _ (by simp;omega)).trans (h.block i hi hr)⟩
theorem num_in {n:Int} (h:-9223372036854775808≤n∧n≤9223372036854775807) (w:World) (B:Nat):(ET.mk 0 mE n mE none 0 []).In w B:=by
 rw[ET.In,EsIn]
 exact⟨h,by simp,trivial⟩
theorem var_in (s:ByteArray) (w:World) (B:Nat):(ET.mk 1 mE 0 s none 0 []).In w B:=by
 rw[ET.In,EsIn]
 exact⟨by decide,by simp,trivial⟩
abbrev five (T:ET):Array Value:=#[.int .i64 T.kind,.string T.op,.int .i64 T.n,.string T.name,.slice T.kaddr T.kids.length T.kcap]
structure KeptP (P:Nat→Prop) (w w':World):Prop where
 os:w'.os=w.os
 tape:w'.tape=w.tape
 output:w'.output=w.output
 size:w.heap.size≤w'.heap.size
 block:∀k,k < w.heap.size→¬P k→w'.heap[k]?=w.heap[k]?
section
variable {P:Nat→Prop} {a w w':World}
theorem KeptP.refl (P:Nat→Prop) (w:World):KeptP P w w:=⟨rfl,rfl,rfl,Nat.le_refl _,fun _ _ _=>rfl⟩
theorem KeptP.trans (h:KeptP P a w) (k:KeptP P w w'):KeptP P a w':=
 ⟨k.os.trans h.os,k.tape.trans h.tape,k.output.trans h.output,Nat.le_trans h.size k.size,fun i hi hp=>(k.block i (Nat.lt_of_lt_of_le hi h.size) hp).trans (h.block i hi hp)⟩
theorem KeptP.alloc (h:KeptP P a w) (o:Obj):KeptP P a (w.alloc o):=h.trans ⟨rfl,rfl,rfl,(World.grownBy_alloc w o none).size,fun k hk _=>Below.heap_alloc w o k hk⟩
theorem KeptP.drew (h:KeptP P a w):KeptP P a w.drew:=h.trans ⟨rfl,rfl,rfl,Nat.le_refl _,fun _ _ _=>rfl⟩
theorem KeptP.drewN (h:KeptP P a w) (n:Nat):KeptP P a (w.drewN n):=h.trans ⟨rfl,rfl,rfl,Nat.le_refl _,fun _ _ _=>rfl⟩
theorem KeptP.set (h:KeptP P a w) {b:Nat} (hb:P b) (k:Nat) (u:Value):KeptP P a (w.setCell ⟨b,k,none⟩ u):=h.trans ⟨rfl,rfl,rfl,by simp[World.setCell],fun i _ hp=>Below.heap_setCell _ _ _ _ (by rintro rfl;exact hp hb)⟩
theorem KeptP.grown (h:KeptP P a w) {b:Nat} (hb:P b) (hg:w.grownBy w' (some b)):KeptP P a w':=h.trans ⟨hg.os,hg.tape,hg.output,hg.size,fun i hi hp=>hg.block i hi (by simp;rintro rfl;exact hp hb)⟩
theorem KeptP.cell (h:KeptP P w w') {p:Addr} {v:Value} (hp:¬P p.block) (hc:w.cell? p=some v):w'.cell? p=some v:=by
 rw[World.cell?_of_block (w:=w) (h.block p.block (World.block_lt_of_cell? w p hc) hp)]
 exact hc
theorem KeptP.et (h:KeptP P w w') {A:Nat} (hP:∀b,A≤b→¬P b) {T:ET} (hT:T.In w A):T.In w' A:=hT.keep fun p v hp hc=>h.cell (hP _ hp) hc
theorem KeptP.ss (h:KeptP P w w') {A i:Nat} {q:Option Addr} {l:List ST} (hP:∀b,A≤b→¬P b) (hT:SsIn w A q i l):SsIn w' A q i l:=hT.keep fun p v hp hc=>h.cell (hP _ hp) hc
end
theorem zdF {w':World} {N B':Nat} {T:ET} (h2:w'.heap[N]?=some (.cells (five T) 86 (0,0))) (hT:T.In w' B') (hN:B'≤N):EsIn w' B' (some ⟨N,0,none⟩) 0 [T]:=by
 rw[EsIn,EsIn]
 refine⟨⟨N,0,rfl,hN,fun j u hj=>zab h2 ?_⟩,hT,trivial⟩
 rw[ET.cells_is] at hj
 rw[show 0+0*5+j=j by omega]
 exact hj
abbrev ten (T U:ET):Array Value:=#[.int .i64 T.kind,.string T.op,.int .i64 T.n,.string T.name,.slice T.kaddr T.kids.length T.kcap,.int .i64 U.kind,.string U.op,.int .i64 U.n,.string U.name,.slice U.kaddr U.kids.length U.kcap]
theorem five_lt {T:ET} {j:Nat} {u:Value} (h:(five T)[j]?=some u):j < 5:=by
 rcases Nat.lt_or_ge j 5 with h2 | h2
 ·exact h2
 ·rw[Array.getElem?_eq_none (by simpa using h2)] at h;cases h
theorem ten_fst {T U:ET} {j:Nat} {u:Value} (h:(five T)[j]?=some u):(ten T U)[j]?=some u:=by
 match j,five_lt h with
 | 0,_=>exact h
 | 1,_=>exact h
 | 2,_=>exact h
 | 3,_=>exact h
 | 4,_=>exact h
theorem ten_snd {T U:ET} {j:Nat} {u:Value} (h:(five U)[j]?=some u):(ten T U)[5+j]?=some u:=by
 match j,five_lt h with
 | 0,_=>exact h
 | 1,_=>exact h
 | 2,_=>exact h
 | 3,_=>exact h
 | 4,_=>exact h
theorem es_two_of {w':World} {N B':Nat} {T U:ET} {cs:Array Value} {t:TypeId} {fr:Nat×Nat} (h2:w'.heap[N]?=some (.cells cs t fr)) (hc:∀(j:Nat) (u:Value),(ten T U)[j]?=some u→cs[j]?=some u) (hT:T.In w' B') (hU:U.In w' B') (hN:B'≤N):EsIn w' B' (some ⟨N,0,none⟩) 0 [T,U]:=by
 rw[EsIn,EsIn,EsIn]
 refine⟨⟨N,0,rfl,hN,fun j u hj=>zab h2 ?_⟩,hT,⟨N,0,rfl,hN,fun j u hj=>zab h2 ?_⟩,hU,trivial⟩
 ·rw[ET.cells_is] at hj
  rw[show 0+0*5+j=j by omega]
  exact hc _ _ (ten_fst hj)
 ·rw[ET.cells_is] at hj
  rw[show 0+(0+1)*5+j=5+j by omega]
  exact hc _ _ (ten_snd hj)
def hide (g:Option Nat) (w:World):World:=
 match g with
 | none=>w
 | some b=>{w with heap:=w.heap.modify b fun _=>.cells #[] 0 (0,0)}
theorem zaG {g:Option Nat} {w:World} {p:Addr} {v:Value}:(hide g w).cell? p=some v↔some p.block≠g∧w.cell? p=some v:=by
 cases g with
 | none=>simp[hide]
 | some b =>
  by_cases h:b=p.block
  ·subst h
   constructor
   ·intro hc
    exfalso
    cases hh:w.heap[p.block]? with
    | none=>simp[hide,World.cell?,Array.getElem?_modify,hh] at hc
    | some o=>simp[hide,World.cell?,Array.getElem?_modify,hh] at hc
   ·intro⟨hn,_⟩;exact absurd rfl hn
  ·have e:(hide (some b) w).heap[p.block]?=w.heap[p.block]?:=by simp[hide,Array.getElem?_modify,h]
   rw[World.cell?_of_block e]
   simp;intro _ hb;exact h hb.symm
theorem zb2 {w:World} {b:Nat} {v0 v1 v2 v3:Value} {t:TypeId} (h:w.heap[b]?=some (.cells #[v0,v1,v2,v3] t (0,0))):(∀k,w.frozen? ⟨b,k,none⟩=false)∧w.cell? ⟨b,0,none⟩=some v0∧w.cell? ⟨b,1,none⟩=some v1∧w.cell? ⟨b,2,none⟩=some v2∧w.cell? ⟨b,3,none⟩=some v3∧b < w.heap.size:=
 ⟨fun k=>zaf h,zab h rfl,zab h rfl,zab h rfl,zab h rfl,lt_of_block h⟩
theorem zaN {w:World} {b:Nat} {v0 v1 v2 v3 v4:Value} {t:TypeId} (h:w.heap[b]?=some (.cells #[v0,v1,v2,v3,v4] t (0,0))):(∀k,w.frozen? ⟨b,k,none⟩=false)∧w.cell? ⟨b,0,none⟩=some v0∧w.cell? ⟨b,1,none⟩=some v1∧w.cell? ⟨b,2,none⟩=some v2∧w.cell? ⟨b,3,none⟩=some v3∧w.cell? ⟨b,4,none⟩=some v4∧b < w.heap.size:=
 ⟨fun k=>zaf h,zab h rfl,zab h rfl,zab h rfl,zab h rfl,zab h rfl,lt_of_block h⟩
theorem zax {w:World} {b:Nat} {v0 v1 v2 v3 v4 v5 v6:Value} {t:TypeId} (h:w.heap[b]?=some (.cells #[v0,v1,v2,v3,v4,v5,v6] t (0,0))):(∀k,w.frozen? ⟨b,k,none⟩=false)∧w.cell? ⟨b,0,none⟩=some v0∧w.cell? ⟨b,1,none⟩=some v1∧w.cell? ⟨b,2,none⟩=some v2∧w.cell? ⟨b,3,none⟩=some v3∧w.cell? ⟨b,4,none⟩=some v4∧w.cell? ⟨b,5,none⟩=some v5∧w.cell? ⟨b,6,none⟩=some v6∧b < w.heap.size:=
 ⟨fun k=>zaf h,zab h rfl,zab h rfl,zab h rfl,zab h rfl,zab h rfl,zab h rfl,zab h rfl,lt_of_block h⟩
end Go.Proofs.YtbilfdapmbahgaaGreatDoor
namespace Go.Proofs.YtbilfdapmbahgaaGreatDoor
open Go Go.RowKit
def MadeL (B0:Nat) (v:Value) (l:List ST) (w:World):Prop:=
 w.ownsRow B0 84 7 v l.length (l.flatMap fun S=>S.cells.toList)∧∀S∈l,S.In (hide v.ownBlock w) B0
theorem made_nil (B0:Nat) (w:World):MadeL B0 (.slice none 0 0) [] w:=⟨World.ownsRow_nil _ _ _ _,fun S hS=>by cases hS⟩
theorem MadeL.grown {B0 f:Nat} {v:Value} {l:List ST} {w w':World} (h:MadeL B0 v l w) (hg:w.grownBy w' (some f)) (hf:f < B0):MadeL B0 v l w':=by
 have hne:v.ownBlock≠some f:=fun e=>by have:=(h.1.lt _ e).1;omega
 refine⟨h.1.kept hg (Or.inr hne),fun S hS=>(h.2 S hS).keep fun p u hp hc=>?_⟩
 rw[zaG] at hc ⊢
 refine⟨hc.1,?_⟩
 rw[World.cell?_of_block (w:=w) (hg.block p.block (World.block_lt_of_cell? w p hc.2) (by simp;omega))]
 exact hc.2
theorem MadeL.alloc {B0:Nat} {v:Value} {l:List ST} {w:World} (h:MadeL B0 v l w) (o:Obj):MadeL B0 v l (w.alloc o):=by
 refine⟨h.1.alloc o,fun S hS=>(h.2 S hS).keep fun p u hp hc=>?_⟩
 rw[zaG] at hc ⊢
 refine⟨hc.1,?_⟩
 rw[World.cell?_alloc_lt _ _ _ (World.block_lt_of_cell? w p hc.2)]
 exact hc.2
theorem MadeL.snoc {B0 A:Nat} {v v':Value} {l:List ST} {S:ST} {w w':World} (h:MadeL B0 v l w) (hS:S.In w A) (hA:B0≤A) (hv:∀k,v.ownBlock=some k→k < A)
  (hown:w'.ownsRow B0 84 7 v' (l.length+1) ((l.flatMap fun S=>S.cells.toList)++S.cells.toList)) (hg:w.grownBy w' v.ownBlock) (hat:v'.ownBlock=v.ownBlock∨v'.ownBlock=some w.heap.size):MadeL B0 v' (l++[S]) w':=by
 have key:∀{T:ST},T.In (hide v.ownBlock w) B0→T.In (hide v'.ownBlock w') B0:=fun hT=>hT.keep fun p u hp hc=>by
  rw[zaG] at hc ⊢
  have hlt:=World.block_lt_of_cell? w p hc.2
  refine⟨?_,?_⟩
  ·rcases hat with e | e
   ·rw[e];exact hc.1
   ·rw[e];simp;omega
  ·rw[World.cell?_of_block (w:=w) (hg.block p.block hlt hc.1)]
   exact hc.2
 refine⟨by simpa using hown,fun T hT=>?_⟩
 rcases List.mem_append.1 hT with hT | hT
 ·exact key (h.2 T hT)
 ·simp only[List.mem_singleton] at hT
  subst hT
  refine key ((hS.keep (w':=hide v.ownBlock w) fun p u hp hc=>?_).mono hA)
  rw[zaG]
  refine⟨fun e=>?_,hc⟩
  have:=hv _ e.symm
  omega
theorem zdb (S:ST):S.cells.toList.length=7:=by cases S;rfl
theorem flat_at:∀(l:List ST) (i j:Nat) (hi:i < l.length),j < 7→(l.flatMap fun S=>S.cells.toList)[i*7+j]?=l[i].cells.toList[j]?
 | S :: l,0,j,_,hj=>by
  rw[List.flatMap_cons,List.getElem?_append_left (by rw[zdb];omega)]
  simp
 | S :: l,i+1,j,hi,hj=>by
  rw[List.flatMap_cons,List.getElem?_append_right (by rw[zdb];omega),zdb]
  rw[show(i+1)*7+j - 7=i*7+j by omega]
  exact flat_at l i j (by simpa using hi) hj
theorem ss_of_rows {w:World} {B:Nat} {a:Option Addr}:∀(l:List ST) (i:Nat),(∀j (hj:j < l.length),RowAt w B a (i+j) 7 l[j].cells∧l[j].In w B)→SsIn w B a i l
 | [],i,_=>by rw[SsIn];trivial
 | S :: l,i,h=>by
  rw[SsIn]
  refine⟨(h 0 (by simp)).1,(h 0 (by simp)).2,ss_of_rows l (i+1) fun j hj=>?_⟩
  have:=h (j+1) (by simpa using hj)
  rw[show i+(j+1)=i+1+j by omega] at this
  exact this
theorem MadeL.ss {B0:Nat} {v:Value} {l:List ST} {w:World} (h:MadeL B0 v l w):∃a c,v=.slice a l.length c∧SsIn w B0 a 0 l:=by
 have hin:∀S∈l,S.In w B0:=fun S hS=>(h.2 S hS).keep fun p u hp hc=>(zaG.1 hc).2
 rcases h.1.2 with ⟨e,hl⟩ | ⟨g,cap,cur,e,hg,hb,hn,hm,hs,ht⟩
 ·have:l=[]:=List.length_eq_zero_iff.1 hl
  subst this
  exact⟨none,0,e,by rw[SsIn];trivial⟩
 ·refine⟨some ⟨g,0,none⟩,cap,e,ss_of_rows l 0 fun j hj=>⟨⟨g,0,rfl,hg,fun k u hk=>?_⟩,hin _ (List.getElem_mem hj)⟩⟩
  have hk7:k < 7:=by
   have h1:=zdb l[j]
   rcases Nat.lt_or_ge k 7 with h2 | h2
   ·exact h2
   ·rw[Array.getElem?_eq_none (by simpa using (by rw[←h1] at h2;simpa using h2))] at hk;cases hk
  refine zab hb ?_
  have h1:=flat_at l j k hj hk7
  rw[←ht] at h1
  rw[List.getElem?_take_of_lt (by omega)] at h1
  rw[show 0+(0+j)*7+k=j*7+k by omega,←Array.getElem?_toList,h1,Array.getElem?_toList]
  exact hk
def MadeE (B0:Nat) (v:Value) (l:List ET) (w:World):Prop:=
 w.ownsRow B0 86 5 v l.length (l.flatMap fun S=>S.cells.toList)∧∀S∈l,S.In (hide v.ownBlock w) B0
theorem MadeE.grown {B0 f:Nat} {v:Value} {l:List ET} {w w':World} (h:MadeE B0 v l w) (hg:w.grownBy w' (some f)) (hf:f < B0):MadeE B0 v l w':=by
 have hne:v.ownBlock≠some f:=fun e=>by have:=(h.1.lt _ e).1;omega
 refine⟨h.1.kept hg (Or.inr hne),fun S hS=>(h.2 S hS).keep fun p u hp hc=>?_⟩
 rw[zaG] at hc ⊢
 refine⟨hc.1,?_⟩
 rw[World.cell?_of_block (w:=w) (hg.block p.block (World.block_lt_of_cell? w p hc.2) (by simp;omega))]
 exact hc.2
theorem MadeE.alloc {B0:Nat} {v:Value} {l:List ET} {w:World} (h:MadeE B0 v l w) (o:Obj):MadeE B0 v l (w.alloc o):=by
 refine⟨h.1.alloc o,fun S hS=>(h.2 S hS).keep fun p u hp hc=>?_⟩
 rw[zaG] at hc ⊢
 refine⟨hc.1,?_⟩
 rw[World.cell?_alloc_lt _ _ _ (World.block_lt_of_cell? w p hc.2)]
 exact hc.2
theorem MadeE.snoc {B0 A:Nat} {v v':Value} {l:List ET} {S:ET} {w w':World} (h:MadeE B0 v l w) (hS:S.In w A) (hA:B0≤A) (hv:∀k,v.ownBlock=some k→k < A)
  (hown:w'.ownsRow B0 86 5 v' (l.length+1) ((l.flatMap fun S=>S.cells.toList)++S.cells.toList)) (hg:w.grownBy w' v.ownBlock) (hat:v'.ownBlock=v.ownBlock∨v'.ownBlock=some w.heap.size):MadeE B0 v' (l++[S]) w':=by
 have key:∀{T:ET},T.In (hide v.ownBlock w) B0→T.In (hide v'.ownBlock w') B0:=fun hT=>hT.keep fun p u hp hc=>by
  rw[zaG] at hc ⊢
  have hlt:=World.block_lt_of_cell? w p hc.2
  refine⟨?_,?_⟩
  ·rcases hat with e | e
   ·rw[e];exact hc.1
   ·rw[e];simp;omega
  ·rw[World.cell?_of_block (w:=w) (hg.block p.block hlt hc.1)]
   exact hc.2
 refine⟨by simpa using hown,fun T hT=>?_⟩
 rcases List.mem_append.1 hT with hT | hT
 ·exact key (h.2 T hT)
 ·simp only[List.mem_singleton] at hT
  subst hT
  refine key ((hS.keep (w':=hide v.ownBlock w) fun p u hp hc=>?_).mono hA)
  rw[zaG]
  refine⟨fun e=>?_,hc⟩
  have:=hv _ e.symm
  omega
theorem zdZ (S:ET):S.cells.toList.length=5:=by cases S;rfl
theorem flat_atE:∀(l:List ET) (i j:Nat) (hi:i < l.length),j < 5→(l.flatMap fun S=>S.cells.toList)[i*5+j]?=l[i].cells.toList[j]?
 | S :: l,0,j,_,hj=>by
  rw[List.flatMap_cons,List.getElem?_append_left (by rw[zdZ];omega)]
  simp
 | S :: l,i+1,j,hi,hj=>by
  rw[List.flatMap_cons,List.getElem?_append_right (by rw[zdZ];omega),zdZ]
  rw[show(i+1)*5+j - 5=i*5+j by omega]
  exact flat_atE l i j (by simpa using hi) hj
theorem es_of_rows {w:World} {B:Nat} {a:Option Addr}:∀(l:List ET) (i:Nat),(∀j (hj:j < l.length),RowAt w B a (i+j) 5 l[j].cells∧l[j].In w B)→EsIn w B a i l
 | [],i,_=>by rw[EsIn];trivial
 | S :: l,i,h=>by
  rw[EsIn]
  refine⟨(h 0 (by simp)).1,(h 0 (by simp)).2,es_of_rows l (i+1) fun j hj=>?_⟩
  have:=h (j+1) (by simpa using hj)
  rw[show i+(j+1)=i+1+j by omega] at this
  exact this
theorem MadeE.es {B0:Nat} {v:Value} {l:List ET} {w:World} (h:MadeE B0 v l w):∃a c,v=.slice a l.length c∧EsIn w B0 a 0 l:=by
 have hin:∀S∈l,S.In w B0:=fun S hS=>(h.2 S hS).keep fun p u hp hc=>(zaG.1 hc).2
 rcases h.1.2 with ⟨e,hl⟩ | ⟨g,cap,cur,e,hg,hb,hn,hm,hs,ht⟩
 ·have:l=[]:=List.length_eq_zero_iff.1 hl
  subst this
  exact⟨none,0,e,by rw[EsIn];trivial⟩
 ·refine⟨some ⟨g,0,none⟩,cap,e,es_of_rows l 0 fun j hj=>⟨⟨g,0,rfl,hg,fun k u hk=>?_⟩,hin _ (List.getElem_mem hj)⟩⟩
  have hk5:k < 5:=by
   have h1:=zdZ l[j]
   rcases Nat.lt_or_ge k 5 with h2 | h2
   ·exact h2
   ·rw[Array.getElem?_eq_none (by simpa using (by rw[←h1] at h2;simpa using h2))] at hk;cases hk
  refine zab hb ?_
  have h1:=flat_atE l j k hj hk5
  rw[←ht] at h1
  rw[List.getElem?_take_of_lt (by omega)] at h1
  rw[show 0+(0+j)*5+k=j*5+k by omega,←Array.getElem?_toList,h1,Array.getElem?_toList]
  exact hk
end Go.Proofs.YtbilfdapmbahgaaGreatDoor
