/- What a text's words are parsed as: the parser as plain functions on words, with what is wrong, and where. -/
import Derived.Test.YtljbbhhiiiepcaaGreatDoorTText
import Derived.Test.YtljbbhhiiiepcaaGreatDoorWFind
set_option linter.unusedSimpArgs false
set_option linter.unusedVariables false
set_option maxHeartbeats 8000000
set_option maxRecDepth 100000
namespace Go.Proofs.YtljbbhhiiiepcaaGreatDoor.Pm
open Go
structure PS where
 ws:List Tok
 sts:Nat
 op:Nat
 mo:Nat
deriving DecidableEq
inductive PR (α:Type) where
 | ok (a:α) (s:PS)
 | bad (e:Nat) (s:PS)
deriving DecidableEq
def PR.bind {α β:Type} (r:PR α) (f:α→PS→PR β):PR β:=match r with
 | .ok a s=>f a s
 | .bad e s=>.bad e s
def cur (z:Nat) (s:PS):Tok:=s.ws.headD ⟨0,[],0,z⟩
def nxt (z:Nat) (s:PS):Tok:=s.ws.tail.headD ⟨0,[],0,z⟩
def place (z:Nat) (s:PS):Nat:=(cur z s).at'
def enter (s:PS):PR Unit:=if s.op=40 then .bad 4 s else .ok () {s with op:=s.op+1,mo:=max s.mo (s.op+1)}
def za8 (t:List UInt8):Bool:=t==[40]||t==[91]||t==[123]
def za9 (t:List UInt8):Bool:=t==[41]||t==[93]||t==[125]
def pass (z:Nat) (s:PS):PR Tok:=
 if za8 (cur z s).text then (enter s).bind fun _ s'=>.ok (cur z s) {s' with ws:=s'.ws.tail}
 else if za9 (cur z s).text then .ok (cur z s) {s with ws:=s.ws.tail,op:=s.op - 1}
 else .ok (cur z s) {s with ws:=s.ws.tail}
def must (b:Bool) (s:PS):PR Unit:=if b then .ok () s else .bad 3 s
def at' (z:Nat) (t:List UInt8) (s:PS):Bool:=(cur z s).text==t
def take (z:Nat) (t:List UInt8) (s:PS):PR Unit:=if at' z t s then (pass z s).bind fun _ s'=>.ok () s' else .bad 3 s
def zdH (z k:Nat) (s:PS):PR Tok:=if (cur z s).kind==k then pass z s else .bad 3 s
def skip (s:PS):PS:={s with ws:=s.ws.tail}
def name (z:Nat) (s:PS):PR (List UInt8):=if (cur z s).kind==1 then .ok (cur z s).text (skip s) else .bad 3 s
def zap {α:Type} (z:Nat) (o:List UInt8) (inside:PS→PR α) (c:List UInt8) (s:PS):PR α:=
 (take z o s).bind fun _ s1=>(inside s1).bind fun x s2=>(take z c s2).bind fun _ s3=>.ok x s3
def lev (t:List UInt8):Int:=zar ⟨t.toArray⟩
def isUn (t:List UInt8):Bool:=t==[45]||t==[126]||t==[33]
def leave (s:PS):PS:={s with op:=s.op - 1}
def more {α:Type} (z:Nat) (item:PS→PR α):Nat→List α→PS→PR (List α)
 | 0,_,s=>.bad 99 s
 | m+1,l,s=>if at' z [44] s then (item (skip s)).bind fun x s2=>more z item m (l++[x]) s2 else .ok l s
def list {α:Type} (z m:Nat) (item:PS→PR α) (s:PS):PR (List α):=(item s).bind fun x s1=>more z item m [x] s1
def args {α:Type} (z m:Nat) (item:PS→PR α) (s:PS):PR (List α):=
 zap z [40] (fun s1=>if at' z [41] s1 then .ok [] s1 else list z m item s1) [41] s
def zdP (z:Nat) (s:PS):PR RE:=if (cur z s).n < 9223372036854775808 then .ok (.num (cur z s).n) (skip s) else .bad 3 s
def zc7 (z:Nat) (s:PS):PR RE:=.ok (.num (-((nxt z s).n:Int))) (skip (skip s))
def named (z:Nat) (m:PS→PR RE) (s:PS):PR RE:=(name z s).bind fun x s1=>if at' z [91] s1 then (zap z [91] m [93] s1).bind fun e s2=>.ok (.idx x e) s2 else .ok (.var x) s1
def zdL (z:Nat) (m:PS→PR RE) (s:PS):PR RE:=if isUn (cur z s).text then (enter s).bind fun _ s1=>(m (skip s1)).bind fun e s3=>.ok (.un ((cur z s).text.headD 0) e) (leave s3) else .bad 3 s
mutual
def zaw (z:Nat):Nat→PS→PR RE
 | 0,s=>.bad 99 s
 | m+1,s =>
  if (cur z s).kind==2 then zdP z s
  else if (cur z s).kind==1 then named z (zbm z m 1) s
  else if at' z [45] s&&(nxt z s).kind==2 then zc7 z s
  else if at' z [40] s then zap z [40] (zbm z m 1) [41] s
  else zdL z (zaw z m) s
def zbm (z:Nat):Nat→Int→PS→PR RE
 | 0,_,s=>.bad 99 s
 | m+1,k,s=>(zaw z m s).bind fun x s1=>tail z m k x s1
def tail (z:Nat):Nat→Int→RE→PS→PR RE
 | 0,_,_,s=>.bad 99 s
 | m+1,k,x,s=>if k≤lev (cur z s).text then (zbm z m (lev (cur z s).text+1) (skip s)).bind fun y s2=>tail z m k (.bin (cur z s).text x y) s2 else .ok x s
end
def expr (z m:Nat):PS→PR RE:=zbm z m 1
def RS.put (t:Nat):RS→RS
 | .asg _ x e=>.asg t x e
 | .sto _ x i e=>.sto t x i e
 | .rd _ x=>.rd t x
 | .call _ x f l=>.call t x f l
 | .ife _ c b l=>.ife t c b l
 | .whl _ c b=>.whl t c b
 | .brk _=>.brk t
 | .cnt _=>.cnt t
 | .ret _ e=>.ret t e
 | .ass _ e=>.ass t e
def kIf:List UInt8:=[105,102]
def kWhile:List UInt8:=[119,104,105,108,101]
def kBreak:List UInt8:=[98,114,101,97,107]
def zb3:List UInt8:=[99,111,110,116,105,110,117,101]
def zdq:List UInt8:=[114,101,116,117,114,110]
def zdr:List UInt8:=[97,115,115,101,114,116]
def kElse:List UInt8:=[101,108,115,101]
def zec:List UInt8:=[114,101,97,100]
def kFunc:List UInt8:=[102,117,110,99]
def kVar:List UInt8:=[118,97,114]
def tag (z:Nat) (s:PS):PR Nat:=if (cur z s).kind==3 then (if 0 < (cur z s).n then .ok (cur z s).n (skip s) else .bad 3 s) else .ok 0 s
def zaE (z:Nat) (r:RS) (s:PS):PR RS:=(take z [59] s).bind fun _ s1=>.ok r s1
def test (z m:Nat) (k:List UInt8) (s:PS):PR RE:=(take z k s).bind fun _ s1=>zap z [40] (expr z m) [41] s1
def zdI (z:Nat) (s:PS):PR RS:=(take z kBreak s).bind fun _ s1=>zaE z (.brk 0) s1
def goOn (z:Nat) (s:PS):PR RS:=(take z zb3 s).bind fun _ s1=>zaE z (.cnt 0) s1
def zcc (z m:Nat) (s:PS):PR RS:=(take z zdq s).bind fun _ s1=>(expr z m s1).bind fun e s2=>zaE z (.ret 0 e) s2
def zb4 (z m:Nat) (s:PS):PR RS:=(test z m zdr s).bind fun e s1=>zaE z (.ass 0 e) s1
def store (z m:Nat) (x:List UInt8) (s:PS):PR RS:=(zap z [91] (expr z m) [93] s).bind fun i s1=>(take z [61] s1).bind fun _ s2=>(expr z m s2).bind fun e s3=>zaE z (.sto 0 x i e) s3
def input (z:Nat) (x:List UInt8) (s:PS):PR RS:=(take z zec s).bind fun _ s1=>(take z [40] s1).bind fun _ s2=>(take z [41] s2).bind fun _ s3=>zaE z (.rd 0 x) s3
def call (z m:Nat) (x:List UInt8) (s:PS):PR RS:=(name z s).bind fun f s1=>(args z m (expr z m) s1).bind fun l s2=>zaE z (.call 0 x f l) s2
def zaM (z m:Nat) (s:PS):PR RS:=(name z s).bind fun x s1 =>
 if at' z [91] s1 then store z m x s1
 else (take z [61] s1).bind fun _ s2 =>
  if at' z zec s2 then input z x s2
  else if (cur z s2).kind==1&&(nxt z s2).text==[40] then call z m x s2
  else (expr z m s2).bind fun e s3=>zaE z (.asg 0 x e) s3
mutual
def zbd (z:Nat):Nat→PS→PR RS
 | 0,s=>.bad 99 s
 | m+1,s=>(test z m kIf s).bind fun c s1=>(zap z [123] (block z m []) [125] s1).bind fun b s2 =>
  if at' z kElse s2 then (zap z [123] (block z m []) [125] (skip s2)).bind fun l s4=>.ok (.ife 0 c b l) s4 else .ok (.ife 0 c b []) s2
def loop (z:Nat):Nat→PS→PR RS
 | 0,s=>.bad 99 s
 | m+1,s=>(test z m kWhile s).bind fun c s1=>(zap z [123] (block z m []) [125] s1).bind fun b s2=>.ok (.whl 0 c b) s2
def stmt (z:Nat):Nat→PS→PR RS
 | 0,s=>.bad 99 s
 | m+1,s=>(tag z s).bind fun t s1=>(
  if at' z kIf s1 then zbd z m s1
  else if at' z kWhile s1 then loop z m s1
  else if at' z kBreak s1 then zdI z s1
  else if at' z zb3 s1 then goOn z s1
  else if at' z zdq s1 then zcc z m s1
  else if at' z zdr s1 then zb4 z m s1
  else zaM z m s1).bind fun r s2=>.ok (RS.put t r) s2
def block (z:Nat):Nat→List RS→PS→PR (List RS)
 | 0,_,s=>.bad 99 s
 | m+1,l,s=>if at' z [125] s then .ok l s else if s.sts=400 then .bad 5 s
  else (stmt z m {s with sts:=s.sts+1}).bind fun r s1=>block z m (l++[r]) s1
end
def length (z:Nat) (s:PS):PR Nat:=if (cur z s).kind==2&&(decide (1≤(cur z s).n)&&decide ((cur z s).n≤1000000)) then .ok (cur z s).n (skip s) else .bad 3 s
def decl (z:Nat) (s:PS):PR (List UInt8×Nat):=(name z s).bind fun x s1=>if at' z [91] s1 then (zap z [91] (length z) [93] s1).bind fun n s2=>.ok (x,n) s2 else .ok (x,0) s1
def vars (z m:Nat) (s:PS):PR (List (List UInt8×Nat)):=if at' z kVar s then (list z m (decl z) (skip s)).bind fun l s2=>(take z [59] s2).bind fun _ s3=>.ok l s3 else .ok [] s
def zba (z m:Nat) (s:PS):PR RF:=(take z kFunc s).bind fun _ s1=>(name z s1).bind fun x s2=>(args z m (name z) s2).bind fun ps s3=>(take z [123] s3).bind fun _ s4 =>
 (vars z m s4).bind fun vs s5=>(block z m [] s5).bind fun b s6=>(take z [125] s6).bind fun _ s7=>.ok ⟨x,ps,vs,b⟩ s7
def funcs (z m:Nat):Nat→List RF→PS→PR (List RF)
 | 0,_,s=>.bad 99 s
 | k+1,l,s=>if s.ws.isEmpty then .ok l s else (zba z m s).bind fun f s1=>funcs z m k (l++[f]) s1
def zbI (z m:Nat) (s:PS):PR (List RF):=(zba z m s).bind fun f s1=>funcs z m m [f] s1
def whole {α:Type} (z:Nat) (rule:PS→PR α) (ws:List Tok):PR α:=(rule ⟨ws,0,0,0⟩).bind fun x s=>if s.ws.isEmpty then .ok x s else .bad 3 s
def Fin {α:Type} (r:PR α):Prop:=∀s',r≠.bad 99 s'
theorem Fin.fst {α β:Type} {r:PR α} {g:α→PS→PR β} (h:Fin (r.bind g)):Fin r:=fun s' e=>h s' (by rw[e];rfl)
theorem Fin.snd {α β:Type} {r:PR α} {g:α→PS→PR β} (h:Fin (r.bind g)) {a:α} {s:PS} (e:r=.ok a s):Fin (g a s):=fun s' e'=>h s' (by rw[e];exact e')
end Go.Proofs.YtljbbhhiiiepcaaGreatDoor.Pm
namespace Go.Proofs.YtljbbhhiiiepcaaGreatDoor.Pm
open Go
def Keeps {α:Type} (m:PS→PR α):Prop:=∀s a s',m s=.ok a s'→s'.ws.length≤s.ws.length∧s'.op=s.op
theorem zaN {α β:Type} {r:PR α} {g:α→PS→PR β} {b:β} {s':PS} (h:r.bind g=.ok b s'):∃a s1,r=.ok a s1∧g a s1=.ok b s':=by
 cases r with
 | ok a s1=>exact⟨a,s1,rfl,h⟩
 | bad n s1=>cases h
theorem zds {z:Nat} {s s':PS} {t:Tok} (h:pass z s=.ok t s'):t=cur z s∧s'.ws=s.ws.tail∧s'.sts=s.sts∧(za8 t.text=true→s'.op=s.op+1)∧(za8 t.text=false→za9 t.text=true→s'.op=s.op - 1)∧(za8 t.text=false→za9 t.text=false→s'.op=s.op):=by
 unfold pass at h
 split at h
 ·rename_i ho
  obtain⟨u,s1,h1,h2⟩:=zaN h
  unfold enter at h1
  split at h1
  ·cases h1
  ·cases h1
   cases h2
   exact⟨rfl,rfl,rfl,by simp_all,by simp_all,by simp_all⟩
 ·rename_i ho
  have ho':za8 (cur z s).text=false:=by simpa using ho
  split at h
  ·rename_i hc
   cases h
   exact⟨rfl,rfl,rfl,by simp_all,by simp_all,by simp_all⟩
  ·rename_i hc
   cases h
   have hc':za9 (cur z s).text=false:=by simpa using hc
   exact⟨rfl,rfl,rfl,by simp_all,by simp_all,by simp_all⟩
theorem pass_len {z:Nat} {s s':PS} {t:Tok} (h:pass z s=.ok t s'):s'.ws.length≤s.ws.length:=by
 have:=(zds h).2.1
 rw[this,List.length_tail];omega
theorem pass_flat {z:Nat} {s s':PS} {t:Tok} (h:pass z s=.ok t s') (h1:za8 (cur z s).text=false) (h2:za9 (cur z s).text=false):s'.ws.length≤s.ws.length∧s'.op=s.op:=by
 obtain⟨rfl,-,-,-,-,h3⟩:=zds h
 exact⟨pass_len h,h3 h1 h2⟩
theorem take_ok {z:Nat} {l:List UInt8} {s s':PS} {u:Unit} (h:take z l s=.ok u s'):(cur z s).text=l∧pass z s=.ok (cur z s) s':=by
 unfold take at h
 split at h
 ·rename_i ha
  obtain⟨t,s1,h1,h2⟩:=zaN h
  cases h2
  unfold at' at ha
  obtain⟨rfl,-⟩:=zds h1
  exact⟨by simpa using ha,h1⟩
 ·cases h
theorem take_flat {z:Nat} {l:List UInt8} {s s':PS} {u:Unit} (h:take z l s=.ok u s') (h1:za8 l=false) (h2:za9 l=false):s'.ws.length≤s.ws.length∧s'.op=s.op:=by
 obtain⟨e,hp⟩:=take_ok h
 exact pass_flat hp (by rw[e];exact h1) (by rw[e];exact h2)
theorem zbr {z:Nat} {l:List UInt8} {s s':PS} {u:Unit} (h:take z l s=.ok u s') (h1:za8 l=true):s'.ws.length≤s.ws.length∧s'.op=s.op+1:=by
 obtain⟨e,hp⟩:=take_ok h
 exact⟨pass_len hp,(zds hp).2.2.2.1 (by rw[e];exact h1)⟩
theorem zed {z:Nat} {l:List UInt8} {s s':PS} {u:Unit} (h:take z l s=.ok u s') (h1:za8 l=false) (h2:za9 l=true):s'.ws.length≤s.ws.length∧s'.op=s.op - 1:=by
 obtain⟨e,hp⟩:=take_ok h
 exact⟨pass_len hp,(zds hp).2.2.2.2.1 (by rw[e];exact h1) (by rw[e];exact h2)⟩
theorem keeps_within {α:Type} {z:Nat} {o c:List UInt8} {m:PS→PR α} (ho:za8 o=true) (hc:za8 c=false) (hs:za9 c=true) (hm:Keeps m):Keeps (zap z o m c):=by
 intro s a s' h
 unfold zap at h
 obtain⟨u,s1,h1,h⟩:=zaN h
 obtain⟨x,s2,h2,h⟩:=zaN h
 obtain⟨u',s3,h3,h⟩:=zaN h
 cases h
 have e1:=zbr h1 ho
 have e2:=hm _ _ _ h2
 have e3:=zed h3 hc hs
 omega
theorem zcd (s:PS):(skip s).ws.length≤s.ws.length∧(skip s).op=s.op:=⟨by show s.ws.tail.length≤_;rw[List.length_tail];omega,rfl⟩
theorem keeps_name (z:Nat):Keeps (name z):=by
 intro s a s' h
 unfold name at h
 split at h
 ·cases h;exact zcd s
 ·cases h
theorem keeps_number (z:Nat):Keeps (zdP z):=by
 intro s a s' h
 unfold zdP at h
 split at h
 ·cases h;exact zcd s
 ·cases h
theorem keeps_negative (z:Nat):Keeps (zc7 z):=by
 intro s a s' h
 unfold zc7 at h
 cases h
 have h1:=zcd s
 have h2:=zcd (skip s)
 omega
theorem keeps_named {z:Nat} {m:PS→PR RE} (hm:Keeps m):Keeps (named z m):=by
 intro s a s' h
 unfold named at h
 obtain⟨x,s1,h1,h⟩:=zaN h
 have k1:=keeps_name z _ _ _ h1
 split at h
 ·obtain⟨e,s2,h2,h⟩:=zaN h
  cases h
  have k2:=keeps_within (o:=[91]) (c:=[93]) rfl rfl rfl hm _ _ _ h2
  omega
 ·cases h;exact k1
theorem keeps_unary {z:Nat} {m:PS→PR RE} (hm:Keeps m):Keeps (zdL z m):=by
 intro s a s' h
 unfold zdL at h
 split at h
 ·obtain⟨u,s1,h1,h⟩:=zaN h
  obtain⟨e,s2,h2,h⟩:=zaN h
  cases h
  have k2:=hm _ _ _ h2
  have k3:=zcd s1
  unfold enter at h1
  split at h1
  ·cases h1
  ·cases h1
   refine⟨?_,?_⟩
   ·show s2.ws.length≤_
    have:=k3.1
    simp only at this k2
    omega
   ·show s2.op - 1=_
    have e1:s2.op=s.op+1:=k2.2
    omega
 ·cases h
theorem zch (z:Nat):∀m,Keeps (zaw z m)∧(∀k,Keeps (zbm z m k))∧(∀k x,Keeps (tail z m k x)):=by
 intro m
 induction m with
 | zero =>
  refine⟨fun s a s' h=>?_,fun k s a s' h=>?_,fun k x s a s' h=>?_⟩
  ·rw[zaw] at h;cases h
  ·rw[zbm] at h;cases h
  ·rw[tail] at h;cases h
 | succ m ih =>
  obtain⟨i1,i2,i3⟩:=ih
  refine⟨fun s a s' h=>?_,fun k s a s' h=>?_,fun k x s a s' h=>?_⟩
  ·rw[zaw] at h
   split at h
   ·exact keeps_number z _ _ _ h
   ·split at h
    ·exact keeps_named (i2 1) _ _ _ h
    ·split at h
     ·exact keeps_negative z _ _ _ h
     ·split at h
      ·exact keeps_within (o:=[40]) (c:=[41]) rfl rfl rfl (i2 1) _ _ _ h
      ·exact keeps_unary i1 _ _ _ h
  ·rw[zbm] at h
   obtain⟨x,s1,h1,h⟩:=zaN h
   have k1:=i1 _ _ _ h1
   have k2:=i3 _ _ _ _ _ h
   omega
  ·rw[tail] at h
   split at h
   ·obtain⟨y,s1,h1,h⟩:=zaN h
    have k1:=i2 _ _ _ _ h1
    have k2:=i3 _ _ _ _ _ h
    have k3:=zcd s
    omega
   ·cases h
    exact⟨Nat.le_refl _,rfl⟩
end Go.Proofs.YtljbbhhiiiepcaaGreatDoor.Pm
namespace Go.Proofs.YtljbbhhiiiepcaaGreatDoor.Pm
open Go
def KR {α:Type} (s:PS) (r:PR α):Prop:=∀a s',r=.ok a s'→s'.ws.length≤s.ws.length∧s'.op=s.op∧s.sts≤s'.sts
theorem zcD {α:Type} (s:PS) (a:α):KR s (.ok a s):=fun _ _ h=>by cases h;exact⟨Nat.le_refl _,rfl,Nat.le_refl _⟩
theorem zcu {α:Type} (s s':PS) (n:Nat):KR (α:=α) s (.bad n s'):=fun _ _ h=>by cases h
theorem zaI {α β:Type} {s:PS} {r:PR α} {g:α→PS→PR β} (h:KR s r) (hg:∀a s1,KR s1 (g a s1)):KR s (r.bind g):=fun a s' e=>by
 obtain⟨x,s1,h1,h2⟩:=zaN e
 have k1:=h _ _ h1
 have k2:=hg _ _ _ _ h2
 omega
theorem zcE {α:Type} {s:PS} {r:PR α} (h:KR (skip s) r):KR s r:=fun a s' e=>by
 have k1:=h _ _ e
 have k2:=zcd s
 have k3:(skip s).sts=s.sts:=rfl
 omega
theorem zdt {z:Nat} {l:List UInt8} (h1:za8 l=false) (h2:za9 l=false) (s:PS):KR s (take z l s):=fun a s' e=>by
 have k1:=take_flat e h1 h2
 have k2:=(zds (take_ok e).2).2.2.1
 omega
theorem zcv {z:Nat} {l:List UInt8} {s s':PS} {u:Unit} (h:take z l s=.ok u s'):s'.sts=s.sts:=(zds (take_ok h).2).2.2.1
theorem zbJ {α:Type} {z:Nat} {o c:List UInt8} {m:PS→PR α} (ho:za8 o=true) (hc:za8 c=false) (hs:za9 c=true) (hm:∀s,KR s (m s)) (s:PS):KR s (zap z o m c s):=by
 intro a s' h
 unfold zap at h
 obtain⟨u,s1,h1,h⟩:=zaN h
 obtain⟨x,s2,h2,h⟩:=zaN h
 obtain⟨u',s3,h3,h⟩:=zaN h
 cases h
 have e1:=zbr h1 ho
 have e2:=hm _ _ _ h2
 have e3:=zed h3 hc hs
 have e4:=zcv h1
 have e5:=zcv h3
 omega
theorem zdY (z:Nat) (s:PS):KR s (name z s):=by
 unfold name
 split
 ·exact zcE (zcD _ _)
 ·exact zcu _ _ _
theorem kr_expr (z:Nat):∀m,(∀s,KR s (zaw z m s))∧(∀k s,KR s (zbm z m k s))∧(∀k x s,KR s (tail z m k x s)):=by
 intro m
 induction m with
 | zero =>
  refine⟨fun s=>?_,fun k s=>?_,fun k x s=>?_⟩
  ·rw[zaw];exact zcu _ _ _
  ·rw[zbm];exact zcu _ _ _
  ·rw[tail];exact zcu _ _ _
 | succ m ih =>
  obtain⟨i1,i2,i3⟩:=ih
  refine⟨fun s=>?_,fun k s=>?_,fun k x s=>?_⟩
  ·rw[zaw]
   split
   ·unfold zdP
    split
    ·exact zcE (zcD _ _)
    ·exact zcu _ _ _
   ·split
    ·unfold named
     refine zaI (zdY _ _) fun x s1=>?_
     split
     ·exact zaI (zbJ rfl rfl rfl (i2 1) _) fun _ _=>zcD _ _
     ·exact zcD _ _
    ·split
     ·unfold zc7;exact zcE (zcE (zcD _ _))
     ·split
      ·exact zbJ rfl rfl rfl (i2 1) _
      ·unfold zdL
       split
       ·intro a s' h
        obtain⟨u,s1,h1,h⟩:=zaN h
        obtain⟨e,s2,h2,h⟩:=zaN h
        cases h
        have k2:=i1 _ _ _ h2
        have k3:=zcd s1
        have k4:(skip s1).sts=s1.sts:=rfl
        unfold enter at h1
        split at h1
        ·cases h1
        ·cases h1
         have e1:s2.op=s.op+1:=k2.2.1
         have e2:s.sts≤s2.sts:=k2.2.2
         have e3:=k3.1
         simp only at e3
         refine⟨?_,?_,e2⟩
         ·show s2.ws.length≤_;omega
         ·show s2.op - 1=_;omega
       ·exact zcu _ _ _
  ·rw[zbm];exact zaI (i1 _) fun _ _=>i3 _ _ _
  ·rw[tail]
   split
   ·exact zcE (zaI (i2 _ _) fun _ _=>i3 _ _ _)
   ·exact zcD _ _
theorem kr_ex (z m:Nat) (s:PS):KR s (expr z m s):=(kr_expr z m).2.1 1 s
theorem kr_more {α:Type} {z:Nat} {m:PS→PR α} (hm:∀s,KR s (m s)):∀n (l:List α) s,KR s (more z m n l s):=by
 intro n
 induction n with
 | zero=>intro l s;rw[more];exact zcu _ _ _
 | succ n ih =>
  intro l s
  rw[more]
  split
  ·exact zcE (zaI (hm _) fun _ _=>ih _ _)
  ·exact zcD _ _
theorem kr_list {α:Type} {z n:Nat} {m:PS→PR α} (hm:∀s,KR s (m s)) (s:PS):KR s (list z n m s):=zaI (hm _) fun _ _=>kr_more hm _ _ _
theorem kr_args {α:Type} {z n:Nat} {m:PS→PR α} (hm:∀s,KR s (m s)) (s:PS):KR s (args z n m s):=by
 unfold args
 refine zbJ rfl rfl rfl (fun s=>?_) _
 split
 ·exact zcD _ _
 ·exact kr_list hm _
theorem kr_tag (z:Nat) (s:PS):KR s (tag z s):=by
 unfold tag
 split
 ·split
  ·exact zcE (zcD _ _)
  ·exact zcu _ _ _
 ·exact zcD _ _
theorem zb5 (z:Nat) (r:RS) (s:PS):KR s (zaE z r s):=zaI (zdt rfl rfl _) fun _ _=>zcD _ _
theorem kr_test (z m:Nat) {k:List UInt8} (h1:za8 k=false) (h2:za9 k=false) (s:PS):KR s (test z m k s):=zaI (zdt h1 h2 _) fun _ _=>zbJ rfl rfl rfl (kr_ex z m) _
theorem kr_setting (z m:Nat) (s:PS):KR s (zaM z m s):=by
 unfold zaM
 refine zaI (zdY _ _) fun x s1=>?_
 split
 ·exact zaI (zbJ rfl rfl rfl (kr_ex z m) _) fun _ _=>zaI (zdt rfl rfl _) fun _ _=>zaI (kr_ex z m _) fun _ _=>zb5 _ _ _
 ·refine zaI (zdt rfl rfl _) fun _ s2=>?_
  split
  ·unfold input
   intro a s' h
   obtain⟨u1,t1,h1,h⟩:=zaN h
   obtain⟨u2,t2,h2,h⟩:=zaN h
   obtain⟨u3,t3,h3,h⟩:=zaN h
   have k1:=take_flat h1 rfl rfl
   have k2:=zbr h2 rfl
   have k3:=zed h3 rfl rfl
   have k4:=zb5 _ _ _ _ _ h
   have k5:=zcv h1
   have k6:=zcv h2
   have k7:=zcv h3
   omega
  ·split
   ·exact zaI (zdY _ _) fun _ _=>zaI (kr_args (kr_ex z m) _) fun _ _=>zb5 _ _ _
   ·exact zaI (kr_ex z m _) fun _ _=>zb5 _ _ _
theorem kr_stmts (z:Nat):∀m,(∀s,KR s (zbd z m s))∧(∀s,KR s (loop z m s))∧(∀s,KR s (stmt z m s))∧(∀l s,KR s (block z m l s)):=by
 intro m
 induction m with
 | zero =>
  refine⟨fun s=>?_,fun s=>?_,fun s=>?_,fun l s=>?_⟩
  ·rw[zbd];exact zcu _ _ _
  ·rw[loop];exact zcu _ _ _
  ·rw[stmt];exact zcu _ _ _
  ·rw[block];exact zcu _ _ _
 | succ m ih =>
  obtain⟨i1,i2,i3,i4⟩:=ih
  refine⟨fun s=>?_,fun s=>?_,fun s=>?_,fun l s=>?_⟩
  ·rw[zbd]
   refine zaI (kr_test z m rfl rfl _) fun c s1=>zaI (zbJ rfl rfl rfl (i4 []) _) fun b s2=>?_
   split
   ·exact zcE (zaI (zbJ rfl rfl rfl (i4 []) _) fun _ _=>zcD _ _)
   ·exact zcD _ _
  ·rw[loop]
   exact zaI (kr_test z m rfl rfl _) fun c s1=>zaI (zbJ rfl rfl rfl (i4 []) _) fun b s2=>zcD _ _
  ·rw[stmt]
   refine zaI (kr_tag _ _) fun t s1=>zaI ?_ fun _ _=>zcD _ _
   split
   ·exact i1 _
   ·split
    ·exact i2 _
    ·split
     ·exact zaI (zdt rfl rfl _) fun _ _=>zb5 _ _ _
     ·split
      ·exact zaI (zdt rfl rfl _) fun _ _=>zb5 _ _ _
      ·split
       ·exact zaI (zdt rfl rfl _) fun _ _=>zaI (kr_ex z m _) fun _ _=>zb5 _ _ _
       ·split
        ·exact zaI (kr_test z m rfl rfl _) fun _ _=>zb5 _ _ _
        ·exact kr_setting _ _ _
  ·rw[block]
   split
   ·exact zcD _ _
   ·split
    ·exact zcu _ _ _
    ·intro a s' h
     obtain⟨r,s1,h1,h⟩:=zaN h
     have k1:=i3 _ _ _ h1
     have k2:=i4 _ _ _ _ h
     have e1:s1.ws.length≤s.ws.length:=k1.1
     have e2:s1.op=s.op:=k1.2.1
     have e3:s.sts+1≤s1.sts:=k1.2.2
     omega
end Go.Proofs.YtljbbhhiiiepcaaGreatDoor.Pm
