/- Which names a tree has, where its jumps stand, what it calls, its tags: so that the feed can tell it. -/
import Derived.Test.YtljbbhhiiiepcaaGreatDoorTStHeap
set_option linter.unusedSimpArgs false
set_option linter.unusedVariables false
set_option maxHeartbeats 8000000
set_option maxRecDepth 100000
namespace Go.Proofs.YtljbbhhiiiepcaaGreatDoor
open Go Go.RowKit
instance memFit (x:ByteArray) (l:List ByteArray):Decidable (x∈l):=decidable_of_iff (l.any (fun y=>decide (y=x))=true) (by simp)
mutual
def okE (I A:List ByteArray):ET→Bool
 | .mk k _ _ nm _ _ kids=>((if k=1 then decide (nm∈I) else true)&&(if k=2 then decide (nm∈A) else true))&&okEs I A kids
def okEs (I A:List ByteArray):List ET→Bool
 | []=>true
 | T :: l=>okE I A T&&okEs I A l
end
def ownS (I A:List ByteArray) (C:List (ByteArray×Nat)) (loop:Bool) (k:Int) (n f:ByteArray) (e:List ET):Bool:=
 (decide (k≠6∧k≠7)||loop)&&((decide (n.data.toList=[])||(if k=1 then decide (n∈A) else decide (n∈I)))&&((decide (k≠3)||C.any fun c=>decide (c.1=f)&&decide (c.2=e.length))&&okEs I A e))
mutual
def okS (I A:List ByteArray) (C:List (ByteArray×Nat)) (loop:Bool):ST→Bool
 | .mk k t n f ea ec e ba bc b la lc el=>ownS I A C loop k n f e&&(okSs I A C (loop||decide (k=5)) b&&okSs I A C (loop||decide (k=5)) el)
def okSs (I A:List ByteArray) (C:List (ByteArray×Nat)) (loop:Bool):List ST→Bool
 | []=>true
 | S :: l=>okS I A C loop S&&okSs I A C loop l
end
mutual
def tgS:ST→List Int
 | .mk k t n f ea ec e ba bc b la lc el=>(if 0 < t then [t] else [])++(tgSs b++tgSs el)
def tgSs:List ST→List Int
 | []=>[]
 | S :: l=>tgS S++tgSs l
end
theorem okSs_append (I A:List ByteArray) (C:List (ByteArray×Nat)) (b:Bool) (l m:List ST):okSs I A C b (l++m)=(okSs I A C b l&&okSs I A C b m):=by
 induction l with
 | nil=>rfl
 | cons T l ih=>rw[List.cons_append,okSs,okSs,ih,Bool.and_assoc]
theorem tgSs_append (l m:List ST):tgSs (l++m)=tgSs l++tgSs m:=by
 induction l with
 | nil=>rfl
 | cons T l ih=>rw[List.cons_append,tgSs,tgSs,ih,List.append_assoc]
def upTo (t u:Int):List Int:=(List.range (u - t).toNat).map fun(i:Nat)=>t+1+(i:Int)
theorem zcM (t:Int):upTo t t=[]:=by unfold upTo;rw[show(t - t).toNat=0 by omega];rfl
theorem upTo_one (t:Int):upTo t (t+1)=[t+1]:=by unfold upTo;rw[show(t+1 - t).toNat=1 by omega];simp
theorem zc2 {t u v:Int} (h1:t≤u) (h2:u≤v):upTo t u++upTo u v=upTo t v:=by
 unfold upTo
 rw[show(v - t).toNat=(u - t).toNat+(v - u).toNat by omega,List.range_add,List.map_append,List.map_map]
 congr 1
 apply List.map_congr_left
 intro i _
 simp only[Function.comp]
 omega
theorem upTo_nodup (t u:Int):(upTo t u).Nodup:=by
 unfold upTo
 rw[List.Nodup,List.pairwise_map]
 exact List.Pairwise.imp (fun h=>by omega) List.nodup_range
theorem upTo_length {t u:Int} (h:t≤u):((upTo t u).length:Int)=u - t:=by
 unfold upTo;rw[List.length_map,List.length_range];omega
def TagAt (t:Int) (tag tag1:Int):Prop:=(t=tag1∧tag1=tag+1∧0≤tag)∨(t=0∧tag1=tag)
theorem own_tag {t tag tag1:Int} (h:TagAt t tag tag1):(if 0 < t then [t] else [])=upTo tag tag1∧tag≤tag1:=by
 rcases h with ⟨rfl,rfl,h⟩ | ⟨rfl,rfl⟩
 ·rw[if_pos (by omega),upTo_one];exact⟨rfl,by omega⟩
 ·rw[if_neg (by omega),zcM];exact⟨rfl,Int.le_refl _⟩
structure FitS (I A:List ByteArray) (C:List (ByteArray×Nat)) (loop:Bool) (tag tag':Int) (S:ST):Prop where
 ok:okS I A C loop S=true
 le:tag≤tag'
 tg:tgS S=upTo tag tag'
structure FitL (I A:List ByteArray) (C:List (ByteArray×Nat)) (loop:Bool) (tag tag':Int) (l:List ST):Prop where
 ok:okSs I A C loop l=true
 le:tag≤tag'
 tg:tgSs l=upTo tag tag'
section
variable {I A:List ByteArray} {C:List (ByteArray×Nat)} {loop:Bool}
theorem fl_nil (tag:Int):FitL I A C loop tag tag []:=⟨rfl,Int.le_refl _,by rw[zcM];rfl⟩
theorem fl_snoc {tag tag1 tag2:Int} {l:List ST} {S:ST} (h:FitL I A C loop tag tag1 l) (hS:FitS I A C loop tag1 tag2 S):FitL I A C loop tag tag2 (l++[S]):=
 ⟨by rw[okSs_append,h.ok,okSs,hS.ok];rfl,Int.le_trans h.le hS.le,by rw[tgSs_append,tgSs,tgSs,List.append_nil,h.tg,hS.tg,zc2 h.le hS.le]⟩
theorem fe_num (n:Int) (a:Option Addr) (c:Nat) (o nm:ByteArray):okE I A (.mk 0 o n nm a c [])=true:=by simp[okE,okEs]
theorem fe_var {m:ByteArray} (h:m∈I) (o:ByteArray) (n:Int) (a:Option Addr) (c:Nat):okE I A (.mk 1 o n m a c [])=true:=by simp[okE,okEs,h]
theorem fe_idx {m:ByteArray} (h:m∈A) {T:ET} (hT:okE I A T=true) (o:ByteArray) (n:Int) (a:Option Addr) (c:Nat):okE I A (.mk 2 o n m a c [T])=true:=by simp[okE,okEs,h,hT]
theorem fe_un {T:ET} (hT:okE I A T=true) (o nm:ByteArray) (n:Int) (a:Option Addr) (c:Nat):okE I A (.mk 3 o n nm a c [T])=true:=by simp[okE,okEs,hT]
theorem fe_bin {T U:ET} (hT:okE I A T=true) (hU:okE I A U=true) (o nm:ByteArray) (n:Int) (a:Option Addr) (c:Nat):okE I A (.mk 4 o n nm a c [T,U])=true:=by simp[okE,okEs,hT,hU]
theorem zc3 {k t:Int} {n f:ByteArray} {ea ba la:Option Addr} {ec bc lc:Nat} {e:List ET} {tag tag1:Int} (h:ownS I A C loop k n f e=true) (ht:TagAt t tag tag1):FitS I A C loop tag tag1 (.mk k t n f ea ec e ba bc [] la lc []):=by
 obtain⟨h1,h2⟩:=own_tag ht
 exact⟨by rw[okS,h,okSs];rfl,h2,by rw[tgS,h1,tgSs,List.append_nil,List.append_nil]⟩
theorem own_asg {n f:ByteArray} (hn:n∈I) {T:ET} (hT:okE I A T=true):ownS I A C loop 0 n f [T]=true:=by simp[ownS,okEs,hn,hT]
theorem own_sto {n f:ByteArray} (hn:n∈A) {T U:ET} (hT:okE I A T=true) (hU:okE I A U=true):ownS I A C loop 1 n f [T,U]=true:=by simp[ownS,okEs,hn,hT,hU]
theorem own_rd {n f:ByteArray} (hn:n∈I):ownS I A C loop 2 n f []=true:=by simp[ownS,okEs,hn]
theorem own_call {n f:ByteArray} {e:List ET} (hn:n∈I) (hf:(f,e.length)∈C) (he:okEs I A e=true):ownS I A C loop 3 n f e=true:=by
 have h:(C.any fun c=>decide (c.1=f)&&decide (c.2=e.length))=true:=List.any_eq_true.2 ⟨_,hf,by simp⟩
 unfold ownS
 rw[h,he]
 simp[hn]
theorem own_jump {k:Int} {n f:ByteArray} (hl:loop=true) (hk:k≠1∧k≠3) (hn:n.data.toList=[]):ownS I A C loop k n f []=true:=by simp[ownS,okEs,hl,hk.2,hn]
theorem own_one {k:Int} {n f:ByteArray} {T:ET} (hk:k≠3∧k≠6∧k≠7) (hn:n.data.toList=[]) (hT:okE I A T=true):ownS I A C loop k n f [T]=true:=by simp[ownS,okEs,hk,hn,hT]
theorem fs_whl {t:Int} {n f:ByteArray} {ea ba la:Option Addr} {ec bc lc:Nat} {T:ET} {b:List ST} {tag tag1 tag2:Int} (hn:n.data.toList=[]) (hT:okE I A T=true) (ht:TagAt t tag tag1) (hb:FitL I A C true tag1 tag2 b):FitS I A C loop tag tag2 (.mk 5 t n f ea ec [T] ba bc b la lc []):=by
 obtain⟨h1,h2⟩:=own_tag ht
 exact⟨by rw[okS,own_one (by decide) hn hT,decide_eq_true (show(5:Int)=5 by rfl),Bool.or_true,hb.ok,okSs];rfl,Int.le_trans h2 hb.le,by rw[tgS,h1,tgSs,List.append_nil,hb.tg,zc2 h2 hb.le]⟩
theorem fs_ife {t:Int} {n f:ByteArray} {ea ba la:Option Addr} {ec bc lc:Nat} {T:ET} {b el:List ST} {tag tag1 tag2 tag3:Int} (hn:n.data.toList=[]) (hT:okE I A T=true) (ht:TagAt t tag tag1) (hb:FitL I A C loop tag1 tag2 b) (hl:FitL I A C loop tag2 tag3 el):FitS I A C loop tag tag3 (.mk 4 t n f ea ec [T] ba bc b la lc el):=by
 obtain⟨h1,h2⟩:=own_tag ht
 exact⟨by rw[okS,own_one (by decide) hn hT,decide_eq_false (show ¬(4:Int)=5 by decide),Bool.or_false,hb.ok,hl.ok];rfl,Int.le_trans h2 (Int.le_trans hb.le hl.le),by rw[tgS,h1,hb.tg,hl.tg,zc2 hb.le hl.le,zc2 h2 (Int.le_trans hb.le hl.le)]⟩
end
end Go.Proofs.YtljbbhhiiiepcaaGreatDoor
