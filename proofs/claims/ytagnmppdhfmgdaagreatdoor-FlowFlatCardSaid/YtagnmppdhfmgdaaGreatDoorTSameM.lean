/- Two right trees are the same just if they are the same plain data; what is put of them is alike just so. -/
import Derived.Test.YtagnmppdhfmgdaaGreatDoorTSame4
set_option linter.unusedSimpArgs false
set_option linter.unusedVariables false
set_option maxHeartbeats 8000000
set_option maxRecDepth 100000
namespace Go.Proofs.YtagnmppdhfmgdaaGreatDoor
open Go Go.RowKit
theorem zbA (s t:ByteArray):(s.toList==t.toList)=true↔s.data.toList=t.data.toList:=by
 rw[ByteArray.toList_eq,ByteArray.toList_eq];simp
theorem zbQ:∀(m:Nat) (T U:ET),T.sz≤m→T.rightB=true→U.rightB=true→(zbF T U=true↔T.re=U.re):=by
 intro m
 induction m with
 | zero=>intro T U hm;obtain⟨k,o,n,m,a,c,l⟩:=T;simp[ET.sz] at hm
 | succ m ih =>
  intro T U hm h h'
  rcases zbJ h with ⟨n,a,c,rfl⟩ | ⟨s,a,c,hs,rfl⟩ | ⟨s,a,c,e,hs,he,rfl⟩ | ⟨o,a,c,e,ho,he,rfl⟩ | ⟨o,a,c,e,f,ho,he,hf,rfl⟩
  ·rcases zbJ h' with ⟨n',a',c',rfl⟩ | ⟨s',a',c',hs',rfl⟩ | ⟨s',a',c',e',hs',he',rfl⟩ | ⟨o',a',c',e',ho',he',rfl⟩ | ⟨o',a',c',e',f',ho',he',hf',rfl⟩
   ·simp[zbF,zat,ET.re]
   all_goals simp[zbF,zat,ET.re]
  ·rcases zbJ h' with ⟨n',a',c',rfl⟩ | ⟨s',a',c',hs',rfl⟩ | ⟨s',a',c',e',hs',he',rfl⟩ | ⟨o',a',c',e',ho',he',rfl⟩ | ⟨o',a',c',e',f',ho',he',hf',rfl⟩
   ·simp[zbF,zat,ET.re]
   ·simp only[zbF,zat,ET.re,Bool.and_eq_true,zbA];simp
   all_goals simp[zbF,zat,ET.re]
  ·simp[ET.sz,szs] at hm
   rcases zbJ h' with ⟨n',a',c',rfl⟩ | ⟨s',a',c',hs',rfl⟩ | ⟨s',a',c',e',hs',he',rfl⟩ | ⟨o',a',c',e',ho',he',rfl⟩ | ⟨o',a',c',e',f',ho',he',hf',rfl⟩
   ·simp[zbF,zat,ET.re]
   ·simp[zbF,zat,ET.re]
   ·simp only[zbF,zat,ET.re,Bool.and_eq_true,zbA,ih e e' (by omega) he he'];simp
   all_goals simp[zbF,zat,ET.re]
  ·simp[ET.sz,szs] at hm
   rcases zbJ h' with ⟨n',a',c',rfl⟩ | ⟨s',a',c',hs',rfl⟩ | ⟨s',a',c',e',hs',he',rfl⟩ | ⟨o',a',c',e',ho',he',rfl⟩ | ⟨o',a',c',e',f',ho',he',hf',rfl⟩
   ·simp[zbF,zat,ET.re]
   ·simp[zbF,zat,ET.re]
   ·simp[zbF,zat,ET.re]
   ·obtain⟨x,-,rfl⟩:=unB_is ho
    obtain⟨x',-,rfl⟩:=unB_is ho'
    simp only[zbF,zat,ET.re,Bool.and_eq_true,zbA,ih e e' (by omega) he he'];simp
   ·simp[zbF,zat,ET.re]
  ·simp[ET.sz,szs] at hm
   rcases zbJ h' with ⟨n',a',c',rfl⟩ | ⟨s',a',c',hs',rfl⟩ | ⟨s',a',c',e',hs',he',rfl⟩ | ⟨o',a',c',e',ho',he',rfl⟩ | ⟨o',a',c',e',f',ho',he',hf',rfl⟩
   ·simp[zbF,zat,ET.re]
   ·simp[zbF,zat,ET.re]
   ·simp[zbF,zat,ET.re]
   ·simp[zbF,zat,ET.re]
   ·simp only[zbF,zat,ET.re,Bool.and_eq_true,zbA,ih e e' (by omega) he he',ih f f' (by omega) hf hf'];simp
theorem sameEs_iff:∀(l m:List ET),zap l=true→zap m=true→(zat l m=true↔res l=res m)
 | [],[],_,_=>by simp[zat,res]
 | [],U :: m,_,_=>by simp[zat,res]
 | T :: l,[],_,_=>by simp[zat,res]
 | T :: l,U :: m,h,h'=>by
  simp only[zap,Bool.and_eq_true] at h h'
  have:=sameEs_iff l m h.2 h'.2
  simp only[zat,Bool.and_eq_true,zbQ _ T U (Nat.le_refl _) h.1 h'.1,this,res,List.map_cons,List.cons.injEq]
theorem tag_iff {t t':Int} (h:0≤t) (h':0≤t'):((t==t')=true)↔t.toNat=t'.toNat:=by rw[beq_iff_eq];omega
theorem rss_nil:rss []=[]:=by rw[rss]
theorem zdn (S:ST) (l:List ST):rss (S :: l)=S.rs :: rss l:=by rw[rss]
theorem sameS_iff:∀(m:Nat) (S U:ST),S.sz≤m→S.rightB=true→U.rightB=true→(zcp S U=true↔S.rs=U.rs):=by
 intro m
 induction m with
 | zero=>intro S U hm;obtain⟨k,t,n,f,ea,ec,e,ba,bc,b,la,lc,l⟩:=S;simp[ST.sz] at hm
 | succ m ih =>
  intro S U hm h h'
  have list:∀(l l':List ST),Szs l≤m→zak l=true→zak l'=true→(zaz l l'=true↔rss l=rss l'):=by
   intro l
   induction l with
   | nil =>
    intro l' _ _ _
    cases l' with
    | nil=>simp[zaz,rss_nil]
    | cons U l'=>simp[zaz,rss_nil,zdn]
   | cons S l ihl =>
    intro l' hz hr hr'
    cases l' with
    | nil=>simp[zaz,rss_nil,zdn]
    | cons U l' =>
     simp only[zak,Bool.and_eq_true] at hr hr'
     simp only[Szs] at hz
     simp only[zaz,Bool.and_eq_true,ih S U (by omega) hr.1 hr'.1,ihl l' (by omega) hr.2 hr'.2,zdn,List.cons.injEq]
  obtain⟨t,ht0,ht1,hc⟩:=zch h
  obtain⟨t',ht0',ht1',hc'⟩:=zch h'
  have ht:=tag_iff ht0 ht0'
  rcases hc with ⟨n,ea,ec,e,ba,bc,la,lc,hn,he,rfl⟩ | ⟨n,ea,ec,e,e2,ba,bc,la,lc,hn,he,he2,rfl⟩ | ⟨n,ea,ec,ba,bc,la,lc,hn,rfl⟩ | ⟨n,f,ea,ec,e,ba,bc,la,lc,hn,hf,he,rfl⟩ | ⟨ea,ec,e,ba,bc,b,la,lc,l,he,hb,hl,rfl⟩ | ⟨ea,ec,e,ba,bc,b,la,lc,he,hb,rfl⟩ | ⟨ea,ec,ba,bc,la,lc,rfl⟩ | ⟨ea,ec,ba,bc,la,lc,rfl⟩ | ⟨ea,ec,e,ba,bc,la,lc,he,rfl⟩ | ⟨ea,ec,e,ba,bc,la,lc,he,rfl⟩
  all_goals
   rcases hc' with ⟨n',ea',ec',e',ba',bc',la',lc',hn',he',rfl⟩ | ⟨n',ea',ec',e',e2',ba',bc',la',lc',hn',he',he2',rfl⟩ | ⟨n',ea',ec',ba',bc',la',lc',hn',rfl⟩ | ⟨n',f',ea',ec',e',ba',bc',la',lc',hn',hf',he',rfl⟩ | ⟨ea',ec',e',ba',bc',b',la',lc',l',he',hb',hl',rfl⟩ | ⟨ea',ec',e',ba',bc',b',la',lc',he',hb',rfl⟩ | ⟨ea',ec',ba',bc',la',lc',rfl⟩ | ⟨ea',ec',ba',bc',la',lc',rfl⟩ | ⟨ea',ec',e',ba',bc',la',lc',he',rfl⟩ | ⟨ea',ec',e',ba',bc',la',lc',he',rfl⟩
  all_goals try (simp[zcp,ST.rs];done)
  all_goals simp only[ST.sz,szs,Szs] at hm
  ·simp only[zcp,zat,zaz,ST.rs,nthR,Bool.and_eq_true,zbA,ht,zbQ _ e e' (Nat.le_refl _) he he'];simp[and_assoc]
  ·simp only[zcp,zat,zaz,ST.rs,nthR,Bool.and_eq_true,zbA,ht,zbQ _ e e' (Nat.le_refl _) he he',zbQ _ e2 e2' (Nat.le_refl _) he2 he2'];simp[and_assoc]
  ·simp only[zcp,zat,zaz,ST.rs,nthR,Bool.and_eq_true,zbA,ht];simp[and_assoc]
  ·simp only[zcp,zaz,ST.rs,nthR,Bool.and_eq_true,zbA,ht,sameEs_iff e e' he he'];simp[and_assoc]
  ·simp only[zcp,zat,ST.rs,nthR,Bool.and_eq_true,zbA,ht,zbQ _ e e' (Nat.le_refl _) he he',list b b' (by omega) hb hb',list l l' (by omega) hl hl'];simp[and_assoc]
  ·simp only[zcp,zat,zaz,ST.rs,nthR,Bool.and_eq_true,zbA,ht,zbQ _ e e' (Nat.le_refl _) he he',list b b' (by omega) hb hb'];simp[and_assoc]
  ·simp only[zcp,zat,zaz,ST.rs,nthR,Bool.and_eq_true,zbA,ht];simp[and_assoc]
  ·simp only[zcp,zat,zaz,ST.rs,nthR,Bool.and_eq_true,zbA,ht];simp[and_assoc]
  ·simp only[zcp,zat,zaz,ST.rs,nthR,Bool.and_eq_true,zbA,ht,zbQ _ e e' (Nat.le_refl _) he he'];simp[and_assoc]
  ·simp only[zcp,zat,zaz,ST.rs,nthR,Bool.and_eq_true,zbA,ht,zbQ _ e e' (Nat.le_refl _) he he'];simp[and_assoc]
theorem sameSs_iff:∀(l l':List ST),zak l=true→zak l'=true→(zaz l l'=true↔rss l=rss l')
 | [],[],_,_=>by simp[zaz,rss_nil]
 | [],U :: m,_,_=>by simp[zaz,rss_nil,zdn]
 | S :: l,[],_,_=>by simp[zaz,rss_nil,zdn]
 | S :: l,U :: m,h,h'=>by
  simp only[zak,Bool.and_eq_true] at h h'
  simp only[zaz,Bool.and_eq_true,sameS_iff _ S U (Nat.le_refl _) h.1 h'.1,sameSs_iff l m h.2 h'.2,zdn,List.cons.injEq]
end Go.Proofs.YtagnmppdhfmgdaaGreatDoor
