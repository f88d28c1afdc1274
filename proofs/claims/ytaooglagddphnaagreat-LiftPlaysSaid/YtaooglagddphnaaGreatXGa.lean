/- Ga -/
import Derived.Test.YtaooglagddphnaaGreatXZB
import Derived.Maps.Own
import Derived.WideKeyPair
import Derived.Test.YtaooglagddphnaaGreatXZC
import Derived.Test.YtaooglagddphnaaGreatXZF
import Derived.Test.YtaooglagddphnaaGreatXW
namespace Go.Proofs.YtaooglagddphnaaGreat
open Go.RowKit
set_option maxRecDepth 100000
def eC (V S T:Int)(u v:Nat):Nat:=(Qb7 V S T (u:Int) (v:Int)).toNat
def sC (S T:Int)(s k:Nat):Nat:=(QaH S T (s:Int) (k:Int)).toNat
def Qv (V S T:Int):Nat:=(cn V S T).toNat
section
variable {V S T:Int}{u v u' v' s s' k k':Nat}
theorem QY (h:Rt V S T):((Qv V S T:Nat):Int)=cn V S T:=by
 have:=sizes h;have h1:=this.vn1;have h2:=this.pr1;have h3:=this.nd1;have h4:=h.s1;have h5:=h.t1;unfold Qv cn;omega
theorem QdM (hu:(u:Int)<V)(hv:(v:Int)<V)(hne:u≠v):Qb7 V S T (u:Int) (v:Int)=o4 V S T+(ahF V (min (u:Int) v)+max (u:Int) v-min (u:Int) v-1)/\0<=ahF V (min (u:Int) v)+max (u:Int) v-min (u:Int) v-1/\ahF V (min (u:Int) v)+max (u:Int) v-min (u:Int) v-1<pr V:=
 (Qbv (V:=V) (S:=S) (T:=T) u v).1 (by omega)
theorem Qm9 (h:Rt V S T):0<=o4 V S T:=by
 have:=(sizes h).vn1;have h4:=h.s1;have h5:=h.t1;unfold o4;omega
theorem QcA (h:Rt V S T)(hu:(u:Int)<V)(hv:(v:Int)<V)(hne:u≠v):Qb7 V S T (u:Int) (v:Int)=((eC V S T u v:Nat):Int):=by
 have h1:=QdM (S:=S) (T:=T) hu hv hne;have h2:=Qm9 h;unfold eC;omega
theorem Qi6 (h:Rt V S T)(hu:(u:Int)<V)(hv:(v:Int)<V)(hne:u≠v):o4 V S T<=((eC V S T u v:Nat):Int)/\((eC V S T u v:Nat):Int)<o4 V S T+pr V:=by
 have h1:=QdM (S:=S) (T:=T) hu hv hne;have h2:=QcA h hu hv hne;omega
theorem QkC (h:Rt V S T)(hu:(u:Int)<V)(hv:(v:Int)<V)(hne:u≠v):eC V S T u v<Qv V S T:=by
 have h1:=Qi6 h hu hv hne;have h2:=QY h;have h3:=(sizes h).nd1;unfold cn at h2;unfold o4 at h1;omega
theorem Qma (u v:Nat):eC V S T u v=eC V S T v u:=by
 have e1:min (u:Int) v=min (v:Int) u:=by omega
 have e2:max (u:Int) v=max (v:Int) u:=by omega
 unfold eC Qb7;rw[e1,e2]
 by_cases h:(u:Int)=v
 . rw[h]
 . have:(v:Int)≠u:=fun e=>h e.symm
   simp [h,this]
theorem Qi5 (u v:Nat):eC V S T (min u v) (max u v)=eC V S T u v:=by
 by_cases h:u<=v
 . rw[Nat.min_eq_left h,Nat.max_eq_right h]
 . rw[Nat.min_eq_right (by omega),Nat.max_eq_left (by omega),Qma]
theorem Qen (h:Rt V S T)(hu:(u:Int)<V)(hv:(v:Int)<V)(hne:u<v)(hu':(u':Int)<V)(hv':(v':Int)<V)(hne':u'<v')(e:eC V S T u v=eC V S T u' v'):u=u'/\v=v':=by
 have h1:=QcA h hu hv (by omega)
 have h2:=QcA h hu' hv' (by omega)
 have e2:Qb7 V S T (u:Int) v=Qb7 V S T (u':Int) v':=by rw[h1,h2,e]
 have h3:=QkB (by omega) e2
 have h4:=(QdM (S:=S) (T:=T) hu hv (by omega)).1
 have h5:=(QdM (S:=S) (T:=T) hu' hv' (by omega)).1
 rw[h4,h5,h3] at e2;omega
theorem Qav (hs:(s:Int)<S)(hk:k<7):QaH S T (s:Int) (k:Int)=T+1+s*7+k:=if_pos (by omega)
theorem Qac (h:Rt V S T)(hs:(s:Int)<S)(hk:k<7):QaH S T (s:Int) (k:Int)=((sC S T s k:Nat):Int):=by
 have h1:=Qav (T:=T) hs hk;have h2:=h.t1;unfold sC;omega
theorem QeC (h:Rt V S T)(hs:(s:Int)<S)(hk:k<7):sC S T s k<Qv V S T:=by
 have h1:=Qav (T:=T) hs hk;have h2:=Qac h hs hk;have h3:=QY h;have:=sizes h;have h4:=this.vn1;have h5:=this.pr1;have h6:=this.nd1;unfold cn at h3;omega
theorem Qck (h:Rt V S T)(hs:(s:Int)<S)(hk:k<7)(hs':(s':Int)<S)(hk':k'<7)(e:sC S T s k=sC S T s' k'):s=s'/\k=k':=by
 have h1:=Qav (T:=T) hs hk;have h2:=Qac h hs hk;have h3:=Qav (T:=T) hs' hk';have h4:=Qac h hs' hk';omega
theorem QbN (h:Rt V S T)(hs:(s:Int)<S)(hk:k<7)(hu:(u:Int)<V)(hv:(v:Int)<V)(hne:u≠v):sC S T s k≠eC V S T u v:=fun e=>by
 have h1:=Qav (T:=T) hs hk;have h2:=Qac h hs hk;have h3:=Qi6 h hu hv hne;have h4:=(sizes h).vn1;unfold o4 at h3;omega
end
structure E1 where
 s:Nat
 u:Nat
 v:Nat
 l:Nat
 t:Bool
def bN (b:Bool):Nat:=if b then 1 else 0
theorem Qjg (b:Bool):bN b<=1:=by cases b<;>decide
def eV (s:Nat)(t:Bool):Int:=(((s+1)*2+bN t:Nat):Int)
def nV (u v:Nat):Int:=((u*256+v:Nat):Int)
structure ER (V S T:Int)(f:Nat->Int)(l:List E1):Prop where
 ok:∀ e∈l,e.u<e.v/\(e.v:Int)<V/\(e.s:Int)<S/\(e.l:Int)<lv V
 un:l.Pairwise fun a b=>a.s≠b.s/\¬ (a.u=b.u/\a.v=b.v)
 is:∀ e∈l,f (eC V S T e.u e.v)=eV e.s e.t/\f (sC S T e.s 1)=nV e.u e.v/\f (sC S T e.s 2)=(e.l:Int)
 no:∀ u v:Nat,u<v->(v:Int)<V->(∀ e∈l,¬ (e.u=u/\e.v=v))->f (eC V S T u v)=0
section
variable {V S T:Int}{f:Nat->Int}{l:List E1}{x y:E1}{i j:Nat}
theorem ER.slot1 (h:ER V S T f l)(hi:l[i]?=some x)(hj:l[j]?=some y)(e:x.s=y.s):i=j:=by
 rcases Nat.lt_trichotomy i j with c|c|c
 . have ⟨h1,e1⟩:=List.getElem?_eq_some_iff.1 hi
   have ⟨h2,e2⟩:=List.getElem?_eq_some_iff.1 hj;have:=(List.pairwise_iff_getElem.1 h.un i j h1 h2 c).1;rw[e1,e2] at this;exact absurd e this
 . exact c
 . have ⟨h1,e1⟩:=List.getElem?_eq_some_iff.1 hi
   have ⟨h2,e2⟩:=List.getElem?_eq_some_iff.1 hj;have:=(List.pairwise_iff_getElem.1 h.un j i h2 h1 c).1;rw[e1,e2] at this;exact absurd e.symm this
theorem ER.pair1 (h:ER V S T f l)(hi:l[i]?=some x)(hj:l[j]?=some y)(e1:x.u=y.u)(e2:x.v=y.v):i=j:=by
 rcases Nat.lt_trichotomy i j with c|c|c
 . have ⟨h1,q1⟩:=List.getElem?_eq_some_iff.1 hi
   have ⟨h2,q2⟩:=List.getElem?_eq_some_iff.1 hj;have:=(List.pairwise_iff_getElem.1 h.un i j h1 h2 c).2;rw[q1,q2] at this;exact absurd ⟨e1,e2⟩ this
 . exact c
 . have ⟨h1,q1⟩:=List.getElem?_eq_some_iff.1 hi
   have ⟨h2,q2⟩:=List.getElem?_eq_some_iff.1 hj;have:=(List.pairwise_iff_getElem.1 h.un j i h2 h1 c).2;rw[q1,q2] at this;exact absurd ⟨e1.symm,e2.symm⟩ this
theorem ER.nil (h:∀ k,f k=0):ER V S T f []:=⟨fun _ h=>(nomatch h),List.Pairwise.nil,fun _ h=>(nomatch h),fun _ _ _ _ _=>h _⟩
def putF (V S T:Int)(f:Nat->Int)(e:E1):Nat->Int:=upd (upd (upd f (sC S T e.s 1) (nV e.u e.v)) (sC S T e.s 2) (e.l:Int)) (eC V S T e.u e.v) (eV e.s e.t)
theorem ER.put (h:ER V S T f l)(hR:Rt V S T)(h1:x.u<x.v)(h2:(x.v:Int)<V)(h3:(x.s:Int)<S)(h4:(x.l:Int)<lv V)(hs:∀ e∈l,e.s≠x.s)(hp:∀ e∈l,¬ (e.u=x.u/\e.v=x.v)):ER V S T (putF V S T f x) (l++[x]):=by
 refine⟨fun e he=>?_,List.pairwise_append.2 ⟨h.un,List.pairwise_singleton _ _,fun a ha b hb=>?_⟩,fun e he=>?_,fun u v huv hv hn=>?_⟩
 . rcases List.mem_append.1 he with he|he
   . exact h.ok e he
   . rw[List.mem_singleton.1 he];exact⟨h1,h2,h3,h4⟩
 . rw[List.mem_singleton.1 hb];exact⟨hs a ha,hp a ha⟩
 . unfold putF
   rcases List.mem_append.1 he with he|he
   . obtain⟨o1,o2,o3,o4⟩:=h.ok e he
     obtain⟨i1,i2,i3⟩:=h.is e he
     have n1:eC V S T e.u e.v≠eC V S T x.u x.v:=fun q=>hp e he (Qen hR (by omega) o2 o1 (by omega) h2 h1 q)
     have n2:eC V S T e.u e.v≠sC S T x.s 2:=fun q=>QbN hR h3 (by decide) (by omega) o2 (by omega) q.symm
     have n3:eC V S T e.u e.v≠sC S T x.s 1:=fun q=>QbN hR h3 (by decide) (by omega) o2 (by omega) q.symm
     have m1:∀ k,k<7->sC S T e.s k≠eC V S T x.u x.v:=fun k hk=>QbN hR o3 hk (by omega) h2 (by omega)
     have m2:∀ k j,k<7->j<7->sC S T e.s k≠sC S T x.s j:=fun k j hk hj q=>hs e he (Qck hR o3 hk h3 hj q).1
     refine⟨?_,?_,?_⟩
     . rw[Qa _ _ n1,Qa _ _ n2,Qa _ _ n3];exact i1
     . rw[Qa _ _ (m1 1 (by decide)),Qa _ _ (m2 1 2 (by decide) (by decide)),Qa _ _ (m2 1 1 (by decide) (by decide))];exact i2
     . rw[Qa _ _ (m1 2 (by decide)),Qa _ _ (m2 2 2 (by decide) (by decide)),Qa _ _ (m2 2 1 (by decide) (by decide))];exact i3
   . rw[List.mem_singleton.1 he]
     have m1:∀ k,k<7->sC S T x.s k≠eC V S T x.u x.v:=fun k hk=>QbN hR h3 hk (by omega) h2 (by omega)
     refine⟨QN _ _ _,?_,?_⟩
     . rw[Qa _ _ (m1 1 (by decide)),Qa _ _ (fun q=>by have:=(Qck hR h3 (by decide) h3 (by decide) q).2;omega),QN]
     . rw[Qa _ _ (m1 2 (by decide)),QN]
 . unfold putF
   have n1:eC V S T u v≠eC V S T x.u x.v:=fun q=>hn x (by simp) ((Qen hR (by omega) hv huv (by omega) h2 h1 q).elim fun a b=>⟨a.symm,b.symm⟩)
   have n2:∀ k,k<7->eC V S T u v≠sC S T x.s k:=fun k hk q=>QbN hR h3 hk (by omega) hv (by omega) q.symm
   rw[Qa _ _ n1,Qa _ _ (n2 2 (by decide)),Qa _ _ (n2 1 (by decide))]
   exact h.no u v huv hv fun e he=>hn e (List.mem_append_left _ he)
theorem QaQ {α:Type}{l:List α}{k:Nat}{x:α}(h:x∈l.eraseIdx k):∃ i,i≠k/\l[i]?=some x:=by
 obtain⟨i,hi⟩:=List.mem_iff_getElem?.1 h;rw[List.getElem?_eraseIdx] at hi
 split at hi
 . exact⟨i,by omega,hi⟩
 . exact⟨i+1,by omega,hi⟩
theorem QaR {α:Type}{l:List α}{k i:Nat}{x:α}(h:l[i]?=some x)(hne:i≠k):x∈l.eraseIdx k:=by
 rw[List.mem_iff_getElem?]
 by_cases c:i<k
 . exact⟨i,by rw[List.getElem?_eraseIdx,if_pos c];exact h⟩
 . exact⟨i-1,by rw[List.getElem?_eraseIdx,if_neg (by omega),show i-1+1=i by omega];exact h⟩
theorem ER.remove (h:ER V S T f l)(hR:Rt V S T)(hi:l[i]?=some x):ER V S T (upd f (eC V S T x.u x.v) 0) (l.eraseIdx i):=by
 have hx:=List.mem_of_getElem? hi;obtain⟨x1,x2,x3,x4⟩:=h.ok x hx
 have sub:∀ e∈l.eraseIdx i,e∈l:=fun e he=>List.mem_of_mem_eraseIdx he
 refine⟨fun e he=>h.ok e (sub e he),h.un.sublist (List.eraseIdx_sublist l i),fun e he=>?_,fun u v huv hv hn=>?_⟩
 . obtain⟨j,hj,ej⟩:=QaQ he
   obtain⟨o1,o2,o3,o4⟩:=h.ok e (sub e he);obtain⟨i1,i2,i3⟩:=h.is e (sub e he)
   have n1:eC V S T e.u e.v≠eC V S T x.u x.v:=fun q=>by
    have:=Qen hR (by omega) o2 o1 (by omega) x2 x1 q
    exact hj (h.pair1 ej hi this.1 this.2)
   rw[Qa _ _ n1,Qa _ _ (QbN hR o3 (by decide) (by omega) x2 (by omega)),Qa _ _ (QbN hR o3 (by decide) (by omega) x2 (by omega))]
   exact⟨i1,i2,i3⟩
 . by_cases q:u=x.u/\v=x.v
   . rw[q.1,q.2,QN]
   . rw[Qa _ _ fun e=>q (Qen hR (by omega) hv huv (by omega) x2 x1 e)]
     refine h.no u v huv hv fun e he hq=>?_
     obtain⟨j,hj⟩:=List.mem_iff_getElem?.1 he
     by_cases c:j=i
     . subst c;rw[hi] at hj;injection hj with hj;subst hj;exact q ⟨hq.1.symm,hq.2.symm⟩
     . exact hn e (QaR hj c) hq
theorem Qan {α:Type}{l:List α}{i:Nat}{x y:α}(h:y∈l.set i x):y=x\/∃ j,j≠i/\l[j]?=some y:=by
 obtain⟨j,hj⟩:=List.mem_iff_getElem?.1 h;rw[List.getElem?_set] at hj
 split at hj
 . split at hj
   . injection hj with hj;exact .inl hj.symm
   . cases hj
 . exact .inr ⟨j,fun e=>by simp_all,hj⟩
theorem Qk5 (h:l.Pairwise fun a b=>a.s≠b.s/\¬ (a.u=b.u/\a.v=b.v))(hi:l[i]?=some x)(e1:y.s=x.s)(e2:y.u=x.u)(e3:y.v=x.v):(l.set i y).Pairwise fun a b=>a.s≠b.s/\¬ (a.u=b.u/\a.v=b.v):=by
 have hx:=(List.getElem?_eq_some_iff.1 hi);rw[List.pairwise_iff_getElem] at h |-;intro a b ha hb hab;rw[List.length_set] at ha hb;have:=h a b ha hb hab;rw[List.getElem_set,List.getElem_set]
 by_cases c:i=a
 . subst c
   rw[if_pos rfl,if_neg (by omega),e1,e2,e3]
   rw[hx.2] at this;exact this
 . rw[if_neg c]
   by_cases d:i=b
   . subst d
     rw[if_pos rfl,e1,e2,e3];rw[hx.2] at this;exact this
   . rw[if_neg d];exact this
theorem ER.turn (h:ER V S T f l)(hR:Rt V S T)(hi:l[i]?=some x)(t:Bool):ER V S T (upd f (eC V S T x.u x.v) (eV x.s t)) (l.set i { x with t:=t }):=by
 have hx:=List.mem_of_getElem? hi;obtain⟨x1,x2,x3,x4⟩:=h.ok x hx
 refine⟨fun e he=>?_,Qk5 h.un hi rfl rfl rfl,fun e he=>?_,fun u v huv hv hn=>?_⟩
 . rcases Qan he with rfl|⟨j,hj,ej⟩
   . exact⟨x1,x2,x3,x4⟩
   . exact h.ok e (List.mem_of_getElem? ej)
 . rcases Qan he with rfl|⟨j,hj,ej⟩
   . obtain⟨i1,i2,i3⟩:=h.is x hx
     exact⟨QN _ _ _,by rw[Qa _ _ (QbN hR x3 (by decide) (by omega) x2 (by omega))];exact i2,by rw[Qa _ _ (QbN hR x3 (by decide) (by omega) x2 (by omega))];exact i3⟩
   . have he':=List.mem_of_getElem? ej
     obtain⟨o1,o2,o3,o4⟩:=h.ok e he';obtain⟨i1,i2,i3⟩:=h.is e he'
     have n1:eC V S T e.u e.v≠eC V S T x.u x.v:=fun q=>by
      have:=Qen hR (by omega) o2 o1 (by omega) x2 x1 q
      exact hj (h.pair1 ej hi this.1 this.2)
     rw[Qa _ _ n1,Qa _ _ (QbN hR o3 (by decide) (by omega) x2 (by omega)),Qa _ _ (QbN hR o3 (by decide) (by omega) x2 (by omega))]
     exact⟨i1,i2,i3⟩
 . have hil:=(List.getElem?_eq_some_iff.1 hi).1
   have mx:{ x with t:=t }∈l.set i { x with t:=t }:=List.mem_iff_getElem?.2 ⟨i,by rw[List.getElem?_set_self hil]⟩
   have q:=hn _ mx
   rw[Qa _ _ fun e=>q ((Qen hR (by omega) hv huv (by omega) x2 x1 e).elim fun a b=>⟨a.symm,b.symm⟩)]
   refine h.no u v huv hv fun e he hq=>?_
   obtain⟨j,hj⟩:=List.mem_iff_getElem?.1 he
   by_cases c:j=i
   . subst c;rw[hi] at hj;injection hj with hj;subst hj;exact q hq
   . exact hn e (List.mem_iff_getElem?.2 ⟨j,by rw[List.getElem?_set_ne (Ne.symm c)];exact hj⟩) hq
theorem ER.lift (h:ER V S T f l)(hR:Rt V S T)(hi:l[i]?=some x){k:Nat}(hk:(k:Int)<lv V):ER V S T (upd f (sC S T x.s 2) (k:Int)) (l.set i { x with l:=k }):=by
 have hx:=List.mem_of_getElem? hi;obtain⟨x1,x2,x3,x4⟩:=h.ok x hx
 refine⟨fun e he=>?_,Qk5 h.un hi rfl rfl rfl,fun e he=>?_,fun u v huv hv hn=>?_⟩
 . rcases Qan he with rfl|⟨j,hj,ej⟩
   . exact⟨x1,x2,x3,hk⟩
   . exact h.ok e (List.mem_of_getElem? ej)
 . rcases Qan he with rfl|⟨j,hj,ej⟩
   . obtain⟨i1,i2,i3⟩:=h.is x hx
     exact⟨by rw[Qa _ _ (fun q=>QbN (u:=x.u) (v:=x.v) hR x3 (by decide) (by omega) x2 (by omega) q.symm)];exact i1,by rw[Qa _ _ (fun q=>by have:=(Qck hR x3 (by decide) x3 (by decide) q).2;omega)];exact i2,QN _ _ _⟩
   . have he':=List.mem_of_getElem? ej
     obtain⟨o1,o2,o3,o4⟩:=h.ok e he';obtain⟨i1,i2,i3⟩:=h.is e he'
     have ns:∀ k,k<7->sC S T e.s k≠sC S T x.s 2:=fun k hk q=>hj (h.slot1 ej hi (Qck hR o3 hk x3 (by decide) q).1)
     rw[Qa _ _ (fun q=>QbN hR x3 (by decide) (by omega) o2 (by omega) q.symm),Qa _ _ (ns 1 (by decide)),Qa _ _ (ns 2 (by decide))]
     exact⟨i1,i2,i3⟩
 . have hil:=(List.getElem?_eq_some_iff.1 hi).1
   have mx:{ x with l:=k }∈l.set i { x with l:=k }:=List.mem_iff_getElem?.2 ⟨i,by rw[List.getElem?_set_self hil]⟩
   have q:=hn _ mx
   rw[Qa _ _ fun e=>QbN hR x3 (by decide) (by omega) hv (by omega) e.symm]
   refine h.no u v huv hv fun e he hq=>?_
   obtain⟨j,hj⟩:=List.mem_iff_getElem?.1 he
   by_cases c:j=i
   . subst c;rw[hi] at hj;injection hj with hj;subst hj;exact q hq
   . exact hn e (List.mem_iff_getElem?.2 ⟨j,by rw[List.getElem?_set_ne (Ne.symm c)];exact hj⟩) hq
end
def FM (k:TypeId)(w:World)(b n:Nat)(G:Value->Value->Prop):Prop:=
 ∃ es clock,w.heap[b]?=some (.map es clock)/\es.size<=n/\(∀ e∈es.toList,∃ l,keyOf Tryz.prog k e.key=some l)/\es.toList.Pairwise (fun a c=>a.key≠c.key)/\∀ key val,G key val↔∃ e∈es.toList,e.key=key/\e.val=val
section
variable {k t e:TypeId}{w w':World}{b n:Nat}{G G':Value->Value->Prop}{key v z:Value}{kl:Lit}
theorem FM.made (k:TypeId)(w:World):FM k (w.alloc (.map #[] 0)) w.heap.size 0 fun _ _=>False:=
 ⟨#[],0,(MapKept.heap_alloc w _).1,Nat.le_refl _,by simp,by simp,by simp⟩
theorem FM.lt (h:FM k w b n G):b<w.heap.size:=by
 obtain⟨es,clock,hb,_⟩:=h;exact(Array.getElem?_eq_some_iff.1 hb).1
theorem FM.keep (h:FM k w b n G)(hb:w'.heap[b]?=w.heap[b]?):FM k w' b n G:=by
 obtain⟨es,clock,h1,r⟩:=h;exact⟨es,clock,hb.trans h1,r⟩
theorem FM.ne_blk (h:FM k w b n G){i:Nat}{ty:TypeId}{cs:Array Value}(hi:Blk w i ty cs):b≠i:=by
 rintro rfl;obtain⟨es,clock,h1,_⟩:=h;unfold Blk at hi;rw[hi] at h1
 cases h1
theorem FM.look_some (c:Bool)(h:FM k w b n G)(K:Go.Maps.Keyed Tryz.prog k)(ht:Tryz.prog.underlying t=some (.map k e))(hkey:keyOf Tryz.prog k key=some kl)(hG:G key v):
 (Instr.lookup t (.map (some b)) key c).run Tryz.prog w=.ok (if c then .tuple #[v,.bool true] else v) w:=by
 obtain⟨es,clock,hb,_,h1,h2,h3⟩:=h;obtain⟨e1,m1,k1,v1⟩:=(h3 key v).1 hG
 rcases K.find w hkey es.toList h1 with ⟨_,f2⟩|⟨j,e0,f1,f2,f3⟩
 . exact absurd k1 (f2 e1 m1)
 . have m0:e0∈es.toList:=List.mem_of_getElem? f2
   have e01:e0=e1:=by
    obtain⟨i,hi⟩:=List.mem_iff_getElem?.1 m1
    rcases Nat.lt_trichotomy i j with c|c|c
    . have ⟨g1,g2⟩:=List.getElem?_eq_some_iff.1 hi
      have ⟨g3,g4⟩:=List.getElem?_eq_some_iff.1 f2;have:=List.pairwise_iff_getElem.1 h2 i j g1 g3 c;rw[g2,g4,k1,f3] at this;exact absurd rfl this
    . subst c;rw[hi] at f2;injection f2 with f2;exact f2.symm
    . have ⟨g1,g2⟩:=List.getElem?_eq_some_iff.1 hi
      have ⟨g3,g4⟩:=List.getElem?_eq_some_iff.1 f2;have:=List.pairwise_iff_getElem.1 h2 j i g3 g1 c;rw[g2,g4,k1,f3] at this;exact absurd rfl this
   have hv:e0.val=v:=by rw[e01];exact v1
   simp [Instr.lookup,run_underlying ht,MapKept.run_getObj_map hb,K.check w _ hkey,f1,Result.andThen,hv]
theorem FM.store (h:FM k w b n G)(K:Go.Maps.Keyed Tryz.prog k)(ht:Tryz.prog.underlying t=some (.map k e))(hkey:keyOf Tryz.prog k key=some kl)(hG:∀ x u,G' x u↔(x=key/\u=v)\/(x≠key/\G x u)):
 ∃ w',(Instr.mapUpdate t (.map (some b)) key v).run Tryz.prog w=.ok () w'/\FM k w' b (n+1) G'/\w.grownBy w' (some b):=by
 obtain⟨es,clock,hb,hsz,h1,h2,h3⟩:=h
 have gr:∀ o,w.grownBy (ChangeMaps.setBlock w b o) (some b):=fun o=>⟨rfl,rfl,rfl,by simp [ChangeMaps.setBlock],fun i _ hi=>ChangeMaps.heap_setBlock_other hb _ (fun e=>hi (by rw[e]))⟩
 rcases K.find w hkey es.toList h1 with ⟨f1,f2⟩|⟨j,e0,f1,f2,f3⟩
 . refine⟨ChangeMaps.setBlock w b (.map (es.push ⟨key,v,clock⟩) (clock+1)),?_,⟨es.push ⟨key,v,clock⟩,clock+1,ChangeMaps.heap_setBlock_same hb _,by simp;omega,?_,?_,?_⟩,gr _⟩
   . simp [Instr.mapUpdate,run_underlying ht,MapKept.run_getObj_map hb,K.check w false hkey,f1,MapKept.run_setObj_map _ hb,Result.andThen,ChangeMaps.setBlock]
   . intro x hx
     simp only[Array.toList_push,List.mem_append,List.mem_singleton] at hx
     rcases hx with hx|rfl
     . exact h1 x hx
     . exact⟨_,hkey⟩
   . rw[Array.toList_push]
     exact List.pairwise_append.2 ⟨h2,List.pairwise_singleton _ _,fun a ha c hc=>by rw[List.mem_singleton.1 hc];exact f2 a ha⟩
   . intro x u
     rw[hG,h3,Array.toList_push]
     constructor
     . rintro(⟨e1,e2⟩|⟨_,y,hy,e1,e2⟩)
       . exact⟨_,List.mem_append_right _ (List.mem_singleton.2 rfl),e1.symm,e2.symm⟩
       . exact⟨y,List.mem_append_left _ hy,e1,e2⟩
     . rintro⟨y,hy,e1,e2⟩
       rcases List.mem_append.1 hy with hy|hy
       . exact .inr ⟨fun e=>f2 y hy (e1.trans e),y,hy,e1,e2⟩
       . rw[List.mem_singleton.1 hy] at e1 e2;exact .inl ⟨e1.symm,e2.symm⟩
 . have hj:es[j]?=some e0:=by simpa using f2
   have hjl:=(List.getElem?_eq_some_iff.1 f2).1
   have hlist:(es.modify j (fun e'=>{ e' with key:=key,val:=v })).toList=es.toList.set j { e0 with key:=key,val:=v }:=by rw[Array.toList_modify,ChangeMaps.modify_eq_set _ _ _ _ f2]
   have other:∀ i y,i≠j->es.toList[i]?=some y->y.key≠key:=fun i y hi hy e=>by
    have ⟨g1,g2⟩:=List.getElem?_eq_some_iff.1 hy;have ⟨g3,g4⟩:=List.getElem?_eq_some_iff.1 f2
    rcases Nat.lt_or_gt_of_ne hi with c|c
    . have:=List.pairwise_iff_getElem.1 h2 i j g1 g3 c
      rw[g2,g4,e,f3] at this;exact this rfl
    . have:=List.pairwise_iff_getElem.1 h2 j i g3 g1 c
      rw[g2,g4,e,f3] at this;exact this rfl
   refine⟨ChangeMaps.setBlock w b (.map (es.modify j (fun e'=>{ e' with key:=key,val:=v })) clock),?_,⟨_,clock,ChangeMaps.heap_setBlock_same hb _,by simp;omega,?_,?_,?_⟩,gr _⟩
   . simp [Instr.mapUpdate,run_underlying ht,MapKept.run_getObj_map hb,K.check w false hkey,f1,hj,f3,K.stays w hkey,MapKept.run_setObj_map _ hb,Result.andThen,ChangeMaps.setBlock]
   . intro x hx
     rw[hlist] at hx
     rcases Qan hx with rfl|⟨i,_,hi⟩
     . exact⟨_,hkey⟩
     . exact h1 x (List.mem_of_getElem? hi)
   . rw[hlist,List.pairwise_iff_getElem]
     intro i1 i2 g1 g2 hlt;rw[List.length_set] at g1 g2;rw[List.getElem_set,List.getElem_set]
     by_cases c1:j=i1
     . rw[if_pos c1,if_neg (by omega)]
       exact fun e=>other i2 _ (by omega) (List.getElem?_eq_getElem g2) e.symm
     . rw[if_neg c1]
       by_cases c2:j=i2
       . rw[if_pos c2]
         exact fun e=>other i1 _ (by omega) (List.getElem?_eq_getElem g1) e
       . rw[if_neg c2];exact List.pairwise_iff_getElem.1 h2 i1 i2 g1 g2 hlt
   . intro x u
     rw[hG,h3,hlist]
     constructor
     . rintro(⟨e1,e2⟩|⟨hne,y,hy,e1,e2⟩)
       . exact⟨_,List.mem_iff_getElem?.2 ⟨j,List.getElem?_set_self hjl⟩,e1.symm,e2.symm⟩
       . obtain⟨i,hi⟩:=List.mem_iff_getElem?.1 hy
         have hij:i≠j:=fun e=>by
          subst e;rw[f2] at hi;injection hi with hi;subst hi;exact hne (e1.symm.trans f3)
         exact⟨y,List.mem_iff_getElem?.2 ⟨i,by rw[List.getElem?_set_ne (Ne.symm hij)];exact hi⟩,e1,e2⟩
     . rintro⟨y,hy,e1,e2⟩
       rcases Qan hy with rfl|⟨i,hij,hi⟩
       . exact .inl ⟨e1.symm,e2.symm⟩
       . exact .inr ⟨fun e=>other i y hij hi (e1.trans e),y,List.mem_of_getElem? hi,e1,e2⟩
end
theorem LI.at {w:World}{a:Option Addr}{n c k x:Nat}{l:List Nat}(h:LI w (.slice a n c) l)(hx:l[k]?=some x):∃ b off,a=some (I1 b off)/\w.cell? (I1 b (off+k))=some (I (x:Int)):=by
 obtain⟨a',cap,e,h1,h2,h3,h4⟩:=h;injection e with e1 e2 e3;subst e1 e3;have hk:=(List.getElem?_eq_some_iff.1 hx).1
 obtain⟨b,off,zs,rfl,hz,hs,he⟩:=h4 (by omega)
 exact⟨b,off,rfl,(hz.cell (off+k)).trans (he k x hx)⟩
def EM (w:World)(V S T:Int)(p gb cap m:Nat)(f:Nat->Int):Prop:=Rt V S T/\∃ c,Ar w p gb (Qv V S T) cap c f/\CB c m
abbrev vE (V S T:Int)(p:Nat):Value:=.agg #[I V,I S,I T,I4 p]
def EdB (w:World)(b:Nat)(V S T:Int)(p:Nat):Prop:=Blk w b 47 #[I V,I S,I T,I4 p]
section
variable {w w' w0:World}{V S T:Int}{p gb cap m m' b k:Nat}{f:Nat->Int}
theorem EM.hR (h:EM w V S T p gb cap m f):Rt V S T:=h.1
theorem EM.below (h:EM w V S T p gb cap m f)(hb:Below w.heap.size w w'):EM w' V S T p gb cap m f:=by
 obtain⟨h1,c,A,C⟩:=h;exact⟨h1,c,A.below hb (Nat.le_refl _),C⟩
theorem EM.p_lt (h:EM w V S T p gb cap m f):p<w.heap.size:=by obtain⟨_,_,A,_⟩:=h;exact A.p_lt
theorem EM.g_lt (h:EM w V S T p gb cap m f):gb<w.heap.size:=by obtain⟨_,_,A,_⟩:=h;exact A.g_lt
theorem Blk.em {q:Nat}{ty:TypeId}{cs:Array Value}(h:Blk w q ty cs)(A:EM w V S T p gb cap m f)(ho:Only p gb w w')(h1:ty≠127)(h2:ty≠88):Blk w' q ty cs:=by
 obtain⟨_,_,A,_⟩:=A;obtain⟨zs,hz,_⟩:=A.cells;exact h.only ho (Blk.ne_ h A.own h1) (Blk.ne_ h hz h2)
theorem EM.far (h:EM w V S T p gb cap m f){q j:Nat}{ty:TypeId}{cs:Array Value}(hq:Blk w q ty cs)(h1:ty≠127)(h2:ty≠88)(u:Value):EM (w.setCell (I1 q j) u) V S T p gb cap m f:=by
 obtain⟨hR,c,A,C⟩:=h;obtain⟨zs,hz,_⟩:=A.cells;exact⟨hR,c,A.q_far (Blk.ne_ hq A.own h1) (Blk.ne_ hq hz h2) u,C⟩
theorem Qgk (h:EM w V S T p gb cap m f)(hk:k<Qv V S T)(hb:m<=100000000){kI:Int}(hI:kI=(k:Int)):
 Calls Tryz.prog 185 #[pmV p,I kI] w fun e w'=>e=.returned (I2 (f k))/\EM w' V S T p gb cap (m+1) f/\Only p gb w w':=by
 subst hI;obtain⟨h1,c,A,C⟩:=h;refine(QcS A hk C hb).mono ?_;rintro e w' ⟨rfl,A2,O2⟩;exact⟨rfl,⟨h1,_,A2,C.upd 0⟩,O2⟩
theorem QbK (h:EM w V S T p gb cap m f)(hk:k<Qv V S T){x:Int}(hx0:0<=x)(hx1:x<=18446744073709551615)(hb:m<=100000000){kI:Int}(hI:kI=(k:Int)):
 Calls Tryz.prog 186 #[pmV p,I kI,I2 x] w fun e w'=>e=.returned (.tuple #[])/\EM w' V S T p gb cap (m+1) (upd f k x)/\Only p gb w w':=by
 subst hI;obtain⟨h1,c,A,C⟩:=h;refine(Qdc A hk hx0 hx1 C hb).mono ?_;rintro e w' ⟨rfl,A2,O2⟩;exact⟨rfl,⟨h1,_,A2,C.upd 1⟩,O2⟩
theorem EdB.new (w:World)(V S T:Int)(p:Nat):EdB (w.alloc (.cells #[I V,I S,I T,I4 p] 47)) w.heap.size V S T p:=Blk.new _ _ _
theorem EdB.lt (h:EdB w b V S T p):b<w.heap.size:=Blk.lt h
theorem EdB.below (h:EdB w b V S T p)(hb:Below w.heap.size w w'):EdB w' b V S T p:=Blk.below h hb (Blk.lt h)
theorem EdB.only (h:EdB w b V S T p)(A:EM w V S T p gb cap m f)(ho:Only p gb w w'):EdB w' b V S T p:=Blk.em h A ho (by decide) (by decide)
theorem EdB.cells (h:EdB w b V S T p):w.cell? (I1 b 0)=some (I V)/\w.cell? (I1 b 1)=some (I S)/\w.cell? (I1 b 2)=some (I T)/\w.cell? (I1 b 3)=some (I4 p):=
 ⟨Blk.cell h 0,Blk.cell h 1,Blk.cell h 2,Blk.cell h 3⟩
theorem EdB.rule (b:Nat)(V S T:Int)(p:Nat):∀ W:World,EdB W b V S T p->W.cell? (I1 b 0)=some (I V)/\W.cell? (I1 b 1)=some (I S)/\W.cell? (I1 b 2)=some (I T)/\W.cell? (I1 b 3)=some (I4 p):=fun _ h=>h.cells
structure EX (w0 W:World)(b:Nat)(V S T:Int)(p gb cap m:Nat)(f:Nat->Int):Prop where
 e:EdB W b V S T p
 m:EM W V S T p gb cap m f
 o:Only p gb w0 W
theorem EX.below (h:EX w0 w b V S T p gb cap m f)(hb:Below w.heap.size w w'):EX w0 w' b V S T p gb cap m f:=⟨h.e.below hb,h.m.below hb,h.o.trans (Only.of_below hb)⟩
theorem EX.drew (h:EX w0 w b V S T p gb cap m f):EX w0 w.drew b V S T p gb cap m f:=h.below (Below.refl _ _).drew
theorem EX.next {f':Nat->Int}(h:EX w0 w b V S T p gb cap m f)(hm:EM w' V S T p gb cap m' f')(ho:Only p gb w w'):EX w0 w' b V S T p gb cap m' f':=⟨h.e.only h.m ho,hm,h.o.trans ho⟩
theorem EX.new (h:EM w V S T p gb cap m f):EX w (w.alloc (.cells #[I V,I S,I T,I4 p] 47)) w.heap.size V S T p gb cap m f:=
 ⟨EdB.new _ _ _ _ _,h.below ((Below.refl _ _).alloc (Nat.le_refl _) _),(Only.refl _ _ _).alloc _⟩
end
section
variable {V S T:Int}{p:Nat}
theorem Qb4 (hR:Rt V S T){x:Int}(h0:0<=x)(h1:x<S)(w:World):
 Calls Tryz.prog 121 #[vE V S T p,I x] w fun e w'=>e=.returned (.bool true)/\Below w.heap.size w w':=by
 have hs:QaH S T x 1=T+1+x*7+1:=if_pos (by omega)
 have HS:=q9 hs
 have hg:(0:Int)<=T+1+x*7+1:=by have:=hR.t1;omega
 clear hs
 go_enter Tryz.func121,Tryz.ntmps121
 go_wp2_with fail
 refine(QbJ V S T x hR _).mono ?_;rintro e w1 ⟨rfl,hb1⟩;rw[HS.out];go_wp2_with fail
 go_ret;exact⟨rfl,QK ((Below.refl _ _).alloc (Nat.le_refl _) _) hb1⟩
theorem Qc5 (hR:Rt V S T){x:Int}(h0:0<=x)(h1:x<lv V)(w:World):
 Calls Tryz.prog 69 #[vE V S T p,I x] w fun e w'=>e=.returned (.bool true)/\Below w.heap.size w w':=by
 go_enter Tryz.func69,Tryz.ntmps69
 go_wp2_with fail
 refine(QM V S T hR _).mono ?_;rintro e w1 ⟨rfl,hb1⟩;go_wp2_with fail
 go_ret;exact⟨rfl,QK ((Below.refl _ _).alloc (Nat.le_refl _) _) hb1⟩
end
section
variable {w w' w0:World}{V S T:Int}{p gb cap m u v s:Nat}{f:Nat->Int}{t:Bool}
theorem Qkw (h:EM w V S T p gb cap m f)(hu:(u:Int)<V)(hv:(v:Int)<V)(hne:u≠v)(hs:(s:Int)<S)(hf:f (eC V S T u v)=eV s t)(hm:m<=100000000):
 Calls Tryz.prog 123 #[vE V S T p,I (u:Int),I (v:Int)] w fun e w'=>e=.returned (.tuple #[I (s:Int),.bool t,.bool true])/\EM w' V S T p gb cap (m+1) f/\Only p gb w w':=by
 have ml:=QaF;have H:=q9 (EX.new h);have HR:=q9 h.hR;have HK:=q9 (QcA h.hR hu hv hne);have HL:=q9 (QkC h.hR hu hv hne);have HF:=q9 hf;clear h hf;have hk0:(0:Int)<=((eC V S T u v:Nat):Int):=Int.natCast_nonneg _;generalize eC V S T u v=k at HK HL HF hk0
 go_enter Tryz.func123,Tryz.ntmps123
 go_wp2_with fail
 generalize w.alloc (.cells #[I V,I S,I T,I4 p] 47)=w1 at H |-;generalize w.heap.size=b at H |-;refine(QbL V S T (u:Int) (v:Int) HR _).mono ?_;rintro e w2 ⟨rfl,hb2⟩;rw[HK.out];have H2:=q9 (H.below hb2);clear H hb2;obtain⟨c0,c1,c2,c3⟩:=H2.e.cells;have blt:=H2.e.lt;go_wp2_with fail
 refine(Qgk H2.m HL hm rfl).mono ?_;rintro e w3 ⟨rfl,A3,O3⟩;rw[HF.out,eV];have H3:=q9 (H2.next A3 O3);clear H2 A3 O3 c0 c1 c2 c3 blt;obtain⟨c0,c1,c2,c3⟩:=H3.e.cells;have blt:=H3.e.lt
 have sI:(s:Int)<48:=by have:=HR.s2;omega
 have hq:(((s+1)*2+bN t:Nat):Int) / 2=(s:Int)+1:=by have:=Qjg t;omega
 have s0:(0:Int)<=(s:Int):=Int.natCast_nonneg _
 have hand:(bits .and .u64 (((s+1)*2+bN t:Nat):Int) 1 !=0)=t:=by
  rw[Qn8 _ (by omega) (by have:=Qjg t;omega),show (((s+1)*2+bN t:Nat):Int) % 2=bN t by have:=Qjg t;omega]
  cases t<;>rfl
 generalize (s+1)*2+bN t=n at hq hand |-;go_wp2_with fail
 refine(Qb4 HR s0 hs _).mono ?_;rintro e w4 ⟨rfl,hb4⟩;have H4:=q9 (H3.below hb4);clear H3 hb4 c0 c1 c2 c3 blt;go_wp2_with fail
 go_ret3
 exact⟨rfl,H4.m,H4.o⟩
theorem Qm8 {a b:Nat}(ha:a<16)(hb:b<16):bits .or .i64 ((a:Int)*256) (b:Int)=nV a b:=by
 have key:∀ a<16,∀ b<16,bits .or .i64 ((a:Nat)*256:Int) ((b:Nat):Int)=((a*256+b:Nat):Int):=by decide +kernel
 exact key a ha b hb
theorem Qh9 (h:EM w V S T p gb cap m f)(hu:(u:Int)<V)(hv:(v:Int)<V)(hne:u≠v)(hs:(s:Int)<S)(hm:m<=100000000):
 Calls Tryz.prog 127 #[vE V S T p,I (s:Int),I (u:Int),I (v:Int),.bool t] w fun e w'=>e=.returned (.tuple #[])/\EM w' V S T p gb cap (m+1) (upd f (eC V S T u v) (eV s t))/\Only p gb w w':=by
 have ms:=Qaa;have mn:=Qa1;have H:=q9 (EX.new h);have HR:=q9 h.hR;have HK:=q9 (QcA h.hR hu hv hne);have HL:=q9 (QkC h.hR hu hv hne)
 have sI:(s:Int)<48:=by have:=h.hR.s2;omega
 have s0:(0:Int)<=(s:Int):=Int.natCast_nonneg _
 have e0:eV s t=((s:Int)+1)*2+bN t:=by unfold eV;omega
 have HE0:Hid (0<=eV s t/\eV s t<=18446744073709551615):=q9 (by have:=Qjg t;omega)
 have hor:bits .or .u64 (((s:Int)+1)*2) 1=((s:Int)+1)*2+1:=or_1 _ (by omega) (by omega)
 clear h;have hk0:(0:Int)<=((eC V S T u v:Nat):Int):=Int.natCast_nonneg _;generalize eC V S T u v=k at HK HL hk0
 cases t
 . as_aux_lemma=>
   have e1:eV s false=((s:Int)+1)*2:=by rw[e0];show _+((0:Nat):Int)=_;omega
   have HE1:=q9 e1;clear e0 e1
   go_enter Tryz.func127,Tryz.ntmps127
   go_wp2_with fail
   generalize w.alloc (.cells #[I V,I S,I T,I4 p] 47)=w1 at H |-;generalize w.heap.size=b at H |-;obtain⟨c0,c1,c2,c3⟩:=H.e.cells;have blt:=H.e.lt;have HD:=q9 H.drew;have hrule:=EdB.rule b V S T p
   go_region_held3 (fun W=>EdB W b V S T p) (first|(with_reducible assumption)|(with_reducible exact H3.out.e)|(with_reducible exact H2.out.e)|(with_reducible exact HD.out.e))
    (first
     |(go_at_call 91;((with_reducible refine(QbL V S T (u:Int) (v:Int) HR.out _).mono ?_);rintro e w2 ⟨rfl,hb2⟩;rw[HK.out];have H2:=q9 (HD.out.below hb2)))
     |((with_reducible refine(QbK (x:=((s:Int)+1)*2) H2.out.m HL.out (by omega) (by omega) hm rfl).mono ?_);rintro e w3 ⟨rfl,A3,O3⟩;have H3:=q9 (H2.out.next A3 O3))
     |fail)
   go_wp2_with fail
   go_end0
   exact⟨rfl,by rw[HE1.out];exact H3.m,H3.o⟩
 . as_aux_lemma=>
   have e1:eV s true=((s:Int)+1)*2+1:=by rw[e0];rfl
   have HE1:=q9 e1;clear e0 e1
   go_enter Tryz.func127,Tryz.ntmps127
   go_wp2_with fail
   generalize w.alloc (.cells #[I V,I S,I T,I4 p] 47)=w1 at H |-;generalize w.heap.size=b at H |-;obtain⟨c0,c1,c2,c3⟩:=H.e.cells;have blt:=H.e.lt;have HD:=q9 H.drew;have hrule:=EdB.rule b V S T p
   go_region_held3 (fun W=>EdB W b V S T p) (first|(with_reducible assumption)|(with_reducible exact H3.out.e)|(with_reducible exact H2.out.e)|(with_reducible exact HD.out.e))
    (first
     |(go_at_call 91;((with_reducible refine(QbL V S T (u:Int) (v:Int) HR.out _).mono ?_);rintro e w2 ⟨rfl,hb2⟩;rw[HK.out];have H2:=q9 (HD.out.below hb2)))
     |((with_reducible refine(QbK (x:=((s:Int)+1)*2+1) H2.out.m HL.out (by omega) (by omega) hm rfl).mono ?_);rintro e w3 ⟨rfl,A3,O3⟩;have H3:=q9 (H2.out.next A3 O3))
     |fail)
   go_wp2_with fail
   go_end0
   exact⟨rfl,by rw[HE1.out];exact H3.m,H3.o⟩
theorem Qhi (h:EM w V S T p gb cap m f)(hu:(u:Int)<V)(hv:(v:Int)<V)(hne:u≠v)(hm:m<=100000000):
 Calls Tryz.prog 39 #[vE V S T p,I (u:Int),I (v:Int)] w fun e w'=>e=.returned (.tuple #[])/\EM w' V S T p gb cap (m+1) (upd f (eC V S T u v) 0)/\Only p gb w w':=by
 have ms:=Qaa;have H:=q9 (EX.new h);have HR:=q9 h.hR;have HK:=q9 (QcA h.hR hu hv hne);have HL:=q9 (QkC h.hR hu hv hne);clear h;have hk0:(0:Int)<=((eC V S T u v:Nat):Int):=Int.natCast_nonneg _;generalize eC V S T u v=k at HK HL hk0
 go_enter Tryz.func39,Tryz.ntmps39
 go_wp2_with fail
 generalize w.alloc (.cells #[I V,I S,I T,I4 p] 47)=w1 at H |-;generalize w.heap.size=b at H |-;refine(QbL V S T (u:Int) (v:Int) HR _).mono ?_;rintro e w2 ⟨rfl,hb2⟩;rw[HK.out];have H2:=q9 (H.below hb2);clear H hb2;obtain⟨c0,c1,c2,c3⟩:=H2.e.cells;have blt:=H2.e.lt;go_wp2_with fail
 refine(QbK H2.m HL (by omega) (by omega) hm rfl).mono ?_;rintro e w3 ⟨rfl,A3,O3⟩
 have H3:=q9 (H2.next A3 O3);clear H2 A3 O3 c0 c1 c2 c3 blt;go_wp2_with fail
 go_end0
 exact⟨rfl,H3.m,H3.o⟩
end
section
variable {w w' w0:World}{V S T:Int}{p gb cap m m' u v s l b r:Nat}{f f':Nat->Int}{t:Bool}
theorem Qn3 {a b:Nat}(ha:a<16)(hb:b<16):0<=nV a b/\nV a b<=65535:=by unfold nV;omega
set_option maxHeartbeats 2000000 in
theorem QlI (h:EM w V S T p gb cap m f)(hu:(u:Int)<V)(hv:(v:Int)<V)(hne:u≠v)(hs:(s:Int)<S)(hl:(l:Int)<lv V)(hm:m<=99900000):
 Calls Tryz.prog 82 #[vE V S T p,I (s:Int),I (u:Int),I (v:Int),I (l:Int),.bool t] w fun e w'=>e=.returned (.tuple #[])/\EM w' V S T p gb cap (m+3) (putF V S T f ⟨s,min u v,max u v,l,t⟩)/\Only p gb w w':=by
 have ms:=Qaa;have mn:=Qa1;have H:=q9 (EX.new h);have HR:=q9 h.hR;have HK:=q9 (QcA h.hR hu hv hne);have HP:Hid ((u:Int)<V/\(v:Int)<V/\u≠v/\(s:Int)<S/\(l:Int)<lv V):=q9 ⟨hu,hv,hne,hs,hl⟩
 have H1:Hid (QaH S T (s:Int) 1=((sC S T s 1:Nat):Int)):=q9 (Qac h.hR hs (k:=1) (by decide))
 have H2:Hid (QaH S T (s:Int) 2=((sC S T s 2:Nat):Int)):=q9 (Qac h.hR hs (k:=2) (by decide))
 have HL1:=q9 (QeC h.hR hs (k:=1) (by decide))
 have HL2:=q9 (QeC h.hR hs (k:=2) (by decide))
 have u16:u<16:=by have:=h.hR.v2;omega
 have v16:v<16:=by have:=h.hR.v2;omega
 have l5:(l:Int)<5:=by have:=(QF V).2;omega
 have l0:(0:Int)<=(l:Int):=Int.natCast_nonneg _;have s0:(0:Int)<=(s:Int):=Int.natCast_nonneg _;obtain⟨a,ha⟩:∃ a,min u v=a:=⟨_,rfl⟩;obtain⟨b9,hb9⟩:∃ a,max u v=a:=⟨_,rfl⟩
 have mI:(if v<u then (v:Int) else (u:Int))=(a:Int):=by split<;>omega
 have xI:(if u<v then (v:Int) else (u:Int))=(b9:Int):=by split<;>omega
 have a16:(a:Int)<16:=by omega
 have b16:(b9:Int)<16:=by omega
 have hor:=Qm8 (a:=a) (b:=b9) (by omega) (by omega)
 obtain⟨N,hN⟩:∃ N,nV a b9=N:=⟨_,rfl⟩;have HN:=q9 hN;rw[hN] at hor
 have hn0:0<=N/\N<=65535:=by rw[<-hN];exact Qn3 (by omega) (by omega)
 obtain⟨n0,n1⟩:=hn0;have a0:(0:Int)<=(a:Int):=Int.natCast_nonneg _
 have wq1:IntKind.i64.wrap ((a:Int)*256)=(a:Int)*256:=IntWalk.i64_in _ (by omega)
 have wq3:IntKind.u64.wrap (l:Int)=(l:Int):=IntWalk.u64_in _ (by omega)
 have wq2:IntKind.u64.wrap N=N:=IntWalk.u64_in _ (by omega)
 have HAB:Hid (eC V S T a b9=eC V S T u v):=q9 (by rw[<-ha,<-hb9];exact Qi5 u v)
 rw[ha,hb9];clear h hN hu hv hne hs hl ha hb9;have hk0:(0:Int)<=((eC V S T u v:Nat):Int):=Int.natCast_nonneg _
 go_enter Tryz.func82,Tryz.ntmps82
 go_wp2_with fail
 generalize w.alloc (.cells #[I V,I S,I T,I4 p] 47)=w1 at H |-;generalize w.heap.size=b at H |-;refine(QbL V S T (u:Int) (v:Int) HR _).mono ?_;rintro e w2 ⟨rfl,hb2⟩;rw[HK.out];have H3:=q9 (H.below hb2);clear H hb2;obtain⟨c0,c1,c2,c3⟩:=H3.e.cells;have blt:=H3.e.lt;go_wp2_with fail
 refine(Qb4 HR s0 HP.2.2.2.1 _).mono ?_;rintro e w4 ⟨rfl,hb4⟩;have H4:=q9 (H3.below hb4);clear H3 hb4 c0 c1 c2 c3 blt;obtain⟨c0,c1,c2,c3⟩:=H4.e.cells;have blt:=H4.e.lt;go_wp2_with fail
 refine(Qc5 HR l0 HP.2.2.2.2 _).mono ?_;rintro e w5 ⟨rfl,hb5⟩;have H5:=q9 (H4.below hb5);clear H4 hb5 c0 c1 c2 c3 blt;obtain⟨c0,c1,c2,c3⟩:=H5.e.cells;have blt:=H5.e.lt;go_wp2_with fail
 have HD:=q9 H5.drew;have hrule:=EdB.rule b V S T p
 go_region_held3 (fun W=>EdB W b V S T p) (first|(with_reducible assumption)|(with_reducible exact H7.out.e)|(with_reducible exact H6.out.e)|(with_reducible exact HD.out.e))
  (first
   |(go_at_call 122;((with_reducible refine(QbJ V S T (s:Int) HR.out _).mono ?_);rintro e w2 ⟨rfl,hb2⟩;rw[H1.out];have H6:=q9 (HD.out.below hb2)))
   |((with_reducible refine(QbK (x:=N) H6.out.m HL1.out n0 (by omega) (by omega) rfl).mono ?_);rintro e w3 ⟨rfl,A3,O3⟩;have H7:=q9 (H6.out.next A3 O3))
   |fail)
 all_goals
  clear c0 c1 c2 c3 blt hrule A3 O3 HD H5 H6 hb2;obtain⟨c0,c1,c2,c3⟩:=H7.e.cells;have blt:=H7.e.lt;go_wp2_with fail
  have HD:=q9 H7.drew;have hrule:=EdB.rule b V S T p
  go_region_held3 (fun W=>EdB W b V S T p) (first|(with_reducible assumption)|(with_reducible exact H9.out.e)|(with_reducible exact H8.out.e)|(with_reducible exact HD.out.e))
   (first
    |(go_at_call 70;((with_reducible refine(Qct V S T (s:Int) HR.out _).mono ?_);rintro e w2 ⟨rfl,hb2⟩;rw[H2.out];have H8:=q9 (HD.out.below hb2)))
    |((with_reducible refine(QbK (x:=(l:Int)) H8.out.m HL2.out l0 (by omega) (by omega) rfl).mono ?_);rintro e w3 ⟨rfl,A3,O3⟩;have H9:=q9 (H8.out.next A3 O3))
    |fail)
  clear c0 c1 c2 c3 blt hrule A3 O3 HD H7 H8 hb2;obtain⟨c0,c1,c2,c3⟩:=H9.e.cells;have blt:=H9.e.lt;go_wp2_with fail
  refine(Qh9 H9.m HP.1 HP.2.1 HP.2.2.1 HP.2.2.2.1 (by omega)).mono ?_;rintro e w7 ⟨rfl,A7,O7⟩
  have H10:=q9 (H9.next A7 O7);clear A7 O7 c0 c1 c2 c3 blt H9;go_wp2_with fail
  go_end0
  exact⟨rfl,by unfold putF;dsimp only;rw[HAB.out,HN.out];exact H10.m,H10.o⟩
structure EO (w0 W:World)(b r:Nat)(V S T:Int)(p gb cap m:Nat)(f:Nat->Int):Prop where
 ex:EX w0 W b V S T p gb cap m f
 rb:∃ x0 x1 x2 x3,Blk W r 99 #[x0,x1,x2,x3]
 hn:w0.heap.size<=r
theorem EO.below (h:EO w0 w b r V S T p gb cap m f)(hb:Below w.heap.size w w'):EO w0 w' b r V S T p gb cap m f:=by
 obtain⟨h1,⟨x0,x1,x2,x3,h2⟩,h3⟩:=h;exact⟨h1.below hb,⟨x0,x1,x2,x3,h2.below hb h2.lt⟩,h3⟩
theorem EO.drew (h:EO w0 w b r V S T p gb cap m f):EO w0 w.drew b r V S T p gb cap m f:=h.below (Below.refl _ _).drew
theorem EO.next (h:EO w0 w b r V S T p gb cap m f)(hm:EM w' V S T p gb cap m' f')(ho:Only p gb w w'):EO w0 w' b r V S T p gb cap m' f':=by
 obtain⟨h1,⟨x0,x1,x2,x3,h2⟩,h3⟩:=h
 exact⟨h1.next hm ho,⟨x0,x1,x2,x3,h2.em h1.m ho (by decide) (by decide)⟩,h3⟩
theorem EO.new (h:EM w V S T p gb cap m f):EO w ((w.alloc (.cells #[I V,I S,I T,I4 p] 47)).alloc (.cells #[I 0,I 0,I 0,.bool false] 99)) w.heap.size (w.heap.size+1) V S T p gb cap m f:=by
 refine⟨(EX.new h).below ((Below.refl _ _).alloc (Nat.le_refl _) _),⟨I 0,I 0,I 0,.bool false,?_⟩,by omega⟩
 exact Q8 w _ _ _ _
theorem EO.set (h:EO w0 w b r V S T p gb cap m f)(i:Nat)(u:Value):EO w0 (w.setCell (I1 r i) u) b r V S T p gb cap m f:=by
 obtain⟨⟨h1,h1m,h1o⟩,⟨x0,x1,x2,x3,h2⟩,h3⟩:=h
 refine⟨⟨?_,h1m.far h2 (by decide) (by decide) u,h1o.set_new h3 u⟩,?_,h3⟩
 . exact Blk.far h1 (Blk.ne_ h1 h2 (by decide)) u
 . have h4:=h2.set_ i u
   rcases i with _|_|_|_|i
   . exact⟨_,_,_,_,h4⟩
   . exact⟨_,_,_,_,h4⟩
   . exact⟨_,_,_,_,h4⟩
   . exact⟨_,_,_,_,h4⟩
   . refine⟨x0,x1,x2,x3,?_⟩
     rwa [Array.setIfInBounds_eq_of_size_le (by simp)] at h4
def SO (W:World)(b r:Nat)(V S T:Int)(p:Nat):Prop:=EdB W b V S T p/\∃ x0 x1 x2 x3,Blk W r 99 #[x0,x1,x2,x3]
theorem EO.so (h:EO w0 w b r V S T p gb cap m f):SO w b r V S T p:=⟨h.ex.e,h.rb⟩
theorem SO.set (h:SO w b r V S T p)(y0 y1 y2 y3:Value):SO ((((w.setCell (I1 r 0) y0).setCell (I1 r 1) y1).setCell (I1 r 2) y2).setCell (I1 r 3) y3) b r V S T p:=by
 obtain⟨h1,x0,x1,x2,x3,h2⟩:=h
 have hn:=Blk.ne_ h1 h2 (by decide)
 exact⟨Blk.far (Blk.far (Blk.far (Blk.far h1 hn _) hn _) hn _) hn _,_,_,_,_,h2.four y0 y1 y2 y3⟩
theorem SO.rule (b r:Nat)(V S T:Int)(p:Nat):∀ W:World,SO W b r V S T p->(W.cell? (I1 b 0)=some (I V)/\W.cell? (I1 b 1)=some (I S)/\W.cell? (I1 b 2)=some (I T)/\W.cell? (I1 b 3)=some (I4 p))/\
 (W.cell? (I1 r 0)=some (zAt W r 0)/\W.cell? (I1 r 1)=some (zAt W r 1)/\W.cell? (I1 r 2)=some (zAt W r 2)/\W.cell? (I1 r 3)=some (zAt W r 3))/\
 (W.frozen? (I1 r 0)=false/\W.frozen? (I1 r 1)=false/\W.frozen? (I1 r 2)=false/\W.frozen? (I1 r 3)=false):=by
 rintro W ⟨h1,x0,x1,x2,x3,h2⟩
 have z:∀ i v,#[x0,x1,x2,x3][i]?=some v->W.cell? (I1 r i)=some (zAt W r i):=fun i v hv=>by
  have:=(h2.cell i).trans hv;unfold zAt;rw[this];rfl
 exact⟨h1.cells,⟨z 0 x0 rfl,z 1 x1 rfl,z 2 x2 rfl,z 3 x3 rfl⟩,h2.frozen 0,h2.frozen 1,h2.frozen 2,h2.frozen 3⟩
end
abbrev vEd (u v l:Nat)(t:Bool):Value:=.agg #[I (u:Int),I (v:Int),I (l:Int),.bool t]
section
variable {w w' w0:World}{V S T:Int}{p gb cap m m' u v s l b r:Nat}{f f':Nat->Int}{t:Bool}
theorem EO.rlt (h:EO w0 w b r V S T p gb cap m f):r<w.heap.size:=by obtain⟨_,_,_,_,h⟩:=h.rb;exact h.lt
structure At (V S T:Int)(f:Nat->Int)(s u v l:Nat)(t:Bool):Prop where
 uv:u<v
 hv:(v:Int)<V
 hs:(s:Int)<S
 hl:(l:Int)<lv V
 e:f (eC V S T u v)=eV s t
 e1:f (sC S T s 1)=nV u v
 e2:f (sC S T s 2)=(l:Int)
theorem ER.at {l:List E1}{x:E1}(h:ER V S T f l)(hx:x∈l):At V S T f x.s x.u x.v x.l x.t:=by
 obtain⟨h1,h2,h3,h4⟩:=h.ok x hx;obtain⟨h5,h6,h7⟩:=h.is x hx;exact⟨h1,h2,h3,h4,h5,h6,h7⟩
set_option maxHeartbeats 2000000 in
theorem QeK (h:EM w V S T p gb cap m f)(hA:At V S T f s u v l t)(hm:m<=99900000):
 Calls Tryz.prog 68 #[vE V S T p,I (s:Int)] w fun e w'=>e=.returned (.tuple #[vEd u v l t,.bool true])/\EM w' V S T p gb cap (m+3) f/\Only p gb w w':=by
 have ml:=QaF;have mn:=Qcp;have H:=q9 (EO.new h);have HR:=q9 h.hR;have HAt:=q9 hA
 have H1:Hid (QaH S T (s:Int) 1=((sC S T s 1:Nat):Int)):=q9 (Qac h.hR hA.hs (k:=1) (by decide))
 have H2:Hid (QaH S T (s:Int) 2=((sC S T s 2:Nat):Int)):=q9 (Qac h.hR hA.hs (k:=2) (by decide))
 have HL1:=q9 (QeC (T:=T) h.hR hA.hs (k:=1) (by decide))
 have HL2:=q9 (QeC (T:=T) h.hR hA.hs (k:=2) (by decide))
 have s0:(0:Int)<=(s:Int):=Int.natCast_nonneg _;have u0:(0:Int)<=(u:Int):=Int.natCast_nonneg _;have v0:(0:Int)<=(v:Int):=Int.natCast_nonneg _;have l0:(0:Int)<=(l:Int):=Int.natCast_nonneg _
 have u16:(u:Int)<16:=by have:=h.hR.v2;have:=hA.uv;have:=hA.hv;omega
 have v16:(v:Int)<16:=by have:=h.hR.v2;have:=hA.hv;omega
 have l5:(l:Int)<5:=by have:=(QF V).2;have:=hA.hl;omega
 have wl:IntKind.i64.wrap (l:Int)=(l:Int):=IntWalk.i64_in _ (by omega)
 obtain⟨n,hn⟩:∃ n,u*256+v=n:=⟨_,rfl⟩
 have HN:Hid (f (sC S T s 1)=((n:Nat):Int)):=q9 (by rw[hA.e1,<-hn];rfl)
 have q1:((n:Nat):Int) / 256=(u:Int):=by omega
 have q2:bits .and .u64 ((n:Nat):Int) 255=(v:Int):=by rw[Qe1 _ (by omega) (by omega)];omega
 have HF2:=q9 hA.e2;clear h hn hA
 go_enter Tryz.func68,Tryz.ntmps68
 go_wp2_with fail
 generalize (w.alloc (.cells #[I V,I S,I T,I4 p] 47)).alloc (.cells #[I 0,I 0,I 0,.bool false] 99)=w1 at H |-;have hr9:Hid (w.heap.size<=w.heap.size+1):=q9 (Nat.le_succ _);generalize w.heap.size+1=r at H hr9 |-;generalize hbz:w.heap.size=b at H hr9 |-;refine(Qb4 HR s0 HAt.hs _).mono ?_;rintro e w2 ⟨rfl,hb2⟩;have H3:=q9 (H.below hb2);clear H hb2;obtain⟨⟨c0,c1,c2,c3⟩,⟨d0,d1,d2,d3⟩,d4,d5,d6,d7⟩:=SO.rule _ _ _ _ _ _ _ H3.so;have blt:=H3.ex.e.lt;have rlt:=H3.rlt;go_wp2_with fail
 clear c0 c1 c2 c3 d0 d1 d2 d3 d4 d5 d6 d7 blt rlt;have HD:=q9 H3.drew;obtain⟨⟨c0,c1,c2,c3⟩,⟨d0,d1,d2,d3⟩,d4,d5,d6,d7⟩:=SO.rule _ _ _ _ _ _ _ HD.so;have blt:=HD.ex.e.lt;have rlt:=HD.rlt;have hrule:=SO.rule b r V S T p
 go_region_held3 (fun W=>SO W b r V S T p) (first|(with_reducible assumption)|(with_reducible exact H5.out.so)|(with_reducible exact H4.out.so)|(with_reducible exact HD.out.so))
  (first
   |(go_at_call 122;((with_reducible refine(QbJ V S T (s:Int) HR.out _).mono ?_);rintro e w2 ⟨rfl,hb2⟩;rw[H1.out];have H4:=q9 (HD.out.below hb2)))
   |((with_reducible refine(Qgk H4.out.ex.m HL1.out (by omega) rfl).mono ?_);rintro e w3 ⟨rfl,A3,O3⟩;rw[HN.out];have H5:=q9 (H4.out.next A3 O3))
   |fail)
 clear c0 c1 c2 c3 d0 d1 d2 d3 d4 d5 d6 d7 blt rlt;clear hrule A3 O3 HD H3 H4 hb2;obtain⟨⟨c0,c1,c2,c3⟩,⟨d0,d1,d2,d3⟩,d4,d5,d6,d7⟩:=SO.rule _ _ _ _ _ _ _ H5.so;have blt:=H5.ex.e.lt;have rlt:=H5.rlt;go_wp2_with fail
 refine(Qkw H5.ex.m (by have:=HAt.uv;have:=HAt.hv;omega) HAt.hv (by have:=HAt.uv;omega) HAt.hs HAt.e (by omega)).mono ?_;rintro e w6 ⟨rfl,A6,O6⟩
 have H6:=q9 (H5.next A6 O6);clear A6 O6 H5;clear c0 c1 c2 c3 d0 d1 d2 d3 d4 d5 d6 d7 blt rlt;obtain⟨⟨c0,c1,c2,c3⟩,⟨d0,d1,d2,d3⟩,d4,d5,d6,d7⟩:=SO.rule _ _ _ _ _ _ _ H6.so;have blt:=H6.ex.e.lt;have rlt:=H6.rlt;have sne:((s:Int) !=(s:Int))=false:=bne_self_eq_false _;go_wp2_with fail
 clear c0 c1 c2 c3 d0 d1 d2 d3 d4 d5 d6 d7 blt rlt;have HD:=q9 H6.drew;obtain⟨⟨c0,c1,c2,c3⟩,⟨d0,d1,d2,d3⟩,d4,d5,d6,d7⟩:=SO.rule _ _ _ _ _ _ _ HD.so;have blt:=HD.ex.e.lt;have rlt:=HD.rlt;have hrule:=SO.rule b r V S T p
 go_region_held3 (fun W=>SO W b r V S T p) (first|(with_reducible assumption)|(with_reducible exact SO.set H8.out.so _ _ _ _)|(with_reducible exact H8.out.so)|(with_reducible exact H7.out.so)|(with_reducible exact HD.out.so))
  (first
   |(go_at_call 70;((with_reducible refine(Qct V S T (s:Int) HR.out _).mono ?_);rintro e w2 ⟨rfl,hb2⟩;rw[H2.out];have H7:=q9 (HD.out.below hb2)))
   |((with_reducible refine(Qgk H7.out.ex.m HL2.out (by omega) rfl).mono ?_);rintro e w3 ⟨rfl,A3,O3⟩;rw[HF2.out];have H8:=q9 (H7.out.next A3 O3))
   |fail)
 have H9:=q9 ((((H8.set 0 (I (u:Int))).set 1 (I (v:Int))).set 2 (I (l:Int))).set 3 (.bool t));clear c0 c1 c2 c3 d0 d1 d2 d3 d4 d5 d6 d7 blt rlt;obtain⟨x0,x1,x2,x3,hblk⟩:=H8.rb;have hb4:=hblk.four (I (u:Int)) (I (v:Int)) (I (l:Int)) (.bool t);have d0:=hb4.cell 0;have d1:=hb4.cell 1;have d2:=hb4.cell 2;have d3:=hb4.cell 3;clear hrule hb2 A3 O3 H6 H7 HD hblk hb4;go_wp2_with fail
 exact bodyPost_ret (v:=.tuple #[vEd u v l t,.bool true]) (by simp [results,Tryz.results68,go_sem,d0,d1,d2,d3]) rfl ⟨rfl,H9.ex.m,H9.ex.o⟩
end
section
variable {w w' w0:World}{V S T:Int}{p gb cap m m' u v s l b r k:Nat}{f f':Nat->Int}{t t2:Bool}
set_option maxHeartbeats 2000000 in
theorem QiV (h:EM w V S T p gb cap m f)(hA:At V S T f s u v l t)(hm:m<=99900000):
 Calls Tryz.prog 48 #[vE V S T p,I (s:Int)] w fun e w'=>e=.returned (vEd u v l t)/\EM w' V S T p gb cap (m+3) f/\Only p gb w w':=by
 have H:=q9 (EO.new h);have HAt:=q9 hA;clear h hA
 go_enter Tryz.func48,Tryz.ntmps48
 go_wp2_with fail
 generalize (w.alloc (.cells #[I V,I S,I T,I4 p] 47)).alloc (.cells #[I 0,I 0,I 0,.bool false] 99)=w1 at H |-;generalize w.heap.size+1=r at H |-;generalize w.heap.size=b at H |-;refine(QeK H.ex.m HAt hm).mono ?_;rintro e w2 ⟨rfl,A2,O2⟩;have H2:=q9 (H.next A2 O2);clear H A2 O2;obtain⟨⟨c0,c1,c2,c3⟩,⟨d0,d1,d2,d3⟩,d4,d5,d6,d7⟩:=SO.rule _ _ _ _ _ _ _ H2.so;have blt:=H2.ex.e.lt;have rlt:=H2.rlt;go_wp2_with fail
 clear c0 c1 c2 c3 d0 d1 d2 d3 d4 d5 d6 d7 blt rlt;obtain⟨x0,x1,x2,x3,hblk⟩:=H2.rb;have hb4:=(hblk.four (I (u:Int)) (I (v:Int)) (I (l:Int)) (.bool t)).alloc (.cells #[I (u:Int),I (v:Int),I (l:Int),.bool t] 99);have d0:=hb4.cell 0;have d1:=hb4.cell 1;have d2:=hb4.cell 2;have d3:=hb4.cell 3;have H9:=q9 (((((H2.set 0 (I (u:Int))).set 1 (I (v:Int))).set 2 (I (l:Int))).set 3 (.bool t)).below ((Below.refl _ _).alloc (Nat.le_refl _) (.cells #[I (u:Int),I (v:Int),I (l:Int),.bool t] 99)))
 exact bodyPost_ret (v:=vEd u v l t) (by simp [results,Tryz.results48,go_sem,d0,d1,d2,d3]) rfl ⟨rfl,H9.ex.m,H9.ex.o⟩
set_option maxHeartbeats 2000000 in
theorem Qg6 (h:EM w V S T p gb cap m f)(hA:At V S T f s u v l t)(hm:m<=99900000):
 Calls Tryz.prog 72 #[vE V S T p,I (s:Int),.bool t2] w fun e w'=>e=.returned (.tuple #[])/\EM w' V S T p gb cap (m+4) (upd f (eC V S T u v) (eV s t2))/\Only p gb w w':=by
 have H:=q9 (EX.new h);have HAt:=q9 hA;clear h hA
 go_enter Tryz.func72,Tryz.ntmps72
 go_wp2_with fail
 generalize w.alloc (.cells #[I V,I S,I T,I4 p] 47)=w1 at H |-;generalize w.heap.size=b at H |-;refine(QeK H.m HAt hm).mono ?_;rintro e w2 ⟨rfl,A2,O2⟩;have H2:=q9 (H.next A2 O2);clear H A2 O2;obtain⟨c0,c1,c2,c3⟩:=H2.e.cells;have blt:=H2.e.lt;go_wp2_with fail
 have H3:=q9 (H2.below ((Below.refl _ _).alloc (Nat.le_refl _) (.cells #[I (u:Int),I (v:Int),I (l:Int),.bool t] 99)))
 refine(Qh9 H3.m (by have:=HAt.uv;have:=HAt.hv;omega) HAt.hv (by have:=HAt.uv;omega) HAt.hs (by omega)).mono ?_;rintro e w4 ⟨rfl,A4,O4⟩
 have H4:=q9 (H3.next A4 O4);clear H2 H3 A4 O4 c0 c1 c2 c3 blt;go_wp2_with fail
 go_end0
 exact⟨rfl,H4.m,H4.o⟩
set_option maxHeartbeats 2000000 in
theorem Qht (h:EM w V S T p gb cap m f)(hA:At V S T f s u v l t)(hk:(k:Int)<lv V)(hm:m<=99900000):
 Calls Tryz.prog 26 #[vE V S T p,I (s:Int),I (k:Int)] w fun e w'=>e=.returned (.tuple #[])/\EM w' V S T p gb cap (m+4) (upd f (sC S T s 2) (k:Int))/\Only p gb w w':=by
 have ms:=Qaa;have mn:=Qa1;have H:=q9 (EX.new h);have HR:=q9 h.hR;have HAt:=q9 hA;have HK:=q9 hk
 have H2i:Hid (QaH S T (s:Int) 2=((sC S T s 2:Nat):Int)):=q9 (Qac h.hR hA.hs (k:=2) (by decide))
 have HL2:=q9 (QeC (T:=T) h.hR hA.hs (k:=2) (by decide))
 have k0:(0:Int)<=(k:Int):=Int.natCast_nonneg _
 have k5:(k:Int)<5:=by have:=(QF V).2;omega
 have wq3:IntKind.u64.wrap (k:Int)=(k:Int):=IntWalk.u64_in _ (by omega)
 clear h hA hk
 go_enter Tryz.func26,Tryz.ntmps26
 go_wp2_with fail
 generalize w.alloc (.cells #[I V,I S,I T,I4 p] 47)=w1 at H |-;generalize w.heap.size=b at H |-;refine(QeK H.m HAt hm).mono ?_;rintro e w2 ⟨rfl,A2,O2⟩;have H2:=q9 (H.next A2 O2);clear H A2 O2;obtain⟨c0,c1,c2,c3⟩:=H2.e.cells;have blt:=H2.e.lt;go_wp2_with fail
 have H3:=q9 (H2.below ((Below.refl _ _).alloc (Nat.le_refl _) (.cells #[I (u:Int),I (v:Int),I (l:Int),.bool t] 99)));refine(Qc5 HR k0 HK _).mono ?_;rintro e w5 ⟨rfl,hb5⟩;have H5:=q9 (H3.below hb5);clear H2 H3 hb5 c0 c1 c2 c3 blt;obtain⟨c0,c1,c2,c3⟩:=H5.e.cells;have blt:=H5.e.lt;go_wp2_with fail
 have HD:=q9 H5.drew;have hrule:=EdB.rule b V S T p
 go_region_held3 (fun W=>EdB W b V S T p) (first|(with_reducible assumption)|(with_reducible exact H7.out.e)|(with_reducible exact H6.out.e)|(with_reducible exact HD.out.e))
  (first
   |(go_at_call 70;((with_reducible refine(Qct V S T (s:Int) HR.out _).mono ?_);rintro e w2 ⟨rfl,hb2⟩;rw[H2i.out];have H6:=q9 (HD.out.below hb2)))
   |((with_reducible refine(QbK (x:=(k:Int)) H6.out.m HL2.out k0 (by omega) (by omega) rfl).mono ?_);rintro e w3 ⟨rfl,A3,O3⟩;have H7:=q9 (H6.out.next A3 O3))
   |fail)
 clear c0 c1 c2 c3 blt hrule;go_wp2_with fail
 go_end0
 exact⟨rfl,H7.m,H7.o⟩
end
def rs (V S:Int)(g:Mg9)(i:Nat):Int:=(g (nN V S+1+i) 5:Int)
section
variable {V S T:Int}{w w':World}{p gb cap m m':Nat}{f f':Nat->Int}{g:Mg9}{ls:List E1}
theorem Qkz (h:Rt V S T){i:Nat}(hi:(i:Int)<o5 V S T):∀ x k,1<=x->x<=nN V S->2<=k->k<=6->i≠cN V S T x k:=by
 intro x k h1 _ _ _ e;have:=QdP (k:=k) h h1;omega
theorem Rl.rest (r:Rl V S T f g)(hR:Rt V S T){i:Nat}(hi:(i:Int)<o5 V S T):f i=rs V S g i:=r.o i (Qkz hR hi)
theorem TM.em (A:TM w V S T p gb cap m g):∃ f,EM w V S T p gb cap m f/\Rl V S T f g:=by
 obtain⟨c,f,A1,C,r⟩:=A.ar;exact⟨f,⟨A.hR,c,A1,C⟩,r⟩
theorem TM.of_em (E:EM w' V S T p gb cap m' f)(r:Rl V S T f g):TM w' V S T p gb cap m' g:=by
 obtain⟨hR,c,A1,C⟩:=E;exact⟨hR,c,f,A1,C,r⟩
theorem Qcn (h:Rt V S T){i:Nat}(hi:(i:Int)<o5 V S T):i<Qv V S T:=by
 have h1:=QY h;have h2:=(sizes h).nd1
 have h3:cn V S T=o5 V S T+nd V S*7:=by unfold cn o5;omega
 omega
theorem TM.back (E:EM w' V S T p gb cap m' f')(r:Rl V S T f g)(hd:∀ i:Nat,o5 V S T<=(i:Int)->f' i=f i):
 ∃ g',TM w' V S T p gb cap m' g'/\(∀ x k,x<=nN V S->g' x k=g x k)/\∀ i:Nat,(i:Int)<o5 V S T->rs V S g' i=f' i:=by
 obtain⟨hR,c,A1,C⟩:=E
 have gz:∀ x k,x<=nN V S->(if k=5/\nN V S<x/\((x-nN V S-1:Nat):Int)<o5 V S T then (f' (x-nN V S-1)).toNat else g x k)=g x k:=fun x k hx=>if_neg (by omega)
 have gl:∀ i:Nat,(i:Int)<o5 V S T->(((if (5:Nat)=5/\nN V S<nN V S+1+i/\((nN V S+1+i-nN V S-1:Nat):Int)<o5 V S T then (f' (nN V S+1+i-nN V S-1)).toNat else g (nN V S+1+i) 5):Nat):Int)=f' i:=fun i hi=>by
  have e:nN V S+1+i-nN V S-1=i:=by omega
  rw[e,if_pos ⟨rfl,by omega,hi⟩]
  have:=(A1.fit i (Qcn hR hi)).1;omega
 have cd:∀ x k,1<=x->f' (cN V S T x k)=f (cN V S T x k):=fun x k h1=>hd _ (by have:=QdP (k:=k) hR h1;omega)
 refine⟨fun x k=>if k=5/\nN V S<x/\((x-nN V S-1:Nat):Int)<o5 V S T then (f' (x-nN V S-1)).toNat else g x k,⟨hR,c,f',A1,C,⟨fun k=>(gz 0 k (Nat.zero_le _)).trans (r.z k),fun x k h1 h2 h3 h4=>?_,fun x h1 h2 h3=>?_,fun x h1 h2 h3=>?_,fun x hx=>?_,fun i hi=>?_⟩⟩,gz,gl⟩
 . rw[cd x k h1];show _=((_:Nat):Int);rw[gz x k h2];exact r.c x k h1 h2 h3 h4
 . rw[cd x 2 h1];show _=((_:Nat):Int);rw[gz x 2 h2];exact r.a x h1 h2 h3
 . rw[cd x 2 h1];exact⟨(r.p x h1 h2 h3).1,by show _=((_:Nat):Int);rw[gz x 2 h2];exact(r.p x h1 h2 h3).2⟩
 . rw[gz x 2 hx,gz x 3 hx,gz x 4 hx];exact r.b x hx
 . by_cases h:(i:Int)<o5 V S T
   . exact(gl i h).symm
   . rw[hd i (by omega),r.o i hi]
     have e:nN V S+1+i-nN V S-1=i:=by omega
     show _=((_:Nat):Int)
     rw[e,if_neg (by omega)]
theorem ER.beside (h:ER V S T f ls)(hR:Rt V S T)(he:∀ i:Nat,(i:Int)<o5 V S T->f' i=f i):ER V S T f' ls:=by
 have e1:∀ u v:Nat,(u:Int)<V->(v:Int)<V->u≠v->f' (eC V S T u v)=f (eC V S T u v):=fun u v hu hv hne=>he _ (by
  have:=Qi6 hR hu hv hne
  have e:o4 V S T+pr V=o5 V S T:=by unfold o4 o5;omega
  omega)
 have e2:∀ s k:Nat,(s:Int)<S->k<7->f' (sC S T s k)=f (sC S T s k):=fun s k hs hk=>he _ (by
  have h1:=Qav (T:=T) hs hk;have h2:=Qac hR hs hk;have h3:=(sizes hR).vn1;have h4:=(sizes hR).pr1;unfold o5;omega)
 refine⟨h.ok,h.un,fun e hx=>?_,fun u v huv hv hn=>?_⟩
 . obtain⟨a,b,c,d⟩:=h.ok e hx
   rw[e1 e.u e.v (by omega) b (by omega),e2 e.s 1 c (by omega),e2 e.s 2 c (by omega)]
   exact h.is e hx
 . rw[e1 u v (by omega) hv (by omega)];exact h.no u v huv hv hn
end
def Bs (V S:Int)(g g':Mg9):Prop:=∀ x k,x<=nN V S->g' x k=g x k
section
variable {V S T:Int}{w w':World}{p gb cap m m' s u v l:Nat}{t t2:Bool}{f f':Nat->Int}{g g' g2:Mg9}{ls:List E1}{mk:Nat->Nat}{ts:List Tp}
theorem Hp.pri_row {pri pri':Nat->Nat}:∀ {t:Tp},Hp pri t->(∀ y∈t.row,pri' y=pri y)->Hp pri' t
 |.nil,_,_=>trivial
 |.node l x r,h,e=>by
  have el:∀ y∈l.row,pri' y=pri y:=fun y hy=>e y (by simp [Tp.row,hy])
  have ex:pri' x=pri x:=e x (by simp [Tp.row])
  have er:∀ y∈r.row,pri' y=pri y:=fun y hy=>e y (by simp [Tp.row,hy])
  refine⟨fun y hy=>?_,fun y hy=>?_,h.2.2.1.pri_row el,h.2.2.2.pri_row er⟩
  . have:=h.1 y hy;unfold ab at this |-;rw[ex,el y hy];exact this
  . have:=h.2.1 y hy;unfold ab at this |-;rw[ex,er y hy];exact this
theorem FI.beside (h:FI V S g mk ts)(hb:Bs V S g g'):FI V S g' mk ts:=
 ⟨h.hm,fun t ht=>⟨(h.st t ht).1.same (h.one ht) fun x hx k=>hb x k (h.nodes ht x hx).2,(h.st t ht).2.1.pri_row fun y hy=>hb y 5 (h.nodes ht y hy).2,(h.st t ht).2.2⟩,h.nd,h.al⟩
theorem TM.turned {U:(Nat->Int)->Nat->Int}(hR:Rt V S T)(r:Rl V S T f g)(E:EM w' V S T p gb cap m' (U f))(hU:∀ a b i,a i=b i->U a i=U b i)(hd:∀ a (i:Nat),o5 V S T<=(i:Int)->U a i=a i):
 ∃ g',TM w' V S T p gb cap m' g'/\Bs V S g g'/\∀ i:Nat,(i:Int)<o5 V S T->rs V S g' i=U (rs V S g) i:=by
 obtain⟨g',h1,h2,h3⟩:=TM.back E r (hd f)
 exact⟨g',h1,h2,fun i hi=>(h3 i hi).trans (hU _ _ i (r.rest hR hi))⟩
theorem Q2 {k:Nat}{x:Int}(a b:Nat->Int)(i:Nat)(h:a i=b i):upd a k x i=upd b k x i:=by unfold upd;split;rfl;exact h
theorem Qmc (hR:Rt V S T)(hu:(u:Int)<V)(hv:(v:Int)<V)(hne:u≠v):((eC V S T u v:Nat):Int)<o5 V S T:=by
 have:=Qi6 hR hu hv hne
 have e:o4 V S T+pr V=o5 V S T:=by unfold o4 o5;omega
 omega
theorem Qf2 {k:Nat}(hR:Rt V S T)(hs:(s:Int)<S)(hk:k<7):((sC S T s k:Nat):Int)<o5 V S T:=by
 have h1:=Qav (T:=T) hs hk;have h2:=Qac hR hs hk;have h3:=(sizes hR).vn1;have h4:=(sizes hR).pr1;unfold o5;omega
theorem QbV {k:Nat}{x:Int}(hk:(k:Int)<o5 V S T)(a:Nat->Int)(i:Nat)(h:o5 V S T<=(i:Int)):upd a k x i=a i:=Qa _ _ (by omega)
theorem tget (A:TM w V S T p gb cap m g)(hE:ER V S T (rs V S g) ls){x:E1}(hx:x∈ls)(hm:m<=99900000):
 Calls Tryz.prog 48 #[vE V S T p,I (x.s:Int)] w (Did V S T p gb cap (m+3) g (vEd x.u x.v x.l x.t) w):=by
 obtain⟨f,E,r⟩:=A.em
 refine(QiV E ((hE.beside A.hR fun i hi=>r.rest A.hR hi).at hx) hm).mono ?_;rintro e w' ⟨rfl,E',O⟩
 exact⟨rfl,.of_em E' r,O⟩
def Dur (V S T:Int)(p gb cap m:Nat)(g:Mg9)(h:Nat->Int)(r:Value)(w:World)(e:Ending)(w':World):Prop:=
 ∃ g',e=.returned r/\TM w' V S T p gb cap m g'/\Bs V S g g'/\(∀ i:Nat,(i:Int)<o5 V S T->rs V S g' i=h i)/\Only p gb w w'
theorem tput (A:TM w V S T p gb cap m g)(hu:(u:Int)<V)(hv:(v:Int)<V)(hne:u≠v)(hs:(s:Int)<S)(hl:(l:Int)<lv V)(hm:m<=99900000):
 Calls Tryz.prog 82 #[vE V S T p,I (s:Int),I (u:Int),I (v:Int),I (l:Int),.bool t] w (Dur V S T p gb cap (m+3) g (putF V S T (rs V S g) ⟨s,min u v,max u v,l,t⟩) (.tuple #[]) w):=by
 obtain⟨f,E,r⟩:=A.em;refine(QlI E hu hv hne hs hl hm).mono ?_;rintro e w' ⟨rfl,E',O⟩
 obtain⟨g',h1,h2,h3⟩:=TM.turned (U:=fun a=>putF V S T a ⟨s,min u v,max u v,l,t⟩) A.hR r E' (fun a b i h=>Q2 _ _ _ (Q2 _ _ _ (Q2 _ _ _ h))) (fun a i hi=>
  (QbV (Qmc A.hR (u:=min u v) (v:=max u v) (by omega) (by omega) (by omega)) _ i hi).trans ((QbV (Qf2 A.hR hs (by omega)) _ i hi).trans (QbV (Qf2 A.hR hs (by omega)) _ i hi)))
 exact⟨g',rfl,h1,h2,h3,O⟩
theorem Qlr (A:TM w V S T p gb cap m g)(hu:(u:Int)<V)(hv:(v:Int)<V)(hne:u≠v)(hm:m<=100000000):
 Calls Tryz.prog 39 #[vE V S T p,I (u:Int),I (v:Int)] w (Dur V S T p gb cap (m+1) g (upd (rs V S g) (eC V S T u v) 0) (.tuple #[]) w):=by
 obtain⟨f,E,r⟩:=A.em;refine(Qhi E hu hv hne hm).mono ?_;rintro e w' ⟨rfl,E',O⟩
 obtain⟨g',h1,h2,h3⟩:=TM.turned (U:=fun a=>upd a (eC V S T u v) 0) A.hR r E' (fun a b i h=>Q2 _ _ _ h) (fun a i hi=>QbV (Qmc A.hR hu hv hne) _ i hi)
 exact⟨g',rfl,h1,h2,h3,O⟩
theorem QnV (A:TM w V S T p gb cap m g)(hE:ER V S T (rs V S g) ls){x:E1}(hx:x∈ls){k:Nat}(hk:(k:Int)<lv V)(hm:m<=99900000):
 Calls Tryz.prog 26 #[vE V S T p,I (x.s:Int),I (k:Int)] w (Dur V S T p gb cap (m+4) g (upd (rs V S g) (sC S T x.s 2) (k:Int)) (.tuple #[]) w):=by
 obtain⟨f,E,r⟩:=A.em
 refine(Qht E ((hE.beside A.hR fun i hi=>r.rest A.hR hi).at hx) hk hm).mono ?_;rintro e w' ⟨rfl,E',O⟩
 obtain⟨g',h1,h2,h3⟩:=TM.turned (U:=fun a=>upd a (sC S T x.s 2) (k:Int)) A.hR r E' (fun a b i h=>Q2 _ _ _ h) (fun a i hi=>QbV (Qf2 A.hR (hE.ok x hx).2.2.1 (by omega)) _ i hi)
 exact⟨g',rfl,h1,h2,h3,O⟩
theorem QnQ (A:TM w V S T p gb cap m g)(hE:ER V S T (rs V S g) ls){x:E1}(hx:x∈ls)(hm:m<=99900000):
 Calls Tryz.prog 72 #[vE V S T p,I (x.s:Int),.bool t2] w (Dur V S T p gb cap (m+4) g (upd (rs V S g) (eC V S T x.u x.v) (eV x.s t2)) (.tuple #[]) w):=by
 obtain⟨f,E,r⟩:=A.em;obtain⟨o1,o2,o3,o4⟩:=hE.ok x hx
 refine(Qg6 E ((hE.beside A.hR fun i hi=>r.rest A.hR hi).at hx) hm).mono ?_;rintro e w' ⟨rfl,E',O⟩
 obtain⟨g',h1,h2,h3⟩:=TM.turned (U:=fun a=>upd a (eC V S T x.u x.v) (eV x.s t2)) A.hR r E' (fun a b i h=>Q2 _ _ _ h) (fun a i hi=>QbV (Qmc A.hR (by omega) o2 (by omega)) _ i hi)
 exact⟨g',rfl,h1,h2,h3,O⟩
theorem QnW (A:TM w V S T p gb cap m g){i:Nat}(hi:(i:Int)<o5 V S T)(hm:m<=100000000):
 Calls Tryz.prog 185 #[pmV p,I (i:Int)] w (Did V S T p gb cap (m+1) g (I2 (rs V S g i)) w):=by
 obtain⟨c,f,A1,C,r⟩:=A.ar;refine(QcS A1 (Qcn A.hR hi) C hm).mono ?_;rintro e w' ⟨rfl,A2,O⟩;rw[r.rest A.hR hi];exact⟨rfl,⟨A.hR,_,_,A2,C.upd 0,r⟩,O⟩
theorem QmS (A:TM w V S T p gb cap m g){i:Nat}(hi:(i:Int)<o5 V S T){x:Int}(h0:0<=x)(h1:x<=18446744073709551615)(hm:m<=100000000):
 Calls Tryz.prog 186 #[pmV p,I (i:Int),I2 x] w (Dur V S T p gb cap (m+1) g (upd (rs V S g) i x) (.tuple #[]) w):=by
 obtain⟨c,f,A1,C,r⟩:=A.ar;refine(Qdc A1 (Qcn A.hR hi) h0 h1 C hm).mono ?_;rintro e w' ⟨rfl,A2,O⟩
 obtain⟨g',h1,h2,h3⟩:=TM.turned (U:=fun a=>upd a i x) A.hR r ⟨A.hR,_,A2,C.upd 1⟩ (fun a b i h=>Q2 _ _ _ h) (fun a i h=>QbV hi _ i h)
 exact⟨g',rfl,h1,h2,h3,O⟩
end
def nxC (S T:Int)(x:Nat):Nat:=sC S T ((x-1) / 2) (3+(x-1) % 2)
def pvC (S T:Int)(x:Nat):Nat:=sC S T ((x-1) / 2) (5+(x-1) % 2)
def hC (V S T:Int)(v l:Nat):Nat:=(Qgh V S T (v:Int) (l:Int)).toNat
def Part (S T:Int)(f:Nat->Int):Nat->Nat->List Nat->Nat->Nat->Prop
 |a,x,[],b,y=>a=b/\x=y
 |a,x,z :: l,b,y=>x=z/\z≠0/\f (pvC S T z)=(a:Int)/\∃ n:Nat,f (nxC S T z)=(n:Int)/\Part S T f z n l b y
section
variable {S T:Int}{f f':Nat->Int}{a x b y c z n:Nat}{l l1 l2:List Nat}
theorem Part.cong:∀ {l:List Nat} {a x:Nat},Part S T f a x l b y->(∀ z∈l,f' (pvC S T z)=f (pvC S T z)/\f' (nxC S T z)=f (nxC S T z))->Part S T f' a x l b y
 |[],_,_,h,_=>h
 |z :: l,a,x,⟨h1,h2,h3,n,h4,h5⟩,e=>⟨h1,h2,(e z (by simp)).1.trans h3,n,(e z (by simp)).2.trans h4,h5.cong fun z' hz=>e z' (by simp [hz])⟩
theorem Part.join:∀ {l1:List Nat} {a x:Nat},Part S T f a x l1 b y->Part S T f b y l2 c z->Part S T f a x (l1++l2) c z
 |[],_,_,⟨rfl,rfl⟩,h=>h
 |_ :: _,_,_,⟨h1,h2,h3,n,h4,h5⟩,h=>⟨h1,h2,h3,n,h4,h5.join h⟩
theorem Part.split:∀ {l1:List Nat} {a x:Nat},Part S T f a x (l1++l2) c z->∃ b y,Part S T f a x l1 b y/\Part S T f b y l2 c z
 |[],a,x,h=>⟨a,x,⟨rfl,rfl⟩,h⟩
 |_ :: _,_,_,⟨h1,h2,h3,n,h4,h5⟩=>by
  obtain⟨b,y,h6,h7⟩:=h5.split;exact⟨b,y,⟨h1,h2,h3,n,h4,h6⟩,h7⟩
theorem Part.last:∀ {l:List Nat} {a x:Nat},Part S T f a x l b y->b=l.getLast?.getD a
 |[],_,_,⟨h,_⟩=>h.symm
 |z :: l,a,x,⟨_,_,_,n,_,h5⟩=>by
  have:=h5.last;rw[this,List.getLast?_cons]
  cases l.getLast?<;>rfl
theorem Part.head' (h:Part S T f a x l b 0):x=l.headD 0:=by
 cases l with
 |nil=>exact h.2
 |cons z l=>exact h.1
theorem Part.ends:∀ {l:List Nat} {a x:Nat},Part S T f a x l b y->l.Nodup->(∀ z∈l,f' (pvC S T z)=f (pvC S T z))->(∀ z∈l,z≠b->f' (nxC S T z)=f (nxC S T z))->(l≠[]->f' (nxC S T b)=(n:Int))->(x':Nat)->(l=[]->x'=n)->(l≠[]->x'=x)->Part S T f' a x' l b n
 |[],_,_,h,_,_,_,_,x',e,_=>⟨h.1,e rfl⟩
 |z :: l,a,x,⟨h1,h2,h3,m,h4,h5⟩,hn,e1,e2,e3,x',_,e5=>by
  have hx':x'=z:=(e5 (by simp)).trans h1
  have hb:=Part.last h5;obtain⟨hz,hl⟩:=List.nodup_cons.1 hn
  by_cases h0:l=[]
  . subst h0
    have hb':b=z:=hb;subst hb'
    exact⟨hx',h2,(e1 b (by simp)).trans h3,n,e3 (by simp),⟨rfl,rfl⟩⟩
  . have hbl:b∈l:=by
     rw[hb,List.getLast?_eq_some_getLast h0];exact List.getLast_mem h0
    have hzb:z≠b:=fun e=>hz (e ▸ hbl)
    exact⟨hx',h2,(e1 z (by simp)).trans h3,m,(e2 z (by simp) hzb).trans h4,Part.ends h5 hl (fun y hy=>e1 y (by simp [hy])) (fun y hy=>e2 y (by simp [hy])) (fun _=>e3 (by simp)) m (fun e=>absurd e h0) (fun _=>rfl)⟩
theorem Part.front (h:Part S T f 0 x l b 0)(hn:l.Nodup)(hz:z≠0)(h1:f' (pvC S T z)=0)(h2:f' (nxC S T z)=(x:Int))(h3:x≠0->f' (pvC S T x)=(z:Int))
 (e1:∀ y∈l,f' (nxC S T y)=f (nxC S T y)) (e2:∀ y∈l,y≠x->f' (pvC S T y)=f (pvC S T y)):∃ b',Part S T f' 0 z (z :: l) b' 0:=by
 cases l with
 |nil=>exact⟨z,rfl,hz,h1,x,h2,rfl,h.2⟩
 |cons y l=>
  obtain⟨rfl,g2,g3,n,g4,g5⟩:=h;obtain⟨hy,hl⟩:=List.nodup_cons.1 hn
  exact⟨b,rfl,hz,h1,x,h2,rfl,g2,h3 g2,n,(e1 x (by simp)).trans g4,g5.cong fun u hu=>⟨e2 u (by simp [hu]) fun e=>hy (e ▸ hu),e1 u (by simp [hu])⟩⟩
theorem Part.out {p x':Nat}(h:Part S T f 0 x (l1++z :: l2) c 0)(hn:(l1++z :: l2).Nodup)(hp:p=l1.getLast?.getD 0)(hz:f (nxC S T z)=(n:Int))
 (h1:l1=[]->x'=n) (h2:l1≠[]->x'=x/\f' (nxC S T p)=(n:Int)) (h3:n≠0->f' (pvC S T n)=(p:Int))
 (e1:∀ y∈l1,f' (pvC S T y)=f (pvC S T y)) (e2:∀ y∈l1,y≠p->f' (nxC S T y)=f (nxC S T y)) (e3:∀ y∈l2,f' (nxC S T y)=f (nxC S T y)) (e4:∀ y∈l2,y≠n->f' (pvC S T y)=f (pvC S T y)):
 f (pvC S T z)=(p:Int)/\∃ c',Part S T f' 0 x' (l1++l2) c' 0:=by
 obtain⟨b,y,g1,rfl,g2,g3,m,g4,g5⟩:=h.split;have hb:b=p:=(Part.last g1).trans hp.symm;subst hb
 have em:m=n:=by rw[g4] at hz;omega
 subst em;obtain⟨n1,n2,n3⟩:=List.nodup_append.1 hn
 have G:=Part.ends (n:=m) (x':=x') g1 n1 e1 e2 (fun e=>(h2 e).2) h1 fun e=>(h2 e).1
 refine⟨g3,?_⟩
 cases l2 with
 |nil=>exact⟨b,by rw[List.append_nil];rw[g5.2] at G;exact G⟩
 |cons u l3=>
  obtain⟨rfl,k2,k3,k,k4,k5⟩:=g5;obtain⟨_,n4⟩:=List.nodup_cons.1 n2;obtain⟨n5,_⟩:=List.nodup_cons.1 n4
  exact⟨c,G.join ⟨rfl,k2,h3 k2,k,(e3 m (by simp)).trans k4,k5.cong fun u hu=>⟨e4 u (by simp [hu]) fun e=>n5 (e ▸ hu),e3 u (by simp [hu])⟩⟩⟩
end
section
variable {V S T:Int}{w w':World}{p gb cap m k x i:Nat}{g g':Mg9}{mk:Nat->Nat}{ts:List Tp}{t:Tp}
theorem QeD (h:∀ y,g' y 5=g y 5)(i:Nat):rs V S g' i=rs V S g i:=by unfold rs;rw[h]
theorem QmH (A:TM w V S T p gb cap m g)(hF:FI V S g mk ts){on:Bool}(h1:x≠0)(h2:x<=nN V S)(hk:k<2)(hm:m<=99960000){xa ka:Int}(hxa:xa=(x:Int))(hka:ka=(k:Int)):
 Calls Tryz.prog 63 #[vTr V S T p,I xa,I ka,.bool on] w fun e w'=>∃ g',e=.returned (.tuple #[])/\TM w' V S T p gb cap (m+7+7*nN V S) g'/\FI V S g' (Q9 mk x k on) ts/\(∀ i,rs V S g' i=rs V S g i)/\Only p gb w w':=by
 refine(Qn6 A hF h1 h2 hk hm hxa hka).mono ?_;rintro e w' ⟨g',rfl,h3,h4,h5,h6⟩;exact⟨g',rfl,h3,h5,QeD h4,h6⟩
theorem QjJ (A:TM w V S T p gb cap m g)(hF:FI V S g mk ts)(h1:x≠0)(h2:x<=nN V S)(hk:k<2)(hm:m<=99980000){xI kI:Int}(hxI:xI=(x:Int))(hkI:kI=(k:Int)):
 Calls Tryz.prog 61 #[vTr V S T p,I xI,I kI] w (Did V S T p gb cap (m+1) g (.bool (hasB (mk x) k)) w):=by
 obtain⟨t,ht,hx⟩:=(hF.al x).1 ⟨h1,h2⟩;obtain⟨i,hi⟩:=List.mem_iff_getElem?.1 ht;exact Ql6 A hF hi hx hk hm hxI hkI
end
end Go.Proofs.YtaooglagddphnaaGreat
