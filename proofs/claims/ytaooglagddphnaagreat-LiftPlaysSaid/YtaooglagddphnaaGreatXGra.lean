/- Gra -/
import Derived.Test.YtaooglagddphnaaGreatXZF
import Derived.Test.YtaooglagddphnaaGreatXGa
import Derived.BigQuiet
namespace Go.Proofs.YtaooglagddphnaaGreat
open Go.RowKit
theorem LI.one (w:World)(x:Nat):LI (w.alloc (.cells #[I (x:Int)] 3)) (I3 (I1 w.heap.size 0) 1 1) [x]:=
 by
 refine⟨_,1,rfl,by simp [maxLen],by simp,(fun e=>by cases e),fun _=>⟨_,0,_,rfl,Blk.new _ _ _,by simp,fun k y hk=>?_⟩⟩
 cases k with
 |zero=>simp at hk;subst hk;rfl
 |succ k=>simp at hk
inductive Tour (X:Nat->Nat)(A:Nat->Nat->Nat):List Nat->List (Nat × Nat × Nat)->Prop where
 |one (u:Nat):Tour X A [X u] []
 |rot {a b:List Nat} {E:List (Nat × Nat × Nat)}:Tour X A (a++b) E->Tour X A (b++a) E
 |link {s u v:Nat} {a b:List Nat} {E F:List (Nat × Nat × Nat)}:Tour X A (X u :: a) E->Tour X A (X v :: b) F->Tour X A ((X u :: a)++A s 0 :: ((X v :: b)++[A s 1])) ((s,u,v) :: (E++F))
 |perm {l:List Nat} {E F:List (Nat × Nat × Nat)}:Tour X A l E->E.Perm F->Tour X A l F
section
variable {X:Nat->Nat}{A:Nat->Nat->Nat}{row:List Nat}{E:List (Nat × Nat × Nat)}
theorem Tour.mem (h:Tour X A row E):∀ {s u v:Nat},(s,u,v)∈E->A s 0∈row/\A s 1∈row/\X u∈row/\X v∈row:=by
 induction h with
 |one u=>intro s u v h;simp at h
 |rot _ ih=>
  intro s u v h;have:=ih h;simp only[List.mem_append] at this |-;exact⟨this.1.symm,this.2.1.symm,this.2.2.1.symm,this.2.2.2.symm⟩
 |link _ _ ih1 ih2=>
  intro s u v h;simp only[List.mem_cons,List.mem_append,Prod.mk.injEq] at h
  rcases h with ⟨rfl,rfl,rfl⟩|h|h
  . simp
  . obtain⟨a,b,c,d⟩:=ih1 h
    exact⟨List.mem_append_left _ a,List.mem_append_left _ b,List.mem_append_left _ c,List.mem_append_left _ d⟩
  . obtain⟨a,b,c,d⟩:=ih2 h
    have key:∀ {y:Nat} {P Q R:List Nat} {z w:Nat},y∈Q->y∈P++z :: (Q++[w]):=fun hy=>List.mem_append_right _ (List.mem_cons_of_mem _ (List.mem_append_left _ hy))
    exact⟨List.mem_append_right _ (List.mem_cons_of_mem _ (List.mem_append_left _ a)),List.mem_append_right _ (List.mem_cons_of_mem _ (List.mem_append_left _ b)),List.mem_append_right _ (List.mem_cons_of_mem _ (List.mem_append_left _ c)),List.mem_append_right _ (List.mem_cons_of_mem _ (List.mem_append_left _ d))⟩
 |perm _ hp ih=>intro s u v h;exact ih (hp.mem_iff.2 h)
theorem Tour.node (h:Tour X A row E):∀ {y:Nat},y∈row->(∃ u,y=X u)\/∃ s u v,(s,u,v)∈E/\(y=A s 0\/y=A s 1):=by
 induction h with
 |one u=>intro y h;simp at h;exact .inl ⟨u,h⟩
 |rot _ ih=>
  intro y h
  exact ih (by simp only[List.mem_append] at h |-;exact h.symm)
 |@link s u v a b E F _ _ ih1 ih2=>
  intro y h
  rcases List.mem_append.1 h with h|h
  . rcases ih1 h with h|⟨s',u',v',h,e⟩
    . exact .inl h
    . exact .inr ⟨s',u',v',by simp [h],e⟩
  . rcases List.mem_cons.1 h with h|h
    . exact .inr ⟨s,u,v,by simp,.inl h⟩
    . rcases List.mem_append.1 h with h|h
      . rcases ih2 h with h|⟨s',u',v',h,e⟩
        . exact .inl h
        . exact .inr ⟨s',u',v',by simp [h],e⟩
      . exact .inr ⟨s,u,v,by simp,.inr (by simpa using h)⟩
 |perm _ hp ih=>
  intro y h
  rcases ih h with h|⟨s,u,v,h,e⟩
  . exact .inl h
  . exact .inr ⟨s,u,v,hp.mem_iff.1 h,e⟩
theorem Tour.has (h:Tour X A row E):∃ u,X u∈row:=by
 induction h with
 |one u=>exact⟨u,by simp⟩
 |rot _ ih=>obtain⟨u,h⟩:=ih;exact⟨u,by simp only[List.mem_append] at h |-;exact h.symm⟩
 |@link s u v a b E F _ _ _ _=>exact⟨u,by simp⟩
 |perm _ _ ih=>exact ih
inductive Way (E:List (Nat × Nat × Nat)):Nat->Nat->Prop where
 |refl (u:Nat):Way E u u
 |fore {s u v w:Nat}:Way E u v->(s,v,w)∈E->Way E u w
 |back {s u v w:Nat}:Way E u v->(s,w,v)∈E->Way E u w
theorem Way.trans {E:List (Nat × Nat × Nat)}{u v w:Nat}(h1:Way E u v)(h2:Way E v w):Way E u w:=by
 induction h2 with
 |refl=>exact h1
 |fore _ he ih=>exact(ih h1).fore he
 |back _ he ih=>exact(ih h1).back he
theorem Way.symm {E:List (Nat × Nat × Nat)}{u v:Nat}(h:Way E u v):Way E v u:=by
 induction h with
 |refl=>exact .refl _
 |fore _ he ih=>exact(Way.back (.refl _) he).trans ih
 |back _ he ih=>exact(Way.fore (.refl _) he).trans ih
theorem Way.mono {E F:List (Nat × Nat × Nat)}{u v:Nat}(h:Way E u v)(hs:∀ e∈E,e∈F):Way F u v:=by
 induction h with
 |refl=>exact .refl _
 |fore _ he ih=>exact ih.fore (hs _ he)
 |back _ he ih=>exact ih.back (hs _ he)
theorem Tour.joined (hX:∀ u v,X u=X v->u=v)(hA:∀ s i u,A s i≠X u)(h:Tour X A row E):∀ {u v:Nat},X u∈row->X v∈row->Way E u v:=by
 induction h with
 |one w=>
  intro u v h1 h2
  have e1:=hX _ _ (by simpa using h1)
  have e2:=hX _ _ (by simpa using h2)
  subst e1 e2;exact .refl _
 |rot _ ih=>
  intro u v h1 h2
  exact ih (by simp only[List.mem_append] at h1 |-;exact h1.symm) (by simp only[List.mem_append] at h2 |-;exact h2.symm)
 |@link s x y a b E F _ _ ih1 ih2=>
  have m1:∀ e∈E,e∈(s,x,y) :: (E++F):=fun e he=>by simp [he]
  have m2:∀ e∈F,e∈(s,x,y) :: (E++F):=fun e he=>by simp [he]
  have key:∀ {u:Nat},X u∈(X x :: a)++A s 0 :: ((X y :: b)++[A s 1])->Way ((s,x,y) :: (E++F)) x u:=by
   intro u h
   rcases List.mem_append.1 h with h|h
   . exact(ih1 (by simp) h).mono m1
   . rcases List.mem_cons.1 h with h|h
     . exact absurd h.symm (hA _ _ _)
     . rcases List.mem_append.1 h with h|h
       . exact(Way.fore (.refl x) (s:=s) (w:=y) (by simp)).trans ((ih2 (by simp) h).mono m2)
       . exact absurd (by simpa using h:X u=A s 1).symm (hA _ _ _)
  intro u v h1 h2;exact(key h1).symm.trans (key h2)
 |perm _ hp ih=>intro u v h1 h2;exact(ih h1 h2).mono fun e he=>hp.mem_iff.1 he
theorem Qh0 {K L M:List Nat}{p q r:List Nat}{c d:Nat}(hn:(K++L++M).Nodup)(hrow:K++L++M=p++c :: (q++d :: r))(hc:c∈L)(hd:d∈L):∃ p' r',L=p'++c :: (q++d :: r')/\p=K++p'/\r=r'++M:=by
 obtain⟨p',t,rfl⟩:=List.append_of_mem hc
 have e1:(K++p')++c :: (t++M)=p++c :: (q++d :: r):=by rw[<-hrow];simp
 have n1:((K++p')++c :: (t++M)).Nodup:=by rw[e1,<-hrow];exact hn
 obtain⟨e2,e3⟩:=Qek e1 n1;have n2:=n1;rw[e1,List.nodup_append] at n2;obtain⟨_,n3,n4⟩:=n2
 have hdt:d∈t:=by
  rcases List.mem_append.1 hd with h|h
  . exact absurd rfl (n4 d (by rw[<-e2];exact List.mem_append_right _ h) d (by simp))
  . rcases List.mem_cons.1 h with h|h
    . exfalso
      rw[List.nodup_cons] at n3
      exact n3.1 (by rw[<-h];simp)
    . exact h
 obtain⟨q',r',rfl⟩:=List.append_of_mem hdt
 have e4:q'++d :: (r'++M)=q++d :: r:=by rw[<-e3];simp
 have n5:(q'++d :: (r'++M)).Nodup:=by rw[e4];rw[List.nodup_cons] at n3;exact n3.2
 obtain⟨rfl,rfl⟩:=Qek e4 n5;exact⟨p',r',rfl,e2.symm,rfl⟩
def Arcs (A:Nat->Nat->Nat)(s c d:Nat):Prop:=(c=A s 0/\d=A s 1)\/(c=A s 1/\d=A s 0)
theorem Arcs.turn {s c d:Nat}(h:Arcs A s c d):Arcs A s d c:=h.elim (fun h=>.inr ⟨h.2,h.1⟩) fun h=>.inl ⟨h.2,h.1⟩
theorem Tour.cut (hA:∀ s i u,A s i≠X u)(h:Tour X A row E):row.Nodup->∀ {s u v:Nat},(s,u,v)∈E->∀ {p q r:List Nat} {c d:Nat},row=p++c :: (q++d :: r)->Arcs A s c d->
 ∃ E1 E2,E.Perm ((s,u,v) :: (E1++E2))/\Tour X A q E1/\Tour X A (p++r) E2/\((X u∈q/\X v∈p++r)\/(X v∈q/\X u∈p++r)):=by
 induction h with
 |one w=>intro _ s u v h;simp at h
 |@rot a b E h ih=>
  intro hn s u v hs p q r c d hrow hcd;have hn':(a++b).Nodup:=(List.perm_append_comm (l₁:=a) (l₂:=b)).nodup_iff.2 hn
  rcases List.append_eq_append_iff.1 hrow with ⟨t,e1,e2⟩|⟨t,e1,e2⟩
  ·
   subst e1 e2
   obtain⟨E1,E2,h1,h2,h3,h4⟩:=ih hn' hs (p:=t) (q:=q) (r:=r++b) (by simp) hcd
   refine⟨E1,E2,h1,h2,?_,?_⟩
   . have:=Tour.rot (a:=t++r) (b:=b) (by simpa using h3)
     simpa using this
   . simp only[List.mem_append] at h4 |-
     rcases h4 with ⟨x,y⟩|⟨x,y⟩
     . exact .inl ⟨x,by rcases y with y|y|y<;>simp [y]⟩
     . exact .inr ⟨x,by rcases y with y|y|y<;>simp [y]⟩
  . cases t with
    |nil=>
     simp only[List.append_nil,List.nil_append] at e1 e2;subst e1 e2
     obtain⟨E1,E2,h1,h2,h3,h4⟩:=ih hn' hs (p:=[]) (q:=q) (r:=r++b) (by simp) hcd
     refine⟨E1,E2,h1,h2,?_,?_⟩
     . have:=Tour.rot (a:=r) (b:=b) (by simpa using h3)
       exact this
     . simp only[List.mem_append,List.nil_append] at h4 |-
       rcases h4 with ⟨x,y⟩|⟨x,y⟩
       . exact .inl ⟨x,y.symm⟩
       . exact .inr ⟨x,y.symm⟩
    |cons c' t=>
     simp only[List.cons_append,List.cons.injEq] at e2;obtain⟨rfl,e2⟩:=e2
     rcases List.append_eq_append_iff.1 e2 with ⟨t2,e3,e4⟩|⟨t2,e3,e4⟩
     . cases t2 with
       |nil=>
        simp only[List.append_nil,List.nil_append] at e3 e4;subst e3 e1;have e5:a=d :: r:=e4.symm;subst e5
        obtain⟨E1,E2,h1,h2,h3,h4⟩:=ih hn' hs (p:=[]) (q:=r++p) (r:=t) (c:=d) (d:=c) (by simp) hcd.turn
        refine⟨E2,E1,h1.trans (List.Perm.cons _ List.perm_append_comm),by simpa using h3,Tour.rot h2,?_⟩
        simp only[List.mem_append,List.nil_append] at h4 |-
        rcases h4 with ⟨x,y⟩|⟨x,y⟩
        . exact .inr ⟨y,x.symm⟩
        . exact .inl ⟨y,x.symm⟩
       |cons d' t2=>
        simp only[List.cons_append,List.cons.injEq] at e4;obtain⟨rfl,e4⟩:=e4;subst e3 e1 e4
        obtain⟨E1,E2,h1,h2,h3,h4⟩:=ih hn' hs (p:=a++p) (q:=q) (r:=t2) (by simp) hcd
        refine⟨E1,E2,h1,h2,?_,?_⟩
        . have:=Tour.rot (a:=a) (b:=p++t2) (by simpa using h3)
          simpa using this
        . simp only[List.mem_append] at h4 |-
          rcases h4 with ⟨x,y⟩|⟨x,y⟩
          . exact .inl ⟨x,by rcases y with (y|y)|y<;>simp [y]⟩
          . exact .inr ⟨x,by rcases y with (y|y)|y<;>simp [y]⟩
     . subst e1 e3 e4
       obtain⟨E1,E2,h1,h2,h3,h4⟩:=ih hn' hs (p:=t2) (q:=r++p) (r:=t) (c:=d) (d:=c) (by simp) hcd.turn
       refine⟨E2,E1,h1.trans (List.Perm.cons _ List.perm_append_comm),Tour.rot h3,Tour.rot h2,?_⟩;simp only[List.mem_append] at h4 |-
       rcases h4 with ⟨x,y⟩|⟨x,y⟩
       . exact .inr ⟨y.symm,x.symm⟩
       . exact .inl ⟨y.symm,x.symm⟩
 |@link s0 u0 v0 a b E F h1 h2 ih1 ih2=>
  intro hn s u v hs p q r c d hrow hcd;have hnd:=hn;rw[List.nodup_append] at hnd;obtain⟨na,nb',nab⟩:=hnd;rw[List.nodup_cons] at nb';obtain⟨nx,nb⟩:=nb';rw[List.nodup_append] at nb;obtain⟨nb1,_,nb2⟩:=nb;simp only[List.mem_cons,List.mem_append,Prod.mk.injEq] at hs
  rcases hs with ⟨rfl,rfl,rfl⟩|hs|hs
  ·
   have hc:c=A s 0/\d=A s 1:=by
    rcases hcd with h|h
    . exact h
    . exfalso
      have e:((X u :: a)++A s 0 :: (X v :: b))++A s 1 :: []=p++c :: (q++d :: r):=by rw[<-hrow];simp
      rw[h.1] at e
      have:=(Qek e (by have:=hn;simpa using this)).2
      simp at this
   obtain⟨rfl,rfl⟩:=hc;obtain⟨e1,e2⟩:=Qek hrow hn
   obtain⟨e3,e4⟩:=Qek (a:=X v :: b) (b:=[]) (c:=q) (d:=r) (x:=A s 1) e2 (by
    have h9:=hn;rw[List.nodup_append] at h9;exact(List.nodup_cons.1 h9.2.1).2)
   subst e1 e3 e4
   exact⟨F,E,List.Perm.cons _ List.perm_append_comm,h2,by simpa using h1,.inr ⟨by simp,by simp⟩⟩
  ·
   have hm:=h1.mem hs
   have hcl:c∈X u0 :: a/\d∈X u0 :: a:=by
    rcases hcd with ⟨rfl,rfl⟩|⟨rfl,rfl⟩
    . exact⟨hm.1,hm.2.1⟩
    . exact⟨hm.2.1,hm.1⟩
   obtain⟨p',r',e1,e2,e3⟩:=Qh0 (K:=[]) (L:=X u0 :: a) (M:=A s0 0 :: ((X v0 :: b)++[A s0 1])) (by simpa using hn) (by simpa using hrow) hcl.1 hcl.2
   simp only[List.nil_append] at e2;subst e2 e3;obtain⟨E1,E2,g1,g2,g3,g4⟩:=ih1 na hs e1 hcd
   cases p with
   |nil=>
    exfalso
    simp only[List.nil_append,List.cons.injEq] at e1
    rcases hcd with h|h
    . exact hA _ _ _ (h.1.symm.trans e1.1.symm)
    . exact hA _ _ _ (h.1.symm.trans e1.1.symm)
   |cons z p=>
    simp only[List.cons_append,List.cons.injEq] at e1;obtain⟨rfl,rfl⟩:=e1;refine⟨E1,(s0,u0,v0) :: (E2++F),?_,g2,?_,?_⟩
    . refine(List.Perm.cons _ (List.Perm.append_right F g1)).trans ?_
      refine(List.Perm.swap _ _ _).trans (List.Perm.cons _ ?_);show ((s0,u0,v0) :: ((E1++E2)++F)).Perm (E1++(s0,u0,v0) :: (E2++F));rw[List.append_assoc];exact(List.perm_middle (a:=(s0,u0,v0)) (l₁:=E1) (l₂:=E2++F)).symm
    . have:=Tour.link (s:=s0) (u:=u0) (v:=v0) (a:=p++r') (b:=b) (by simpa using g3) h2
      simpa using this
    . simp only[List.mem_append] at g4 |-
      rcases g4 with ⟨x,y⟩|⟨x,y⟩
      . exact .inl ⟨x,by rcases y with y|y;exact .inl y;exact .inr (.inl y)⟩
      . exact .inr ⟨x,by rcases y with y|y;exact .inl y;exact .inr (.inl y)⟩
  ·
   have hm:=h2.mem hs
   have hcl:c∈X v0 :: b/\d∈X v0 :: b:=by
    rcases hcd with ⟨rfl,rfl⟩|⟨rfl,rfl⟩
    . exact⟨hm.1,hm.2.1⟩
    . exact⟨hm.2.1,hm.1⟩
   obtain⟨p',r',e1,e2,e3⟩:=Qh0 (K:=(X u0 :: a)++[A s0 0]) (L:=X v0 :: b) (M:=[A s0 1]) (by simpa using hn) (by simpa using hrow) hcl.1 hcl.2
   subst e2 e3;obtain⟨F1,F2,g1,g2,g3,g4⟩:=ih2 nb1 hs e1 hcd
   cases p' with
   |nil=>
    exfalso
    simp only[List.nil_append,List.cons.injEq] at e1
    rcases hcd with h|h
    . exact hA _ _ _ (h.1.symm.trans e1.1.symm)
    . exact hA _ _ _ (h.1.symm.trans e1.1.symm)
   |cons z p=>
    simp only[List.cons_append,List.cons.injEq] at e1;obtain⟨rfl,rfl⟩:=e1;refine⟨F1,(s0,u0,v0) :: (E++F2),?_,g2,?_,?_⟩
    . refine(List.Perm.cons _ (List.Perm.append_left E g1)).trans ?_
      refine(List.Perm.cons _ List.perm_middle).trans ((List.Perm.swap _ _ _).trans (List.Perm.cons _ ?_))
      have p1:(E++(F1++F2)).Perm (F1++(E++F2)):=by
       rw[<-List.append_assoc,<-List.append_assoc];exact List.Perm.append_right F2 List.perm_append_comm
      exact(List.Perm.cons _ p1).trans (List.perm_middle (a:=(s0,u0,v0)) (l₁:=F1) (l₂:=E++F2)).symm
    . have:=Tour.link (s:=s0) (u:=u0) (v:=v0) (a:=a) (b:=p++r') h1 (by simpa using g3)
      simpa using this
    . simp only[List.mem_append,List.mem_cons] at g4 |-
      rcases g4 with ⟨x,y⟩|⟨x,y⟩
      . refine .inl ⟨x,?_⟩
        rcases y with (y|y)|y<;>simp [y]
      . refine .inr ⟨x,?_⟩
        rcases y with (y|y)|y<;>simp [y]
 |perm _ hp ih=>
  intro hn s u v hs p q r c d hrow hcd;obtain⟨E1,E2,h1,h2⟩:=ih hn (hp.mem_iff.2 hs) hrow hcd;exact⟨E1,E2,hp.symm.trans h1,h2⟩
end
set_option maxRecDepth 100000
section
variable {w:World}{v u:Value}{l a b:List Nat}{x:Nat}
def QnL (w0:World)(l:List Nat)(x:Nat)(i:Value)(W:World):Prop:=W=w0/\∃ k,k<=l.length/\i=I ((k:Nat):Int)/\x∉l.take k
theorem Qai (h:LI w v l)(hl:l.length<=100000):
 Calls Tryz.prog 94 #[v,I (x:Int)] w fun e w'=>e=.returned (.bool (decide (x∈l)))/\w=w':=by
 obtain⟨a0,c0,rfl,_⟩:=h.shape;have H:=q9 h;obtain⟨n,hn⟩:∃ n,l.length=n:=⟨_,rfl⟩;have HN:=q9 hn;rw[hn] at H hl;rw[hn]
 have nI:(n:Int)<=100000:=by omega
 clear h hn
 have HRel:Hid (QnL w l x (I 0) w):=q9 ⟨rfl,0,Nat.zero_le _,rfl,by simp⟩
 go_enter Tryz.func94,Tryz.ntmps94
 go_wp2_with fail
 go_loopw [5] (fun i wr=>QnL w l x i wr) (fun i _=>n-(intOf i).toNat)
 case atStart=>exact HRel.out
 case round=>
  clear HRel;obtain⟨rfl,k,hk,rfl,hx⟩:=hrel;have HX:=q9 hx;rw[HN.out] at hk;clear hx
  by_cases hkn:k<n
  . obtain⟨y,hy⟩:∃ y,l[k]?=some y:=⟨_,List.getElem?_eq_getElem (by have:=HN.out;omega)⟩
    obtain⟨b1,o1,rfl,c1⟩:=H.at hy;have HY:=q9 hy
    have kI:(k:Int)<(n:Int):=by omega
    have k0:(0:Int)<=(k:Int):=by omega
    clear hy
    by_cases e:y=x
    . subst e
      have eb:((y:Int)==(y:Int))=true:=beq_self_eq_true _;have HE:Hid (y∈l):=q9 (List.mem_of_getElem? HY.out);go_wp2_with fail
      go_ret
      exact⟨by rw[decide_eq_true HE.out];rfl,rfl⟩
    . have eb:((y:Int)==(x:Int))=false:=beq_eq_false_iff_ne.2 (by omega)
      have HE:=q9 e;clear e;go_wp2_with fail
      go_roundw
      case rel=>
       refine⟨rfl,k+1,by have:=HN.out;omega,by simp,?_⟩
       rw[List.take_add_one,HY.out];intro hm
       rcases List.mem_append.1 hm with hm|hm
       . exact HX hm
       . exact HE.out (by simpa using hm:x=y).symm
      case measure=>simp [intOf];omega
  . have ek:k=n:=by omega
    subst ek
    have kI:¬ (k:Int)<(k:Int):=by omega
    clear hk hkn;go_wp2_with fail
    go_ret
    exact⟨by rw[decide_eq_false (by have:=HX.out;rw[<-HN.out,List.take_length] at this;exact this)];rfl,rfl⟩
end
section
variable {w:World}{v u:Value}{a b:List Nat}{x:Nat}
theorem RI.below {w w':World}{base:Nat}{v:Value}{l:List Nat}(h:RI w base v l)(hb:Below w.heap.size w w'):RI w' base v l:=by
 refine⟨h.1,?_⟩
 rcases h.2 with hn|⟨g,cap,cur,rfl,hg,hgg,rest⟩
 . exact .inl hn
 . exact .inr ⟨g,cap,cur,rfl,hg,(hb.block g (h.lt g rfl).2).trans hgg,rest⟩
theorem LI.old {w w':World}{u v:Value}{l:List Nat}{B:Nat}(h:LI w u l)(hg:w.grownBy w' v.ownBlock)(hr:∀ r,v.ownBlock=some r->B<=r)(hu:∀ b,bk u=some b->b<B):LI w' u l:=h.keep fun b hb=>hg.block b (h.lt b hb) fun e=>by have h1:=hr b e.symm;have h2:=hu b hb;omega
theorem QV (w:World){ops:Array Oper}{rest:List Oper}{o:Oper}{a:Act}{Q:Exit->Act->World->Prop}(hgd:o.guard=none)(s x:Operand)
 (ho:o.op=.call { callee:=.builtin .append,args:=#[s,x],argTypes:=#[36,36]})
 {base c:Nat} {v:Value} {l:List Nat} (hs:a.eval s=v) (h:RI w base v l) (hx:a.eval x=I3 (I1 w.heap.size 0) 1 1) (hl:l.length<=90000) (hb:base<=w.heap.size)
 (hK:∀ v' w',RI w' base v' (l++[c])->Below base w w'->(∀ (u:Value) (l2:List Nat),LI w u l2->(∀ b,bk u=some b->b<base)->LI w' u l2)->wpList Tryz.prog ops Q rest (a.put o.dst v') w'):wpList Tryz.prog ops Q (o :: rest) a (w.alloc (.cells #[I (c:Int)] 3)):=by
 have h':RI (w.alloc (.cells #[I (c:Int)] 3)) base v l:=World.ownsRow.alloc h _
 refine Qat _ hgd s x ho hs h' hx (LI.one w c) (by simp;omega) (Nat.le_trans hb (by simp)) ?_
 intro v' w' hR hg
 refine hK v' w' hR (((Below.refl base w).alloc hb _).grown hg (Nat.le_trans hb (by simp)) (fun r hr=>(h'.lt r hr).1)) fun u l2 hu hub=>?_
 exact LI.old (B:=base) (hu.alloc _) hg (fun r hr=>(h'.lt r hr).1) hub
end
def Qt (th bk:Nat)(s:Nat × List Nat × List Nat)(y:Nat):Nat × List Nat × List Nat:=
 if y=th\/y=bk then (s.1+1,s.2.1,s.2.2) else if s.1=1 then (s.1,s.2.1++[y],s.2.2) else (s.1,s.2.1,s.2.2++[y])
def Qb8 (th bk:Nat)(l:List Nat):Nat × List Nat × List Nat:=l.foldl (Qt th bk) (0,[],[])
theorem QhF (th bk:Nat)(l:List Nat)(y:Nat):Qb8 th bk (l++[y])=Qt th bk (Qb8 th bk l) y:=by unfold Qb8;rw[List.foldl_append];rfl
theorem Qbw {th bk:Nat}:∀ {l:List Nat} {s:Nat} {a b:List Nat},th∉l->bk∉l->l.foldl (Qt th bk) (s,a,b)=if s=1 then (s,a++l,b) else (s,a,b++l)
 |[],s,a,b,_,_=>by simp
 |y :: l,s,a,b,h1,h2=>by
  simp only[List.mem_cons,not_or] at h1 h2;rw[List.foldl_cons]
  have e:¬ (y=th\/y=bk):=by omega
  by_cases hs:s=1
  . subst hs
    rw[show Qt th bk (1,a,b) y=(1,a++[y],b) by unfold Qt;rw[if_neg e,if_pos rfl],Qbw h1.2 h2.2,if_pos rfl,if_pos rfl]
    simp
  . rw[show Qt th bk (s,a,b) y=(s,a,b++[y]) by unfold Qt;rw[if_neg e,if_neg hs],Qbw h1.2 h2.2,if_neg hs,if_neg hs]
    simp
theorem Qnu {th bk c d:Nat}{p q r:List Nat}(h:(c=th/\d=bk)\/(c=bk/\d=th))(hn:(p++c :: (q++d :: r)).Nodup):Qb8 th bk (p++c :: (q++d :: r))=(2,q,p++r):=by
 rw[List.nodup_append,List.nodup_cons,List.nodup_append,List.nodup_cons] at hn;obtain⟨_,⟨n1,_,⟨n2,_⟩,n3⟩,n4⟩:=hn
 have hp:c∉p/\d∉p:=⟨fun h=>n4 c h c (by simp) rfl,fun h=>n4 d h d (by simp) rfl⟩
 have hq:c∉q/\d∉q:=⟨fun h=>n1 (by simp [h]),fun h=>n3 d h d (by simp) rfl⟩
 have hr:c∉r/\d∉r:=⟨fun h=>n1 (by simp [h]),n2⟩
 have k:∀ l:List Nat,c∉l/\d∉l->th∉l/\bk∉l:=fun l hl=>by
  rcases h with ⟨rfl,rfl⟩|⟨rfl,rfl⟩
  . exact hl
  . exact⟨hl.2,hl.1⟩
 have hc:c=th\/c=bk:=h.elim (fun h=>.inl h.1) fun h=>.inr h.1
 have hd:d=th\/d=bk:=h.elim (fun h=>.inr h.2) fun h=>.inl h.2
 unfold Qb8
 rw[List.foldl_append,Qbw (k p hp).1 (k p hp).2,if_neg (by omega),List.foldl_cons]
 rw[show Qt th bk (0,[],[]++p) c=(1,[],p) by unfold Qt;rw[if_pos hc];simp]
 rw[List.foldl_append,Qbw (k q hq).1 (k q hq).2,if_pos rfl,List.foldl_cons]
 rw[show Qt th bk (1,[]++q,p) d=(2,q,p) by unfold Qt;rw[if_pos hd];simp]
 rw[Qbw (k r hr).1 (k r hr).2,if_neg (by omega)]
theorem Qay (w:World){ops:Array Oper}{rest:List Oper}{o:Oper}{a:Act}{Q:Exit->Act->World->Prop}(hgd:o.guard=none)(s x:Operand)
 (ho:o.op=.call { callee:=.builtin .append,args:=#[s,x],argTypes:=#[36,36]})
 {base c:Nat} {v v2:Value} {l l2:List Nat} (hs:a.eval s=v) (h:RI w base v l) (hx:a.eval x=I3 (I1 w.heap.size 0) 1 1) (hl:l.length<=90000) (hb:base<=w.heap.size) (h2:RI w base v2 l2) (hne:∀ b,v.ownBlock=some b->v2.ownBlock≠some b)
 (hK:∀ v' w',RI w' base v' (l++[c])->RI w' base v2 l2->(∀ b,v'.ownBlock=some b->v2.ownBlock≠some b)->Below base w w'->wpList Tryz.prog ops Q rest (a.put o.dst v') w'):wpList Tryz.prog ops Q (o :: rest) a (w.alloc (.cells #[I (c:Int)] 3)):=by
 obtain⟨i0,hi0,hz0,hz1,hz2⟩:=info_parts Qel;have h':RI (w.alloc (.cells #[I (c:Int)] 3)) base v l:=World.ownsRow.alloc h _;have h2':RI (w.alloc (.cells #[I (c:Int)] 3)) base v2 l2:=World.ownsRow.alloc h2 _
 refine wpList_append_own_at _ hgd s x 36 ho base 3 i0 _ 1 8 Tryz.underlying36 hi0 hz0 hz1 hz2 rfl (by omega) v l.length _ hs h' (I1 w.heap.size 0) 1 1 [I (c:Int)] hx (by simp) ?_ ?_ (by simp only[maxLen];omega) (by omega) (Nat.le_trans hb (by simp)) ?_
 . intro j u hj
   cases j with
   |zero=>
    have e:u=I (c:Int):=by simpa using hj.symm
    subst e;exact Q5 w _ _
   |succ j=>simp at hj
 . intro u hu
   have e:u=I (c:Int):=by simpa using hu
   subst e;rfl
 . intro v' w' a1 a2 _ a4
   have hr2:RI w' base v2 l2:=by
    refine⟨h2'.1,?_⟩
    rcases h2'.2 with hn|⟨g,cap,cur,rfl,hg,hgg,rest⟩
    . exact .inl hn
    . refine .inr ⟨g,cap,cur,rfl,hg,(a2.block g (h2'.lt g rfl).2 fun e=>hne g e.symm rfl).trans hgg,rest⟩
   refine hK v' w' ?_ hr2 ?_ (((Below.refl base w).alloc hb _).grown a2 (Nat.le_trans hb (by simp)) (fun r hr=>(h'.lt r hr).1))
   . unfold RI;rw[List.length_append,List.map_append];exact a1
   . intro b hb' e
     rcases a4 with a4|a4
     . exact hne b (a4 ▸ hb') e
     . rw[a4] at hb'
       have h1:=(h2.lt b e).2
       have e2:(w.alloc (.cells #[I (c:Int)] 3)).heap.size=b:=by injection hb'
       rw[World.size_alloc] at e2;omega
section
variable {w:World}{v u:Value}{l a b:List Nat}{x th bk:Nat}
theorem QfK (th bk:Nat)(l:List Nat):(Qb8 th bk l).1<=l.length/\(Qb8 th bk l).2.1.length<=l.length/\(Qb8 th bk l).2.2.length<=l.length:=by
 suffices h:∀ (l:List Nat) (s:Nat × List Nat × List Nat),(l.foldl (Qt th bk) s).1<=s.1+l.length/\(l.foldl (Qt th bk) s).2.1.length<=s.2.1.length+l.length/\(l.foldl (Qt th bk) s).2.2.length<=s.2.2.length+l.length by
  have:=h l (0,[],[]);simpa [Qb8] using this
 intro l
 induction l with
 |nil=>intro s;simp
 |cons y l ih=>
  intro s;have h1:=ih (Qt th bk s y)
  have h2:(Qt th bk s y).1<=s.1+1/\(Qt th bk s y).2.1.length<=s.2.1.length+1/\(Qt th bk s y).2.2.length<=s.2.2.length+1:=by
   unfold Qt;split
   . simp
   . split<;>simp
  rw[List.foldl_cons,List.length_cons];omega
def Qmy (w0:World)(l:List Nat)(th bk:Nat)(i o s j:Value)(W:World):Prop:=
 Below w0.heap.size w0 W/\∃ k s0 A B,k<=l.length/\j=I ((k:Nat):Int)/\Qb8 th bk (l.take k)=(s0,A,B)/\s=I ((s0:Nat):Int)/\
  RI W w0.heap.size i A/\RI W w0.heap.size o B/\(∀ b,i.ownBlock=some b->o.ownBlock≠some b)
set_option maxHeartbeats 1000000 in
theorem Qmf (h:LI w v l)(hl:l.length<=50000):
 Calls Tryz.prog 143 #[v,I (th:Int),I (bk:Int)] w fun e w'=>∃ r s,e=.returned (.tuple #[r,s])/\RI w' w.heap.size r (Qb8 th bk l).2.1/\RI w' w.heap.size s (Qb8 th bk l).2.2/\Below w.heap.size w w':=by
 obtain⟨a0,c0,rfl,_⟩:=h.shape;have H:=q9 h;obtain⟨n,hn⟩:∃ n,l.length=n:=⟨_,rfl⟩;have HN:=q9 hn;rw[hn] at H hl;rw[hn]
 have nI:(n:Int)<=50000:=by omega
 have HRel:Hid (Qmy w l th bk (.slice none 0 0) (.slice none 0 0) (I 0) (I 0) w):=q9 ⟨Below.refl _ _,0,0,[],[],Nat.zero_le _,rfl,rfl,rfl,RI.nil _ _,RI.nil _ _,fun b hb=>by cases hb⟩
 clear h hn
 go_enter Tryz.func143,Tryz.ntmps143
 go_wp2_with fail
 go_loopw [8,9,10,11] (fun i o s j wr=>Qmy w l th bk i o s j wr) (fun _ _ _ j _=>n-(intOf j).toNat)
 case atStart=>exact HRel.out
 case round=>
  clear HRel;obtain⟨hb,k,s0,A,B,hk,rfl,hc,rfl,hi,ho,hne⟩:=hrel;have HB:=q9 hb;have HH:=q9 (H.below hb);have HI:=q9 hi;have HO:=q9 ho;have HNE:=q9 hne;have HC:=q9 hc
  have hlen:s0<=k/\A.length<=k/\B.length<=k:=by
   have h1:=QfK th bk (l.take k);rw[hc] at h1;simp only[List.length_take] at h1;omega
  rw[HN.out] at hk
  have sI:(s0:Int)<=50000:=by omega
  have HLEN:=q9 hlen;clear hb hi ho hne hc hlen
  by_cases hkn:k<n
  . obtain⟨y,hy⟩:∃ y,l[k]?=some y:=⟨_,List.getElem?_eq_getElem (by have:=HN.out;omega)⟩
    obtain⟨b1,o1,rfl,c1⟩:=HH.at hy
    have HT:Hid (l.take (k+1)=l.take k++[y]):=q9 (by rw[List.take_add_one,hy];rfl)
    have HST:Hid (Qb8 th bk (l.take (k+1))=Qt th bk (s0,A,B) y):=q9 (by rw[HT.out,QhF,HC.out])
    have kI:(k:Int)<(n:Int):=by omega
    have k0:(0:Int)<=(k:Int):=by omega
    clear hy
    have done:∀ (hh:y=th\/y=bk),Qmy w l th bk u8 u9 (I ((s0+1:Nat):Int)) (I ((k+1:Nat):Int)) wr:=fun hh=>⟨HB.out,k+1,s0+1,A,B,by have:=HN.out;omega,rfl,by rw[HST.out];unfold Qt;rw[if_pos hh],rfl,HI.out,HO.out,HNE.out⟩
    have HD:=q9 done;clear done
    by_cases e:y=th
    . subst e
      have eb:((y:Int)==(y:Int))=true:=beq_self_eq_true _;go_wp2_with fail
      go_roundw
      case rel=>exact HD.out (.inl rfl)
      case measure=>simp [intOf];omega
    . by_cases e2:y=bk
      . subst e2
        have eb:((y:Int)==(y:Int))=true:=beq_self_eq_true _
        have eb1:((y:Int)==(th:Int))=false:=beq_eq_false_iff_ne.2 (by omega)
        clear e;go_wp2_with fail
        go_roundw
        case rel=>exact HD.out (.inr rfl)
        case measure=>simp [intOf];omega
      . have eb1:((y:Int)==(th:Int))=false:=beq_eq_false_iff_ne.2 (by omega)
        have eb2:((y:Int)==(bk:Int))=false:=beq_eq_false_iff_ne.2 (by omega)
        have HE:Hid (¬ (y=th\/y=bk)):=q9 (by omega)
        clear e e2 HD;obtain⟨ai,ki,rfl,_⟩:=HI.li.shape;obtain⟨ao,ko,rfl,_⟩:=HO.li.shape
        by_cases hs:s0=1
        . subst hs
          obtain⟨na,hna⟩:∃ n,A.length=n:=⟨_,rfl⟩;have HNA:=q9 hna;rw[hna] at HI HNE;rw[hna];clear hna;have eb:((((1:Nat):Int))==(1:Int))=true:=rfl
          go_wp2_with (at_builtin;refine Qay (c:=y) (v:=.slice ai na ki) (v2:=.slice ao B.length ko) wr rfl _ _ rfl rfl HI.out rfl (by have:=HLEN.out;omega) HB.size HO.out HNE.out ?_)
          intro v' w' hR hO hN hb;have HB2:=q9 (HB.trans hb);have HR:=q9 hR;have HO2:=q9 hO;have HNE2:=q9 hN;clear hR hO hN hb HI HO HNE HB c1;go_wp2_with fail
          go_roundw
          case rel=>exact⟨HB2.out,k+1,1,A++[y],B,by have:=HN.out;omega,by simp,by rw[HST.out];unfold Qt;rw[if_neg HE.out,if_pos rfl],rfl,HR.out,HO2.out,HNE2.out⟩
          case measure=>simp [intOf];omega
        . have eb:((s0:Int)==(1:Int))=false:=beq_eq_false_iff_ne.2 (by omega)
          have HS:Hid (¬ s0=1):=q9 hs;clear hs;obtain⟨no,hno⟩:∃ n,B.length=n:=⟨_,rfl⟩;have HNO:=q9 hno;rw[hno] at HO HNE;rw[hno];clear hno
          go_wp2_with (at_builtin;refine Qay (c:=y) (v:=.slice ao no ko) (v2:=.slice ai A.length ki) wr rfl _ _ rfl rfl HO.out rfl (by have:=HLEN.out;omega) HB.size HI.out (fun b h1 h2=>HNE.out b h2 h1) ?_)
          intro v' w' hR hO hN hb;have HB2:=q9 (HB.trans hb);have HR:=q9 hR;have HO2:=q9 hO;have HNE2:=q9 hN;clear hR hO hN hb HI HO HNE HB c1;go_wp2_with fail
          go_roundw
          case rel=>exact⟨HB2.out,k+1,s0,A,B++[y],by have:=HN.out;omega,by simp,by rw[HST.out];unfold Qt;rw[if_neg HE.out,if_neg HS.out],rfl,HO2.out,HR.out,fun b h1 h2=>HNE2.out b h2 h1⟩
          case measure=>simp [intOf];omega
  . have ek:k=n:=by omega
    subst ek
    have kI:¬ (k:Int)<(k:Int):=by omega
    clear hk hkn;go_wp2_with fail
    have hc:=HC.out;rw[<-HN.out,List.take_length] at hc
    go_ret2
    exact⟨_,_,rfl,by rw[hc];exact HI.out,by rw[hc];exact HO,HB⟩
end
def end1:Option (Nat × Nat)->Int
 |some (a,_)=>(a:Int)
 |none=>-1
def end2:Option (Nat × Nat)->Int
 |some (_,b)=>(b:Int)
 |none=>-1
def Lnk (gr:List (Option (Nat × Nat)))(E:List (Nat × Nat × Nat)):Prop:=∀ s a b,(s,a,b)∈E↔gr[s]?=some (some (a,b))
def Clo (gr:List (Option (Nat × Nat)))(S:List Nat)(c m:Nat):Prop:=∀ s a b,s<m->gr[s]?=some (some (a,b))->(a=c->b∈S)/\(b=c->a∈S)
structure Sn (gr:List (Option (Nat × Nat)))(E:List (Nat × Nat × Nat))(V x:Nat)(S:List Nat)(i:Nat):Prop where
 nd:S.Nodup
 lt:∀ y∈S,y<V
 way:∀ y∈S,Way E x y
 has:x∈S
 cl:∀ j c,j<i->S[j]?=some c->Clo gr S c gr.length
section
variable {gr:List (Option (Nat × Nat))}{E:List (Nat × Nat × Nat)}{V x i c m:Nat}{S T:List Nat}
theorem Clo.mono (h:Clo gr S c m)(hs:∀ y∈S,y∈T):Clo gr T c m:=fun s a b hm hg=>⟨fun e=>hs _ ((h s a b hm hg).1 e),fun e=>hs _ ((h s a b hm hg).2 e)⟩
theorem QgC:∀ (V:Nat) (S:List Nat),S.Nodup->(∀ y∈S,y<V)->S.length<=V
 |0,S,_,hl=>by
  cases S with
  |nil=>exact Nat.le_refl _
  |cons y S=>exact absurd (hl y (by simp)) (Nat.not_lt_zero _)
 |V+1,S,hn,hl=>by
  have h1:=QgC V (S.erase V) (hn.erase V) fun y hy=>by
   have h2:=hl y (List.mem_of_mem_erase hy);have h3:y≠V:=((List.Nodup.mem_erase_iff hn).1 hy).1;omega
  have h4:=List.length_erase (l:=S) (a:=V)
  split at h4<;>omega
theorem Sn.len (h:Sn gr E V x S i):S.length<=V:=QgC V S h.nd h.lt
theorem Sn.one (hx:x<V):Sn gr E V x [x] 0:=⟨by simp,fun y hy=>by simp at hy;omega,fun y hy=>by simp at hy;subst hy;exact .refl _,by simp,fun j c hj=>absurd hj (Nat.not_lt_zero _)⟩
theorem Sn.add {y:Nat}(h:Sn gr E V x S i)(hi:i<=S.length)(hy:y∉S)(hv:y<V)(hw:Way E x y):Sn gr E V x (S++[y]) i where
 nd:=by
  rw[List.nodup_append]
  exact⟨h.nd,by simp,fun a ha b hb e=>by simp at hb;subst hb;subst e;exact hy ha⟩
 lt:=fun z hz=>by rcases List.mem_append.1 hz with hz|hz;exact h.lt z hz;simp at hz;omega
 way:=fun z hz=>by rcases List.mem_append.1 hz with hz|hz;exact h.way z hz;simp at hz;subst hz;exact hw
 has:=List.mem_append_left _ h.has
 cl:=fun j c hj hc=>by
  rw[List.getElem?_append_left (by omega)] at hc
  exact(h.cl j c hj hc).mono fun y hy=>List.mem_append_left _ hy
theorem Sn.next (h:Sn gr E V x S i)(hc:S[i]?=some c)(hcl:Clo gr S c gr.length):Sn gr E V x S (i+1):=
 ⟨h.nd,h.lt,h.way,h.has,fun j d hj hd=>by
  by_cases e:j=i
  . subst e;rw[hc] at hd;injection hd with hd;subst hd;exact hcl
  . exact h.cl j d (by omega) hd⟩
theorem Sn.done (h:Sn gr E V x S S.length)(hE:Lnk gr E)(y:Nat):y∈S↔Way E x y:=by
 refine⟨h.way y,fun hw=>?_⟩
 have cl:∀ c∈S,Clo gr S c gr.length:=fun c hc=>by
  obtain⟨j,hj,e⟩:=List.getElem_of_mem hc
  exact h.cl j c hj (by rw[List.getElem?_eq_getElem hj,e])
 have key:∀ {x y:Nat},Way E x y->x∈S->y∈S:=by
  intro x y hw
  induction hw with
  |refl=>exact id
  |fore _ he ih=>
   intro hx;have hg:=(hE _ _ _).1 he;exact(cl _ (ih hx) _ _ _ (List.getElem?_eq_some_iff.1 hg).1 hg).1 rfl
  |back _ he ih=>
   intro hx;have hg:=(hE _ _ _).1 he;exact(cl _ (ih hx) _ _ _ (List.getElem?_eq_some_iff.1 hg).1 hg).2 rfl
 exact key hw h.has
theorem Clo.zero:Clo gr S c 0:=fun _ _ _ h=>absurd h (Nat.not_lt_zero _)
theorem Clo.none (h:Clo gr S c m)(hg:gr[m]?=some none):Clo gr S c (m+1):=fun s a b hs he=>by
 by_cases e:s=m
 . subst e;rw[hg] at he;cases he
 . exact h s a b (by omega) he
theorem Clo.some {a b:Nat}(h:Clo gr S c m)(hg:gr[m]?=some (some (a,b)))(h1:a=c->b∈S)(h2:b=c->a∈S):Clo gr S c (m+1):=fun s a' b' hs he=>by
 by_cases e:s=m
 . subst e;rw[hg] at he;injection he with he;injection he with he;injection he with e1 e2;subst e1 e2;exact⟨h1,h2⟩
 . exact h s a' b' (by omega) he
end
def GI (w:World)(v:Value)(gr:List (Option (Nat × Nat))):Prop:=
 ∃ b off cap zs,v=I3 (I1 b off) gr.length cap/\Blk w b 72 zs/\∀ k e,gr[k]?=some e->zs[off+k*2]?=some (I (end1 e))/\zs[off+k*2+1]?=some (I (end2 e))
theorem GI.below {w w':World}{v:Value}{gr:List (Option (Nat × Nat))}(h:GI w v gr)(hb:Below w.heap.size w w'):GI w' v gr:=by
 obtain⟨b,off,cap,zs,rfl,hz,h1⟩:=h;exact⟨b,off,cap,zs,rfl,(hb.block b hz.lt).trans hz,h1⟩
section
variable {w:World}{v:Value}{gr:List (Option (Nat × Nat))}{E:List (Nat × Nat × Nat)}{V x y:Nat}
def QkX (w0:World)(gr:List (Option (Nat × Nat)))(E:List (Nat × Nat × Nat))(V x:Nat)(s i:Value)(W:World):Prop:=
 Below w0.heap.size w0 W/\∃ S j,i=I ((j:Nat):Int)/\j<=S.length/\RI W w0.heap.size s S/\Sn gr E V x S j
def QkY (w0:World)(gr:List (Option (Nat × Nat)))(E:List (Nat × Nat × Nat))(V x j c:Nat)(s k:Value)(W:World):Prop:=
 Below w0.heap.size w0 W/\∃ S m,k=I ((m:Nat):Int)/\m<=gr.length/\S[j]?=some c/\RI W w0.heap.size s S/\Sn gr E V x S j/\Clo gr S c m
set_option maxHeartbeats 2000000 in
theorem Qhv (h:GI w v gr)(hl:gr.length<=1000)(hE:Lnk gr E)(hx:x<V)(hV:V<=1000)(hlt:∀ s a b,(s,a,b)∈E->a<V/\b<V):
 Calls Tryz.prog 43 #[v,I (x:Int),I (y:Int)] w fun e w'=>∃ r,e=.returned (.bool r)/\(r=true↔Way E x y)/\Below w.heap.size w w':=by
 obtain⟨b0,o0,c0,zs,rfl,hz,hg⟩:=h;have HZ:=q9 hz;have HG:=q9 hg;have HE:=q9 hE;have HLT:=q9 hlt;have HX:=q9 hx;obtain⟨n,hn⟩:∃ n,gr.length=n:=⟨_,rfl⟩;have HN:=q9 hn;rw[hn] at hl;rw[hn]
 have nI:(n:Int)<=1000:=by omega
 clear hz hg hE hlt hx hn
 go_enter Tryz.func43,Tryz.ntmps43
 go_wp2_with fail
 have HRel:Hid (QkX w gr E V x (I3 (I1 w.heap.size 0) 1 1) (I 0) (w.alloc (.cells #[I (x:Int)] 3))):=q9 ⟨(Below.refl _ _).alloc (Nat.le_refl _) _,[x],0,rfl,Nat.zero_le _,⟨rfl,.inr ⟨_,1,#[I (x:Int)],rfl,Nat.le_refl _,Blk.new w _ _,Nat.le_refl _,by simp [maxLen],rfl,rfl⟩⟩,Sn.one HX.out⟩
 go_loopw [7,8,9,10,11] (fun s i _ _ _ wr=>QkX w gr E V x s i wr) (fun _ i _ _ _ _=>V+1-(intOf i).toNat)
 case atStart=>exact HRel.out
 case round=>
  clear HRel;obtain⟨hb,S,j,rfl,hj,hs,hsn⟩:=hrel;have HB:=q9 hb;have HS:=q9 hs;have HSN:=q9 hsn;have hlen:=hsn.len;obtain⟨a1,k1,rfl,_⟩:=HS.li.shape;obtain⟨m,hm⟩:∃ m,S.length=m:=⟨_,rfl⟩;have HM:=q9 hm;rw[hm] at HS hj hlen;rw[hm];clear hb hs hsn hm
  by_cases hjm:j<m
  . have kI:(j:Int)<(m:Int):=by omega
    obtain⟨c,hc⟩:∃ c,S[j]?=some c:=⟨_,List.getElem?_eq_getElem (by have:=HM.out;omega)⟩
    have HC:=q9 hc;clear hc;go_wp2_with fail
    have HIn:Hid (QkY w gr E V x j c (.slice a1 m k1) (I 0) wr):=q9 ⟨HB.out,S,0,rfl,Nat.zero_le _,HC.out,HS.out,HSN.out,Clo.zero⟩;clear HB HS HSN HC HM kI hjm hj hlen
    go_loopw [7,9,10,11] (fun s k _ _ wr2=>QkY w gr E V x j c s k wr2) (fun _ k _ _ _=>n-(intOf k).toNat)
    case atStart=>exact HIn.out
    case round=>
     clear HIn;obtain⟨hb,S,q,rfl,hq,hc,hs,hsn,hcl⟩:=hrel;have HB:=q9 hb;have HS:=q9 hs;have HSN:=q9 hsn;have HC:=q9 hc;have HCL:=q9 hcl;have hlen:=hsn.len;have hjl:=(List.getElem?_eq_some_iff.1 hc).1;obtain⟨a1,k1,rfl,_⟩:=HS.li.shape;obtain⟨m,hm⟩:∃ m,S.length=m:=⟨_,rfl⟩;have HM:=q9 hm;rw[hm] at HS hlen hjl;rw[hm];rw[HN.out] at hq;clear hb hs hsn hc hcl hm
     by_cases hqn:q<n
     . have kI:(q:Int)<(n:Int):=by omega
       have q0:(0:Int)<=(q:Int):=by omega
       have jI:(j:Int)<(m:Int):=by omega
       have j0:(0:Int)<=(j:Int):=by omega
       obtain⟨e,he⟩:∃ e,gr[q]?=some e:=⟨_,List.getElem?_eq_getElem (by have:=HN.out;omega)⟩
       obtain⟨b1,o1,rfl,c3⟩:=HS.li.at HC.out;have HEE:=q9 he;have BZ:Blk wr b0 72 zs:=(HB.block b0 HZ.lt).trans HZ.out;have c1:wr.cell? (I1 b0 (o0+q*2))=some (I (end1 e)):=(BZ.cell _).trans (HG.out q e he).1;have c2:wr.cell? (I1 b0 (o0+q*2+1))=some (I (end2 e)):=(BZ.cell _).trans (HG.out q e he).2;clear he BZ
       rcases e with _|⟨a,b⟩
       . have hn1:(-1:Int)<0:=by decide
         have HCL2:=q9 (HCL.none HEE.out);change wr.cell? _=some (I (-1)) at c1 c2;go_upto_region 8 with fail
         go_quiet (fail)
         have HB2:=q9 (HB.trans ((QS wr nq).mono HB.size));have HS2:=q9 (RI.below HS.out (QS wr nq));generalize wr.drewN nq=W2 at HB2 HS2 |-;clear c1 c2 c3 HB HS;obtain⟨b2,o2,ee,c3⟩:=HS2.li.at HC.out;injection ee with ee;injection ee with ee1 ee2;subst ee1 ee2;go_wp2_with fail
         go_roundw
         case rel=>exact⟨HB2.out,S,q+1,by simp,by have:=HN.out;omega,HC.out,HS2.out,HSN.out,HCL2.out⟩
         case measure=>simp [intOf];omega
       . have ha:¬ (a:Int)<0:=by omega
         change wr.cell? _=some (I (a:Int)) at c1;change wr.cell? _=some (I (b:Int)) at c2;have HED:Hid ((q,a,b)∈E):=q9 ((HE.out q a b).2 HEE.out);have HCS:Hid (c∈S):=q9 (List.mem_of_getElem? HC.out);go_upto_region 8 with fail
         go_quiet (fail)
         have HB2:=q9 (HB.trans ((QS wr nq).mono HB.size));have HS2:=q9 (RI.below HS.out (QS wr nq));generalize wr.drewN nq=W2 at HB2 HS2 |-;clear c1 c2 c3 HB HS;obtain⟨b2,o2,ee,c3⟩:=HS2.li.at HC.out;injection ee with ee;injection ee with ee1 ee2;subst ee1 ee2
         by_cases e1:a=c
         . subst e1
           have eb1:((a:Int)==(a:Int))=true:=beq_self_eq_true _
           by_cases hbS:b∈S
           . have HCL2:=q9 (HCL.some HEE.out (fun _=>hbS) (fun _=>HCS.out))
             have HBS:=q9 hbS;clear hbS
             by_cases e2:b=a
             . subst e2
               go_wp2_with fail
               refine(Qai HS2.li (by have:=HM.out;omega)).mono ?_
               rintro e w1 ⟨rfl,rfl⟩;rw[decide_eq_true HBS.out];go_wp2_with fail
               refine(Qai HS2.li (by have:=HM.out;omega)).mono ?_
               rintro e w1 ⟨rfl,rfl⟩;rw[decide_eq_true HBS.out];go_wp2_with fail
               go_roundw
               case rel=>exact⟨HB2.out,S,q+1,by simp,by have:=HN.out;omega,HC.out,HS2.out,HSN.out,HCL2.out⟩
               case measure=>simp [intOf];omega
             . have eb2:((b:Int)==(a:Int))=false:=beq_eq_false_iff_ne.2 (by omega)
               clear e2;go_wp2_with fail
               refine(Qai HS2.li (by have:=HM.out;omega)).mono ?_
               rintro e w1 ⟨rfl,rfl⟩;rw[decide_eq_true HBS.out];go_wp2_with fail
               go_roundw
               case rel=>exact⟨HB2.out,S,q+1,by simp,by have:=HN.out;omega,HC.out,HS2.out,HSN.out,HCL2.out⟩
               case measure=>simp [intOf];omega
           . have hba:b≠a:=fun e=>hbS (e ▸ HCS.out)
             have eb2:((b:Int)==(a:Int))=false:=beq_eq_false_iff_ne.2 (by omega)
             have hup:∀ z∈S,z∈S++[b]:=fun z hz=>List.mem_append_left _ hz
             have HCL2:=q9 ((HCL.mono hup).some HEE.out (fun _=>by simp) (fun _=>hup _ HCS.out))
             have HBS:=q9 hbS
             have HC2:Hid ((S++[b])[j]?=some a):=q9 (by rw[List.getElem?_append_left (by rw[HM.out];exact hjl)];exact HC)
             have HSN2:=q9 (HSN.add (by rw[HM.out];omega) hbS (HLT.out _ _ _ HED.out).2 ((HSN.way a HCS.out).fore HED.out))
             clear hbS hba hup;go_wp2_with fail
             refine(Qai HS2.li (by have:=HM.out;omega)).mono ?_
             rintro e w1 ⟨rfl,rfl⟩;rw[decide_eq_false HBS.out]
             go_wp2_with (at_builtin;refine QV (c:=b) W2 rfl _ _ rfl rfl HS2.out rfl (by have:=HM.out;omega) HB2.size ?_)
             intro v3 w3 hR3 hb3 _;have HB3:=q9 (HB2.trans hb3);have HR3:=q9 hR3;clear hb3 hR3 HB2 HS2 c3;obtain⟨a3,k3,rfl,_⟩:=HR3.li.shape
             have HM3:Hid ((S++[b]).length=m+1):=q9 (by rw[List.length_append,HM.out];rfl)
             rw[HM3.out] at HR3;rw[HM3.out];obtain⟨b4,o4,rfl,c4⟩:=HR3.li.at HC2.out
             have jI4:(j:Int)<((m+1:Nat):Int):=by omega
             go_wp2_with fail
             go_roundw
             case rel=>exact⟨HB3.out,S++[b],q+1,by simp,by have:=HN.out;omega,HC2.out,HR3.out,HSN2.out,HCL2.out⟩
             case measure=>simp [intOf];omega
         . have eb1:((a:Int)==(c:Int))=false:=beq_eq_false_iff_ne.2 (by omega)
           have HE1:=q9 e1;clear e1
           by_cases e2:b=c
           . subst e2
             have eb2:((b:Int)==(b:Int))=true:=beq_self_eq_true _
             by_cases haS:a∈S
             . have HCL2:=q9 (HCL.some HEE.out (fun e=>absurd e HE1.out) (fun _=>haS))
               have HAS:=q9 haS;clear haS;go_wp2_with fail
               refine(Qai HS2.li (by have:=HM.out;omega)).mono ?_
               rintro e w1 ⟨rfl,rfl⟩;rw[decide_eq_true HAS.out];go_wp2_with fail
               go_roundw
               case rel=>exact⟨HB2.out,S,q+1,by simp,by have:=HN.out;omega,HC.out,HS2.out,HSN.out,HCL2.out⟩
               case measure=>simp [intOf];omega
             . have hup:∀ z∈S,z∈S++[a]:=fun z hz=>List.mem_append_left _ hz
               have HCL2:=q9 ((HCL.mono hup).some HEE.out (fun e=>absurd e HE1.out) (fun _=>by simp))
               have HAS:=q9 haS
               have HC2:Hid ((S++[a])[j]?=some b):=q9 (by rw[List.getElem?_append_left (by rw[HM.out];exact hjl)];exact HC)
               have HSN2:=q9 (HSN.add (by rw[HM.out];omega) haS (HLT.out _ _ _ HED.out).1 ((HSN.way b HCS.out).back HED.out))
               clear haS hup;go_wp2_with fail
               refine(Qai HS2.li (by have:=HM.out;omega)).mono ?_
               rintro e w1 ⟨rfl,rfl⟩;rw[decide_eq_false HAS.out]
               go_wp2_with (at_builtin;refine QV (c:=a) W2 rfl _ _ rfl rfl HS2.out rfl (by have:=HM.out;omega) HB2.size ?_)
               intro v3 w3 hR3 hb3 _;have HB3:=q9 (HB2.trans hb3);have HR3:=q9 hR3;clear hb3 hR3 HB2 HS2 c3;obtain⟨a3,k3,rfl,_⟩:=HR3.li.shape
               have HM3:Hid ((S++[a]).length=m+1):=q9 (by rw[List.length_append,HM.out];rfl)
               rw[HM3.out] at HR3;rw[HM3.out];go_wp2_with fail
               go_roundw
               case rel=>exact⟨HB3.out,S++[a],q+1,by simp,by have:=HN.out;omega,HC2.out,HR3.out,HSN2.out,HCL2.out⟩
               case measure=>simp [intOf];omega
           . have eb2:((b:Int)==(c:Int))=false:=beq_eq_false_iff_ne.2 (by omega)
             have HCL2:=q9 (HCL.some HEE.out (fun e=>absurd e HE1.out) (fun e=>absurd e e2))
             clear e2;go_wp2_with fail
             go_roundw
             case rel=>exact⟨HB2.out,S,q+1,by simp,by have:=HN.out;omega,HC.out,HS2.out,HSN.out,HCL2.out⟩
             case measure=>simp [intOf];omega
     . have ek:q=n:=by omega
       subst ek
       have kI:¬ (q:Int)<(q:Int):=by omega
       clear hq hqn;go_wp2_with fail
       go_roundw
       case rel=>
        refine⟨HB.out,S,j+1,by simp,by have:=HM.out;omega,HS.out,HSN.next HC.out ?_⟩
        rw[HN.out];exact HCL
       case measure=>simp [intOf];omega
  . have ek:j=m:=by omega
    subst ek
    have kI:¬ (j:Int)<(j:Int):=by omega
    clear hj hjm;go_wp2_with fail
    refine(Qai HS.li (by have:=HM.out;omega)).mono ?_
    rintro e w1 ⟨rfl,rfl⟩;go_wp2_with fail
    go_ret;refine⟨_,rfl,?_,HB⟩;rw[decide_eq_true_iff];have h1:=HSN.out;rw[<-HM.out] at h1;exact h1.done HE y
end
end Go.Proofs.YtaooglagddphnaaGreat
