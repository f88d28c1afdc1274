/- HdV -/
import Derived.Test.YtfpnjpbpfgjakaaGreatOHf
namespace Go.Proofs.YtfpnjpbpfgjakaaGreat
theorem Qp4:∀ {l m:List Nat},l.Nodup->(∀ x∈l,x∈m)->l.length<=m.length
 |[],_,_,_=>Nat.zero_le _
 |x :: l,m,hn,h=>by
  have h1:=h x (by simp)
  have hn2:=List.nodup_cons.1 hn
  have h2:=Qp4 (l:=l) (m:=m.erase x) hn2.2 fun y hy=>by
   have:y≠x:=fun e=>hn2.1 (e ▸ hy)
   exact(List.mem_erase_of_ne this).2 (h y (by simp [hy]))
  have h3:=List.length_erase_of_mem h1;have h4:=List.length_pos_of_mem h1;simp only[List.length_cons];omega
theorem Qp5 {S:Nat}{ls:List E1}(h:∀ s,s<S->∃ x∈ls,x.s=s):S<=ls.length:=by
 have h1:=Qp4 (l:=List.range S) (m:=ls.map fun x=>x.s) List.nodup_range fun x hx=>by
  obtain⟨y,hy,e⟩:=h x (List.mem_range.1 hx);exact List.mem_map.2 ⟨y,hy,e⟩
 simpa using h1
def Pr14 (V u v:Int)(a b:Nat):Prop:=u≠v/\0<=u/\u<V/\0<=v/\v<V/\(a:Int)=min u v/\(b:Int)=max u v
structure Or14 (V S:Int)(P:Nat->Nat->Prop)(ls bs:List E1):Prop where
 pr:∀ x∈ls,P x.u x.v
 al:(∀ a b,P a b->∃ x∈ls,x.u=a/\x.v=b)\/S<=(ls.length:Int)
 tr:(bs.filter fun x=>x.t).length+cmW V.toNat (tE bs 0)=V.toNat
section
variable {V S u v:Int}{P Q P':Nat->Nat->Prop}{ls bs ls' bs':List E1}{a b s:Nat}{t:Bool}
theorem Qqe {n:Nat}:cmW n []=n:=by
 classical
 unfold cmW;refine(congrArg List.length (List.filter_eq_self.2 ?_)).trans List.length_range;intro x _
 have h:∀ u,u<x->¬ Way [] u x:=fun u hu h=>by have:=QoP h;omega
 simp only[decide_eq_true_eq];exact h
theorem Or14.nil (hP:∀ a b,¬ P a b):Or14 V S P [] []:=⟨fun x hx=>(by cases hx),.inl fun a b h=>absurd h (hP a b),by rw[show tE [] 0=[] from rfl,Qqe];simp⟩
theorem Or14.cong (h:Or14 V S P ls bs)(hP:∀ a b,P a b↔Q a b):Or14 V S Q ls bs:=⟨fun x hx=>(hP _ _).1 (h.pr x hx),h.al.imp (fun k a b hq=>k a b ((hP a b).2 hq)) id,h.tr⟩
theorem Qqb (e:Nat × Nat × Nat):e∈tE (bs++[⟨s,a,b,0,t⟩]) 0↔e∈(if t then (s,a,b) :: tE bs 0 else tE bs 0):=by
 obtain⟨s9,p,q⟩:=e;rw[QG]
 constructor
 . rintro⟨x,hx,h1,h2,rfl,rfl,rfl⟩
   rcases List.mem_append.1 hx with hx|hx
   . have:(x.s,x.u,x.v)∈tE bs 0:=QG.2 ⟨x,hx,h1,h2,rfl,rfl,rfl⟩
     split
     . exact Ji _ this
     . exact this
   . rw[List.mem_singleton] at hx
     subst hx;rw[if_pos h1];exact List.mem_cons_self ..
 . intro h
   cases t with
   |true=>
    rw[if_pos rfl] at h
    rcases List.mem_cons.1 h with h|h
    . injection h with h1 h2;injection h2 with h2 h3
      subst h1 h2 h3
      exact⟨⟨s9,p,q,0,true⟩,by simp,rfl,Nat.le_refl _,rfl,rfl,rfl⟩
    . obtain⟨x,hx,h1⟩:=QG.1 h
      exact⟨x,Ka _ hx,h1⟩
   |false=>
    rw[if_neg (by decide)] at h
    obtain⟨x,hx,h1⟩:=QG.1 h;exact⟨x,Ka _ hx,h1⟩
theorem Or14.step (h:Or14 V S P ls bs)(hs:QpR V S 1 u v ls bs ls' bs')(hP:∀ a b,P' a b↔P a b\/Pr14 V u v a b)(hS:0<=S):Or14 V S P' ls' bs':=by
 rcases hs with ⟨rfl,rfl,h1⟩|⟨_,s,a,b,t,ha,hb,hab,hbV,hsS,hns,hnp,ht,rfl,rfl⟩|⟨h1,_⟩
 . refine⟨fun x hx=>(hP _ _).2 (.inl (h.pr x hx)),?_,h.tr⟩
   rcases h.al with h2|h2
   . by_cases hc:∃ a b,Pr14 V u v a b
     . obtain⟨a0,b0,k1,k2,k3,k4,k5,k6,k7⟩:=hc
       rcases h1 rfl k1 k2 k3 k4 k5 with ⟨x,hx,e1,e2⟩|h3
       . refine .inl fun a b hp=>?_
         rcases(hP a b).1 hp with hp|⟨_,_,_,_,_,e3,e4⟩
         . exact h2 a b hp
         . exact⟨x,hx,by omega,by omega⟩
       . exact .inr (by have:=Qp5 (S:=S.toNat) (ls:=ls') fun s hs=>h3 s (by omega);omega)
     . exact .inl fun a b hp=>by
        rcases(hP a b).1 hp with hp|hp
        . exact h2 a b hp
        . exact absurd ⟨a,b,hp⟩ hc
   . exact .inr h2
 . have hPr:Pr14 V u v a b:=⟨by omega,by omega,by omega,by omega,by omega,ha,hb⟩
   refine⟨fun x hx=>?_,?_,?_⟩
   . rcases List.mem_append.1 hx with hx|hx
     . exact(hP _ _).2 (.inl (h.pr x hx))
     . rw[List.mem_singleton] at hx
       subst hx;exact(hP _ _).2 (.inr hPr)
   . rcases h.al with h2|h2
     . refine .inl fun a' b' hp=>?_
       rcases(hP a' b').1 hp with hp|⟨_,_,_,_,_,e3,e4⟩
       . obtain⟨x,hx,e⟩:=h2 a' b' hp
         exact⟨x,Ka _ hx,e⟩
       . exact⟨_,Kb _ (List.mem_singleton.2 rfl),by show a=a';omega,by show b=b';omega⟩
     . exact .inr (by rw[List.length_append,List.length_singleton];omega)
   . have hc:=Qp7 (V:=V.toNat) (E:=tE (bs++[⟨s,a,b,0,t⟩]) 0) (F:=if t then (s,a,b) :: tE bs 0 else tE bs 0) fun _ _=>Way.same Qqb
     have:=h.tr;rw[hc,List.filter_append,List.length_append]
     cases t with
     |true=>
      have h1:=Qqd (V:=V.toNat) (s:=s) (u:=a) (v:=b) (E:=tE bs 0) (by omega) (by omega) (ht.1 rfl)
      rw[if_pos rfl];simp only[List.filter_cons,List.filter_nil];simp;omega
     |false=>rw[if_neg (by decide)];simpa using this
 . cases h1
theorem Qp9 (hp:∀ x∈ls,P x.u x.v)(hq:∀ a b,P a b->∃ x∈ls',x.u=a/\x.v=b){c d:Nat}(h:Way (aE ls) c d):Way (aE ls') c d:=h.sub fun s a b he=>by
 obtain⟨x,hx,rfl,rfl,rfl⟩:=Qo5.1 he;obtain⟨y,hy,e1,e2⟩:=hq _ _ (hp x hx);exact(Way.refl _).fore (s:=y.s) (Qo5.2 ⟨y,hy,rfl,e1,e2⟩)
theorem Or14.same (h:Or14 V S P ls bs)(h2:Or14 V S P ls' bs')(hl:(ls.length:Int)<S)(hl2:(ls'.length:Int)<S)(hM:Mv ls bs)(hM2:Mv ls' bs')(hs:Hs V.toNat bs)(hs2:Hs V.toNat bs'):
 (∀ a b,Way (aE ls) a b↔Way (aE ls') a b)/\(bs.filter fun x=>x.t).length=(bs'.filter fun x=>x.t).length:=by
 have k1:=h.al.resolve_right (by omega)
 have k2:=h2.al.resolve_right (by omega)
 have hw:∀ a b,Way (aE ls) a b↔Way (aE ls') a b:=fun a b=>⟨Qp9 h.pr k2,Qp9 h2.pr k1⟩
 have hc:=Qp7 (V:=V.toNat) (E:=tE bs 0) (F:=tE bs' 0) fun a b=>by rw[<-hs.all,<-hs2.all,hM.aE_eq,hM2.aE_eq];exact hw a b
 have:=h.tr;have:=h2.tr
 exact⟨hw,by omega⟩
theorem Qqa {n r:Nat}{R:Nat->Nat->Nat->Prop}(hr:r<n)(a b:Nat):(∃ j,j<n/\R j a b)↔∃ j,j<n/\R ((j+r) % n) a b:=by
 constructor
 . rintro⟨j,hj,h⟩
   by_cases e:r<=j
   . exact⟨j-r,by omega,by rw[Nat.sub_add_cancel e,Nat.mod_eq_of_lt hj];exact h⟩
   . exact⟨j+n-r,by omega,by rw[show j+n-r+r=j+n by omega,Nat.add_mod_right,Nat.mod_eq_of_lt hj];exact h⟩
 . rintro⟨j,hj,h⟩
   exact⟨_,Nat.mod_lt _ (by omega),h⟩
end
end Go.Proofs.YtfpnjpbpfgjakaaGreat
