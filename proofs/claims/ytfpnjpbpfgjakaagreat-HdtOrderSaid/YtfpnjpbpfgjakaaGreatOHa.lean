/- Ha -/
import Derived.Test.YtfpnjpbpfgjakaaGreatOGp
namespace Go.Proofs.YtfpnjpbpfgjakaaGreat
open Go.RowKit Go.Proofs.Tryz
set_option maxRecDepth 100000
set_option maxHeartbeats 16000000
section
variable {V L L' u v a b w:Nat}{bs bs':List E1}{E F:List (Nat × Nat × Nat)}{x y e:E1}{P:E1->Prop}
theorem Way.sub (h:Way E a b)(hs:∀ s p q,(s,p,q)∈E->Way F p q):Way F a b:=by
 induction h with
 |refl=>exact .refl _
 |fore _ he ih=>exact ih.trans (hs _ _ _ he)
 |back _ he ih=>exact ih.trans (hs _ _ _ he).symm
theorem Way.step {P:Nat->Prop}(h:Way E a b)(h0:P a)(hs:∀ c d s,Way E a c->P c->(s,c,d)∈E\/(s,d,c)∈E->P d):P b:=by
 induction h with
 |refl=>exact h0
 |fore h1 he ih=>exact hs _ _ _ h1 (ih h0 hs) (.inl he)
 |back h1 he ih=>exact hs _ _ _ h1 (ih h0 hs) (.inr he)
theorem Way.more {s:Nat}(h:Way ((s,u,v) :: E) a b):Way E a b\/(Way E a u/\Way E v b)\/(Way E a v/\Way E u b):=by
 have key:∀ {c d r:Nat},(Way E a c\/(Way E a u/\Way E v c)\/(Way E a v/\Way E u c))->(r,c,d)∈(s,u,v) :: E\/(r,d,c)∈(s,u,v) :: E->Way E a d\/(Way E a u/\Way E v d)\/(Way E a v/\Way E u d):=by
  intro c d r ih he
  have h2:(c=u/\d=v)\/(c=v/\d=u)\/Way E c d:=by
   rcases he with he|he
   . rcases List.mem_cons.1 he with he|he
     . simp only[Prod.mk.injEq] at he;exact .inl he.2
     . exact .inr (.inr ((Way.refl _).fore he))
   . rcases List.mem_cons.1 he with he|he
     . simp only[Prod.mk.injEq] at he;exact .inr (.inl ⟨he.2.2,he.2.1⟩)
     . exact .inr (.inr ((Way.refl _).back he))
  rcases h2 with ⟨rfl,rfl⟩|⟨rfl,rfl⟩|h2
  . rcases ih with ih|⟨h1,_⟩|⟨h1,_⟩
    . exact .inr (.inl ⟨ih,.refl _⟩)
    . exact .inr (.inl ⟨h1,.refl _⟩)
    . exact .inl h1
  . rcases ih with ih|⟨h1,_⟩|⟨h1,_⟩
    . exact .inr (.inr ⟨ih,.refl _⟩)
    . exact .inl h1
    . exact .inr (.inr ⟨h1,.refl _⟩)
  . rcases ih with ih|⟨h1,ih⟩|⟨h1,ih⟩
    . exact .inl (ih.trans h2)
    . exact .inr (.inl ⟨h1,ih.trans h2⟩)
    . exact .inr (.inr ⟨h1,ih.trans h2⟩)
 exact h.step (P:=fun b=>Way E a b\/(Way E a u/\Way E v b)\/(Way E a v/\Way E u b)) (.inl (.refl _)) fun c d r _ ih he=>key ih he
theorem Way.cons {s:Nat}(h:Way E a b):Way ((s,u,v) :: E) a b:=h.mono fun _ he=>Ji _ he
theorem Way.one (s u v:Nat)(E:List (Nat × Nat × Nat)):Way ((s,u,v) :: E) u v:=(Way.refl u).fore (s:=s) (by simp)
open Classical in
noncomputable def cnW (V:Nat)(E:List (Nat × Nat × Nat))(u:Nat):Nat:=((List.range V).filter fun v=>decide (Way E u v)).length
open Classical in
theorem Qoi {l:List Nat}{p q:Nat->Bool}(h:∀ x∈l,p x=true->q x=true):(l.filter p).length<=(l.filter q).length:=by
 induction l with
 |nil=>exact Nat.le_refl _
 |cons x l ih=>
  have ih:=ih fun y hy=>h y (Ji _ hy)
  have hx:=h x (by simp)
  rw[List.filter_cons,List.filter_cons]
  cases hp:p x with
  |true=>rw[hx hp];simp only[if_true,List.length_cons];omega
  |false=>cases q x<;>simp<;>omega
theorem Qon (h:∀ b,b<V->Way E u b->Way F w b):cnW V E u<=cnW V F w:=by
 classical
 refine Qoi fun x hx hp=>?_
 exact decide_eq_true (h x (List.mem_range.1 hx) (of_decide_eq_true hp))
theorem Qoj (h:∀ b,b<V->(Way E u b↔Way F w b)):cnW V E u=cnW V F w:=Nat.le_antisymm (Qon fun b hb=>(h b hb).1) (Qon fun b hb=>(h b hb).2)
theorem Qol {l:List Nat}{p q:Nat->Bool}(h:∀ x∈l,¬ (p x=true/\q x=true)):(l.filter p).length+(l.filter q).length=(l.filter fun x=>p x || q x).length:=by
 induction l with
 |nil=>rfl
 |cons x l ih=>
  have ih:=ih fun y hy=>h y (Ji _ hy)
  have hx:=h x (by simp)
  rw[List.filter_cons,List.filter_cons,List.filter_cons]
  cases hp:p x<;>cases hq:q x<;>simp [hp,hq] at hx |-<;>omega
theorem QoA {n z:Nat}(hz:z<n):((List.range n).filter fun y=>decide (y=z)).length=1:=by
 induction n with
 |zero=>omega
 |succ n ih=>
  rw[List.range_succ,List.filter_append,List.length_append]
  by_cases h:z=n
  . subst h
    have:(List.range z).filter (fun y=>decide (y=z))=[]:=List.filter_eq_nil_iff.2 fun y hy=>by have:=List.mem_range.1 hy;simp;omega
    rw[this];simp
  . rw[ih (by omega)]
    have:¬ n=z:=fun e=>h e.symm
    simp [this]
theorem QpF {s:Nat}(h:¬ Way E u v):cnW V E u+cnW V E v=cnW V ((s,u,v) :: E) u:=by
 classical
 refine(Qol fun x _ hp=>?_).trans ?_
 . exact h ((of_decide_eq_true hp.1).trans (of_decide_eq_true hp.2).symm)
 . unfold cnW
   congr 1
   refine List.filter_congr fun x _=>?_
   rw[<-Bool.decide_or]
   refine decide_eq_decide.2 ⟨fun h2=>?_,fun h2=>?_⟩
   . rcases h2 with h2|h2
     . exact h2.cons
     . exact(Way.one s u v E).trans h2.cons
   . rcases h2.more with h3|⟨_,h3⟩|⟨h3,_⟩
     . exact .inl h3
     . exact .inr h3
     . exact absurd h3 h
theorem Qo0 (hu:u<V)(hv:v<V)(hne:u≠v)(h:Way E u v):2<=cnW V E u:=by
 classical
 have h1:((List.range V).filter fun y=>decide (y=u)).length+((List.range V).filter fun y=>decide (y=v)).length<=cnW V E u:=by
  rw[Qol fun x _ hp=>hne ((of_decide_eq_true hp.1).symm.trans (of_decide_eq_true hp.2))]
  refine Qoi fun x _ hp=>?_
  rw[<-Bool.decide_or] at hp
  rcases of_decide_eq_true hp with rfl|rfl
  . exact decide_eq_true (.refl _)
  . exact decide_eq_true h
 have h2:∀ z,z<V->1<=((List.range V).filter fun y=>decide (y=z)).length:=fun z hz=>List.length_pos_of_mem (a:=z) (List.mem_filter.2 ⟨List.mem_range.2 hz,decide_eq_true rfl⟩)
 have:=h2 u hu;have:=h2 v hv;omega
theorem Qo4 (h:L<=L'):∀ e∈tE bs L',e∈tE bs L:=fun⟨s,a,b⟩ he=>by
 rw[QG] at he |-;obtain⟨e,h1,h2,h3,h4⟩:=he;exact⟨e,h1,h2,Nat.le_trans h h3,h4⟩
theorem Way.down (hw:Way (tE bs L') a b)(h:L<=L'):Way (tE bs L) a b:=hw.mono (Qo4 h)
structure Hs (V:Nat)(bs:List E1):Prop where
 sp:∀ x∈bs,x.t=false->Way (tE bs x.l) x.u x.v
 sz:∀ L w:Nat,w<V->2 ^ L<=V->cnW V (tE bs L) w*2 ^ L<=V
structure Hm (V:Nat)(bs:List E1)(u v L:Nat):Prop where
 sp:∀ x∈bs,x.t=false->Way (tE bs x.l) x.u x.v\/(x.l<L/\Way ((0,u,v) :: tE bs x.l) x.u x.v)
 s1:∀ l w:Nat,w<V->2 ^ l<=V->l<L->cnW V ((0,u,v) :: tE bs l) w*2 ^ l<=V
 s2:∀ l w:Nat,w<V->2 ^ l<=V->cnW V (tE bs l) w*2 ^ l<=V
 np:¬ Way (tE bs 0) u v
theorem Up.back (h:Up bs bs' P)(hx:x∈bs'):x∈bs\/∃ y∈bs,P y/\x={ y with l:=y.l+1 }:=by
 obtain⟨j,hj⟩:=Kc hx;have hjl:=(Jd hj).1;rw[h.len] at hjl;have hy:=Jh hjl
 rcases h.st j _ hy with h4|⟨h5,h4⟩
 . rw[h4] at hj;injection hj with hj
   subst hj;exact .inl (Je hy)
 . rw[h4] at hj;injection hj with hj
   exact .inr ⟨_,Je hy,h5,hj.symm⟩
theorem Up.fore (h:Up bs bs' P)(hx:x∈bs):x∈bs'\/(P x/\{ x with l:=x.l+1 }∈bs'):=by
 obtain⟨j,hj⟩:=Kc hx
 rcases h.st j _ hj with h4|⟨h5,h4⟩
 . exact .inl (Je h4)
 . exact .inr ⟨h5,Je h4⟩
theorem Up.tE_top (h:Up bs bs' P)(hP:∀ x,P x->x.l=L)(hl:L+2<=L')(e:Nat × Nat × Nat):e∈tE bs' L'↔e∈tE bs L':=by
 obtain⟨s,a,b⟩:=e;rw[QG,QG]
 constructor
 . rintro⟨y,hy,h1,h2,h3⟩
   rcases h.back hy with h4|⟨z,hz,hp,rfl⟩
   . exact⟨y,h4,h1,h2,h3⟩
   . have:=hP _ hp
     have h2:L'<=z.l+1:=h2;omega
 . rintro⟨y,hy,h1,h2,h3⟩
   rcases h.fore hy with h4|⟨hp,_⟩
   . exact⟨y,h4,h1,h2,h3⟩
   . have:=hP _ hp;omega
theorem Up.tE_up (h:Up bs bs' P)(e:Nat × Nat × Nat)(he:e∈tE bs L'):e∈tE bs' L':=by
 obtain⟨s,a,b⟩:=e;rw[QG] at he |-;obtain⟨y,hy,h1,h2,h3⟩:=he
 rcases h.fore hy with h4|⟨_,h4⟩
 . exact⟨y,h4,h1,h2,h3⟩
 . exact⟨_,h4,h1,by show L'<=y.l+1;omega,h3⟩
theorem Up.row (h:Up bs bs' (PT13 bs L w))(hn:∀ x∈bs',¬ PT13 bs L w x)(ha:Way (tE bs L) w a):Way (tE bs' (L+1)) w a:=by
 have key:∀ {c d s:Nat},Way (tE bs L) w c->(s,c,d)∈tE bs L\/(s,d,c)∈tE bs L->(s,c,d)∈tE bs' (L+1)\/(s,d,c)∈tE bs' (L+1):=by
  intro c d s hc he
  have k2:∀ p q,(s,p,q)∈tE bs L->Way (tE bs L) p w->(s,p,q)∈tE bs' (L+1):=fun p q he hp=>by
   rw[QG] at he |-;obtain⟨y,hy,h1,h2,h3,rfl,h4⟩:=he
   rcases h.fore hy with h5|⟨_,h5⟩
   . refine⟨y,h5,h1,?_,h3,rfl,h4⟩
     have h9:y.l≠L:=fun e=>hn y h5 ⟨h1,e,hp⟩
     omega
   . exact⟨_,h5,h1,by show L+1<=y.l+1;omega,h3,rfl,h4⟩
  rcases he with he|he
  . exact .inl (k2 _ _ he hc.symm)
  . exact .inr (k2 _ _ he (((Way.refl _).fore he).trans hc.symm))
 refine ha.step (P:=fun b=>Way (tE bs' (L+1)) w b) (.refl _) fun c d s h1 ih he=>?_
 rcases key h1 he with h2|h2
 . exact ih.fore h2
 . exact ih.back h2
theorem Up.row_other (h:Up bs bs' (PT13 bs L w))(ha:¬ Way (tE bs L) w a)(hb:Way (tE bs' (L+1)) a b):Way (tE bs (L+1)) a b:=by
 have hm:∀ e∈tE bs' L,e∈tE bs L:=fun e he=>(h.tE_iff (fun x hx=>Nat.le_of_eq hx.2.1.symm) e).1 he
 have key:∀ {c d s:Nat},Way (tE bs' (L+1)) a c->(s,c,d)∈tE bs' (L+1)\/(s,d,c)∈tE bs' (L+1)->(s,c,d)∈tE bs (L+1)\/(s,d,c)∈tE bs (L+1):=by
  intro c d s hc he;have hcL:Way (tE bs L) a c:=(hc.down (Nat.le_succ L)).mono hm
  have k2:∀ p q,(s,p,q)∈tE bs' (L+1)->¬ Way (tE bs L) p w->(s,p,q)∈tE bs (L+1):=fun p q he hp=>by
   rw[QG] at he |-;obtain⟨y,hy,h1,h2,h3,h4,h5⟩:=he
   rcases h.back hy with h6|⟨z,hz,h6,rfl⟩
   . exact⟨y,h6,h1,h2,h3,h4,h5⟩
   . exact absurd (h4 ▸ h6.2.2) hp
  rcases he with he|he
  . exact .inl (k2 _ _ he fun h7=>ha (hcL.trans h7).symm)
  . refine .inr (k2 _ _ he fun h7=>ha (?_:Way (tE bs L) a w).symm)
    exact(hcL.trans ((Way.refl _).back (hm _ (Qo4 (Nat.le_succ L) _ he)))).trans h7
 refine hb.step (P:=fun b=>Way (tE bs (L+1)) a b) (.refl _) fun c d s h1 ih he=>?_
 rcases key h1 he with h2|h2
 . exact ih.fore h2
 . exact ih.back h2
theorem QoI (L:Nat):2 ^ (L+1)=2*2 ^ L:=by rw[Nat.pow_succ];omega
theorem Hm.half (h:Hm V bs u v (L+1))(hu:u<V)(hp:2 ^ L<=V)(hw:(w=u/\cnW V (tE bs L) u<=cnW V (tE bs L) v)\/(w=v/\cnW V (tE bs L) v<=cnW V (tE bs L) u)):cnW V (tE bs L) w*2 ^ (L+1)<=V:=by
 have h1:=h.s1 L u hu hp (Nat.lt_succ_self L)
 rw[<-QpF fun h2=>h.np (h2.down (Nat.zero_le _))] at h1
 have h2:2*cnW V (tE bs L) w<=cnW V (tE bs L) u+cnW V (tE bs L) v:=by
  rcases hw with ⟨rfl,h2⟩|⟨rfl,h2⟩<;>omega
 have h3:=Nat.mul_le_mul_right (2 ^ L) h2;rw[QoI]
 rw[show cnW V (tE bs L) w*(2*2 ^ L)=2*cnW V (tE bs L) w*2 ^ L by rw[<-Nat.mul_assoc,Nat.mul_comm _ 2]]
 omega
theorem Hm.trees (h:Hm V bs u v (L+1))(hu:u<V)(hw:(w=u/\cnW V (tE bs L) u<=cnW V (tE bs L) v)\/(w=v/\cnW V (tE bs L) v<=cnW V (tE bs L) u))(hU:Up bs bs' (PT13 bs L w)):Hm V bs' u v (L+1):=by
 have hlo:∀ l,l<=L->∀ e,e∈tE bs' l↔e∈tE bs l:=fun l hl e=>hU.tE_iff (fun x hx=>by have:=hx.2.1;omega) e
 have hcn:∀ l a b,l<=L->(Way ((0,u,v) :: tE bs' l) a b↔Way ((0,u,v) :: tE bs l) a b):=fun l a b hl=>by
  constructor<;>intro h1<;>refine h1.mono fun e he=>?_
  . rcases List.mem_cons.1 he with rfl|he
    . simp
    . exact Ji _ ((hlo l hl e).1 he)
  . rcases List.mem_cons.1 he with rfl|he
    . simp
    . exact Ji _ ((hlo l hl e).2 he)
 refine⟨fun x hx ht=>?_,fun l z hz hp hl=>?_,fun l z hz hp=>?_,fun h1=>h.np (h1.mono fun e he=>(hlo 0 (Nat.zero_le _) e).1 he)⟩
 . have hx2:x∈bs:=by
    rcases hU.back hx with h1|⟨y,_,hp,rfl⟩
    . exact h1
    . have:y.t=false:=ht
      rw[hp.1] at this;cases this
   rcases h.sp x hx2 ht with h1|⟨h1,h2⟩
   . exact .inl (h1.mono fun e he=>hU.tE_up e he)
   . exact .inr ⟨h1,(hcn _ _ _ (by omega)).2 h2⟩
 . rw[Qoj fun b _=>hcn l z b (by omega)];exact h.s1 l z hz hp hl
 . by_cases h1:l<=L
   . rw[Qoj (F:=tE bs l) (w:=z) fun b _=>⟨fun h2=>h2.mono fun e he=>(hlo l h1 e).1 he,fun h2=>h2.mono fun e he=>(hlo l h1 e).2 he⟩];exact h.s2 l z hz hp
   . by_cases h2:l=L+1
     . subst h2
       by_cases h3:Way (tE bs L) w z
       . refine Nat.le_trans (Nat.mul_le_mul_right _ (Qon (F:=tE bs L) (w:=w) fun b _ hb=>?_)) (h.half hu (Nat.le_trans (Nat.pow_le_pow_right (by omega) (Nat.le_succ L)) hp) hw)
         refine h3.trans (Way.mono (hb.down (Nat.le_succ L)) fun e he=>(hlo L Jb e).1 he)
       . refine Nat.le_trans (Nat.mul_le_mul_right _ (Qon (F:=tE bs (L+1)) (w:=z) fun b _ hb=>?_)) (h.s2 (L+1) z hz hp)
         exact hU.row_other h3 hb
     . have h3:∀ e,e∈tE bs' l↔e∈tE bs l:=hU.tE_top (fun x hx=>hx.2.1) (by omega)
       rw[Qoj (F:=tE bs l) (w:=z) fun b _=>⟨fun h2=>h2.mono fun e he=>(h3 e).1 he,fun h2=>h2.mono fun e he=>(h3 e).2 he⟩];exact h.s2 l z hz hp
theorem Up.tE_plain (h:Up bs bs' P)(hP:∀ x,P x->x.t=false)(L':Nat)(e:Nat × Nat × Nat):e∈tE bs' L'↔e∈tE bs L':=by
 refine⟨fun he=>?_,h.tE_up e⟩
 obtain⟨s,a,b⟩:=e;rw[QG] at he |-;obtain⟨y,hy,h1,h2,h3⟩:=he
 rcases h.back hy with h4|⟨z,hz,hp,rfl⟩
 . exact⟨y,h4,h1,h2,h3⟩
 . have:=hP _ hp;rw[show z.t=true from h1] at this;cases this
theorem Way.same (h:∀ e,e∈E↔e∈F):Way E a b↔Way F a b:=⟨fun h2=>h2.mono fun e he=>(h e).1 he,fun h2=>h2.mono fun e he=>(h e).2 he⟩
theorem Qok {z:Nat × Nat × Nat}(h:∀ e,e∈E↔e∈F)(e:Nat × Nat × Nat):e∈z :: E↔e∈z :: F:=by rw[List.mem_cons,List.mem_cons,h]
theorem Hm.seek (h:Hm V bs u v (L+1))(hr:∀ a,Way (tE bs L) w a->Way (tE bs (L+1)) w a)(hU:Up bs bs' (PS13 bs L w)):Hm V bs' u v (L+1):=by
 have hE:∀ l e,e∈tE bs' l↔e∈tE bs l:=fun l=>hU.tE_plain (fun x hx=>hx.1) l
 refine⟨fun x hx ht=>?_,fun l z hz hp hl=>?_,fun l z hz hp=>?_,fun h1=>h.np ((Way.same (hE 0)).1 h1)⟩
 . rcases hU.back hx with h1|⟨y,hy,hp,rfl⟩
   . rcases h.sp x h1 ht with h2|⟨h2,h3⟩
     . exact .inl ((Way.same (hE _)).2 h2)
     . exact .inr ⟨h2,(Way.same (Qok (hE _))).2 h3⟩
   . refine .inl ((Way.same (hE _)).2 ?_)
     show Way (tE bs (y.l+1)) y.u y.v;rw[hp.2.1];exact(hr _ hp.2.2.1.symm).symm.trans (hr _ hp.2.2.2.symm)
 . rw[Qoj fun b _=>Way.same (Qok (hE l))];exact h.s1 l z hz hp hl
 . rw[Qoj fun b _=>Way.same (hE l)];exact h.s2 l z hz hp
theorem Hm.next (h:Hm V bs u v (L+1))(hw:w=u\/w=v)(hn:∀ x∈bs,¬ BS13 bs L w x):Hm V bs u v L:=by
 refine⟨fun x hx ht=>?_,fun l z hz hp hl=>h.s1 l z hz hp (by omega),h.s2,h.np⟩
 rcases h.sp x hx ht with h1|⟨h1,h2⟩
 . exact .inl h1
 . by_cases h3:x.l=L
   . have h4:=hn x hx
     rcases h2.more with h5|⟨h5,h6⟩|⟨h5,h6⟩
     . exact .inl h5
     . exact absurd ⟨ht,h3,by rw[h3] at h5 h6;exact hw.elim (fun e=>.inl (e ▸ h5)) fun e=>.inr (e ▸ h6.symm)⟩ h4
     . exact absurd ⟨ht,h3,by rw[h3] at h5 h6;exact hw.elim (fun e=>.inr (e ▸ h6.symm)) fun e=>.inl (e ▸ h5)⟩ h4
   . exact .inr ⟨by omega,h2⟩
theorem QoP (h:Way [] a b):a=b:=h.step (P:=fun b=>a=b) rfl fun c d s _ _ he=>by rcases he with h3|h3<;>cases h3
theorem Hs.nil:Hs V []:=by
 refine⟨fun _ h=>(by cases h),fun L w hw hp=>?_⟩
 have h2:cnW V (tE [] L) w<=1:=by
  classical
  refine Nat.le_trans (Qoi (q:=fun y=>decide (y=w)) fun x _ hx=>?_) (Nat.le_of_eq (QoA hw))
  exact decide_eq_true (QoP (of_decide_eq_true hx)).symm
 exact Nat.le_trans (Nat.mul_le_mul_right _ h2) (by omega)
theorem Hm.done (h:Hm V bs u v 0):Hs V bs:=⟨fun x hx ht=>(h.sp x hx ht).elim id fun h1=>absurd h1.1 (Nat.not_lt_zero _),h.s2⟩
theorem Hs.fell {x:E1}(h:Hs V bs)(hx:x∈bs)(hm:∀ e,e∈bs'↔e∈bs/\e.s≠x.s)(hu:∀ e∈bs,e.s=x.s->e=x)(hn:¬ Way (tE bs' 0) x.u x.v):Hm V bs' x.u x.v (x.l+1):=by
 have lo:∀ l,∀ s p q,(s,p,q)∈tE bs l->Way ((0,x.u,x.v) :: tE bs' l) p q:=fun l s p q he=>by
  rw[QG] at he;obtain⟨y,hy,h1,h2,h3,h4,h5⟩:=he
  by_cases e:y.s=x.s
  . have:=hu y hy e
    subst this;subst h4;subst h5;exact Way.one _ _ _ _
  . exact(Way.refl _).fore (s:=s) (Ji _ (QG.2 ⟨y,(hm y).2 ⟨hy,e⟩,h1,h2,h3,h4,h5⟩))
 have hi:∀ l,x.l<l->∀ e,e∈tE bs l->e∈tE bs' l:=fun l hl ⟨s,p,q⟩ he=>by
  rw[QG] at he |-;obtain⟨y,hy,h1,h2,h3⟩:=he
  refine⟨y,(hm y).2 ⟨hy,fun e=>?_⟩,h1,h2,h3⟩
  have:=hu y hy e;subst this;omega
 have dn:∀ l,∀ e,e∈tE bs' l->e∈tE bs l:=fun l ⟨s,p,q⟩ he=>by
  rw[QG] at he |-;obtain⟨y,hy,h1⟩:=he;exact⟨y,((hm y).1 hy).1,h1⟩
 refine⟨fun y hy ht=>?_,fun l w hw hp hl=>?_,fun l w hw hp=>?_,hn⟩
 . have h1:=h.sp y ((hm y).1 hy).1 ht
   by_cases h2:x.l<y.l
   . exact .inl (h1.mono (hi _ h2))
   . exact .inr ⟨by omega,h1.sub (lo _)⟩
 . by_cases hz:x.t=true
   . refine Nat.le_trans (Nat.mul_le_mul_right _ (Qon (F:=tE bs l) (w:=w) fun b _ hb=>hb.sub fun s p q he=>?_)) (h.sz l w hw hp)
     rcases List.mem_cons.1 he with he|he
     . simp only[Prod.mk.injEq] at he
       obtain⟨_,rfl,rfl⟩:=he
       exact(Way.refl _).fore (s:=x.s) (QG.2 ⟨x,hx,hz,by omega,rfl,rfl,rfl⟩)
     . exact(Way.refl _).fore (dn _ _ he)
   . have h1:=h.sp x hx (by cases h5:x.t;rfl;exact absurd h5 hz)
     refine Nat.le_trans (Nat.mul_le_mul_right _ (Qon (F:=tE bs l) (w:=w) fun b _ hb=>hb.sub fun s p q he=>?_)) (h.sz l w hw hp)
     rcases List.mem_cons.1 he with he|he
     . simp only[Prod.mk.injEq] at he
       obtain⟨_,rfl,rfl⟩:=he
       exact h1.down (by omega)
     . exact(Way.refl _).fore (dn _ _ he)
 . exact Nat.le_trans (Nat.mul_le_mul_right _ (Qon (F:=tE bs l) (w:=w) fun b _ hb=>hb.mono (dn l))) (h.sz l w hw hp)
theorem Hs.out (h:Hs V bs)(hm:∀ e,e∈bs'↔e∈bs/\e.s≠x.s)(hu:∀ e∈bs,e.s=x.s->e=x)(ht:x.t=false):Hs V bs':=by
 have hE:∀ l e,e∈tE bs' l↔e∈tE bs l:=fun l ⟨s,p,q⟩=>by
  rw[QG,QG]
  constructor
  . rintro⟨y,hy,h1⟩;exact⟨y,((hm y).1 hy).1,h1⟩
  . rintro⟨y,hy,h1⟩
    refine⟨y,(hm y).2 ⟨hy,fun e=>?_⟩,h1⟩
    have:=hu y hy e;subst this;rw[ht] at h1;cases h1.1
 exact⟨fun y hy hz=>(Way.same (hE _)).2 (h.sp y ((hm y).1 hy).1 hz),fun l w hw hp=>by rw[Qoj fun b _=>Way.same (hE l)];exact h.sz l w hw hp⟩
theorem QpG:cnW V E u<=V:=by
 classical
 have:=List.length_filter_le (fun v=>decide (Way E u v)) (List.range V)
 rw[List.length_range] at this;exact this
theorem Hs.inn {s:Nat}{t:Bool}(h:Hs V bs)(ht:t=true↔¬ Way (tE bs 0) u v):Hs V (bs++[⟨s,u,v,0,t⟩]):=by
 have up:∀ l e,e∈tE bs l->e∈tE (bs++[⟨s,u,v,0,t⟩]) l:=fun l ⟨r,p,q⟩ he=>by
  rw[QG] at he |-;obtain⟨y,hy,h1⟩:=he;exact⟨y,Ka _ hy,h1⟩
 refine⟨fun y hy hz=>?_,fun l w hw hp=>?_⟩
 . rcases List.mem_append.1 hy with h1|h1
   . exact(h.sp y h1 hz).mono (up _)
   . rw[List.mem_singleton] at h1
     subst h1
     have:¬ ¬ Way (tE bs 0) u v:=fun h2=>by rw[show t=false from hz] at ht;exact absurd (ht.2 h2) (by decide)
     exact(Classical.not_not.1 this).mono (up _)
 . by_cases h0:l=0
   . subst h0;rw[Nat.pow_zero,Nat.mul_one];exact QpG
   . rw[Qoj (F:=tE bs l) (w:=w) fun b _=>Way.same fun⟨r,p,q⟩=>⟨fun he=>?_,up l _⟩];exact h.sz l w hw hp
     rw[QG] at he |-;obtain⟨y,hy,h1,h2,h3⟩:=he
     rcases List.mem_append.1 hy with h4|h4
     . exact⟨y,h4,h1,h2,h3⟩
     . rw[List.mem_singleton] at h4
       subst h4;exact absurd (Nat.le_zero.1 h2) h0
def aE (bs:List E1):List (Nat × Nat × Nat):=bs.map fun e=>(e.s,e.u,e.v)
theorem Qo5 {s:Nat}:(s,a,b)∈aE bs↔∃ e∈bs,e.s=s/\e.u=a/\e.v=b:=by
 unfold aE;simp only[List.mem_map,Prod.mk.injEq]
theorem Hs.all (h:Hs V bs):Way (aE bs) a b↔Way (tE bs 0) a b:=by
 constructor
 . refine fun h1=>h1.sub fun s p q he=>?_
   rw[Qo5] at he;obtain⟨y,hy,h2,rfl,rfl⟩:=he
   cases ht:y.t with
   |false=>exact(h.sp y hy ht).down (Nat.zero_le _)
   |true=>exact(Way.refl _).fore (QG.2 ⟨y,hy,ht,Nat.zero_le _,h2,rfl,rfl⟩)
 . refine fun h1=>h1.mono fun⟨s,p,q⟩ he=>?_
   rw[QG] at he;obtain⟨y,hy,_,_,h2⟩:=he;exact Qo5.2 ⟨y,hy,h2⟩
theorem Hm.found {z:E1}(h:Hm V bs u v (x.l+1))(hx:x∈bs)(ht:x.t=false)(hw:w=u\/w=v)(hc:Way (tE bs x.l) x.u w↔¬ Way (tE bs x.l) x.v w)(hz:z={ x with t:=true })(hm:∀ e,e∈bs'↔e=z\/(e∈bs/\e.s≠x.s))(hu:∀ e∈bs,e.s=x.s->e=x):
 Hs V bs'/\¬ Way (tE bs 0) x.u x.v/\Way (tE bs' 0) u v:=by
 have hno:¬ Way (tE bs x.l) x.u x.v:=fun h1=>by
  by_cases h2:Way (tE bs x.l) x.v w
  . exact(hc.1 (h1.trans h2)) h2
  . exact h2 (h1.symm.trans (hc.2 h2))
 have hcr:(Way (tE bs x.l) x.u u/\Way (tE bs x.l) v x.v)\/(Way (tE bs x.l) x.u v/\Way (tE bs x.l) u x.v):=by
  rcases h.sp x hx ht with h1|⟨_,h1⟩
  . exact absurd h1 hno
  . rcases h1.more with h2|h2
    . exact absurd h2 hno
    . exact h2
 have up:∀ l e,e∈tE bs l->e∈tE bs' l:=fun l ⟨s,p,q⟩ he=>by
  rw[QG] at he |-;obtain⟨y,hy,h1⟩:=he
  refine⟨y,(hm y).2 (.inr ⟨hy,fun e=>?_⟩),h1⟩
  have:=hu y hy e;subst this;rw[ht] at h1;cases h1.1
 have dn:∀ l s p q,(s,p,q)∈tE bs' l->(p=x.u/\q=x.v/\l<=x.l)\/(s,p,q)∈tE bs l:=fun l s p q he=>by
  rw[QG] at he;obtain⟨y,hy,h1,h2,h3,h4,h5⟩:=he
  rcases(hm y).1 hy with rfl|h6
  . subst hz;exact .inl ⟨h4.symm,h5.symm,h2⟩
  . exact .inr (QG.2 ⟨y,h6.1,h1,h2,h3,h4,h5⟩)
 have hzm:∀ l,l<=x.l->Way (tE bs' l) x.u x.v:=fun l hl=>(Way.refl _).fore (s:=x.s) (QG.2 ⟨z,(hm z).2 (.inl rfl),by subst hz;rfl,by subst hz;exact hl,by subst hz;rfl,by subst hz;rfl,by subst hz;rfl⟩)
 have huv:∀ l,l<=x.l->Way (tE bs' l) u v:=fun l hl=>by
  have k:∀ {p q},Way (tE bs x.l) p q->Way (tE bs' l) p q:=fun h1=>(h1.down hl).mono (up l)
  rcases hcr with ⟨h1,h2⟩|⟨h1,h2⟩
  . exact(k h1).symm.trans ((hzm l hl).trans (k h2).symm)
  . exact(k h2).trans ((hzm l hl).symm.trans (k h1))
 refine⟨⟨fun y hy hyt=>?_,fun l p hp h2l=>?_⟩,fun h1=>?_,huv 0 (Nat.zero_le _)⟩
 . rcases(hm y).1 hy with rfl|⟨h6,_⟩
   . subst hz;cases hyt
   . rcases h.sp y h6 hyt with h1|⟨h1,h2⟩
     . exact h1.mono (up _)
     . refine h2.sub fun s p q he=>?_
       rcases List.mem_cons.1 he with he|he
       . simp only[Prod.mk.injEq] at he
         obtain⟨_,rfl,rfl⟩:=he
         exact huv _ (by omega)
       . exact(Way.refl _).fore (up _ _ he)
 . by_cases hl:l<=x.l
   . refine Nat.le_trans (Nat.mul_le_mul_right _ (Qon (F:=(0,u,v) :: tE bs l) (w:=p) fun b _ hb=>hb.sub fun s c d he=>?_)) (h.s1 l p hp h2l (by omega))
     rcases dn l s c d he with ⟨rfl,rfl,_⟩|h1
     . have k:∀ {p q},Way (tE bs x.l) p q->Way ((0,u,v) :: tE bs l) p q:=fun h1=>(h1.down hl).cons
       rcases hcr with ⟨h1,h2⟩|⟨h1,h2⟩
       . exact(k h1).trans ((Way.one _ _ _ _).trans (k h2))
       . exact(k h1).trans ((Way.one _ _ _ _).symm.trans (k h2))
     . exact(Way.refl _).fore (Ji _ h1)
   . refine Nat.le_trans (Nat.mul_le_mul_right _ (Qon (F:=tE bs l) (w:=p) fun b _ hb=>hb.mono fun⟨s,c,d⟩ he=>?_)) (h.s2 l p hp h2l)
     rcases dn l s c d he with ⟨_,_,h1⟩|h1
     . exact absurd h1 hl
     . exact h1
 . have k:∀ {p q},Way (tE bs x.l) p q->Way (tE bs 0) p q:=fun h2=>h2.down (Nat.zero_le _)
   rcases hcr with ⟨h2,h3⟩|⟨h2,h3⟩
   . exact h.np ((k h2).symm.trans (h1.trans (k h3).symm))
   . exact h.np ((k h3).trans (h1.symm.trans (k h2)))
open Classical in
noncomputable def cmW (V:Nat)(E:List (Nat × Nat × Nat)):Nat:=((List.range V).filter fun v=>decide (∀ u,u<v->¬ Way E u v)).length
theorem Qp6 (E:List (Nat × Nat × Nat))(u:Nat):∃ a,a<=u/\Way E a u/\∀ b,b<a->¬ Way E b a:=by
 classical
 have key:∀ n,∀ u,u<=n->∃ a,a<=u/\Way E a u/\∀ b,b<a->¬ Way E b a:=by
  intro n
  induction n with
  |zero=>intro u hu;exact⟨u,Nat.le_refl _,.refl _,fun b hb=>by omega⟩
  |succ n ih=>
   intro u hu
   by_cases h:∃ b,b<u/\Way E b u
   . obtain⟨b,hb,h1⟩:=h
     obtain⟨a,ha,h2,h3⟩:=ih b (by omega)
     exact⟨a,by omega,h2.trans h1,h3⟩
   . exact⟨u,Nat.le_refl _,.refl _,fun b hb h1=>h ⟨b,hb,h1⟩⟩
 exact key u u Jb
theorem Qqd {s:Nat}(hu:u<V)(hv:v<V)(h:¬ Way E u v):cmW V ((s,u,v) :: E)+1=cmW V E:=by
 classical
 obtain⟨a,ha,wa,la⟩:=Qp6 E u;obtain⟨b,hb,wb,lb⟩:=Qp6 E v
 have hab:a≠b:=fun e=>h (wa.symm.trans (e ▸ wb))
 have up:∀ {p q},Way E p q->Way ((s,u,v) :: E) p q:=fun h=>h.cons
 have hne:Way ((s,u,v) :: E) a b:=(up wa).trans ((Way.one s u v E).trans (up wb).symm)
 have hm:max a b<V:=by omega
 rw[<-QoA hm];unfold cmW
 rw[Qol fun x _ hp=>?_]
 . congr 1
   refine List.filter_congr fun x _=>?_
   rw[<-Bool.decide_or]
   refine decide_eq_decide.2 ⟨fun h2=>?_,fun h2=>?_⟩
   . rcases h2 with h2|rfl
     . exact fun z hz hw=>h2 z hz (up hw)
     . intro z hz
       by_cases h3:a<=b
       . rw[Nat.max_eq_right h3] at hz |-;exact lb z hz
       . rw[Nat.max_eq_left (by omega)] at hz |-;exact la z hz
   . by_cases h3:x=max a b
     . exact .inr h3
     . refine .inl fun z hz hw=>?_
       rcases hw.more with h4|⟨h4,h5⟩|⟨h4,h5⟩
       . exact h2 z hz h4
       . have e:x=b:=by
          rcases Nat.lt_trichotomy x b with h6|h6|h6
          . exact absurd (h5.symm.trans wb.symm) (fun h7=>lb x h6 h7)
          . exact h6
          . exact absurd (wb.trans h5) (h2 b h6)
         subst e
         have:z<a:=by omega
         exact la z this (h4.trans wa.symm)
       . have e:x=a:=by
          rcases Nat.lt_trichotomy x a with h6|h6|h6
          . exact absurd (h5.symm.trans wa.symm) (fun h7=>la x h6 h7)
          . exact h6
          . exact absurd (wa.trans h5) (h2 a h6)
         subst e
         have:z<b:=by omega
         exact lb z this (h4.trans wb.symm)
 . have h1:=of_decide_eq_true hp.1
   have h2:=of_decide_eq_true hp.2;subst h2
   by_cases h3:a<=b
   . rw[Nat.max_eq_right h3] at h1;exact h1 a (by omega) hne
   . rw[Nat.max_eq_left (by omega)] at h1;exact h1 b (by omega) hne.symm
theorem Qp7 (h:∀ a b,Way E a b↔Way F a b):cmW V E=cmW V F:=by
 classical
 unfold cmW
 congr 1
 refine List.filter_congr fun x _=>decide_eq_decide.2 ⟨fun h2 u hu hw=>h2 u hu ((h _ _).2 hw),fun h2 u hu hw=>h2 u hu ((h _ _).1 hw)⟩
end
theorem Qpl {V:Int}{L:Nat}(h0:1<=V)(h:(L:Int)<lv V):2 ^ L<=V.toNat:=by
 have h4:L<=4:=by have:=(QF V).2;omega
 have h5:L=0\/L=1\/L=2\/L=3\/L=4:=by omega
 unfold lv at h
 rcases h5 with rfl|rfl|rfl|rfl|rfl<;>simp only[Nat.reducePow]<;>split at h<;>(try split at h)<;>(try split at h)<;>(try split at h)<;>omega
def mz (V:Int)(L:Nat):Int:=((V.toNat / 2 ^ L:Nat):Int)
section
variable {w:World}{b:BkV}{cv:Nat->Int}{g:Mg9}{mk:Nat->Nat}{ts:List Tp}{bs es:List E1}{q:Nat->Nat->List Nat}{L:Nat}{V:Int}
theorem Qpr (h:0<=V):mz V 0=V:=by unfold mz;rw[Nat.pow_zero,Nat.div_one];omega
theorem Qps:Int.tdiv (mz V L) 2=mz V (L+1):=by
 unfold mz;rw[Nat.pow_succ,<-Nat.div_div_eq_div_mul];generalize V.toNat / 2 ^ L=n;rw[Int.tdiv_eq_ediv_of_nonneg (Jg _)];omega
theorem Qpt (h:V<=16)(h0:0<=V):0<=mz V L/\mz V L<=16:=by
 have:=Nat.div_le_self V.toNat (2 ^ L);unfold mz;generalize V.toNat / 2 ^ L=n at this |-;omega
theorem Sd13.lg (h:Sd13 b cv g mk ts bs q):LG b.V b.S b.T cv mk ts bs q:=⟨h.er,h.lf⟩
theorem Sd13.small (h:Sd13 b cv g mk ts bs q)(hR:Rt b.V b.S b.T)(hs:Hs b.V.toNat bs)(hL:(L:Int)<lv b.V):∀ t∈ts,Qc3 b.V b.S L t.row->((cntV (vxN b.V) t.row:Nat):Int)<=mz b.V L:=by
 intro t ht hl;have hF:FJ b.V b.S mk ts:=⟨g,h.bt.fi⟩
 by_cases hu:∃ u:Nat,(u:Int)<b.V/\Xn b.V L u∈t.row
 . obtain⟨u,hu,hx⟩:=hu
   obtain⟨gr,hV,hg⟩:=h.lf.fo;obtain⟨rows,hr⟩:=hV L hL;obtain⟨r,hr1,hx1⟩:=hr.cov u hu;obtain⟨z,hz,ez⟩:=hr.has r hr1
   have e:=hF.uniq hz ht (by rw[ez];exact hx1) hx
   subst e
   have h1:cntV (vxN b.V) z.row=cnW b.V.toNat (tE bs L) u:=by
    rw[ez,hr.count hR hL h.bt.fi hr1];unfold cnW
    congr 1
    refine List.filter_congr fun v _=>decide_eq_decide.2 ?_
    rw[<-ez];exact(h.lg.way hR hF hL ht hx hu v).symm
   have h2:=hs.sz L u (by omega) (Qpl hR.v1 hL)
   rw[<-h1] at h2;unfold mz
   exact Int.ofNat_le.2 ((Nat.le_div_iff_mul_le (Nat.pow_pos (by omega))).2 h2)
 . have h1:cntV (vxN b.V) t.row=0:=by
    unfold cntV;rw[List.length_eq_zero_iff,List.filter_eq_nil_iff];intro y hy hv;refine hu ?_
    rcases hl y hy with ⟨u,hu1,rfl⟩|⟨s,d,hs1,hd1,rfl⟩
    . exact⟨u,hu1,hy⟩
    . rw[QjD hR hL hs1 hd1] at hv;cases hv
   rw[h1];exact Jg _
def KV14 (w1:World)(n:Nat)(V:Int)(mo i:Value)(W:World):Prop:=∃ (L:Nat) (z:Int),L<=n/\i=I ((L:Nat):Int)/\mo=I z/\z=mz V L/\Below w1.heap.size w1 W
def KW14 (w1:World)(V:Int)(r:List Nat)(c i:Value)(W:World):Prop:=∃ (k z:Nat),k<=r.length/\cntV (vxN V) (r.take k)=z/\i=I ((k:Nat):Int)/\c=I ((z:Nat):Int)/\Below w1.heap.size w1 W
theorem Qpe {r:List Nat}{k x:Nat}{vx:Nat->Bool}(h:r[k]?=some x):cntV vx (r.take (k+1))=cntV vx (r.take k)+if vx x then 1 else 0:=by
 rw[List.take_add_one,h];show cntV vx (r.take k++[x])=_;rw[QeU,Qbx];show _+(_+0)=_;omega
theorem Qpp (B:Bk w b cv)(h:Sd13 b cv g mk ts bs q)(hs:Hs b.V.toNat bs):
 I0 15 #[vB b,.bool true] w fun e w'=>e=.returned (.bool true)/\Below w.heap.size w w':=by
 have HR:=q9 B.hR;have HSD:=q9 h;obtain⟨es,hes⟩:∃ es,Qbb bs b.V.toNat b.V.toNat=es:=⟨_,rfl⟩;have HES:=q9 (h.edges B.hR hes)
 have HROW:Hid (∀ L:Nat,(L:Int)<lv b.V->∀ t∈TLv b.V L ts b.na,Qc3 b.V b.S L t.row/\Ar13 b.V b.S L (es.foldl (QaW L) (List.replicate b.S.toNat none)) t.row):=q9 fun L hL=>h.row B HES.out hL
 have HBT:=q9 (h.marked B HES.out)
 have HSML:Hid (∀ L:Nat,(L:Int)<lv b.V->∀ t∈TLv b.V L ts b.na,((cntV (vxN b.V) t.row:Nat):Int)<=mz b.V L):=q9 fun L hL t ht=>by
  have h1:=h.row B HES.out hL t ht;have h2:=(Qcd h.bt.fi).1 ht;exact h.small B.hR hs hL t h2.1 h1.1
 have HSPA:Hid (∀ e∈es,e.t=false->∀ L,L<=e.l->Way (tE es L) e.u e.v):=q9 fun e he ht L hL=>by
  have h1:=(hs.sp e ((HES.mem e).1 he) ht).down hL
  refine h1.mono fun⟨s,p,q⟩ hm=>?_
  rw[QG] at hm |-;obtain⟨y,hy,h2⟩:=hm;exact⟨y,(HES.mem y).2 hy,h2⟩
 have HLNK:Hid (∀ L,Lnk (es.foldl (QaW L) (List.replicate b.S.toNat none)) (tE es L)):=q9 fun L=>QiZ (HES.un.imp fun h=>h.1) fun e hm=>by have:=HES.en e hm;omega
 have HTEV:Hid (∀ L s p q,(s,p,q)∈tE es L->p<b.V.toNat/\q<b.V.toNat):=q9 fun L s p q he=>by
  rw[QG] at he;obtain⟨y,hy,_,_,_,rfl,rfl⟩:=he;have:=HES.en y hy;omega
 obtain⟨nS,hnS⟩:∃ k:Nat,b.S=(k:Int):=⟨b.S.toNat,by have:=B.hR.s1;omega⟩
 obtain⟨nl,hnl⟩:∃ k:Nat,lv b.V=(k:Int):=⟨(lv b.V).toNat,by have:=QF b.V;omega⟩
 obtain⟨ln,hln⟩:∃ k,es.length=k:=⟨_,rfl⟩;have HNS:=q9 hnS;have HNL:=q9 hnl;have HLN:=q9 hln
 have nS48:nS<=48:=by have:=B.hR.s2;omega
 have nl5:nl<=5:=by have:=QF b.V;omega
 have ln48:ln<=48:=by have:=HES.ln;omega
 have v16:b.V<=16:=B.hR.v2;have v1:1<=b.V:=B.hR.v1
 have na560:b.na<=560:=by rw[B.ha];have:=(sizes B.hR).nd2;omega
 have HNA:Hid ((b.na:Int)=nd b.V b.S):=q9 (by have:=B.ha;have:=Q0 B.hR;have h2:nN b.V b.S=(nd b.V b.S).toNat:=rfl;omega)
 have hua:Below w.heap.size w (w.alloc (bB b)):=Ja.alloc Jb _;have HW:=q9 hua;have HBk:=q9 (B.below hua);have HX:=q9 (BB.new w b);have hed:=QfG (B.below hua) h.er;rw[hes] at hed;have HED:=q9 hed
 have HTL:Hid (∀ L,∀ t∈TLv b.V L ts b.na,t.row.length<=b.na):=q9 fun L t ht=>h.bt.row_len B ((Qcd h.bt.fi).1 ht).1
 have hmk:=run_make_row' (P:=prog) 95 3 (I 0) 8 underlying95 Qel rfl .i64 .i64 nS (by omega) (by omega)
 have HMK:=q9 hmk;obtain⟨c0,c1,c2,c3,c4,c5,c6⟩:=(BB.new w b).cells;have xlt:=(BB.new w b).lt;clear B h hua hes hnS hnl hln hed hmk
 go_enter func15,ntmps15
 go_wp2_with fail
 refine HED.mono ?_;rintro e w2 ⟨v2,rfl,hEW,b2⟩;obtain⟨la,ln2,lc,rfl,hEW⟩:=QbI hEW
 have hl9:es.length=ln2:=by
  obtain⟨a,c,e⟩:=hEW.slice;injection e with _ e _;exact e.symm
 obtain rfl:ln=ln2:=HLN.symm.trans hl9;have HX2:=q9 (HX.below b2);have HBk2:=q9 (HBk.below b2);have HEW2:=q9 hEW;have HW2:=q9 (HW.trans (b2.mono HW.size));clear xlt HX HBk HW HED b2 hEW hl9;obtain⟨c0,c1,c2,c3,c4,c5,c6⟩:=HX2.cells;have xlt:=HX2.lt;go_wp2_with fail
 refine(Qiw HBk2.out HEW2.out (by have:=HES.ln;omega) HSD.lf.lq HES.lk HES.un (fun e he=>by have:=HES.en e he;omega) HES.ql).mono ?_;rintro e w3 ⟨rfl,b3⟩
 have HX3:=q9 (HX2.below b3);have HBk3:=q9 (HBk2.below b3);have HEW3:=q9 (HEW2.below b3);have HW3:=q9 (HW2.trans (b3.mono HW2.size));clear xlt HX2 HBk2 HEW2 HW2 b3;obtain⟨c0,c1,c2,c3,c4,c5,c6⟩:=HX3.cells;have xlt:=HX3.lt;rw[HNS.out] at c1;have hmk:=HMK.out;go_wp2_with fail
 clear xlt hmk HMK
 have HRELA:Hid (KU13 w3 w3.heap.size nS es (I 0) (w3.alloc (.cells (madeCells #[I 0] nS) 3))):=q9 ⟨0,Nat.zero_le _,rfl,by rw[show (fun s=>((es.take 0).map E1.s).count s)=(fun _=>0) from by funext s;simp];exact Cn13.made w3 nS,Ja.alloc Jb _⟩
 generalize w3.alloc (.cells (madeCells #[I 0] nS) 3)=w4 at HRELA |-;generalize hub:w3.heap.size=ub at HRELA |-;have HUB:=q9 hub;clear hub
 go_loopw [8] (fun i wr=>KU13 w3 ub nS es i wr) (fun i _=>ln-(intOf i).toNat)
 case atStart=>exact HRELA.out
 case round=>
  clear HRELA;obtain⟨k,hk,rfl,hcn,hb⟩:=hrel;have HCN:=q9 hcn;have HB:=q9 hb;have HEWk:=q9 (HEW3.below hb);rw[HLN.out] at hk;clear hcn hb
  by_cases hkn:k<ln
  . as_aux_lemma=>
    obtain⟨x,hx⟩:∃ x,es[k]?=some x:=⟨_,Jh (by have:=HLN.out;omega)⟩
    obtain⟨gb,cap,e1,_,glt,gfr,g0,g1,g2,g3,g4⟩:=HEWk.at hx;injection e1 with e1 e2 e3;subst e1;have xs:=HES.en x (Je hx)
    have xsn:x.s<nS:=by have:=HNS.out;omega
    have xsI:(x.s:Int)<(nS:Int):=by omega
    have xs0:(0:Int)<=(x.s:Int):=by omega
    have kI:(k:Int)<(ln:Int):=by omega
    have k0:(0:Int)<=(k:Int):=by omega
    have hce:=HCN.cell (k:=x.s) xsn;have hfz:=HCN.frozen x.s;have slt:=HCN.lt;obtain⟨cc,hcc⟩:∃ c,((es.take k).map E1.s).count x.s=c:=⟨_,rfl⟩
    have hc9:cc<=48:=by
     have h1:=List.count_le_length (a:=x.s) (l:=(es.take k).map E1.s);rw[List.length_map,List.length_take] at h1;omega
    rw[hcc] at hce
    have cI:(cc:Int)<=48:=by omega
    have c0':(0:Int)<=(cc:Int):=by omega
    have HCN2:Hid (Cn13 (wr.setCell (I1 ub x.s) (I ((cc:Int)+1))) ub nS (fun s=>((es.take (k+1)).map E1.s).count s)):=q9 (HCN.set_ (k:=x.s) xsn (by (try dsimp only);rw[Qe7 hx,hcc,if_pos rfl];omega) (fun i hi=>by (try dsimp only);rw[Qe7 hx,if_neg hi,Nat.add_zero]))
    have HB2:=q9 (HB.setCell (p:=(I1 ub x.s)) (by rw[HUB.out];exact Nat.le_refl _) (I ((cc:Int)+1)))
    have HK1:Hid (k+1<=es.length):=q9 (by have:=HLN.out;omega)
    clear hcc hc9 xs hx HCN HB HEWk e2 e3;go_wp2_with fail
    go_roundw
    case rel=>exact⟨k+1,HK1.out,by simp,HCN2.out,HB2.out⟩
    case measure=>simp [intOf];omega
  . as_aux_lemma=>
    have ek:ln=k:=by omega
    subst ek
    have kN:¬ (ln:Int)<(ln:Int):=by omega
    have htk:es.take ln=es:=by rw[<-HLN.out,List.take_length]
    rw[htk] at HCN;have HXk:=q9 (HX3.below HB.out);have HBkk:=q9 (HBk3.below HB.out);have HWk:=q9 (HW3.trans (HB.mono HW3.size));clear htk HX3 HBk3 HEW3 HW3 HB hk hkn;go_wp2_with fail
    obtain⟨wA,rfl⟩:∃ w9:World,w9=wr:=⟨_,rfl⟩;have HRELB:Hid (KT13 wA nS (I 0) wA):=q9 ⟨0,Nat.zero_le _,rfl,Below.refl _ _⟩
    go_loopw [9] (fun i wr=>KT13 wA nS i wr) (fun i _=>nS-(intOf i).toNat)
    case atStart=>exact HRELB.out
    case round=>
     clear HRELB;obtain⟨j,hj,rfl,hb⟩:=hrel;have HB:=q9 hb;clear hb
     by_cases hjn:j<nS
     . as_aux_lemma=>
       have HCNj:=q9 (HCN.below HB.out)
       have jI:(j:Int)<(nS:Int):=by omega
       have j0:(0:Int)<=(j:Int):=by omega
       have hce:=HCNj.cell (k:=j) hjn;have slt:=HCNj.lt;have hc9:=QjF HES.un j;obtain⟨cc,hcc⟩:∃ c,(es.map E1.s).count j=c:=⟨_,rfl⟩;rw[hcc] at hce hc9
       have cI:(cc:Int)<=1:=by omega
       have cN:¬ (1:Int)<(cc:Int):=by omega
       have HN5:Hid (KT13 wA nS (I ((j:Int)+1)) wr):=q9 ⟨j+1,by omega,by simp,HB.out⟩
       clear hcc HB HCNj hc9;go_wp2_with fail
       go_roundw
       case rel=>exact HN5.out
       case measure=>simp [intOf];omega
     . as_aux_lemma=>
       have ej:nS=j:=by omega
       subst ej
       have jN:¬ (nS:Int)<(nS:Int):=by omega
       have HXj:=q9 (HXk.below HB.out);have HBkj:=q9 (HBkk.below HB.out);have HEWj:=q9 (HEWk.below HB.out);have HWj:=q9 (HWk.trans (HB.mono HWk.size));clear HXk HBkk HEWk HWk HB HCN hj hjn;obtain⟨c0,c1,c2,c3,c4,c5,c6⟩:=HXj.cells;have xlt:=HXj.lt;go_wp2_with fail
       refine(Qit HBkj.out HEWj.out (by have:=HES.ln;omega) HES.en).mono ?_;rintro e w5 ⟨mb,rfl,hM,hmb,b5⟩
       have HM5:=q9 hM;have HX5:=q9 (HXj.below b5);have HBk5:=q9 (HBkj.below b5);have HEW5:=q9 (HEWj.below b5);have HW5:=q9 (HWj.trans (b5.mono HWj.size));clear xlt HXj HBkj HEWj HWj b5 hM hmb;obtain⟨c0,c1,c2,c3,c4,c5,c6⟩:=HX5.cells;have xlt:=HX5.lt;go_wp2_with fail
       clear xlt
       have HRELC:Hid (KV14 w5 nl b.V (I b.V) (I 0) w5):=q9 ⟨0,b.V,Nat.zero_le _,rfl,rfl,(Qpr (by omega)).symm,Below.refl _ _⟩
       go_loopw [11,12] (fun mo i wr=>KV14 w5 nl b.V mo i wr) (fun _ i _=>nl-(intOf i).toNat)
       case atStart=>exact HRELC.out
       case round=>
        clear HRELC;obtain⟨L,z,hL,rfl,rfl,hz,hb⟩:=hrel
        have hz0:0<=z:=by rw[hz];exact(Qpt v16 (by omega)).1
        have hz1:z<=16:=by rw[hz];exact(Qpt v16 (by omega)).2
        have HZM:=q9 hz;clear hz;have HB:=q9 hb;have HXl:=q9 (HX5.below hb);have HBkl:=q9 (HBk5.below hb);have HEWl:=q9 (HEW5.below hb);have HMl:=q9 (HM5.below hb);have HWl:=q9 (HW5.trans (hb.mono HW5.size));clear hb;obtain⟨c0,c1,c2,c3,c4,c5,c6⟩:=HXl.cells;have xlt:=HXl.lt;go_wp2_with fail
        refine(QH _ _ _ HR _).mono ?_;rintro e w6 ⟨rfl,b6⟩;rw[HNL.out];have HX6:=q9 (HXl.below b6);have HBk6:=q9 (HBkl.below b6);have HEW6:=q9 (HEWl.below b6);have HM6:=q9 (HMl.below b6);have HW6:=q9 (HWl.trans (b6.mono HWl.size));have HB6:=q9 (HB.trans (b6.mono HB.size));clear xlt HXl HBkl HEWl HMl HWl HB b6
        by_cases hLn:L<nl
        . as_aux_lemma=>
          have LI0:(L:Int)<(nl:Int):=by omega
          have L0:(0:Int)<=(L:Int):=by omega
          have HLV:Hid ((L:Int)<lv b.V):=q9 (by rw[HNL.out];exact LI0)
          have HZ:=q9 (And.intro hz0 hz1);have HLn:Hid (L+1<=nl):=q9 hLn;clear hz0 hz1 hL hLn;obtain⟨c0,c1,c2,c3,c4,c5,c6⟩:=HX6.cells;have xlt:=HX6.lt;go_wp2_with fail
          refine(Qhz HBk6 HSD.bt HLV).mono ?_;rintro e w7 ⟨rv,vs,rfl,hRV,hlen,hLI,hfr,b7⟩;obtain⟨ra,rc,hre⟩:=hRV.slice;obtain⟨rn,hrn⟩:∃ n,vs.length=n:=⟨_,rfl⟩;rw[hrn] at hre;subst hre;have HRN:=q9 hrn;have HX7:=q9 (HX6.below b7);have HBk7:=q9 (HBk6.below b7);have HEW7:=q9 (HEW6.below b7);have HM7:=q9 (HM6.below b7);have HB7:=q9 (HB6.trans (b7.mono HB6.size));have HRV7:=q9 hRV;have HLEN:=q9 hlen;have HLI7:=q9 hLI
          have HMB:Hid (∀ v∈vs,bk v≠some mb):=q9 fun v hv e=>by
           have h1:=hfr v hv mb e;have h2:=HM6.lt;omega
          have rn600:rn<=600:=by
           have h1:(TLv b.V L ts b.na).length<=(List.range' 1 b.na).length:=List.length_filterMap_le _ _;rw[List.length_range'] at h1;omega
          clear xlt HX6 HBk6 HEW6 HM6 HB6 HW6 b7 hRV hlen hLI hfr hrn;obtain⟨c0,c1,c2,c3,c4,c5,c6⟩:=HX7.cells;have xlt:=HX7.lt;go_wp2_with fail
          refine(Qjb HBk7 HBT HLV HRV7 HLEN HLI7 HM7 HMB).mono ?_;rintro e w8 ⟨rfl,b8⟩;have HX8:=q9 (HX7.below b8);have HBk8:=q9 (HBk7.below b8);have HEW8:=q9 (HEW7.below b8);have HB8:=q9 (HB7.trans (b8.mono HB7.size));have HRV8:=q9 (HRV7.below b8)
          have HLI8:Hid (∀ (i:Nat) (v:Value) (t:Tp),vs[i]?=some v->(TLv b.V L ts b.na)[i]?=some t->LI w8 v t.row):=q9 fun i v t h1 h2=>(HLI7.out i v t h1 h2).below b8
          clear xlt HX7 HBk7 HEW7 HM7 HB7 HRV7 HLI7 HMB b8;obtain⟨c0,c1,c2,c3,c4,c5,c6⟩:=HX8.cells;have xlt:=HX8.lt;go_wp2_with fail
          refine(QiS HBk8.out HEW8.out (by have:=HES.ln;omega) HLV.out HES.en).mono ?_;rintro e w9 ⟨gb,rfl,hG,hgb,b9⟩
          have HX9:=q9 (HX8.below b9);have HEW9:=q9 (HEW8.below b9);have HBk9:=q9 (HBk8.below b9);have HB9:=q9 (HB8.trans (b9.mono HB8.size));have HRV9:=q9 (HRV8.below b9);have HG9:=q9 hG
          have HGN:Hid ((es.foldl (QaW L) (List.replicate b.S.toNat none)).length=b.S.toNat):=q9 (by rw[Qcw,List.length_replicate])
          have HSN:Hid (b.S.toNat<=1000):=q9 (by have:=HNS.out;omega)
          have HLI9:Hid (∀ (i:Nat) (v:Value) (t:Tp),vs[i]?=some v->(TLv b.V L ts b.na)[i]?=some t->LI w9 v t.row):=q9 fun i v t h1 h2=>(HLI8.out i v t h1 h2).below b9
          clear xlt HX8 HBk8 HEW8 HB8 HRV8 HLI8 b9 hG hgb;go_wp2_with fail
          have HRELD:Hid (KT13 w9 rn (I 0) w9):=q9 ⟨0,Nat.zero_le _,rfl,Below.refl _ _⟩
          go_loopw [16] (fun i wr=>KT13 w9 rn i wr) (fun i _=>rn-(intOf i).toNat)
          case atStart=>exact HRELD.out
          case round=>
           clear HRELD;obtain⟨i,hi,rfl,hb⟩:=hrel;have HB:=q9 hb;clear hb
           by_cases hin:i<rn
           . as_aux_lemma=>
             have HXi:=q9 (HX9.below HB.out);have HBki:=q9 (HBk9.below HB.out);have HRVi:=q9 (HRV9.below HB.out);have HGi:=q9 (HG9.below HB.out)
             obtain⟨v,hv⟩:∃ v,vs[i]?=some v:=⟨_,Jh (by have:=HRN.out;omega)⟩
             obtain⟨t,ht⟩:∃ t,(TLv b.V L ts b.na)[i]?=some t:=⟨_,Jh (by have:=HRN.out;have:=HLEN.out;omega)⟩
             have hli:=(HLI9.out i v t hv ht).below HB.out;obtain⟨rg,cc9,e1,_,rlt,cs,hcs,hcc⟩:=HRVi.at hv;injection e1 with e1 e2 e3;subst e1;have hcell:wr.cell? (I1 rg i)=some v:=(hcs.cell i).trans (hcc i v hv);have HT9:=q9 (Je ht);have HLX:=q9 (HROW.out L HLV.out t HT9.out);have hrl9:=HTL.out L t HT9.out;obtain⟨rl,hrl⟩:∃ n,t.row.length=n:=⟨_,rfl⟩;rw[hrl] at hrl9;have HRL:=q9 hrl
             have HL1:Hid (t.row.length<=1000):=q9 (by omega)
             obtain⟨va,vc,rfl,hli⟩:=Qad hli hrl;have HLI0:=q9 hli
             have iI:(i:Int)<(rn:Int):=by omega
             have i0:(0:Int)<=(i:Int):=by omega
             have rlI:(rl:Int)<=560:=by omega
             have HIN:Hid (i+1<=rn):=q9 hin;clear hv ht e2 e3 hcs hcc hli hi hin;obtain⟨c0,c1,c2,c3,c4,c5,c6⟩:=HXi.cells;have xlt:=HXi.lt;go_wp2_with fail
             clear xlt;have hd:Below wr.heap.size wr wr.drew:=Ja.drew;have HXd:=q9 (HXi.below hd);have HBkd:=q9 (HBki.below hd);have HGd:=q9 (HGi.below hd);have HLId:=q9 (HLI0.below hd);have HBd:=q9 (HB.trans (hd.mono HB.size));have hcd:=Qi hd hcell;have HCd:=q9 hcd;have HQd:=q9 (And.intro HXd.out hcd);have rltd:rg<wr.drew.heap.size:=Nat.lt_of_lt_of_le rlt hd.size;clear hd HXi HBki HRVi HGi HLI0 HB hcell rlt hcd
             have hrule:∀ W:World,(BB W w.heap.size b/\W.cell? (I1 rg i)=some (.slice va rl vc))->_:=fun W h=>And.intro (BB.rule w.heap.size b W h.1) (show W.cell? (I1 rg i)=some (.slice va rl vc) from h.2)
             obtain⟨⟨c0,c1,c2,c3,c4,c5,c6⟩,r0⟩:=hrule _ HQd.out;have xlt:=HXd.lt
             go_region_held3 (fun W=>BB W w.heap.size b/\W.cell? (I1 rg i)=some (.slice va rl vc)) (first|(with_reducible assumption)|(with_reducible exact HQ6.out)|(with_reducible exact HQd.out))
              (first
               |(go_at_call 43;((with_reducible refine(QhH HBkd.out HLId.out HL1.out HGd.out HGN.out HSN.out HLV.out HLX.out.1 HLX.out.2).mono ?_);rintro e w10 ⟨rfl,b10⟩;have HQ6:=q9 (And.intro (HXd.out.below b10) (Qi b10 HCd.out));have HB10:=q9 (HBd.out.trans (b10.mono HBd.out.size));have HBk10:=q9 (HBkd.out.below b10);have HLI10:=q9 (HLId.out.below b10)))
               |fail)
             clear hrule r0 xlt rltd HXd HBkd HGd HLId HBd HCd HQd b10;go_wp2_with fail
             have HRELE:Hid (KW14 w10 b.V t.row (I 0) (I 0) w10):=q9 ⟨0,0,Nat.zero_le _,rfl,rfl,rfl,Below.refl _ _⟩
             go_loopw [17,18] (fun c i wr=>KW14 w10 b.V t.row c i wr) (fun _ i _=>rl-(intOf i).toNat)
             case atStart=>exact HRELE.out
             case round=>
              clear HRELE;obtain⟨k,z9,hk,hz9,rfl,rfl,hb⟩:=hrel;rw[HRL.out] at hk
              have hz9k:z9<=k:=by
               have h1:cntV (vxN b.V) (t.row.take k)<=(t.row.take k).length:=List.length_filter_le _ _;rw[List.length_take] at h1;omega
              have HZ9:=q9 hz9;clear hz9;have HBe:=q9 hb;have HXe:=q9 (HQ6.1.below hb);have HBke:=q9 (HBk10.below hb);have HLIe:=q9 (HLI10.below hb);have r0:=Qi hb HQ6.2;have rlt:=World.block_lt_of_cell? _ _ r0;clear hb
              by_cases hkr:k<rl
              . as_aux_lemma=>
                obtain⟨x,hx⟩:∃ x,t.row[k]?=some x:=⟨_,Jh (by have:=HRL.out;omega)⟩
                obtain⟨zz,m,rfl,hN,hzn,hkd⟩:=QeM HR.out HLV.out (HLX.1 x (Je hx));obtain⟨b1,o1,rfl,p1⟩:=HLIe.at hx;have b1lt:b1<wr.heap.size:=World.block_lt_of_cell? _ _ p1
                have zn:zz<b.na:=by have:=HNA.out;omega
                obtain⟨n0,n1,n2,n3⟩:=(HBke.name hN zn).cells;have galt:=HBke.lt.2;obtain⟨c0,c1,c2,c3,c4,c5,c6⟩:=HXe.cells;have xlt:=HXe.lt
                have kI:(k:Int)<(rl:Int):=by omega
                have k0:(0:Int)<=(k:Int):=by omega
                have z600:(zz:Int)<=600:=by omega
                have zI:(zz:Int)<(b.na:Int):=by omega
                have z0:(0:Int)<=(zz:Int):=by omega
                have z9I:(z9:Int)<=560:=by omega
                have z90:(0:Int)<=(z9:Int):=by omega
                have HK1:Hid (k+1<=rl):=q9 (by omega)
                have HTK:=q9 (Qpe (vx:=vxN b.V) hx);clear hN hx hk hz9k
                rcases hkd with ⟨u,rfl,hq,ex⟩|⟨s,rfl,hq,ex⟩|⟨s,rfl,hq,ex⟩
                all_goals
                 dsimp only at n0 n1 n2 n3
                . have HN5:Hid (KW14 w10 b.V t.row (I ((z9:Int)+1)) (I ((k:Int)+1)) wr.drew):=q9 ⟨k+1,z9+1,by rw[HRL.out];exact HK1.out,by rw[HTK.out,HZ9.out,ex,QjC HR.out HLV.out hq];rfl,by simp,by simp,HBe.drew⟩
                  clear ex hq HTK HZ9;clear HBe HXe HBke HLIe;go_wp2_with fail
                  go_region;go_wp2_with fail
                  go_roundw
                  case rel=>exact HN5.out
                  case measure=>have:=HK1.out;simp [intOf];omega
                . have HN5:Hid (KW14 w10 b.V t.row (I (z9:Int)) (I ((k:Int)+1)) wr.drew):=q9 ⟨k+1,z9,by rw[HRL.out];exact HK1.out,by rw[HTK.out,HZ9.out,ex,QjD HR.out HLV.out hq (by decide)];rfl,by simp,rfl,HBe.drew⟩
                  clear ex hq HTK HZ9;clear HBe HXe HBke HLIe;go_wp2_with fail
                  go_region;go_wp2_with fail
                  go_roundw
                  case rel=>exact HN5.out
                  case measure=>have:=HK1.out;simp [intOf];omega
                . have HN5:Hid (KW14 w10 b.V t.row (I (z9:Int)) (I ((k:Int)+1)) wr.drew):=q9 ⟨k+1,z9,by rw[HRL.out];exact HK1.out,by rw[HTK.out,HZ9.out,ex,QjD HR.out HLV.out hq (by decide)];rfl,by simp,rfl,HBe.drew⟩
                  clear ex hq HTK HZ9;clear HBe HXe HBke HLIe;go_wp2_with fail
                  go_region;go_wp2_with fail
                  go_roundw
                  case rel=>exact HN5.out
                  case measure=>have:=HK1.out;simp [intOf];omega
              . as_aux_lemma=>
                have ek:rl=k:=by omega
                subst ek
                have kN:¬ (rl:Int)<(rl:Int):=by omega
                have zN:¬ z<(z9:Int):=by
                 have h1:=HSML.out L HLV.out t HT9.out;have h2:=HZ9.out;rw[<-HRL.out,List.take_length] at h2;rw[HZM.out];omega
                have z9b:(z9:Int)<=560:=by omega
                have HN5:Hid (KT13 w9 rn (I ((i:Int)+1)) wr):=q9 ⟨i+1,HIN.out,by simp,HB10.trans (HBe.mono HB10.size)⟩
                clear HBe HXe HBke HLIe;go_wp2_with fail
                go_roundw
                case rel=>exact HN5.out
                case measure=>have:=HIN.out;simp [intOf];omega
           . as_aux_lemma=>
             have ei:rn=i:=by omega
             subst ei
             have iN:¬ (rn:Int)<(rn:Int):=by omega
             have HBr:=q9 (HB9.trans (HB.mono HB9.size));obtain⟨z2,hz2⟩:∃ y,Int.tdiv z 2=y:=⟨_,rfl⟩
             have hz2m:z2=mz b.V (L+1):=by rw[<-hz2,HZM.out];exact Qps
             have hz29:0<=z2/\z2<=16:=by rw[hz2m];exact Qpt v16 (by omega)
             have HZ2:=q9 hz2m
             have wz:IntKind.i64.wrap z2=z2:=IntWalk.i64_in _ (by omega)
             have HWr:=q9 (HW5.trans (HBr.mono HW5.size));have HEWr:=q9 (HEW9.below HB.out);have HGr:=q9 (HG9.below HB.out);clear HB hz29 hz2m hi hin;go_wp2_with fail
             obtain⟨wC,rfl⟩:∃ w9:World,w9=wr:=⟨_,rfl⟩;have HRELF:Hid (KT13 wC ln (I 0) wC):=q9 ⟨0,Nat.zero_le _,rfl,Below.refl _ _⟩
             go_loopw [19] (fun i wr=>KT13 wC ln i wr) (fun i _=>ln-(intOf i).toNat)
             case atStart=>exact HRELF.out
             case round=>
              clear HRELF;obtain⟨y,hy,rfl,hb⟩:=hrel;have HBy:=q9 hb;clear hb
              by_cases hyn:y<ln
              . as_aux_lemma=>
                have HEWy:=q9 (HEWr.below HBy.out);have HGy:=q9 (HGr.below HBy.out)
                obtain⟨x,hx⟩:∃ x,es[y]?=some x:=⟨_,Jh (by have:=HLN.out;omega)⟩
                obtain⟨gl,cap,e1,_,glt,gfr,g0,g1,g2,g3,g4⟩:=HEWy.at hx;injection e1 with e1 e2 e3;subst e1;have HXM:=q9 (Je hx);have xs:=HES.en x HXM.out
                have xlb:(x.l:Int)<=5:=by have:=QF b.V;omega
                have HXV:Hid (x.u<b.V.toNat):=q9 (by omega)
                have yI:(y:Int)<(ln:Int):=by omega
                have y0:(0:Int)<=(y:Int):=by omega
                have LI9:(L:Int)<=5:=by omega
                have HY1:Hid (y+1<=ln):=q9 hyn
                have HVN:Hid (b.V.toNat<=1000):=q9 (by omega)
                clear xs hx e2 e3 hy hyn;have hd:Below wr.heap.size wr wr.drew:=Ja.drew;have d1:wr.drew.cell? _=_:=g1;have d2:wr.drew.cell? _=_:=g2;have d3:wr.drew.cell? _=_:=g3;have d4:wr.drew.cell? _=_:=g4;have dlt:gl<wr.drew.heap.size:=glt;have HBz:=q9 (HBy.trans (hd.mono HBy.size));have HGz:=q9 (HGy.below hd);clear hd;clear gfr
                cases ht:x.t with
                |true=>
                 rw[ht] at d4
                 have HN5:Hid (KT13 wC ln (I ((y:Int)+1)) wr.drew):=q9 ⟨y+1,HY1.out,by simp,HBz.out⟩
                 clear HBy HBz HGz HGy HEWy;go_wp2_with fail
                 refine wp_region_held_drew (S:=(fun W=>W.cell? (I1 gl (y*5+1))=some (I (x.u:Int))/\W.cell? (I1 gl (y*5+2))=some (I (x.v:Int))/\W.cell? (I1 gl (y*5+3))=some (I (x.l:Int))/\W.cell? (I1 gl (y*5+4))=some (.bool true))) (by kernel_rfl) ?_ (fun hHeld=>?_)
                 . exact⟨d1,d2,d3,d4⟩
                 refine q9N 0 rfl ?_
                 refine q9N 1 rfl ?_
                 refine q9N 2 rfl ?_
                 refine q9N 3 rfl ?_
                 refine q9N 4 rfl ?_
                 refine q9N 5 rfl ?_
                 refine q9N 6 rfl ?_
                 refine q9F 7 rfl ?_
                 refine q9F 8 rfl ?_
                 refine q9F 9 rfl ?_
                 refine q9F 10 rfl ?_
                 refine q9F 11 rfl ?_
                 refine q9F 12 rfl ?_
                 refine q9F 13 rfl ?_
                 refine q9N 14 rfl ?_
                 refine q9N 15 rfl ?_
                 refine q9F 16 rfl ?_
                 refine q9F 17 rfl ?_
                 refine q9F 18 rfl ?_
                 refine q9F 19 rfl ?_
                 refine q9F 20 rfl ?_
                 refine q9F 21 rfl ?_
                 refine q9F 22 rfl ?_
                 refine q9F 23 rfl ?_
                 refine q9F 24 rfl ?_
                 refine q9F 25 rfl ?_
                 refine q9F 26 rfl ?_
                 refine q9F 27 rfl ?_
                 refine q9F 28 rfl ?_
                 refine q9N 29 rfl ?_
                 refine wpAnyH_done (by kernel_rfl) ?_ _
                 all_goals
                  go_wp2_with fail
                  go_roundw
                  case rel=>exact HN5.out
                  case measure=>have:=HY1.out;simp [intOf];omega
                |false=>
                 rw[ht] at d4
                 by_cases hxl:L<=x.l
                 . have lI:(L:Int)<=(x.l:Int):=by omega
                   have HWY:=q9 (HSPA.out x HXM.out ht L hxl);have HLK:=q9 (HLNK.out L);have HTE:=q9 (HTEV.out L)
                   have HN5:Hid (∀ W,Below wr.drew.heap.size wr.drew W->KT13 wC ln (I ((y:Int)+1)) W):=q9 fun W hb=>⟨y+1,HY1.out,by simp,HBz.trans (hb.mono HBz.size)⟩
                   have HD4:=q9 (And.intro d1 (And.intro d2 (And.intro d3 d4)));clear HBy HGy HEWy hxl;go_wp2_with fail
                   refine wp_region_held_drew (S:=(fun W=>W.cell? (I1 gl (y*5+1))=some (I (x.u:Int))/\W.cell? (I1 gl (y*5+2))=some (I (x.v:Int))/\W.cell? (I1 gl (y*5+3))=some (I (x.l:Int))/\W.cell? (I1 gl (y*5+4))=some (.bool false))) (by kernel_rfl) ?_ (fun hHeld=>?_)
                   . exact⟨d1,d2,d3,d4⟩
                   refine q9N 0 rfl ?_
                   refine q9N 1 rfl ?_
                   refine q9N 2 rfl ?_
                   refine q9N 3 rfl ?_
                   refine q9N 4 rfl ?_
                   refine q9N 5 rfl ?_
                   refine q9N 6 rfl ?_
                   refine q9N 7 rfl ?_
                   refine q9N 8 rfl ?_
                   refine q9N 9 rfl ?_
                   refine q9N 10 rfl ?_
                   refine q9N 11 rfl ?_
                   refine q9N 12 rfl ?_
                   refine wpAnyH_take (i:=13) (v:=.bool true) rfl (by kernel_rfl) (by kernel_rfl) (by kernel_rfl) (fun _ _ _ h=>h) (Or.inl ⟨by rfl,?_⟩) (by assumption) ?_
                   . (intro w hSw;(try dsimp only at hSw);go_simp)
                   try simp only[Act.put,q98]
                   refine q9N 14 rfl ?_
                   refine q9N 15 rfl ?_
                   refine q9N 16 rfl ?_
                   refine q9N 17 rfl ?_
                   refine q9N 18 rfl ?_
                   refine q9N 19 rfl ?_
                   refine q9N 20 rfl ?_
                   refine q9N 21 rfl ?_
                   refine q9N 22 rfl ?_
                   refine q9N 23 rfl ?_
                   refine q9N 24 rfl ?_
                   refine q9N 25 rfl ?_
                   refine q9N 26 rfl ?_
                   refine q9R 27 rfl fun K hK=>?_
                   go_simp
                   ((with_reducible refine(QaC (t:=true) (x:=x.u) (y:=x.v) (HGz.out.gi HGN.out) (by rw[HGN.out];exact HSN.out) HLK.out HXV.out HVN.out HTE.out ⟨fun _=>HWY.out,fun _=>rfl⟩).mono ?_);rintro e w11 ⟨rfl,b11⟩;have HN6:=q9 (HN5.out _ b11);have HS6:=q9 (And.intro (Qi b11 HD4.out.1) (And.intro (Qi b11 HD4.out.2.1) (And.intro (Qi b11 HD4.out.2.2.1) (Qi b11 HD4.out.2.2.2)))))
                   go_wp2_with fail
                   refine hK.out _ _ ?_ (fun hHeld=>?_)
                   . (try dsimp only);(first|(with_reducible assumption)|(with_reducible exact HS6.out)|(with_reducible exact⟨d1,d2,d3,d4⟩))
                   clear hK K;try simp only[Act.put,q98]
                   refine q9N 28 rfl ?_
                   refine q9N 29 rfl ?_
                   refine wpAnyH_done (by kernel_rfl) ?_ _
                   all_goals
                    go_wp2_with fail
                    go_roundw
                    case rel=>exact HN6.out
                    case measure=>have:=HY1.out;simp [intOf];omega
                 . have lI:¬ (L:Int)<=(x.l:Int):=by omega
                   have HN5:Hid (KT13 wC ln (I ((y:Int)+1)) wr.drew):=q9 ⟨y+1,HY1.out,by simp,HBz.out⟩
                   clear HBy HBz HGz HGy HEWy hxl;go_wp2_with fail
                   refine wp_region_held_drew (S:=(fun W=>W.cell? (I1 gl (y*5+1))=some (I (x.u:Int))/\W.cell? (I1 gl (y*5+2))=some (I (x.v:Int))/\W.cell? (I1 gl (y*5+3))=some (I (x.l:Int))/\W.cell? (I1 gl (y*5+4))=some (.bool false))) (by kernel_rfl) ?_ (fun hHeld=>?_)
                   . exact⟨d1,d2,d3,d4⟩
                   refine q9N 0 rfl ?_
                   refine q9N 1 rfl ?_
                   refine q9N 2 rfl ?_
                   refine q9N 3 rfl ?_
                   refine q9N 4 rfl ?_
                   refine q9N 5 rfl ?_
                   refine q9N 6 rfl ?_
                   refine q9N 7 rfl ?_
                   refine q9N 8 rfl ?_
                   refine q9N 9 rfl ?_
                   refine q9N 10 rfl ?_
                   refine q9N 11 rfl ?_
                   refine q9N 12 rfl ?_
                   refine wpAnyH_take (i:=13) (v:=.bool false) rfl (by kernel_rfl) (by kernel_rfl) (by kernel_rfl) (fun _ _ _ h=>h) (Or.inl ⟨by rfl,?_⟩) (by assumption) ?_
                   . (intro w hSw;(try dsimp only at hSw);go_simp;omega)
                   try simp only[Act.put,q98]
                   refine q9N 14 rfl ?_
                   refine q9N 15 rfl ?_
                   refine q9F 16 rfl ?_
                   refine q9F 17 rfl ?_
                   refine q9F 18 rfl ?_
                   refine q9F 19 rfl ?_
                   refine q9F 20 rfl ?_
                   refine q9F 21 rfl ?_
                   refine q9F 22 rfl ?_
                   refine q9F 23 rfl ?_
                   refine q9F 24 rfl ?_
                   refine q9F 25 rfl ?_
                   refine q9F 26 rfl ?_
                   refine q9F 27 rfl ?_
                   refine q9F 28 rfl ?_
                   refine q9N 29 rfl ?_
                   refine wpAnyH_done (by kernel_rfl) ?_ _
                   all_goals
                    go_wp2_with fail
                    go_roundw
                    case rel=>exact HN5.out
                    case measure=>have:=HY1.out;simp [intOf];omega
              . as_aux_lemma=>
                have ey:ln=y:=by omega
                subst ey
                have yN:¬ (ln:Int)<(ln:Int):=by omega
                have HN5:Hid (KV14 w5 nl b.V (I z2) (I ((L:Int)+1)) wr):=q9 ⟨L+1,z2,HLn.out,by simp,rfl,HZ2.out,HBr.trans (HBy.mono HBr.size)⟩
                clear HBy;go_wp2_with fail
                go_roundw
                case rel=>exact HN5.out
                case measure=>have:=HLn.out;simp [intOf];omega
        . as_aux_lemma=>
          have eL:nl=L:=by omega
          subst eL
          have LN:¬ (nl:Int)<(nl:Int):=by omega
          clear HX6 HBk6 HEW6 HM6 HB6;go_wp2_with fail
          go_ret;exact⟨rfl,HW6⟩
end
end Go.Proofs.YtfpnjpbpfgjakaaGreat
