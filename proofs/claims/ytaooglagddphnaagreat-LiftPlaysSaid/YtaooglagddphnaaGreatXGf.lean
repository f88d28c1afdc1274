/- Gf -/
import Derived.Test.YtaooglagddphnaaGreatXGra
import Derived.Test.YtaooglagddphnaaGreatXGb
import Derived.Test.YtaooglagddphnaaGreatXW
namespace Go.Proofs.YtaooglagddphnaaGreat
open Go.RowKit
set_option maxRecDepth 100000
def Mb (ts:List Tp)(t:Tp):Prop:=t=.nil\/t∈ts
section
variable {V S T:Int}{i k x:Nat}{g:Mg9}{mk:Nat->Nat}{ts ts' L R:List Tp}{t s u z ta tb:Tp}{a b:List Nat}
theorem FI.uniq (hF:FI V S g mk ts)(ht:t∈ts)(hs:s∈ts)(hx:x∈t.row)(hy:x∈s.row):t=s:=by
 obtain⟨i,hi⟩:=List.mem_iff_getElem?.1 ht;obtain⟨k,hk⟩:=List.mem_iff_getElem?.1 hs
 by_cases hik:i=k
 . subst hik;rw[hi] at hk;injection hk
 . exfalso
   have:=(hF.perm (hF.pair hik hi hk)).nd;rw[List.flatMap_append,List.nodup_append,QgP,List.nodup_append] at this;exact this.1.2.2 x hx x hy rfl
theorem FI.root_in (hF:FI V S g mk ts)(ht:t∈ts):t.root∈t.row/\t.root≠0:=by
 have h1:t.root∈t.row:=by
  cases t with
  |nil=>exact absurd rfl (hF.st _ ht).2.2
  |node l x r=>simp [Tp.root,Tp.row]
 exact⟨h1,(hF.nodes ht _ h1).1⟩
theorem FI.root_eq (hF:FI V S g mk ts)(ht:t∈ts)(hs:s∈ts)(h:t.root=s.root):t=s:=hF.uniq ht hs (hF.root_in ht).1 (h ▸ (hF.root_in hs).1)
theorem FI.row_ne (hF:FI V S g mk ts)(ht:t∈ts):t.row≠[]:=fun e=>(hF.st _ ht).2.2 (Tp.row_eq_nil e)
theorem Qh8 (h:t.row=[x]):t=sgl x:=by
 cases t with
 |nil=>simp [Tp.row] at h
 |node l y r=>
  rw[Tp.row_node] at h
  cases hl:l.row with
  |nil=>
   rw[hl] at h;simp only[List.nil_append,List.cons.injEq] at h;rw[Tp.row_eq_nil hl,Tp.row_eq_nil h.2,h.1];rfl
  |cons z zs=>rw[hl] at h;simp at h
theorem FI.not (hF:FI V S g mk ts)(hz:z∈ts)(ht:t∈ts)(hne:z≠t)(hx:x∈t.row)(h:x∈u.row):z≠u:=fun e=>hne (hF.uniq hz ht (e ▸ h) hx)
theorem FI.sub (hF:FI V S g mk ts)(hz:z∈ts)(ht:t∈ts)(hne:z≠t)(hs:∀ y∈u.row,y∈t.row):z≠u:=fun e=>by
 obtain⟨y,hy⟩:=List.exists_mem_of_ne_nil _ (hF.row_ne hz);exact hne (hF.uniq hz ht hy (hs y (e ▸ hy)))
theorem Mb.inn (h:t∈ts):Mb ts t:=.inr h
theorem Mb.of (h:Mb ts t)(hne:t.row≠[]):t∈ts:=h.resolve_left fun e=>hne (by rw[e];rfl)
theorem Mb.keep (h:Mb ts t)(hk:∀ s∈ts,s≠u->s∈ts')(hne:t≠u):Mb ts' t:=h.imp id fun h=>hk t h hne
theorem Qa0 (h:x∈t.row)(h2:x∉s.row):s≠t:=fun e=>h2 (e ▸ h)
theorem root_dec (hF:FI V S g mk ts)(ht:t∈ts)(hs:s∈ts)(hne:t≠s):decide (t.root=s.root)=false:=decide_eq_false fun e=>hne (hF.root_eq ht hs e)
end
def vxI (V:Int)(L u:Nat):Nat:=((L:Int)*V+u+1).toNat
def arI (V:Int)(L s d:Nat):Nat:=(vn V+(s:Int)*sn V+2*L+d+1).toNat
def Xn (V:Int)(L u:Nat):Nat:=if (u:Int)<V then vxI V L u else 1000+2*u
def An (V S:Int)(L s d:Nat):Nat:=if (s:Int)<S/\d<2 then arI V L s d else 1001+2*s
section
variable {V S T:Int}{L L' u v s s' d d' x:Nat}
theorem QdE (h:Rt V S T)(hL:(L:Int)<lv V):0<=(L:Int)*V/\(L:Int)*V+V<=vn V:=by
 have h1:=h.v1
 have e:((L:Int)+1)*V<=lv V*V:=Int.mul_le_mul_of_nonneg_right (by omega) (by omega)
 rw[Int.add_mul] at e
 refine⟨Int.mul_nonneg (by omega) (by omega),?_⟩
 unfold vn;omega
theorem QeA (h:Rt V S T)(hs:(s:Int)<S):0<=(s:Int)*sn V/\(s:Int)*sn V+sn V<=S*sn V:=by
 have z:=sizes h;have h1:=z.sn1
 have e:((s:Int)+1)*sn V<=S*sn V:=Int.mul_le_mul_of_nonneg_right (by omega) (by omega)
 rw[Int.add_mul] at e
 exact⟨Int.mul_nonneg (by omega) (by omega),by omega⟩
theorem QaV (h:Rt V S T)(hL:(L:Int)<lv V)(_hu:(u:Int)<V):((vxI V L u:Nat):Int)=(L:Int)*V+u+1:=by
 have:=QdE h hL;unfold vxI;omega
theorem QeZ (h:Rt V S T)(_hL:(L:Int)<lv V)(hs:(s:Int)<S)(_hd:d<2):((arI V L s d:Nat):Int)=vn V+(s:Int)*sn V+2*L+d+1:=by
 have:=QeA h hs;have z:=(sizes h).vn1;unfold arI;omega
theorem QaG (h:Rt V S T)(hL:(L:Int)<lv V)(hu:(u:Int)<V):1<=vxI V L u/\vxI V L u<=nN V S/\arcN V (vxI V L u)=false/\lvN V (vxI V L u)=(L:Int)/\(((vxI V L u:Nat):Int)-1) % V=u:=by
 have h1:=QaV h hL hu;have h2:=QdE h hL;have h3:=Q0 h;have z:=sizes h;have h4:=z.ss1;have h5:=h.v1;have e:nd V S=vn V+S*sn V:=rfl
 have h6:¬ vn V<=((vxI V L u:Nat):Int)-1:=by omega
 refine⟨by omega,by omega,?_,?_,?_⟩
 . unfold arcN;exact decide_eq_false h6
 . unfold lvN
   rw[if_neg h6,h1,show (L:Int)*V+u+1-1=u+L*V by omega,Int.add_mul_ediv_right _ _ (by omega),Int.ediv_eq_zero_of_lt (by omega) hu,Int.zero_add]
 . rw[h1,show (L:Int)*V+u+1-1=u+L*V by omega,Int.add_mul_emod_self_right,Int.emod_eq_of_lt (by omega) hu]
theorem Qa4 (h:Rt V S T)(hL:(L:Int)<lv V)(hs:(s:Int)<S)(hd:d<2):1<=arI V L s d/\arI V L s d<=nN V S/\arcN V (arI V L s d)=true/\lvN V (arI V L s d)=(L:Int)/\(((arI V L s d:Nat):Int)-1-vn V) / sn V=s/\(((arI V L s d:Nat):Int)-1-vn V) % 2=d:=by
 have h1:=QeZ h hL hs hd;have h2:=QeA h hs;have h3:=Q0 h;have z:=sizes h;have h4:=z.vn1;have h5:=z.sn1;have e:nd V S=vn V+S*sn V:=rfl;have es:sn V=lv V*2:=rfl
 have h6:vn V<=((arI V L s d:Nat):Int)-1:=by omega
 have e2:((arI V L s d:Nat):Int)-1-vn V=(2*L+d:Int)+s*sn V:=by omega
 refine⟨by omega,by omega,?_,?_,?_,?_⟩
 . unfold arcN;exact decide_eq_true h6
 . unfold lvN
   rw[if_pos h6,e2,Int.add_mul_emod_self_right,Int.emod_eq_of_lt (by omega) (by omega)];omega
 . rw[e2,Int.add_mul_ediv_right _ _ (by omega),Int.ediv_eq_zero_of_lt (by omega) (by omega),Int.zero_add]
 . rw[e2,show (2*(L:Int)+d+s*sn V)=d+(L+s*lv V)*2 by rw[es,Int.add_mul,Int.mul_assoc];omega,Int.add_mul_emod_self_right];omega
theorem QbP (hu:(u:Int)<V):Xn V L u=vxI V L u:=if_pos hu
theorem QcI (hs:(s:Int)<S)(hd:d<2):An V S L s d=arI V L s d:=if_pos ⟨hs,hd⟩
theorem Qcc (h:Rt V S T)(hx:Xn V L u<=nN V S):(u:Int)<V:=by
 have:=Ql h;unfold Xn at hx
 split at hx
 . assumption
 . omega
theorem Qd0 (h:Rt V S T)(hx:An V S L s d<=nN V S):(s:Int)<S/\d<2:=by
 have:=Ql h;unfold An at hx
 split at hx
 . assumption
 . omega
theorem Qeu (h:Rt V S T)(hL:(L:Int)<lv V):∀ u v,Xn V L u=Xn V L v->u=v:=by
 intro u v e;have hn:=Ql h;unfold Xn at e
 split at e<;>split at e
 . rename_i h1 h2
   have a1:=QaV h hL h1;have a2:=QaV h hL h2;rw[e] at a1;omega
 . rename_i h1 h2
   have:=QaG h hL h1;omega
 . rename_i h1 h2
   have:=QaG h hL h2;omega
 . omega
theorem Qd8 (h:Rt V S T)(hL:(L:Int)<lv V):∀ s i u,An V S L s i≠Xn V L u:=by
 intro s i u e;have hn:=Ql h;unfold Xn An at e
 split at e<;>split at e
 . rename_i h1 h2
   have a1:=(QaG h hL h2).2.2.1;have a2:=(Qa4 h hL h1.1 h1.2).2.2.1;rw[e,a1] at a2;cases a2
 . rename_i h1 h2
   have:=Qa4 h hL h1.1 h1.2;omega
 . rename_i h1 h2
   have:=QaG h hL h2;omega
 . omega
theorem Qd1 (h:Rt V S T)(hL:(L:Int)<lv V)(h1:(s:Int)<S)(h2:d<2)(h3:(s':Int)<S)(h4:d'<2)(e:An V S L s d=An V S L s' d'):s=s'/\d=d':=by
 rw[QcI h1 h2,QcI h3 h4] at e;have a:=(Qa4 h hL h1 h2).2.2.2.2;have b:=(Qa4 h hL h3 h4).2.2.2.2;rw[e] at a;omega
theorem QhQ (h:Rt V S T)(hL:(L:Int)<lv V)(hu:(u:Int)<V){LI uI:Int}(hLI:LI=(L:Int))(huI:uI=(u:Int))(w:World):
 Calls Tryz.prog 67 #[vL V S T,I LI,I uI] w fun e w'=>e=.returned (I (Xn V L u:Int))/\Below w.heap.size w w':=by
 subst hLI huI;refine(QaY V S T L u h w).mono ?_;rintro e w' ⟨rfl,hb⟩;refine⟨?_,hb⟩
 have h1:¬ ((L:Int)<0\/lv V<=(L:Int)\/(u:Int)<0\/V<=(u:Int)):=by omega
 unfold QcO pl;rw[if_neg h1,QbP hu,QaV h hL hu]
theorem Qjl (h:Rt V S T)(hL:(L:Int)<lv V)(hs:(s:Int)<S)(hd:d<2){LI sI dI:Int}(hLI:LI=(L:Int))(hsI:sI=(s:Int))(hdI:dI=(d:Int))(w:World):
 Calls Tryz.prog 66 #[vL V S T,I sI,I LI,I dI] w fun e w'=>e=.returned (I (An V S L s d:Int))/\Below w.heap.size w w':=by
 subst hLI hsI hdI;refine(Qmp V S T s L d h w).mono ?_;rintro e w' ⟨rfl,hb⟩;refine⟨?_,hb⟩;have z:=sizes h;have h5:=z.sn1;have es:sn V=lv V*2:=rfl;have h2:=QeA h hs
 have h1:¬ ((L:Int)<0\/lv V<=(L:Int)\/(d:Int)<0\/(2:Int)<=(d:Int)):=by omega
 have e1:pl L (lv V) d 2=(L:Int)*2+d:=if_neg h1
 have h3:¬ ((s:Int)<0\/S<=(s:Int)\/(L:Int)*2+d<0\/sn V<=(L:Int)*2+d):=by omega
 have e2:pl s S ((L:Int)*2+d) (sn V)=(s:Int)*sn V+((L:Int)*2+d):=if_neg h3;unfold arcF
 rw[e1,e2,if_neg (by omega),QcI hs hd,QeZ h hL hs hd]
 congr 1;congr 1;omega
theorem QdU (h:Rt V S T)(hL:(L:Int)<lv V)(hs:(s:Int)<S)(w:World):
 Calls Tryz.prog 66 #[vL V S T,I (s:Int),I (L:Int),I 0] w fun e w'=>e=.returned (I (An V S L s 0:Int))/\Below w.heap.size w w':=Qjl h hL hs (by decide) rfl rfl rfl w
theorem QeY (h:Rt V S T)(hL:(L:Int)<lv V)(hs:(s:Int)<S)(w:World):
 Calls Tryz.prog 66 #[vL V S T,I (s:Int),I (L:Int),I 1] w fun e w'=>e=.returned (I (An V S L s 1:Int))/\Below w.heap.size w w':=Qjl h hL hs (by decide) rfl rfl rfl w
theorem QbU (h:Rt V S T)(hL:(L:Int)<lv V)(hu:(u:Int)<V)(w:World):
 Calls Tryz.prog 67 #[vL V S T,I (L:Int),I (u:Int)] w fun e w'=>e=.returned (I (Xn V L u:Int))/\Below w.heap.size w w':=QhQ h hL hu rfl rfl w
end
section
variable {V S T:Int}{k x y:Nat}{g:Mg9}{mk:Nat->Nat}{ts ts':List Tp}{t s u z ta tb:Tp}
theorem QfR {a c:List Nat}(R:t.row=a++x :: c)(R1:u.row=x :: (c++a))(hy:y∈u.row):y∈t.row:=by
 rw[R1] at hy;rw[R]
 rcases List.mem_cons.1 hy with h|h
 . simp [h]
 . rcases List.mem_append.1 h with h|h
   . simp [h]
   . simp [h]
theorem FI.begun_ne {a c:List Nat}(hF:FI V S g mk ts)(hz:z∈ts)(ht:t∈ts)(hne:z≠t)(R:t.row=a++x :: c)(R1:u.row=x :: (c++a)):z≠u:=hF.sub hz ht hne fun _ hy=>QfR R R1 hy
structure Four (ts:List Tp)(t s c0 c1:Tp)(x y e0 e1:Nat)(a1 a2 b1 b2:List Nat):Prop where
 ht:t∈ts
 hs:s∈ts
 h0:c0∈ts
 h1:c1∈ts
 st:s≠t
 t0:c0≠t
 t1:c1≠t
 s0:c0≠s
 s1:c1≠s
 d1:c1≠c0
 rt:t.row=a1++x :: a2
 rs:s.row=b1++y :: b2
 r0:c0.row=[e0]
 r1:c1.row=[e1]
section
variable {c0 c1 t1 t2 s1 t4:Tp}{e0 e1:Nat}{a1 a2 b1 b2:List Nat}{ts1 ts2 ts3 ts4:List Tp}
theorem Four.xt (h:Four ts t s c0 c1 x y e0 e1 a1 a2 b1 b2):x∈t.row:=by rw[h.rt];simp
theorem Four.ys (h:Four ts t s c0 c1 x y e0 e1 a1 a2 b1 b2):y∈s.row:=by rw[h.rs];simp
theorem Four.q0 (h:Four ts t s c0 c1 x y e0 e1 a1 a2 b1 b2):(e0:Int)=(c0.root:Int):=by rw[Qh8 h.r0];rfl
theorem Four.q1 (h:Four ts t s c0 c1 x y e0 e1 a1 a2 b1 b2):(e1:Int)=(c1.root:Int):=by rw[Qh8 h.r1];rfl
theorem Four.not_t (h:Four ts t s c0 c1 x y e0 e1 a1 a2 b1 b2)(hF:FI V S g mk ts)(hz:z∈ts)(hne:z≠t)(hx:x∈u.row):z≠u:=hF.not hz h.ht hne h.xt hx
theorem Four.t2x (R1:t1.row=x :: (a2++a1))(R2:t2.row=t1.row++c0.row):x∈t2.row:=by rw[R2,R1];simp
theorem Four.t4x (R1:t1.row=x :: (a2++a1))(R2:t2.row=t1.row++c0.row)(R4:t4.row=t2.row++s1.row):x∈t4.row:=by rw[R4,R2,R1];simp
theorem Four.t2s (h:Four ts t s c0 c1 x y e0 e1 a1 a2 b1 b2)(hF:FI V S g mk ts)(R1:t1.row=x :: (a2++a1))(R2:t2.row=t1.row++c0.row)(R3:s1.row=y :: (b2++b1)):t2≠s1:=fun e=>h.st (hF.uniq h.hs h.ht (QfR h.rs R3 (e ▸ Four.t2x R1 R2)) h.xt)
end
end
section
variable {V S T:Int}{k x y:Nat}{g:Mg9}{mk:Nat->Nat}{ts ts':List Tp}{t s u z ta tb:Tp}
structure Qj (t:Tp)(c d:Nat)(pp qq rr:List Nat):Prop where
 row:t.row=pp++c :: (qq++d :: rr)
 nd:t.row.Nodup
 q0:qq≠[]
 o0:pp++rr≠[]
section
variable {c d:Nat}{pp qq rr:List Nat}{u1 u2 u3 ah be inn ct dt:Tp}
theorem Qj.no (h:Qj t c d pp qq rr):c∉pp/\c∉qq/\c≠d/\c∉rr/\d∉pp/\d∉qq/\d∉rr/\(∀ z∈pp,z∉qq)/\(∀ z∈pp,z∉rr)/\∀ z∈qq,z∉rr:=by
 have:=h.nd;rw[h.row] at this;simp only[List.nodup_append,List.nodup_cons,List.mem_append,List.mem_cons,not_or] at this;obtain⟨np,⟨⟨cq,cd,cr⟩,nq,⟨dr,nr⟩,qdr⟩,pall⟩:=this
 refine⟨fun hc=>pall c hc c (.inl rfl) rfl,cq,cd,cr,fun hd=>pall d hd d (.inr (.inr (.inl rfl))) rfl,fun hd=>qdr d hd d (.inl rfl) rfl,dr,fun z hz hq=>pall z hz z (.inr (.inl hq)) rfl,fun z hz hr=>pall z hz z (.inr (.inr (.inr hr))) rfl,fun z hz hr=>qdr z hz z (.inr hr) rfl⟩
theorem Qj.c_in (h:Qj t c d pp qq rr):c∈t.row:=by rw[h.row];simp
theorem Qj.d_in (h:Qj t c d pp qq rr):d∈t.row:=by rw[h.row];simp
theorem Qj.inn_ne (h:Qj t c d pp qq rr)(hi:inn.row=qq)(hs:s.row=pp\/s.row=rr):inn≠s:=fun e=>by
 obtain⟨y,hy⟩:=List.exists_mem_of_ne_nil _ h.q0
 have h1:y∈s.row:=by rw[<-e,hi];exact hy
 rcases hs with hs|hs<;>rw[hs] at h1
 . exact h.no.2.2.2.2.2.2.2.1 y h1 hy
 . exact h.no.2.2.2.2.2.2.2.2.2 y hy h1
theorem Qj.ah_be (h:Qj t c d pp qq rr)(ha:ah.row=pp)(hb:be.row=rr):ah≠be:=fun e=>by
 have e2:pp=rr:=by rw[<-ha,<-hb,e]
 obtain⟨y,hy⟩:=List.exists_mem_of_ne_nil _ h.o0
 have h1:y∈pp:=by rcases List.mem_append.1 hy with h|h;exact h;rw[e2];exact h
 exact h.no.2.2.2.2.2.2.2.2.1 y h1 (e2 ▸ h1)
theorem Qj.sub (h:Qj t c d pp qq rr)(hs:∀ y∈u.row,y∈pp\/y=c\/y∈qq\/y=d\/y∈rr)(hF:FI V S g mk ts)(hz:z∈ts)(ht:t∈ts)(hne:z≠t):z≠u:=hF.sub hz ht hne fun y hy=>by
 rw[h.row]
 rcases hs y hy with h|h|h|h|h<;>simp [h]
theorem Qj.cut1 (h:Qj t c d pp qq rr):t.row=(pp++c :: (qq++[d]))++rr:=by rw[h.row];simp
theorem Qj.cut2 (_h:Qj t c d pp qq rr)(hu:u1.row=pp++c :: (qq++[d])):u1.row=(pp++c :: qq)++[d]:=by rw[hu];simp
theorem Qj.cut3 (_h:Qj t c d pp qq rr)(hu:u2.row=pp++c :: qq):u2.row=(pp++[c])++qq:=by rw[hu];simp
theorem Qj.ne1 (_h:Qj t c d pp qq rr)(hu:u1.row=pp++c :: (qq++[d])):u1.row≠[]:=by rw[hu];simp
theorem Qj.ne2 (_h:Qj t c d pp qq rr)(hu:u2.row=pp++c :: qq):u2.row≠[]:=by rw[hu];simp
theorem Qj.ne3 (_h:Qj t c d pp qq rr)(hu:u3.row=pp++[c]):u3.row≠[]:=by rw[hu];simp
theorem Qj.dt_ne (h:Qj t c d pp qq rr)(hd:dt.row=[d])(hu:u2.row=pp++c :: qq):dt≠u2:=Qa0 (x:=c) (by rw[hu];simp) (by rw[hd];simp [h.no.2.2.1])
theorem Qj.dt_ne3 (h:Qj t c d pp qq rr)(hd:dt.row=[d])(hu:u3.row=pp++[c]):dt≠u3:=Qa0 (x:=c) (by rw[hu];simp) (by rw[hd];simp [h.no.2.2.1])
theorem Qj.in_ne (h:Qj t c d pp qq rr)(hd:inn.row=qq)(hu:u3.row=pp++[c]):inn≠u3:=Qa0 (x:=c) (by rw[hu];simp) (by rw[hd];exact h.no.2.1)
theorem Qj.be_ne1 (h:Qj t c d pp qq rr)(hd:be.row=rr)(hu:u1.row=pp++c :: (qq++[d])):be≠u1:=Qa0 (x:=c) (by rw[hu];simp) (by rw[hd];exact h.no.2.2.2.1)
theorem Qj.be_ne2 (h:Qj t c d pp qq rr)(hd:be.row=rr)(hu:u2.row=pp++c :: qq):be≠u2:=Qa0 (x:=c) (by rw[hu];simp) (by rw[hd];exact h.no.2.2.2.1)
theorem Qj.be_ne3 (h:Qj t c d pp qq rr)(hd:be.row=rr)(hu:u3.row=pp++[c]):be≠u3:=Qa0 (x:=c) (by rw[hu];simp) (by rw[hd];exact h.no.2.2.2.1)
theorem Qj.ct_ne (h:Qj t c d pp qq rr)(hd:ct.row=[c])(hs:s.row=pp\/s.row=rr):ct≠s:=fun e=>by
 have h1:c∈s.row:=by rw[<-e,hd];simp
 rcases hs with hs|hs<;>rw[hs] at h1
 . exact h.no.1 h1
 . exact h.no.2.2.2.1 h1
theorem Qj.dt_no (h:Qj t c d pp qq rr)(hd:dt.row=[d])(hs:s.row=pp\/s.row=rr):dt≠s:=fun e=>by
 have h1:d∈s.row:=by rw[<-e,hd];simp
 rcases hs with hs|hs<;>rw[hs] at h1
 . exact h.no.2.2.2.2.1 h1
 . exact h.no.2.2.2.2.2.2.1 h1
theorem Qj.sub1 (h:Qj t c d pp qq rr)(hu:u.row=pp++c :: (qq++[d]))(hF:FI V S g mk ts)(hz:z∈ts)(ht:t∈ts)(hne:z≠t):z≠u:=h.sub (fun y hy=>by rw[hu] at hy;simp at hy;rcases hy with h|h|h|h<;>simp [h]) hF hz ht hne
theorem Qj.sub2 (h:Qj t c d pp qq rr)(hu:u.row=pp++c :: qq)(hF:FI V S g mk ts)(hz:z∈ts)(ht:t∈ts)(hne:z≠t):z≠u:=h.sub (fun y hy=>by rw[hu] at hy;simp at hy;rcases hy with h|h|h<;>simp [h]) hF hz ht hne
theorem Qj.sub3 (h:Qj t c d pp qq rr)(hu:u.row=pp++[c])(hF:FI V S g mk ts)(hz:z∈ts)(ht:t∈ts)(hne:z≠t):z≠u:=h.sub (fun y hy=>by rw[hu] at hy;simp at hy;rcases hy with h|h<;>simp [h]) hF hz ht hne
theorem Qj.sub4 (h:Qj t c d pp qq rr)(hu:u.row=pp)(hF:FI V S g mk ts)(hz:z∈ts)(ht:t∈ts)(hne:z≠t):z≠u:=h.sub (fun y hy=>by rw[hu] at hy;exact .inl hy) hF hz ht hne
theorem Qj.sub5 (h:Qj t c d pp qq rr)(hu:u.row=rr)(hF:FI V S g mk ts)(hz:z∈ts)(ht:t∈ts)(hne:z≠t):z≠u:=h.sub (fun y hy=>by rw[hu] at hy;exact .inr (.inr (.inr (.inr hy)))) hF hz ht hne
end
end
structure Lv (V S:Int)(L:Nat)(ts:List Tp)(rows:List (List Nat))(gr:List (Option (Nat × Nat))):Prop where
 tour:∃ P:List (List Nat × List (Nat × Nat × Nat)),(P.map Prod.fst).Perm rows/\(∀ p∈P,Tour (Xn V L) (An V S L) p.1 p.2)/\Lnk gr (P.flatMap Prod.snd)
 has:∀ r∈rows,∃ t∈ts,t.row=r
 nd:rows.flatten.Nodup
 cov:∀ u:Nat,(u:Int)<V->∃ r∈rows,Xn V L u∈r
 loose:∀ s:Nat,(s:Int)<S->gr[s]?=some none->∀ d,d<2->∃ t∈ts,t.row=[An V S L s d]
 len:gr.length=S.toNat
section
variable {V S T:Int}{L L' s u v i j k x y:Nat}{ts ts':List Tp}{rows rows' R:List (List Nat)}{gr gr':List (Option (Nat × Nat))}{r r':List Nat}{g g':Mg9}{mk mk':Nat->Nat}{t z:Tp}
theorem Qdi (h:rows.flatten.Nodup)(hi:rows[i]?=some r)(hj:rows[j]?=some r')(h1:x∈r)(h2:x∈r'):i=j:=by
 by_cases e:i=j
 . exact e
 . exfalso
   have hp:=(Qcf e (Nat.zero_le _) (Nat.zero_le _) hi hj).flatten.nodup_iff.1 h;rw[List.flatten_cons,List.flatten_cons,List.nodup_append] at hp;exact hp.2.2 x h1 x (List.mem_append_left _ h2) rfl
theorem pick {α β:Type}{f:α->β}{P:List α}{x:β}{R:List β}(h:(P.map f).Perm (x :: R)):∃ p P',f p=x/\P.Perm (p :: P')/\(P'.map f).Perm R:=by
 obtain⟨p,hp,e⟩:=List.mem_map.1 (h.mem_iff.2 (List.mem_cons_self ..));obtain⟨a,b,rfl⟩:=List.append_of_mem hp;refine⟨p,a++b,e,List.perm_middle,?_⟩
 have h2:(List.map f (a++p :: b)).Perm (x :: List.map f (a++b)):=by
  rw[<-e,<-List.map_cons];exact List.perm_middle.map f
 exact(List.perm_cons x).1 (h2.symm.trans h)
theorem Lnk.perm {E F:List (Nat × Nat × Nat)}(h:Lnk gr E)(hp:∀ e,e∈E↔e∈F):Lnk gr F:=fun s a b=>(hp _).symm.trans (h s a b)
theorem Lv.perm (h:Lv V S L ts rows gr)(hp:rows.Perm rows'):Lv V S L ts rows' gr:=by
 obtain⟨P,a,b,c⟩:=h.tour
 exact⟨⟨P,a.trans hp,b,c⟩,fun r hr=>h.has r (hp.mem_iff.2 hr),hp.flatten.nodup_iff.1 h.nd,fun u hu=>by obtain⟨r,hr,e⟩:=h.cov u hu;exact⟨r,hp.mem_iff.1 hr,e⟩,h.loose,h.len⟩
theorem Lv.edges (h:Lv V S L ts rows gr)(hr:r∈rows):∃ E,Tour (Xn V L) (An V S L) r E/\∀ s a b,(s,a,b)∈E->gr[s]?=some (some (a,b)):=by
 obtain⟨P,hp,ht,hk⟩:=h.tour;obtain⟨p,hp1,rfl⟩:=List.mem_map.1 (hp.mem_iff.2 hr)
 exact⟨p.2,ht p hp1,fun s a b hm=>(hk s a b).1 (List.mem_flatMap.2 ⟨p,hp1,hm⟩)⟩
theorem Lv.edge (h:Lv V S L ts rows gr)(hs:gr[s]?=some (some (u,v))):∃ r E,r∈rows/\Tour (Xn V L) (An V S L) r E/\(s,u,v)∈E:=by
 obtain⟨P,hp,ht,hk⟩:=h.tour;obtain⟨p,hp1,hm⟩:=List.mem_flatMap.1 ((hk s u v).2 hs);exact⟨p.1,p.2,hp.mem_iff.1 (List.mem_map_of_mem hp1),ht p hp1,hm⟩
theorem Lv.node_le (h:Lv V S L ts rows gr)(hF:FI V S g mk ts)(hr:r∈rows)(hy:y∈r):y≠0/\y<=nN V S:=by
 obtain⟨t,ht,e⟩:=h.has r hr
 exact hF.nodes ht y (by rw[e];exact hy)
theorem Lv.lvl (h:Lv V S L ts rows gr)(hR:Rt V S T)(hL:(L:Int)<lv V)(hF:FI V S g mk ts)(hr:r∈rows)(hy:y∈r):lvN V y=(L:Int):=by
 have hle:=(h.node_le hF hr hy).2;obtain⟨E,hT,hE⟩:=h.edges hr
 rcases hT.node hy with ⟨u,rfl⟩|⟨s,a,b,_,e⟩
 . have hu:=Qcc hR hle
   rw[QbP hu];exact(QaG hR hL hu).2.2.2.1
 . rcases e with rfl|rfl
   . have hs:=Qd0 hR hle
     rw[QcI hs.1 hs.2];exact(Qa4 hR hL hs.1 hs.2).2.2.2.1
   . have hs:=Qd0 hR hle
     rw[QcI hs.1 hs.2];exact(Qa4 hR hL hs.1 hs.2).2.2.2.1
theorem Lv.vert (h:Lv V S L ts rows gr)(hR:Rt V S T)(hF:FI V S g mk ts)(hr:r∈rows):∃ u:Nat,(u:Int)<V/\Xn V L u∈r:=by
 obtain⟨E,hT,_⟩:=h.edges hr;obtain⟨u,hu⟩:=hT.has;exact⟨u,Qcc hR (h.node_le hF hr hu).2,hu⟩
theorem Lv.no_arc (h:Lv V S L ts rows gr)(hR:Rt V S T)(hL:(L:Int)<lv V)(hF:FI V S g mk ts)(hs:(s:Int)<S)(hg:gr[s]?=some none){d:Nat}(hd:d<2)(hr:r∈rows):An V S L s d∉r:=fun hm=>by
 obtain⟨t,ht,e⟩:=h.has r hr;obtain⟨c,hc,e2⟩:=h.loose s hs hg d hd
 have:=hF.uniq (x:=An V S L s d) ht hc (by rw[e];exact hm) (by rw[e2];simp)
 subst this;obtain⟨u,_,hx⟩:=h.vert hR hF hr;rw[<-e,e2] at hx;exact Qd8 hR hL s d u (List.mem_singleton.1 hx).symm
theorem Lv.ends (h:Lv V S L ts rows gr)(hR:Rt V S T)(hF:FI V S g mk ts)(hs:gr[s]?=some (some (u,v))):(u:Int)<V/\(v:Int)<V/\(s:Int)<S:=by
 obtain⟨r,E,hr,hT,hm⟩:=h.edge hs;obtain⟨a,b,c,d⟩:=hT.mem hm;exact⟨Qcc hR (h.node_le hF hr c).2,Qcc hR (h.node_le hF hr d).2,(Qd0 hR (h.node_le hF hr a).2).1⟩
theorem Lv.other (h:Lv V S L ts rows gr)(hR:Rt V S T)(hL:(L:Int)<lv V)(hF:FI V S g mk ts)(hk:∀ z∈ts,(∃ y∈z.row,lvN V y=(L:Int))->z∈ts'):Lv V S L ts' rows gr:=by
 refine⟨h.tour,fun r hr=>?_,h.nd,h.cov,fun s hs hg d hd=>?_,h.len⟩
 . obtain⟨t,ht,e⟩:=h.has r hr
   obtain⟨u,_,hu⟩:=h.vert hR hF hr
   exact⟨t,hk t ht ⟨_,by rw[e];exact hu,h.lvl hR hL hF hr hu⟩,e⟩
 . obtain⟨t,ht,e⟩:=h.loose s hs hg d hd
   refine⟨t,hk t ht ⟨An V S L s d,by rw[e];simp,?_⟩,e⟩
   rw[QcI hs hd];exact(Qa4 hR hL hs hd).2.2.2.1
theorem Qfs (hL:L≠L')(ht:∀ y∈t.row,lvN V y=(L:Int))(hz:∃ y∈z.row,lvN V y=(L':Int)):z≠t:=fun e=>by
 obtain⟨y,hy,e2⟩:=hz;have:=ht y (e ▸ hy);omega
theorem Lv.loose_ne (h:Lv V S L ts rows gr)(hR:Rt V S T)(hL:(L:Int)<lv V)(hF:FI V S g mk ts)(hr:r∈rows)(htr:t.row=r){d:Nat}(hz:z.row=[An V S L s d]):z≠t:=fun e=>by
 obtain⟨u,_,hx⟩:=h.vert hR hF hr;rw[<-htr,<-e,hz] at hx;exact Qd8 hR hL s d u (List.mem_singleton.1 hx).symm
theorem Lv.rest_ne (h:Lv V S L ts rows gr)(hR:Rt V S T)(hF:FI V S g mk ts)(hp:rows.Perm (r :: R))(hr':r'∈R)(htr:t.row=r)(hz:z.row=r'):z≠t:=fun e=>by
 have hm:r'∈rows:=hp.mem_iff.2 (List.mem_cons_of_mem _ hr');obtain⟨u,_,hx⟩:=h.vert hR hF hm;have hn:=hp.flatten.nodup_iff.1 h.nd;rw[List.flatten_cons,List.nodup_append] at hn;refine hn.2.2 _ ?_ _ (List.mem_flatten.2 ⟨r',hr',hx⟩) rfl;rw[<-htr,<-e,hz];exact hx
end
section
variable {V S T:Int}{L L' s u v i j k x y:Nat}{ts ts':List Tp}{rows rows' R:List (List Nat)}{gr gr':List (Option (Nat × Nat))}{r r':List Nat}{g g':Mg9}{mk mk':Nat->Nat}{t t2 c0 c1 z:Tp}
def Qd5 (x y e0 e1:Nat)(a1 a2 b1 b2:List Nat):List Nat:=(x :: (a2++a1))++e0 :: ((y :: (b2++b1))++[e1])
theorem Lv.link {a1 a2 b1 b2:List Nat}{t':Tp}(h:Lv V S L ts rows gr)(hR:Rt V S T)(hL:(L:Int)<lv V)(hF:FI V S g mk ts)(hp:rows.Perm ((a1++Xn V L u :: a2) :: (b1++Xn V L v :: b2) :: R))(hs:(s:Int)<S)(hg:gr[s]?=some none)
 (htr:t.row=a1++Xn V L u :: a2) (ht2:t2.row=b1++Xn V L v :: b2) (hc0:c0.row=[An V S L s 0]) (hc1:c1.row=[An V S L s 1]) (ht':t'∈ts') (hr':t'.row=Qd5 (Xn V L u) (Xn V L v) (An V S L s 0) (An V S L s 1) a1 a2 b1 b2) (hk:∀ z∈ts,z≠t->z≠t2->z≠c0->z≠c1->z∈ts'):
 Lv V S L ts' (Qd5 (Xn V L u) (Xn V L v) (An V S L s 0) (An V S L s 1) a1 a2 b1 b2 :: R) (gr.set s (some (u,v))):=by
 have hsl:=(List.getElem?_eq_some_iff.1 hg).1;have hp2:rows.Perm ((b1++Xn V L v :: b2) :: (a1++Xn V L u :: a2) :: R):=hp.trans (List.Perm.swap _ _ _);have h1:=h.perm hp
 have m1:(a1++Xn V L u :: a2)∈rows:=hp.mem_iff.2 (by simp)
 have m2:(b1++Xn V L v :: b2)∈rows:=hp.mem_iff.2 (by simp)
 have hpf:(Qd5 (Xn V L u) (Xn V L v) (An V S L s 0) (An V S L s 1) a1 a2 b1 b2 :: R).flatten.Perm (An V S L s 0 :: An V S L s 1 :: rows.flatten):=by
  refine List.Perm.trans ?_ ((hp.flatten.symm.cons _).cons _)
  refine List.perm_iff_count.2 fun z=>?_
  simp only[Qd5,List.flatten_cons,List.count_append,List.count_cons,List.count_nil];omega
 obtain⟨P,p1,p2,p3⟩:=h.tour;obtain⟨p,P1,e1,q1,q2⟩:=pick (p1.trans hp);obtain⟨p',P2,e2,q3,q4⟩:=pick q2;have T1:=p2 p (q1.mem_iff.2 (List.mem_cons_self ..));have T2:=p2 p' (q1.mem_iff.2 (List.mem_cons_of_mem _ (q3.mem_iff.2 (List.mem_cons_self ..))));rw[e1] at T1;rw[e2] at T2
 have hm:∀ e,e∈P.flatMap Prod.snd↔e∈p.2\/e∈p'.2\/e∈P2.flatMap Prod.snd:=fun e=>by
  rw[(q1.flatMap_right Prod.snd).mem_iff,List.flatMap_cons,List.mem_append,(q3.flatMap_right Prod.snd).mem_iff,List.flatMap_cons,List.mem_append]
 have na:∀ {d:Nat},d<2->An V S L s d∉rows.flatten:=fun hd hm=>by
  obtain⟨r,hr,hx⟩:=List.mem_flatten.1 hm;exact h.no_arc hR hL hF hs hg hd hr hx
 refine⟨⟨(Qd5 (Xn V L u) (Xn V L v) (An V S L s 0) (An V S L s 1) a1 a2 b1 b2,(s,u,v) :: (p.2++p'.2)) :: P2,by simpa using q4,fun p0 hp0=>?_,fun s' a b=>?_⟩,fun r hr=>?_,hpf.nodup_iff.2 ?_,fun w hw=>?_,fun s' hs' hg' d hd=>?_,by rw[List.length_set];exact h.len⟩
 . rcases List.mem_cons.1 hp0 with rfl|hp0
   . have:=Tour.link (s:=s) T1.rot T2.rot
     exact this
   . exact p2 p0 (q1.mem_iff.2 (List.mem_cons_of_mem _ (q3.mem_iff.2 (List.mem_cons_of_mem _ hp0))))
 . have e0:(s',a,b)∈((Qd5 (Xn V L u) (Xn V L v) (An V S L s 0) (An V S L s 1) a1 a2 b1 b2,(s,u,v) :: (p.2++p'.2)) :: P2).flatMap Prod.snd↔(s',a,b)=(s,u,v)\/(s',a,b)∈P.flatMap Prod.snd:=by
    rw[hm,List.flatMap_cons,List.mem_append,List.mem_cons,List.mem_append]
    constructor
    . rintro((h|h|h)|h)
      . exact .inl h
      . exact .inr (.inl h)
      . exact .inr (.inr (.inl h))
      . exact .inr (.inr (.inr h))
    . rintro(h|h|h|h)
      . exact .inl (.inl h)
      . exact .inl (.inr (.inl h))
      . exact .inl (.inr (.inr h))
      . exact .inr h
   rw[e0,p3 s' a b]
   by_cases e:s'=s
   . subst e
     rw[List.getElem?_set_self hsl,hg];simp only[Prod.mk.injEq,true_and,Option.some.injEq,reduceCtorEq,or_false]
     constructor<;>(rintro⟨h1,h2⟩;exact⟨h1.symm,h2.symm⟩)
   . rw[List.getElem?_set_ne (Ne.symm e)]
     simp [e]
 . rcases List.mem_cons.1 hr with rfl|hr
   . exact⟨t',ht',hr'⟩
   . obtain⟨z,hz,e3⟩:=h1.has r (by simp [hr])
     have hrm:r∈rows:=hp.mem_iff.2 (by simp [hr])
     exact⟨z,hk z hz (h.rest_ne hR hF hp (by simp [hr]) htr e3) (h.rest_ne hR hF hp2 (by simp [hr]) ht2 e3) (Ne.symm (h.loose_ne hR hL hF hrm e3 hc0)) (Ne.symm (h.loose_ne hR hL hF hrm e3 hc1)),e3⟩
 . rw[List.nodup_cons,List.nodup_cons,List.mem_cons,not_or]
   exact⟨⟨fun e=>by have:=(Qd1 hR hL hs (by decide) hs (by decide) e).2;omega,na (by decide)⟩,na (by decide),h.nd⟩
 . obtain⟨r,hr,hx⟩:=h1.cov w hw
   rcases List.mem_cons.1 hr with rfl|hr
   . exact⟨_,List.mem_cons_self ..,by unfold Qd5;simp only[List.mem_append,List.mem_cons] at hx |-;rcases hx with h|h|h<;>simp [h]⟩
   . rcases List.mem_cons.1 hr with rfl|hr
     . exact⟨_,List.mem_cons_self ..,by unfold Qd5;simp only[List.mem_append,List.mem_cons] at hx |-;rcases hx with h|h|h<;>simp [h]⟩
     . exact⟨r,List.mem_cons_of_mem _ hr,hx⟩
 . have e:s'≠s:=fun e=>by subst e;rw[List.getElem?_set_self hsl] at hg';cases hg'
   rw[List.getElem?_set_ne (Ne.symm e)] at hg';obtain⟨z,hz,e2⟩:=h.loose s' hs' hg' d hd
   refine⟨z,hk z hz (h.loose_ne hR hL hF m1 htr e2) (h.loose_ne hR hL hF m2 ht2 e2) (fun e3=>?_) (fun e3=>?_),e2⟩
   . rw[e3,hc0] at e2
     exact e (Qd1 hR hL hs (by decide) hs' hd (List.cons.inj e2).1).1.symm
   . rw[e3,hc1] at e2
     exact e (Qd1 hR hL hs (by decide) hs' hd (List.cons.inj e2).1).1.symm
theorem Lv.parts (h:Lv V S L ts rows gr)(hR:Rt V S T)(hL:(L:Int)<lv V)(hF:FI V S g mk ts)(hg:gr[s]?=some (some (u,v))):∃ r∈rows,∃ c d pp qq rr,Arcs (An V S L) s c d/\r=pp++c :: (qq++d :: rr)/\r.Nodup/\qq≠[]/\pp++rr≠[]:=by
 have hs:=(h.ends hR hF hg).2.2;obtain⟨r,E,hr,hT,hm⟩:=h.edge hg;obtain⟨m0,m1,_,_⟩:=hT.mem hm
 have hn:r.Nodup:=by
  obtain⟨t,ht,e⟩:=h.has r hr;rw[<-e];exact hF.one ht
 have hne:An V S L s 0≠An V S L s 1:=fun e=>by have:=(Qd1 hR hL hs (by decide) hs (by decide) e).2;omega
 obtain⟨c,d,pp,qq,rr,ha,e⟩:∃ c d pp qq rr,Arcs (An V S L) s c d/\r=pp++c :: (qq++d :: rr):=by
  obtain⟨a,b,e⟩:=List.append_of_mem m0;rw[e] at m1
  rcases List.mem_append.1 m1 with h1|h1
  . obtain⟨a1,a2,e1⟩:=List.append_of_mem h1
    exact⟨_,_,a1,a2,b,.inr ⟨rfl,rfl⟩,by rw[e,e1];simp⟩
  . rcases List.mem_cons.1 h1 with h1|h1
    . exact absurd h1.symm hne
    . obtain⟨b1,b2,e1⟩:=List.append_of_mem h1
      exact⟨_,_,a,b1,b2,.inl ⟨rfl,rfl⟩,by rw[e,e1]⟩
 obtain⟨E1,E2,_,T1,T2,_⟩:=hT.cut (Qd8 hR hL) hn hm e ha;obtain⟨u1,h1⟩:=T1.has;obtain⟨u2,h2⟩:=T2.has;exact⟨r,hr,c,d,pp,qq,rr,ha,e,hn,List.ne_nil_of_mem h1,List.ne_nil_of_mem h2⟩
theorem Lv.cut {c d:Nat}{pp qq rr:List Nat}{ti tu ct dt:Tp}(h:Lv V S L ts rows gr)(hR:Rt V S T)(hL:(L:Int)<lv V)(hF:FI V S g mk ts)(hg:gr[s]?=some (some (u,v)))(ha:Arcs (An V S L) s c d)(hp:rows.Perm ((pp++c :: (qq++d :: rr)) :: R))
 (htr:t.row=pp++c :: (qq++d :: rr)) (hti:ti∈ts') (htu:tu∈ts') (hri:ti.row=qq) (hru:tu.row=pp++rr) (hct:ct∈ts') (hrc:ct.row=[c]) (hdt:dt∈ts') (hrd:dt.row=[d]) (hk:∀ z∈ts,z≠t->z∈ts'):
 Lv V S L ts' (qq :: (pp++rr) :: R) (gr.set s none)/\((Xn V L u∈qq/\Xn V L v∈pp++rr)\/(Xn V L v∈qq/\Xn V L u∈pp++rr)):=by
 have hsl:=(List.getElem?_eq_some_iff.1 hg).1;have hs:=(h.ends hR hF hg).2.2;have h1:=h.perm hp
 have m1:(pp++c :: (qq++d :: rr))∈rows:=hp.mem_iff.2 (by simp)
 have hpf:rows.flatten.Perm (c :: d :: (qq :: (pp++rr) :: R).flatten):=by
  refine hp.flatten.trans ?_
  refine List.perm_iff_count.2 fun z=>?_
  simp only[List.flatten_cons,List.count_append,List.count_cons];omega
 have hnd:=hpf.nodup_iff.1 h.nd;rw[List.nodup_cons,List.nodup_cons,List.mem_cons,not_or] at hnd;obtain⟨⟨hcd,hc⟩,hd,hn'⟩:=hnd
 have noarc:∀ {d':Nat},d'<2->An V S L s d'∉(qq :: (pp++rr) :: R).flatten:=fun hd' hm=>by
  rename_i d'
  have:d'=0\/d'=1:=by omega
  rcases ha with ⟨rfl,rfl⟩|⟨rfl,rfl⟩<;>rcases this with rfl|rfl
  . exact hc hm
  . exact hd hm
  . exact hd hm
  . exact hc hm
 have hrn:(pp++c :: (qq++d :: rr)).Nodup:=by
  have:=hp.flatten.nodup_iff.1 h.nd;rw[List.flatten_cons,List.nodup_append] at this;exact this.1
 obtain⟨P,p1,p2,p3⟩:=h.tour;obtain⟨p,P',e1,q1,q2⟩:=pick (p1.trans hp);have T1:=p2 p (q1.mem_iff.2 (List.mem_cons_self ..));rw[e1] at T1
 have hm:∀ e,e∈P.flatMap Prod.snd↔e∈p.2\/e∈P'.flatMap Prod.snd:=fun e=>by
  rw[(q1.flatMap_right Prod.snd).mem_iff,List.flatMap_cons,List.mem_append]
 have nP:∀ {a b:Nat},(s,a,b)∉P'.flatMap Prod.snd:=fun hm'=>by
  obtain⟨p',hp',hx⟩:=List.mem_flatMap.1 hm';have hin:=((p2 p' (q1.mem_iff.2 (List.mem_cons_of_mem _ hp'))).mem hx).1
  refine noarc (d':=0) (by decide) (List.mem_flatten.2 ⟨p'.1,?_,hin⟩)
  exact List.mem_cons_of_mem _ (List.mem_cons_of_mem _ (q2.mem_iff.1 (List.mem_map_of_mem hp')))
 have hin:(s,u,v)∈p.2:=by
  rcases(hm _).1 ((p3 s u v).2 hg) with h|h
  . exact h
  . exact absurd h nP
 obtain⟨E1,E2,pe,TI,TO,hends⟩:=T1.cut (Qd8 hR hL) hrn hin rfl ha
 refine⟨⟨⟨(qq,E1) :: (pp++rr,E2) :: P',by simpa using q2,fun p0 hp0=>?_,fun s' a b=>?_⟩,fun r hr=>?_,hn',fun w hw=>?_,fun s' hs' hg' d' hd'=>?_,by rw[List.length_set];exact h.len⟩,hends⟩
 . rcases List.mem_cons.1 hp0 with rfl|hp0
   . exact TI
   . rcases List.mem_cons.1 hp0 with rfl|hp0
     . exact TO
     . exact p2 p0 (q1.mem_iff.2 (List.mem_cons_of_mem _ hp0))
 . rw[List.flatMap_cons,List.flatMap_cons,List.mem_append,List.mem_append]
   by_cases e:s'=s
   . subst e
     rw[List.getElem?_set_self hsl]
     constructor
     . rintro(h|h|h)
       . exact absurd (List.mem_flatten.2 ⟨qq,by simp,(TI.mem h).1⟩) (noarc (by decide))
       . exact absurd (List.mem_flatten.2 ⟨pp++rr,by simp,(TO.mem h).1⟩) (noarc (by decide))
       . exact absurd h nP
     . intro h;cases h
   . rw[List.getElem?_set_ne (Ne.symm e),<-p3 s' a b,hm,pe.mem_iff,List.mem_cons,List.mem_append]
     simp [e,or_assoc]
 . rcases List.mem_cons.1 hr with rfl|hr
   . exact⟨ti,hti,hri⟩
   . rcases List.mem_cons.1 hr with rfl|hr
     . exact⟨tu,htu,hru⟩
     . obtain⟨z,hz,e3⟩:=h1.has r (by simp [hr])
       exact⟨z,hk z hz (h.rest_ne hR hF hp hr htr e3),e3⟩
 . obtain⟨r,hr,hx⟩:=h1.cov w hw
   rcases List.mem_cons.1 hr with rfl|hr
   . have nx:∀ {e:Nat},(e=c\/e=d)->Xn V L w≠e:=fun he=>by
      rcases ha with ⟨rfl,rfl⟩|⟨rfl,rfl⟩<;>rcases he with rfl|rfl<;>exact fun e=>Qd8 hR hL _ _ _ e.symm
     have n1:=nx (.inl rfl);have n2:=nx (.inr rfl);simp only[List.mem_append,List.mem_cons,n1,n2,false_or] at hx
     rcases hx with h|h|h
     . exact⟨pp++rr,by simp,by simp [h]⟩
     . exact⟨qq,by simp,h⟩
     . exact⟨pp++rr,by simp,by simp [h]⟩
   . exact⟨r,by simp [hr],hx⟩
 . by_cases e:s'=s
   . subst e
     have:d'=0\/d'=1:=by omega
     rcases ha with ⟨rfl,rfl⟩|⟨rfl,rfl⟩<;>rcases this with rfl|rfl
     . exact⟨ct,hct,hrc⟩
     . exact⟨dt,hdt,hrd⟩
     . exact⟨dt,hdt,hrd⟩
     . exact⟨ct,hct,hrc⟩
   . rw[List.getElem?_set_ne (Ne.symm e)] at hg'
     obtain⟨z,hz,e2⟩:=h.loose s' hs' hg' d' hd';exact⟨z,hk z hz (h.loose_ne hR hL hF m1 htr e2),e2⟩
end
section
variable {V S T:Int}{L s u v i j x y:Nat}{ts:List Tp}{rows:List (List Nat)}{gr:List (Option (Nat × Nat))}{r r':List Nat}{g:Mg9}{mk:Nat->Nat}
theorem row_nd (h:rows.flatten.Nodup)(hr:r∈rows):r.Nodup:=by
 obtain⟨i,hi⟩:=List.mem_iff_getElem?.1 hr;have hp:=(QW (Nat.zero_le _) hi).flatten.nodup_iff.1 h;rw[List.flatten_cons,List.nodup_append] at hp;exact hp.1
theorem Lv.joined (h:Lv V S L ts rows gr)(hR:Rt V S T)(hL:(L:Int)<lv V)(hF:FI V S g mk ts):∃ E,Lnk gr E/\(∀ s a b,(s,a,b)∈E->a<V.toNat/\b<V.toNat)/\∀ r∈rows,∀ u v,Xn V L u∈r->(Way E u v↔Xn V L v∈r):=by
 obtain⟨P,p1,p2,p3⟩:=h.tour
 refine⟨_,p3,fun s a b hm=>?_,fun r hr u v hu=>⟨fun hw=>?_,fun hv=>?_⟩⟩
 . have:=h.ends hR hF ((p3 s a b).1 hm)
   omega
 . have one:∀ {s a b w:Nat},(s,a,b)∈P.flatMap Prod.snd->(w=a\/w=b)->Xn V L w∈r->Xn V L a∈r/\Xn V L b∈r:=by
    intro s a b w hm hw hx;obtain⟨p,hp,hm⟩:=List.mem_flatMap.1 hm;obtain⟨_,_,ma,mb⟩:=(p2 p hp).mem hm;have hr2:p.1∈rows:=p1.mem_iff.1 (List.mem_map_of_mem hp);obtain⟨i,hi⟩:=List.mem_iff_getElem?.1 hr;obtain⟨j,hj⟩:=List.mem_iff_getElem?.1 hr2
    have hwp:Xn V L w∈p.1:=by rcases hw with rfl|rfl;exact ma;exact mb
    have:=Qdi h.nd hi hj hx hwp;subst this;rw[hi] at hj;injection hj with hj;rw[hj];exact⟨ma,mb⟩
   clear h hF hr p1 p2 p3
   induction hw with
   |refl=>exact hu
   |fore _ he ih=>exact(one he (.inl rfl) (ih hu)).2
   |back _ he ih=>exact(one he (.inr rfl) (ih hu)).1
 . obtain⟨p,hp,rfl⟩:=List.mem_map.1 (p1.mem_iff.2 hr)
   exact((p2 p hp).joined (Qeu hR hL) (Qd8 hR hL) hu hv).mono fun e he=>List.mem_flatMap.2 ⟨p,hp,he⟩
theorem QjC (hR:Rt V S T)(hL:(L:Int)<lv V)(hu:(u:Int)<V):vxN V (Xn V L u)=true:=by
 unfold vxN;rw[QbP hu,(QaG hR hL hu).2.2.1];rfl
theorem QjD (hR:Rt V S T)(hL:(L:Int)<lv V)(hs:(s:Int)<S){d:Nat}(hd:d<2):vxN V (An V S L s d)=false:=by
 unfold vxN;rw[QcI hs hd,(Qa4 hR hL hs hd).2.2.1];rfl
theorem Lv.kind (h:Lv V S L ts rows gr)(hR:Rt V S T)(hF:FI V S g mk ts)(hr:r∈rows)(hy:y∈r):(∃ u:Nat,(u:Int)<V/\y=Xn V L u)\/∃ s d:Nat,(s:Int)<S/\d<2/\y=An V S L s d:=by
 have hle:=(h.node_le hF hr hy).2;obtain⟨E,hT,_⟩:=h.edges hr
 rcases hT.node hy with ⟨u,rfl⟩|⟨s,a,b,_,e⟩
 . exact .inl ⟨u,Qcc hR hle,rfl⟩
 . rcases e with rfl|rfl
   . exact .inr ⟨s,0,(Qd0 hR hle).1,by decide,rfl⟩
   . exact .inr ⟨s,1,(Qd0 hR hle).1,by decide,rfl⟩
theorem Lv.count (h:Lv V S L ts rows gr)(hR:Rt V S T)(hL:(L:Int)<lv V)(hF:FI V S g mk ts)(hr:r∈rows):cntV (vxN V) r=((List.range V.toNat).filter fun v=>decide (Xn V L v∈r)).length:=by
 unfold cntV;refine Eq.trans ?_ (List.length_map (Xn V L))
 refine List.Perm.length_eq ((List.perm_ext_iff_of_nodup ?_ ?_).2 fun y=>?_)
 . exact(row_nd h.nd hr).filter _
 . have hn:((List.range V.toNat).filter fun v=>decide (Xn V L v∈r)).Nodup:=List.nodup_range.filter _
   unfold List.Nodup at hn |-;rw[List.pairwise_map]
   exact hn.imp fun hne e=>hne (Qeu hR hL _ _ e)
 . rw[List.mem_filter,List.mem_map]
   constructor
   . rintro⟨hy,hv⟩
     rcases h.kind hR hF hr hy with ⟨u,hu,rfl⟩|⟨s,d,hs,hd,rfl⟩
     . exact⟨u,List.mem_filter.2 ⟨List.mem_range.2 (by omega),decide_eq_true hy⟩,rfl⟩
     . rw[QjD hR hL hs hd] at hv;cases hv
   . rintro⟨u,hu,rfl⟩
     obtain⟨hu1,hu2⟩:=List.mem_filter.1 hu;have:=List.mem_range.1 hu1
     exact⟨of_decide_eq_true hu2,QjC hR hL (by omega)⟩
end
section
variable {V S T:Int}{n L L' s u v i j k x y:Nat}{ts ts':List Tp}{rs:Nat->List (List Nat)}{gr:Nat->List (Option (Nat × Nat))}{rows:List (List Nat)}{g:Mg9}{mk:Nat->Nat}{t t2 t' c0 c1 z:Tp}{a1 a2 b1 b2:List Nat}{r:List Nat}
theorem Qcs (hR:Rt V S T)(hL:(L:Int)<lv V)(hs:(s:Int)<S){d:Nat}(hd:d<2):lvN V (An V S L s d)=(L:Int):=by
 rw[QcI hs hd];exact(Qa4 hR hL hs hd).2.2.2.1
theorem Four.of {gr0:List (Option (Nat × Nat))}(h:Lv V S L ts rows gr0)(hR:Rt V S T)(hL:(L:Int)<lv V)(hF:FI V S g mk ts)(hik:i≠k)(hi:rows[i]?=some (a1++Xn V L u :: a2))(hk:rows[k]?=some (b1++Xn V L v :: b2))(hg:gr0[s]?=some none)(hs:(s:Int)<S):
 ∃ t t2 c0 c1,Four ts t t2 c0 c1 (Xn V L u) (Xn V L v) (An V S L s 0) (An V S L s 1) a1 a2 b1 b2:=by
 have hp:=Qcf hik (Nat.zero_le _) (Nat.zero_le _) hi hk;have m1:=List.mem_of_getElem? hi;have m2:=List.mem_of_getElem? hk;obtain⟨t,ht,rt⟩:=h.has _ m1;obtain⟨t2,ht2,rt2⟩:=h.has _ m2
 obtain⟨c0,h0,r0⟩:=h.loose s hs hg 0 (by decide)
 obtain⟨c1,h1,r1⟩:=h.loose s hs hg 1 (by decide)
 refine⟨t,t2,c0,c1,ht,ht2,h0,h1,h.rest_ne hR hF hp (by simp) rt rt2,h.loose_ne hR hL hF m1 rt r0,h.loose_ne hR hL hF m1 rt r1,h.loose_ne hR hL hF m2 rt2 r0,h.loose_ne hR hL hF m2 rt2 r1,fun e=>?_,rt,rt2,r0,r1⟩
 rw[e,r0] at r1
 have:=(Qd1 hR hL hs (by decide) hs (by decide) (List.cons.inj r1).1).2
 omega
theorem Lv.all_link (h:∀ L,L<n->Lv V S L ts (rs L) (gr L))(hR:Rt V S T)(hn:(n:Int)=lv V)(hL:L<n)(hF:FI V S g mk ts)(hik:i≠k)(hi:(rs L)[i]?=some (a1++Xn V L u :: a2))(hk:(rs L)[k]?=some (b1++Xn V L v :: b2))(hg:(gr L)[s]?=some none)(hs:(s:Int)<S)
 (hP:Four ts t t2 c0 c1 (Xn V L u) (Xn V L v) (An V S L s 0) (An V S L s 1) a1 a2 b1 b2) (ht':t'∈ts') (hr':t'.row=Qd5 (Xn V L u) (Xn V L v) (An V S L s 0) (An V S L s 1) a1 a2 b1 b2) (hkp:∀ z∈ts,z≠t->z≠t2->z≠c0->z≠c1->z∈ts'):
 ∀ y,y<n->Lv V S y ts' ((fun y=>if y=L then wo i k 0 (rs L)++[Qd5 (Xn V L u) (Xn V L v) (An V S L s 0) (An V S L s 1) a1 a2 b1 b2] else rs y) y) ((fun y=>if y=L then (gr L).set s (some (u,v)) else gr y) y):=by
 intro y hy
 have hLI:(L:Int)<lv V:=by omega
 have hyI:(y:Int)<lv V:=by omega
 have hp:=Qcf hik (Nat.zero_le _) (Nat.zero_le _) hi hk
 by_cases e:y=L
 . subst e
   show Lv V S y ts' (if y=y then _ else _) (if y=y then _ else _)
   rw[if_pos rfl,if_pos rfl];exact((h y hL).link hR hLI hF hp hs hg hP.rt hP.rs hP.r0 hP.r1 ht' hr' hkp).perm (List.perm_append_comm (l₁:=[_]) (l₂:=wo i k 0 (rs y)))
 . show Lv V S y ts' (if y=L then _ else _) (if y=L then _ else _)
   rw[if_neg e,if_neg e]
   refine(h y hy).other hR hyI hF fun z hz hx=>hkp z hz ?_ ?_ ?_ ?_
   . exact Qfs (fun e'=>e e'.symm) (fun x hx'=>(h L hL).lvl hR hLI hF (List.mem_of_getElem? hi) (by rw[<-hP.rt];exact hx')) hx
   . exact Qfs (fun e'=>e e'.symm) (fun x hx'=>(h L hL).lvl hR hLI hF (List.mem_of_getElem? hk) (by rw[<-hP.rs];exact hx')) hx
   . refine Qfs (fun e'=>e e'.symm) (fun x hx'=>?_) hx
     rw[hP.r0,List.mem_singleton] at hx'
     rw[hx'];exact Qcs hR hLI hs (by decide)
   . refine Qfs (fun e'=>e e'.symm) (fun x hx'=>?_) hx
     rw[hP.r1,List.mem_singleton] at hx'
     rw[hx'];exact Qcs hR hLI hs (by decide)
theorem Lv.all_cut {c d:Nat}{pp qq rr:List Nat}{ti tu ct dt:Tp}(h:∀ L,L<n->Lv V S L ts (rs L) (gr L))(hR:Rt V S T)(hn:(n:Int)=lv V)(hL:L<n)(hF:FI V S g mk ts)(hi:(rs L)[i]?=some (pp++c :: (qq++d :: rr)))(hg:(gr L)[s]?=some (some (u,v)))(ha:Arcs (An V S L) s c d)
 (htr:t.row=pp++c :: (qq++d :: rr)) (hti:ti∈ts') (htu:tu∈ts') (hri:ti.row=qq) (hru:tu.row=pp++rr) (hct:ct∈ts') (hrc:ct.row=[c]) (hdt:dt∈ts') (hrd:dt.row=[d]) (hkp:∀ z∈ts,z≠t->z∈ts'):
 ∀ y,y<n->Lv V S y ts' ((fun y=>if y=L then wo i i 0 (rs L)++[qq,pp++rr] else rs y) y) ((fun y=>if y=L then (gr L).set s none else gr y) y):=by
 intro y hy
 have hLI:(L:Int)<lv V:=by omega
 have hyI:(y:Int)<lv V:=by omega
 have hp:=QW (Nat.zero_le _) hi
 by_cases e:y=L
 . subst e
   show Lv V S y ts' (if y=y then _ else _) (if y=y then _ else _)
   rw[if_pos rfl,if_pos rfl];exact((h y hL).cut hR hLI hF hg ha hp htr hti htu hri hru hct hrc hdt hrd hkp).1.perm (List.perm_append_comm (l₁:=[_,_]) (l₂:=wo i i 0 (rs y)))
 . show Lv V S y ts' (if y=L then _ else _) (if y=L then _ else _)
   rw[if_neg e,if_neg e]
   refine(h y hy).other hR hyI hF fun z hz hx=>hkp z hz ?_
   exact Qfs (fun e'=>e e'.symm) (fun x hx'=>(h L hL).lvl hR hLI hF (List.mem_of_getElem? hi) (by rw[<-htr];exact hx')) hx
end
section
variable {w w' w0 W:World}{V S T:Int}{p gb cap m m' i k x y:Nat}{f f':Nat->Int}{g g':Mg9}{mk mk':Nat->Nat}{ts ts' L R:List Tp}{t s u z ta tb:Tp}{a b:List Nat}
def FJ (V S:Int)(mk:Nat->Nat)(ts:List Tp):Prop:=∃ g,FI V S g mk ts
theorem FJ.uniq (h:FJ V S mk ts)(ht:t∈ts)(hs:s∈ts)(hx:x∈t.row)(hy:x∈s.row):t=s:=by obtain⟨_,h⟩:=h;exact h.uniq ht hs hx hy
theorem FJ.root_in (h:FJ V S mk ts)(ht:t∈ts):t.root∈t.row/\t.root≠0:=by obtain⟨_,h⟩:=h;exact h.root_in ht
theorem FJ.root_eq (h:FJ V S mk ts)(ht:t∈ts)(hs:s∈ts)(e:t.root=s.root):t=s:=by obtain⟨_,h⟩:=h;exact h.root_eq ht hs e
theorem FJ.row_ne (h:FJ V S mk ts)(ht:t∈ts):t.row≠[]:=by obtain⟨_,h⟩:=h;exact h.row_ne ht
theorem FJ.nodes (h:FJ V S mk ts)(ht:t∈ts):∀ x∈t.row,x≠0/\x<=nN V S:=by obtain⟨_,h⟩:=h;exact h.nodes ht
theorem FJ.one (h:FJ V S mk ts)(ht:t∈ts):t.row.Nodup:=by obtain⟨_,h⟩:=h;exact h.one ht
theorem FJ.size (h:FJ V S mk ts)(ht:t∈ts):t.size<=nN V S:=by obtain⟨_,h⟩:=h;exact h.size ht
theorem FJ.begun_ne {a c:List Nat}(h:FJ V S mk ts)(hz:z∈ts)(ht:t∈ts)(hne:z≠t)(R:t.row=a++x :: c)(R1:u.row=x :: (c++a)):z≠u:=by obtain⟨_,h⟩:=h;exact h.begun_ne hz ht hne R R1
theorem FJ.root_dec (h:FJ V S mk ts)(ht:t∈ts)(hs:s∈ts)(hne:t≠s):decide (t.root=s.root)=false:=by obtain⟨_,h⟩:=h;exact Go.Proofs.YtaooglagddphnaaGreat.root_dec h ht hs hne
theorem TA.fi (A:TA w V S T p gb cap m f mk ts):FJ V S mk ts:=by obtain⟨g,_,h,_⟩:=A;exact⟨g,h⟩
theorem QbX (A:TA w V S T p gb cap m f mk ts)(ht:t∈ts)(hx:x∈t.row)(hm:m<=99980000){xI:Int}(hxI:xI=(x:Int)):
 Calls Tryz.prog 95 #[vTr V S T p,I xI] w (Dta V S T p gb cap (m+nN V S) f mk ts (I (t.root:Int)) w):=by
 obtain⟨g,A1,hF,c⟩:=A;obtain⟨i,hi⟩:=List.mem_iff_getElem?.1 ht
 exact(Qn5 A1 hF hi hx hm hxI).mono fun e w' h=>⟨h.1,⟨g,h.2.1,hF,c⟩,h.2.2⟩
theorem Qcg (A:TA w V S T p gb cap m f mk ts)(ht:t∈ts)(hr:t.row=a++x :: b)(hm:m<=99980000){xI:Int}(hxI:xI=(x:Int)):
 Calls Tryz.prog 119 #[vTr V S T p,I xI] w (Dta V S T p gb cap (m+3+4*nN V S) f mk ts (I (a.length:Int)) w):=by
 obtain⟨g,A1,hF,c⟩:=A;obtain⟨i,hi⟩:=List.mem_iff_getElem?.1 ht
 exact(Qnr A1 hF hi (j:=a.length) (by rw[hr];simp) hm hxI).mono fun e w' h=>⟨h.1,⟨g,h.2.1,hF,c⟩,h.2.2⟩
theorem QjL (A:TA w V S T p gb cap m f mk ts)(ht:t∈ts)(hm:m<=99980000){xI:Int}(hxI:xI=(t.root:Int)):
 Calls Tryz.prog 112 #[vTr V S T p,I xI] w (Dta V S T p gb cap (m+1) f mk ts (I (cntV (vxN V) t.row:Int)) w):=by
 obtain⟨g,A1,hF,c⟩:=A;obtain⟨i,hi⟩:=List.mem_iff_getElem?.1 ht
 exact(Qnp A1 hF hi hm hxI).mono fun e w' h=>⟨h.1,⟨g,h.2.1,hF,c⟩,h.2.2⟩
theorem QgA (A:TA w V S T p gb cap m f mk ts)(ht:t∈ts)(hk:k<2)(hm:m<=99980000){xI kI:Int}(hxI:xI=(t.root:Int))(hkI:kI=(k:Int)):
 Calls Tryz.prog 46 #[vTr V S T p,I xI,I kI] w (Dta V S T p gb cap (m+4*nN V S) f mk ts (I (Qx mk k t.row:Int)) w):=by
 obtain⟨g,A1,hF,c⟩:=A;obtain⟨i,hi⟩:=List.mem_iff_getElem?.1 ht
 exact(Qns A1 hF hi hk hm hxI hkI).mono fun e w' h=>⟨h.1,⟨g,h.2.1,hF,c⟩,h.2.2⟩
def SpD (V S T:Int)(p gb cap m:Nat)(f:Nat->Int)(mk:Nat->Nat)(ts:List Tp)(t:Tp)(a b:List Nat)(w:World)(e:Ending)(w':World):Prop:=
 ∃ ts' ta tb,e=.returned (.tuple #[I ((ta.root:Nat):Int),I ((tb.root:Nat):Int)])/\TA w' V S T p gb cap m f mk ts'/\Mb ts' ta/\Mb ts' tb/\ta.row=a/\tb.row=b/\(∀ s∈ts,s≠t->s∈ts')/\Only p gb w w'
theorem QaA (A:TA w V S T p gb cap m f mk ts)(ht:t∈ts)(hr:t.row=a++b)(hm:m<=99960000){xI kI:Int}(hxI:xI=(t.root:Int))(hkI:kI=(a.length:Int)):
 Calls Tryz.prog 120 #[vTr V S T p,I xI,I kI] w (SpD V S T p gb cap (m+12*nN V S+4) f mk ts t a b w):=by
 obtain⟨i,hi⟩:=List.mem_iff_getElem?.1 ht;have hn:=Ql A.hR
 have hl:a.length+b.length<=nN V S:=by have:=A.fi.size ht;unfold Tp.size at this;rw[hr,List.length_append] at this;exact this
 obtain⟨g,A1,hF0,c⟩:=A
 refine(Qnq A1 hF0 hi (k0:=kI) (by omega) (by omega) hm hxI).mono ?_
 rintro e w' ⟨g',ta,tb,rfl,A',hF,ha,hb,_,_,_,_,ho,h5⟩
 have e1:min kI.toNat t.row.length=a.length:=by rw[hr,List.length_append];omega
 rw[e1,hr] at ha hb;rw[List.take_left] at ha;rw[List.drop_left] at hb
 have mb:∀ {u:Tp},(0<u.row.length->u∈Qfd ta tb)->Mb (wo i i 0 ts++Qfd ta tb) u:=fun {u} h=>by
  by_cases h0:0<u.row.length
  . exact .inr (List.mem_append_right _ (h h0))
  . exact .inl (Tp.row_eq_nil (List.length_eq_zero_iff.1 (by omega)))
 refine⟨_,ta,tb,rfl,⟨g',A',hF,fun i hi=>(QeD h5 i).trans (c i hi)⟩,mb fun h=>?_,mb fun h=>?_,ha,hb,fun s hs hne=>?_,ho⟩
 . unfold Qfd;rw[if_pos h];simp
 . unfold Qfd;rw[if_pos h];simp
 . refine List.mem_append_left _ ?_
   have:=(QW (Nat.zero_le _) hi).mem_iff.1 hs
   rcases List.mem_cons.1 this with h|h
   . exact absurd h hne
   . exact h
def MgD (V S T:Int)(p gb cap m:Nat)(f:Nat->Int)(mk:Nat->Nat)(ts:List Tp)(ta tb:Tp)(w:World)(e:Ending)(w':World):Prop:=
 ∃ ts' t,e=.returned (I ((t.root:Nat):Int))/\TA w' V S T p gb cap m f mk ts'/\t∈ts'/\t.row=ta.row++tb.row/\(∀ s∈ts,s≠ta->s≠tb->s∈ts')/\Only p gb w w'
theorem QbY (A:TA w V S T p gb cap m f mk ts)(hp:ts.Perm (L++R))(hL:L.flatMap Tp.row=ta.row++tb.row)(hin:∀ s∈L,s=ta\/s=tb)(ha:Mb ts ta)(hb:Mb ts tb)(hne:ta.row++tb.row≠[])(hm:m<=99960000){xa xb:Int}(hxa:xa=(ta.root:Int))(hxb:xb=(tb.root:Int)):
 Calls Tryz.prog 115 #[vTr V S T p,I xa,I xb] w (MgD V S T p gb cap (m+12*nN V S+2) f mk ts ta tb w):=by
 subst hxa hxb;obtain⟨g,A1,hF,c⟩:=A;have hF':=hF.perm hp
 have fact:∀ {u:Tp},Mb ts u->Qe (vxN V) mk g u/\Hp (fun z=>g z 5) u/\∀ y∈u.row,y≠0/\y<=nN V S:=by
  rintro u (rfl|h)
  . exact⟨trivial,trivial,fun y hy=>by simp [Tp.row] at hy⟩
  . exact⟨(hF.st u h).1.1,(hF.st u h).2.1,hF.nodes h⟩
 have hnd:(ta.row++tb.row).Nodup:=by
  have:=hF'.nd;rw[List.flatMap_append,List.nodup_append,hL] at this;exact this.1
 have hz:ta.size+tb.size<=nN V S:=by
  have:=flat_len hF';rw[List.flatMap_append,List.length_append,hL,List.length_append] at this;unfold Tp.size;omega
 refine(QmG A1 hF.hm (fact ha).1 (fact hb).1 hz hnd (fact ha).2.2 (fact hb).2.2 (show m<=99970000 by omega)).mono ?_
 rintro e w' ⟨g',t,rfl,A',O',hs,hrow,hhp,ho,h5⟩
 have hne2:t≠.nil:=fun e=>hne (by rw[<-hrow,e];rfl)
 have hhp':=hhp (fact ha).2.1 (fact hb).2.1
 refine⟨R++[t],t,rfl,⟨g',A',?_,fun i hi=>(QeD h5 i).trans (c i hi)⟩,by simp,hrow,fun s hs' h1 h2=>?_,O'⟩
 . refine hF.swap (N:=[t]) hp (by rw[Qba,hrow,hL]) ?_ ?_ h5 hF.hm fun _ _=>rfl
   . intro t' ht'
     have:t'=t:=by simpa using ht'
     subst this;exact⟨hs,hhp',hne2⟩
   . intro y hy
     rw[hL,<-hrow] at hy;exact ho y hy
 . rcases List.mem_append.1 (hp.mem_iff.1 hs') with h|h
   . rcases hin s h with h|h
     . exact absurd h h1
     . exact absurd h h2
   . exact List.mem_append_left _ h
theorem QbB (A:TA w V S T p gb cap m f mk ts)(ha:Mb ts ta)(hb:Mb ts tb)(hab:ta≠tb)(hm:m<=99960000){xa xb:Int}(hxa:xa=(ta.root:Int))(hxb:xb=(tb.root:Int)):
 Calls Tryz.prog 115 #[vTr V S T p,I xa,I xb] w (MgD V S T p gb cap (m+12*nN V S+2) f mk ts ta tb w):=by
 rcases ha with rfl|ha<;>rcases hb with rfl|hb
 . exact absurd rfl hab
 . obtain⟨i,hi⟩:=List.mem_iff_getElem?.1 hb
   exact QbY A (L:=[tb]) (QW (Nat.zero_le _) hi) (by simp [Tp.row]) (by simp) (.inl rfl) (.inr hb) (by simpa [Tp.row] using A.fi.row_ne hb) hm hxa hxb
 . obtain⟨i,hi⟩:=List.mem_iff_getElem?.1 ha
   exact QbY A (L:=[ta]) (QW (Nat.zero_le _) hi) (by simp [Tp.row]) (by simp) (.inr ha) (.inl rfl) (by simpa [Tp.row] using A.fi.row_ne ha) hm hxa hxb
 . obtain⟨i,hi⟩:=List.mem_iff_getElem?.1 ha
   obtain⟨k,hk⟩:=List.mem_iff_getElem?.1 hb
   have hik:i≠k:=fun e=>hab (by subst e;rw[hi] at hk;injection hk)
   exact QbY A (L:=[ta,tb]) (by obtain⟨g,_,hF,_⟩:=A;exact hF.pair hik hi hk) QgP (by simp) (.inr ha) (.inr hb) (by have:=A.fi.row_ne ha;simp [this]) hm hxa hxb
def Qbg (mk:Nat->Nat)(x:Nat):Nat->Nat:=fun y=>if y=x then 0 else mk y
theorem Qdb (A:TA w V S T p gb cap m f mk ts)(ht:t∈ts)(hr:t.row=[x])(hm:m<=99960000){xI:Int}(hxI:xI=(x:Int)):
 Calls Tryz.prog 36 #[vTr V S T p,I xI] w (Dta V S T p gb cap (m+9) f (Qbg mk x) ts (.tuple #[]) w):=by
 subst hxI;obtain⟨g,A1,hF,c⟩:=A
 have hx:x≠0/\x<=nN V S:=hF.nodes ht x (by rw[hr];simp)
 refine(QhY A1 (Nat.one_le_iff_ne_zero.2 hx.1) hx.2 (by omega)).mono ?_
 rintro e w' ⟨rfl,A',O'⟩
 have h5:∀ y,QaU (vxN V) g x y 5=g y 5:=fun y=>QhK
 refine⟨rfl,⟨_,A',?_,fun i hi=>(QeD h5 i).trans (c i hi)⟩,O'⟩
 obtain⟨i,hi⟩:=List.mem_iff_getElem?.1 ht;have hp:ts.Perm ([t]++wo i i 0 ts):=QW (Nat.zero_le _) hi
 have hlt:∀ y,Qbg mk x y<4:=fun y=>by
  unfold Qbg;split
  . omega
  . exact hF.hm y
 refine(hF.swap (N:=[t]) (mk':=Qbg mk x) (g':=QaU (vxN V) g x) hp (List.Perm.refl _) ?_ ?_ h5 hlt fun y hy=>?_).perm ((List.perm_append_comm).trans hp.symm)
 . intro t' ht'
   have:t'=t:=by simpa using ht'
   subst this;refine⟨?_,(hF.st _ ht).2.1,(hF.st _ ht).2.2⟩;have h1:=Qbz (vx:=vxN V) hx.1 A1.z;rw[Qh8 hr]
   exact h1.turn (by simp [sgl,Tp.row]) (fun _ _ _=>rfl) (fun y hy=>by
    have:y=x:=by simpa [sgl,Tp.row] using hy
    subst this;unfold Qbg;rw[if_pos rfl])
 . intro y hy j
   rw[Qba,hr] at hy
   exact Qas j (by simpa using hy)
 . rw[Qba,hr] at hy
   unfold Qbg;rw[if_neg (by simpa using hy)]
section
variable {c d e0 e1:Nat}{pp qq rr a1 a2 b1 b2:List Nat}{c0 c1 t1 t2 s1 u1 u2 u3:Tp}
theorem Four.not_tj (h:Four ts t s c0 c1 x y e0 e1 a1 a2 b1 b2)(hF:FJ V S mk ts)(hz:z∈ts)(hne:z≠t)(hx:x∈u.row):z≠u:=by obtain⟨_,hF⟩:=hF;exact h.not_t hF hz hne hx
theorem Four.t2sj (h:Four ts t s c0 c1 x y e0 e1 a1 a2 b1 b2)(hF:FJ V S mk ts)(R1:t1.row=x :: (a2++a1))(R2:t2.row=t1.row++c0.row)(R3:s1.row=y :: (b2++b1)):t2≠s1:=by obtain⟨_,hF⟩:=hF;exact h.t2s hF R1 R2 R3
theorem Qj.sub1j (h:Qj t c d pp qq rr)(hu:u.row=pp++c :: (qq++[d]))(hF:FJ V S mk ts)(hz:z∈ts)(ht:t∈ts)(hne:z≠t):z≠u:=by obtain⟨_,hF⟩:=hF;exact h.sub1 hu hF hz ht hne
theorem Qj.sub2j (h:Qj t c d pp qq rr)(hu:u.row=pp++c :: qq)(hF:FJ V S mk ts)(hz:z∈ts)(ht:t∈ts)(hne:z≠t):z≠u:=by obtain⟨_,hF⟩:=hF;exact h.sub2 hu hF hz ht hne
theorem Qj.sub3j (h:Qj t c d pp qq rr)(hu:u.row=pp++[c])(hF:FJ V S mk ts)(hz:z∈ts)(ht:t∈ts)(hne:z≠t):z≠u:=by obtain⟨_,hF⟩:=hF;exact h.sub3 hu hF hz ht hne
theorem Qj.sub4j (h:Qj t c d pp qq rr)(hu:u.row=pp)(hF:FJ V S mk ts)(hz:z∈ts)(ht:t∈ts)(hne:z≠t):z≠u:=by obtain⟨_,hF⟩:=hF;exact h.sub4 hu hF hz ht hne
theorem Qj.sub5j (h:Qj t c d pp qq rr)(hu:u.row=rr)(hF:FJ V S mk ts)(hz:z∈ts)(ht:t∈ts)(hne:z≠t):z≠u:=by obtain⟨_,hF⟩:=hF;exact h.sub5 hu hF hz ht hne
end
end
section
variable {w w' w0:World}{V S T:Int}{b p gb cap m m' i k x y:Nat}{f:Nat->Int}{mk mk':Nat->Nat}{ts ts':List Tp}{t s ta tb:Tp}
def QB (w:World)(b:Nat)(V S T:Int)(p:Nat):Prop:=Blk w b 45 #[I V,I S,I T,I4 p,I 1,I 0]
structure TO (w0 W:World)(b:Nat)(V S T:Int)(p gb cap m:Nat)(f:Nat->Int)(mk:Nat->Nat)(ts:List Tp):Prop where
 q:QB W b V S T p
 a:TA W V S T p gb cap m f mk ts
 o:Only p gb w0 W
theorem TO.new (A:TA w V S T p gb cap m f mk ts):TO w (w.alloc (I6 V S T p)) w.heap.size V S T p gb cap m f mk ts:=⟨Blk.new _ _ _,A.alloc _,(Only.refl p gb w).alloc _⟩
theorem TO.lt (h:TO w0 w b V S T p gb cap m f mk ts):b<w.heap.size:=Blk.lt h.q
theorem TO.cells (h:TO w0 w b V S T p gb cap m f mk ts):w.cell? (I1 b 0)=some (I V)/\w.cell? (I1 b 1)=some (I S)/\w.cell? (I1 b 2)=some (I T)/\w.cell? (I1 b 3)=some (I4 p)/\w.cell? (I1 b 4)=some (I 1)/\w.cell? (I1 b 5)=some (I 0):=
 ⟨Blk.cell h.q 0,Blk.cell h.q 1,Blk.cell h.q 2,Blk.cell h.q 3,Blk.cell h.q 4,Blk.cell h.q 5⟩
theorem TO.below (h:TO w0 w b V S T p gb cap m f mk ts)(hb:Below w.heap.size w w'):TO w0 w' b V S T p gb cap m f mk ts:=⟨Blk.below h.q hb (Blk.lt h.q),h.a.below hb,h.o.trans (Only.of_below hb)⟩
theorem TO.drew (h:TO w0 w b V S T p gb cap m f mk ts):TO w0 w.drew b V S T p gb cap m f mk ts:=⟨h.q,h.a.drew,h.o.drew⟩
theorem TO.next (h:TO w0 w b V S T p gb cap m f mk ts)(a:TA w' V S T p gb cap m' f mk' ts')(ho:Only p gb w w'):TO w0 w' b V S T p gb cap m' f mk' ts':=⟨Blk.ta h.q h.a ho (by decide) (by decide),a,h.o.trans ho⟩
theorem TO.rule (b:Nat)(V S T:Int)(p:Nat):∀ W:World,QB W b V S T p->W.cell? (I1 b 0)=some (I V)/\W.cell? (I1 b 1)=some (I S)/\W.cell? (I1 b 2)=some (I T)/\W.cell? (I1 b 3)=some (I4 p)/\W.cell? (I1 b 4)=some (I 1)/\W.cell? (I1 b 5)=some (I 0):=fun _ h=>
 ⟨Blk.cell h 0,Blk.cell h 1,Blk.cell h 2,Blk.cell h 3,Blk.cell h 4,Blk.cell h 5⟩
theorem Qdr (A:TA w V S T p gb cap m f mk ts)(ht:t∈ts)(hx:x∈t.row)(hs:s∈ts)(hy:y∈s.row)(hm:m<=99970000):
 Calls Tryz.prog 65 #[vTr V S T p,I (x:Int),I (y:Int)] w (Dta V S T p gb cap (m+2*nN V S) f mk ts (.bool (decide (t.root=s.root))) w):=by
 have hn:=Ql A.hR;have HP:=q9 (And.intro ht (And.intro hx (And.intro hs hy)));have h0:=(A.fi.root_in ht).2;have H0:=q9 (TO.new A);obtain⟨r,hr⟩:∃ r,t.root=r:=⟨_,rfl⟩;obtain⟨r2,hr2⟩:∃ r,s.root=r:=⟨_,rfl⟩;have HR1:=q9 hr;have HR2:=q9 hr2;rw[hr] at h0;rw[hr,hr2]
 have hb0:((r:Int) !=0)=true:=bne_iff_ne.2 (by omega)
 have hb1:((r:Int)==(r2:Int))=decide (r=r2):=by
  by_cases h:r=r2
  . subst h;simp
  . rw[decide_eq_false h];exact beq_eq_false_iff_ne.2 (by omega)
 clear A ht hx hs hy hr hr2
 go_enter Tryz.func65,Tryz.ntmps65
 go_wp2_with fail
 generalize w.heap.size=b at H0 |-;generalize w.alloc (I6 V S T p)=W at H0 |-;obtain⟨y0,y1,y2,y3,y4,y5⟩:=H0.cells;have hlt:=H0.lt
 refine(QbX H0.a HP.1 HP.2.1 (by omega) rfl).mono ?_;rintro e w1 ⟨rfl,A1,O1⟩
 have H1:=q9 (H0.next A1 O1);clear H0 A1 O1 y0 y1 y2 y3 y4 y5 hlt;rw[HR1.out];obtain⟨y0,y1,y2,y3,y4,y5⟩:=H1.cells;have hlt:=H1.lt;go_wp2_with fail
 refine(QbX H1.a HP.2.2.1 HP.2.2.2 (by omega) rfl).mono ?_;rintro e w1 ⟨rfl,A1,O1⟩
 have H2:=q9 (H1.next A1 O1);clear H1 A1 O1 y0 y1 y2 y3 y4 y5 hlt;rw[HR2.out];obtain⟨y0,y1,y2,y3,y4,y5⟩:=H2.cells;have hlt:=H2.lt;go_wp2_with fail
 go_ret
 exact⟨rfl,H2.a.more (by omega),H2.o⟩
theorem QnR (A:TA w V S T p gb cap m f mk ts){L u v:Nat}(hL:(L:Int)<lv V)(hu:(u:Int)<V)(hv:(v:Int)<V)(ht:t∈ts)(hx:Xn V L u∈t.row)(hs:s∈ts)(hy:Xn V L v∈s.row)(hm:m<=99970000):
 Calls Tryz.prog 25 #[vTr V S T p,I (L:Int),I (u:Int),I (v:Int)] w (Dta V S T p gb cap (m+2*nN V S) f mk ts (.bool (decide (t.root=s.root))) w):=by
 have hn:=Ql A.hR;have HP:=q9 (And.intro ht (And.intro hx (And.intro hs hy)));have H0:=q9 (TO.new A);have HR:=q9 A.hR;clear A ht hx hs hy
 go_enter Tryz.func25,Tryz.ntmps25
 go_wp2_with fail
 generalize w.heap.size=b at H0 |-;generalize w.alloc (I6 V S T p)=W at H0 |-;obtain⟨y0,y1,y2,y3,y4,y5⟩:=H0.cells;have hlt:=H0.lt;have Hd:=q9 H0.drew;have hrule:=TO.rule b V S T p;clear H0
 go_region_held3 (fun W=>QB W b V S T p) (first|(with_reducible assumption)|(with_reducible exact H3.out.q)|(with_reducible exact H2.out.q)|(with_reducible exact H1.out.q)|(with_reducible exact Hd.out.q))
  (first
   |(go_at_call 67;((with_reducible refine(QbU HR.out hL hu _).mono ?_);rintro e w2 ⟨rfl,B1⟩;have H1:=q9 (Hd.out.below B1)))
   |(go_at_call 67;((with_reducible refine(QbU HR.out hL hv _).mono ?_);rintro e w2 ⟨rfl,B1⟩;have H2:=q9 (H1.out.below B1)))
   |(go_at_call 65;((with_reducible refine(Qdr H2.out.a HP.out.1 HP.out.2.1 HP.out.2.2.1 HP.out.2.2.2 hm).mono ?_);rintro e w2 ⟨rfl,A1,O1⟩;have H3:=q9 (H2.out.next A1 O1))))
 clear Hd H1 H2 y0 y1 y2 y3 y4 y5 hlt hrule;obtain⟨y0,y1,y2,y3,y4,y5⟩:=H3.cells;have hlt:=H3.lt;go_wp2_with fail
 go_ret
 exact⟨rfl,H3.a.more (by omega),H3.o⟩
theorem Qez (A:TA w V S T p gb cap m f mk ts){L a:Nat}(hL:(L:Int)<lv V)(ha:(a:Int)<S)(ht:t∈ts)(hx:An V S L a 0∈t.row)(hs:s∈ts)(hy:An V S L a 1∈s.row)(hm:m<=99970000):
 Calls Tryz.prog 24 #[vTr V S T p,I (L:Int),I (a:Int)] w (Dta V S T p gb cap (m+2*nN V S) f mk ts (.bool (decide (t.root=s.root))) w):=by
 have hn:=Ql A.hR;have HP:=q9 (And.intro ht (And.intro hx (And.intro hs hy)));have H0:=q9 (TO.new A);have HR:=q9 A.hR;clear A ht hx hs hy
 go_enter Tryz.func24,Tryz.ntmps24
 go_wp2_with fail
 generalize w.heap.size=b at H0 |-;generalize w.alloc (I6 V S T p)=W at H0 |-;obtain⟨y0,y1,y2,y3,y4,y5⟩:=H0.cells;have hlt:=H0.lt;have Hd:=q9 H0.drew;have hrule:=TO.rule b V S T p;clear H0
 go_region_held3 (fun W=>QB W b V S T p) (first|(with_reducible assumption)|(with_reducible exact H3.out.q)|(with_reducible exact H2.out.q)|(with_reducible exact H1.out.q)|(with_reducible exact Hd.out.q))
  (first
   |(go_at_call 66;((with_reducible refine(QdU HR.out hL ha _).mono ?_);rintro e w2 ⟨rfl,B1⟩;have H1:=q9 (Hd.out.below B1)))
   |(go_at_call 66;((with_reducible refine(QeY HR.out hL ha _).mono ?_);rintro e w2 ⟨rfl,B1⟩;have H2:=q9 (H1.out.below B1)))
   |(go_at_call 65;((with_reducible refine(Qdr H2.out.a HP.out.1 HP.out.2.1 HP.out.2.2.1 HP.out.2.2.2 hm).mono ?_);rintro e w2 ⟨rfl,A1,O1⟩;have H3:=q9 (H2.out.next A1 O1))))
 clear Hd H1 H2 y0 y1 y2 y3 y4 y5 hlt hrule;obtain⟨y0,y1,y2,y3,y4,y5⟩:=H3.cells;have hlt:=H3.lt;go_wp2_with fail
 go_ret
 exact⟨rfl,H3.a.more (by omega),H3.o⟩
theorem QmR (A:TA w V S T p gb cap m f mk ts){L u:Nat}(hL:(L:Int)<lv V)(hu:(u:Int)<V)(ht:t∈ts)(hx:Xn V L u∈t.row)(hm:m<=99970000):
 Calls Tryz.prog 59 #[vTr V S T p,I (L:Int),I (u:Int)] w (Dta V S T p gb cap (m+nN V S+1) f mk ts (I (cntV (vxN V) t.row:Int)) w):=by
 have hn:=Ql A.hR;have HP:=q9 (And.intro ht hx);have H0:=q9 (TO.new A);have HR:=q9 A.hR;clear A ht hx
 go_enter Tryz.func59,Tryz.ntmps59
 go_wp2_with fail
 generalize w.heap.size=b at H0 |-;generalize w.alloc (I6 V S T p)=W at H0 |-;obtain⟨y0,y1,y2,y3,y4,y5⟩:=H0.cells;have hlt:=H0.lt;have Hd:=q9 H0.drew;have hrule:=TO.rule b V S T p;clear H0
 go_region_held3 (fun W=>QB W b V S T p) (first|(with_reducible assumption)|(with_reducible exact H3.out.q)|(with_reducible exact H2.out.q)|(with_reducible exact H1.out.q)|(with_reducible exact Hd.out.q))
  (first
   |(go_at_call 67;((with_reducible refine(QbU HR.out hL hu _).mono ?_);rintro e w2 ⟨rfl,B1⟩;have H1:=q9 (Hd.out.below B1)))
   |(go_at_call 95;((with_reducible refine(QbX H1.out.a HP.out.1 HP.out.2 (by omega) rfl).mono ?_);rintro e w2 ⟨rfl,A1,O1⟩;have H2:=q9 (H1.out.next A1 O1)))
   |(go_at_call 112;((with_reducible refine(QjL H2.out.a HP.out.1 (by omega) rfl).mono ?_);rintro e w2 ⟨rfl,A1,O1⟩;have H3:=q9 (H2.out.next A1 O1))))
 clear Hd H1 H2 y0 y1 y2 y3 y4 y5 hlt hrule;obtain⟨y0,y1,y2,y3,y4,y5⟩:=H3.cells;have hlt:=H3.lt;go_wp2_with fail
 go_ret
 exact⟨rfl,H3.a.more (by omega),H3.o⟩
def BgD (V S T:Int)(p gb cap m:Nat)(f:Nat->Int)(mk:Nat->Nat)(ts:List Tp)(t:Tp)(r:List Nat)(w:World)(e:Ending)(w':World):Prop:=
 ∃ ts' t',e=.returned (I ((t'.root:Nat):Int))/\TA w' V S T p gb cap m f mk ts'/\t'∈ts'/\t'.row=r/\(∀ s∈ts,s≠t->s∈ts')/\Only p gb w w'
theorem Qk9 (A:TA w V S T p gb cap m f mk ts){L u:Nat}{a c:List Nat}(hL:(L:Int)<lv V)(hu:(u:Int)<V)(ht:t∈ts)(hx:t.row=a++Xn V L u :: c)(hm:m<=99900000):
 Calls Tryz.prog 116 #[vTr V S T p,I (L:Int),I (u:Int)] w (BgD V S T p gb cap (m+29*nN V S+9) f mk ts t (Xn V L u :: (c++a)) w):=by
 have hn:=Ql A.hR;have HP:=q9 (And.intro ht hx);have H0:=q9 (TO.new A);have HR:=q9 A.hR
 have HMX:Hid (Xn V L u∈t.row):=q9 (by rw[hx];simp)
 have HF:=q9 A.fi;clear A ht hx
 go_enter Tryz.func116,Tryz.ntmps116
 go_wp2_with fail
 generalize w.heap.size=b at H0 |-;generalize w.alloc (I6 V S T p)=W at H0 |-;obtain⟨y0,y1,y2,y3,y4,y5⟩:=H0.cells;have hlt:=H0.lt;refine(QbU HR hL hu _).mono ?_;rintro e w1 ⟨rfl,B1⟩;have H1:=q9 (H0.below B1);clear H0 B1 y0 y1 y2 y3 y4 y5 hlt;obtain⟨y0,y1,y2,y3,y4,y5⟩:=H1.cells;have hlt:=H1.lt;go_wp2_with fail
 have Hd:=q9 H1.drew;have hrule:=TO.rule b V S T p;clear H1
 go_region_held3 (fun W=>QB W b V S T p) (first|(with_reducible assumption)|(with_reducible exact H4.out.q)|(with_reducible exact H3.out.q)|(with_reducible exact H2.out.q)|(with_reducible exact Hd.out.q))
  (first
   |(go_at_call 95;((with_reducible refine(QbX Hd.out.a HP.out.1 HMX.out (by omega) rfl).mono ?_);rintro e w2 ⟨rfl,A1,O1⟩;have H2:=q9 (Hd.out.next A1 O1)))
   |(go_at_call 119;((with_reducible refine(Qcg H2.out.a HP.out.1 HP.out.2 (by omega) rfl).mono ?_);rintro e w2 ⟨rfl,A1,O1⟩;have H3:=q9 (H2.out.next A1 O1)))
   |(go_at_call 120;((with_reducible refine(QaA H3.out.a HP.out.1 HP.out.2 (by omega) rfl rfl).mono ?_);rintro e w2 ⟨ts1,ta,tb,rfl,A1,M1,M2,R1,R2,K1,O1⟩;have H4:=q9 (H3.out.next A1 O1);have HM:=q9 (And.intro M1 (And.intro M2 (And.intro R1 (And.intro R2 K1)))))))
 clear Hd H2 H3 y0 y1 y2 y3 y4 y5 hlt hrule;obtain⟨y0,y1,y2,y3,y4,y5⟩:=H4.cells;have hlt:=H4.lt;go_wp2_with fail
 have hne:tb≠ta:=fun e=>by
  have h1:=HM.2.2.1;rw[<-e,HM.2.2.2.1] at h1;have h2:=HF.one HP.1;rw[HP.2,<-h1] at h2;simp at h2
 refine(QbB H4.a HM.2.1 HM.1 hne (by omega) rfl rfl).mono ?_;rintro e w1 ⟨ts2,t2,rfl,A1,M2,R2,K2,O1⟩
 have HO:=q9 (H4.o.trans O1)
 have HK:=q9 (fun s (hs:s∈ts) (hne:s≠t)=>K2 s (HM.2.2.2.2 s hs hne))
 clear K2 O1;go_wp2_with fail
 go_ret
 refine⟨ts2,t2,rfl,A1.more (by omega),M2,?_,fun s hs h=>HK.out s hs h ?_ ?_,HO⟩
 . rw[R2,HM.2.2.1,HM.2.2.2.1];simp
 . rintro rfl
   refine h (HF.uniq (x:=Xn V L u) hs HP.1 ?_ HMX);rw[HM.2.2.2.1];simp
 . rintro rfl
   cases a with
   |nil=>exact HF.row_ne hs HM.2.2.1
   |cons z a=>
    refine h (HF.uniq (x:=z) hs HP.1 ?_ ?_)
    . rw[HM.2.2.1];simp
    . rw[HP.2];simp
end
section
variable {w w' w0:World}{V S T:Int}{b p gb cap m m' i k x y:Nat}{f:Nat->Int}{mk mk':Nat->Nat}{ts ts':List Tp}{t s u z ta tb:Tp}
theorem QmT (A:TA w V S T p gb cap m f mk ts){L u v:Nat}(hL:(L:Int)<lv V)(hu:(u:Int)<V)(hv:(v:Int)<V)(ht:t∈ts)(hx:Xn V L u∈t.row)(hs:s∈ts)(hy:Xn V L v∈s.row)(hm:m<=99970000):
 Calls Tryz.prog 113 #[vTr V S T p,I (L:Int),I (u:Int),I (v:Int)] w (Dta V S T p gb cap (m+2*nN V S) f mk ts (.bool (!decide (t.root=s.root))) w):=by
 have hn:=Ql A.hR;have HP:=q9 (And.intro ht (And.intro hx (And.intro hs hy)));have H0:=q9 (TO.new A);have HR:=q9 A.hR
 have n1:((Xn V L u:Int) !=0)=true:=bne_iff_ne.2 (by have:=(A.fi.nodes ht _ hx).1;omega)
 have n2:((Xn V L v:Int) !=0)=true:=bne_iff_ne.2 (by have:=(A.fi.nodes hs _ hy).1;omega)
 clear A ht hx hs hy
 go_enter Tryz.func113,Tryz.ntmps113
 go_wp2_with fail
 generalize w.heap.size=b at H0 |-;generalize w.alloc (I6 V S T p)=W at H0 |-;obtain⟨y0,y1,y2,y3,y4,y5⟩:=H0.cells;have hlt:=H0.lt;have Hd:=q9 H0.drew;have hrule:=TO.rule b V S T p;clear H0
 go_region_held3 (fun W=>QB W b V S T p) (first|(with_reducible assumption)|(with_reducible exact H2.out.q)|(with_reducible exact H1.out.q)|(with_reducible exact Hd.out.q))
  (first
   |(go_at_call 67;((with_reducible refine(QbU HR.out hL hu _).mono ?_);rintro e w2 ⟨rfl,B1⟩;have H1:=q9 (Hd.out.below B1)))
   |(go_at_call 67;((with_reducible refine(QbU HR.out hL hv _).mono ?_);rintro e w2 ⟨rfl,B1⟩;have H2:=q9 (H1.out.below B1))))
 clear Hd H1 y0 y1 y2 y3 y4 y5 hlt hrule;obtain⟨y0,y1,y2,y3,y4,y5⟩:=H2.cells;have hlt:=H2.lt;go_wp2_with fail
 refine(Qdr H2.a HP.1 HP.2.1 HP.2.2.1 HP.2.2.2 hm).mono ?_;rintro e w1 ⟨rfl,A1,O1⟩;have H3:=q9 (H2.next A1 O1);clear H2 A1 O1 y0 y1 y2 y3 y4 y5 hlt;obtain⟨y0,y1,y2,y3,y4,y5⟩:=H3.cells;have hlt:=H3.lt;go_wp2_with fail
 go_ret
 exact⟨rfl,H3.a.more (by omega),H3.o⟩
theorem QmI (A:TA w V S T p gb cap m f mk ts){L a:Nat}(hL:(L:Int)<lv V)(ha:(a:Int)<S)(ht:t∈ts)(hx:An V S L a 0∈t.row)(hs:s∈ts)(hy:An V S L a 1∈s.row)(hm:m<=99970000):
 Calls Tryz.prog 114 #[vTr V S T p,I (L:Int),I (a:Int)] w (Dta V S T p gb cap (m+2*nN V S) f mk ts (.bool (!decide (t.root=s.root))) w):=by
 have hn:=Ql A.hR;have HP:=q9 (And.intro ht (And.intro hx (And.intro hs hy)));have H0:=q9 (TO.new A);have HR:=q9 A.hR
 have n1:((An V S L a 0:Int) !=0)=true:=bne_iff_ne.2 (by have:=(A.fi.nodes ht _ hx).1;omega)
 clear A ht hx hs hy
 go_enter Tryz.func114,Tryz.ntmps114
 go_wp2_with fail
 generalize w.heap.size=b at H0 |-;generalize w.alloc (I6 V S T p)=W at H0 |-;obtain⟨y0,y1,y2,y3,y4,y5⟩:=H0.cells;have hlt:=H0.lt;refine(QdU HR hL ha _).mono ?_;rintro e w1 ⟨rfl,B1⟩;have H1:=q9 (H0.below B1);clear H0 B1 y0 y1 y2 y3 y4 y5 hlt;obtain⟨y0,y1,y2,y3,y4,y5⟩:=H1.cells;have hlt:=H1.lt;go_wp2_with fail
 refine(Qez H1.a hL ha HP.1 HP.2.1 HP.2.2.1 HP.2.2.2 hm).mono ?_;rintro e w1 ⟨rfl,A1,O1⟩;have H2:=q9 (H1.next A1 O1);clear H1 A1 O1 y0 y1 y2 y3 y4 y5 hlt;obtain⟨y0,y1,y2,y3,y4,y5⟩:=H2.cells;have hlt:=H2.lt;go_wp2_with fail
 go_ret
 exact⟨rfl,H2.a.more (by omega),H2.o⟩
def LkD (V S T:Int)(p gb cap m:Nat)(f:Nat->Int)(mk:Nat->Nat)(ts:List Tp)(t s c0 c1:Tp)(r:List Nat)(w:World)(e:Ending)(w':World):Prop:=
 ∃ ts' t',e=.returned (I ((t'.root:Nat):Int))/\TA w' V S T p gb cap m f mk ts'/\t'∈ts'/\t'.row=r/\(∀ z∈ts,z≠t->z≠s->z≠c0->z≠c1->z∈ts')/\Only p gb w w'
set_option maxHeartbeats 1000000 in
theorem QnU {c0 c1:Tp}{L u v a:Nat}{a1 a2 b1 b2:List Nat}(A:TA w V S T p gb cap m f mk ts)(hL:(L:Int)<lv V)(hu:(u:Int)<V)(hv:(v:Int)<V)(ha:(a:Int)<S)(hP:Four ts t s c0 c1 (Xn V L u) (Xn V L v) (An V S L a 0) (An V S L a 1) a1 a2 b1 b2)(hm:m<=99800000):
 Calls Tryz.prog 62 #[vTr V S T p,I (L:Int),I (a:Int),I (u:Int),I (v:Int)] w (LkD V S T p gb cap (m+100*nN V S+30) f mk ts t s c0 c1 ((Xn V L u :: (a2++a1))++An V S L a 0 :: ((Xn V L v :: (b2++b1))++[An V S L a 1])) w):=by
 have hn:=Ql A.hR;have HP:=q9 hP;have H0:=q9 (TO.new A);have HR:=q9 A.hR;have HF:=q9 A.fi
 have HN:Hid ((!decide (t.root=s.root))=true/\(!decide (c0.root=c1.root))=true):=q9 ⟨by rw[A.fi.root_dec hP.ht hP.hs (Ne.symm hP.st)];rfl,by rw[A.fi.root_dec hP.h0 hP.h1 (Ne.symm hP.d1)];rfl⟩
 have HX:Hid (An V S L a 0∈c0.row/\An V S L a 1∈c1.row):=q9 ⟨by rw[hP.r0];simp,by rw[hP.r1];simp⟩
 clear A hP
 go_enter Tryz.func62,Tryz.ntmps62
 go_wp2_with fail
 generalize w.heap.size=b at H0 |-;generalize w.alloc (I6 V S T p)=W at H0 |-;obtain⟨y0,y1,y2,y3,y4,y5⟩:=H0.cells;have hlt:=H0.lt
 refine(QmT H0.a hL hu hv HP.ht HP.xt HP.hs HP.ys (by omega)).mono ?_;rintro e w1 ⟨rfl,A1,O1⟩
 have H1:=q9 (H0.next A1 O1);clear H0 A1 O1 y0 y1 y2 y3 y4 y5 hlt;rw[HN.1];obtain⟨y0,y1,y2,y3,y4,y5⟩:=H1.cells;have hlt:=H1.lt;go_wp2_with fail
 refine(QmI H1.a hL ha HP.h0 HX.1 HP.h1 HX.2 (by omega)).mono ?_;rintro e w1 ⟨rfl,A1,O1⟩
 have H2:=q9 (H1.next A1 O1);clear H1 A1 O1 y0 y1 y2 y3 y4 y5 hlt;rw[HN.2];obtain⟨y0,y1,y2,y3,y4,y5⟩:=H2.cells;have hlt:=H2.lt;go_wp2_with fail
 have Hd:=q9 H2.drew;have hrule:=TO.rule b V S T p;clear H2
 go_region_held3 (fun W=>QB W b V S T p) (first|(with_reducible assumption)|(with_reducible exact H5.out.q)|(with_reducible exact H4.out.q)|(with_reducible exact H3.out.q)|(with_reducible exact Hd.out.q))
  (first
   |(go_at_call 116;((with_reducible refine(Qk9 Hd.out.a hL hu HP.out.ht HP.out.rt (by omega)).mono ?_);rintro e w2 ⟨ts1,t1,rfl,A1,M1,R1,K1,O1⟩;have H3:=q9 (Hd.out.next A1 O1);have HM1:=q9 M1;have HR1:=q9 R1;have HK1:=q9 K1))
   |(go_at_call 66;((with_reducible refine(QdU HR.out hL ha _).mono ?_);rintro e w2 ⟨rfl,B1⟩;have H4:=q9 (H3.out.below B1)))
   |(go_at_call 115;((with_reducible refine(QbB H4.out.a (Mb.inn HM1.out) (Mb.inn (HK1.out c0 HP.out.h0 HP.out.t0)) (Ne.symm (HF.out.begun_ne HP.out.h0 HP.out.ht HP.out.t0 HP.out.rt HR1.out)) (by omega) rfl HP.out.q0).mono ?_);rintro e w2 ⟨ts2,t2,rfl,A1,M2,R2,K2,O1⟩;have H5:=q9 (H4.out.next A1 O1);have HM2:=q9 M2;have HR2:=q9 R2;have HK2:Hid (∀ z∈ts,z≠t->z≠c0->z∈ts2):=q9 (fun z hz h1 h2=>K2 z (HK1.out z hz h1) (HF.out.begun_ne hz HP.out.ht h1 HP.out.rt HR1.out) h2))))
 clear Hd H3 H4 y0 y1 y2 y3 y4 y5 hlt hrule;obtain⟨y0,y1,y2,y3,y4,y5⟩:=H5.cells;have hlt:=H5.lt;go_wp2_with fail
 have Hd:=q9 H5.drew;have hrule:=TO.rule b V S T p;clear H5
 go_region_held3 (fun W=>QB W b V S T p) (first|(with_reducible assumption)|(with_reducible exact H7.out.q)|(with_reducible exact H6.out.q)|(with_reducible exact Hd.out.q))
  (first
   |(go_at_call 116;((with_reducible refine(Qk9 Hd.out.a hL hv (HK2.out s HP.out.hs HP.out.st (Ne.symm HP.out.s0)) HP.out.rs (by omega)).mono ?_);rintro e w2 ⟨ts3,s1,rfl,A1,M3,R3,K3,O1⟩;have H6:=q9 (Hd.out.next A1 O1);have HM3:=q9 M3;have HR3:=q9 R3;have HK3:=q9 K3))
   |(go_at_call 115;((with_reducible refine(QbB H6.out.a (Mb.inn (HK3.out t2 HM2.out (Ne.symm (HP.out.not_tj HF.out HP.out.hs HP.out.st (Four.t2x HR1.out HR2.out))))) (Mb.inn HM3.out) (HP.out.t2sj HF.out HR1.out HR2.out HR3.out) (by omega) rfl rfl).mono ?_);rintro e w2 ⟨ts4,t4,rfl,A1,M4,R4,K4,O1⟩;have H7:=q9 (H6.out.next A1 O1);have HM4:=q9 M4;have HR4:=q9 R4;have HK4:Hid (∀ z∈ts,z≠t->z≠s->z≠c0->z∈ts4):=q9 (fun z hz h1 h2 h3=>K4 z (HK3.out z (HK2.out z hz h1 h3) h2) (HP.out.not_tj HF.out hz h1 (Four.t2x HR1.out HR2.out)) (HF.out.begun_ne hz HP.out.hs h2 HP.out.rs HR3.out)))))
 clear Hd H6 y0 y1 y2 y3 y4 y5 hlt hrule;obtain⟨y0,y1,y2,y3,y4,y5⟩:=H7.cells;have hlt:=H7.lt;go_wp2_with fail
 have Hd:=q9 H7.drew;have hrule:=TO.rule b V S T p;clear H7
 go_region_held3 (fun W=>QB W b V S T p) (first|(with_reducible assumption)|(with_reducible exact H9.out.q)|(with_reducible exact H8.out.q)|(with_reducible exact Hd.out.q))
  (first
   |(go_at_call 66;((with_reducible refine(QeY HR.out hL ha _).mono ?_);rintro e w2 ⟨rfl,B1⟩;have H8:=q9 (Hd.out.below B1)))
   |(go_at_call 115;((with_reducible refine(QbB H8.out.a (Mb.inn HM4.out) (Mb.inn (HK4.out c1 HP.out.h1 HP.out.t1 HP.out.s1 HP.out.d1)) (Ne.symm (HP.out.not_tj HF.out HP.out.h1 HP.out.t1 (Four.t4x HR1.out HR2.out HR4.out))) (by omega) rfl HP.out.q1).mono ?_);rintro e w2 ⟨ts5,t5,rfl,A1,M5,R5,K5,O1⟩;have H9:=q9 (H8.out.next A1 O1);have HM5:=q9 M5;have HR5:=q9 R5;have HK5:Hid (∀ z∈ts,z≠t->z≠s->z≠c0->z≠c1->z∈ts5):=q9 (fun z hz h1 h2 h3 h4=>K5 z (HK4.out z hz h1 h2 h3) (HP.out.not_tj HF.out hz h1 (Four.t4x HR1.out HR2.out HR4.out)) h4))))
 clear Hd H8 y0 y1 y2 y3 y4 y5 hlt hrule;obtain⟨y0,y1,y2,y3,y4,y5⟩:=H9.cells;have hlt:=H9.lt;go_wp2_with fail
 go_ret
 refine⟨ts5,t5,rfl,H9.a.more (by omega),HM5,?_,HK5,H9.o⟩
 rw[HR5.out,HR4.out,HR3.out,HR2.out,HR1.out,HP.r0,HP.r1];simp
theorem Qdt (A:TA w V S T p gb cap m f mk ts){L a:Nat}(hL:(L:Int)<lv V)(ha:(a:Int)<S)(ht:t∈ts)(hx:An V S L a 0∈t.row)(hy:An V S L a 1∈t.row)(hm:m<=99970000):
 Calls Tryz.prog 24 #[vTr V S T p,I (L:Int),I (a:Int)] w (Dta V S T p gb cap (m+2*nN V S) f mk ts (.bool true) w):=by
 have:=Qez A hL ha ht hx ht hy hm
 rwa [decide_eq_true rfl] at this
end
section
variable {w w' w0:World}{V S T:Int}{b p gb cap m m' i k x y:Nat}{f:Nat->Int}{mk mk':Nat->Nat}{ts ts':List Tp}{t s u z ta tb:Tp}
def CtD (V S T:Int)(p gb cap m:Nat)(f:Nat->Int)(mk':Nat->Nat)(ts:List Tp)(t:Tp)(c d:Nat)(qq oo:List Nat)(w:World)(e:Ending)(w':World):Prop:=
 ∃ ts' ti tu ct dt,e=.returned (.tuple #[I ((ti.root:Nat):Int),I ((tu.root:Nat):Int)])/\TA w' V S T p gb cap m f mk' ts'/\ti∈ts'/\tu∈ts'/\ti.row=qq/\tu.row=oo/\ct∈ts'/\ct.row=[c]/\dt∈ts'/\dt.row=[d]/\(∀ z∈ts,z≠t->z∈ts')/\Only p gb w w'
set_option maxHeartbeats 1000000 in
theorem QmQ {L a:Nat}{pp qq rr:List Nat}(A:TA w V S T p gb cap m f mk ts)(hL:(L:Int)<lv V)(ha:(a:Int)<S)(ht:t∈ts)(hP:Qj t (An V S L a 0) (An V S L a 1) pp qq rr)(hm:m<=99800000):
 Calls Tryz.prog 64 #[vTr V S T p,I (L:Int),I (a:Int)] w (CtD V S T p gb cap (m+72*nN V S+50) f (Qbg (Qbg mk (An V S L a 0)) (An V S L a 1)) ts t (An V S L a 0) (An V S L a 1) qq (pp++rr) w):=by
 have hn:=Ql A.hR;have HP:=q9 hP;have HT:=q9 ht;have H0:=q9 (TO.new A);have HR:=q9 A.hR;have HF:=q9 A.fi
 have hlen:pp.length+qq.length+2<=560:=by
  have:=A.fi.size ht;unfold Tp.size at this;rw[hP.row] at this;simp only[List.length_append,List.length_cons] at this;omega
 obtain⟨n1,hn1⟩:∃ n,pp.length=n:=⟨_,rfl⟩;obtain⟨n2,hn2⟩:∃ n,pp.length+qq.length+1=n:=⟨_,rfl⟩;have HN1:=q9 hn1;have HN2:=q9 hn2
 have hlt12:n1<n2:=by omega
 have hb2:n2<=560:=by omega
 have HI1:Hid (t.row=pp++An V S L a 0 :: (qq++An V S L a 1 :: rr)):=q9 hP.row
 have HI2:Hid (t.row=(pp++An V S L a 0 :: qq)++An V S L a 1 :: rr):=q9 (by rw[hP.row];simp)
 have HL2:Hid (((pp++An V S L a 0 :: qq).length:Int)=(n2:Int)):=q9 (by simp;omega)
 have wr1:IntKind.i64.wrap ((n2:Int)+1)=(n2:Int)+1:=IntWalk.i64_in _ (by omega)
 have wr2:IntKind.i64.wrap ((n1:Int)+1)=(n1:Int)+1:=IntWalk.i64_in _ (by omega)
 have hmin:min (n1:Int) (n2:Int)=n1:=Int.min_eq_left (by omega)
 have hmax:max (n1:Int) (n2:Int)=n2:=Int.max_eq_right (by omega)
 have hmin2:min (n2:Int) (n1:Int)=n1:=Int.min_eq_right (by omega)
 have hmax2:max (n2:Int) (n1:Int)=n2:=Int.max_eq_left (by omega)
 have HK1:Hid ((n2:Int)+1=((pp++An V S L a 0 :: (qq++[An V S L a 1])).length:Int)):=q9 (by simp;omega)
 have HK2:Hid ((n2:Int)=((pp++An V S L a 0 :: qq).length:Int)):=q9 (by simp;omega)
 have HK3:Hid ((n1:Int)+1=((pp++[An V S L a 0]).length:Int)):=q9 (by simp;omega)
 have HK4:Hid ((n1:Int)=(pp.length:Int)):=q9 (by omega)
 clear A ht hP hlen hn1 hn2
 go_enter Tryz.func64,Tryz.ntmps64
 go_wp2_with fail
 generalize w.heap.size=b at H0 |-;generalize w.alloc (I6 V S T p)=W at H0 |-;obtain⟨y0,y1,y2,y3,y4,y5⟩:=H0.cells;have hlt:=H0.lt
 refine(Qdt H0.a hL ha HT HP.c_in HP.d_in (by omega)).mono ?_;rintro e w1 ⟨rfl,A1,O1⟩
 have H1:=q9 (H0.next A1 O1);clear H0 A1 O1 y0 y1 y2 y3 y4 y5 hlt;obtain⟨y0,y1,y2,y3,y4,y5⟩:=H1.cells;have hlt:=H1.lt;go_wp2_with fail
 have Hd:=q9 H1.drew;have hrule:=TO.rule b V S T p;clear H1
 go_region_held3 (fun W=>QB W b V S T p) (first|(with_reducible assumption)|(with_reducible exact H3.out.q)|(with_reducible exact H2.out.q)|(with_reducible exact Hd.out.q))
  (first
   |(go_at_call 66;((with_reducible refine(QdU HR.out hL ha _).mono ?_);rintro e w2 ⟨rfl,B1⟩;have H2:=q9 (Hd.out.below B1)))
   |(go_at_call 66;((with_reducible refine(QeY HR.out hL ha _).mono ?_);rintro e w2 ⟨rfl,B1⟩;have H3:=q9 (H2.out.below B1))))
 clear Hd H2 y0 y1 y2 y3 y4 y5 hlt hrule;obtain⟨y0,y1,y2,y3,y4,y5⟩:=H3.cells;have hlt:=H3.lt;go_wp2_with fail
 have Hd:=q9 H3.drew;have hrule:=TO.rule b V S T p;clear H3
 go_region_held3 (fun W=>QB W b V S T p) (first|(with_reducible assumption)|(with_reducible exact H5.out.q)|(with_reducible exact H4.out.q)|(with_reducible exact Hd.out.q))
  (first
   |(go_at_call 119;((with_reducible refine(Qcg Hd.out.a HT.out HI1.out (by omega) rfl).mono ?_);rintro e w2 ⟨rfl,A1,O1⟩;have H4:=q9 (Hd.out.next A1 O1);rw[HN1.out]))
   |(go_at_call 119;((with_reducible refine(Qcg H4.out.a HT.out HI2.out (by omega) rfl).mono ?_);rintro e w2 ⟨rfl,A1,O1⟩;have H5:=q9 (H4.out.next A1 O1);rw[HL2.out])))
 clear Hd H4 y0 y1 y2 y3 y4 y5 hlt hrule;obtain⟨y0,y1,y2,y3,y4,y5⟩:=H5.cells;have hlt:=H5.lt;go_wp2_with fail
 have Hd:=q9 H5.drew;have hrule:=TO.rule b V S T p;clear H5
 go_region_held3 (fun W=>QB W b V S T p) (first|(with_reducible assumption)|(with_reducible exact H7.out.q)|(with_reducible exact H6.out.q)|(with_reducible exact Hd.out.q))
  (first
   |(go_at_call 95;((with_reducible refine(QbX Hd.out.a HT.out HP.out.c_in (by omega) rfl).mono ?_);rintro e w2 ⟨rfl,A1,O1⟩;have H6:=q9 (Hd.out.next A1 O1)))
   |(go_at_call 120;((with_reducible refine(QaA H6.out.a HT.out HP.out.cut1 (by omega) rfl (HK1.out)).mono ?_);rintro e w2 ⟨ts1,u1,be,rfl,A1,Mu,Mb1,Ru,Rb,K1,O1⟩;have H7:=q9 (H6.out.next A1 O1);have HU1:=q9 (And.intro (Mu.of (HP.out.ne1 Ru)) Ru);have HBE:=q9 (And.intro Mb1 Rb);have HK1b:=q9 K1)))
 clear Hd H6 y0 y1 y2 y3 y4 y5 hlt hrule;obtain⟨y0,y1,y2,y3,y4,y5⟩:=H7.cells;have hlt:=H7.lt;go_wp2_with fail
 refine(QaA H7.a HU1.1 (HP.cut2 HU1.2) (by omega) rfl HK2).mono ?_;rintro e w1 ⟨ts2,u2,dt,rfl,A1,Mu,Md,Ru,Rd,K2,O1⟩
 have H8:=q9 (H7.next A1 O1);have HU2:=q9 (And.intro (Mu.of (HP.ne2 Ru)) Ru)
 have HDT:=q9 (And.intro (Md.of (by rw[Rd];simp)) Rd)
 have HK2b:=q9 K2;clear H7 A1 O1 y0 y1 y2 y3 y4 y5 hlt;obtain⟨y0,y1,y2,y3,y4,y5⟩:=H8.cells;have hlt:=H8.lt;go_wp2_with fail
 refine(QaA H8.a HU2.1 (HP.cut3 HU2.2) (by omega) rfl HK3).mono ?_;rintro e w1 ⟨ts3,u3,inn,rfl,A1,Mu,Md,Ru,Rd,K3,O1⟩
 have H9:=q9 (H8.next A1 O1);have HU3:=q9 (And.intro (Mu.of (HP.ne3 Ru)) Ru)
 have HIN:=q9 (And.intro (Md.of (by rw[Rd];exact HP.q0)) Rd)
 have HK3b:=q9 K3;clear H8 A1 O1 y0 y1 y2 y3 y4 y5 hlt;obtain⟨y0,y1,y2,y3,y4,y5⟩:=H9.cells;have hlt:=H9.lt;go_wp2_with fail
 refine(QaA H9.a HU3.1 HU3.2 (by omega) rfl HK4).mono ?_;rintro e w1 ⟨ts4,ah,ct,rfl,A1,Mu,Md,Ru,Rd,K4,O1⟩
 have H10:=q9 (H9.next A1 O1);have HAH:=q9 (And.intro Mu Ru)
 have HCT:=q9 (And.intro (Md.of (by rw[Rd];simp)) Rd)
 have HK4b:=q9 K4;clear H9 A1 O1 y0 y1 y2 y3 y4 y5 hlt;obtain⟨y0,y1,y2,y3,y4,y5⟩:=H10.cells;have hlt:=H10.lt;go_wp2_with fail
 have HDT4:=q9 (And.intro (HK4b.out _ (HK3b.out _ HDT.1 (HP.dt_ne HDT.2 HU2.2)) (HP.dt_ne3 HDT.2 HU3.2)) HDT.2);have HIN4:=q9 (And.intro (HK4b.out _ HIN.1 (HP.in_ne HIN.2 HU3.2)) HIN.2);have HBE4:=q9 (And.intro (((HBE.1.keep HK2b.out (HP.be_ne1 HBE.2 HU1.2)).keep HK3b.out (HP.be_ne2 HBE.2 HU2.2)).keep HK4b.out (HP.be_ne3 HBE.2 HU3.2)) HBE.2)
 have HZ4:Hid (∀ z∈ts,z≠t->z∈ts4/\z≠ah/\z≠be):=q9 fun z hz hne=>⟨HK4b.out z (HK3b.out z (HK2b.out z (HK1b.out z hz hne) (HP.sub1j HU1.2 HF.out hz HT.out hne)) (HP.sub2j HU2.2 HF.out hz HT.out hne)) (HP.sub3j HU3.2 HF.out hz HT.out hne),HP.sub4j HAH.2 HF.out hz HT.out hne,HP.sub5j HBE.2 HF.out hz HT.out hne⟩
 clear HK1b HK2b HK3b HK4b HU1 HU2 HU3 HDT HIN HBE
 refine(Qdb H10.a HCT.1 HCT.2 (by omega) rfl).mono ?_;rintro e w1 ⟨rfl,A1,O1⟩
 have H11:=q9 (H10.next A1 O1);clear H10 A1 O1 y0 y1 y2 y3 y4 y5 hlt;obtain⟨y0,y1,y2,y3,y4,y5⟩:=H11.cells;have hlt:=H11.lt;go_wp2_with fail
 refine(Qdb H11.a HDT4.1 HDT4.2 (by omega) rfl).mono ?_;rintro e w1 ⟨rfl,A1,O1⟩
 have H12:=q9 (H11.next A1 O1);clear H11 A1 O1 y0 y1 y2 y3 y4 y5 hlt;obtain⟨y0,y1,y2,y3,y4,y5⟩:=H12.cells;have hlt:=H12.lt;go_wp2_with fail
 refine(QbB H12.a HAH.1 HBE4.1 (HP.ah_be HAH.2 HBE4.2) (by omega) rfl rfl).mono ?_;rintro e w1 ⟨ts7,tu,rfl,A1,M7,R7,K7,O1⟩
 have H13:=q9 (H12.next A1 O1);have HM7:=q9 M7;have HR7:=q9 R7;have HK7:=q9 K7;clear M7 R7 K7;clear H12 A1 O1 y0 y1 y2 y3 y4 y5 hlt;obtain⟨y0,y1,y2,y3,y4,y5⟩:=H13.cells;have hlt:=H13.lt;go_wp2_with fail
 go_ret2
 refine⟨ts7,inn,tu,ct,dt,rfl,H13.a.more (by omega),?_,HM7.out,HIN4.2,by rw[HR7.out,HAH.2,HBE4.2],?_,HCT.2,?_,HDT4.2,fun z hz hne=>?_,H13.o⟩
 . exact HK7 _ HIN4.1 (HP.inn_ne HIN4.2 (.inl HAH.2)) (HP.inn_ne HIN4.2 (.inr HBE4.2))
 . exact HK7 _ HCT.1 (HP.ct_ne HCT.2 (.inl HAH.2)) (HP.ct_ne HCT.2 (.inr HBE4.2))
 . exact HK7 _ HDT4.1 (HP.dt_no HDT4.2 (.inl HAH.2)) (HP.dt_no HDT4.2 (.inr HBE4.2))
 . exact HK7 z (HZ4 z hz hne).1 (HZ4 z hz hne).2.1 (HZ4 z hz hne).2.2
set_option maxHeartbeats 1000000 in
theorem QmP {L a:Nat}{pp qq rr:List Nat}(A:TA w V S T p gb cap m f mk ts)(hL:(L:Int)<lv V)(ha:(a:Int)<S)(ht:t∈ts)(hP:Qj t (An V S L a 1) (An V S L a 0) pp qq rr)(hm:m<=99800000):
 Calls Tryz.prog 64 #[vTr V S T p,I (L:Int),I (a:Int)] w (CtD V S T p gb cap (m+72*nN V S+50) f (Qbg (Qbg mk (An V S L a 0)) (An V S L a 1)) ts t (An V S L a 1) (An V S L a 0) qq (pp++rr) w):=by
 have hn:=Ql A.hR;have HP:=q9 hP;have HT:=q9 ht;have H0:=q9 (TO.new A);have HR:=q9 A.hR;have HF:=q9 A.fi
 have hlen:pp.length+qq.length+2<=560:=by
  have:=A.fi.size ht;unfold Tp.size at this;rw[hP.row] at this;simp only[List.length_append,List.length_cons] at this;omega
 obtain⟨n1,hn1⟩:∃ n,pp.length=n:=⟨_,rfl⟩;obtain⟨n2,hn2⟩:∃ n,pp.length+qq.length+1=n:=⟨_,rfl⟩;have HN1:=q9 hn1;have HN2:=q9 hn2
 have hlt12:n1<n2:=by omega
 have hb2:n2<=560:=by omega
 have HI1:Hid (t.row=pp++An V S L a 1 :: (qq++An V S L a 0 :: rr)):=q9 hP.row
 have HI2:Hid (t.row=(pp++An V S L a 1 :: qq)++An V S L a 0 :: rr):=q9 (by rw[hP.row];simp)
 have HL2:Hid (((pp++An V S L a 1 :: qq).length:Int)=(n2:Int)):=q9 (by simp;omega)
 have wr1:IntKind.i64.wrap ((n2:Int)+1)=(n2:Int)+1:=IntWalk.i64_in _ (by omega)
 have wr2:IntKind.i64.wrap ((n1:Int)+1)=(n1:Int)+1:=IntWalk.i64_in _ (by omega)
 have hmin:min (n1:Int) (n2:Int)=n1:=Int.min_eq_left (by omega)
 have hmax:max (n1:Int) (n2:Int)=n2:=Int.max_eq_right (by omega)
 have hmin2:min (n2:Int) (n1:Int)=n1:=Int.min_eq_right (by omega)
 have hmax2:max (n2:Int) (n1:Int)=n2:=Int.max_eq_left (by omega)
 have HK1:Hid ((n2:Int)+1=((pp++An V S L a 1 :: (qq++[An V S L a 0])).length:Int)):=q9 (by simp;omega)
 have HK2:Hid ((n2:Int)=((pp++An V S L a 1 :: qq).length:Int)):=q9 (by simp;omega)
 have HK3:Hid ((n1:Int)+1=((pp++[An V S L a 1]).length:Int)):=q9 (by simp;omega)
 have HK4:Hid ((n1:Int)=(pp.length:Int)):=q9 (by omega)
 clear A ht hP hlen hn1 hn2
 go_enter Tryz.func64,Tryz.ntmps64
 go_wp2_with fail
 generalize w.heap.size=b at H0 |-;generalize w.alloc (I6 V S T p)=W at H0 |-;obtain⟨y0,y1,y2,y3,y4,y5⟩:=H0.cells;have hlt:=H0.lt
 refine(Qdt H0.a hL ha HT HP.d_in HP.c_in (by omega)).mono ?_;rintro e w1 ⟨rfl,A1,O1⟩
 have H1:=q9 (H0.next A1 O1);clear H0 A1 O1 y0 y1 y2 y3 y4 y5 hlt;obtain⟨y0,y1,y2,y3,y4,y5⟩:=H1.cells;have hlt:=H1.lt;go_wp2_with fail
 have Hd:=q9 H1.drew;have hrule:=TO.rule b V S T p;clear H1
 go_region_held3 (fun W=>QB W b V S T p) (first|(with_reducible assumption)|(with_reducible exact H3.out.q)|(with_reducible exact H2.out.q)|(with_reducible exact Hd.out.q))
  (first
   |(go_at_call 66;((with_reducible refine(QdU HR.out hL ha _).mono ?_);rintro e w2 ⟨rfl,B1⟩;have H2:=q9 (Hd.out.below B1)))
   |(go_at_call 66;((with_reducible refine(QeY HR.out hL ha _).mono ?_);rintro e w2 ⟨rfl,B1⟩;have H3:=q9 (H2.out.below B1))))
 clear Hd H2 y0 y1 y2 y3 y4 y5 hlt hrule;obtain⟨y0,y1,y2,y3,y4,y5⟩:=H3.cells;have hlt:=H3.lt;go_wp2_with fail
 have Hd:=q9 H3.drew;have hrule:=TO.rule b V S T p;clear H3
 go_region_held3 (fun W=>QB W b V S T p) (first|(with_reducible assumption)|(with_reducible exact H5.out.q)|(with_reducible exact H4.out.q)|(with_reducible exact Hd.out.q))
  (first
   |(go_at_call 119;((with_reducible refine(Qcg Hd.out.a HT.out HI2.out (by omega) rfl).mono ?_);rintro e w2 ⟨rfl,A1,O1⟩;have H4:=q9 (Hd.out.next A1 O1);rw[HL2.out]))
   |(go_at_call 119;((with_reducible refine(Qcg H4.out.a HT.out HI1.out (by omega) rfl).mono ?_);rintro e w2 ⟨rfl,A1,O1⟩;have H5:=q9 (H4.out.next A1 O1);rw[HN1.out])))
 clear Hd H4 y0 y1 y2 y3 y4 y5 hlt hrule;obtain⟨y0,y1,y2,y3,y4,y5⟩:=H5.cells;have hlt:=H5.lt;go_wp2_with fail
 have Hd:=q9 H5.drew;have hrule:=TO.rule b V S T p;clear H5
 go_region_held3 (fun W=>QB W b V S T p) (first|(with_reducible assumption)|(with_reducible exact H7.out.q)|(with_reducible exact H6.out.q)|(with_reducible exact Hd.out.q))
  (first
   |(go_at_call 95;((with_reducible refine(QbX Hd.out.a HT.out HP.out.d_in (by omega) rfl).mono ?_);rintro e w2 ⟨rfl,A1,O1⟩;have H6:=q9 (Hd.out.next A1 O1)))
   |(go_at_call 120;((with_reducible refine(QaA H6.out.a HT.out HP.out.cut1 (by omega) rfl (HK1.out)).mono ?_);rintro e w2 ⟨ts1,u1,be,rfl,A1,Mu,Mb1,Ru,Rb,K1,O1⟩;have H7:=q9 (H6.out.next A1 O1);have HU1:=q9 (And.intro (Mu.of (HP.out.ne1 Ru)) Ru);have HBE:=q9 (And.intro Mb1 Rb);have HK1b:=q9 K1)))
 clear Hd H6 y0 y1 y2 y3 y4 y5 hlt hrule;obtain⟨y0,y1,y2,y3,y4,y5⟩:=H7.cells;have hlt:=H7.lt;go_wp2_with fail
 refine(QaA H7.a HU1.1 (HP.cut2 HU1.2) (by omega) rfl HK2).mono ?_;rintro e w1 ⟨ts2,u2,dt,rfl,A1,Mu,Md,Ru,Rd,K2,O1⟩
 have H8:=q9 (H7.next A1 O1);have HU2:=q9 (And.intro (Mu.of (HP.ne2 Ru)) Ru)
 have HDT:=q9 (And.intro (Md.of (by rw[Rd];simp)) Rd)
 have HK2b:=q9 K2;clear H7 A1 O1 y0 y1 y2 y3 y4 y5 hlt;obtain⟨y0,y1,y2,y3,y4,y5⟩:=H8.cells;have hlt:=H8.lt;go_wp2_with fail
 refine(QaA H8.a HU2.1 (HP.cut3 HU2.2) (by omega) rfl HK3).mono ?_;rintro e w1 ⟨ts3,u3,inn,rfl,A1,Mu,Md,Ru,Rd,K3,O1⟩
 have H9:=q9 (H8.next A1 O1);have HU3:=q9 (And.intro (Mu.of (HP.ne3 Ru)) Ru)
 have HIN:=q9 (And.intro (Md.of (by rw[Rd];exact HP.q0)) Rd)
 have HK3b:=q9 K3;clear H8 A1 O1 y0 y1 y2 y3 y4 y5 hlt;obtain⟨y0,y1,y2,y3,y4,y5⟩:=H9.cells;have hlt:=H9.lt;go_wp2_with fail
 refine(QaA H9.a HU3.1 HU3.2 (by omega) rfl HK4).mono ?_;rintro e w1 ⟨ts4,ah,ct,rfl,A1,Mu,Md,Ru,Rd,K4,O1⟩
 have H10:=q9 (H9.next A1 O1);have HAH:=q9 (And.intro Mu Ru)
 have HCT:=q9 (And.intro (Md.of (by rw[Rd];simp)) Rd)
 have HK4b:=q9 K4;clear H9 A1 O1 y0 y1 y2 y3 y4 y5 hlt;obtain⟨y0,y1,y2,y3,y4,y5⟩:=H10.cells;have hlt:=H10.lt;go_wp2_with fail
 have HDT4:=q9 (And.intro (HK4b.out _ (HK3b.out _ HDT.1 (HP.dt_ne HDT.2 HU2.2)) (HP.dt_ne3 HDT.2 HU3.2)) HDT.2);have HIN4:=q9 (And.intro (HK4b.out _ HIN.1 (HP.in_ne HIN.2 HU3.2)) HIN.2);have HBE4:=q9 (And.intro (((HBE.1.keep HK2b.out (HP.be_ne1 HBE.2 HU1.2)).keep HK3b.out (HP.be_ne2 HBE.2 HU2.2)).keep HK4b.out (HP.be_ne3 HBE.2 HU3.2)) HBE.2)
 have HZ4:Hid (∀ z∈ts,z≠t->z∈ts4/\z≠ah/\z≠be):=q9 fun z hz hne=>⟨HK4b.out z (HK3b.out z (HK2b.out z (HK1b.out z hz hne) (HP.sub1j HU1.2 HF.out hz HT.out hne)) (HP.sub2j HU2.2 HF.out hz HT.out hne)) (HP.sub3j HU3.2 HF.out hz HT.out hne),HP.sub4j HAH.2 HF.out hz HT.out hne,HP.sub5j HBE.2 HF.out hz HT.out hne⟩
 clear HK1b HK2b HK3b HK4b HU1 HU2 HU3 HDT HIN HBE
 refine(Qdb H10.a HDT4.1 HDT4.2 (by omega) rfl).mono ?_;rintro e w1 ⟨rfl,A1,O1⟩
 have H11:=q9 (H10.next A1 O1);clear H10 A1 O1 y0 y1 y2 y3 y4 y5 hlt;obtain⟨y0,y1,y2,y3,y4,y5⟩:=H11.cells;have hlt:=H11.lt;go_wp2_with fail
 refine(Qdb H11.a HCT.1 HCT.2 (by omega) rfl).mono ?_;rintro e w1 ⟨rfl,A1,O1⟩
 have H12:=q9 (H11.next A1 O1);clear H11 A1 O1 y0 y1 y2 y3 y4 y5 hlt;obtain⟨y0,y1,y2,y3,y4,y5⟩:=H12.cells;have hlt:=H12.lt;go_wp2_with fail
 refine(QbB H12.a HAH.1 HBE4.1 (HP.ah_be HAH.2 HBE4.2) (by omega) rfl rfl).mono ?_;rintro e w1 ⟨ts7,tu,rfl,A1,M7,R7,K7,O1⟩
 have H13:=q9 (H12.next A1 O1);have HM7:=q9 M7;have HR7:=q9 R7;have HK7:=q9 K7;clear M7 R7 K7;clear H12 A1 O1 y0 y1 y2 y3 y4 y5 hlt;obtain⟨y0,y1,y2,y3,y4,y5⟩:=H13.cells;have hlt:=H13.lt;go_wp2_with fail
 go_ret2
 refine⟨ts7,inn,tu,ct,dt,rfl,H13.a.more (by omega),?_,HM7.out,HIN4.2,by rw[HR7.out,HAH.2,HBE4.2],?_,HCT.2,?_,HDT4.2,fun z hz hne=>?_,H13.o⟩
 . exact HK7 _ HIN4.1 (HP.inn_ne HIN4.2 (.inl HAH.2)) (HP.inn_ne HIN4.2 (.inr HBE4.2))
 . exact HK7 _ HCT.1 (HP.ct_ne HCT.2 (.inl HAH.2)) (HP.ct_ne HCT.2 (.inr HBE4.2))
 . exact HK7 _ HDT4.1 (HP.dt_no HDT4.2 (.inl HAH.2)) (HP.dt_no HDT4.2 (.inr HBE4.2))
 . exact HK7 z (HZ4 z hz hne).1 (HZ4 z hz hne).2.1 (HZ4 z hz hne).2.2
end
end Go.Proofs.YtaooglagddphnaaGreat
