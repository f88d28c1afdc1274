/- ZC -/
import Derived.Test.YtaooglagddphnaaGreatRows
import Derived.Test.YtaooglagddphnaaGreatXZA
import Derived.Test.YtaooglagddphnaaGreatXZB
import Derived.Test.YtaooglagddphnaaGreatXW
namespace Go.Proofs.YtaooglagddphnaaGreat
inductive Tp where
 |nil:Tp
 |node (l:Tp) (x:Nat) (r:Tp):Tp
namespace Tp
def root:Tp->Nat
 |nil=>0
 |node _ x _=>x
def row:Tp->List Nat
 |nil=>[]
 |node l x r=>l.row++x :: r.row
def size (t:Tp):Nat:=t.row.length
theorem row_node (l:Tp)(x:Nat)(r:Tp):(Tp.node l x r).row=l.row++x :: r.row:=rfl
theorem size_node (l:Tp)(x:Nat)(r:Tp):(Tp.node l x r).size=l.size+1+r.size:=by simp [size,row];omega
theorem size_nil:Tp.nil.size=0:=rfl
theorem root_mem:∀ {t:Tp},t.root≠0->t.root∈t.row
 |nil,h=>absurd rfl h
 |node l x r,_=>by simp [root,row]
theorem row_eq_nil {t:Tp}(h:t.row=[]):t=nil:=by
 cases t with
 |nil=>rfl
 |node l x r=>simp [row] at h
end Tp
def ab (pri:Nat->Nat)(x y:Nat):Bool:=decide (pri y<pri x\/(pri x=pri y/\x<y))
theorem QdV {pri:Nat->Nat}{x y:Nat}:ab pri x y=true↔(pri y<pri x\/(pri x=pri y/\x<y)):=by unfold ab;exact decide_eq_true_iff
theorem Qdo {pri:Nat->Nat}{x y z:Nat}(h1:ab pri x y=true)(h2:ab pri y z=true):ab pri x z=true:=by rw[QdV] at *;omega
theorem QkS {pri:Nat->Nat}{x y:Nat}(h1:ab pri x y=true):ab pri y x=false:=by rw[Bool.eq_false_iff,Ne,QdV];rw[QdV] at h1;omega
theorem QkR {pri:Nat->Nat}{x y:Nat}(h:x≠y)(h1:ab pri x y=false):ab pri y x=true:=by rw[Bool.eq_false_iff,Ne,QdV] at h1;rw[QdV];omega
def Hp (pri:Nat->Nat):Tp->Prop
 |.nil=>True
 |.node l x r=>(∀ y∈l.row,ab pri x y=true)/\(∀ y∈r.row,ab pri x y=true)/\Hp pri l/\Hp pri r
def cntV (vx:Nat->Bool)(l:List Nat):Nat:=(l.filter vx).length
def allM (mk:Nat->Nat):List Nat->Nat
 |[]=>0
 |x :: l=>mk x ||| allM mk l
theorem QeU (vx:Nat->Bool)(a b:List Nat):cntV vx (a++b)=cntV vx a+cntV vx b:=by simp [cntV]
theorem Qbx (vx:Nat->Bool)(x:Nat)(b:List Nat):cntV vx (x :: b)=(if vx x then 1 else 0)+cntV vx b:=by
 unfold cntV;rw[List.filter_cons];split<;>simp<;>omega
theorem QcZ (vx:Nat->Bool)(a:List Nat):cntV vx a<=a.length:=List.length_filter_le _ _
theorem Qe2 (mk:Nat->Nat):∀ (a b:List Nat),allM mk (a++b)=allM mk a ||| allM mk b
 |[],b=>by simp [allM]
 |x :: a,b=>by simp [allM,Qe2 mk a b,Nat.or_assoc]
theorem Qcm {a b:Nat}(ha:a<4)(hb:b<4):a ||| b<4:=Nat.or_lt_two_pow (n:=2) ha hb
theorem Qc2 {mk:Nat->Nat}(h:∀ x,mk x<4):∀ (a:List Nat),allM mk a<4
 |[]=>by simp [allM]
 |x :: a=>Qcm (h x) (Qc2 h a)
theorem Qet {mk mk':Nat->Nat}:∀ {a:List Nat},(∀ x∈a,mk' x=mk x)->allM mk' a=allM mk a
 |[],_=>rfl
 |x :: a,h=>by simp only[allM];rw[h x (by simp),Qet fun y hy=>h y (by simp [hy])]
def sumW (n v o a:Nat):Nat:=n+65536*v+4294967296*o+17179869184*a
def nS (s:Nat):Nat:=s % 65536
def vS (s:Nat):Nat:=s / 65536 % 65536
def oS (s:Nat):Nat:=s / 4294967296 % 4
def aS (s:Nat):Nat:=s / 17179869184 % 4
theorem Qee {n v o a:Nat}(h1:n<65536)(h2:v<65536)(h3:o<4)(h4:a<4):nS (sumW n v o a)=n/\vS (sumW n v o a)=v/\oS (sumW n v o a)=o/\aS (sumW n v o a)=a:=by
 unfold sumW nS vS oS aS;omega
def Qfm (n v o a:Nat):Nat:=n ||| v*65536 ||| o*4294967296 ||| a*17179869184
theorem Qil {n v o a:Nat}(hn:n<65536)(hv:v<65536)(ho:o<4):Qfm n v o a=sumW n v o a:=by
 have cm:∀ i x y:Nat,y<2 ^ i->y ||| (x*2 ^ i)=x*2 ^ i+y:=fun i x y hy=>by
  rw[Nat.or_comm,Nat.mul_comm x,<-Nat.two_pow_add_eq_or_of_lt hy]
 unfold Qfm
 rw[show v*65536=v*2 ^ 16 from rfl,show o*4294967296=o*2 ^ 32 from rfl,show a*17179869184=a*2 ^ 34 from rfl,cm 16 v n hn,cm 32 o _ (by omega),cm 34 a _ (by omega)]
 unfold sumW;omega
theorem Qj2 {n v o a:Nat}(hn:n<281474976710656)(hv:v<281474976710656)(ho:o<4)(ha:a<4):Qfm n v o a<18446744073709551616:=by
 unfold Qfm;refine Nat.or_lt_two_pow (n:=64) (Nat.or_lt_two_pow (n:=64) (Nat.or_lt_two_pow (n:=64) ?_ ?_) ?_) ?_<;>omega
def sumT (vx:Nat->Bool)(mk:Nat->Nat):Tp->Nat
 |.nil=>0
 |.node l x r=>sumW (Tp.node l x r).row.length (cntV vx (Tp.node l x r).row) (mk x) (allM mk (Tp.node l x r).row)
theorem Qbl (vx:Nat->Bool)(mk:Nat->Nat)(l:Tp)(x:Nat)(r:Tp):sumT vx mk (.node l x r)=sumW (Tp.node l x r).row.length (cntV vx (Tp.node l x r).row) (mk x) (allM mk (Tp.node l x r).row):=rfl
theorem Qal {vx:Nat->Bool}{mk:Nat->Nat}(hm:∀ x,mk x<4)(t:Tp)(h:t.size<65536):
 nS (sumT vx mk t)=t.size/\vS (sumT vx mk t)=cntV vx t.row/\aS (sumT vx mk t)=allM mk t.row:=by
 cases t with
 |nil=>refine⟨?_,?_,?_⟩<;>simp [nS,vS,aS,sumT,Tp.size,Tp.row,cntV,allM]
 |node l x r=>
  have h1:=Qee (n:=(Tp.node l x r).row.length) (v:=cntV vx (Tp.node l x r).row) (o:=mk x) (a:=allM mk (Tp.node l x r).row) h (Nat.lt_of_le_of_lt (QcZ _ _) h) (hm x) (Qc2 hm _);exact⟨h1.1,h1.2.1,h1.2.2.2⟩
theorem Qch {vx:Nat->Bool}{mk:Nat->Nat}(hm:∀ x,mk x<4){l r:Tp}{x:Nat}(h:(Tp.node l x r).size<65536):oS (sumT vx mk (.node l x r))=mk x:=
 (Qee (n:=(Tp.node l x r).row.length) (v:=cntV vx (Tp.node l x r).row) (o:=mk x) (a:=allM mk (Tp.node l x r).row) h (Nat.lt_of_le_of_lt (QcZ _ _) h) (hm x) (Qc2 hm _)).2.2.1
theorem Qg7 {vx:Nat->Bool}{mk mk':Nat->Nat}{t:Tp}(h:∀ x∈t.row,mk' x=mk x):sumT vx mk' t=sumT vx mk t:=by
 cases t with
 |nil=>rfl
 |node l x r=>rw[Qbl,Qbl,h x (by simp [Tp.row]),Qet h]
abbrev Mg9:=Nat->Nat->Nat
def up2 (g:Mg9)(x k v:Nat):Mg9:=fun y j=>if y=x/\j=k then v else g y j
theorem Qaf (g:Mg9)(x k v:Nat):up2 g x k v x k=v:=if_pos ⟨rfl,rfl⟩
theorem Qh (g:Mg9){x y:Nat}(k v j:Nat)(h:y≠x):up2 g x k v y j=g y j:=if_neg fun e=>h e.1
theorem Qp (g:Mg9){k j:Nat}(x y v:Nat)(h:j≠k):up2 g x k v y j=g y j:=if_neg fun e=>h e.2
def Qe (vx:Nat->Bool)(mk:Nat->Nat)(g:Mg9):Tp->Prop
 |.nil=>True
 |.node l x r=>g x 3=l.root/\g x 4=r.root/\g x 6=sumT vx mk (.node l x r)/\(l.root≠0->g l.root 2=x)/\(r.root≠0->g r.root 2=x)/\Qe vx mk g l/\Qe vx mk g r
def Q7 (vx:Nat->Bool)(mk:Nat->Nat)(g:Mg9)(t:Tp):Prop:=Qe vx mk g t/\(t.root≠0->g t.root 2=0)
theorem Qe.congr {vx:Nat->Bool}{mk mk':Nat->Nat}{g g':Mg9}:∀ {t:Tp},Qe vx mk g t->(∀ x∈t.row,mk' x=mk x/\g' x 3=g x 3/\g' x 4=g x 4/\g' x 6=g x 6)->t.row.Nodup->(∀ x∈t.row,x≠t.root->g' x 2=g x 2)->Qe vx mk' g' t
 |.nil,_,_,_,_=>trivial
 |.node l x r,h,h1,hn,h2=>by
  obtain⟨a,b,c,d,e,hl,hr⟩:=h
  have hx:=h1 x (by simp [Tp.row])
  rw[Tp.row_node,List.nodup_append] at hn;obtain⟨nl,nr,nd⟩:=hn;rw[List.nodup_cons] at nr
  have lx:∀ y∈l.row,y≠x:=fun y hy=>nd y hy x (by simp)
  have rx:∀ y∈r.row,y≠x:=fun y hy e=>nr.1 (e ▸ hy)
  refine⟨hx.2.1.trans a,hx.2.2.1.trans b,?_,fun h0=>?_,fun h0=>?_,Qe.congr hl (fun y hy=>h1 y (by simp [Tp.row,hy])) nl fun y hy _=>h2 y (by simp [Tp.row,hy]) (lx y hy),Qe.congr hr (fun y hy=>h1 y (by simp [Tp.row,hy])) nr.2 fun y hy _=>h2 y (by simp [Tp.row,hy]) (rx y hy)⟩
  . rw[hx.2.2.2,c,Qg7 fun y hy=>(h1 y hy).1]
  . rw[h2 _ (by simp [Tp.row,Tp.root_mem h0]) (lx _ (Tp.root_mem h0))];exact d h0
  . rw[h2 _ (by simp [Tp.row,Tp.root_mem h0]) (rx _ (Tp.root_mem h0))];exact e h0
theorem Qe.same {vx:Nat->Bool}{mk:Nat->Nat}{g g':Mg9}{t:Tp}(h:Qe vx mk g t)(hn:t.row.Nodup)(h1:∀ x∈t.row,∀ k,g' x k=g x k):Qe vx mk g' t:=
 h.congr (fun x hx=>⟨rfl,h1 x hx 3,h1 x hx 4,h1 x hx 6⟩) hn fun x hx _=>h1 x hx 2
theorem Q7.same {vx:Nat->Bool}{mk:Nat->Nat}{g g':Mg9}{t:Tp}(h:Q7 vx mk g t)(hn:t.row.Nodup)(h1:∀ x∈t.row,∀ k,g' x k=g x k):Q7 vx mk g' t:=
 ⟨h.1.same hn h1,fun h0=>(h1 _ (Tp.root_mem h0) 2).trans (h.2 h0)⟩
theorem Qe.sum {vx:Nat->Bool}{mk:Nat->Nat}{g:Mg9}(h0:∀ k,g 0 k=0){t:Tp}(h:Qe vx mk g t):g t.root 6=sumT vx mk t:=by
 cases t with
 |nil=>exact h0 6
 |node l x r=>exact h.2.2.1
def Qbe (vx:Nat->Bool)(g:Mg9)(x own:Nat):Mg9:=
 up2 g x 6 (Qfm (1+nS (g (g x 3) 6)+nS (g (g x 4) 6)) ((if vx x then 1 else 0)+vS (g (g x 3) 6)+vS (g (g x 4) 6)) own (own ||| aS (g (g x 3) 6) ||| aS (g (g x 4) 6)))
theorem QI (vx:Nat->Bool)(g:Mg9){x y:Nat}(own k:Nat)(h:y≠x):Qbe vx g x own y k=g y k:=Qh _ _ _ _ h
theorem Qs (vx:Nat->Bool)(g:Mg9){k:Nat}(x y own:Nat)(h:k≠6):Qbe vx g x own y k=g y k:=Qp _ _ _ _ h
theorem QaE {vx:Nat->Bool}{mk:Nat->Nat}(hm:∀ x,mk x<4){g:Mg9}(h0:∀ k,g 0 k=0){l r:Tp}{x:Nat}(hn:(Tp.node l x r).row.Nodup)(hz:(Tp.node l x r).size<65536)
 (a:g x 3=l.root) (b:g x 4=r.root) (c:l.root≠0->g l.root 2=x) (d:r.root≠0->g r.root 2=x) (hl:Qe vx mk g l) (hr:Qe vx mk g r):Qe vx mk (Qbe vx g x (mk x)) (.node l x r):=by
 have hn':=hn;rw[Tp.row_node,List.nodup_append] at hn;obtain⟨nl,nr,nd⟩:=hn;rw[List.nodup_cons] at nr
 have lx:∀ y∈l.row,y≠x:=fun y hy=>nd y hy x (by simp)
 have rx:∀ y∈r.row,y≠x:=fun y hy e=>nr.1 (e ▸ hy)
 rw[Tp.size_node] at hz
 have pl:=Qal (vx:=vx) hm l (by omega)
 have pr:=Qal (vx:=vx) hm r (by omega)
 refine⟨(Qs _ _ _ _ _ (by decide)).trans a,(Qs _ _ _ _ _ (by decide)).trans b,?_,fun h=>(Qs _ _ _ _ _ (by decide)).trans (c h),fun h=>(Qs _ _ _ _ _ (by decide)).trans (d h),hl.same nl fun y hy k=>QI _ _ _ _ (lx y hy),hr.same nr.2 fun y hy k=>QI _ _ _ _ (rx y hy)⟩
 have cl:=QcZ vx l.row;have cr:=QcZ vx r.row;have zl:l.size=l.row.length:=rfl;have zr:r.size=r.row.length:=rfl
 have c1:(if vx x=true then 1 else 0)<=1:=by split<;>omega
 unfold Qbe
 rw[Qaf,a,b,hl.sum h0,hr.sum h0,pl.1,pl.2.1,pl.2.2,pr.1,pr.2.1,pr.2.2,Qil (by omega) (by omega) (hm x)]
 rw[Qbl,Tp.row_node,QeU,Qbx,Qe2]
 have e1:(l.row++x :: r.row).length=1+l.size+r.size:=by simp [Tp.size];omega
 have e2:allM mk l.row ||| allM mk (x :: r.row)=mk x ||| allM mk l.row ||| allM mk r.row:=by simp only[allM];rw[<-Nat.or_assoc,Nat.or_comm (allM mk l.row)]
 rw[e1,e2]
 congr 1
 omega
def setP (g:Mg9)(x p:Nat):Mg9:=if x=0 then g else up2 g x 2 p
theorem Qb (g:Mg9){k:Nat}(x p y:Nat)(h:k≠2):setP g x p y k=g y k:=by unfold setP;split;rfl;exact Qp _ _ _ _ h
theorem Qq (g:Mg9){x y:Nat}(p k:Nat)(h:y≠x):setP g x p y k=g y k:=by unfold setP;split;rfl;exact Qh _ _ _ _ h
theorem Qbo (g:Mg9){x:Nat}(p:Nat)(h:x≠0):setP g x p x 2=p:=by unfold setP;rw[if_neg h];exact Qaf _ _ _ _
def QaL (vx:Nat->Bool)(g:Mg9)(x:Nat)(rt:Bool)(c:Nat):Mg9:=
 Qbe vx (setP (up2 g x (if rt then 4 else 3) c) c x) x (oS (g x 6))
theorem QaK (vx:Nat->Bool)(g:Mg9){x y:Nat}(rt:Bool){c:Nat}(k:Nat)(h1:y≠x)(h2:y≠c):QaL vx g x rt c y k=g y k:=by
 unfold QaL;rw[QI _ _ _ _ h1,Qq _ _ _ h2,Qh _ _ _ _ h1]
theorem QdF (vx:Nat->Bool)(g:Mg9)(x:Nat)(rt:Bool)(c y:Nat):QaL vx g x rt c y 5=g y 5:=by
 unfold QaL;rw[Qs _ _ _ _ _ (by decide),Qb _ _ _ _ (by decide),Qp _ _ _ _ (by cases rt<;>decide)]
theorem Qa2 (vx:Nat->Bool){g:Mg9}(h0:∀ k,g 0 k=0){x:Nat}(rt:Bool)(c:Nat)(hx:x≠0)(k:Nat):QaL vx g x rt c 0 k=0:=by
 unfold QaL;rw[QI _ _ _ _ (Ne.symm hx)]
 by_cases hc:c=0
 . subst hc;unfold setP;rw[if_pos rfl,Qh _ _ _ _ (Ne.symm hx)];exact h0 k
 . rw[Qq _ _ _ (Ne.symm hc),Qh _ _ _ _ (Ne.symm hx)];exact h0 k
structure Fr where
 x:Nat
 rt:Bool
 o:Tp
def Fr.join (f:Fr)(t:Tp):Tp:=if f.rt then .node f.o f.x t else .node t f.x f.o
theorem Fr.join_root (f:Fr)(t:Tp):(f.join t).root=f.x:=by unfold Fr.join;split<;>rfl
theorem Fr.join_mem {f:Fr}{t:Tp}{y:Nat}:y∈(f.join t).row↔y=f.x\/y∈f.o.row\/y∈t.row:=by
 unfold Fr.join;split<;>simp [Tp.row]<;>constructor<;>intro h<;>rcases h with h|h|h<;>simp [h]
theorem Fr.join_size (f:Fr)(t:Tp):(f.join t).size=f.o.size+1+t.size:=by unfold Fr.join;split<;>rw[Tp.size_node]<;>omega
theorem Fr.join_nodup {f:Fr}{t:Tp}(h:(f.join t).row.Nodup):f.o.row.Nodup/\t.row.Nodup/\f.x∉f.o.row/\f.x∉t.row/\∀ y∈t.row,y∉f.o.row:=by
 unfold Fr.join at h
 split at h
 . rw[Tp.row_node,List.nodup_append] at h
   obtain⟨a,b,c⟩:=h;rw[List.nodup_cons] at b
   exact⟨a,b.2,fun h=>c _ h _ (by simp) rfl,b.1,fun y hy hy'=>c y hy' y (by simp [hy]) rfl⟩
 . rw[Tp.row_node,List.nodup_append] at h
   obtain⟨a,b,c⟩:=h;rw[List.nodup_cons] at b
   exact⟨b.2,a,b.1,fun h=>c _ h _ (by simp) rfl,fun y hy hy'=>c y hy y (by simp [hy']) rfl⟩
structure FrOk (vx:Nat->Bool)(mk:Nat->Nat)(g:Mg9)(f:Fr):Prop where
 nz:f.x≠0
 side:g f.x (if f.rt then 3 else 4)=f.o.root
 par:f.o.root≠0->g f.o.root 2=f.x
 own:oS (g f.x 6)=mk f.x
 o:Qe vx mk g f.o
theorem Qe.frame {vx:Nat->Bool}{mk:Nat->Nat}(hm:∀ x,mk x<4){g:Mg9}{f:Fr}{t:Tp}(h:Qe vx mk g (f.join t))(hz:(f.join t).size<65536)(hx:f.x≠0):
 FrOk vx mk g f/\Qe vx mk g t/\g f.x (if f.rt then 4 else 3)=t.root/\(t.root≠0->g t.root 2=f.x):=by
 obtain⟨x,rt,o⟩:=f
 cases rt with
 |true=>
  obtain⟨a,b,c,d,e,hl,hr⟩:=h
  exact⟨⟨hx,a,d,by rw[c];exact Qch hm hz,hl⟩,hr,b,e⟩
 |false=>
  obtain⟨a,b,c,d,e,hl,hr⟩:=h
  exact⟨⟨hx,b,e,by rw[c];exact Qch hm hz,hr⟩,hl,a,d⟩
theorem FrOk.same {vx:Nat->Bool}{mk:Nat->Nat}{g g':Mg9}{f:Fr}(h:FrOk vx mk g f)(hn:f.o.row.Nodup)(h1:∀ k,g' f.x k=g f.x k)(h2:∀ y∈f.o.row,∀ k,g' y k=g y k):FrOk vx mk g' f:=
 ⟨h.nz,by rw[h1];exact h.side,fun h0=>by rw[h2 _ (Tp.root_mem h0)];exact h.par h0,by rw[h1];exact h.own,h.o.same hn h2⟩
theorem QcU {vx:Nat->Bool}{mk:Nat->Nat}(hm:∀ x,mk x<4){g:Mg9}(h0:∀ k,g 0 k=0){f:Fr}{t:Tp}(hn:(f.join t).row.Nodup)(hp:∀ y∈(f.join t).row,y≠0)(hz:(f.join t).size<65536)(hf:FrOk vx mk g f)(ht:Qe vx mk g t):
 Qe vx mk (QaL vx g f.x f.rt t.root) (f.join t):=by
 obtain⟨no,nt,xo,xt,dj⟩:=Fr.join_nodup hn
 have tx:t.root≠0->t.root≠f.x:=fun h e=>xt (e ▸ Tp.root_mem h)
 have ot:∀ y∈f.o.row,y≠t.root:=fun y hy e=>by
  by_cases h:t.root=0
  . exact hp y (Fr.join_mem.2 (.inr (.inl hy))) (e.trans h)
  . exact dj _ (Tp.root_mem h) (e ▸ hy)
 have ox:∀ y∈f.o.row,y≠f.x:=fun y hy e=>xo (e ▸ hy)
 have txn:∀ y∈t.row,y≠f.x:=fun y hy e=>xt (e ▸ hy)
 obtain⟨G,hG⟩:∃ G,setP (up2 g f.x (if f.rt then 4 else 3) t.root) t.root f.x=G:=⟨_,rfl⟩
 have g0:∀ k,G 0 k=0:=fun k=>by
  rw[<-hG]
  by_cases hc:t.root=0
  . unfold setP;rw[if_pos hc,Qh _ _ _ _ (Ne.symm hf.nz)];exact h0 k
  . rw[Qq _ _ _ (Ne.symm hc),Qh _ _ _ _ (Ne.symm hf.nz)];exact h0 k
 have gx:∀ k,k≠(if f.rt then 4 else 3)->G f.x k=g f.x k:=fun k hk=>by
  rw[<-hG]
  by_cases hc:t.root=0
  . unfold setP;rw[if_pos hc,Qp _ _ _ _ hk]
  . rw[Qq _ _ _ (Ne.symm (tx hc)),Qp _ _ _ _ hk]
 have gs:G f.x (if f.rt then 4 else 3)=t.root:=by
  rw[<-hG,Qb _ _ _ _ (by split<;>decide),Qaf]
 have go:∀ y∈f.o.row,∀ k,G y k=g y k:=fun y hy k=>by
  rw[<-hG,Qq _ _ _ (ot y hy),Qh _ _ _ _ (ox y hy)]
 have gt:∀ y∈t.row,∀ k,k≠2->G y k=g y k:=fun y hy k hk=>by
  rw[<-hG,Qb _ _ _ _ hk,Qh _ _ _ _ (txn y hy)]
 have gt2:∀ y∈t.row,y≠t.root->G y 2=g y 2:=fun y hy hk=>by
  rw[<-hG,Qq _ _ _ hk,Qh _ _ _ _ (txn y hy)]
 have gp:t.root≠0->G t.root 2=f.x:=fun h=>by rw[<-hG,Qbo _ _ h]
 have Lo:Qe vx mk G f.o:=hf.o.same no go
 have Lt:Qe vx mk G t:=ht.congr (fun y hy=>⟨rfl,gt y hy 3 (by decide),gt y hy 4 (by decide),gt y hy 6 (by decide)⟩) nt gt2
 have po:f.o.root≠0->G f.o.root 2=f.x:=fun h=>(go _ (Tp.root_mem h) 2).trans (hf.par h)
 unfold QaL;rw[hG,hf.own];obtain⟨x,rt,o⟩:=f
 cases rt with
 |true=>exact QaE hm g0 hn hz ((gx 3 (by simp)).trans hf.side) gs po gp Lo Lt
 |false=>exact QaE hm g0 hn hz gs ((gx 4 (by simp)).trans hf.side) gp po Lt Lo
def plug:List Fr->Tp->Tp
 |[],t=>t
 |f :: fs,t=>f.join (plug fs t)
theorem QeI:∀ (fs gs:List Fr) (t:Tp),plug (fs++gs) t=plug fs (plug gs t)
 |[],_,_=>rfl
 |g :: fs,gs,t=>by simp only[List.cons_append,plug,QeI fs gs t]
theorem Qbq:∀ (fs:List Fr) (t:Tp),fs.length+t.size<=(plug fs t).size
 |[],t=>by simp [plug]
 |f :: fs,t=>by have:=Qbq fs t;simp only[plug,Fr.join_size,List.length_cons];omega
theorem Qdd:∀ {fs:List Fr} {t:Tp} {y:Nat},y∈t.row->y∈(plug fs t).row
 |[],_,_,h=>h
 |_ :: _,_,_,h=>Fr.join_mem.2 (.inr (.inr (Qdd h)))
theorem Qf6:∀ {fs:List Fr} {t:Tp} {f:Fr},f∈fs->f.x∈(plug fs t).row
 |[],_,_,h=>by simp at h
 |g :: fs,t,f,h=>by
  rcases List.mem_cons.1 h with rfl|h
  . exact Fr.join_mem.2 (.inl rfl)
  . exact Fr.join_mem.2 (.inr (.inr (Qf6 h)))
def wayT:Int->Tp->List Fr
 |_,.nil=>[]
 |k,.node l x r=>if k > (l.size:Int) then ⟨x,true,l⟩ :: wayT (k-(l.size+1)) r else ⟨x,false,r⟩ :: wayT k l
theorem QaX:∀ (k:Int) (t:Tp),plug (wayT k t) .nil=t
 |_,.nil=>rfl
 |k,.node l x r=>by
  unfold wayT
  split
  . simp only[plug,QaX _ r];rfl
  . simp only[plug,QaX _ l];rfl
def Qd:List Fr->Tp × Tp
 |[]=>(.nil,.nil)
 |f :: fs=>if f.rt then (f.join (Qd fs).1,(Qd fs).2) else ((Qd fs).1,f.join (Qd fs).2)
theorem Qam:∀ (fs:List Fr),(Qd fs).1.row++(Qd fs).2.row=(plug fs .nil).row
 |[]=>rfl
 |⟨x,true,o⟩ :: fs=>by have:=Qam fs;simp only[Qd,plug,Fr.join,if_true,Tp.row_node];rw[<-this];simp
 |⟨x,false,o⟩ :: fs=>by have:=Qam fs;simp only[Qd,plug,Fr.join,Bool.false_eq_true,if_false,Tp.row_node];rw[<-this];simp
theorem Qbm:∀ (k:Int) (t:Tp),(Qd (wayT k t)).1.size=min k.toNat t.size
 |_,.nil=>by simp [wayT,Qd,Tp.size_nil]
 |k,.node l x r=>by
  unfold wayT
  split
  . have:=Qbm (k-(l.size+1)) r
    simp only[Qd,if_true,Fr.join_size,Tp.size_node,this];omega
  . have:=Qbm k l
    simp only[Qd,Bool.false_eq_true,if_false,Tp.size_node,this];omega
theorem Qf0 (k:Int)(t:Tp):(Qd (wayT k t)).1.row=t.row.take (min k.toNat t.size)/\(Qd (wayT k t)).2.row=t.row.drop (min k.toNat t.size):=by
 have h1:=Qam (wayT k t);rw[QaX] at h1;have h2:=Qbm k t;rw[<-h2,<-h1];simp [Tp.size]
theorem Qb0 {fs:List Fr}{y:Nat}(h:y∈(Qd fs).1.row):y∈(plug fs .nil).row:=by rw[<-Qam];exact List.mem_append_left _ h
theorem QbZ {fs:List Fr}{y:Nat}(h:y∈(Qd fs).2.row):y∈(plug fs .nil).row:=by rw[<-Qam];exact List.mem_append_right _ h
theorem Hp.join {pri:Nat->Nat}{f:Fr}{t:Tp}:Hp pri (f.join t)↔(∀ y∈f.o.row,ab pri f.x y=true)/\(∀ y∈t.row,ab pri f.x y=true)/\Hp pri f.o/\Hp pri t:=by
 unfold Fr.join
 split
 . exact Iff.rfl
 . simp only[Hp];constructor<;>rintro⟨a,b,c,d⟩<;>exact⟨b,a,d,c⟩
theorem Qfc {pri:Nat->Nat}:∀ {fs:List Fr},Hp pri (plug fs .nil)->Hp pri (Qd fs).1/\Hp pri (Qd fs).2
 |[],_=>⟨trivial,trivial⟩
 |f :: fs,h=>by
  obtain⟨a,b,c,d⟩:=Hp.join.1 h;have ih:=Qfc d;simp only[Qd]
  split
  . exact⟨Hp.join.2 ⟨a,fun y hy=>b y (Qb0 hy),c,ih.1⟩,ih.2⟩
  . exact⟨ih.1,Hp.join.2 ⟨a,fun y hy=>b y (QbZ hy),c,ih.2⟩⟩
inductive Mrg (pri:Nat->Nat):Tp->Tp->List Fr->Tp->Prop where
 |nl (b:Tp):Mrg pri .nil b [] b
 |nr (a:Tp):Mrg pri a .nil [] a
 |a {al ar bl br:Tp} {x y:Nat} {fs:List Fr} {t:Tp}:ab pri x y=true->Mrg pri ar (.node bl y br) fs t->Mrg pri (.node al x ar) (.node bl y br) (⟨x,true,al⟩ :: fs) t
 |b {al ar bl br:Tp} {x y:Nat} {fs:List Fr} {t:Tp}:ab pri x y=false->Mrg pri (.node al x ar) bl fs t->Mrg pri (.node al x ar) (.node bl y br) (⟨y,false,br⟩ :: fs) t
theorem Mrg.row {pri:Nat->Nat}{a b:Tp}{fs:List Fr}{t:Tp}(h:Mrg pri a b fs t):(plug fs t).row=a.row++b.row:=by
 induction h with
 |nl b=>rfl
 |nr a=>simp [plug,Tp.row]
 |a _ _ ih=>simp only[plug,Fr.join,if_true,Tp.row_node,ih];simp
 |b _ _ ih=>simp only[plug,Fr.join,Bool.false_eq_true,if_false,Tp.row_node,ih];simp
theorem Mrg.hp {pri:Nat->Nat}{a b:Tp}{fs:List Fr}{t:Tp}(h:Mrg pri a b fs t):Hp pri a->Hp pri b->(∀ x∈a.row,x∉b.row)->Hp pri (plug fs t):=by
 induction h with
 |nl b=>exact fun _ h _=>h
 |nr a=>exact fun h _ _=>h
 |@a al ar bl br x y fs t h1 hr ih=>
  intro ha hb hd;obtain⟨a1,a2,a3,a4⟩:=ha
  refine Hp.join.2 ⟨a1,fun z hz=>?_,a3,ih a4 hb fun z hz=>hd z (by simp [Tp.row,hz])⟩
  rw[hr.row] at hz
  rcases List.mem_append.1 hz with hz|hz
  . exact a2 z hz
  . rw[Tp.row_node] at hz
    rcases List.mem_append.1 hz with hz|hz
    . exact Qdo h1 (hb.1 z hz)
    . rcases List.mem_cons.1 hz with rfl|hz
      . exact h1
      . exact Qdo h1 (hb.2.1 z hz)
 |@b al ar bl br x y fs t h1 hr ih=>
  intro ha hb hd
  have h2:ab pri y x=true:=QkR (fun e=>hd x (by simp [Tp.row]) (by simp [Tp.row,e])) h1
  obtain⟨b1,b2,b3,b4⟩:=hb
  refine Hp.join.2 ⟨b2,fun z hz=>?_,b4,ih ha b3 fun z hz hz'=>hd z hz (by simp [Tp.row,hz'])⟩
  rw[hr.row] at hz
  rcases List.mem_append.1 hz with hz|hz
  . rw[Tp.row_node] at hz
    rcases List.mem_append.1 hz with hz|hz
    . exact Qdo h2 (ha.1 z hz)
    . rcases List.mem_cons.1 hz with rfl|hz
      . exact h2
      . exact Qdo h2 (ha.2.1 z hz)
  . exact b1 z hz
theorem Mrg.frames {pri:Nat->Nat}{vx:Nat->Bool}{mk:Nat->Nat}(hm:∀ x,mk x<4){g:Mg9}{a b:Tp}{fs:List Fr}{t:Tp}(h:Mrg pri a b fs t):
 Qe vx mk g a->Qe vx mk g b->a.size<65536->b.size<65536->(∀ x∈a.row,x≠0)->(∀ x∈b.row,x≠0)->(∀ f∈fs,FrOk vx mk g f)/\Qe vx mk g t:=by
 induction h with
 |nl b=>exact fun _ h _ _ _ _=>⟨by simp,h⟩
 |nr a=>exact fun h _ _ _ _ _=>⟨by simp,h⟩
 |@a al ar bl br x y fs t _ _ ih=>
  intro ha hb sa sb za zb
  have h1:=Qe.frame (f:=⟨x,true,al⟩) (t:=ar) hm ha sa (za x (by simp [Tp.row]))
  rw[Tp.size_node] at sa
  have h2:=ih h1.2.1 hb (by omega) sb (fun z hz=>za z (by simp [Tp.row,hz])) zb
  exact⟨fun f hf=>by rcases List.mem_cons.1 hf with rfl|hf;exact h1.1;exact h2.1 f hf,h2.2⟩
 |@b al ar bl br x y fs t _ _ ih=>
  intro ha hb sa sb za zb
  have h1:=Qe.frame (f:=⟨y,false,br⟩) (t:=bl) hm hb sb (zb y (by simp [Tp.row]))
  rw[Tp.size_node] at sb
  have h2:=ih ha h1.2.1 sa (by omega) za (fun z hz=>zb z (by simp [Tp.row,hz]))
  exact⟨fun f hf=>by rcases List.mem_cons.1 hf with rfl|hf;exact h1.1;exact h2.1 f hf,h2.2⟩
theorem QdA {vx:Nat->Bool}{mk:Nat->Nat}(hm:∀ x,mk x<4){g:Mg9}:∀ {fs:List Fr} {t:Tp},Qe vx mk g (plug fs t)->(plug fs t).size<65536->(∀ x∈(plug fs t).row,x≠0)->(∀ f∈fs,FrOk vx mk g f)/\Qe vx mk g t
 |[],t,h,_,_=>⟨by simp,h⟩
 |f :: fs,t,h,hz,hp=>by
  have h1:=Qe.frame hm h hz (hp f.x (Fr.join_mem.2 (.inl rfl)));simp only[plug] at hz hp;rw[Fr.join_size] at hz
  have h2:=QdA hm h1.2.1 (by omega) fun x hx=>hp x (Fr.join_mem.2 (.inr (.inr hx)))
  exact⟨fun f' hf=>by rcases List.mem_cons.1 hf with rfl|hf;exact h1.1;exact h2.1 f' hf,h2.2⟩
theorem QcT:∀ {fs:List Fr} {t:Tp},(plug fs t).row.Nodup->t.row.Nodup
 |[],_,h=>h
 |_ :: _,_,h=>QcT (Fr.join_nodup h).2.1
structure QdZ (vx:Nat->Bool)(mk:Nat->Nat)(g g1:Mg9)(t:Tp):Prop where
 l:Qe vx mk g1 t
 z:∀ k,g1 0 k=0
 o:∀ y,y∉t.row->∀ k,g1 y k=g y k
 p:∀ y,g1 y 5=g y 5
theorem QdZ.refl {vx:Nat->Bool}{mk:Nat->Nat}{g:Mg9}{t:Tp}(h:Qe vx mk g t)(h0:∀ k,g 0 k=0):QdZ vx mk g g t:=⟨h,h0,fun _ _ _=>rfl,fun _=>rfl⟩
theorem QdZ.next {vx:Nat->Bool}{mk:Nat->Nat}(hm:∀ x,mk x<4){g g1:Mg9}{f:Fr}{t:Tp}(h:QdZ vx mk g g1 t)(hf:FrOk vx mk g f)(hn:(f.join t).row.Nodup)(hp:∀ y∈(f.join t).row,y≠0)(hz:(f.join t).size<65536):
 QdZ vx mk g (QaL vx g1 f.x f.rt t.root) (f.join t):=by
 obtain⟨no,nt,xo,xt,dj⟩:=Fr.join_nodup hn
 have hf1:FrOk vx mk g1 f:=hf.same no (h.o _ xt) fun y hy=>h.o y fun e=>dj y e hy
 refine⟨QcU hm h.z hn hp hz hf1 h.l,Qa2 _ h.z _ _ hf.nz,fun y hy k=>?_,fun y=>(QdF _ _ _ _ _ _).trans (h.p y)⟩
 rw[Fr.join_mem,not_or,not_or] at hy
 by_cases hr:t.root=0
 . by_cases y0:y=0
   . subst y0;have e0:=h.o 0 hy.2.2 k;rw[h.z] at e0;exact(Qa2 _ h.z _ _ hf.nz k).trans e0
   . rw[QaK _ _ _ _ hy.1 (by omega)];exact h.o y hy.2.2 k
 . rw[QaK _ _ _ _ hy.1 fun e=>hy.2.2 (e ▸ Tp.root_mem hr)];exact h.o y hy.2.2 k
structure QdY (vx:Nat->Bool)(mk:Nat->Nat)(g g1:Mg9)(t a b:Tp):Prop where
 la:Qe vx mk g1 a
 lb:Qe vx mk g1 b
 z:∀ k,g1 0 k=0
 o:∀ y,y∉t.row->∀ k,g1 y k=g y k
 p:∀ y,g1 y 5=g y 5
theorem QdY.next {vx:Nat->Bool}{mk:Nat->Nat}(hm:∀ x,mk x<4){g g1:Mg9}{f:Fr}{fs:List Fr}(h:QdY vx mk g g1 (plug fs .nil) (Qd fs).1 (Qd fs).2)(hf:FrOk vx mk g f)
 (hn:(plug (f :: fs) .nil).row.Nodup) (hp:∀ y∈(plug (f :: fs) .nil).row,y≠0) (hz:(plug (f :: fs) .nil).size<65536):
 QdY vx mk g (QaL vx g1 f.x f.rt (if f.rt then (Qd fs).1.root else (Qd fs).2.root)) (plug (f :: fs) .nil) (Qd (f :: fs)).1 (Qd (f :: fs)).2:=by
 obtain⟨no,nt,xo,xt,dj⟩:=Fr.join_nodup hn
 have hf1:FrOk vx mk g1 f:=hf.same no (h.o _ xt) fun y hy=>h.o y fun e=>dj y e hy
 have hz':=hz;simp only[plug] at hz';rw[Fr.join_size] at hz';have hrow:=Qam fs
 have hs:(Qd fs).1.size+(Qd fs).2.size=(plug fs .nil).size:=by unfold Tp.size;rw[<-hrow,List.length_append]
 have hd:=nt;rw[<-hrow,List.nodup_append] at hd
 have hc:∀ {c:Tp},(∀ y∈c.row,y∈(plug fs .nil).row)->c.row.Nodup->(f.join c).row.Nodup:=by
  intro c hc cn;unfold Fr.join
  split
  . rw[Tp.row_node,List.nodup_append,List.nodup_cons]
    exact⟨no,⟨fun e=>xt (hc _ e),cn⟩,fun y hy z hz e=>by
     subst e
     rcases List.mem_cons.1 hz with rfl|hz
     . exact xo hy
     . exact dj y (hc _ hz) hy⟩
  . rw[Tp.row_node,List.nodup_append,List.nodup_cons]
    exact⟨cn,⟨xo,no⟩,fun y hy z hz e=>by
     subst e
     rcases List.mem_cons.1 hz with rfl|hz
     . exact xt (hc _ hy)
     . exact dj y (hc _ hy) hz⟩
 have hpc:∀ {c:Tp},(∀ y∈c.row,y∈(plug fs .nil).row)->∀ y∈(f.join c).row,y≠0:=by
  intro c hc y hy
  rcases Fr.join_mem.1 hy with e|e|e
  . exact hp y (Fr.join_mem.2 (.inl e))
  . exact hp y (Fr.join_mem.2 (.inr (.inl e)))
  . exact hp y (Fr.join_mem.2 (.inr (.inr (hc y e))))
 have other:∀ c:Tp,(∀ y∈c.row,y∈(plug fs .nil).row)->∀ y,y∉(plug (f :: fs) .nil).row->∀ k,QaL vx g1 f.x f.rt c.root y k=g y k:=by
  intro c hc y hy k;simp only[plug] at hy;rw[Fr.join_mem,not_or,not_or] at hy
  by_cases hr:c.root=0
  . by_cases y0:y=0
    . subst y0;have e0:=h.o 0 hy.2.2 k;rw[h.z] at e0;exact(Qa2 _ h.z _ _ hf.nz k).trans e0
    . rw[QaK _ _ _ _ hy.1 (by omega)];exact h.o y hy.2.2 k
  . rw[QaK _ _ _ _ hy.1 fun e=>hy.2.2 (e ▸ hc _ (Tp.root_mem hr))];exact h.o y hy.2.2 k
 have keep:∀ c d:Tp,(∀ y∈c.row,y∈(plug fs .nil).row)->(∀ y∈d.row,y∈(plug fs .nil).row)->(∀ y∈d.row,y∉c.row)->d.row.Nodup->Qe vx mk g1 d->Qe vx mk (QaL vx g1 f.x f.rt c.root) d:=by
  intro c d hc hd' hcd dn ld
  refine ld.same dn fun y hy k=>QaK _ _ _ _ (fun e=>xt (e ▸ hd' y hy)) fun e=>?_
  by_cases hr:c.root=0
  . exact hp y (Fr.join_mem.2 (.inr (.inr (hd' y hy)))) (e.trans hr)
  . exact hcd y hy (e ▸ Tp.root_mem hr)
 by_cases hrt:f.rt=true
 . have e1:Qd (f :: fs)=(f.join (Qd fs).1,(Qd fs).2):=by simp only[Qd];rw[if_pos hrt]
   rw[e1,if_pos hrt]
   have m1:∀ y∈(Qd fs).1.row,y∈(plug fs .nil).row:=fun _=>Qb0
   have m2:∀ y∈(Qd fs).2.row,y∈(plug fs .nil).row:=fun _=>QbZ
   exact⟨QcU hm h.z (hc m1 hd.1) (hpc m1) (by rw[Fr.join_size];omega) hf1 h.la,keep _ _ m1 m2 (fun y h2 h1=>hd.2.2 y h1 y h2 rfl) hd.2.1 h.lb,Qa2 _ h.z _ _ hf.nz,other _ m1,fun y=>(QdF _ _ _ _ _ _).trans (h.p y)⟩
 . have e1:Qd (f :: fs)=((Qd fs).1,f.join (Qd fs).2):=by simp only[Qd];rw[if_neg hrt]
   rw[e1,if_neg hrt]
   have m1:∀ y∈(Qd fs).1.row,y∈(plug fs .nil).row:=fun _=>Qb0
   have m2:∀ y∈(Qd fs).2.row,y∈(plug fs .nil).row:=fun _=>QbZ
   exact⟨keep _ _ m2 m1 (fun y h1 h2=>hd.2.2 y h1 y h2 rfl) hd.1 h.la,QcU hm h.z (hc m2 hd.2.1) (hpc m2) (by rw[Fr.join_size];omega) hf1 h.lb,Qa2 _ h.z _ _ hf.nz,other _ m2,fun y=>(QdF _ _ _ _ _ _).trans (h.p y)⟩
def QE:List Fr->Tp->Tp
 |[],t=>t
 |f :: fs,t=>QE fs (f.join t)
theorem QX:∀ (us:List Fr) (t:Tp),us.length+t.size<=(QE us t).size
 |[],t=>by simp [QE]
 |f :: fs,t=>by have:=QX fs (f.join t);rw[Fr.join_size] at this;simp only[QE,List.length_cons];omega
theorem QdN:∀ {us:List Fr} {t:Tp} {y:Nat},y∈t.row->y∈(QE us t).row
 |[],_,_,h=>h
 |_ :: us,_,_,h=>QdN (us:=us) (Fr.join_mem.2 (.inr (.inr h)))
theorem QcB:∀ {us:List Fr} {t:Tp} {f:Fr},f∈us->f.x∈(QE us t).row
 |[],_,_,h=>by simp at h
 |g :: us,t,f,h=>by
  rcases List.mem_cons.1 h with rfl|h
  . exact QdN (us:=us) (Fr.join_mem.2 (.inl rfl))
  . exact QcB (us:=us) h
theorem Qc1:∀ (us:List Fr) (f:Fr) (t:Tp),QE (us++[f]) t=f.join (QE us t)
 |[],_,_=>rfl
 |g :: us,f,t=>by simp only[List.cons_append,QE,Qc1 us f]
theorem Qdm:∀ {t:Tp} {x:Nat},x∈t.row->∃ us l r,t=QE us (.node l x r)
 |.nil,_,h=>by simp [Tp.row] at h
 |.node l y r,x,h=>by
  rw[Tp.row_node] at h
  rcases List.mem_append.1 h with h|h
  . obtain⟨us,a,b,e⟩:=Qdm h
    exact⟨us++[⟨y,false,r⟩],a,b,by rw[Qc1,<-e];rfl⟩
  . rcases List.mem_cons.1 h with rfl|h
    . exact⟨[],l,r,rfl⟩
    . obtain⟨us,a,b,e⟩:=Qdm h
      exact⟨us++[⟨y,true,l⟩],a,b,by rw[Qc1,<-e];rfl⟩
def Qd2:List Fr->Nat->Nat
 |[],x=>x
 |f :: us,_=>Qd2 us f.x
theorem Qc0:∀ (us:List Fr) (t:Tp),(QE us t).root=Qd2 us t.root
 |[],_=>rfl
 |f :: us,t=>by simp only[QE,Qd2];rw[Qc0 us,Fr.join_root]
def Qd7:List Fr->Nat
 |[]=>0
 |f :: us=>(if f.rt then f.o.size+1 else 0)+Qd7 us
theorem QfL:∀ (us:List Fr) (t:Tp),∃ a b,(QE us t).row=a++t.row++b/\a.length=Qd7 us
 |[],t=>⟨[],[],by simp [QE],rfl⟩
 |⟨x,rt,o⟩ :: us,t=>by
  obtain⟨a,b,e,h⟩:=QfL us (Fr.join ⟨x,rt,o⟩ t)
  cases rt with
  |true=>exact⟨a++(o.row++[x]),b,by simp only[QE];rw[e];simp [Fr.join,Tp.row],by simp [Qd7,h,Tp.size];omega⟩
  |false=>exact⟨a,x :: o.row++b,by simp only[QE];rw[e];simp [Fr.join,Tp.row],by simp [Qd7,h]⟩
theorem QkF {us:List Fr}{l r:Tp}{x:Nat}:(QE us (.node l x r)).row[l.size+Qd7 us]?=some x:=by
 obtain⟨a,b,e,h⟩:=QfL us (.node l x r);rw[e,<-h,Tp.row_node];simp [Tp.size,List.getElem?_append]
theorem QaN:∀ {us:List Fr} {t:Tp},(QE us t).row.Nodup->t.row.Nodup
 |[],_,h=>h
 |_ :: us,_,h=>(Fr.join_nodup (QaN (us:=us) h)).2.1
def mbit (mk:Nat->Nat)(m x:Nat):Bool:=decide (mk x / 2 ^ m % 2=1)
def Qx (mk:Nat->Nat)(m:Nat):List Nat->Nat
 |[]=>0
 |x :: l=>if mbit mk m x then x else Qx mk m l
theorem QcX (mk:Nat->Nat)(m:Nat):∀ (a b:List Nat),Qx mk m (a++b)=if a.any (mbit mk m) then Qx mk m a else Qx mk m b
 |[],b=>by simp
 |x :: a,b=>by
  simp only[List.cons_append,Qx,List.any_cons]
  by_cases h:mbit mk m x=true
  . simp [h]
  . simp only[h,Bool.false_or]
    rw[QcX mk m a b];simp
theorem QdL (mk:Nat->Nat)(m:Nat):∀ {a:List Nat},a.any (mbit mk m)=false->Qx mk m a=0
 |[],_=>rfl
 |x :: a,h=>by
  rw[List.any_cons,Bool.or_eq_false_iff] at h;simp only[Qx,h.1];exact QdL mk m h.2
theorem Qjn {mk:Nat->Nat}{m:Nat}(hm2:m<2)(hm:∀ x,mk x<4):∀ (a:List Nat),(decide (allM mk a / 2 ^ m % 2=1))=a.any (mbit mk m)
 |[]=>by simp [allM]
 |x :: a=>by
  have ih:=Qjn hm2 hm a;rw[List.any_cons,<-ih];have h1:=hm x;have h2:=Qc2 hm a;simp only[allM,mbit]
  have key:∀ p<4,∀ q<4,∀ i<2,decide ((p ||| q) / 2 ^ i % 2=1)=(decide (p / 2 ^ i % 2=1) || decide (q / 2 ^ i % 2=1)):=by decide
  exact key _ h1 _ h2 _ hm2
open Go.RowKit
set_option maxRecDepth 100000
def arcN (V:Int)(x:Nat):Bool:=decide (vn V<=(x:Int)-1)
def lvN (V:Int)(x:Nat):Int:=if vn V<=(x:Int)-1 then ((x:Int)-1-vn V) % sn V / 2 else ((x:Int)-1) / V
def isP (V:Int)(x:Nat):Bool:=decide (x≠0/\lvN V x=0)
def nN (V S:Int):Nat:=(nd V S).toNat
def cN (V S T:Int)(x k:Nat):Nat:=(o5 V S T+((x:Int)-1)*7+(k:Int)).toNat
def QaT (V S T:Int):Nat:=(cn V S T).toNat
section
variable {V S T:Int}
theorem Q0 (h:Rt V S T):((nN V S:Nat):Int)=nd V S:=by have:=(sizes h).nd1;unfold nN;omega
theorem Ql (h:Rt V S T):nN V S<=560:=by have:=(sizes h).nd2;unfold nN;omega
theorem Qlf (h:Rt V S T):1<=nN V S:=by have:=(sizes h).nd1;unfold nN;omega
theorem Qj5 (h:Rt V S T):0<=o5 V S T:=by
 have z:=sizes h;have a1:=z.vn1;have a2:=h.s1;have a3:=h.t1
 have a4:0<=pr V:=by unfold pr;exact Int.ediv_nonneg (Int.mul_nonneg (by have:=h.v1;omega) (by have:=h.v1;omega)) (by omega)
 unfold o5;omega
theorem QdP (h:Rt V S T){x k:Nat}(h1:1<=x):((cN V S T x k:Nat):Int)=o5 V S T+((x:Int)-1)*7+(k:Int):=by have:=Qj5 h;unfold cN;omega
theorem Qcy (h:Rt V S T){x k:Nat}(h1:1<=x)(h2:x<=nN V S)(h3:k<7):Qbu V S T (x:Int) (k:Int)=(cN V S T x k:Int):=by
 have:=Q0 h
 rw[QdP h h1];unfold Qbu;rw[if_pos (by omega)]
theorem QfQ (h:Rt V S T){x k:Nat}(h1:1<=x)(h2:x<=nN V S)(h3:k<7):cN V S T x k<QaT V S T:=by
 have e1:=Q0 h;have e2:=QdP (k:=k) h h1
 have e3:cn V S T=o5 V S T+nd V S*7:=by unfold cn o5;omega
 have:=Qj5 h;unfold QaT;omega
theorem Qc7 (h:Rt V S T){x y k j:Nat}(h1:1<=x)(h2:1<=y)(h3:k<7)(h4:j<7)(e:cN V S T x k=cN V S T y j):x=y/\k=j:=by
 have e2:=QdP (k:=k) h h1;have e3:=QdP (k:=j) h h2;omega
structure Rl (V S T:Int)(f:Nat->Int)(g:Mg9):Prop where
 z:∀ k,g 0 k=0
 c:∀ x k,1<=x->x<=nN V S->3<=k->k<=6->f (cN V S T x k)=(g x k:Int)
 a:∀ x,1<=x->x<=nN V S->isP V x=false->f (cN V S T x 2)=(g x 2:Int)
 p:∀ x,1<=x->x<=nN V S->isP V x=true->QZ (f (cN V S T x 2))=true/\rN (f (cN V S T x 2))=(g x 2:Int)
 b:∀ x,x<=nN V S->g x 2<=nN V S/\g x 3<=nN V S/\g x 4<=nN V S
 o:∀ i,(∀ x k,1<=x->x<=nN V S->2<=k->k<=6->i≠cN V S T x k)->f i=(g (nN V S+1+i) 5:Int)
structure TM (w:World)(V S T:Int)(p gb cap m:Nat)(g:Mg9):Prop where
 hR:Rt V S T
 ar:∃ c f,Ar w p gb (QaT V S T) cap c f/\CB c m/\Rl V S T f g
variable {w w':World}{p gb cap m m':Nat}{g:Mg9}
theorem TM.z (h:TM w V S T p gb cap m g)(k:Nat):g 0 k=0:=by obtain⟨_,_,_,_,r⟩:=h.ar;exact r.z k
theorem TM.b (h:TM w V S T p gb cap m g){x:Nat}(hx:x<=nN V S):g x 2<=nN V S/\g x 3<=nN V S/\g x 4<=nN V S:=by obtain⟨_,_,_,_,r⟩:=h.ar;exact r.b x hx
theorem TM.fit (h:TM w V S T p gb cap m g){x k:Nat}(hx:x<=nN V S)(h1:3<=k)(h2:k<=6):g x k<=18446744073709551615:=by
 obtain⟨c,f,A,_,r⟩:=h.ar
 by_cases h0:x=0
 . subst h0;rw[r.z];omega
 . have e:=r.c x k (by omega) hx h1 h2
   have:=A.fit (cN V S T x k) (QfQ h.hR (by omega) hx (by omega))
   omega
theorem TM.below (h:TM w V S T p gb cap m g)(hb:Below w.heap.size w w'):TM w' V S T p gb cap m g:=by
 obtain⟨c,f,A,C,r⟩:=h.ar;exact⟨h.hR,c,f,A.below hb (Nat.le_refl _),C,r⟩
theorem TM.more (h:TM w V S T p gb cap m g)(hm:m<=m'):TM w V S T p gb cap m' g:=by
 obtain⟨c,f,A,C,r⟩:=h.ar;exact⟨h.hR,c,f,A,C.more hm,r⟩
theorem TM.drew (h:TM w V S T p gb cap m g):TM w.drew V S T p gb cap m g:=h.below (Below.refl _ _).drew
theorem TM.alloc (h:TM w V S T p gb cap m g)(o:Obj):TM (w.alloc o) V S T p gb cap m g:=h.below ((Below.refl _ _).alloc (Nat.le_refl _) o)
theorem TM.p_lt (h:TM w V S T p gb cap m g):p<w.heap.size:=by obtain⟨_,_,A,_⟩:=h.ar;exact A.p_lt
theorem TM.g_lt (h:TM w V S T p gb cap m g):gb<w.heap.size:=by obtain⟨_,_,A,_⟩:=h.ar;exact A.g_lt
theorem TM.blk (h:TM w V S T p gb cap m g):(∃ cs,Blk w p 127 cs)/\∃ zs,Blk w gb 88 zs:=by
 obtain⟨_,_,A,_⟩:=h.ar;obtain⟨zs,hz,_⟩:=A.cells;exact⟨⟨_,A.own⟩,⟨zs,hz⟩⟩
theorem Blk.treap {q:Nat}{ty:TypeId}{cs:Array Value}(h:Blk w q ty cs)(A:TM w V S T p gb cap m g)(ho:Only p gb w w')(h1:ty≠127)(h2:ty≠88):Blk w' q ty cs:=by
 obtain⟨⟨_,h3⟩,⟨_,h4⟩⟩:=A.blk;exact h.only ho (h.ne_ h3 h1) (h.ne_ h4 h2)
theorem TM.far (h:TM w V S T p gb cap m g){q j:Nat}{ty:TypeId}{cs:Array Value}(hq:Blk w q ty cs)(h1:ty≠127)(h2:ty≠88)(u:Value):TM (w.setCell (I1 q j) u) V S T p gb cap m g:=by
 obtain⟨⟨_,h3⟩,⟨_,h4⟩⟩:=h.blk;obtain⟨c,f,A,C,r⟩:=h.ar;exact⟨h.hR,c,f,A.q_far (hq.ne_ h3 h1) (hq.ne_ h4 h2) u,C,r⟩
abbrev vTr (V S T:Int)(p:Nat):Value:=.agg #[I V,I S,I T,I4 p,I 1,I 0]
def TB (w:World)(b:Nat)(V S T:Int)(p:Nat):Prop:=Blk w b 43 #[I V,I S,I T,I4 p,I 1,I 0]
theorem TB.new (w:World)(V S T:Int)(p:Nat):TB (w.alloc (I5 V S T p)) w.heap.size V S T p:=Blk.new _ _ _
theorem TB.lt {b:Nat}(h:TB w b V S T p):b<w.heap.size:=Blk.lt h
theorem TB.below {b:Nat}(h:TB w b V S T p)(hb:Below w.heap.size w w'):TB w' b V S T p:=Blk.below h hb (Blk.lt h)
theorem TB.only {b:Nat}(h:TB w b V S T p)(A:TM w V S T p gb cap m g)(ho:Only p gb w w'):TB w' b V S T p:=Blk.treap h A ho (by decide) (by decide)
theorem TB.drew {b:Nat}(h:TB w b V S T p):TB w.drew b V S T p:=h
theorem TB.alloc {b:Nat}(h:TB w b V S T p)(o:Obj):TB (w.alloc o) b V S T p:=Blk.alloc h o
theorem TB.cells {b:Nat}(h:TB w b V S T p):w.cell? (I1 b 0)=some (I V)/\w.cell? (I1 b 1)=some (I S)/\w.cell? (I1 b 2)=some (I T)/\w.cell? (I1 b 3)=some (I4 p)/\w.cell? (I1 b 4)=some (I 1)/\w.cell? (I1 b 5)=some (I 0):=
 ⟨Blk.cell h 0,Blk.cell h 1,Blk.cell h 2,Blk.cell h 3,Blk.cell h 4,Blk.cell h 5⟩
theorem QdC (h:Rt V S T){x:Nat}(h1:1<=x)(h2:x<=nN V S)(w:World):
 Calls Tryz.prog 45 #[vL V S T,I (x:Int)] w fun e w'=>(∃ v s d,e=.returned (.tuple #[vT (arcN V x) (lvN V x) v s d,.bool true]))/\Below w.heap.size w w':=by
 have e1:=Q0 h
 by_cases ha:vn V<=(x:Int)-1
 . refine(Qj6 V S T (x:Int) h (by omega) ha w).mono ?_
   rintro e w' ⟨rfl,hb⟩
   exact⟨⟨0,((x:Int)-1-vn V) / sn V,((x:Int)-1-vn V) % 2,by unfold arcN lvN;rw[decide_eq_true ha,if_pos ha]⟩,hb⟩
 . refine(QdB V S T (x:Int) h (by omega) (by omega) w).mono ?_
   rintro e w' ⟨rfl,hb⟩
   exact⟨⟨((x:Int)-1) % V,0,0,by unfold arcN lvN;rw[decide_eq_false ha,if_neg ha]⟩,hb⟩
theorem Qar (hR:Rt V S T){x:Nat}(hx:x<=nN V S)(p:Nat)(w:World):
 Calls Tryz.prog 97 #[vTr V S T p,I (x:Int)] w fun e w'=>e=.returned (I (x:Int))/\Below w.heap.size w w':=by
 have HR:=q9 hR;clear hR
 by_cases h0:x=0
 . subst h0
   go_enter Tryz.func97,Tryz.ntmps97
   go_wp2_with fail
   refine(QeL V S T 0 (by omega) _).mono ?_;rintro e w1 ⟨rfl,hb1⟩
   have HB:=q9 (QK ((Below.refl _ _).alloc (Nat.le_refl _) _) hb1);clear hb1;go_wp2_with fail
   go_ret;exact⟨rfl,HB.alloc HB.size _⟩
 . go_enter Tryz.func97,Tryz.ntmps97
   go_wp2_with fail
   refine(QdC HR (by omega) hx _).mono ?_;rintro e w1 ⟨⟨v,s,d,rfl⟩,hb1⟩
   have HB:=q9 (QK ((Below.refl _ _).alloc (Nat.le_refl _) _) hb1);clear hb1;go_wp2_with fail
   go_ret;exact⟨rfl,HB.alloc HB.size _⟩
end
theorem Qem (V S T:Int){x:Nat}(h:x=0)(k:Int):Qbu V S T (x:Int) k=-1:=by subst h;exact if_neg (by omega)
theorem Qfh {o y:Int}(h1:0<=o)(h2:o<=65535)(h3:0<=y)(h4:y<=65535):QO o y 1 0=true:=by rw[Qie];exact decide_eq_true (by omega)
section
variable {V S T:Int}{f:Nat->Int}{g:Mg9}
theorem Qlp {n:Nat}{x k v:Nat}(hb:∀ y,y<=n->g y 2<=n/\g y 3<=n/\g y 4<=n)(hv:k<=4->v<=n):∀ y,y<=n->up2 g x k v y 2<=n/\up2 g x k v y 3<=n/\up2 g x k v y 4<=n:=by
 intro y hy;have h:=hb y hy;refine⟨?_,?_,?_⟩<;>(unfold up2;split)
 . rename_i e;exact hv (by omega)
 . exact h.1
 . rename_i e;exact hv (by omega)
 . exact h.2.1
 . rename_i e;exact hv (by omega)
 . exact h.2.2
theorem Rl.store (r:Rl V S T f g)(hR:Rt V S T){x k v:Nat}(h1:1<=x)(h2:x<=nN V S)(h3:3<=k)(h4:k<=6)(hv:k<=4->v<=nN V S):Rl V S T (upd f (cN V S T x k) (v:Int)) (up2 g x k v):=by
 have ot:∀ y,1<=y->upd f (cN V S T x k) (v:Int) (cN V S T y 2)=f (cN V S T y 2):=fun y hy=>Qa _ _ fun e=>by have:=(Qc7 hR hy h1 (by omega) (by omega) e).2;omega
 refine⟨fun j=>(Qh _ _ _ _ (by omega)).trans (r.z j),fun y j y1 y2 j1 j2=>?_,fun y y1 y2 hy=>?_,fun y y1 y2 hy=>?_,Qlp r.b hv,fun i hi=>(Qa _ _ (hi x k h1 h2 (by omega) h4)).trans ((r.o i hi).trans (by rw[Qh _ _ _ _ (by omega)]))⟩
 . by_cases e:y=x/\j=k
   . obtain⟨rfl,rfl⟩:=e;rw[QN,Qaf]
   . rw[Qa _ _ fun e'=>e (Qc7 hR y1 h1 (by omega) (by omega) e')]
     unfold up2;rw[if_neg e];exact r.c y j y1 y2 j1 j2
 . rw[ot y y1,Qp _ _ _ _ (by omega)];exact r.a y y1 y2 hy
 . rw[ot y y1,Qp _ _ _ _ (by omega)];exact r.p y y1 y2 hy
theorem Rl.par_a (r:Rl V S T f g)(hR:Rt V S T){x v:Nat}(h1:1<=x)(h2:x<=nN V S)(hp:isP V x=false)(hv:v<=nN V S):Rl V S T (upd f (cN V S T x 2) (v:Int)) (up2 g x 2 v):=by
 refine⟨fun j=>(Qh _ _ _ _ (by omega)).trans (r.z j),fun y j y1 y2 j1 j2=>?_,fun y y1 y2 hy=>?_,fun y y1 y2 hy=>?_,Qlp r.b (fun _=>hv),fun i hi=>(Qa _ _ (hi x 2 h1 h2 (by omega) (by omega))).trans ((r.o i hi).trans (by rw[Qh _ _ _ _ (by omega)]))⟩
 . rw[Qa _ _ fun e=>by have:=(Qc7 hR y1 h1 (by omega) (by omega) e).2;omega,Qp _ _ _ _ (by omega)];exact r.c y j y1 y2 j1 j2
 . by_cases e:y=x
   . subst e;rw[QN,Qaf]
   . rw[Qa _ _ fun e'=>e (Qc7 hR y1 h1 (by omega) (by omega) e').1,Qh _ _ _ _ e];exact r.a y y1 y2 hy
 . have e:y≠x:=fun e=>by rw[e,hp] at hy;cases hy
   rw[Qa _ _ fun e'=>e (Qc7 hR y1 h1 (by omega) (by omega) e').1,Qh _ _ _ _ e];exact r.p y y1 y2 hy
theorem Rl.par_p (r:Rl V S T f g)(hR:Rt V S T){x v:Nat}{W:Int}(h1:1<=x)(h2:x<=nN V S)(hp:isP V x=true)(hv:v<=nN V S)(hw:QZ W=true)(hn:rN W=(v:Int)):Rl V S T (upd f (cN V S T x 2) W) (up2 g x 2 v):=by
 refine⟨fun j=>(Qh _ _ _ _ (by omega)).trans (r.z j),fun y j y1 y2 j1 j2=>?_,fun y y1 y2 hy=>?_,fun y y1 y2 hy=>?_,Qlp r.b (fun _=>hv),fun i hi=>(Qa _ _ (hi x 2 h1 h2 (by omega) (by omega))).trans ((r.o i hi).trans (by rw[Qh _ _ _ _ (by omega)]))⟩
 . rw[Qa _ _ fun e=>by have:=(Qc7 hR y1 h1 (by omega) (by omega) e).2;omega,Qp _ _ _ _ (by omega)];exact r.c y j y1 y2 j1 j2
 . have e:y≠x:=fun e=>by rw[e,hp] at hy;cases hy
   rw[Qa _ _ fun e'=>e (Qc7 hR y1 h1 (by omega) (by omega) e').1,Qh _ _ _ _ e];exact r.a y y1 y2 hy
 . by_cases e:y=x
   . subst e;rw[QN,Qaf];exact⟨hw,hn⟩
   . rw[Qa _ _ fun e'=>e (Qc7 hR y1 h1 (by omega) (by omega) e').1,Qh _ _ _ _ e];exact r.p y y1 y2 hy
variable {w w':World}{p gb cap m:Nat}
def Did (V S T:Int)(p gb cap m:Nat)(g:Mg9)(r:Value)(w:World)(e:Ending)(w':World):Prop:=e=.returned r/\TM w' V S T p gb cap m g/\Only p gb w w'
theorem QjK (A:TM w V S T p gb cap m g){x k:Nat}{kI:Int}(hk:kI=(k:Int))(hx:x<=nN V S)(hk7:2<=k/\k<=6)(hp:k=2->isP V x=false)(hm:m<=100000000):
 Calls Tryz.prog 139 #[vTr V S T p,I (x:Int),I kI] w (Did V S T p gb cap (m+1) g (I2 (g x k:Int)) w):=by
 subst hk;have ml:=QaF;have nl:=Qcp
 have xI:(x:Int)<=560:=by have:=Ql A.hR;omega
 have HA:=q9 A;have HX:=q9 hx;have HP:=q9 hp;have HZ:=q9 (A.z k);clear A hx hp
 by_cases h0:x=0
 . have HF:=q9 (Qem V S T h0 (k:Int))
   have e0:g x k=0:=by rw[h0];exact HZ
   have HE:=q9 e0;have HH:=q9 h0;clear h0 e0
   go_enter Tryz.func139,Tryz.ntmps139
   go_wp2_with fail
   refine(QaM V S T (x:Int) (k:Int) HA.hR (by omega) (by omega) _).mono ?_;rintro e w1 ⟨rfl,hb1⟩;rw[HF.out]
   have HB:=q9 (QK ((Below.refl _ _).alloc (Nat.le_refl _) _) hb1);clear hb1;go_wp2_with fail
   rw[HE.out];go_ret
   exact⟨rfl,(HA.below HB).more (by omega),Only.of_below HB⟩
 . have hx1:1<=x:=by omega
   have HF:=q9 (Qcy HA.hR hx1 HX.out (k:=k) (by omega))
   have HL:=q9 (QfQ HA.hR hx1 HX.out (k:=k) (by omega))
   obtain⟨c,f,A,C,r⟩:=HA.ar
   have ev:f (cN V S T x k)=(g x k:Int):=by
    by_cases h2:k=2
    . subst h2;exact r.a x hx1 HX (HP rfl)
    . exact r.c x k hx1 HX (by omega) (by omega)
   have HE:=q9 ev;have HAr:=q9 A;have HC:=q9 C;have Hr:=q9 r;clear ev h0 A C r;generalize hq:cN V S T x k=q at HF HL HE;clear hq
   go_enter Tryz.func139,Tryz.ntmps139
   go_wp2_with fail
   refine(QaM V S T (x:Int) (k:Int) HA.hR (by omega) (by omega) _).mono ?_;rintro e w1 ⟨rfl,hb1⟩;rw[HF.out]
   obtain⟨hc,hf⟩:=QcC hb1;have HB:=q9 (QK ((Below.refl _ _).alloc (Nat.le_refl _) _) hb1);have HA1:=q9 (HAr.below HB.out (Nat.le_refl _));have hlt:=hb1.size;clear hb1;go_wp2_with fail
   refine(QcS HA1 HL HC hm).mono ?_;rintro e w2 ⟨rfl,A2,O2⟩;rw[HE.out];have HA2:=q9 A2;have HO2:=q9 ((Only.of_below (p:=p) (g:=gb) HB.out).trans O2);clear A2 O2 hc hf;go_wp2_with fail
   go_ret;exact⟨rfl,⟨HA.hR,_,_,HA2,HC.upd 0,Hr⟩,HO2⟩
theorem Qec (A:TM w V S T p gb cap m g){x k v:Nat}{kI:Int}(hk:kI=(k:Int))(hx:x<=nN V S)(hx1:1<=x)(hk7:2<=k/\k<=6)(hp:k=2->isP V x=false)(hv:k<=4->v<=nN V S)(hv64:v<=18446744073709551615)(hm:m<=100000000):
 Calls Tryz.prog 79 #[vTr V S T p,I (x:Int),I kI,I2 (v:Int)] w (Did V S T p gb cap (m+1) (up2 g x k v) (.tuple #[]) w):=by
 subst hk;have ml:=Qaa;have nl:=Qa1
 have xI:(x:Int)<=560:=by have:=Ql A.hR;omega
 have HA:=q9 A;have HX:=q9 hx
 have HF:=q9 (Qcy A.hR hx1 hx (k:=k) (by omega))
 have HL:=q9 (QfQ A.hR hx1 hx (k:=k) (by omega))
 obtain⟨c,f,A',C,r⟩:=A.ar
 have r':Rl V S T (upd f (cN V S T x k) (v:Int)) (up2 g x k v):=by
  by_cases h2:k=2
  . subst h2;exact r.par_a A.hR hx1 hx (hp rfl) (hv (by omega))
  . exact r.store A.hR hx1 hx (by omega) (by omega) hv
 have HAr:=q9 A';have HC:=q9 C;have Hr:=q9 r';clear A A' C r r' hx hp;generalize hq:cN V S T x k=q at HF HL Hr;clear hq
 go_enter Tryz.func79,Tryz.ntmps79
 go_wp2_with fail
 refine(QaM V S T (x:Int) (k:Int) HA.hR (by omega) (by omega) _).mono ?_;rintro e w1 ⟨rfl,hb1⟩;rw[HF.out]
 obtain⟨hc,hf⟩:=QcC hb1;have HB:=q9 (QK ((Below.refl _ _).alloc (Nat.le_refl _) _) hb1);have HA1:=q9 (HAr.below HB.out (Nat.le_refl _));have hlt:=hb1.size;clear hb1;go_wp2_with fail
 refine(Qdc HA1 HL (by omega) (by omega) HC hm).mono ?_;rintro e w2 ⟨rfl,A2,O2⟩
 have HA2:=q9 A2;have HO2:=q9 ((Only.of_below (p:=p) (g:=gb) HB.out).trans O2);clear A2 O2 hc hf;go_wp2_with fail
 go_end0
 exact⟨rfl,⟨HA.hR,_,_,HA2,HC.upd 1,Hr⟩,HO2⟩
theorem Qag (hR:Rt V S T){x:Nat}(hx:x<=nN V S)(p:Nat)(w:World):
 Calls Tryz.prog 128 #[vTr V S T p,I (x:Int)] w fun e w'=>e=.returned (.bool (isP V x))/\Below w.heap.size w w':=by
 have HR:=q9 hR;clear hR
 by_cases h0:x=0
 . subst h0
   go_enter Tryz.func128,Tryz.ntmps128
   go_wp2_with fail
   refine(QeL V S T 0 (by omega) _).mono ?_;rintro e w1 ⟨rfl,hb1⟩
   have HB:=q9 (QK ((Below.refl _ _).alloc (Nat.le_refl _) _) hb1);clear hb1;go_wp2_with fail
   go_ret;exact⟨rfl,HB.alloc HB.size _⟩
 . have hx1:1<=x:=by omega
   by_cases hl:lvN V x=0
   . rw[show isP V x=true from decide_eq_true ⟨h0,hl⟩]
     go_enter Tryz.func128,Tryz.ntmps128
     go_wp2_with fail
     refine(QdC HR hx1 hx _).mono ?_;rintro e w1 ⟨⟨v,s,d,rfl⟩,hb1⟩;rw[hl];have HB:=q9 (QK ((Below.refl _ _).alloc (Nat.le_refl _) _) hb1);clear hb1;go_wp2_with fail
     go_ret;exact⟨rfl,HB.alloc HB.size _⟩
   . rw[show isP V x=false from decide_eq_false fun h=>hl h.2]
     obtain⟨l,el⟩:∃ l,lvN V x=l:=⟨_,rfl⟩;rw[el] at hl;have HL:=q9 el;clear el
     go_enter Tryz.func128,Tryz.ntmps128
     go_wp2_with fail
     refine(QdC HR hx1 hx _).mono ?_;rintro e w1 ⟨⟨v,s,d,rfl⟩,hb1⟩;rw[HL.out];have HB:=q9 (QK ((Below.refl _ _).alloc (Nat.le_refl _) _) hb1);clear hb1;go_wp2_with fail
     go_ret
     exact⟨by show Ending.returned (.bool (l==0))=_;rw[show (l==0)=false from beq_eq_false_iff_ne.2 hl],HB.alloc HB.size _⟩
end
theorem Qm (b:Nat)(V S T:Int)(p:Nat):∀ W:World,TB W b V S T p->W.cell? (I1 b 0)=some (I V)/\W.cell? (I1 b 1)=some (I S)/\W.cell? (I1 b 2)=some (I T)/\W.cell? (I1 b 3)=some (I4 p)/\W.cell? (I1 b 4)=some (I 1)/\W.cell? (I1 b 5)=some (I 0):=fun _ h=>h.cells
theorem kI2:(2:Int)=((2:Nat):Int):=rfl
theorem kI3:(3:Int)=((3:Nat):Int):=rfl
theorem kI4:(4:Int)=((4:Nat):Int):=rfl
theorem kI5:(5:Int)=((5:Nat):Int):=rfl
theorem kI6:(6:Int)=((6:Nat):Int):=rfl
section
variable {V S T:Int}{g:Mg9}{w w':World}{p gb cap m:Nat}
theorem Qg8 (hR:Rt V S T){x:Nat}(hx:x<=nN V S)(hf:Qbu V S T (x:Int) 2=-1)(p v:Nat)(w:World):
 Calls Tryz.prog 79 #[vTr V S T p,I (x:Int),I 2,I2 (v:Int)] w fun e w'=>e=.returned (.tuple #[])/\Below w.heap.size w w':=by
 have HR:=q9 hR;have HF:=q9 hf
 have xI:Hid ((x:Int)<=9223372036854775807):=q9 (by have:=Ql hR;omega)
 clear hR hf hx
 go_enter Tryz.func79,Tryz.ntmps79
 go_wp2_with fail
 refine(QaM V S T (x:Int) 2 HR (by omega) xI.out _).mono ?_;rintro e w1 ⟨rfl,hb1⟩;rw[HF.out]
 have HB:=q9 (QK ((Below.refl _ _).alloc (Nat.le_refl _) _) hb1);clear hb1;go_wp2_with fail
 exact bodyPost_ret (v:=.tuple #[]) (by simp [results,Tryz.results79,go_sem]) rfl ⟨rfl,HB.out⟩
theorem Qk8 (A:TM w V S T p gb cap m g){x k:Nat}{kI:Int}(hk:kI=(k:Int))(hx:x<=nN V S)(hk7:k=3\/k=4)(hm:m<=100000000):
 Calls Tryz.prog 98 #[vTr V S T p,I (x:Int),I kI] w (Did V S T p gb cap (m+1) g (I (g x k:Int)) w):=by
 have hy:g x k<=nN V S:=by rcases hk7 with rfl|rfl;exact(A.b hx).2.1;exact(A.b hx).2.2
 have yI:((g x k:Nat):Int)<=560:=by have:=Ql A.hR;omega
 have hw:IntKind.i64.wrap ((g x k:Nat):Int)=((g x k:Nat):Int):=IntWalk.i64_in _ (by omega)
 have HK:=q9 hk;have HX:=q9 hx;have HR:=q9 A.hR;have HY:=q9 hy;have HA:=q9 A
 have H7:Hid (2<=k/\k<=6):=q9 (by omega)
 have HP:Hid (k=2->isP V x=false):=q9 fun e=>by omega
 obtain⟨y,hyv⟩:∃ y,g x k=y:=⟨_,rfl⟩;have HV:=q9 hyv;rw[hyv] at yI hw;rw[hyv] at HY;rw[hyv];clear A hx hk hk7 hy hyv
 go_enter Tryz.func98,Tryz.ntmps98
 go_wp2_with fail
 have HT:Hid (TB (w.alloc (I5 V S T p)) w.heap.size V S T p):=q9 (TB.new _ _ _ _ _);have HA0:=q9 (HA.alloc (I5 V S T p));have HO0:=q9 ((Only.refl p gb w).alloc (I5 V S T p))
 have HBL:Hid (w.heap.size<(w.alloc (I5 V S T p)).heap.size):=q9 (by simp)
 generalize hwb:w.heap.size=b at HT HBL |-;generalize hW:w.alloc (I5 V S T p)=W at HT HA0 HO0 HBL |-;clear hW;have htb:=Qm b V S T p;obtain⟨y0,y1,y2,y3,y4,y5⟩:=HT.cells;have hlt:=HT.lt;have HTd:=q9 HT.drew;have HAd:=q9 HA0.drew;have HOd:=q9 HO0.drew
 go_region_held3 (fun W=>TB W b V S T p) (first|(with_reducible assumption)|(with_reducible exact TB.below (by assumption) hb1)|(with_reducible exact TB.only (by assumption) (Hid.out (by assumption:Hid (TM _ V S T p gb cap (m) g))) O2)|(with_reducible exact HTd.out))
  (first
   |(go_at_call 97;((with_reducible refine(Qar HR.out HY.out p _).mono ?_);rintro e w' ⟨rfl,hb1⟩;have HA3:=q9 (TM.below (Hid.out (by assumption:Hid (TM _ V S T p gb cap (m+1) g))) hb1);have HO3:=q9 (Only.trans (Hid.out (by assumption:Hid (Only p gb w _))) (Only.of_below hb1))))
   |(go_at_call 139;((with_reducible refine(QjK (Hid.out (by assumption:Hid (TM _ V S T p gb cap (m) g))) HK.out HX.out H7.out HP.out hm).mono ?_);rintro e w2 ⟨rfl,A2,O2⟩;have HA2:=q9 A2;have HO2:=q9 (Only.trans (Hid.out (by assumption:Hid (Only p gb w _))) O2);rw[HV.out])))
 go_wp2_with fail
 go_ret;exact⟨rfl,HA3,HO3⟩
theorem QmK (A:TM w V S T p gb cap m g){x:Nat}(hx:x<=nN V S)(hp:isP V x=false)(hm:m<=100000000):
 Calls Tryz.prog 139 #[vTr V S T p,I (x:Int),I 2] w (Did V S T p gb cap (m+1) g (I2 (g x 2:Int)) w):=QjK (k:=2) A kI2 hx (by omega) (fun _=>hp) hm
theorem Qbc (A:TM w V S T p gb cap m g){x:Nat}(hx:x<=nN V S)(hm:m<=100000000):
 Calls Tryz.prog 139 #[vTr V S T p,I (x:Int),I 5] w (Did V S T p gb cap (m+1) g (I2 (g x 5:Int)) w):=QjK (k:=5) A kI5 hx (by omega) (fun e=>absurd e (by omega)) hm
theorem QmJ (A:TM w V S T p gb cap m g){x:Nat}(hx:x<=nN V S)(hm:m<=100000000):
 Calls Tryz.prog 139 #[vTr V S T p,I (x:Int),I 6] w (Did V S T p gb cap (m+1) g (I2 (g x 6:Int)) w):=QjK (k:=6) A kI6 hx (by omega) (fun e=>absurd e (by omega)) hm
theorem QbW (A:TM w V S T p gb cap m g){x:Nat}(hx:x<=nN V S)(hm:m<=100000000):
 Calls Tryz.prog 98 #[vTr V S T p,I (x:Int),I 3] w (Did V S T p gb cap (m+1) g (I (g x 3:Int)) w):=Qk8 (k:=3) A kI3 hx (.inl rfl) hm
theorem Qdw (A:TM w V S T p gb cap m g){x:Nat}(hx:x<=nN V S)(hm:m<=100000000):
 Calls Tryz.prog 98 #[vTr V S T p,I (x:Int),I 4] w (Did V S T p gb cap (m+1) g (I (g x 4:Int)) w):=Qk8 (k:=4) A kI4 hx (.inr rfl) hm
theorem Qey (A:TM w V S T p gb cap m g){x:Nat}(hx:x<=nN V S)(hm:m<=100000000):
 Calls Tryz.prog 118 #[vTr V S T p,I (x:Int)] w (Did V S T p gb cap (m+1) g (I (g x 2:Int)) w):=by
 have hy:g x 2<=nN V S:=(A.b hx).1
 have yI:((g x 2:Nat):Int)<=560:=by have:=Ql A.hR;omega
 have hw:IntKind.i64.wrap ((g x 2:Nat):Int)=((g x 2:Nat):Int):=IntWalk.i64_in _ (by omega)
 have xI:(x:Int)<=560:=by have:=Ql A.hR;omega
 have HX:=q9 hx;have HR:=q9 A.hR;have HY:=q9 hy;have HA:=q9 A;obtain⟨y,hyv⟩:∃ y,g x 2=y:=⟨_,rfl⟩;have HV:=q9 hyv;rw[hyv] at yI hw;rw[hyv] at HY;rw[hyv]
 by_cases hP:isP V x=true
 . have hx1:1<=x:=by have:=(of_decide_eq_true hP).1;omega
   have HPt:=q9 hP
   have HF:Hid (Qbu V S T (x:Int) 2=(cN V S T x 2:Int)):=q9 (Qcy HR.out hx1 hx (k:=2) (by omega))
   have HL:=q9 (QfQ HR.out hx1 hx (k:=2) (by omega))
   have HI:Hid (∀ f,Rl V S T f g->IsW (f (cN V S T x 2)) (rO (f (cN V S T x 2))) (y:Int) (rT (f (cN V S T x 2))) (rG (f (cN V S T x 2)))):=q9 fun f r=>⟨rfl,by rw[(r.p x hx1 hx hP).2,hyv],rfl,rfl⟩
   clear hx hy hyv A hP;generalize hq:cN V S T x 2=q at HF HL HI;clear hq
   go_enter Tryz.func118,Tryz.ntmps118
   go_wp2_with fail
   have HT:Hid (TB (w.alloc (I5 V S T p)) w.heap.size V S T p):=q9 (TB.new _ _ _ _ _);have HA0:=q9 (HA.alloc (I5 V S T p));have HO0:=q9 ((Only.refl p gb w).alloc (I5 V S T p))
   have HBL:Hid (w.heap.size<(w.alloc (I5 V S T p)).heap.size):=q9 (by simp)
   generalize hwb:w.heap.size=b at HT HBL |-;generalize hW:w.alloc (I5 V S T p)=W at HT HA0 HO0 HBL |-;clear hW;have htb:=Qm b V S T p;obtain⟨y0,y1,y2,y3,y4,y5⟩:=HT.cells;have hlt:=HT.lt;refine(Qag HR HX p _).mono ?_;rintro e w1 ⟨rfl,hb1⟩;rw[HPt.out]
   replace HT:=q9 (HT.below hb1)
   replace HA0:=q9 (HA0.below hb1)
   replace HO0:=q9 (HO0.trans (Only.of_below hb1))
   clear hb1 y0 y1 y2 y3 y4 y5 hlt;obtain⟨y0,y1,y2,y3,y4,y5⟩:=HT.cells;have hlt:=HT.lt;go_wp2_with fail
   obtain⟨c,f,A1,C1,r1⟩:=HA0.ar;have HAr:=q9 A1.drew;have HC:=q9 C1;have Hr:=q9 r1;clear A1 C1 r1;have HTd:=q9 HT.drew;have HAd:=q9 HA0.drew;have HOd:=q9 HO0.drew
   go_region_held3 (fun W=>TB W b V S T p) (first|(with_reducible assumption)|(with_reducible exact TB.below (by assumption) hb1)|(with_reducible exact TB.only (by assumption) (Hid.out (by assumption:Hid (TM _ V S T p gb cap m g))) O2)|(with_reducible exact HTd.out))
    (first
     |(go_at_call 35;((with_reducible refine(QaM V S T (x:Int) 2 HR.out (by omega) (by omega) _).mono ?_);rintro e w' ⟨rfl,hb1⟩;rw[HF.out];have HAf:=q9 (TM.below (Hid.out (by assumption:Hid (TM _ V S T p gb cap m g))) hb1);have HOf:=q9 (Only.trans (Hid.out (by assumption:Hid (Only p gb w _))) (Only.of_below hb1));have HAr1:=q9 (HAr.out.below hb1 (Nat.le_refl _))))
     |(go_at_call 148;((with_reducible refine(QlR HAr1.out HL.out (HI.out f Hr.out) HC.out hm).mono ?_);rintro e w2 ⟨rfl,A2,O2⟩;have HA2:Hid (TM w2 V S T p gb cap (m+1) g):=q9 ⟨HR.out,_,_,A2,HC.out.upd 0,Hr.out⟩;have HO2:=q9 (Only.trans (Hid.out (by assumption:Hid (Only p gb w _))) O2)))
     |(go_at_call 97;((with_reducible refine(Qar HR.out HY.out p _).mono ?_);rintro e w' ⟨rfl,hb1⟩;have HA3:=q9 (TM.below (Hid.out (by assumption:Hid (TM _ V S T p gb cap (m+1) g))) hb1);have HO3:=q9 (Only.trans (Hid.out (by assumption:Hid (Only p gb w _))) (Only.of_below hb1)))))
   go_wp2_with fail
   go_ret;exact⟨rfl,HA3,HO3⟩
 . have hP':isP V x=false:=by simpa using hP
   have HPt:=q9 hP';clear hx hy hyv A hP hP'
   go_enter Tryz.func118,Tryz.ntmps118
   go_wp2_with fail
   have HT:Hid (TB (w.alloc (I5 V S T p)) w.heap.size V S T p):=q9 (TB.new _ _ _ _ _);have HA0:=q9 (HA.alloc (I5 V S T p));have HO0:=q9 ((Only.refl p gb w).alloc (I5 V S T p))
   have HBL:Hid (w.heap.size<(w.alloc (I5 V S T p)).heap.size):=q9 (by simp)
   generalize hwb:w.heap.size=b at HT HBL |-;generalize hW:w.alloc (I5 V S T p)=W at HT HA0 HO0 HBL |-;clear hW;have htb:=Qm b V S T p;obtain⟨y0,y1,y2,y3,y4,y5⟩:=HT.cells;have hlt:=HT.lt;refine(Qag HR HX p _).mono ?_;rintro e w1 ⟨rfl,hb1⟩;rw[HPt.out]
   replace HT:=q9 (HT.below hb1)
   replace HA0:=q9 (HA0.below hb1)
   replace HO0:=q9 (HO0.trans (Only.of_below hb1))
   clear hb1 y0 y1 y2 y3 y4 y5 hlt;obtain⟨y0,y1,y2,y3,y4,y5⟩:=HT.cells;have hlt:=HT.lt;go_wp2_with fail
   have HTd:=q9 HT.drew;have HAd:=q9 HA0.drew;have HOd:=q9 HO0.drew
   go_region_held3 (fun W=>TB W b V S T p) (first|(with_reducible assumption)|(with_reducible exact TB.below (by assumption) hb1)|(with_reducible exact TB.only (by assumption) (Hid.out (by assumption:Hid (TM _ V S T p gb cap (m) g))) O2)|(with_reducible exact HTd.out))
    (first
     |(go_at_call 97;((with_reducible refine(Qar HR.out HY.out p _).mono ?_);rintro e w' ⟨rfl,hb1⟩;have HA3:=q9 (TM.below (Hid.out (by assumption:Hid (TM _ V S T p gb cap (m+1) g))) hb1);have HO3:=q9 (Only.trans (Hid.out (by assumption:Hid (Only p gb w _))) (Only.of_below hb1))))
     |(go_at_call 139;((with_reducible refine(QmK (Hid.out (by assumption:Hid (TM _ V S T p gb cap (m) g))) HX.out HPt.out hm).mono ?_);rintro e w2 ⟨rfl,A2,O2⟩;have HA2:=q9 A2;have HO2:=q9 (Only.trans (Hid.out (by assumption:Hid (Only p gb w _))) O2);rw[HV.out])))
   go_wp2_with fail
   go_ret;exact⟨rfl,HA3,HO3⟩
theorem QiL {v y:Int}(h0:0<=y)(h1:y<=65535):QO (wrO (rO v) (rN v) (rT v) (rG v) 1 0) y 1 0=true:=by
 obtain⟨a1,a2,a3,a4,_⟩:=QeF (QiM v).right;unfold wrO
 split
 . exact Qfh a1 a2 h0 h1
 . exact Qfh a3 a4 h0 h1
set_option maxHeartbeats 1000000 in
theorem QaZ (A:TM w V S T p gb cap m g){x v:Nat}(hx:x<=nN V S)(hv:v<=nN V S)(hm:m<=99999990):
 Calls Tryz.prog 80 #[vTr V S T p,I (x:Int),I (v:Int)] w (Did V S T p gb cap (m+2) (setP g x v) (.tuple #[]) w):=by
 have xI:(x:Int)<=560:=by have:=Ql A.hR;omega
 have vI:(v:Int)<=560:=by have:=Ql A.hR;omega
 have hw:IntKind.u64.wrap (v:Int)=(v:Int):=IntWalk.u64_in _ (by omega)
 have HX:=q9 hx;have HR:=q9 A.hR;have HV:=q9 hv;have HA:=q9 A
 by_cases hP:isP V x=true
 . have hx1:1<=x:=by have:=(of_decide_eq_true hP).1;omega
   have HPt:=q9 hP
   have HF:Hid (Qbu V S T (x:Int) 2=(cN V S T x 2:Int)):=q9 (Qcy HR.out hx1 hx (k:=2) (by omega))
   have HL:=q9 (QfQ HR.out hx1 hx (k:=2) (by omega))
   have HI:Hid (∀ f,Rl V S T f g->QZ (f (cN V S T x 2))=true):=q9 fun f r=>(r.p x hx1 hx hP).1
   have HN:Hid (∀ f,Rl V S T f g->Rl V S T (upd f (cN V S T x 2) (Qa3 (wrO (rO (f (cN V S T x 2))) (rN (f (cN V S T x 2))) (rT (f (cN V S T x 2))) (rG (f (cN V S T x 2))) 1 0) (v:Int) 1 0)) (setP g x v)):=q9 fun f r=>by
    have h:=Qkt (QiL (v:=f (cN V S T x 2)) (y:=(v:Int)) (by omega) (by omega))
    rw[show setP g x v=up2 g x 2 v from if_neg (by omega)]
    exact r.par_p HR hx1 hx hP hv h.2 h.1.n
   clear hx hv A hP;generalize hq:cN V S T x 2=q at HF HL HI HN;clear hq
   go_enter Tryz.func80,Tryz.ntmps80
   go_wp2_with fail
   have HT:Hid (TB (w.alloc (I5 V S T p)) w.heap.size V S T p):=q9 (TB.new _ _ _ _ _);have HA0:=q9 (HA.alloc (I5 V S T p));have HO0:=q9 ((Only.refl p gb w).alloc (I5 V S T p))
   have HBL:Hid (w.heap.size<(w.alloc (I5 V S T p)).heap.size):=q9 (by simp)
   generalize hwb:w.heap.size=b at HT HBL |-;generalize hW:w.alloc (I5 V S T p)=W at HT HA0 HO0 HBL |-;clear hW;have htb:=Qm b V S T p;obtain⟨y0,y1,y2,y3,y4,y5⟩:=HT.cells;have hlt:=HT.lt;refine(Qag HR HX p _).mono ?_;rintro e w1 ⟨rfl,hb1⟩;rw[HPt.out]
   replace HT:=q9 (HT.below hb1)
   replace HA0:=q9 (HA0.below hb1)
   replace HO0:=q9 (HO0.trans (Only.of_below hb1))
   clear hb1 y0 y1 y2 y3 y4 y5 hlt;obtain⟨y0,y1,y2,y3,y4,y5⟩:=HT.cells;have hlt:=HT.lt;go_wp2_with fail
   obtain⟨c,f,A1,C1,r1⟩:=HA0.ar;have HAr:=q9 A1.drew;have HC:=q9 C1;have Hr:=q9 r1
   have HW:=q9 (QiL (v:=f q) (y:=(v:Int)) (by omega) (by omega))
   clear A1 C1 r1;have HTd:=q9 HT.drew;have HAd:=q9 HA0.drew;have HOd:=q9 HO0.drew
   go_region_held3 (fun W=>TB W b V S T p) (first|(with_reducible assumption)|(with_reducible exact TB.below (by assumption) hb1)|(with_reducible exact TB.only (by assumption) (Hid.out (by assumption:Hid (TM _ V S T p gb cap m g))) O2)|(with_reducible exact HTd.out))
    (first
     |(go_at_call 35;((with_reducible refine(QaM V S T (x:Int) 2 HR.out (by omega) (by omega) _).mono ?_);rintro e w' ⟨rfl,hb1⟩;rw[HF.out];have HAf:=q9 (TM.below (Hid.out (by assumption:Hid (TM _ V S T p gb cap m g))) hb1);have HOf:=q9 (Only.trans (Hid.out (by assumption:Hid (Only p gb w _))) (Only.of_below hb1));have HAr1:=q9 (HAr.out.below hb1 (Nat.le_refl _))))
     |(go_at_call 129;((with_reducible refine(QhO HAr1.out HL.out (QiM _) (HI.out f Hr.out) HW.out HC.out hm).mono ?_);rintro e w2 ⟨rfl,A2,O2⟩;have HA2:Hid (TM w2 V S T p gb cap (m+2) (setP g x v)):=q9 ⟨HR.out,_,_,A2,(HC.out.upd 0).upd 1,HN.out f Hr.out⟩;have HO2:=q9 (Only.trans (Hid.out (by assumption:Hid (Only p gb w _))) O2))))
   go_wp2_with fail
   go_end0
   exact⟨rfl,HA2,HO2⟩
 . have hP':isP V x=false:=by simpa using hP
   have HPt:=q9 hP'
   by_cases h0:x=0
   . have HE:Hid (setP g x v=g):=q9 (if_pos h0)
     have HF:=q9 (Qem V S T h0 2);rw[HE.out];clear hx hv A hP hP' h0
     go_enter Tryz.func80,Tryz.ntmps80
     go_wp2_with fail
     have HT:Hid (TB (w.alloc (I5 V S T p)) w.heap.size V S T p):=q9 (TB.new _ _ _ _ _);have HA0:=q9 (HA.alloc (I5 V S T p));have HO0:=q9 ((Only.refl p gb w).alloc (I5 V S T p))
     have HBL:Hid (w.heap.size<(w.alloc (I5 V S T p)).heap.size):=q9 (by simp)
     generalize hwb:w.heap.size=b at HT HBL |-;generalize hW:w.alloc (I5 V S T p)=W at HT HA0 HO0 HBL |-;clear hW;have htb:=Qm b V S T p;obtain⟨y0,y1,y2,y3,y4,y5⟩:=HT.cells;have hlt:=HT.lt;refine(Qag HR HX p _).mono ?_;rintro e w1 ⟨rfl,hb1⟩;rw[HPt.out]
     replace HT:=q9 (HT.below hb1)
     replace HA0:=q9 (HA0.below hb1)
     replace HO0:=q9 (HO0.trans (Only.of_below hb1))
     clear hb1 y0 y1 y2 y3 y4 y5 hlt;obtain⟨y0,y1,y2,y3,y4,y5⟩:=HT.cells;have hlt:=HT.lt;go_wp2_with fail
     refine(Qg8 HR HX HF p v _).mono ?_;rintro e w2 ⟨rfl,hb2⟩
     have HA2:=q9 ((HA0.below hb2).more (m':=m+2) (by omega))
     have HO2:=q9 (HO0.trans (Only.of_below hb2));go_wp2_with fail
     go_end0
     exact⟨rfl,HA2,HO2⟩
   . have HE:Hid (setP g x v=up2 g x 2 v):=q9 (if_neg h0)
     have H0:Hid (1<=x):=q9 (by omega)
     have H7:Hid (v<=18446744073709551615):=q9 (by omega)
     rw[HE.out];clear hx hv A hP hP' h0
     go_enter Tryz.func80,Tryz.ntmps80
     go_wp2_with fail
     have HT:Hid (TB (w.alloc (I5 V S T p)) w.heap.size V S T p):=q9 (TB.new _ _ _ _ _);have HA0:=q9 (HA.alloc (I5 V S T p));have HO0:=q9 ((Only.refl p gb w).alloc (I5 V S T p))
     have HBL:Hid (w.heap.size<(w.alloc (I5 V S T p)).heap.size):=q9 (by simp)
     generalize hwb:w.heap.size=b at HT HBL |-;generalize hW:w.alloc (I5 V S T p)=W at HT HA0 HO0 HBL |-;clear hW;have htb:=Qm b V S T p;obtain⟨y0,y1,y2,y3,y4,y5⟩:=HT.cells;have hlt:=HT.lt;refine(Qag HR HX p _).mono ?_;rintro e w1 ⟨rfl,hb1⟩;rw[HPt.out]
     replace HT:=q9 (HT.below hb1)
     replace HA0:=q9 (HA0.below hb1)
     replace HO0:=q9 (HO0.trans (Only.of_below hb1))
     clear hb1 y0 y1 y2 y3 y4 y5 hlt;obtain⟨y0,y1,y2,y3,y4,y5⟩:=HT.cells;have hlt:=HT.lt;go_wp2_with fail
     refine(Qec (k:=2) HA0 kI2 HX H0 (by omega) (fun _=>HPt.out) (fun _=>HV.out) H7 (by omega)).mono ?_;rintro e w2 ⟨rfl,A2,O2⟩
     have HA2:=q9 (A2.more (m':=m+2) (by omega))
     have HO2:=q9 (HO0.trans O2);go_wp2_with fail
     go_end0
     exact⟨rfl,HA2,HO2⟩
end
theorem QjO {s:Nat}(h:s<=18446744073709551615):bits .and .u64 (s:Int) 65535=(nS s:Int)/\bits .and .u64 ((s:Int) / 65536) 65535=(vS s:Int)/\bits .and .u64 ((s:Int) / 4294967296) 3=(oS s:Int)/\bits .and .u64 ((s:Int) / 17179869184) 3=(aS s:Int):=
 ⟨Qcb 16 65536 65535 s rfl rfl (by omega) (by omega),
  (by rw[show (s:Int) / 65536=((s / 65536:Nat):Int) by omega];exact Qcb 16 65536 65535 (s / 65536) rfl rfl (by omega) (by omega)),
  (by rw[show (s:Int) / 4294967296=((s / 4294967296:Nat):Int) by omega];exact Qcb 2 4 3 (s / 4294967296) rfl rfl (by omega) (by omega)),
  (by rw[show (s:Int) / 17179869184=((s / 17179869184:Nat):Int) by omega];exact Qcb 2 4 3 (s / 17179869184) rfl rfl (by omega) (by omega))⟩
abbrev vSm (s:Nat):Value:=.agg #[I2 (nS s:Int),I2 (vS s:Int),I2 (oS s:Int),I2 (aS s:Int)]
theorem Qh5 (s:Nat)(W:World):(Instr.field 150 (vSm s) 0).run Tryz.prog W=.ok (I2 (nS s:Int)) W:=by kernel_rfl
theorem Qh4 (s:Nat)(W:World):(Instr.field 150 (vSm s) 1).run Tryz.prog W=.ok (I2 (vS s:Int)) W:=by kernel_rfl
theorem Qbn (s:Nat)(W:World):(Instr.field 150 (vSm s) 2).run Tryz.prog W=.ok (I2 (oS s:Int)) W:=by kernel_rfl
def PB (W:World)(c:Nat):Prop:=∃ a b,Blk W c 72 #[a,b]
structure TC (W:World)(b c:Nat)(V S T:Int)(p:Nat):Prop where
 t:TB W b V S T p
 r:PB W c
section
variable {V S T:Int}{g:Mg9}{w w':World}{p gb cap m:Nat}
theorem TC.below {b c:Nat}(h:TC w b c V S T p)(hb:Below w.heap.size w w'):TC w' b c V S T p:=by
 obtain⟨t,a,d,r⟩:=h;exact⟨t.below hb,a,d,r.below hb r.lt⟩
theorem TC.only {b c:Nat}(h:TC w b c V S T p)(A:TM w V S T p gb cap m g)(ho:Only p gb w w'):TC w' b c V S T p:=by
 obtain⟨t,a,d,r⟩:=h
 exact⟨t.only A ho,a,d,r.treap A ho (by decide) (by decide)⟩
theorem TC.drew {b c:Nat}(h:TC w b c V S T p):TC w.drew b c V S T p:=h.below (Below.refl _ _).drew
theorem TC.set {b c:Nat}(h:TC w b c V S T p)(u v:Value):TC ((w.setCell (I1 c 0) u).setCell (I1 c 1) v) b c V S T p:=by
 obtain⟨t,a,d,r⟩:=h
 have hne:b≠c:=Blk.ne_ t r (by decide)
 exact⟨Blk.far (Blk.far t hne u) hne v,u,v,(r.set_ 0 u).set_ 1 v⟩
theorem Qlt (b c:Nat)(V S T:Int)(p:Nat):∀ W:World,TC W b c V S T p->W.cell? (I1 b 0)=some (I V)/\W.cell? (I1 b 1)=some (I S)/\W.cell? (I1 b 2)=some (I T)/\W.cell? (I1 b 3)=some (I4 p)/\W.cell? (I1 b 4)=some (I 1)/\W.cell? (I1 b 5)=some (I 0)/\W.cell? (I1 c 0)=some (zAt W c 0)/\W.cell? (I1 c 1)=some (zAt W c 1)/\W.frozen? (I1 c 0)=false/\W.frozen? (I1 c 1)=false:=fun W h=>by
 obtain⟨y0,y1,y2,y3,y4,y5⟩:=h.t.cells;obtain⟨_,a,d,r⟩:=h;have e0:=r.cell 0;have e1:=r.cell 1
 exact⟨y0,y1,y2,y3,y4,y5,by unfold zAt;rw[e0];rfl,by unfold zAt;rw[e1];rfl,r.frozen 0,r.frozen 1⟩
theorem tsum (A:TM w V S T p gb cap m g){x:Nat}(hx:x<=nN V S)(hm:m<=100000000):
 Calls Tryz.prog 99 #[vTr V S T p,I (x:Int)] w (Did V S T p gb cap (m+1) g (vSm (g x 6)) w):=by
 have fit:=A.fit (k:=6) hx (by omega) (by omega)
 obtain⟨q1,q2,q3,q4⟩:=QjO fit;have HX:=q9 hx;have HA:=q9 A
 have fI:(g x 6:Int)<=18446744073709551615:=by omega
 obtain⟨s,hs⟩:∃ s,g x 6=s:=⟨_,rfl⟩;have HV:=q9 hs;rw[hs] at q1 q2 q3 q4 fI;rw[hs];clear hx A fit hs
 go_enter Tryz.func99,Tryz.ntmps99
 go_wp2_with fail
 have HT:Hid (TB (w.alloc (I5 V S T p)) w.heap.size V S T p):=q9 (TB.new _ _ _ _ _);have HA0:=q9 (HA.alloc (I5 V S T p));have HO0:=q9 ((Only.refl p gb w).alloc (I5 V S T p));have HS0:Hid (Blk ((w.alloc (I5 V S T p)).alloc (.cells #[I2 0,I2 0,I2 0,I2 0] 150)) (w.heap.size+1) 150 #[I2 0,I2 0,I2 0,I2 0]):=q9 (Q8 w _ _ _ _)
 replace HT:=q9 (HT.alloc (.cells #[I2 0,I2 0,I2 0,I2 0] 150))
 replace HA0:=q9 (HA0.alloc (.cells #[I2 0,I2 0,I2 0,I2 0] 150))
 replace HO0:=q9 (HO0.alloc (.cells #[I2 0,I2 0,I2 0,I2 0] 150))
 generalize hwb:w.heap.size=b at HT HS0 |-;generalize hW:(w.alloc (I5 V S T p)).alloc (.cells #[I2 0,I2 0,I2 0,I2 0] 150)=W at HT HA0 HO0 HS0 |-;clear hW;have htb:=Qm b V S T p;obtain⟨y0,y1,y2,y3,y4,y5⟩:=HT.cells;have hlt:=HT.lt;refine(QmJ HA0 HX hm).mono ?_;rintro e w1 ⟨rfl,A1,O1⟩;rw[HV.out]
 have HS1:=q9 (HS0.treap HA0.out O1 (by decide) (by decide))
 have HA1:=q9 A1;have HO1:=q9 (HO0.trans O1);have hs0:=HS1.cell 0;have hs1:=HS1.cell 1;have hs2:=HS1.cell 2;have hs3:=HS1.cell 3;have hsf:=HS1.frozen;clear A1 O1;go_wp2_with fail
 have hA2:=((((HA1.far HS1.out (by decide) (by decide) (j:=0) (I2 (nS s:Int))).far (HS1.set_ 0 _) (by decide) (by decide) (j:=1) (I2 (vS s:Int))).far ((HS1.set_ 0 _).set_ 1 _) (by decide) (by decide) (j:=2) (I2 (oS s:Int))).far (((HS1.set_ 0 _).set_ 1 _).set_ 2 _) (by decide) (by decide) (j:=3) (I2 (aS s:Int)))
 have HS2:=((((HS1.set_ 0 (I2 (nS s:Int))).set_ 1 (I2 (vS s:Int))).set_ 2 (I2 (oS s:Int))).set_ 3 (I2 (aS s:Int)));have e0:=HS2.cell 0;have e1:=HS2.cell 1;have e2:=HS2.cell 2;have e3:=HS2.cell 3
 exact bodyPost_ret (v:=vSm s) (by simp [results,Tryz.results99,go_sem,e0,e1,e2,e3]) rfl ⟨rfl,hA2,(((HO1.set_new (by omega) _).set_new (by omega) _).set_new (by omega) _).set_new (by omega) _⟩
set_option maxHeartbeats 1000000 in
theorem Qdv (A:TM w V S T p gb cap m g){x:Nat}(hx:x<=nN V S)(hm:m<=99999999):
 Calls Tryz.prog 130 #[vTr V S T p,I (x:Int)] w (Did V S T p gb cap (m+2) g (.agg #[I (g x 3:Int),I (g x 4:Int)]) w):=by
 have hm':m+1<=100000000:=by omega
 replace hm:m<=100000000:=by omega
 have HX:=q9 hx;have HA:=q9 A;obtain⟨l,hl⟩:∃ l,g x 3=l:=⟨_,rfl⟩;obtain⟨r,hr⟩:∃ r,g x 4=r:=⟨_,rfl⟩;have HL:=q9 hl;have HRr:=q9 hr;rw[hl,hr];clear hx A hl hr
 go_enter Tryz.func130,Tryz.ntmps130
 go_wp2_with fail
 have HT:Hid (TB (w.alloc (I5 V S T p)) w.heap.size V S T p):=q9 (TB.new _ _ _ _ _);have HA0:=q9 (HA.alloc (I5 V S T p));have HO0:=q9 ((Only.refl p gb w).alloc (I5 V S T p));have HS0:Hid (Blk ((w.alloc (I5 V S T p)).alloc (.cells #[I 0,I 0] 72)) (w.heap.size+1) 72 #[I 0,I 0]):=q9 (Q8 w _ _ _ _)
 replace HT:=q9 (HT.alloc (.cells #[I 0,I 0] 72))
 replace HA0:=q9 (HA0.alloc (.cells #[I 0,I 0] 72))
 replace HO0:=q9 (HO0.alloc (.cells #[I 0,I 0] 72))
 generalize hwb:w.heap.size=b at HT HS0 |-;generalize hW:(w.alloc (I5 V S T p)).alloc (.cells #[I 0,I 0] 72)=W at HT HA0 HO0 HS0 |-;clear hW;have htb:=Qm b V S T p;obtain⟨y0,y1,y2,y3,y4,y5⟩:=HT.cells;have hlt:=HT.lt;have HTC:Hid (TC W b (b+1) V S T p):=q9 ⟨HT.out,_,_,HS0.out⟩;have HTd:=q9 HTC.drew;have HAd:=q9 HA0.drew;have HOd:=q9 HO0.drew;have htc:=Qlt b (b+1) V S T p;have e0:=HS0.cell 0;have e1:=HS0.cell 1;have e2:=HS0.frozen;clear htb
 go_region_held3 (fun W=>TC W b (b+1) V S T p) (first|(with_reducible assumption)|(with_reducible exact TC.set (by assumption) _ _)|(with_reducible exact TC.only (by assumption) (Hid.out (by assumption:Hid (TM _ V S T p gb cap m g))) O2)|(with_reducible exact TC.only (by assumption) (Hid.out (by assumption:Hid (TM _ V S T p gb cap (m+1) g))) O2)|(with_reducible exact HTd.out))
  (first
   |(go_at_call 98;((with_reducible refine(QbW (Hid.out (by assumption:Hid (TM _ V S T p gb cap (m) g))) HX.out hm).mono ?_);rintro e w2 ⟨rfl,A2,O2⟩;have HA2:=q9 A2;have HO2:=q9 (Only.trans (Hid.out (by assumption:Hid (Only p gb w _))) O2);rw[HL.out];have HT2:=q9 (TC.only (by assumption) (Hid.out (by assumption:Hid (TM _ V S T p gb cap (m) g))) O2)))
   |(go_at_call 98;((with_reducible refine(QbW (Hid.out (by assumption:Hid (TM _ V S T p gb cap (m+1) g))) HX.out hm').mono ?_);rintro e w2 ⟨rfl,A2,O2⟩;have HA3:=q9 A2;have HO3:=q9 (Only.trans (Hid.out (by assumption:Hid (Only p gb w _))) O2);rw[HL.out];have HT2:=q9 (TC.only (by assumption) (Hid.out (by assumption:Hid (TM _ V S T p gb cap (m+1) g))) O2)))
   |(go_at_call 98;((with_reducible refine(Qdw (Hid.out (by assumption:Hid (TM _ V S T p gb cap (m) g))) HX.out hm).mono ?_);rintro e w2 ⟨rfl,A2,O2⟩;have HA2:=q9 A2;have HO2:=q9 (Only.trans (Hid.out (by assumption:Hid (Only p gb w _))) O2);rw[HRr.out];have HT2:=q9 (TC.only (by assumption) (Hid.out (by assumption:Hid (TM _ V S T p gb cap (m) g))) O2)))
   |(go_at_call 98;((with_reducible refine(Qdw (Hid.out (by assumption:Hid (TM _ V S T p gb cap (m+1) g))) HX.out hm').mono ?_);rintro e w2 ⟨rfl,A2,O2⟩;have HA3:=q9 A2;have HO3:=q9 (Only.trans (Hid.out (by assumption:Hid (Only p gb w _))) O2);rw[HRr.out];have HT2:=q9 (TC.only (by assumption) (Hid.out (by assumption:Hid (TM _ V S T p gb cap (m+1) g))) O2))))
 all_goals
  obtain⟨_,a0,b0,hblk⟩:=HT2.out;have HS2:=(hblk.set_ 0 (I (l:Int))).set_ 1 (I (r:Int));have f0:=HS2.cell 0;have f1:=HS2.cell 1
  have hA2:=(HA3.far hblk (by decide) (by decide) (j:=0) (I (l:Int))).far (hblk.set_ 0 _) (by decide) (by decide) (j:=1) (I (r:Int))
  clear htc;go_wp2_with fail
  exact bodyPost_ret (v:=.agg #[I (l:Int),I (r:Int)]) (by simp [results,Tryz.results130,go_sem,f0,f1]) rfl ⟨rfl,hA2,(HO3.set_new (by omega) _).set_new (by omega) _⟩
end
theorem Qir (s:Nat):nS s<65536:=Nat.mod_lt _ (by omega)
theorem Qlo (s:Nat):vS s<65536:=Nat.mod_lt _ (by omega)
theorem Qgb (s:Nat):oS s<4:=Nat.mod_lt _ (by omega)
theorem Qgu (s:Nat):aS s<4:=Nat.mod_lt _ (by omega)
def bt (m:Nat):Nat:=if m=0 then 1 else 2
def hasB (s m:Nat):Bool:=decide (s / 2 ^ m % 2=1)
theorem Qg0 {s k:Nat}(hs:s<4)(hk:k<2):(bits .and .u64 (s:Int) (bt k:Int)==0)=!hasB s k:=by
 have hb:bt k<4:=by unfold bt;split<;>omega
 rw[u64_and_nat _ _ (by omega) (by omega)]
 have key:∀ s<4,∀ k<2,(((s &&& bt k:Nat):Int)==0)=!hasB s k:=by decide
 exact key s hs k hk
def setB (s k:Nat)(on:Bool):Nat:=if on then s ||| bt k else s &&& (3-bt k)
theorem Qn2 {s:Nat}(k:Nat)(hs:s<4):bits .or .u64 (s:Int) (bt k:Int)=(setB s k true:Int):=by
 have hb:bt k<4:=by unfold bt;split<;>omega
 rw[u64_or_nat _ _ (by omega) (by omega)];rfl
theorem Qjo {s k:Nat}(hs:s<4)(hk:k<2):bits .andNot .u64 (s:Int) (bt k:Int)=(setB s k false:Int):=by
 have hb:bt k<4:=by unfold bt;split<;>omega
 refine(u64_andNot_nat s (bt k) (by omega) (by omega)).trans ?_
 have key:∀ s<4,∀ k<2,s &&& (18446744073709551615-bt k)=setB s k false:=by decide
 rw[key s hs k hk]
theorem Qia {s k:Nat}{on:Bool}(hs:s<4)(hk:k<2):setB s k on<4:=by
 have key:∀ s<4,∀ k<2,∀ on:Bool,setB s k on<4:=by decide
 exact key s hs k hk on
section
variable {V S T:Int}{g:Mg9}{w w':World}{p gb cap m:Nat}
theorem Qda {k:Nat}(hk:k<2)(w:World):Calls Tryz.prog 96 #[I (k:Int)] w fun e w'=>e=.returned (I2 (bt k:Int))/\w=w':=by
 have:k=0\/k=1:=by omega
 rcases this with rfl|rfl
 . go_enter Tryz.func96,Tryz.ntmps96
   go_wp2_with fail
   go_ret;exact⟨rfl,rfl⟩
 . go_enter Tryz.func96,Tryz.ntmps96
   go_wp2_with fail
   go_ret;exact⟨rfl,rfl⟩
theorem Qlq (A:TM w V S T p gb cap m g){x:Nat}(hx:x<=nN V S)(hm:m<=100000000):
 Calls Tryz.prog 149 #[vTr V S T p,I (x:Int)] w (Did V S T p gb cap (m+1) g (I (nS (g x 6):Int)) w):=by
 have HX:=q9 hx;have HA:=q9 A;have hl:=Qir (g x 6)
 have hw:IntKind.i64.wrap (nS (g x 6):Int)=(nS (g x 6):Int):=IntWalk.i64_in _ (by omega)
 have fl:=Qh5 (g x 6);clear hx A
 go_enter Tryz.func149,Tryz.ntmps149
 go_wp2_with fail
 have HT:Hid (TB (w.alloc (I5 V S T p)) w.heap.size V S T p):=q9 (TB.new _ _ _ _ _);have HA0:=q9 (HA.alloc (I5 V S T p));have HO0:=q9 ((Only.refl p gb w).alloc (I5 V S T p))
 have HBL:Hid (w.heap.size<(w.alloc (I5 V S T p)).heap.size):=q9 (by simp)
 generalize hwb:w.heap.size=b at HT HBL |-;generalize hW:w.alloc (I5 V S T p)=W at HT HA0 HO0 HBL |-;clear hW;have htb:=Qm b V S T p;obtain⟨y0,y1,y2,y3,y4,y5⟩:=HT.cells;have hlt:=HT.lt;refine(tsum HA0 HX hm).mono ?_;rintro e w1 ⟨rfl,A1,O1⟩;have HA1:=q9 A1;have HO1:=q9 (HO0.trans O1);clear A1 O1;go_wp2_with fail
 go_ret;exact⟨rfl,HA1,HO1⟩
theorem QmE (A:TM w V S T p gb cap m g){x:Nat}(hx:x<=nN V S)(hm:m<=100000000):
 Calls Tryz.prog 112 #[vTr V S T p,I (x:Int)] w (Did V S T p gb cap (m+1) g (I (vS (g x 6):Int)) w):=by
 have HX:=q9 hx;have HA:=q9 A;have hl:=Qlo (g x 6)
 have hw:IntKind.i64.wrap (vS (g x 6):Int)=(vS (g x 6):Int):=IntWalk.i64_in _ (by omega)
 have fl:=Qh4 (g x 6);clear hx A
 go_enter Tryz.func112,Tryz.ntmps112
 go_wp2_with fail
 have HT:Hid (TB (w.alloc (I5 V S T p)) w.heap.size V S T p):=q9 (TB.new _ _ _ _ _);have HA0:=q9 (HA.alloc (I5 V S T p));have HO0:=q9 ((Only.refl p gb w).alloc (I5 V S T p))
 have HBL:Hid (w.heap.size<(w.alloc (I5 V S T p)).heap.size):=q9 (by simp)
 generalize hwb:w.heap.size=b at HT HBL |-;generalize hW:w.alloc (I5 V S T p)=W at HT HA0 HO0 HBL |-;clear hW;have htb:=Qm b V S T p;obtain⟨y0,y1,y2,y3,y4,y5⟩:=HT.cells;have hlt:=HT.lt;refine(tsum HA0 HX hm).mono ?_;rintro e w1 ⟨rfl,A1,O1⟩;have HA1:=q9 A1;have HO1:=q9 (HO0.trans O1);clear A1 O1;go_wp2_with fail
 go_ret;exact⟨rfl,HA1,HO1⟩
theorem Qls (A:TM w V S T p gb cap m g){x k:Nat}(hx:x<=nN V S)(hk:k<2)(hm:m<=100000000):
 Calls Tryz.prog 61 #[vTr V S T p,I (x:Int),I (k:Int)] w (Did V S T p gb cap (m+1) g (.bool (hasB (oS (g x 6)) k)) w):=by
 have HX:=q9 hx;have HA:=q9 A;have HK:=q9 hk;have HB:=q9 (Qg0 (Qgb (g x 6)) hk);have fl:=Qbn (g x 6);clear hx A hk
 go_enter Tryz.func61,Tryz.ntmps61
 go_wp2_with fail
 have HT:Hid (TB (w.alloc (I5 V S T p)) w.heap.size V S T p):=q9 (TB.new _ _ _ _ _);have HA0:=q9 (HA.alloc (I5 V S T p));have HO0:=q9 ((Only.refl p gb w).alloc (I5 V S T p))
 have HBL:Hid (w.heap.size<(w.alloc (I5 V S T p)).heap.size):=q9 (by simp)
 generalize hwb:w.heap.size=b at HT HBL |-;generalize hW:w.alloc (I5 V S T p)=W at HT HA0 HO0 HBL |-;clear hW;have htb:=Qm b V S T p;obtain⟨y0,y1,y2,y3,y4,y5⟩:=HT.cells;have hlt:=HT.lt;refine(tsum HA0 HX hm).mono ?_;rintro e w1 ⟨rfl,A1,O1⟩;have HA1:=q9 A1;have HO1:=q9 (HO0.trans O1);clear A1 O1;go_wp2_with fail
 refine(Qda HK _).mono ?_;rintro e w2 ⟨rfl,rfl⟩;go_wp2_with fail
 go_ret
 exact⟨by show Ending.returned (.bool (!(bits .and .u64 (oS (g x 6):Int) (bt k:Int)==0)))=_;rw[HB.out];simp,HA1.out,HO1.out⟩
set_option maxHeartbeats 1000000 in
theorem QmU (A:TM w V S T p gb cap m g){x y:Nat}(hx:x<=nN V S)(hy:y<=nN V S)(hm:m<=99999999):
 Calls Tryz.prog 158 #[vTr V S T p,I (x:Int),I (y:Int)] w (Did V S T p gb cap (m+2) g (.bool (ab (fun z=>g z 5) x y)) w):=by
 have hm':m+1<=100000000:=by omega
 replace hm:m<=100000000:=by omega
 have HX:=q9 hx;have HY:=q9 hy;have HA:=q9 A;obtain⟨P,hP⟩:∃ P,g x 5=P:=⟨_,rfl⟩;obtain⟨Q,hQ⟩:∃ Q,g y 5=Q:=⟨_,rfl⟩;have HP:=q9 hP;have HQ:=q9 hQ
 have hab:ab (fun z=>g z 5) x y=decide (Q<P\/(P=Q/\x<y)):=by unfold ab;show decide (g y 5<g x 5\/(g x 5=g y 5/\x<y))=_;rw[hP,hQ]
 rw[hab];clear hx hy A hP hQ hab
 have body:∀ (q:Bool),(decide (Q<P\/(P=Q/\x<y)))=q->Calls Tryz.prog 158 #[vTr V S T p,I (x:Int),I (y:Int)] w (Did V S T p gb cap (m+2) g (.bool q) w):=by
  rcases Nat.lt_trichotomy Q P with h|h|h
  . rintro q hq
    have:q=true:=by rw[<-hq];exact decide_eq_true (.inl h)
    subst this;clear hq
    have hI:(Q:Int)<(P:Int):=by omega
    go_enter Tryz.func158,Tryz.ntmps158
    go_wp2_with fail
    have HT:Hid (TB (w.alloc (I5 V S T p)) w.heap.size V S T p):=q9 (TB.new _ _ _ _ _);have HA0:=q9 (HA.alloc (I5 V S T p));have HO0:=q9 ((Only.refl p gb w).alloc (I5 V S T p))
    have HBL:Hid (w.heap.size<(w.alloc (I5 V S T p)).heap.size):=q9 (by simp)
    generalize hwb:w.heap.size=b at HT HBL |-;generalize hW:w.alloc (I5 V S T p)=W at HT HA0 HO0 HBL |-;clear hW;have htb:=Qm b V S T p;obtain⟨y0,y1,y2,y3,y4,y5⟩:=HT.cells;have hlt:=HT.lt;have HTd:=q9 HT.drew;have HAd:=q9 HA0.drew;have HOd:=q9 HO0.drew
    go_region_held3 (fun W=>TB W b V S T p) (first|(with_reducible assumption)|(with_reducible exact TB.below (by assumption) hb1)|(with_reducible exact TB.only (by assumption) (Hid.out (by assumption:Hid (TM _ V S T p gb cap (m) g))) O2)|(with_reducible exact TB.only (by assumption) (Hid.out (by assumption:Hid (TM _ V S T p gb cap (m+1) g))) O2)|(with_reducible exact HTd.out))
     (first
      |(go_at_call 139;((with_reducible refine(Qbc (Hid.out (by assumption:Hid (TM _ V S T p gb cap (m) g))) HX.out hm).mono ?_);rintro e w2 ⟨rfl,A2,O2⟩;have HA2:=q9 A2;have HO2:=q9 (Only.trans (Hid.out (by assumption:Hid (Only p gb w _))) O2);rw[HP.out]))
      |(go_at_call 139;((with_reducible refine(Qbc (Hid.out (by assumption:Hid (TM _ V S T p gb cap (m+1) g))) HX.out hm').mono ?_);rintro e w2 ⟨rfl,A2,O2⟩;have HA3:=q9 A2;have HO3:=q9 (Only.trans (Hid.out (by assumption:Hid (Only p gb w _))) O2);rw[HP.out]))
      |(go_at_call 139;((with_reducible refine(Qbc (Hid.out (by assumption:Hid (TM _ V S T p gb cap (m) g))) HY.out hm).mono ?_);rintro e w2 ⟨rfl,A2,O2⟩;have HA2:=q9 A2;have HO2:=q9 (Only.trans (Hid.out (by assumption:Hid (Only p gb w _))) O2);rw[HQ.out]))
      |(go_at_call 139;((with_reducible refine(Qbc (Hid.out (by assumption:Hid (TM _ V S T p gb cap (m+1) g))) HY.out hm').mono ?_);rintro e w2 ⟨rfl,A2,O2⟩;have HA3:=q9 A2;have HO3:=q9 (Only.trans (Hid.out (by assumption:Hid (Only p gb w _))) O2);rw[HQ.out])))
    all_goals
     clear htb;go_wp2_with fail
     go_ret;exact⟨rfl,HA3,HO3⟩
  . rintro q hq
    subst h
    have hq':decide (x<y)=q:=by rw[<-hq];simp
    clear hq;subst hq'
    go_enter Tryz.func158,Tryz.ntmps158
    go_wp2_with fail
    have HT:Hid (TB (w.alloc (I5 V S T p)) w.heap.size V S T p):=q9 (TB.new _ _ _ _ _);have HA0:=q9 (HA.alloc (I5 V S T p));have HO0:=q9 ((Only.refl p gb w).alloc (I5 V S T p))
    have HBL:Hid (w.heap.size<(w.alloc (I5 V S T p)).heap.size):=q9 (by simp)
    generalize hwb:w.heap.size=b at HT HBL |-;generalize hW:w.alloc (I5 V S T p)=W at HT HA0 HO0 HBL |-;clear hW;have htb:=Qm b V S T p;obtain⟨y0,y1,y2,y3,y4,y5⟩:=HT.cells;have hlt:=HT.lt;have HTd:=q9 HT.drew;have HAd:=q9 HA0.drew;have HOd:=q9 HO0.drew
    go_region_held3 (fun W=>TB W b V S T p) (first|(with_reducible assumption)|(with_reducible exact TB.below (by assumption) hb1)|(with_reducible exact TB.only (by assumption) (Hid.out (by assumption:Hid (TM _ V S T p gb cap (m) g))) O2)|(with_reducible exact TB.only (by assumption) (Hid.out (by assumption:Hid (TM _ V S T p gb cap (m+1) g))) O2)|(with_reducible exact HTd.out))
     (first
      |(go_at_call 139;((with_reducible refine(Qbc (Hid.out (by assumption:Hid (TM _ V S T p gb cap (m) g))) HX.out hm).mono ?_);rintro e w2 ⟨rfl,A2,O2⟩;have HA2:=q9 A2;have HO2:=q9 (Only.trans (Hid.out (by assumption:Hid (Only p gb w _))) O2);rw[HP.out]))
      |(go_at_call 139;((with_reducible refine(Qbc (Hid.out (by assumption:Hid (TM _ V S T p gb cap (m+1) g))) HX.out hm').mono ?_);rintro e w2 ⟨rfl,A2,O2⟩;have HA3:=q9 A2;have HO3:=q9 (Only.trans (Hid.out (by assumption:Hid (Only p gb w _))) O2);rw[HP.out]))
      |(go_at_call 139;((with_reducible refine(Qbc (Hid.out (by assumption:Hid (TM _ V S T p gb cap (m) g))) HY.out hm).mono ?_);rintro e w2 ⟨rfl,A2,O2⟩;have HA2:=q9 A2;have HO2:=q9 (Only.trans (Hid.out (by assumption:Hid (Only p gb w _))) O2);rw[HQ.out]))
      |(go_at_call 139;((with_reducible refine(Qbc (Hid.out (by assumption:Hid (TM _ V S T p gb cap (m+1) g))) HY.out hm').mono ?_);rintro e w2 ⟨rfl,A2,O2⟩;have HA3:=q9 A2;have HO3:=q9 (Only.trans (Hid.out (by assumption:Hid (Only p gb w _))) O2);rw[HQ.out])))
    all_goals
     clear htb;go_wp2_with fail
     go_ret;exact⟨rfl,HA3,HO3⟩
  . rintro q hq
    have:q=false:=by rw[<-hq];exact decide_eq_false (by omega)
    subst this;clear hq
    have hI:(P:Int)<(Q:Int):=by omega
    have hJ:((P:Int)==(Q:Int))=false:=beq_eq_false_iff_ne.2 (by omega)
    go_enter Tryz.func158,Tryz.ntmps158
    go_wp2_with fail
    have HT:Hid (TB (w.alloc (I5 V S T p)) w.heap.size V S T p):=q9 (TB.new _ _ _ _ _);have HA0:=q9 (HA.alloc (I5 V S T p));have HO0:=q9 ((Only.refl p gb w).alloc (I5 V S T p))
    have HBL:Hid (w.heap.size<(w.alloc (I5 V S T p)).heap.size):=q9 (by simp)
    generalize hwb:w.heap.size=b at HT HBL |-;generalize hW:w.alloc (I5 V S T p)=W at HT HA0 HO0 HBL |-;clear hW;have htb:=Qm b V S T p;obtain⟨y0,y1,y2,y3,y4,y5⟩:=HT.cells;have hlt:=HT.lt;have HTd:=q9 HT.drew;have HAd:=q9 HA0.drew;have HOd:=q9 HO0.drew
    go_region_held3 (fun W=>TB W b V S T p) (first|(with_reducible assumption)|(with_reducible exact TB.below (by assumption) hb1)|(with_reducible exact TB.only (by assumption) (Hid.out (by assumption:Hid (TM _ V S T p gb cap (m) g))) O2)|(with_reducible exact TB.only (by assumption) (Hid.out (by assumption:Hid (TM _ V S T p gb cap (m+1) g))) O2)|(with_reducible exact HTd.out))
     (first
      |(go_at_call 139;((with_reducible refine(Qbc (Hid.out (by assumption:Hid (TM _ V S T p gb cap (m) g))) HX.out hm).mono ?_);rintro e w2 ⟨rfl,A2,O2⟩;have HA2:=q9 A2;have HO2:=q9 (Only.trans (Hid.out (by assumption:Hid (Only p gb w _))) O2);rw[HP.out]))
      |(go_at_call 139;((with_reducible refine(Qbc (Hid.out (by assumption:Hid (TM _ V S T p gb cap (m+1) g))) HX.out hm').mono ?_);rintro e w2 ⟨rfl,A2,O2⟩;have HA3:=q9 A2;have HO3:=q9 (Only.trans (Hid.out (by assumption:Hid (Only p gb w _))) O2);rw[HP.out]))
      |(go_at_call 139;((with_reducible refine(Qbc (Hid.out (by assumption:Hid (TM _ V S T p gb cap (m) g))) HY.out hm).mono ?_);rintro e w2 ⟨rfl,A2,O2⟩;have HA2:=q9 A2;have HO2:=q9 (Only.trans (Hid.out (by assumption:Hid (Only p gb w _))) O2);rw[HQ.out]))
      |(go_at_call 139;((with_reducible refine(Qbc (Hid.out (by assumption:Hid (TM _ V S T p gb cap (m+1) g))) HY.out hm').mono ?_);rintro e w2 ⟨rfl,A2,O2⟩;have HA3:=q9 A2;have HO3:=q9 (Only.trans (Hid.out (by assumption:Hid (Only p gb w _))) O2);rw[HQ.out])))
    all_goals
     clear htb;go_wp2_with fail
     go_ret
     exact⟨(by show Ending.returned (.bool (decide (Q<P)))=_;rw[decide_eq_false (by omega)]),HA3.out,HO3.out⟩
 exact body _ rfl
end
def vxN (V:Int)(x:Nat):Bool:=!arcN V x
def tri (a b c:Nat):Nat->Nat
 |0=>a
 |1=>b
 |_=>c
theorem QjN {n v o a:Nat}(hn:n<281474976710656)(hv:v<281474976710656)(ho:o<4)(ha:a<4):
 bits .or .u64 (bits .or .u64 (bits .or .u64 (n:Int) ((v:Int)*65536)) ((o:Int)*4294967296)) ((a:Int)*17179869184)=(Qfm n v o a:Int):=by
 rw[show (v:Int)*65536=((v*65536:Nat):Int) by omega,show (o:Int)*4294967296=((o*4294967296:Nat):Int) by omega,show (a:Int)*17179869184=((a*17179869184:Nat):Int) by omega]
 have h1:n ||| v*65536<18446744073709551616:=Nat.or_lt_two_pow (n:=64) (by omega) (by omega)
 have h2:n ||| v*65536 ||| o*4294967296<18446744073709551616:=Nat.or_lt_two_pow (n:=64) h1 (by omega)
 rw[u64_or_nat _ _ (by omega) (by omega),u64_or_nat _ _ h1 (by omega),u64_or_nat _ _ h2 (by omega)]
 rfl
def Qjs (w0:World)(b:Nat)(V S T:Int)(p gb cap m:Nat)(g:Mg9)(nf vf:Nat->Nat)(own:Nat)(af:Nat->Nat)(i:Value)(W:World):Prop:=
 ∃ k,k<=2/\i=I ((k:Nat):Int)/\TB W b V S T p/\Blk W (b+1) 150 #[I2 (nf k:Int),I2 (vf k:Int),I2 (own:Int),I2 (af k:Int)]/\TM W V S T p gb cap (m+k) g/\Only p gb w0 W
section
variable {V S T:Int}{g:Mg9}{w w':World}{p gb cap m:Nat}
theorem QeE {w0 w4:World}{b own k:Nat}{nf vf af:Nat->Nat}{x0 x1 x2 x3:Value}(hk:k+1<=2)(HT:TB w4 b V S T p)(HS:Blk w4 (b+1) 150 #[x0,x1,x2,x3])(h2:x2=I2 (own:Int))(HA:TM w4 V S T p gb cap (m+k+1) g)(HO:Only p gb w0 w4)(hb:w0.heap.size=b)(o:Obj):
 Qjs w0 b V S T p gb cap m g nf vf own af (I ((k+1:Nat):Int)) ((((w4.setCell ⟨b+1,0,none⟩ (I2 (nf (k+1):Int))).setCell ⟨b+1,1,none⟩ (I2 (vf (k+1):Int))).setCell ⟨b+1,3,none⟩ (I2 (af (k+1):Int))).alloc o):=by
 subst h2
 have hne:b≠b+1:=by omega
 have B1:=HS.set_ 0 (I2 (nf (k+1):Int));have B2:=B1.set_ 1 (I2 (vf (k+1):Int));have B3:=B2.set_ 3 (I2 (af (k+1):Int))
 exact⟨k+1,hk,rfl,Blk.alloc (Blk.far (Blk.far (Blk.far HT hne _) hne _) hne _) o,B3.alloc o,(((HA.far HS (by decide) (by decide) _).far B1 (by decide) (by decide) _).far B2 (by decide) (by decide) _).alloc o,(((HO.set_new (by omega) _).set_new (by omega) _).set_new (by omega) _).alloc o⟩
set_option maxHeartbeats 2000000 in
theorem QcP (A:TM w V S T p gb cap m g){x own:Nat}(hx:x<=nN V S)(hx1:1<=x)(ho:own<4)(hm:m<=99999990):
 Calls Tryz.prog 81 #[vTr V S T p,I (x:Int),I2 (own:Int)] w (Did V S T p gb cap (m+5) (Qbe (vxN V) g x own) (.tuple #[]) w):=by
 have HX:=q9 hx;have HX1:=q9 hx1;have HA:=q9 A;have HR:=q9 A.hR;have HLN:=q9 (A.b hx).2.1;have HRN:=q9 (A.b hx).2.2;obtain⟨l,hl⟩:∃ l,g x 3=l:=⟨_,rfl⟩;obtain⟨r,hr⟩:∃ r,g x 4=r:=⟨_,rfl⟩;rw[hl] at HLN;rw[hr] at HRN;obtain⟨sl,hsl⟩:∃ sl,g l 6=sl:=⟨_,rfl⟩;obtain⟨sr,hsr⟩:∃ sr,g r 6=sr:=⟨_,rfl⟩;have HL:=q9 hl;have HRr:=q9 hr;have HSL:=q9 hsl;have HSR:=q9 hsr
 have HG:Hid (Qbe (vxN V) g x own=up2 g x 6 (Qfm (1+nS sl+nS sr) ((if vxN V x then 1 else 0)+vS sl+vS sr) own (own ||| aS sl ||| aS sr))):=q9 (by unfold Qbe;rw[hl,hr,hsl,hsr])
 rw[HG.out]
 obtain⟨vx0,hvx⟩:∃ v:Nat,(if vxN V x then 1 else 0)=v:=⟨_,rfl⟩
 have HVX:=q9 hvx;rw[hvx];clear hl hr hsl hsr hx hx1 hvx HG
 have hb5:vx0<=1:=by have:=HVX.out;split at this<;>omega
 obtain⟨n1,n2,en1,en2⟩:∃ n1 n2,n1=1+nS sl/\n2=1+nS sl+nS sr:=⟨_,_,rfl,rfl⟩;obtain⟨v1,v2,ev1,ev2⟩:∃ v1 v2,v1=vx0+vS sl/\v2=vx0+vS sl+vS sr:=⟨_,_,rfl,rfl⟩
 obtain⟨a1,a2,ea1,ea2⟩:∃ a1 a2,a1=own ||| aS sl/\a2=own ||| aS sl ||| aS sr:=⟨_,_,rfl,rfl⟩
 have hn2:n2<=200000:=by have:=Qir sl;have:=Qir sr;omega
 have hv2:v2<=200000:=by have:=Qlo sl;have:=Qlo sr;omega
 have ha1:a1<4:=by rw[ea1];exact Qcm ho (Qgu sl)
 have ha2:a2<4:=by rw[ea2];exact Qcm (Qcm ho (Qgu sl)) (Qgu sr)
 have q1:1+(nS sl:Int)=(n1:Int):=by omega
 have q2:(n1:Int)+(nS sr:Int)=(n2:Int):=by omega
 have q3:(vx0:Int)+(vS sl:Int)=(v1:Int):=by omega
 have q4:(v1:Int)+(vS sr:Int)=(v2:Int):=by omega
 have q5:bits .or .u64 (own:Int) (aS sl:Int)=(a1:Int):=by rw[ea1];exact u64_or_nat _ _ (by omega) (by have:=Qgu sl;omega)
 have q6:bits .or .u64 (a1:Int) (aS sr:Int)=(a2:Int):=by rw[ea2,<-ea1];exact u64_or_nat _ _ (by omega) (by have:=Qgu sr;omega)
 have hn1:(n1:Int)<=200000:=by omega
 have hn2':(n2:Int)<=200000:=by omega
 have hv1:(v1:Int)<=200000:=by omega
 have hv2':(v2:Int)<=200000:=by omega
 have ha2':(a2:Int)<=3:=by omega
 have hoI:(own:Int)<=3:=by omega
 obtain⟨SW,hSW⟩:∃ SW,Qfm n2 v2 own a2=SW:=⟨_,rfl⟩
 have q7:bits .or .u64 (bits .or .u64 (bits .or .u64 (n2:Int) ((v2:Int)*65536)) ((own:Int)*4294967296)) ((a2:Int)*17179869184)=(SW:Int):=by rw[<-hSW];exact QjN (by omega) (by omega) ho ha2
 have HSW:Hid (SW<=18446744073709551615):=q9 (by have:=Qj2 (n:=n2) (v:=v2) (o:=own) (a:=a2) (by omega) (by omega) ho ha2;omega)
 rw[<-en2,<-ev2,<-ea2,hSW];clear en1 en2 ev1 ev2 ea1 ea2 hSW hn2 hv2 ha1 ha2 A
 have main:∀ q:Bool,arcN V x=q->Calls Tryz.prog 81 #[vTr V S T p,I (x:Int),I2 (own:Int)] w (Did V S T p gb cap (m+5) (up2 g x 6 SW) (.tuple #[]) w):=by
  intro q hq;have HQ:=q9 hq;clear hq
  cases q with
  |true=>
   have HV0:Hid (vx0=0):=q9 (by have:=HVX.out;unfold vxN at this;rw[HQ.out] at this;simpa using this.symm)
   go_enter Tryz.func81,Tryz.ntmps81
   go_wp2_with fail
   have HT:Hid (TB (w.alloc (I5 V S T p)) w.heap.size V S T p):=q9 (TB.new _ _ _ _ _);have HA0:=q9 (HA.alloc (I5 V S T p));have HO0:=q9 ((Only.refl p gb w).alloc (I5 V S T p));have HS0:Hid (Blk ((w.alloc (I5 V S T p)).alloc (.cells #[I2 1,I2 0,I2 (own:Int),I2 (own:Int)] 150)) (w.heap.size+1) 150 #[I2 1,I2 0,I2 (own:Int),I2 (own:Int)]):=q9 (Q8 w _ _ _ _)
   replace HT:=q9 (HT.alloc (.cells #[I2 1,I2 0,I2 (own:Int),I2 (own:Int)] 150))
   replace HA0:=q9 (HA0.alloc (.cells #[I2 1,I2 0,I2 (own:Int),I2 (own:Int)] 150))
   replace HO0:=q9 (HO0.alloc (.cells #[I2 1,I2 0,I2 (own:Int),I2 (own:Int)] 150))
   generalize hwb:w.heap.size=b at HT HS0 |-;generalize hW:(w.alloc (I5 V S T p)).alloc (.cells #[I2 1,I2 0,I2 (own:Int),I2 (own:Int)] 150)=W at HT HA0 HO0 HS0 |-;clear hW;have htb:=Qm b V S T p;obtain⟨y0,y1,y2,y3,y4,y5⟩:=HT.cells;have hlt:=HT.lt;refine(QdC HR HX1 HX _).mono ?_;rintro e w1 ⟨⟨d1,d2,d3,rfl⟩,hb1⟩;rw[HQ.out];generalize lvN V x=lvl;have HT1:=q9 (HT.below hb1);have HS1:=q9 (HS0.below hb1 HS0.lt);have HA1:=q9 (HA0.below hb1);have HO1:=q9 (HO0.trans (Only.of_below hb1));clear hb1 y0 y1 y2 y3 y4 y5 hlt HT HS0 HA0 HO0 htb;obtain⟨y0,y1,y2,y3,y4,y5⟩:=HT1.cells;have hlt:=HT1.lt;have s0:=HS1.cell 0;have s1:=HS1.cell 1;have s2:=HS1.cell 2;have s3:=HS1.cell 3;have sf:=HS1.frozen;have slt:=HS1.lt;go_wp2_with fail
   have HT2:Hid (TB (w1.alloc (.cells #[.bool true,I lvl,I d1,I d2,I d3] 94)) b V S T p):=q9 (HT1.alloc _)
   have HS2:Hid (Blk (w1.alloc (.cells #[.bool true,I lvl,I d1,I d2,I d3] 94)) (b+1) 150 #[I2 1,I2 (vx0:Int),I2 (own:Int),I2 (own:Int)]):=q9 (by rw[HV0.out];exact HS1.alloc _)
   have HA2:Hid (TM (w1.alloc (.cells #[.bool true,I lvl,I d1,I d2,I d3] 94)) V S T p gb cap m g):=q9 (HA1.alloc _);have HO2:Hid (Only p gb w (w1.alloc (.cells #[.bool true,I lvl,I d1,I d2,I d3] 94))):=q9 (HO1.alloc _);clear HT1 HS1 HA1 HO1 y0 y1 y2 y3 y4 y5 hlt s0 s1 s2 s3 sf slt;generalize w1.alloc (.cells #[.bool true,I lvl,I d1,I d2,I d3] 94)=W2 at HT2 HS2 HA2 HO2 |-
   refine(Qdv HA2 HX (by omega)).mono ?_;rintro e w3 ⟨rfl,A3,O3⟩;rw[HL.out,HRr.out]
   have HT3:=q9 (HT2.only HA2.out O3)
   have HS3:=q9 (HS2.treap HA2.out O3 (by decide) (by decide))
   have HRel:Hid (Qjs w b V S T p gb cap (m+2) g (tri 1 n1 n2) (tri vx0 v1 v2) own (tri own a1 a2) (I 0) w3):=q9 ⟨0,by omega,rfl,HT3.out,HS3.out,A3,HO2.trans O3⟩
   clear HT2 HS2 HA2 HO2 HT3 HS3 A3 O3;go_wp2_with fail
   go_loopw [29] (fun i wr=>Qjs w b V S T p gb cap (m+2) g (tri 1 n1 n2) (tri vx0 v1 v2) own (tri own a1 a2) i wr) (fun i _=>2-(intOf i).toNat)
   case atStart=>exact HRel.out
   case round=>
    clear HRel;obtain⟨k,hk,rfl,hT,hS,hA,hO⟩:=hrel;have HT:=q9 hT;have HS:=q9 hS;have HA3:=q9 hA;have HO3:=q9 hO;obtain⟨y0,y1,y2,y3,y4,y5⟩:=hT.cells;have hlt:=hT.lt;have sf:=hS.frozen;have slt:=hS.lt;clear hT hS hA hO
    have hk3:k=0\/k=1\/k=2:=by omega
    rcases hk3 with rfl|rfl|rfl
    . have s0:wr.cell? ⟨b+1,0,none⟩=some (I2 1):=HS.cell 0
      have s1:wr.cell? ⟨b+1,1,none⟩=some (I2 (vx0:Int)):=HS.cell 1;have s3:wr.cell? ⟨b+1,3,none⟩=some (I2 (own:Int)):=HS.cell 3
      have ix:∀ W,(Instr.index 72 (.agg #[I (l:Int),I (r:Int)]) (I 0)).run Tryz.prog W=.ok (I (l:Int)) W:=fun W=>rfl
      go_wp2_with fail
      refine(tsum HA3 HLN (by omega)).mono ?_;rintro e w4 ⟨rfl,A4,O4⟩;rw[HSL.out]
      have HT4:=q9 (HT.only HA3.out O4)
      have HS4:=q9 (HS.treap HA3.out O4 (by decide) (by decide))
      have HA4:=q9 A4;have HO4:=q9 (HO3.trans O4);clear s0 s1 s3 y0 y1 y2 y3 y4 y5 hlt HT HS HA3 HO3 ix sf slt;obtain⟨y0,y1,y2,y3,y4,y5⟩:=HT4.cells;have hlt:=HT4.lt;have s0:w4.cell? ⟨b+1,0,none⟩=some (I2 1):=HS4.cell 0;have s1:w4.cell? ⟨b+1,1,none⟩=some (I2 (vx0:Int)):=HS4.cell 1;have s3:w4.cell? ⟨b+1,3,none⟩=some (I2 (own:Int)):=HS4.cell 3;have sf:=HS4.frozen;have slt:=HS4.lt;go_wp2_with fail
      go_roundw
      case rel=>exact QeE (nf:=tri 1 n1 n2) (vf:=tri vx0 v1 v2) (af:=tri own a1 a2) (k:=0) (by omega) HT4.out HS4.out rfl HA4.out HO4.out hwb _
      case measure=>simp [intOf]
    . have s0:wr.cell? ⟨b+1,0,none⟩=some (I2 (n1:Int)):=HS.cell 0
      have s1:wr.cell? ⟨b+1,1,none⟩=some (I2 (v1:Int)):=HS.cell 1;have s3:wr.cell? ⟨b+1,3,none⟩=some (I2 (a1:Int)):=HS.cell 3
      have ix:∀ W,(Instr.index 72 (.agg #[I (l:Int),I (r:Int)]) (I 1)).run Tryz.prog W=.ok (I (r:Int)) W:=fun W=>rfl
      go_wp2_with fail
      refine(tsum HA3 HRN (by omega)).mono ?_;rintro e w4 ⟨rfl,A4,O4⟩;rw[HSR.out]
      have HT4:=q9 (HT.only HA3.out O4)
      have HS4:=q9 (HS.treap HA3.out O4 (by decide) (by decide))
      have HA4:=q9 A4;have HO4:=q9 (HO3.trans O4);clear s0 s1 s3 y0 y1 y2 y3 y4 y5 hlt HT HS HA3 HO3 ix sf slt;obtain⟨y0,y1,y2,y3,y4,y5⟩:=HT4.cells;have hlt:=HT4.lt;have s0:w4.cell? ⟨b+1,0,none⟩=some (I2 (n1:Int)):=HS4.cell 0;have s1:w4.cell? ⟨b+1,1,none⟩=some (I2 (v1:Int)):=HS4.cell 1;have s3:w4.cell? ⟨b+1,3,none⟩=some (I2 (a1:Int)):=HS4.cell 3;have sf:=HS4.frozen;have slt:=HS4.lt;go_wp2_with fail
      go_roundw
      case rel=>exact QeE (nf:=tri 1 n1 n2) (vf:=tri vx0 v1 v2) (af:=tri own a1 a2) (k:=1) (by omega) HT4.out HS4.out rfl HA4.out HO4.out hwb _
      case measure=>simp [intOf]
    . have s0:wr.cell? ⟨b+1,0,none⟩=some (I2 (n2:Int)):=HS.cell 0
      have s1:wr.cell? ⟨b+1,1,none⟩=some (I2 (v2:Int)):=HS.cell 1;have s2:wr.cell? ⟨b+1,2,none⟩=some (I2 (own:Int)):=HS.cell 2;have s3:wr.cell? ⟨b+1,3,none⟩=some (I2 (a2:Int)):=HS.cell 3;go_wp2_with fail
      refine(Qec (k:=6) HA3 kI6 HX HX1 (by omega) (fun e=>absurd e (by omega)) (fun e=>absurd e (by omega)) HSW (by omega)).mono ?_;rintro e w4 ⟨rfl,A4,O4⟩
      have HA4:=q9 A4;have HO4:=q9 (HO3.trans O4);clear A4 O4;go_wp2_with fail
      go_end0
      exact⟨rfl,HA4.more (by omega),HO4⟩
  |false=>
   have HV0:Hid (vx0=1):=q9 (by have:=HVX.out;unfold vxN at this;rw[HQ.out] at this;simpa using this.symm)
   go_enter Tryz.func81,Tryz.ntmps81
   go_wp2_with fail
   have HT:Hid (TB (w.alloc (I5 V S T p)) w.heap.size V S T p):=q9 (TB.new _ _ _ _ _);have HA0:=q9 (HA.alloc (I5 V S T p));have HO0:=q9 ((Only.refl p gb w).alloc (I5 V S T p));have HS0:Hid (Blk ((w.alloc (I5 V S T p)).alloc (.cells #[I2 1,I2 0,I2 (own:Int),I2 (own:Int)] 150)) (w.heap.size+1) 150 #[I2 1,I2 0,I2 (own:Int),I2 (own:Int)]):=q9 (Q8 w _ _ _ _)
   replace HT:=q9 (HT.alloc (.cells #[I2 1,I2 0,I2 (own:Int),I2 (own:Int)] 150))
   replace HA0:=q9 (HA0.alloc (.cells #[I2 1,I2 0,I2 (own:Int),I2 (own:Int)] 150))
   replace HO0:=q9 (HO0.alloc (.cells #[I2 1,I2 0,I2 (own:Int),I2 (own:Int)] 150))
   generalize hwb:w.heap.size=b at HT HS0 |-;generalize hW:(w.alloc (I5 V S T p)).alloc (.cells #[I2 1,I2 0,I2 (own:Int),I2 (own:Int)] 150)=W at HT HA0 HO0 HS0 |-;clear hW;have htb:=Qm b V S T p;obtain⟨y0,y1,y2,y3,y4,y5⟩:=HT.cells;have hlt:=HT.lt;refine(QdC HR HX1 HX _).mono ?_;rintro e w1 ⟨⟨d1,d2,d3,rfl⟩,hb1⟩;rw[HQ.out];generalize lvN V x=lvl;have HT1:=q9 (HT.below hb1);have HS1:=q9 (HS0.below hb1 HS0.lt);have HA1:=q9 (HA0.below hb1);have HO1:=q9 (HO0.trans (Only.of_below hb1));clear hb1 y0 y1 y2 y3 y4 y5 hlt HT HS0 HA0 HO0 htb;obtain⟨y0,y1,y2,y3,y4,y5⟩:=HT1.cells;have hlt:=HT1.lt;have s0:=HS1.cell 0;have s1:=HS1.cell 1;have s2:=HS1.cell 2;have s3:=HS1.cell 3;have sf:=HS1.frozen;have slt:=HS1.lt;go_wp2_with fail
   have HT2:Hid (TB ((w1.setCell ⟨b+1,1,none⟩ (I2 1)).alloc (.cells #[.bool false,I lvl,I d1,I d2,I d3] 94)) b V S T p):=q9 (TB.alloc (Blk.far HT1.out (by simp) _) _)
   have HS2:Hid (Blk ((w1.setCell ⟨b+1,1,none⟩ (I2 1)).alloc (.cells #[.bool false,I lvl,I d1,I d2,I d3] 94)) (b+1) 150 #[I2 1,I2 (vx0:Int),I2 (own:Int),I2 (own:Int)]):=q9 (by rw[HV0.out];exact(HS1.set_ 1 _).alloc _)
   have HA2:Hid (TM ((w1.setCell ⟨b+1,1,none⟩ (I2 1)).alloc (.cells #[.bool false,I lvl,I d1,I d2,I d3] 94)) V S T p gb cap m g):=q9 ((HA1.far HS1.out (by decide) (by decide) _).alloc _)
   have HO2:Hid (Only p gb w ((w1.setCell ⟨b+1,1,none⟩ (I2 1)).alloc (.cells #[.bool false,I lvl,I d1,I d2,I d3] 94))):=q9 ((HO1.set_new (by omega) _).alloc _)
   clear HT1 HS1 HA1 HO1 y0 y1 y2 y3 y4 y5 hlt s0 s1 s2 s3 sf slt;generalize (w1.setCell ⟨b+1,1,none⟩ (I2 1)).alloc (.cells #[.bool false,I lvl,I d1,I d2,I d3] 94)=W2 at HT2 HS2 HA2 HO2 |-
   refine(Qdv HA2 HX (by omega)).mono ?_;rintro e w3 ⟨rfl,A3,O3⟩;rw[HL.out,HRr.out]
   have HT3:=q9 (HT2.only HA2.out O3)
   have HS3:=q9 (HS2.treap HA2.out O3 (by decide) (by decide))
   have HRel:Hid (Qjs w b V S T p gb cap (m+2) g (tri 1 n1 n2) (tri vx0 v1 v2) own (tri own a1 a2) (I 0) w3):=q9 ⟨0,by omega,rfl,HT3.out,HS3.out,A3,HO2.trans O3⟩
   clear HT2 HS2 HA2 HO2 HT3 HS3 A3 O3;go_wp2_with fail
   go_loopw [29] (fun i wr=>Qjs w b V S T p gb cap (m+2) g (tri 1 n1 n2) (tri vx0 v1 v2) own (tri own a1 a2) i wr) (fun i _=>2-(intOf i).toNat)
   case atStart=>exact HRel.out
   case round=>
    clear HRel;obtain⟨k,hk,rfl,hT,hS,hA,hO⟩:=hrel;have HT:=q9 hT;have HS:=q9 hS;have HA3:=q9 hA;have HO3:=q9 hO;obtain⟨y0,y1,y2,y3,y4,y5⟩:=hT.cells;have hlt:=hT.lt;have sf:=hS.frozen;have slt:=hS.lt;clear hT hS hA hO
    have hk3:k=0\/k=1\/k=2:=by omega
    rcases hk3 with rfl|rfl|rfl
    . have s0:wr.cell? ⟨b+1,0,none⟩=some (I2 1):=HS.cell 0
      have s1:wr.cell? ⟨b+1,1,none⟩=some (I2 (vx0:Int)):=HS.cell 1;have s3:wr.cell? ⟨b+1,3,none⟩=some (I2 (own:Int)):=HS.cell 3
      have ix:∀ W,(Instr.index 72 (.agg #[I (l:Int),I (r:Int)]) (I 0)).run Tryz.prog W=.ok (I (l:Int)) W:=fun W=>rfl
      go_wp2_with fail
      refine(tsum HA3 HLN (by omega)).mono ?_;rintro e w4 ⟨rfl,A4,O4⟩;rw[HSL.out]
      have HT4:=q9 (HT.only HA3.out O4)
      have HS4:=q9 (HS.treap HA3.out O4 (by decide) (by decide))
      have HA4:=q9 A4;have HO4:=q9 (HO3.trans O4);clear s0 s1 s3 y0 y1 y2 y3 y4 y5 hlt HT HS HA3 HO3 ix sf slt;obtain⟨y0,y1,y2,y3,y4,y5⟩:=HT4.cells;have hlt:=HT4.lt;have s0:w4.cell? ⟨b+1,0,none⟩=some (I2 1):=HS4.cell 0;have s1:w4.cell? ⟨b+1,1,none⟩=some (I2 (vx0:Int)):=HS4.cell 1;have s3:w4.cell? ⟨b+1,3,none⟩=some (I2 (own:Int)):=HS4.cell 3;have sf:=HS4.frozen;have slt:=HS4.lt;go_wp2_with fail
      go_roundw
      case rel=>exact QeE (nf:=tri 1 n1 n2) (vf:=tri vx0 v1 v2) (af:=tri own a1 a2) (k:=0) (by omega) HT4.out HS4.out rfl HA4.out HO4.out hwb _
      case measure=>simp [intOf]
    . have s0:wr.cell? ⟨b+1,0,none⟩=some (I2 (n1:Int)):=HS.cell 0
      have s1:wr.cell? ⟨b+1,1,none⟩=some (I2 (v1:Int)):=HS.cell 1;have s3:wr.cell? ⟨b+1,3,none⟩=some (I2 (a1:Int)):=HS.cell 3
      have ix:∀ W,(Instr.index 72 (.agg #[I (l:Int),I (r:Int)]) (I 1)).run Tryz.prog W=.ok (I (r:Int)) W:=fun W=>rfl
      go_wp2_with fail
      refine(tsum HA3 HRN (by omega)).mono ?_;rintro e w4 ⟨rfl,A4,O4⟩;rw[HSR.out]
      have HT4:=q9 (HT.only HA3.out O4)
      have HS4:=q9 (HS.treap HA3.out O4 (by decide) (by decide))
      have HA4:=q9 A4;have HO4:=q9 (HO3.trans O4);clear s0 s1 s3 y0 y1 y2 y3 y4 y5 hlt HT HS HA3 HO3 ix sf slt;obtain⟨y0,y1,y2,y3,y4,y5⟩:=HT4.cells;have hlt:=HT4.lt;have s0:w4.cell? ⟨b+1,0,none⟩=some (I2 (n1:Int)):=HS4.cell 0;have s1:w4.cell? ⟨b+1,1,none⟩=some (I2 (v1:Int)):=HS4.cell 1;have s3:w4.cell? ⟨b+1,3,none⟩=some (I2 (a1:Int)):=HS4.cell 3;have sf:=HS4.frozen;have slt:=HS4.lt;go_wp2_with fail
      go_roundw
      case rel=>exact QeE (nf:=tri 1 n1 n2) (vf:=tri vx0 v1 v2) (af:=tri own a1 a2) (k:=1) (by omega) HT4.out HS4.out rfl HA4.out HO4.out hwb _
      case measure=>simp [intOf]
    . have s0:wr.cell? ⟨b+1,0,none⟩=some (I2 (n2:Int)):=HS.cell 0
      have s1:wr.cell? ⟨b+1,1,none⟩=some (I2 (v2:Int)):=HS.cell 1;have s2:wr.cell? ⟨b+1,2,none⟩=some (I2 (own:Int)):=HS.cell 2;have s3:wr.cell? ⟨b+1,3,none⟩=some (I2 (a2:Int)):=HS.cell 3;go_wp2_with fail
      refine(Qec (k:=6) HA3 kI6 HX HX1 (by omega) (fun e=>absurd e (by omega)) (fun e=>absurd e (by omega)) HSW (by omega)).mono ?_;rintro e w4 ⟨rfl,A4,O4⟩
      have HA4:=q9 A4;have HO4:=q9 (HO3.trans O4);clear A4 O4;go_wp2_with fail
      go_end0
      exact⟨rfl,HA4.more (by omega),HO4⟩
 exact main _ rfl
end
abbrev vTn (x k:Nat):Value:=.agg #[I (x:Int),I (k:Int)]
structure TU (W:World)(b c:Nat)(V S T:Int)(p x k:Nat):Prop where
 t:TB W b V S T p
 r:Blk W c 191 #[I (x:Int),I (k:Int)]
section
variable {V S T:Int}{g:Mg9}{w w':World}{p gb cap m:Nat}
theorem TU.below {b c x k:Nat}(h:TU w b c V S T p x k)(hb:Below w.heap.size w w'):TU w' b c V S T p x k:=⟨h.t.below hb,h.r.below hb h.r.lt⟩
theorem TU.only {b c x k:Nat}(h:TU w b c V S T p x k)(A:TM w V S T p gb cap m g)(ho:Only p gb w w'):TU w' b c V S T p x k:=⟨h.t.only A ho,h.r.treap A ho (by decide) (by decide)⟩
theorem TU.drew {b c x k:Nat}(h:TU w b c V S T p x k):TU w.drew b c V S T p x k:=h.below (Below.refl _ _).drew
theorem QhT (b c:Nat)(V S T:Int)(p x k:Nat):∀ W:World,TU W b c V S T p x k->W.cell? (I1 b 0)=some (I V)/\W.cell? (I1 b 1)=some (I S)/\W.cell? (I1 b 2)=some (I T)/\W.cell? (I1 b 3)=some (I4 p)/\W.cell? (I1 b 4)=some (I 1)/\W.cell? (I1 b 5)=some (I 0)/\W.cell? (I1 c 0)=some (I (x:Int))/\W.cell? (I1 c 1)=some (I (k:Int)):=fun W h=>by
 obtain⟨y0,y1,y2,y3,y4,y5⟩:=h.t.cells;exact⟨y0,y1,y2,y3,y4,y5,h.r.cell 0,h.r.cell 1⟩
structure Qjw (V S:Int)(x:Nat)(c:Nat):Prop where
 x1:1<=x
 xN:x<=nN V S
 cN:c<=nN V S
theorem Qnj {x c:Nat}{rt:Bool}:setP (up2 g x (if rt then 4 else 3) c) c x x 3=(if rt then g x 3 else c)/\setP (up2 g x (if rt then 4 else 3) c) c x x 4=(if rt then c else g x 4)/\(∀ y,setP (up2 g x (if rt then 4 else 3) c) c x y 6=g y 6):=by
 cases rt
 . exact⟨(Qb _ _ _ _ (by decide)).trans (Qaf _ _ _ _),(Qb _ _ _ _ (by decide)).trans (Qp _ _ _ _ (by decide)),fun y=>(Qb _ _ _ _ (by decide)).trans (Qp _ _ _ _ (by decide))⟩
 . exact⟨(Qb _ _ _ _ (by decide)).trans (Qp _ _ _ _ (by decide)),(Qb _ _ _ _ (by decide)).trans (Qaf _ _ _ _),fun y=>(Qb _ _ _ _ (by decide)).trans (Qp _ _ _ _ (by decide))⟩
set_option maxHeartbeats 2000000 in
theorem QmN (A:TM w V S T p gb cap m g){x c:Nat}{rt:Bool}(h:Qjw V S x c)(hm:m<=99999980):
 Calls Tryz.prog 147 #[vTr V S T p,vTn x (if rt then 4 else 3),I (c:Int)] w (Did V S T p gb cap (m+9) (QaL (vxN V) g x rt c) (.tuple #[]) w):=by
 obtain⟨k,hk⟩:∃ k:Nat,(if rt then 4 else 3)=k:=⟨_,rfl⟩
 have hk34:k=3\/k=4:=by rw[<-hk];cases rt<;>simp
 have e6:=(Qnj (g:=g) (x:=x) (c:=c) (rt:=rt)).2.2;rw[hk] at e6;obtain⟨G,hG⟩:∃ G,setP (up2 g x k c) c x=G:=⟨_,rfl⟩;rw[hG] at e6
 have HE:Hid (QaL (vxN V) g x rt c=Qbe (vxN V) G x (oS (g x 6))):=q9 (by unfold QaL;rw[hk,hG])
 have H6:Hid (G x 6=g x 6):=q9 (e6 x);have HO4:Hid (oS (g x 6)<4):=q9 (Qgb _);have HG:=q9 hG;have HK:=q9 hk34
 have cI:(c:Int)<=560:=by have:=Ql A.hR;have:=h.cN;omega
 have hw:IntKind.u64.wrap (c:Int)=(c:Int):=IntWalk.u64_in _ (by omega)
 have H:=q9 h;have HA:=q9 A;have fl:=Qbn (G x 6)
 have HM3:Hid (m+3<=100000000):=q9 (by omega)
 have HM4:Hid (m+4<=99999990):=q9 (by omega)
 have HO6:Hid (oS (G x 6)<4):=q9 (Qgb _)
 have HC64:Hid (c<=18446744073709551615):=q9 (by omega)
 rw[hk,HE.out];clear A h hk hk34 e6 hG
 go_enter Tryz.func147,Tryz.ntmps147
 go_wp2_with fail
 have HT:Hid (TB (w.alloc (I5 V S T p)) w.heap.size V S T p):=q9 (TB.new _ _ _ _ _);have HA0:=q9 (HA.alloc (I5 V S T p));have HO0:=q9 ((Only.refl p gb w).alloc (I5 V S T p));have HS0:Hid (Blk ((w.alloc (I5 V S T p)).alloc (.cells #[I (x:Int),I (k:Int)] 191)) (w.heap.size+1) 191 #[I (x:Int),I (k:Int)]):=q9 (Q8 w _ _ _ _)
 replace HT:=q9 (HT.alloc (.cells #[I (x:Int),I (k:Int)] 191))
 replace HA0:=q9 (HA0.alloc (.cells #[I (x:Int),I (k:Int)] 191))
 replace HO0:=q9 (HO0.alloc (.cells #[I (x:Int),I (k:Int)] 191))
 generalize hwb:w.heap.size=b at HT HS0 |-;generalize hW:(w.alloc (I5 V S T p)).alloc (.cells #[I (x:Int),I (k:Int)] 191)=W at HT HA0 HO0 HS0 |-;clear hW;have htb:=Qm b V S T p;obtain⟨y0,y1,y2,y3,y4,y5⟩:=HT.cells;have hlt:=HT.lt;have u0:=HS0.cell 0;have u1:=HS0.cell 1;have ult:=HS0.lt
 refine(Qec (k:=k) HA0.out rfl H.xN H.x1 (by have:=HK.out;omega) (fun e=>absurd e (by have:=HK.out;omega)) (fun _=>H.cN) HC64.out (by omega)).mono ?_;rintro e w1 ⟨rfl,A1,O1⟩
 have HT1:=q9 (HT.only HA0.out O1)
 have HS1:=q9 (HS0.treap HA0.out O1 (by decide) (by decide))
 have HA1:=q9 A1;have HO1:=q9 (HO0.trans O1);clear A1 O1 HT HS0 HA0 HO0 y0 y1 y2 y3 y4 y5 hlt u0 u1 ult htb;obtain⟨y0,y1,y2,y3,y4,y5⟩:=HT1.cells;have hlt:=HT1.lt;have u0:=HS1.cell 0;have u1:=HS1.cell 1;have ult:=HS1.lt;go_wp2_with fail
 refine(QaZ HA1 H.cN H.xN (by omega)).mono ?_;rintro e w2 ⟨rfl,A2,O2⟩;rw[HG.out] at A2
 have HT2:=q9 (HT1.only HA1.out O2)
 have HS2:=q9 (HS1.treap HA1.out O2 (by decide) (by decide))
 have HA2:Hid (TM w2 V S T p gb cap (m+3) G):=q9 A2;have HO2:=q9 (HO1.trans O2);clear A2 O2 HT1 HS1 HA1 HO1 y0 y1 y2 y3 y4 y5 hlt u0 u1 ult;have htu:=QhT b (b+1) V S T p x k;have HTU:Hid (TU w2 b (b+1) V S T p x k):=q9 ⟨HT2.out,HS2.out⟩;obtain⟨y0,y1,y2,y3,y4,y5,u0,u1⟩:=htu w2 HTU.out;have hlt:=HT2.lt;have ult:=HS2.lt;go_wp2_with fail
 have HTd:=q9 HTU.drew;have HAd:=q9 HA2.drew;have HOd:=q9 HO2.drew
 go_region_held3 (fun W=>TU W b (b+1) V S T p x k) (first|(with_reducible assumption)|(with_reducible exact TU.only (by assumption) (Hid.out (by assumption:Hid (TM _ V S T p gb cap (m+3) G))) O2)|(with_reducible exact TU.only (by assumption) (Hid.out (by assumption:Hid (TM _ V S T p gb cap (m+4) G))) O2)|(with_reducible exact HTd.out))
  (first
   |(go_at_call 99;((with_reducible refine(tsum (Hid.out (by assumption:Hid (TM _ V S T p gb cap (m+3) G))) H.out.xN HM3.out).mono ?_);rintro e w2 ⟨rfl,A2,O2⟩;have HA4:Hid (TM w2 V S T p gb cap (m+4) G):=q9 A2;have HO5:=q9 (Only.trans (Hid.out (by assumption:Hid (Only p gb w _))) O2)))
   |(go_at_call 81;((with_reducible refine(QcP (Hid.out (by assumption:Hid (TM _ V S T p gb cap (m+4) G))) H.out.xN H.out.x1 HO6.out HM4.out).mono ?_);rintro e w2 ⟨rfl,A2,O2⟩;have HA9:=q9 A2;have HO9:=q9 (Only.trans (Hid.out (by assumption:Hid (Only p gb w _))) O2))))
 go_wp2_with fail
 go_end0
 exact⟨rfl,by rw[<-H6.out];exact HA9,HO9⟩
def QaU (vx:Nat->Bool)(g:Mg9)(x:Nat):Mg9:=Qbe vx (setP (up2 (up2 g x 3 0) x 4 0) x 0) x 0
set_option maxHeartbeats 1000000 in
theorem QhY (A:TM w V S T p gb cap m g){x:Nat}(hx1:1<=x)(hx:x<=nN V S)(hm:m<=99999980):
 Calls Tryz.prog 36 #[vTr V S T p,I (x:Int)] w (Did V S T p gb cap (m+9) (QaU (vxN V) g x) (.tuple #[]) w):=by
 have HX:=q9 hx;have HX1:=q9 hx1;have HA:=q9 A;obtain⟨G,hG⟩:∃ G,setP (up2 (up2 g x 3 0) x 4 0) x 0=G:=⟨_,rfl⟩;have HG:=q9 hG
 have HE:Hid (QaU (vxN V) g x=Qbe (vxN V) G x 0):=q9 (by unfold QaU;rw[hG])
 rw[HE.out];clear A hx hx1 hG
 go_enter Tryz.func36,Tryz.ntmps36
 go_wp2_with fail
 have HT:Hid (TB (w.alloc (I5 V S T p)) w.heap.size V S T p):=q9 (TB.new _ _ _ _ _);have HA0:=q9 (HA.alloc (I5 V S T p));have HO0:=q9 ((Only.refl p gb w).alloc (I5 V S T p))
 have HBL:Hid (w.heap.size<(w.alloc (I5 V S T p)).heap.size):=q9 (by simp)
 generalize hwb:w.heap.size=b at HT HBL |-;generalize hW:w.alloc (I5 V S T p)=W at HT HA0 HO0 HBL |-;clear hW;have htb:=Qm b V S T p;obtain⟨y0,y1,y2,y3,y4,y5⟩:=HT.cells;have hlt:=HT.lt
 refine(Qec (k:=3) (v:=0) HA0 kI3 HX HX1 (by omega) (fun e=>absurd e (by omega)) (fun _=>by omega) (by omega) (by omega)).mono ?_;rintro e w1 ⟨rfl,A1,O1⟩
 have HT1:=q9 (HT.only HA0.out O1);have HA1:=q9 A1;have HO1:=q9 (HO0.trans O1);clear A1 O1 HT HA0 HO0 y0 y1 y2 y3 y4 y5 hlt;obtain⟨y0,y1,y2,y3,y4,y5⟩:=HT1.cells;have hlt:=HT1.lt;go_wp2_with fail
 refine(Qec (k:=4) (v:=0) HA1 kI4 HX HX1 (by omega) (fun e=>absurd e (by omega)) (fun _=>by omega) (by omega) (by omega)).mono ?_;rintro e w2 ⟨rfl,A2,O2⟩
 have HT2:=q9 (HT1.only HA1.out O2);have HA2:=q9 A2;have HO2:=q9 (HO1.trans O2);clear A2 O2 HT1 HA1 HO1 y0 y1 y2 y3 y4 y5 hlt;obtain⟨y0,y1,y2,y3,y4,y5⟩:=HT2.cells;have hlt:=HT2.lt;go_wp2_with fail
 refine(QaZ (v:=0) HA2 HX (by omega) (by omega)).mono ?_;rintro e w3 ⟨rfl,A3,O3⟩;rw[HG.out] at A3
 have HT3:=q9 (HT2.only HA2.out O3);have HA3:=q9 A3;have HO3:=q9 (HO2.trans O3);clear A3 O3 HT2 HA2 HO2 y0 y1 y2 y3 y4 y5 hlt;obtain⟨y0,y1,y2,y3,y4,y5⟩:=HT3.cells;have hlt:=HT3.lt;go_wp2_with fail
 refine(QcP (own:=0) HA3 HX HX1 (by omega) (by omega)).mono ?_;rintro e w4 ⟨rfl,A4,O4⟩
 have HA4:=q9 A4;have HO4:=q9 (HO3.trans O4);clear A4 O4;go_wp2_with fail
 go_end0
 exact⟨rfl,HA4.more (by omega),HO4⟩
end
end Go.Proofs.YtaooglagddphnaaGreat
