/- ZF -/
import Derived.Test.YtaooglagddphnaaGreatXZE
import Derived.Test.YtaooglagddphnaaGreatXZB
import Derived.Laws.AppendOwnNone
import Derived.Maps.AppendAt
import Derived.BigQuiet
import Derived.Deep.CutRange
import Derived.Test.YtaooglagddphnaaGreatXZA
namespace Go.Proofs.YtaooglagddphnaaGreat
open Go.RowKit
set_option maxRecDepth 100000
section
variable {w w' W:World}{V S T:Int}{q p gb cap m pb mb vb cp cm cv n x k:Nat}{g:Mg9}{vr:Value}
theorem Qnh (hR:Rt V S T){kI:Int}(hk:kI=(k:Int))(h1:1<=x)(h2:x<=nN V S)(h3:k<7)(w:World):
 Calls Tryz.prog 35 #[vL V S T,I (x:Int),I kI] w fun e w'=>e=.returned (I (cN V S T x k:Int))/\Below w.heap.size w w':=by
 subst hk;have hn:=Ql hR;rw[<-Qcy hR h1 h2 h3]
 exact QaM V S T (x:Int) (k:Int) hR (by omega) (by omega) w
theorem QlX (hR:Rt V S T)(h1:1<=x)(h2:x<=nN V S)(w:World):
 Calls Tryz.prog 35 #[vL V S T,I (x:Int),I 5] w fun e w'=>e=.returned (I (cN V S T x 5:Int))/\Below w.heap.size w w':=Qnh hR kI5 h1 h2 (by omega) w
end
section
variable {α:Type}
theorem Qk1 {i k:Nat}:∀ {j:Nat} (l:List α),i<j->k<j->wo i k j l=l
 |_,[],_,_=>rfl
 |j,x :: l,h1,h2=>by
  simp only[wo]
  rw[if_pos ⟨by omega,by omega⟩,Qk1 l (by omega) (by omega)]
theorem QfY {i k:Nat}:∀ {j:Nat} (l:List α),i<j->wo i k j l=wo k k j l
 |_,[],_=>rfl
 |j,x :: l,h1=>by
  simp only[wo]
  rw[QfY l (by omega:i<j+1)]
  by_cases h:j=k
  . rw[if_neg (by omega),if_neg (by omega)]
  . rw[if_pos ⟨by omega,h⟩,if_pos ⟨h,h⟩]
theorem QhP {i k:Nat}:∀ {j:Nat} (l:List α),wo i k j l=wo k i j l
 |_,[]=>rfl
 |j,x :: l=>by
  simp only[wo];rw[QhP l]
  by_cases h:j≠i/\j≠k
  . rw[if_pos h,if_pos ⟨h.2,h.1⟩]
  . rw[if_neg h,if_neg fun e=>h ⟨e.2,e.1⟩]
theorem QW {i:Nat}{x:α}:∀ {j:Nat} {l:List α},j<=i->l[i-j]?=some x->l.Perm (x :: wo i i j l)
 |j,[],_,h=>by simp at h
 |j,y :: l,h1,h=>by
  by_cases e:i=j
  . subst e
    rw[Nat.sub_self] at h;simp at h;subst h;simp only[wo]
    rw[if_neg (by omega),Qk1 l (by omega) (by omega)]
  . rw[show i-j=(i-(j+1))+1 by omega] at h
    have ih:=QW (i:=i) (x:=x) (j:=j+1) (l:=l) (by omega) (by simpa using h)
    simp only[wo]
    rw[if_pos ⟨by omega,by omega⟩]
    exact(ih.cons y).trans (List.Perm.swap x y _)
theorem Qcf {i k:Nat}(hik:i≠k){x y:α}:∀ {j:Nat} {l:List α},j<=i->j<=k->l[i-j]?=some x->l[k-j]?=some y->l.Perm (x :: y :: wo i k j l)
 |j,[],_,_,h,_=>by simp at h
 |j,z :: l,h1,h2,h,h'=>by
  by_cases e:i=j
  . subst e
    rw[Nat.sub_self] at h;simp at h;subst h
    rw[show k-i=(k-(i+1))+1 by omega] at h'
    have:=QW (i:=k) (x:=y) (j:=i+1) (l:=l) (by omega) (by simpa using h')
    simp only[wo]
    rw[if_neg (by omega),QfY l (by omega)]
    exact this.cons z
  . by_cases e':k=j
    . subst e'
      rw[Nat.sub_self] at h';simp at h';subst h'
      rw[show i-k=(i-(k+1))+1 by omega] at h
      have:=QW (i:=i) (x:=x) (j:=k+1) (l:=l) (by omega) (by simpa using h)
      simp only[wo]
      rw[if_neg (by omega),QhP,QfY l (by omega)]
      exact(this.cons z).trans (List.Perm.swap x z _)
    . rw[show i-j=(i-(j+1))+1 by omega] at h
      rw[show k-j=(k-(j+1))+1 by omega] at h'
      have ih:=Qcf hik (x:=x) (y:=y) (j:=j+1) (l:=l) (by omega) (by omega) (by simpa using h) (by simpa using h')
      simp only[wo]
      rw[if_pos ⟨by omega,by omega⟩]
      exact((ih.cons z).trans (List.Perm.swap x z _)).trans ((List.Perm.swap y z _).cons x)
end
section
variable {V S:Int}{g g':Mg9}{mk mk':Nat->Nat}{ts ts':List Tp}
theorem QfB {l l':List Tp}(h:l.Perm l'):(l.flatMap Tp.row).Perm (l'.flatMap Tp.row):=List.Perm.flatMap_right _ h
theorem FI.mem (h:FI V S g mk ts)(x:Nat):(x≠0/\x<=nN V S)↔x∈ts.flatMap Tp.row:=(h.al x).trans List.mem_flatMap.symm
theorem FI.perm (h:FI V S g mk ts)(hp:ts.Perm ts'):FI V S g mk ts':=
 ⟨h.hm,fun t ht=>h.st t (hp.mem_iff.2 ht),(QfB hp).nodup_iff.1 h.nd,fun x=>(h.mem x).trans ((QfB hp).mem_iff.trans List.mem_flatMap)⟩
theorem Hp.same {g g':Mg9}{t:Tp}(h:Hp (fun z=>g z 5) t)(h5:∀ y,g' y 5=g y 5):Hp (fun z=>g' z 5) t:=by
 have:(fun z=>g' z 5)=fun z=>g z 5:=funext h5
 rw[this];exact h
theorem Q7.turn {vx:Nat->Bool}{t:Tp}(h:Q7 vx mk g t)(hn:t.row.Nodup)(h1:∀ x∈t.row,∀ k,g' x k=g x k)(h2:∀ x∈t.row,mk' x=mk x):Q7 vx mk' g' t:=
 ⟨h.1.congr (fun x hx=>⟨h2 x hx,h1 x hx 3,h1 x hx 4,h1 x hx 6⟩) hn fun x hx _=>h1 x hx 2,fun h0=>(h1 _ (Tp.root_mem h0) 2).trans (h.2 h0)⟩
theorem FI.swap {L N R:List Tp}(h:FI V S g mk ts)(hp:ts.Perm (L++R))(hN:(N.flatMap Tp.row).Perm (L.flatMap Tp.row))(hs:∀ t∈N,Q7 (vxN V) mk' g' t/\Hp (fun z=>g z 5) t/\t≠.nil)
 (ho:∀ y,y∉L.flatMap Tp.row->∀ k,g' y k=g y k) (h5:∀ y,g' y 5=g y 5) (hm:∀ x,mk' x<4) (hmk:∀ y,y∉L.flatMap Tp.row->mk' y=mk y):FI V S g' mk' (R++N):=by
 have h':=h.perm hp;have hd:=h'.nd;rw[List.flatMap_append,List.nodup_append] at hd
 have hq:((R++N).flatMap Tp.row).Perm ((L++R).flatMap Tp.row):=by
  rw[List.flatMap_append,List.flatMap_append];exact(List.Perm.append_left _ hN).trans List.perm_append_comm
 refine⟨hm,fun t ht=>?_,hq.nodup_iff.2 h'.nd,fun x=>(h'.mem x).trans (hq.mem_iff.symm.trans List.mem_flatMap)⟩
 rcases List.mem_append.1 ht with ht|ht
 . have h1:=h'.st t (List.mem_append_right _ ht)
   have hx:∀ x∈t.row,x∉L.flatMap Tp.row:=fun x hx hL=>hd.2.2 x hL x (List.mem_flatMap.2 ⟨t,ht,hx⟩) rfl
   exact⟨h1.1.turn (h'.one (List.mem_append_right _ ht)) (fun x hx'=>ho x (hx x hx')) fun x hx'=>hmk x (hx x hx'),h1.2.1.same h5,h1.2.2⟩
 . exact⟨(hs t ht).1,(hs t ht).2.1.same h5,(hs t ht).2.2⟩
end
def UpOk (vx:Nat->Bool)(mk:Nat->Nat)(g:Mg9):List Fr->Tp->Prop
 |[],_=>True
 |f :: us,t=>FrOk vx mk g f/\(t.root≠0->g t.root 2=f.x)/\g f.x (if f.rt then 4 else 3)=t.root/\UpOk vx mk g us (f.join t)
section
variable {vx:Nat->Bool}{mk mk':Nat->Nat}{g g':Mg9}
theorem QeV (hm:∀ x,mk x<4):∀ {us:List Fr} {t:Tp},Qe vx mk g (QE us t)->(QE us t).size<65536->(∀ x∈(QE us t).row,x≠0)->UpOk vx mk g us t/\Qe vx mk g t
 |[],t,h,_,_=>⟨trivial,h⟩
 |f :: us,t,h,hz,hp=>by
  have ih:=QeV hm (us:=us) (t:=f.join t) h hz hp;have h1:=QX us (f.join t)
  have h2:=Qe.frame hm ih.2 (by simp only[QE] at hz;omega) (hp f.x (QcB (List.mem_cons_self ..)))
  exact⟨⟨h2.1,h2.2.2.2,h2.2.2.1,ih.1⟩,h2.2.1⟩
theorem UpOk.turn {x0:Nat}:∀ {us:List Fr} {t:Tp},UpOk vx mk g us t->x0∈t.row->(QE us t).row.Nodup->(∀ y,y≠x0->mk' y=mk y)->(∀ y k,(y≠x0\/k≠6)->g' y k=g y k)->UpOk vx mk' g' us t
 |[],_,_,_,_,_,_=>trivial
 |f :: us,t,h,hx,hn,h1,h2=>by
  obtain⟨a,b,c,d⟩:=h;obtain⟨no,nt,xo,xt,dj⟩:=Fr.join_nodup (QaN (us:=us) (t:=f.join t) hn)
  have fx:f.x≠x0:=fun e=>xt (e ▸ hx)
  have ox:∀ y∈f.o.row,y≠x0:=fun y hy e=>dj x0 hx (e ▸ hy)
  refine⟨⟨a.nz,?_,fun h0=>?_,?_,?_⟩,fun h0=>?_,?_,UpOk.turn d (Fr.join_mem.2 (.inr (.inr hx))) hn h1 h2⟩
  . rw[h2 _ _ (.inl fx)];exact a.side
  . rw[h2 _ _ (.inl (ox _ (Tp.root_mem h0)))];exact a.par h0
  . rw[h2 _ _ (.inl fx),h1 _ fx];exact a.own
  . exact a.o.congr (fun y hy=>⟨h1 y (ox y hy),h2 _ _ (.inl (ox y hy)),h2 _ _ (.inl (ox y hy)),h2 _ _ (.inl (ox y hy))⟩) no fun y hy _=>h2 _ _ (.inl (ox y hy))
  . rw[h2 _ _ (.inr (by decide))];exact b h0
  . rw[h2 _ _ (.inl fx)];exact c
theorem QgE (hm:∀ x,mk x<4):∀ {us:List Fr} {t:Tp} {g:Mg9},UpOk vx mk g us t->Qe vx mk g t->t.root≠0->(∀ k,g 0 k=0)->(QE us t).row.Nodup->(QE us t).size<65536->Qe vx mk (Qb1 vx g (us.map Fr.x)) (QE us t)
 |[],_,_,_,h,_,_,_,_=>h
 |f :: us,t,g,h,hl,hr,h0,hn,hz=>by
  obtain⟨a,b,c,d⟩:=h;have hn':=QaN (us:=us) (t:=f.join t) hn
  have hz':(f.join t).size<65536:=by have:=QX us (f.join t);simp only[QE] at hz;omega
  have ow:=a.own
  have hL:Qe vx mk (Qbe vx g f.x (oS (g f.x 6))) (f.join t):=by
   rw[ow];have sd:=a.side;have pa:=a.par;have lo:=a.o
   revert hn' hz' sd c pa lo
   unfold Fr.join
   cases f.rt with
   |true=>intro c hn' hz' sd pa lo;exact QaE hm h0 hn' hz' sd c pa b lo hl
   |false=>intro c hn' hz' sd pa lo;exact QaE hm h0 hn' hz' c sd b pa hl lo
  exact QgE hm (us:=us) (t:=f.join t) (d.turn (x0:=f.x) (Fr.join_mem.2 (.inl rfl)) hn (fun _ _=>rfl) fun y k hy=>by
   rcases hy with hy|hy
   . exact QI _ _ _ _ hy
   . exact Qs _ _ _ _ _ hy) hL (by rw[Fr.join_root];exact a.nz) (fun k=>by rw[QI _ _ _ _ (Ne.symm a.nz)];exact h0 k) hn hz
theorem Qa6:∀ {l:List Nat} {g:Mg9} {y k:Nat},(y∉l\/k≠6)->Qb1 vx g l y k=g y k
 |[],_,_,_,_=>rfl
 |x :: l,g,y,k,h=>by
  show Qb1 vx (Qbe vx g x (oS (g x 6))) l y k=g y k
  rw[Qa6 (by rcases h with h|h;exact .inl fun e=>h (List.mem_cons_of_mem _ e);exact .inr h)]
  rcases h with h|h
  . exact QI _ _ _ _ fun e=>h (by simp [e])
  . exact Qs _ _ _ _ _ h
theorem Qgx {n:Nat}:∀ {us:List Fr} {t:Tp},UpOk vx mk g us t->t.root≠0->(∀ f∈us,f.x<=n)->g (Qd2 us t.root) 2=0->Chn g n (g t.root 2) (us.map Fr.x)
 |[],_,_,_,_,h=>h
 |f :: us,t,h,hr,hn,h0=>by
  obtain⟨a,b,c,d⟩:=h
  have ih:=Qgx (n:=n) d (by rw[Fr.join_root];exact a.nz) (fun f' hf=>hn f' (List.mem_cons_of_mem _ hf)) (by rw[Fr.join_root];exact h0)
  rw[Fr.join_root] at ih;rw[b hr];exact⟨rfl,a.nz,hn f (List.mem_cons_self ..),ih⟩
theorem Qgy:∀ (us:List Fr) (x z:Nat),((z :: x :: us.map Fr.x)[(us.map Fr.x).length+1]?).getD 0=Qd2 us x
 |[],_,_=>rfl
 |f :: us,x,z=>by
  have:=Qgy us f.x x;simpa [Qd2] using this
theorem Qk4 (hm:∀ x,mk x<4)(h0:∀ k,g 0 k=0):∀ {us:List Fr} {t:Tp} {i:Nat},UpOk vx mk g us t->t.root≠0->(QE us t).row.Nodup->(QE us t).size<65536->(∀ y∈(QE us t).row,y≠0)->idxG g i t.root (us.map Fr.x)=i+Qd7 us
 |[],_,_,_,_,_,_,_=>rfl
 |f :: us,t,i,h,hr,hn,hz,hp=>by
  obtain⟨a,b,c,d⟩:=h;obtain⟨no,nt,xo,xt,dj⟩:=Fr.join_nodup (QaN (us:=us) (t:=f.join t) hn)
  have hz':(f.join t).size<65536:=by have:=QX us (f.join t);simp only[QE] at hz;omega
  rw[Fr.join_size] at hz'
  have ih:=fun i=>Qk4 hm h0 (i:=i) d (by rw[Fr.join_root];exact a.nz) hn hz hp
  rw[Fr.join_root] at ih
  show idxG g (if g f.x 4=t.root then i+(nS (g (g f.x 3) 6)+1) else i) f.x (us.map Fr.x)=i+Qd7 (f :: us)
  rw[ih];simp only[Qd7];have sd:=a.side
  cases hf:f.rt with
  |true=>
   rw[hf] at c sd;simp only[if_true] at c sd |-
   rw[if_pos c,sd,a.o.sum h0,(Qal hm f.o (by omega)).1];omega
  |false=>
   rw[hf] at c sd;simp only[Bool.false_eq_true,if_false] at c sd |-;rw[if_neg]
   . omega
   . rw[sd]
     intro e
     exact dj _ (Tp.root_mem hr) (by rw[<-e];exact Tp.root_mem (by rw[e];exact hr))
end
def RI (w:World)(base:Nat)(v:Value)(l:List Nat):Prop:=w.ownsRow base 3 1 v l.length (l.map fun s:Nat=>I (s:Int))
section
variable {w w' W:World}{base:Nat}{v u:Value}{l l2:List Nat}
theorem RI.li (h:RI w base v l):LI w v l:=(LI.of_owns h).1
theorem RI.bk (h:RI w base v l):∀ b,bk v=some b->base<=b:=(LI.of_owns h).2
theorem RI.nil (w:World)(base:Nat):RI w base (.slice none 0 0) []:=World.ownsRow_nil _ _ _ _
theorem RI.lt (h:RI w base v l):∀ k,v.ownBlock=some k->base<=k/\k<w.heap.size:=World.ownsRow.lt h
theorem Qat (w:World){ops:Array Oper}{rest:List Oper}{o:Oper}{a:Act}{Q:Exit->Act->World->Prop}(hgd:o.guard=none)(s x:Operand)
 (ho:o.op=.call { callee:=.builtin .append,args:=#[s,x],argTypes:=#[36,36]})
 {base:Nat} {v u:Value} {l l2:List Nat} (hs:a.eval s=v) (h:RI w base v l) (hx:a.eval x=u) (hu:LI w u l2) (hl:l.length+l2.length<=100000) (hb:base<=w.heap.size)
 (hK:∀ v' w',RI w' base v' (l++l2)->w.grownBy w' v.ownBlock->wpList Tryz.prog ops Q rest (a.put o.dst v') w'):wpList Tryz.prog ops Q (o :: rest) a w:=by
 obtain⟨i0,hi0,hz0,hz1,hz2⟩:=info_parts Qel;obtain⟨ao,cap,rfl,h1,h2,h3,h4⟩:=hu
 have hone:∀ u∈(l2.map fun s:Nat=>I (s:Int)),u.oneCell'=true:=by
  intro u hu;obtain⟨y,_,rfl⟩:=List.mem_map.1 hu;rfl
 have fin:∀ v' w',w'.ownsRow base 3 1 v' (l.length+l2.length) ((l.map fun s:Nat=>I (s:Int))++(l2.map fun s:Nat=>I (s:Int)))->w.grownBy w' v.ownBlock->wpList Tryz.prog ops Q rest (a.put o.dst v') w':=by
  intro v' w' h1 h2;refine hK v' w' ?_ h2;unfold RI;rw[List.length_append,List.map_append];exact h1
 cases ao with
 |none=>
  have hc0:=h3 rfl
  have hl0:l2=[]:=List.eq_nil_of_length_eq_zero (by omega)
  subst hl0 hc0
  exact wpList_append_own_none hgd s x 36 ho base 3 i0 1 Tryz.underlying36 hi0 v l.length _ hs h hx (fin v w (by unfold RI at h;simpa using h) ⟨rfl,rfl,rfl,Nat.le_refl _,fun _ _ _=>rfl⟩)
 |some ad=>
  refine wpList_append_own_at w hgd s x 36 ho base 3 i0 _ 1 8 Tryz.underlying36 hi0 hz0 hz1 hz2 rfl (by omega) v l.length _ hs h ad l2.length cap (l2.map fun s:Nat=>I (s:Int)) hx (by simp) ?_ hone (by simp only[maxLen];omega) (by omega) hb (fun v' w' a1 a2 _ _=>fin v' w' a1 a2)
  intro j u hj
  obtain⟨y,hy,rfl⟩:∃ y,l2[j]?=some y/\u=I (y:Int):=by
   simp only[List.getElem?_map,Option.map_eq_some_iff] at hj;obtain⟨y,hy,e⟩:=hj;exact⟨y,hy,e.symm⟩
  have hj':=(List.getElem?_eq_some_iff.1 hy).1
  obtain⟨b,off,zs,e,hz,hs2,hx2⟩:=h4 (by omega)
  injection e with e;rw[e,Addr.add_lit,hz.cell];exact hx2 j y hy
end
section
variable {w w' W:World}{V S T:Int}{q p gb cap pb mb vb cp cm cv base m m' i k:Nat}{g:Mg9}{mk:Nat->Nat}{ts:List Tp}{vr v:Value}{vs:List Value}{t ta tb:Tp}
theorem FI.at (hF:FI V S g mk ts){t:Tp}(ht:ts[i]?=some t):Q7 (vxN V) mk g t/\Hp (fun z=>g z 5) t/\t≠.nil/\t.row.Nodup/\(∀ y∈t.row,y≠0/\y<=nN V S)/\t.size<=nN V S:=by
 have hm:=List.mem_of_getElem? ht;obtain⟨a,b,c⟩:=hF.st t hm;exact⟨a,b,c,hF.one hm,hF.nodes hm,hF.size hm⟩
theorem FI.pair (_hF:FI V S g mk ts)(hik:i≠k)(ha:ts[i]?=some ta)(hb:ts[k]?=some tb):ts.Perm ([ta,tb]++wo i k 0 ts):=Qcf hik (Nat.zero_le _) (Nat.zero_le _) ha hb
theorem QgP:[ta,tb].flatMap Tp.row=ta.row++tb.row:=by simp
theorem Qba:[ta].flatMap Tp.row=ta.row:=by simp
def Qfd (a b:Tp):List Tp:=(if 0<a.row.length then [a] else [])++(if 0<b.row.length then [b] else [])
theorem Qh2 (a b:Tp):(Qfd a b).flatMap Tp.row=a.row++b.row:=by
 unfold Qfd;rw[List.flatMap_append]
 congr 1
 . split
   . simp
   . rw[List.eq_nil_of_length_eq_zero (by omega:a.row.length=0)];rfl
 . split
   . simp
   . rw[List.eq_nil_of_length_eq_zero (by omega:b.row.length=0)];rfl
theorem FI.node (hF:FI V S g mk ts)(hn:nN V S<=560)(h0:∀ k,g 0 k=0){x:Nat}(h1:x≠0)(h2:x<=nN V S):
 ∃ (i:Nat) (t:Tp) (us:List Fr) (l r:Tp),ts[i]?=some t/\t=QE us (.node l x r)/\UpOk (vxN V) mk g us (.node l x r)/\Qe (vxN V) mk g (.node l x r)/\(∀ f∈us,1<=f.x/\f.x<=nN V S)/\us.length+1<=nN V S/\t.root=Qd2 us x/\g t.root 2=0:=by
 obtain⟨t,ht,hx⟩:=(hF.al x).1 ⟨h1,h2⟩;obtain⟨i,hi⟩:=List.mem_iff_getElem?.1 ht;obtain⟨a1,a2,a3,a4,a5,a6⟩:=hF.at hi;obtain⟨us,l,r,e⟩:=Qdm hx
 have hz:(QE us (.node l x r)).size<65536:=by rw[<-e];omega
 have hp:∀ y∈(QE us (.node l x r)).row,y≠0:=by rw[<-e];exact fun y hy=>(a5 y hy).1
 have hc:=QeV hF.hm (us:=us) (t:=.node l x r) (by rw[<-e];exact a1.1) hz hp
 have hs:=QX us (.node l x r);rw[<-e,Tp.size_node] at hs
 have hr:t.root=Qd2 us x:=by rw[e,Qc0];rfl
 refine⟨i,t,us,l,r,hi,e,hc.1,hc.2,fun f hf=>?_,by omega,hr,?_⟩
 . have:=a5 f.x (by rw[e];exact QcB hf);omega
 . by_cases h:t.root=0
   . rw[h];exact h0 2
   . exact a1.2 h
def Q9 (mk:Nat->Nat)(x k:Nat)(on:Bool):Nat->Nat:=fun y=>if y=x then setB (mk x) k on else mk y
theorem QgK (hm:∀ x,mk x<4){x k:Nat}{on:Bool}(hk:k<2):∀ y,Q9 mk x k on y<4:=fun y=>by
 unfold Q9;split
 . exact Qia (hm x) hk
 . exact hm y
end
section
variable {w w' W W' w0:World}{V S T:Int}{q p gb cap pb mb vb cp cm cv base m m' ob n:Nat}{g g':Mg9}{mk:Nat->Nat}{ts:List Tp}{vr v:Value}{vs:List Value}{K:PK9}{kd a b k:Int}{on:Bool}
theorem RowV.at {base:Nat}(h:RowV W base vr vs){i:Nat}(hv:vs[i]?=some v):∃ rg c,vr=I3 (I1 rg 0) vs.length c/\base<=rg/\rg<W.heap.size/\∃ cs,Blk W rg 36 cs/\∀ (j:Nat) (u:Value),vs[j]?=some u->cs[j]?=some u:=by
 rcases h.shape with ⟨_,h0⟩|⟨g,c,cs,e,hb,hz,_,_,hcs⟩
 . rw[h0] at hv;simp at hv
 . exact⟨g,c,e,hb,hz.lt,cs,hz,hcs⟩
theorem QS (w:World)(j:Nat):Below w.heap.size w (w.drewN j):=Qao (Below.refl _ _) j
end
theorem Qek {x:Nat}:∀ {a b c d:List Nat},a++x :: b=c++x :: d->(a++x :: b).Nodup->a=c/\b=d
 |[],b,[],d,h,_=>⟨rfl,by simpa using h⟩
 |[],b,z :: c,d,h,hn=>by
  simp only[List.nil_append,List.cons_append,List.cons.injEq] at h;obtain⟨rfl,rfl⟩:=h;simp at hn
 |z :: a,b,[],d,h,hn=>by
  simp only[List.nil_append,List.cons_append,List.cons.injEq] at h;obtain⟨rfl,_⟩:=h;simp at hn
 |z :: a,b,y :: c,d,h,hn=>by
  simp only[List.cons_append,List.cons.injEq] at h;obtain⟨rfl,h⟩:=h;simp only[List.cons_append,List.nodup_cons] at hn;obtain⟨rfl,rfl⟩:=Qek h hn.2;exact⟨rfl,rfl⟩
section
variable {w w' W:World}{V S T:Int}{p gb cap m i k x j:Nat}{g:Mg9}{mk:Nat->Nat}{ts:List Tp}{t ta tb:Tp}{on:Bool}
theorem FI.nodeAt (hF:FI V S g mk ts)(hn:nN V S<=560)(h0:∀ k,g 0 k=0)(hi:ts[i]?=some t)(hx:x∈t.row):
 ∃ (us:List Fr) (l r:Tp),t=QE us (.node l x r)/\UpOk (vxN V) mk g us (.node l x r)/\Qe (vxN V) mk g (.node l x r)/\(∀ f∈us,1<=f.x/\f.x<=nN V S)/\us.length+1<=nN V S/\t.root=Qd2 us x/\g t.root 2=0:=by
 obtain⟨a1,a2,a3,a4,a5,a6⟩:=hF.at hi;obtain⟨us,l,r,e⟩:=Qdm hx
 have hz:(QE us (.node l x r)).size<65536:=by rw[<-e];omega
 have hp:∀ y∈(QE us (.node l x r)).row,y≠0:=by rw[<-e];exact fun y hy=>(a5 y hy).1
 have hc:=QeV hF.hm (us:=us) (t:=.node l x r) (by rw[<-e];exact a1.1) hz hp
 have hs:=QX us (.node l x r);rw[<-e,Tp.size_node] at hs
 have hr:t.root=Qd2 us x:=by rw[e,Qc0];rfl
 refine⟨us,l,r,e,hc.1,hc.2,fun f hf=>?_,by omega,hr,?_⟩
 . have:=a5 f.x (by rw[e];exact QcB hf);omega
 . by_cases h:t.root=0
   . rw[h];exact h0 2
   . exact a1.2 h
theorem Qn5 (A:TM w V S T p gb cap m g)(hF:FI V S g mk ts)(hi:ts[i]?=some t)(hx:x∈t.row)(hm:m<=99980000){xI:Int}(hxI:xI=(x:Int)):
 Calls Tryz.prog 95 #[vTr V S T p,I xI] w (Did V S T p gb cap (m+nN V S) g (I (t.root:Int)) w):=by
 subst hxI;have hn:=Ql A.hR;obtain⟨us,l,r,e,hu,hl,hus,hul,hr,hg⟩:=hF.nodeAt hn A.z hi hx;have hb:=(hF.at hi).2.2.2.2.1 x hx
 have hc:=Qgx hu hb.1 (fun f hf=>(hus f hf).2) (by rw[show (Tp.node l x r).root=x from rfl,<-hr];exact hg)
 have:=QnS A (x:=x) (l0:=x :: us.map Fr.x) hb.2 ⟨rfl,hb.1,hb.2,hc⟩ (by simp;omega) (show m<=99990000 by omega)
 rw[List.length_cons,Qgy us x 0,<-hr] at this;exact this
theorem Qnr (A:TM w V S T p gb cap m g)(hF:FI V S g mk ts)(hi:ts[i]?=some t)(hj:t.row[j]?=some x)(hm:m<=99980000){xI:Int}(hxI:xI=(x:Int)):
 Calls Tryz.prog 119 #[vTr V S T p,I xI] w (Did V S T p gb cap (m+3+4*nN V S) g (I (j:Int)) w):=by
 subst hxI;have hn:=Ql A.hR;have hx:=List.mem_of_getElem? hj;obtain⟨us,l,r,e,hu,hl,hus,hul,hr,hg⟩:=hF.nodeAt hn A.z hi hx;obtain⟨a1,a2,a3,a4,a5,a6⟩:=hF.at hi;have hb:=a5 x hx
 have hc:=Qgx hu hb.1 (fun f hf=>(hus f hf).2) (by rw[show (Tp.node l x r).root=x from rfl,<-hr];exact hg)
 have ht:=QmM A (x:=x) (l:=us.map Fr.x) hb.2 hc (by simp;omega) (fun y hy=>by obtain⟨f,hf,rfl⟩:=List.mem_map.1 hy;exact(hus f hf).2) hm
 have hz:(QE us (.node l x r)).size<65536:=by rw[<-e];omega
 have h1:=Qk4 (i:=nS (g (g x 3) 6)) hF.hm A.z hu hb.1 (by rw[<-e];exact a4) hz (by rw[<-e];exact fun y hy=>(a5 y hy).1)
 have hls:l.size<65536:=by have:=QX us (.node l x r);rw[Tp.size_node] at this;omega
 have h2:nS (g (g x 3) 6)=l.size:=by rw[hl.1,hl.2.2.2.2.2.1.sum A.z];exact(Qal hF.hm l hls).1
 have h3:=QkF (us:=us) (l:=l) (r:=r) (x:=x);rw[<-e] at h3
 have h4:idxG g (nS (g (g x 3) 6)) x (us.map Fr.x)=j:=by
  rw[show idxG g (nS (g (g x 3) 6)) x (us.map Fr.x)=nS (g (g x 3) 6)+Qd7 us from h1,h2];obtain⟨q1,q2⟩:=List.getElem?_eq_some_iff.1 h3;obtain⟨q3,q4⟩:=List.getElem?_eq_some_iff.1 hj;exact(List.getElem_inj a4).1 (q2.trans q4.symm)
 rw[h4] at ht;exact ht
theorem fown (A:TM w V S T p gb cap m g)(hF:FI V S g mk ts)(hi:ts[i]?=some t)(hx:x∈t.row):oS (g x 6)=mk x:=by
 obtain⟨us,l,r,e,hu,hl,_⟩:=hF.nodeAt (Ql A.hR) A.z hi hx
 have hz:(QE us (.node l x r)).size<65536:=by have:=(hF.at hi).2.2.2.2.2;have:=Ql A.hR;rw[<-e];omega
 rw[hl.2.2.1]
 exact Qch hF.hm (by have:=QX us (.node l x r);omega)
theorem Ql6 (A:TM w V S T p gb cap m g)(hF:FI V S g mk ts)(hi:ts[i]?=some t)(hx:x∈t.row)(hk:k<2)(hm:m<=99980000){xI kI:Int}(hxI:xI=(x:Int))(hkI:kI=(k:Int)):
 Calls Tryz.prog 61 #[vTr V S T p,I xI,I kI] w (Did V S T p gb cap (m+1) g (.bool (hasB (mk x) k)) w):=by
 subst hxI hkI
 have:=Qls A (x:=x) ((hF.at hi).2.2.2.2.1 x hx).2 hk (show m<=100000000 by omega)
 rw[fown A hF hi hx] at this;exact this
theorem Qnp (A:TM w V S T p gb cap m g)(hF:FI V S g mk ts)(hi:ts[i]?=some t)(hm:m<=99980000){xI:Int}(hxI:xI=(t.root:Int)):
 Calls Tryz.prog 112 #[vTr V S T p,I xI] w (Did V S T p gb cap (m+1) g (I (cntV (vxN V) t.row:Int)) w):=by
 subst hxI;obtain⟨a1,a2,a3,a4,a5,a6⟩:=hF.at hi;have hn:=Ql A.hR
 have:=QmE A (x:=t.root) (Qbp a5) (show m<=100000000 by omega)
 rw[a1.1.sum A.z,(Qal hF.hm t (by omega)).2.1] at this
 exact this
theorem Qns (A:TM w V S T p gb cap m g)(hF:FI V S g mk ts)(hi:ts[i]?=some t)(hk:k<2)(hm:m<=99980000){xI kI:Int}(hxI:xI=(t.root:Int))(hkI:kI=(k:Int)):
 Calls Tryz.prog 46 #[vTr V S T p,I xI,I kI] w (Did V S T p gb cap (m+4*nN V S) g (I (Qx mk k t.row:Int)) w):=by
 subst hxI hkI;obtain⟨a1,a2,a3,a4,a5,a6⟩:=hF.at hi;exact QmO A hF.hm hk a1.1 a6 a5 hm
theorem Qnq (A:TM w V S T p gb cap m g)(hF:FI V S g mk ts)(ht:ts[i]?=some t){k0:Int}(hk1:-9223372036854775808<=k0)(hk2:k0<=9223372036854775807)(hm:m<=99960000){xa:Int}(hxa:xa=(t.root:Int)):
 Calls Tryz.prog 120 #[vTr V S T p,I xa,I k0] w fun e w'=>∃ g' ta tb,e=.returned (.tuple #[I ((ta.root:Nat):Int),I ((tb.root:Nat):Int)])/\TM w' V S T p gb cap (m+12*nN V S+4) g'/\FI V S g' mk (wo i i 0 ts++Qfd ta tb)/\ta.row=t.row.take (min k0.toNat t.row.length)/\tb.row=t.row.drop (min k0.toNat t.row.length)/\Hp (fun z=>g' z 5) ta/\Hp (fun z=>g' z 5) tb/\Q7 (vxN V) mk g' ta/\Q7 (vxN V) mk g' tb/\Only p gb w w'/\∀ y,g' y 5=g y 5:=by
 subst hxa;have hp:ts.Perm ([t]++wo i i 0 ts):=QW (Nat.zero_le _) ht;obtain⟨a1,a2,a3,a4,a5,a6⟩:=hF.at ht
 refine(QmF A hF.hm hk1 hk2 a1.1 a6 a4 a5 (show m<=99970000 by omega)).mono ?_
 rintro e w' ⟨g',rfl,A',O',hsa,hsb,ho,h5⟩;have hrows:=Qf0 k0 t
 have hhp:=Qfc (pri:=fun z=>g z 5) (fs:=wayT k0 t) (by rw[QaX];exact a2)
 refine⟨g',_,_,rfl,A',?_,hrows.1,hrows.2,hhp.1.same h5,hhp.2.same h5,hsa,hsb,O',h5⟩
 refine hF.swap (L:=[t]) hp ?_ ?_ ?_ h5 hF.hm fun _ _=>rfl
 . rw[Qh2,Qba,hrows.1,hrows.2,List.take_append_drop]
 . intro t' ht'
   unfold Qfd at ht'
   rcases List.mem_append.1 ht' with ht'|ht'
   . split at ht'
     . rename_i hl
       have:t'=(Qd (wayT k0 t)).1:=by simpa using ht'
       subst this
       exact⟨hsa,hhp.1,fun e=>by rw[e] at hl;simp [Tp.row] at hl⟩
     . simp at ht'
   . split at ht'
     . rename_i hl
       have:t'=(Qd (wayT k0 t)).2:=by simpa using ht'
       subst this
       exact⟨hsb,hhp.2,fun e=>by rw[e] at hl;simp [Tp.row] at hl⟩
     . simp at ht'
 . intro y hy
   rw[Qba] at hy;exact ho y hy
theorem Qn6 (A:TM w V S T p gb cap m g)(hF:FI V S g mk ts){x:Nat}{on:Bool}(h1:x≠0)(h2:x<=nN V S)(hk:k<2)(hm:m<=99960000){xa ka:Int}(hxa:xa=(x:Int))(hka:ka=(k:Int)):
 Calls Tryz.prog 63 #[vTr V S T p,I xa,I ka,.bool on] w fun e w'=>∃ g',e=.returned (.tuple #[])/\TM w' V S T p gb cap (m+7+7*nN V S) g'/\(∀ y,g' y 5=g y 5)/\FI V S g' (Q9 mk x k on) ts/\Only p gb w w':=by
 subst hxa hka;have hn:=Ql (V:=V) (S:=S) (T:=T) A.hR;have h0:∀ k,g 0 k=0:=TM.z A;obtain⟨i,t,us,l,r,hi,e,hu,hl,hus,hul,hr,hg⟩:=hF.node hn h0 h1 h2;obtain⟨a1,a2,a3,a4,a5,a6⟩:=hF.at hi;have hm':=QgK (mk:=mk) hF.hm (x:=x) (on:=on) hk
 have hz:(QE us (.node l x r)).size<65536:=by rw[<-e];omega
 have hnd:(QE us (.node l x r)).row.Nodup:=by rw[<-e];exact a4
 have hnd':=QaN hnd
 have hz':(Tp.node l x r).size<65536:=by have:=QX us (.node l x r);omega
 have own:oS (g x 6)=mk x:=by rw[hl.2.2.1];exact Qch hF.hm hz'
 have hsx:Q9 mk x k on x=setB (mk x) k on:=if_pos rfl;obtain⟨g1,hg1⟩:∃ g1,Qbe (vxN V) g x (setB (oS (g x 6)) k on)=g1:=⟨_,rfl⟩
 have hg1':Qbe (vxN V) g x (Q9 mk x k on x)=g1:=by rw[hsx,<-own];exact hg1
 have hoth:∀ y j,(y≠x\/j≠6)->g1 y j=g y j:=fun y j hy=>by
  rw[<-hg1]
  rcases hy with hy|hy
  . exact QI _ _ _ _ hy
  . exact Qs _ _ _ _ _ hy
 have hmo:∀ y,y≠x->Q9 mk x k on y=mk y:=fun y hy=>if_neg hy
 have hu1:UpOk (vxN V) (Q9 mk x k on) g1 us (.node l x r):=hu.turn (x0:=x) (by simp [Tp.row]) hnd hmo hoth
 have hl1:Qe (vxN V) (Q9 mk x k on) g1 (.node l x r):=by
  have hnd2:=hnd';rw[Tp.row_node,List.nodup_append] at hnd2;obtain⟨nl,nr,nd⟩:=hnd2;rw[List.nodup_cons] at nr
  have lx:∀ y∈l.row,y≠x:=fun y hy=>nd y hy x (by simp)
  have rx:∀ y∈r.row,y≠x:=fun y hy e=>nr.1 (e ▸ hy)
  rw[<-hg1']
  exact QaE hm' h0 hnd' hz' hl.1 hl.2.1 hl.2.2.2.1 hl.2.2.2.2.1 (hl.2.2.2.2.2.1.congr (fun y hy=>⟨hmo y (lx y hy),rfl,rfl,rfl⟩) nl fun _ _ _=>rfl) (hl.2.2.2.2.2.2.congr (fun y hy=>⟨hmo y (rx y hy),rfl,rfl,rfl⟩) nr.2 fun _ _ _=>rfl)
 have h01:∀ k,g1 0 k=0:=fun k=>by rw[hoth 0 k (.inl (Ne.symm h1))];exact h0 k
 have hc:Chn g1 (nN V S) (g1 x 2) (us.map Fr.x):=Qgx hu1 h1 (fun f hf=>(hus f hf).2) (by rw[show (Tp.node l x r).root=x from rfl,<-hr,hoth _ _ (.inr (by decide))];exact hg)
 have hrk:Qe4 V S (us.map Fr.x):=by
  clear hc hu1 hu e hr hul hz hnd
  induction us with
  |nil=>trivial
  |cons f us ih=>exact⟨⟨(hus f (List.mem_cons_self ..)).1,(hus f (List.mem_cons_self ..)).2⟩,ih fun f' hf'=>hus f' (List.mem_cons_of_mem _ hf')⟩
 refine(QnT (x:=x) A hk ⟨by omega,h2⟩ hg1 hc (by rw[List.length_map];show _<=nN V S;omega) hrk (show m<=99980000 by omega)).mono ?_
 rintro e' w' ⟨rfl,A',O'⟩
 have h5:∀ y,Qb1 (vxN V) g1 (us.map Fr.x) y 5=g y 5:=fun y=>by rw[Qa6 (.inr (by decide)),hoth _ _ (.inr (by decide))]
 refine⟨_,rfl,A',h5,?_,O'⟩;have hp:ts.Perm ([t]++wo i i 0 ts):=QW (Nat.zero_le _) hi
 have hx:x∈t.row:=by rw[e];exact QdN (by simp [Tp.row])
 have hL:=QgE hm' hu1 hl1 h1 h01 hnd hz;rw[<-e] at hL;refine(hF.swap (N:=[t]) (mk':=Q9 mk x k on) (g':=Qb1 (vxN V) g1 (us.map Fr.x)) hp (List.Perm.refl _) ?_ ?_ h5 hm' ?_).perm ((List.perm_append_comm).trans hp.symm)
 . intro t' ht'
   have:t'=t:=by simpa using ht'
   subst this
   exact⟨⟨hL,fun h=>by rw[Qa6 (.inr (by decide)),hoth _ _ (.inr (by decide))];exact hg⟩,a2,a3⟩
 . intro y hy j
   rw[Qba] at hy
   have hyx:y≠x:=fun e=>hy (by rw[e];exact hx)
   have hyu:y∉us.map Fr.x:=fun hyu=>by
    obtain⟨f,hf,rfl⟩:=List.mem_map.1 hyu
    exact hy (by rw[e];exact QcB hf)
   rw[Qa6 (.inl hyu),hoth _ _ (.inl hyx)]
 . intro y hy
   rw[Qba] at hy
   exact hmo y fun e=>hy (by rw[e];exact hx)
end
def QfW (w:World)(a:Option Addr)(len:Nat)(f:Nat->Nat):Prop:=
 0<len->∃ b off,a=some (I1 b off)/\∀ k,k<len->w.cell? (I1 b (off+k))=some (I2 (f k:Int))/\f k<=18446744073709551615
theorem QfW.below {w w':World}{a:Option Addr}{len:Nat}{f:Nat->Nat}(h:QfW w a len f)(hb:Below w.heap.size w w'):QfW w' a len f:=fun h0=>by
 obtain⟨b,off,e,hc⟩:=h h0
 exact⟨b,off,e,fun k hk=>⟨Qi hb (hc k hk).1,(hc k hk).2⟩⟩
theorem Qlh:(Tryz.prog.info? 4).map (fun i=>(i.zero,i.size,i.bytes))=some (some (.bool false),1,1):=by kernel_rfl
def sgl (x:Nat):Tp:=.node .nil x .nil
def sing (k:Nat):List Tp:=(List.range' 1 k).map sgl
theorem Qfg (k:Nat):(sing k).flatMap Tp.row=List.range' 1 k:=by
 unfold sing;rw[List.flatMap_map]
 have:(fun x=>(sgl x).row)=fun x=>[x]:=rfl
 rw[this]
 induction (List.range' 1 k) with
 |nil=>rfl
 |cons x l ih=>rw[List.flatMap_cons,ih];rfl
theorem QjP {k:Nat}{t:Tp}(h:t∈sing k):∃ x,1<=x/\x<=k/\t=sgl x:=by
 unfold sing at h;obtain⟨x,hx,rfl⟩:=List.mem_map.1 h;obtain⟨i,hi,rfl⟩:=List.mem_range'.1 hx
 exact⟨_,by omega,by omega,rfl⟩
section
variable {V S T:Int}{g:Mg9}{w w':World}{p gb cap m:Nat}{mk:Nat->Nat}{vx:Nat->Bool}
theorem Qas {x y:Nat}(j:Nat)(h:y≠x):QaU vx g x y j=g y j:=by
 unfold QaU;rw[QI _ _ _ _ h,Qq _ _ _ h,Qh _ _ _ _ h,Qh _ _ _ _ h]
theorem QhK {x y:Nat}:QaU vx g x y 5=g y 5:=by
 unfold QaU;rw[Qs _ _ _ _ _ (by decide),Qb _ _ _ _ (by decide),Qp _ _ _ _ (by decide),Qp _ _ _ _ (by decide)]
theorem Qbz {x:Nat}(hx:x≠0)(h0:∀ k,g 0 k=0):Q7 vx (fun _=>0) (QaU vx g x) (sgl x):=by
 have g0:∀ k,setP (up2 (up2 g x 3 0) x 4 0) x 0 0 k=0:=fun k=>by rw[Qq _ _ _ (Ne.symm hx),Qh _ _ _ _ (Ne.symm hx),Qh _ _ _ _ (Ne.symm hx)];exact h0 k
 refine⟨QaE (mk:=fun _=>0) (fun _=>Nat.zero_lt_succ 3) g0 (l:=.nil) (r:=.nil) (by simp [Tp.row]) (by simp [Tp.size,Tp.row]) ?_ ?_ (fun h=>absurd rfl h) (fun h=>absurd rfl h) trivial trivial,fun _=>?_⟩
 . rw[Qb _ _ _ _ (by decide),Qp _ _ _ _ (by decide),Qaf];rfl
 . rw[Qb _ _ _ _ (by decide),Qaf];rfl
 . show QaU vx g x x 2=0
   unfold QaU
   rw[Qs _ _ _ _ _ (by decide),Qbo _ _ hx]
theorem TM.new (hR:Rt V S T){cap:Nat}(A:Ar w p gb (QaT V S T) cap QcJ QcJ):TM w V S T p gb cap 0 (fun _ _=>0):=
 ⟨hR,QcJ,QcJ,A,fun _=>⟨Int.le_refl _,Int.le_refl _⟩,⟨fun _=>rfl,fun _ _ _ _ _ _=>rfl,fun _ _ _ _=>rfl,fun _ _ _ _=>⟨by rfl,by rfl⟩,fun _ _=>⟨Nat.zero_le _,Nat.zero_le _,Nat.zero_le _⟩,fun _ _=>rfl⟩⟩
theorem QlW (A:TM w V S T p gb cap m g){x v:Nat}(h1:1<=x)(h2:x<=nN V S)(hv:v<=18446744073709551615)(hm:m<=100000000):
 Calls Tryz.prog 34 #[.pointer (some (I1 p 0)),I (cN V S T x 5:Int),I2 (v:Int)] w (Did V S T p gb cap (m+1) (up2 g x 5 v) (I 0) w):=by
 obtain⟨c,f,Aa,C,r⟩:=A.ar
 refine(Qfa Aa (QfQ A.hR h1 h2 (by omega)) (v:=(v:Int)) (by omega) (by omega) C hm).mono ?_
 rintro e w' ⟨rfl,A1,O1⟩
 exact⟨rfl,⟨A.hR,_,_,A1,C.upd 1,r.store A.hR h1 h2 (by omega) (by omega) (fun h=>by omega)⟩,O1⟩
theorem Qb9 (hR:Rt V S T):QaT V S T<=16384/\((QaT V S T:Nat):Int)=cn V S T:=by
 have z:=sizes hR;have a1:=z.vn1;have a2:=z.vn2;have a3:=z.pr1;have a4:=z.pr2;have a5:=z.nd1;have a6:=z.nd2;have b1:=hR.s1;have b2:=hR.s2;have b3:=hR.t1;have b4:=hR.t2;unfold QaT cn;omega
end
section
variable {w w' W W' w0:World}{V S T:Int}{zb l3 q p gb cap m m' pb mb vb cp cm cv fb dl dc n x pr:Nat}{da:Option Addr}{vo vr vr':Value}{g g':Mg9}{P P':Nat->Nat}{vx vx':Nat->Bool}{vs vs':List Value}{ts ts':List Tp}
theorem Qnf (hR:Rt V S T)(w:World):Calls Tryz.prog 33 #[vL V S T] w fun e w'=>e=.returned (I (nN V S:Int))/\Below w.heap.size w w':=by
 rw[Q0 hR];exact Q3 V S T hR w
theorem lnew (hR:Rt V S T)(w:World):Calls Tryz.prog 30 #[I (cn V S T)] w fun e w'=>e=.returned (.tuple #[.pointer (some ⟨w.heap.size+1,0,none⟩),I 0])/\Ar w' (w.heap.size+1) w.heap.size (QaT V S T) (QaT V S T) QcJ QcJ/\Below w.heap.size w w':=by
 rw[<-(Qb9 hR).2];exact QlQ _ w (Qb9 hR).1
theorem QlB (hs:∀ y,1<=y->y<nN V S+1->Q7 (vxN V) (fun _=>0) g (sgl y)):FI V S g (fun _=>0) (sing (nN V S)):=by
 refine⟨fun _=>by decide,fun t ht=>?_,?_,fun x=>?_⟩
 . obtain⟨x,h1,h2,rfl⟩:=QjP ht
   exact⟨hs x h1 (by omega),⟨(fun y hy=>by cases hy),(fun y hy=>by cases hy),trivial,trivial⟩,(by unfold sgl;exact fun e=>nomatch e)⟩
 . rw[Qfg];exact List.nodup_range'
 . rw[<-List.mem_flatMap,Qfg,List.mem_range'_1];omega
end
end Go.Proofs.YtaooglagddphnaaGreat
