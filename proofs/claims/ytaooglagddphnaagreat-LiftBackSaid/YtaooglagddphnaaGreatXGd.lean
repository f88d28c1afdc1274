/- Gd -/
import Derived.Test.YtaooglagddphnaaGreatXGa
import Derived.Test.YtaooglagddphnaaGreatXZB
import Derived.Maps.AppendAt
import Derived.Test.YtaooglagddphnaaGreatXZA
import Derived.Laws.OwnMore
import Derived.Deep.OwnRows
import Derived.OwnWalk
import Derived.Deep.AppendLies
import Derived.DeepKeys3
import Derived.BigQuiet
namespace Go.Proofs.YtaooglagddphnaaGreat
open Go.RowKit
set_option maxRecDepth 100000
def E1.cells (x:E1):List Value:=[I (x.s:Int),I (x.u:Int),I (x.v:Int),I (x.l:Int),.bool x.t]
def Qu:List E1->List Value
 |[]=>[]
 |x :: xs=>x.cells++Qu xs
theorem QfF (xs ys:List E1):Qu (xs++ys)=Qu xs++Qu ys:=by
 induction xs with
 |nil=>rfl
 |cons x xs ih=>simp [Qu,ih]
theorem Qi1 (x:E1):Qu [x]=x.cells:=by simp [Qu]
theorem Qc6 (xs:List E1):(Qu xs).length=xs.length*5:=by
 induction xs with
 |nil=>rfl
 |cons x xs ih=>simp [Qu,E1.cells,ih];omega
theorem Qi2 (xs:List E1){k:Nat}{x:E1}(h:xs[k]?=some x):
 (Qu xs)[k*5]?=some (I (x.s:Int))/\(Qu xs)[k*5+1]?=some (I (x.u:Int))/\(Qu xs)[k*5+2]?=some (I (x.v:Int))/\(Qu xs)[k*5+3]?=some (I (x.l:Int))/\(Qu xs)[k*5+4]?=some (.bool x.t):=by
 induction xs generalizing k with
 |nil=>simp at h
 |cons y ys ih=>
  cases k with
  |zero=>simp at h;subst h;simp [Qu,E1.cells]
  |succ k=>
   have h':=ih (k:=k) (by simpa using h)
   have e:(k+1)*5=k*5+5:=by omega
   rw[e,show k*5+5+1=(k*5+1)+5 by omega,show k*5+5+2=(k*5+2)+5 by omega,show k*5+5+3=(k*5+3)+5 by omega,show k*5+5+4=(k*5+4)+5 by omega]
   simp only[Qu,E1.cells,List.cons_append,List.nil_append,List.getElem?_cons_succ];exact h'
theorem QhD (xs:List E1):∀ u∈Qu xs,u.oneCell'=true:=by
 induction xs with
 |nil=>intro u hu;cases hu
 |cons x xs ih=>
  intro u hu;simp only[Qu,E1.cells,List.cons_append,List.nil_append,List.mem_cons] at hu
  rcases hu with rfl|rfl|rfl|rfl|rfl|hu
  . rfl
  . rfl
  . rfl
  . rfl
  . rfl
  . exact ih u hu
theorem Qge:(Tryz.prog.info? 56).map (fun i=>(i.zero,i.size,i.bytes))=some (some (.agg #[I 0,I 0,I 0,I 0,.bool false]),5,40):=by kernel_rfl
def EW (w:World)(base:Nat)(v:Value)(l:List E1):Prop:=w.ownsRow base 56 5 v l.length (Qu l)
section
variable {w w':World}{base:Nat}{v:Value}{l l2:List E1}
theorem EW.nil (w:World)(base:Nat):EW w base (.slice none 0 0) []:=World.ownsRow_nil _ _ _ _
theorem EW.empty (w:World):EW (w.alloc (.cells #[] 56)) w.heap.size (I3 (I1 w.heap.size 0) 0 0) []:=
 ⟨rfl,.inr ⟨_,0,#[],rfl,Nat.le_refl _,Blk.new w _ _,Nat.le_refl _,by simp [maxLen],rfl,rfl⟩⟩
theorem EW.lt (h:EW w base v l):∀ k,v.ownBlock=some k->base<=k/\k<w.heap.size:=World.ownsRow.lt h
theorem EW.alloc (h:EW w base v l)(o:Obj):EW (w.alloc o) base v l:=World.ownsRow.alloc h o
theorem EW.kept_of (h:EW w base v l)(hb:∀ i,v.ownBlock=some i->w'.heap[i]?=w.heap[i]?):EW w' base v l:=by
 refine⟨h.1,?_⟩
 rcases h.2 with hn|⟨g,cap,cur,rfl,hg,hgg,rest⟩
 . exact .inl hn
 . exact .inr ⟨g,cap,cur,rfl,hg,(hb g rfl).trans hgg,rest⟩
theorem EW.below (h:EW w base v l)(hb:Below w.heap.size w w'):EW w' base v l:=h.kept_of fun i hi=>hb.block i (h.lt i hi).2
theorem EW.drew (h:EW w base v l):EW w.drew base v l:=h
theorem EW.less {base':Nat}(h:EW w base v l)(hb:base'<=base):EW w base' v l:=by
 refine⟨h.1,?_⟩
 rcases h.2 with hn|⟨g,cap,cur,rfl,hg,hgg,rest⟩
 . exact .inl hn
 . exact .inr ⟨g,cap,cur,rfl,Nat.le_trans hb hg,hgg,rest⟩
theorem EW.shape (h:EW w base v l):(v=.slice none 0 0/\l=[])\/∃ g cap cs,v=I3 (I1 g 0) l.length cap/\base<=g/\Blk w g 56 cs/\l.length<=cap/\cap<=maxLen/\
 (cs.size=cap*5/\cs.toList.take (l.length*5)=Qu l)/\
 ∀ k x,l[k]?=some x->cs[k*5]?=some (I (x.s:Int))/\cs[k*5+1]?=some (I (x.u:Int))/\cs[k*5+2]?=some (I (x.v:Int))/\cs[k*5+3]?=some (I (x.l:Int))/\cs[k*5+4]?=some (.bool x.t):=by
 rcases h.2 with ⟨rfl,h0⟩|⟨g,cap,cur,rfl,hg,hgg,h1,h2,h3,h4⟩
 . exact .inl ⟨rfl,List.eq_nil_of_length_eq_zero h0⟩
 . refine .inr ⟨g,cap,cur,rfl,hg,hgg,h1,h2,⟨h3,h4⟩,fun k x hx=>?_⟩
   have hf:=Qi2 l hx;have hk:=(List.getElem?_eq_some_iff.1 hx).1
   have he:∀ j,j<l.length*5->cur[j]?=(Qu l)[j]?:=fun j hj=>by
    rw[<-h4,List.getElem?_take_of_lt hj,Array.getElem?_toList]
   rw[he _ (by omega),he _ (by omega),he _ (by omega),he _ (by omega),he _ (by omega)]
   exact hf
theorem EW.slice (h:EW w base v l):∃ a cap,v=.slice a l.length cap:=by
 rcases h.shape with ⟨rfl,rfl⟩|⟨g,cap,cs,rfl,_⟩
 . exact⟨none,0,rfl⟩
 . exact⟨_,cap,rfl⟩
theorem EW.at {k:Nat}{x:E1}(h:EW w base v l)(hk:l[k]?=some x):∃ g cap,v=I3 (I1 g 0) l.length cap/\base<=g/\g<w.heap.size/\(∀ i,w.frozen? (I1 g i)=false)/\w.cell? (I1 g (k*5))=some (I (x.s:Int))/\w.cell? (I1 g (k*5+1))=some (I (x.u:Int))/\w.cell? (I1 g (k*5+2))=some (I (x.v:Int))/\w.cell? (I1 g (k*5+3))=some (I (x.l:Int))/\w.cell? (I1 g (k*5+4))=some (.bool x.t):=by
 rcases h.shape with ⟨rfl,rfl⟩|⟨g,cap,cs,rfl,hb,hz,_,_,_,hc⟩
 . simp at hk
 . obtain⟨a,b,c,d,e⟩:=hc k x hk
   exact⟨g,cap,rfl,hb,hz.lt,hz.frozen,(hz.cell _).trans a,(hz.cell _).trans b,(hz.cell _).trans c,(hz.cell _).trans d,(hz.cell _).trans e⟩
theorem Qcl (h:EW w base v l)(ad:Addr)(n c:Nat)(hn:n=l2.length)(hc:∀ (j:Nat) (u:Value),(Qu l2)[j]?=some u->w.cell? (ad.add j)=some u)(hl:l.length+l2.length<=100000)(hb:base<=w.heap.size)(ty:TypeId):
 ∃ v' w',(Builtin.append_ #[52,52] ty #[v,.slice (some ad) n c]).run Tryz.prog w=.ok v' w'/\EW w' base v' (l++l2)/\w.grownBy w' v.ownBlock:=by
 obtain⟨i0,hi0,hz0,hz1,hz2⟩:=info_parts Qge;subst hn
 obtain⟨v',w',hrun,h1,h2,_⟩:=run_append_own_at (P:=Tryz.prog) w base 52 ty 56 i0 _ 5 40 Tryz.underlying52 hi0 hz0 hz1 hz2 rfl (by omega) v l.length (Qu l) h ad l2.length c (Qu l2) (Qc6 l2) hc (QhD l2) (by simp only[maxLen];omega) (by omega) hb
 refine⟨v',w',hrun,?_,h2⟩;unfold EW;rw[List.length_append,QfF];exact h1
theorem QL {ops:Array Oper}{o:Oper}{a:Act}{K:Act->World->Prop}{Q:Exit->Act->World->Prop}{E:Prop}(hgd:o.guard=none)(s x:Operand)
 (ho:o.op=.call { callee:=.builtin .append,args:=#[s,x],argTypes:=#[52,52]})
 (hs:a.eval s=v) (h:EW w base v l) (ad:Addr) (n c:Nat) (hn:n=l2.length) (hv:a.eval x=.slice (some ad) n c) (hc:∀ (j:Nat) (u:Value),(Qu l2)[j]?=some u->w.cell? (ad.add j)=some u) (hl:l.length+l2.length<=100000) (hb:base<=w.heap.size)
 (hK:∀ v' w',EW w' base v' (l++l2)->w.grownBy w' v.ownBlock->K (a.put o.dst v') w'):
 if Region.wanted o (yielded ops a.tmps)=true then Oper.wp Tryz.prog o a w K Q else E:=by
 have hw:Region.wanted o (yielded ops a.tmps)=true:=by simp [Region.wanted,hgd]
 rw[if_pos hw];obtain⟨v',w',hr,h2,h3⟩:=Qcl h ad n c hn hc hl hb o.type;unfold Oper.wp execOp;simp only[ho,resolve,invoke,builtin,Sem.run_bind,Sem.run_pure,Result.andThen_ok,List.map_toArray,List.map_cons,List.map_nil,hs,hv,hr];exact hK v' w' h2 h3
theorem Qc8 {ops:Array Oper}{rest:List Oper}{o:Oper}{a:Act}{Q:Exit->Act->World->Prop}(hgd:o.guard=none)(s x:Operand)
 (ho:o.op=.call { callee:=.builtin .append,args:=#[s,x],argTypes:=#[52,52]})
 (hs:a.eval s=v) (h:EW w base v l) (ad:Addr) (n c:Nat) (hn:n=l2.length) (hv:a.eval x=.slice (some ad) n c) (hc:∀ (j:Nat) (u:Value),(Qu l2)[j]?=some u->w.cell? (ad.add j)=some u) (hl:l.length+l2.length<=100000) (hb:base<=w.heap.size)
 (hK:∀ v' w',EW w' base v' (l++l2)->w.grownBy w' v.ownBlock->wpList Tryz.prog ops Q rest (a.put o.dst v') w'):wpList Tryz.prog ops Q (o :: rest) a w:=by
 refine wpList_plain hgd fun _ hK'=>?_
 obtain⟨v',w',hrun,h2,h3⟩:=Qcl h ad n c hn hc hl hb o.type;unfold Oper.wp execOp;simp only[ho,resolve,invoke,builtin,Sem.run_bind,Sem.run_pure,Result.andThen_ok,List.map_toArray,List.map_cons,List.map_nil,hs,hv,hrun];exact hK' _ _ (hK v' w' h2 h3)
end
theorem Qiq (w:World)(x:E1):∀ (j:Nat) (u:Value),(Qu [x])[j]?=some u->(w.alloc (.cells #[I (x.s:Int),I (x.u:Int),I (x.v:Int),I (x.l:Int),.bool x.t] 56)).cell? (((I1 w.heap.size 0):Addr).add j)=some u:=by
 intro j u hj;rw[Addr.add_lit,Nat.zero_add,(Blk.new w _ _).cell];rw[Qi1] at hj;rw[<-hj,<-Array.getElem?_toList];rfl
theorem QbI {w:World}{base:Nat}{v:Value}{l:List E1}(h:EW w base v l):∃ a n c,v=.slice a n c/\EW w base (.slice a n c) l:=by
 obtain⟨a,c,e⟩:=h.slice;subst e;exact⟨a,_,c,rfl,h⟩
structure Nm where
 k:Int
 a:Int
 b:Int
 c:Int
def flat:List Nm->List Value
 |[]=>[]
 |m :: r=>I m.k :: I m.a :: I m.b :: I m.c :: flat r
theorem QfE:∀ l:List Nm,(flat l).length=l.length*4
 |[]=>rfl
 |_ :: r=>by simp only[flat,List.length_cons,QfE r];omega
theorem QdH:∀ l r:List Nm,flat (l++r)=flat l++flat r
 |[],_=>rfl
 |m :: l,r=>by simp only[flat,List.cons_append,QdH l r]
theorem QfD:∀ (l:List Nm),∀ u∈flat l,u.oneCell'=true
 |[],_,h=>by cases h
 |m :: r,u,h=>by
  simp only[flat,List.mem_cons] at h
  rcases h with rfl|rfl|rfl|rfl|h
  . rfl
  . rfl
  . rfl
  . rfl
  . exact QfD r u h
theorem Qi0:∀ (l:List Nm) (k:Nat) (m:Nm),l[k]?=some m->(flat l)[k*4]?=some (I m.k)/\(flat l)[k*4+1]?=some (I m.a)/\(flat l)[k*4+2]?=some (I m.b)/\(flat l)[k*4+3]?=some (I m.c)
 |[],k,m,h=>by simp at h
 |x :: r,0,m,h=>by
  simp only[List.getElem?_cons_zero,Option.some.injEq] at h;subst h;exact⟨rfl,rfl,rfl,rfl⟩
 |x :: r,k+1,m,h=>by
  simp only[List.getElem?_cons_succ] at h;have:=Qi0 r k m h
  rw[show (k+1)*4=k*4+1+1+1+1 by omega]
  simpa [flat,List.getElem?_cons_succ,show k*4+1+1+1+1+1=(k*4+1)+1+1+1+1 by omega,show k*4+1+1+1+1+2=(k*4+2)+1+1+1+1 by omega,show k*4+1+1+1+1+3=(k*4+3)+1+1+1+1 by omega] using this
def Row (w:World)(base:Nat)(v:Value)(l:List Nm):Prop:=w.ownsRow base 114 4 v l.length (flat l)
theorem QjV (w:World)(base:Nat):Row w base (.slice none 0 0) []:=World.ownsRow_nil w base _ _
theorem Row.below {w w':World}{base:Nat}{v:Value}{l:List Nm}(h:Row w base v l)(hb:Below w.heap.size w w'):Row w' base v l:=
 World.ownsRow.kept (row:=none) h ⟨hb.os,hb.tape,hb.output,hb.size,fun i hi _=>hb.block i hi⟩ (by cases e:v.ownBlock with|none=>exact .inl rfl|some _=>exact .inr (by simp))
theorem Row.alloc {w:World}{base:Nat}{v:Value}{l:List Nm}(h:Row w base v l)(o:Obj):Row (w.alloc o) base v l:=World.ownsRow.alloc h o
theorem QiP:(Tryz.prog.info? 114).map (fun i=>(i.zero,i.size,i.bytes))=some (some (.agg #[I 0,I 0,I 0,I 0]),4,32):=by kernel_rfl
theorem Qg {w:World}{ops:Array Oper}{rest:List Oper}{o:Oper}{ac:Act}{Q:Exit->Act->World->Prop}(hgd:o.guard=none)(s x:Operand)
 (ho:o.op=.call { callee:=.builtin .append,args:=#[s,x],argTypes:=#[64,64]})
 (base:Nat) (v:Value) (l ns:List Nm) (hs:ac.eval s=v) (hown:Row w base v l) (b m:Nat) (hx:ac.eval x=I3 (I1 b 0) m m) (hm:ns.length=m)
 (hb:Blk w b 114 (flat ns).toArray) (few:l.length+m<=100000) (hbase:base<=w.heap.size)
 (h:∀ v' w',Row w' base v' (l++ns)->Below base w w'->wpList Tryz.prog ops Q rest (ac.put o.dst v') w'):
 wpList Tryz.prog ops Q (o :: rest) ac w:=by
 obtain⟨i0,hi0,hz0,hz1,hz2⟩:=info_parts QiP
 refine wpList_append_own_at w hgd s x 64 ho base 114 i0 _ 4 32 Tryz.underlying64 hi0 hz0 hz1 hz2 rfl (by omega) v l.length (flat l) hs hown (I1 b 0) m m (flat ns) hx (by rw[QfE,hm]) ?_ (QfD ns) (by simp only[maxLen];omega) (by omega) hbase ?_
 . intro j u hj
   rw[Addr.add_lit,Nat.zero_add,hb.cell j,List.getElem?_toArray];exact hj
 . intro v' w' h2 h3 _ _
   refine h v' w' ?_ ((Below.refl base w).grown h3 hbase (fun k hk=>(hown.lt k hk).1))
   unfold Row;rw[List.length_append,QdH,hm];exact h2
def NmAt (W:World)(g k:Nat)(m:Nm):Prop:=W.cell? (I1 g (k*4))=some (I m.k)/\W.cell? (I1 g (k*4+1))=some (I m.a)/\W.cell? (I1 g (k*4+2))=some (I m.b)/\W.cell? (I1 g (k*4+3))=some (I m.c)
theorem NmAt.below {W W':World}{B g k:Nat}{m:Nm}(h:NmAt W g k m)(hb:Below B W W')(hg:g<B):NmAt W' g k m:=
 ⟨(hb.cell (p:=(I1 g (k*4))) hg).trans h.1,(hb.cell (p:=(I1 g (k*4+1))) hg).trans h.2.1,(hb.cell (p:=(I1 g (k*4+2))) hg).trans h.2.2.1,(hb.cell (p:=(I1 g (k*4+3))) hg).trans h.2.2.2⟩
def Out (P:Nm->Nat->Prop)(l:List Nm):Prop:=∀ k m,l[k]?=some m->P m k
theorem QlN (P:Nm->Nat->Prop):Out P []:=fun k m h=>by simp at h
theorem Out.snoc {P:Nm->Nat->Prop}{l:List Nm}(h:Out P l){m:Nm}(hm:P m l.length):Out P (l++[m]):=by
 intro k x hk
 rcases Nat.lt_trichotomy k l.length with c|c|c
 . rw[List.getElem?_append_left c] at hk;exact h k x hk
 . subst c;simp at hk;subst hk;exact hm
 . rw[List.getElem?_append_right (by omega),List.getElem?_eq_none (by simp;omega)] at hk;cases hk
theorem Out.two {P:Nm->Nat->Prop}{l:List Nm}(h:Out P l){m m':Nm}(hm:P m l.length)(hm':P m' (l.length+1)):Out P (l++[m,m']):=by
 have:=(h.snoc hm).snoc (m:=m') (by simpa using hm')
 simpa using this
def Qmv (P:Nm->Nat->Prop)(n:Nat)(w:World)(e:Ending)(w':World):Prop:=
 ∃ (g cap:Nat) (f:Nat->Nm),e=.returned (I3 (I1 g 0) n cap)/\n<=cap/\w.heap.size<=g/\g<w'.heap.size/\(∀ k,k<n->NmAt w' g k (f k)/\P (f k) k)/\Below w.heap.size w w'
theorem QgJ {P:Nm->Nat->Prop}{w w':World}{base:Nat}{v:Value}{l:List Nm}(h:Row w' base v l)(hb:w.heap.size<=base)(hn:0<l.length)(ho:Out P l)(hw:Below w.heap.size w w'):Qmv P l.length w (.returned v) w':=by
 obtain⟨_,⟨_,h0⟩|⟨g,cap,cur,rfl,hg,hh,hc,_,hcs,htake⟩⟩:=h
 . omega
 . have hgl:g<w'.heap.size:=Blk.lt (w:=w') (t:=114) (cs:=cur) hh
   refine⟨g,cap,fun k=>(l[k]?).getD ⟨0,0,0,0⟩,rfl,hc,by omega,hgl,fun k hk=>?_,hw⟩
   have e:l[k]?=some l[k]:=List.getElem?_eq_getElem hk
   have e2:(fun k=>(l[k]?).getD ⟨0,0,0,0⟩) k=l[k]:=by simp only[e,Option.getD_some]
   have cell:∀ j u,j<l.length*4->(flat l)[j]?=some u->w'.cell? (I1 g j)=some u:=by
    intro j u hj hu;rw[Blk.cell (w:=w') (t:=114) (cs:=cur) hh,<-Array.getElem?_toList,<-List.getElem?_take_of_lt hj,htake];exact hu
   have q:=Qi0 l k _ e;rw[e2]
   exact⟨⟨cell _ _ (by omega) q.1,cell _ _ (by omega) q.2.1,cell _ _ (by omega) q.2.2.1,cell _ _ (by omega) q.2.2.2⟩,ho k _ e⟩
def Made (P:Nm->Nat->Prop)(w:World)(V S T n:Int)(v:Value)(W:World):Prop:=
 ∃ l:List Nm,(l.length:Int)=n/\Out P l/\Row W (w.heap.size+1) v l/\Blk W w.heap.size 63 #[I V,I S,I T]/\Below w.heap.size w W
section
variable {P:Nm->Nat->Prop}{w W W':World}{V S T n:Int}{v:Value}
theorem Made.blk (h:Made P w V S T n v W):Blk W w.heap.size 63 #[I V,I S,I T]:=by
 obtain⟨l,_,_,_,b,_⟩:=h;exact b
theorem Made.c0 (h:Made P w V S T n v W):W.cell? (I1 w.heap.size 0)=some (I V):=h.blk.cell 0
theorem Made.c1 (h:Made P w V S T n v W):W.cell? (I1 w.heap.size 1)=some (I S):=h.blk.cell 1
theorem Made.c2 (h:Made P w V S T n v W):W.cell? (I1 w.heap.size 2)=some (I T):=h.blk.cell 2
theorem Made.lt (h:Made P w V S T n v W):w.heap.size<W.heap.size:=h.blk.lt
theorem Made.start:Made P w V S T 0 (.slice none 0 0) (w.alloc (.cells #[I V,I S,I T] 63)):=
 ⟨[],rfl,QlN P,QjV _ _,Blk.new _ _ _,(Below.refl _ _).alloc (Nat.le_refl _) _⟩
theorem Made.later (h:Made P w V S T n v W)(hb:Below W.heap.size W W'):Made P w V S T n v W':=by
 obtain⟨l,e,o,r,b,k⟩:=h;exact⟨l,e,o,r.below hb,b.below hb b.lt,QK k hb (Nat.le_of_lt b.lt)⟩
theorem Made.eq (h:Made P w V S T n v W){m:Int}(e:n=m):Made P w V S T m v W:=e ▸ h
end
def Qn (V S:Int)(m:Nm)(k:Nat):Prop:=
 (m.k=1/\m.c=0/\0<=m.a/\m.a<lv V/\0<=m.b/\m.b<V/\(k:Int)=m.a*V+m.b)\/
 (m.k=2/\0<=m.a/\m.a<S/\0<=m.b/\m.b<lv V/\(m.c=0\/m.c=1)/\(k:Int)=vn V+m.a*sn V+2*m.b+m.c)
theorem Qis {k V L:Int}(h0:0<=k)(h1:k<=L)(hV:0<=V):0<=k*V/\k*V<=L*V:=⟨Int.mul_nonneg h0 hV,Int.mul_le_mul_of_nonneg_right h1 hV⟩
set_option maxRecDepth 100000 in
set_option maxHeartbeats 4000000 in
theorem QcR (V S T:Int)(h:Rt V S T)(w:World):
 Calls Tryz.prog 102 #[vL V S T] w (Qmv (Qn V S) (nd V S).toNat w):=by
 have H:=q9 h;have v1:=h.v1;have v2:=h.v2;have s1:=h.s1;have s2:=h.s2;have z:=sizes h;have l1:=z.l1;have l2:=z.l2;have HZ:=q9 z;clear h z
 go_enter Tryz.func102,Tryz.ntmps102
 go_wp2_with fail
 go_loopw [3,4] (fun v i wr=>∃ k:Int,0<=k/\k<=lv V/\i=I k/\Made (Qn V S) w V S T (k*V) v wr) (fun _ i _=>(lv V-intOf i).toNat)
 case atStart=>exact⟨0,by omega,by omega,rfl,Made.start.eq (by simp)⟩
 case round=>
  obtain⟨k,k0,k1,rfl,hM⟩:=hrel;obtain⟨wo,rfl⟩:∃ wo:World,wo=wr:=⟨_,rfl⟩;have c0:=hM.c0;have c1:=hM.c1;have c2:=hM.c2;have hz:=hM.lt;have HM:=q9 hM;clear hM
  by_cases hk:k<lv V
  . go_wp2_with fail
    refine(QH V S T H _).mono ?_;rintro e w1 ⟨rfl,b1⟩;have hM1:=q9 (HM.later b1);clear c0 c1 c2 hz HM b1;go_wp2_with fail
    go_loopw [3,5] (fun v j wr=>∃ j':Int,0<=j'/\j'<=V/\j=I j'/\Made (Qn V S) w V S T (k*V+j') v wr) (fun _ j _=>(V-intOf j).toNat)
    case atStart=>exact⟨0,by omega,by omega,rfl,hM1.out.eq (by omega)⟩
    case round=>
     clear hM1;obtain⟨j,j0,j1,rfl,hM⟩:=hrel;have c0:=hM.c0;have c1:=hM.c1;have c2:=hM.c2;have HM:=q9 hM;clear hM
     by_cases hj:j<V
     . obtain⟨l,hl,ho,hrow,hblk,hbel⟩:=HM.out
       have few:l.length<=1000:=by
        have:=Qis k0 k1 (show 0<=V by omega)
        have:=HZ.vn2;unfold vn at this;omega
       have HL:=q9 hl;clear hl
       go_wp2_with (at_builtin;refine Qg rfl (.tmp 20) (.tmp 24) rfl (w.heap.size+1) _ l [⟨1,k,j,0⟩] rfl (hrow.alloc _) wr.heap.size 1 rfl rfl (Blk.new _ _ _) (by omega) (by have:=hblk.lt;simp;omega) ?_;intro v' w2 hrow2 hb2)
       go_roundw
       case rel=>
        refine⟨j+1,by omega,by omega,rfl,l++[⟨1,k,j,0⟩],by have:=HL.out;simp;omega,ho.snoc (.inl ⟨rfl,rfl,k0,hk,j0,hj,HL.out⟩),hrow2,(hblk.alloc _).below hb2 (by omega),?_⟩
        exact(hbel.alloc (Nat.le_of_lt hblk.lt) _).trans (hb2.mono (by omega))
       case measure=>simp [intOf];omega
     . have e:j=V:=by omega
       subst e;go_wp2_with fail
       go_roundw
       case rel=>exact⟨k+1,by omega,by omega,rfl,HM.eq (by rw[Int.add_mul];omega)⟩
       case measure=>simp [intOf];omega
  . have e:k=lv V:=by omega
    subst e;go_wp2_with fail
    refine(QH V S T H _).mono ?_;rintro e w1 ⟨rfl,b1⟩;have hM1:=q9 (HM.later b1);clear c0 c1 c2 hz HM b1;go_wp2_with fail
    go_loopw [3,6] (fun v i wr=>∃ s:Int,0<=s/\s<=S/\i=I s/\Made (Qn V S) w V S T (vn V+s*sn V) v wr) (fun _ i _=>(S-intOf i).toNat)
    case atStart=>exact⟨0,by omega,by omega,rfl,hM1.out.eq (by unfold vn;simp)⟩
    case round=>
     clear hM1;obtain⟨s,a0,a1,rfl,hM⟩:=hrel;have c0:=hM.c0;have c1:=hM.c1;have c2:=hM.c2;have HM:=q9 hM;clear hM
     by_cases hs:s<S
     . go_wp2_with fail
       go_loopw [3,7] (fun v j wr=>∃ j':Int,0<=j'/\j'<=lv V/\j=I j'/\Made (Qn V S) w V S T (vn V+s*sn V+2*j') v wr) (fun _ j _=>(lv V-intOf j).toNat)
       case atStart=>exact⟨0,by omega,by omega,rfl,HM.eq (by omega)⟩
       case round=>
        clear HM c0 c1 c2;obtain⟨j,j0,j1,rfl,hM⟩:=hrel;have c0:=hM.c0;have c1:=hM.c1;have c2:=hM.c2;have HM:=q9 hM;clear hM
        by_cases hj:j<lv V
        . go_wp2_with fail
          refine(QH V S T H _).mono ?_;rintro e w1 ⟨rfl,b1⟩;have hM1:=HM.later b1;clear c0 c1 c2 HM b1;obtain⟨l,hl,ho,hrow,hblk,hbel⟩:=hM1
          have few:l.length<=1000:=by
           have:=Qis a0 a1 (show 0<=sn V by have:=HZ.sn1;omega)
           have:=HZ.vn2;have:=HZ.ss2;omega
          have HL:=q9 hl;clear hl
          go_wp2_with (at_builtin;refine Qg rfl (.tmp 38) (.tmp 45) rfl (w.heap.size+1) _ l [⟨2,s,j,0⟩,⟨2,s,j,1⟩] rfl (hrow.alloc _) w1.heap.size 2 rfl rfl (Blk.new _ _ _) (by omega) (by have:=hblk.lt;simp;omega) ?_;intro v' w2 hrow2 hb2)
          go_roundw
          case rel=>
           refine⟨j+1,by omega,by omega,rfl,l++[⟨2,s,j,0⟩,⟨2,s,j,1⟩],by have:=HL.out;simp;omega,ho.two (.inr ⟨rfl,a0,hs,j0,hj,.inl rfl,by have:=HL.out;simp only;omega⟩) (.inr ⟨rfl,a0,hs,j0,hj,.inr rfl,by have:=HL.out;simp only;omega⟩),hrow2,(hblk.alloc _).below hb2 (by omega),?_⟩
           exact(hbel.alloc (Nat.le_of_lt hblk.lt) _).trans (hb2.mono (by omega))
          case measure=>simp [intOf];omega
        . have e:j=lv V:=by omega
          subst e;go_wp2_with fail
          refine(QH V S T H _).mono ?_;rintro e w1 ⟨rfl,b1⟩;have hM1:=q9 (HM.later b1);clear c0 c1 c2 HM b1;go_wp2_with fail
          go_roundw
          case rel=>exact⟨s+1,by omega,by omega,rfl,hM1.out.eq (by rw[Int.add_mul];unfold sn;omega)⟩
          case measure=>simp [intOf];omega
     . have e:s=S:=by omega
       subst e;go_wp2_with fail
       go_ret;obtain⟨l,hl,ho,hrow,hblk,hbel⟩:=HM.out
       have hn:(nd V s).toNat=l.length:=by unfold nd;omega
       rw[hn]
       exact QgJ hrow (by omega) (by have:=HZ.nd1;omega) ho hbel
def Qf (V S T:Int)(m:Nm)(k:Nat):Prop:=
 (m.k=1/\(m.b=0/\m.c=0)/\1<=m.a/\m.a<=T/\(k:Int)=m.a-1)\/(m.k=2/\(m.a=0/\m.b=0/\m.c=0)/\(k:Int)=T)\/
 (m.k=3/\(m.b=0/\m.c=0)/\0<=m.a/\m.a<S/\(k:Int)=T+1+m.a*7)\/(m.k=4/\(m.b=0/\m.c=0)/\0<=m.a/\m.a<S/\(k:Int)=T+1+m.a*7+1)\/(m.k=5/\(m.b=0/\m.c=0)/\0<=m.a/\m.a<S/\(k:Int)=T+1+m.a*7+2)\/
 (m.k=6/\m.c=0/\0<=m.a/\m.a<S/\(m.b=0\/m.b=1)/\(k:Int)=T+1+m.a*7+3+m.b)\/(m.k=7/\m.c=0/\0<=m.a/\m.a<S/\(m.b=0\/m.b=1)/\(k:Int)=T+1+m.a*7+5+m.b)\/
 (m.k=8/\m.c=0/\0<=m.a/\m.a<V/\0<=m.b/\m.b<lv V/\(k:Int)=o3 S T+m.a*lv V+m.b)\/
 (m.k=9/\m.c=0/\0<=m.a/\m.a<m.b/\m.b<V/\(k:Int)=o4 V S T+ahF V m.a+(m.b-m.a-1))\/
 (m.k=10/\m.c=0/\1<=m.a/\m.a<=nd V S/\0<=m.b/\m.b<7/\(k:Int)=o5 V S T+(m.a-1)*7+m.b)
section
variable {V S T a b c:Int}{k:Nat}
theorem QkL (h1:1<=a)(h2:a<=T)(h:(k:Int)=a-1):Qf V S T ⟨1,a,0,0⟩ k:=.inl ⟨rfl,⟨rfl,rfl⟩,h1,h2,h⟩
theorem QkK (h:(k:Int)=T):Qf V S T ⟨2,0,0,0⟩ k:=.inr (.inl ⟨rfl,⟨rfl,rfl,rfl⟩,h⟩)
theorem QkJ (h1:0<=a)(h2:a<S)(h:(k:Int)=T+1+a*7):Qf V S T ⟨3,a,0,0⟩ k:=.inr (.inr (.inl ⟨rfl,⟨rfl,rfl⟩,h1,h2,h⟩))
theorem QgY (h1:0<=a)(h2:a<S)(h:(k:Int)=T+1+a*7+1):Qf V S T ⟨4,a,0,0⟩ k:=.inr (.inr (.inr (.inl ⟨rfl,⟨rfl,rfl⟩,h1,h2,h⟩)))
theorem QgX (h1:0<=a)(h2:a<S)(h:(k:Int)=T+1+a*7+2):Qf V S T ⟨5,a,0,0⟩ k:=.inr (.inr (.inr (.inr (.inl ⟨rfl,⟨rfl,rfl⟩,h1,h2,h⟩))))
theorem QeX (h1:0<=a)(h2:a<S)(h3:b=0\/b=1)(h:(k:Int)=T+1+a*7+3+b):Qf V S T ⟨6,a,b,0⟩ k:=.inr (.inr (.inr (.inr (.inr (.inl ⟨rfl,rfl,h1,h2,h3,h⟩)))))
theorem QeW (h1:0<=a)(h2:a<S)(h3:b=0\/b=1)(h:(k:Int)=T+1+a*7+5+b):Qf V S T ⟨7,a,b,0⟩ k:=.inr (.inr (.inr (.inr (.inr (.inr (.inl ⟨rfl,rfl,h1,h2,h3,h⟩))))))
theorem QgW (h1:0<=a)(h2:a<V)(h3:0<=b)(h4:b<lv V)(h:(k:Int)=o3 S T+a*lv V+b):Qf V S T ⟨8,a,b,0⟩ k:=.inr (.inr (.inr (.inr (.inr (.inr (.inr (.inl ⟨rfl,rfl,h1,h2,h3,h4,h⟩)))))))
theorem QgV (h1:0<=a)(h2:a<b)(h3:b<V)(h:(k:Int)=o4 V S T+ahF V a+(b-a-1)):Qf V S T ⟨9,a,b,0⟩ k:=.inr (.inr (.inr (.inr (.inr (.inr (.inr (.inr (.inl ⟨rfl,rfl,h1,h2,h3,h⟩))))))))
theorem QfP (h1:1<=a)(h2:a<=nd V S)(h3:0<=b)(h4:b<7)(h:(k:Int)=o5 V S T+(a-1)*7+b):Qf V S T ⟨10,a,b,0⟩ k:=.inr (.inr (.inr (.inr (.inr (.inr (.inr (.inr (.inr ⟨rfl,rfl,h1,h2,h3,h4,h⟩))))))))
end
theorem Qn1 {P:Nm->Nat->Prop}{l:List Nm}(h:Out P l){m0 m1 m2 m3 m4 m5 m6:Nm}(h0:P m0 l.length)(h1:P m1 (l.length+1))(h2:P m2 (l.length+2))(h3:P m3 (l.length+3))(h4:P m4 (l.length+4))(h5:P m5 (l.length+5))(h6:P m6 (l.length+6)):Out P (l++[m0,m1,m2,m3,m4,m5,m6]):=by
 have:=((((((h.snoc h0).snoc (m:=m1) (by simpa using h1)).snoc (m:=m2) (by simpa using h2)).snoc (m:=m3) (by simpa using h3)).snoc (m:=m4) (by simpa using h4)).snoc (m:=m5) (by simpa using h5)).snoc (m:=m6) (by simpa using h6)
 simpa using this
set_option maxRecDepth 100000 in
set_option maxHeartbeats 8000000 in
theorem Qhj (V S T:Int)(h:Rt V S T)(w:World):
 Calls Tryz.prog 101 #[vL V S T] w (Qmv (Qf V S T) (cn V S T).toNat w):=by
 have H:=q9 h;have v1:=h.v1;have v2:=h.v2;have s1:=h.s1;have s2:=h.s2;have t1:=h.t1;have t2:=h.t2;have zz:=sizes h;have l1:=zz.l1;have l2:=zz.l2;have n1:=zz.nd1;have n2:=zz.nd2
 have hnn:(((nd V S).toNat:Nat):Int)=nd V S:=by omega
 have HZ:=q9 zz;clear h zz
 go_enter Tryz.func101,Tryz.ntmps101
 go_wp2_with fail
 go_loopw [3,4] (fun v i wr=>∃ j:Int,1<=j/\j<=T+1/\i=I j/\Made (Qf V S T) w V S T (j-1) v wr) (fun _ i _=>(T+1-intOf i).toNat)
 case atStart=>exact⟨1,by omega,by omega,rfl,Made.start.eq (by omega)⟩
 case round=>
  obtain⟨i,j0,j1,rfl,hM⟩:=hrel;have HM:=q9 hM;clear hM;have c0:=HM.c0;have c1:=HM.c1;have c2:=HM.c2;have hz:=HM.lt
  by_cases hi:i<=T
  . obtain⟨l,hl,ho,hrow,hblk,hbel⟩:=HM.out
    have few:l.length<=10000:=by
     have:=HZ.vn2;have:=HZ.pr2;omega
    have HL:=q9 hl;clear hl hz
    go_wp2_with (at_builtin;refine Qg rfl (.tmp 18) (.tmp 21) rfl (w.heap.size+1) _ l [⟨1,i,0,0⟩] rfl (hrow.alloc _) wr.heap.size 1 rfl rfl (Blk.new _ _ _) (by omega) (by have:=hblk.lt;simp;omega) ?_;intro v' w2 hrow2 hb2)
    go_roundw
    case rel=>
     refine⟨i+1,by omega,by omega,rfl,l++[⟨1,i,0,0⟩],by have:=HL.out;simp;omega,ho.snoc (QkL j0 hi (by have:=HL.out;omega)),hrow2,(hblk.alloc _).below hb2 (by omega),?_⟩
     exact(hbel.alloc (Nat.le_of_lt hblk.lt) _).trans (hb2.mono (by omega))
    case measure=>simp [intOf];omega
  . have e:i=T+1:=by omega
    subst e;obtain⟨l,hl,ho,hrow,hblk,hbel⟩:=HM.out
    have few:l.length<=10000:=by
     have:=HZ.vn2;have:=HZ.pr2;omega
    have HL:=q9 hl;clear hl hz
    go_wp2_with (at_builtin;refine Qg rfl (.tmp 23) (.tmp 25) rfl (w.heap.size+1) _ l [⟨2,0,0,0⟩] rfl (hrow.alloc _) wr.heap.size 1 rfl rfl (Blk.new _ _ _) (by omega) (by have:=hblk.lt;simp;omega) ?_;intro v' w2 hrow2 hb2)
    have HM2:Hid (Made (Qf V S T) w V S T (T+1) v' w2):=q9 ⟨l++[⟨2,0,0,0⟩],by have:=HL.out;simp;omega,ho.snoc (QkK (by have:=HL.out;omega)),hrow2,(hblk.alloc _).below hb2 (by omega),(hbel.alloc (Nat.le_of_lt hblk.lt) _).trans (hb2.mono (by omega))⟩
    clear HM HL ho hrow hblk hbel hrow2 hb2 c0 c1 c2 few j0 j1 hi
    go_loopw [3,5] (fun v i wr=>∃ j:Int,0<=j/\j<=S/\i=I j/\Made (Qf V S T) w V S T (T+1+j*7) v wr) (fun _ i _=>(S-intOf i).toNat)
    case atStart=>exact⟨0,by omega,by omega,rfl,HM2.eq (by omega)⟩
    case round=>
     clear HM2;obtain⟨s,j0,j1,rfl,hM⟩:=hrel;have HM:=q9 hM;clear hM;have c0:=HM.c0;have c1:=HM.c1;have c2:=HM.c2;have hz:=HM.lt
     by_cases hs:s<S
     . obtain⟨l,hl,ho,hrow,hblk,hbel⟩:=HM.out
       have few:l.length<=10000:=by
        have:=HZ.vn2;have:=HZ.pr2;omega
       have HL:=q9 hl;clear hl hz
       go_wp2_with (at_builtin;refine Qg rfl (.tmp 33) (.tmp 48) rfl (w.heap.size+1) _ l [⟨3,s,0,0⟩,⟨4,s,0,0⟩,⟨5,s,0,0⟩,⟨6,s,0,0⟩,⟨6,s,1,0⟩,⟨7,s,0,0⟩,⟨7,s,1,0⟩] rfl (hrow.alloc _) wr.heap.size 7 rfl rfl (Blk.new _ _ _) (by omega) (by have:=hblk.lt;simp;omega) ?_;intro v' w2 hrow2 hb2)
       go_roundw
       case rel=>
        refine⟨s+1,by omega,by omega,rfl,l++[⟨3,s,0,0⟩,⟨4,s,0,0⟩,⟨5,s,0,0⟩,⟨6,s,0,0⟩,⟨6,s,1,0⟩,⟨7,s,0,0⟩,⟨7,s,1,0⟩],by have:=HL.out;simp;omega,Qn1 ho (QkJ j0 hs (by have:=HL.out;omega)) (QgY j0 hs (by have:=HL.out;omega)) (QgX j0 hs (by have:=HL.out;omega)) (QeX j0 hs (.inl rfl) (by have:=HL.out;omega)) (QeX j0 hs (.inr rfl) (by have:=HL.out;omega)) (QeW j0 hs (.inl rfl) (by have:=HL.out;omega)) (QeW j0 hs (.inr rfl) (by have:=HL.out;omega)),hrow2,(hblk.alloc _).below hb2 (by omega),?_⟩
        exact(hbel.alloc (Nat.le_of_lt hblk.lt) _).trans (hb2.mono (by omega))
       case measure=>simp [intOf];omega
     . have e:s=S:=by omega
       subst e;go_wp2_with fail
       go_loopw [3,6] (fun v i wr=>∃ j:Int,0<=j/\j<=V/\i=I j/\Made (Qf V s T) w V s T (o3 s T+j*lv V) v wr) (fun _ i _=>(V-intOf i).toNat)
       case atStart=>exact⟨0,by omega,by omega,rfl,HM.eq (by unfold o3;omega)⟩
       case round=>
        clear HM c0 c1 c2 hz j0 j1 hs;obtain⟨v,j0,j1,rfl,hM⟩:=hrel;have HM:=q9 hM;clear hM;have c0:=HM.c0;have c1:=HM.c1;have c2:=HM.c2;have hz:=HM.lt
        have hvl:=Qis (k:=v) (V:=lv V) (L:=V) j0 j1 (by omega)
        have hvn:V*lv V=vn V:=Int.mul_comm _ _;have HV:=q9 (And.intro hvl hvn);clear hvl hvn
        by_cases hv:v<V
        . go_wp2_with fail
          go_loopw [3,7] (fun u i wr=>∃ j:Int,0<=j/\j<=lv V/\i=I j/\Made (Qf V s T) w V s T (o3 s T+v*lv V+j) u wr) (fun _ i _=>(lv V-intOf i).toNat)
          case atStart=>exact⟨0,by omega,by omega,rfl,HM.eq (by omega)⟩
          case round=>
           clear HM c0 c1 c2 hz;have i0:=j0;clear j0 j1;obtain⟨i,j0,j1,rfl,hM⟩:=hrel;have HM:=q9 hM;clear hM;have c0:=HM.c0;have c1:=HM.c1;have c2:=HM.c2
           by_cases hi:i<lv V
           . go_wp2_with fail
             refine(QH V s T H _).mono ?_;rintro e w1 ⟨rfl,b1⟩;have HN:=q9 (HM.later b1);clear c0 c1 c2 HM b1;have HM:=HN;clear HN;have hz:=HM.lt;obtain⟨l,hl,ho,hrow,hblk,hbel⟩:=HM.out
             have few:l.length<=10000:=by
              have:=HZ.vn2;have:=HZ.pr2;have:=HV.out;unfold o3 at hl;omega
             have HL:=q9 hl;clear hl hz
             go_wp2_with (at_builtin;refine Qg rfl (.tmp 62) (.tmp 66) rfl (w.heap.size+1) _ l [⟨8,v,i,0⟩] rfl (hrow.alloc _) w1.heap.size 1 rfl rfl (Blk.new _ _ _) (by omega) (by have:=hblk.lt;simp;omega) ?_;intro v' w2 hrow2 hb2)
             go_roundw
             case rel=>
              refine⟨i+1,by omega,by omega,rfl,l++[⟨8,v,i,0⟩],by have:=HL.out;simp;omega,ho.snoc (QgW i0 hv j0 hi (by have:=HL.out;omega)),hrow2,(hblk.alloc _).below hb2 (by omega),?_⟩
              exact(hbel.alloc (Nat.le_of_lt hblk.lt) _).trans (hb2.mono (by omega))
             case measure=>simp [intOf];omega
           . have e:i=lv V:=by omega
             subst e;go_wp2_with fail
             refine(QH V s T H _).mono ?_;rintro e w1 ⟨rfl,b1⟩;have HN:=q9 (HM.later b1);clear c0 c1 c2 HM b1;go_wp2_with fail
             go_roundw
             case rel=>exact⟨v+1,by omega,by omega,rfl,HN.eq (by rw[Int.add_mul];omega)⟩
             case measure=>simp [intOf];omega
        . have e:v=V:=by omega
          subst e
          have HM2:Hid (Made (Qf v s T) w v s T (o4 v s T) _ _):=q9 (HM.eq (by have:=HV.2;unfold o3 o4;omega))
          clear HM HV;go_wp2_with fail
          go_loopw [3,8] (fun u i wr=>∃ j:Int,0<=j/\j<=v/\i=I j/\Made (Qf v s T) w v s T (o4 v s T+ahF v j) u wr) (fun _ i _=>(v-intOf i).toNat)
          case atStart=>exact⟨0,by omega,by omega,rfl,HM2.eq (by rw[Qgs];omega)⟩
          case round=>
           clear HM2 c0 c1 c2 hz j0 j1 hv;obtain⟨a,j0,j1,rfl,hM⟩:=hrel;have HM:=q9 hM;clear hM;have c0:=HM.c0;have c1:=HM.c1;have c2:=HM.c2;have hz:=HM.lt
           by_cases ha:a<v
           . go_wp2_with fail
             go_loopw [3,9] (fun u i wr=>∃ j:Int,a+1<=j/\j<=v/\i=I j/\Made (Qf v s T) w v s T (o4 v s T+ahF v a+(j-a-1)) u wr) (fun _ i _=>(v-intOf i).toNat)
             case atStart=>exact⟨a+1,by omega,by omega,rfl,HM.eq (by omega)⟩
             case round=>
              clear HM c0 c1 c2 hz;have i0:=j0;clear j0 j1;obtain⟨b,j0,j1,rfl,hM⟩:=hrel;have HM:=q9 hM;clear hM;have c0:=HM.c0;have c1:=HM.c1;have c2:=HM.c2;have hz:=HM.lt
              by_cases hb:b<v
              . obtain⟨l,hl,ho,hrow,hblk,hbel⟩:=HM.out
                have few:l.length<=10000:=by
                 have:=HZ.vn2;have:=HZ.pr2
                 have:=Qjq (V:=v) (a:=a) (by omega);unfold o4 at hl;omega
                have HL:=q9 hl;clear hl hz
                go_wp2_with (at_builtin;refine Qg rfl (.tmp 82) (.tmp 86) rfl (w.heap.size+1) _ l [⟨9,a,b,0⟩] rfl (hrow.alloc _) wr.heap.size 1 rfl rfl (Blk.new _ _ _) (by omega) (by have:=hblk.lt;simp;omega) ?_;intro v' w2 hrow2 hb2)
                go_roundw
                case rel=>
                 refine⟨b+1,by omega,by omega,rfl,l++[⟨9,a,b,0⟩],by have:=HL.out;simp;omega,ho.snoc (QgV i0 (by omega) hb (by have:=HL.out;omega)),hrow2,(hblk.alloc _).below hb2 (by omega),?_⟩
                 exact(hbel.alloc (Nat.le_of_lt hblk.lt) _).trans (hb2.mono (by omega))
                case measure=>simp [intOf];omega
              . have e:b=v:=by omega
                subst e;go_wp2_with fail
                go_roundw
                case rel=>exact⟨a+1,by omega,by omega,rfl,HM.eq (by rw[Qgt];omega)⟩
                case measure=>simp [intOf];omega
           . have e:a=v:=by omega
             subst e
             have HM2:Hid (Made (Qf a s T) w a s T (o5 a s T) _ _):=q9 (HM.eq (by have e:=Qgt (V:=a) (a:=a-1);rw[show a-1+1=a by omega,Qjp] at e;unfold o4 o5;omega))
             clear HM;go_wp2_with fail
             go_loopw [3,10] (fun u i wr=>∃ j:Int,1<=j/\j<=nd a s+1/\i=I j/\Made (Qf a s T) w a s T (o5 a s T+(j-1)*7) u wr) (fun _ i _=>(nd a s+1-intOf i).toNat)
             case atStart=>exact⟨1,by omega,by omega,rfl,HM2.eq (by omega)⟩
             case round=>
              clear HM2 c0 c1 c2 hz j0 j1 ha;obtain⟨x,j0,j1,rfl,hM⟩:=hrel;have HM:=q9 hM;clear hM;have c0:=HM.c0;have c1:=HM.c1;have c2:=HM.c2;have hz:=HM.lt;have k0:=j0;have k1:=j1
              by_cases hx:x<=nd a s
              . go_wp2_with fail
                refine(QcR a s T H _).mono ?_;rintro e w1 ⟨g1,cap1,f1,rfl,_,_,_,_,b1⟩;have HN:=q9 (HM.later b1);clear c0 c1 c2 hz HM b1 j0 j1;go_wp2_with fail
                go_loopw [3,11] (fun u i wr=>∃ j:Int,0<=j/\j<=7/\i=I j/\Made (Qf a s T) w a s T (o5 a s T+(x-1)*7+j) u wr) (fun _ i _=>(7-intOf i).toNat)
                case atStart=>exact⟨0,by omega,by omega,rfl,HN.eq (by omega)⟩
                case round=>
                 clear HN;obtain⟨i,j0,j1,rfl,hM⟩:=hrel;have HM:=q9 hM;clear hM;have hz:=HM.lt
                 by_cases hi:i<7
                 . obtain⟨l,hl,ho,hrow,hblk,hbel⟩:=HM.out
                   have few:l.length<=10000:=by
                    have:=HZ.vn2;have:=HZ.pr2;unfold o5 at hl;omega
                   have HL:=q9 hl;clear hl hz
                   go_wp2_with (at_builtin;refine Qg rfl (.tmp 99) (.tmp 103) rfl (w.heap.size+1) _ l [⟨10,x,i,0⟩] rfl (hrow.alloc _) wr.heap.size 1 rfl rfl (Blk.new _ _ _) (by omega) (by have:=hblk.lt;simp;omega) ?_;intro v' w2 hrow2 hb2)
                   go_roundw
                   case rel=>
                    refine⟨i+1,by omega,by omega,rfl,l++[⟨10,x,i,0⟩],by have:=HL.out;simp;omega,ho.snoc (QfP k0 hx j0 hi (by have:=HL.out;omega)),hrow2,(hblk.alloc _).below hb2 (by omega),?_⟩
                    exact(hbel.alloc (Nat.le_of_lt hblk.lt) _).trans (hb2.mono (by omega))
                   case measure=>simp [intOf];omega
                 . have e:i=7:=by omega
                   subst e;go_wp2_with fail
                   go_roundw
                   case rel=>exact⟨x+1,by omega,by omega,rfl,HM.eq (by omega)⟩
                   case measure=>simp [intOf];omega
              . have e:x=nd a s+1:=by omega
                subst e;go_wp2_with fail
                refine(QcR a s T H _).mono ?_;rintro e w1 ⟨g1,cap1,f1,rfl,_,_,_,_,b1⟩;have HN:=q9 (HM.later b1);clear c0 c1 c2 hz HM b1;go_wp2_with fail
                go_ret;obtain⟨l,hl,ho,hrow,hblk,hbel⟩:=HN.out
                have hn:(cn a s T).toNat=l.length:=by unfold cn;unfold o5 at hl;omega
                rw[hn]
                exact QgJ hrow (by omega) (by unfold o5 at hl;have:=HZ.vn1;have:=HZ.pr1;omega) ho hbel
abbrev nmV (m:Nm):Value:=.agg #[I m.k,I m.a,I m.b,I m.c]
theorem QjH:∃ m,Tryz.prog.types.size=m+1:=⟨Tryz.prog.types.size-1,by have:0<Tryz.prog.types.size:=of_decide_eq_true (by kernel_rfl);omega⟩
theorem Qlg:Go.Maps.Keyed Tryz.prog 114:=Go.Maps.Keyed.of_law (deep_law (m:=2) (by omega) (by kernel_rfl) (by kernel_rfl) (by rw[Tryz.underlying114]))
theorem QgU:Tryz.prog.cellsOf 114=4:=by kernel_rfl
theorem QkG:Tryz.prog.cellsOf 3=1:=by kernel_rfl
theorem Qn4:Tryz.prog.keyType 114=true:=by kernel_rfl
def in64 (x:Int):Prop:=-9223372036854775808<=x/\x<=9223372036854775807
theorem keyN (m:Nm)(h1:in64 m.k)(h2:in64 m.a)(h3:in64 m.b)(h4:in64 m.c):∃ l,keyOf Tryz.prog 114 (nmV m)=some l:=by
 have w1:=WalkArith.wf_i64 h1;have w2:=WalkArith.wf_i64 h2;have w3:=WalkArith.wf_i64 h3;have w4:=WalkArith.wf_i64 h4;obtain⟨m',hm⟩:=QjH;unfold keyOf;simp only[Tryz.underlying114]
 rw[if_pos (by simp [Qn4,Value.formed,Tryz.underlying114,QgU]),hm]
 unfold Program.keyLits;simp only[Tryz.underlying114,Value.cells]
 rw[if_pos (by rw[QgU];exact⟨rfl,by simp⟩)]
 simp [QkG,Program.keyLits,Tryz.underlying3,w1,w2,w3,w4]
structure BkV where
 V:Int
 S:Int
 T:Int
 gn:Nat
 nn:Nat
 cn:Nat
 cb:Nat
 cl:Nat
 cc:Nat
 wb:Nat
 ga:Nat
 na:Nat
 ca:Nat
abbrev vB (b:BkV):Value:=.agg #[I b.V,I b.S,I b.T,I3 (I1 b.gn 0) b.nn b.cn,I3 (I1 b.cb 0) b.cl b.cc,.map (some b.wb),I3 (I1 b.ga 0) b.na b.ca]
abbrev bB (b:BkV):Obj:=.cells #[I b.V,I b.S,I b.T,I3 (I1 b.gn 0) b.nn b.cn,I3 (I1 b.cb 0) b.cl b.cc,.map (some b.wb),I3 (I1 b.ga 0) b.na b.ca] 67
def BB (W:World)(x:Nat)(b:BkV):Prop:=Blk W x 67 #[I b.V,I b.S,I b.T,I3 (I1 b.gn 0) b.nn b.cn,I3 (I1 b.cb 0) b.cl b.cc,.map (some b.wb),I3 (I1 b.ga 0) b.na b.ca]
def Gw (V S T:Int)(key val:Value):Prop:=∃ (m:Nm) (k:Nat),(k:Int)<cn V S T/\Qf V S T m k/\key=nmV m/\val=I (k:Int)
structure Bk (W:World)(b:BkV)(cv:Nat->Int):Prop where
 hR:Rt b.V b.S b.T
 hc:(b.cl:Int)=cn b.V b.S b.T
 ha:b.na=(nd b.V b.S).toNat
 wm:FM 114 W b.wb b.cl (Gw b.V b.S b.T)
 cs:∀ k,k<b.cl->W.cell? (I1 b.cb k)=some (I2 (cv k))
 al:∀ k,k<b.na->∃ m,NmAt W b.ga k m/\Qn b.V b.S m k
 lt:b.cb<W.heap.size/\b.ga<W.heap.size
 rg:∀ k,0<=cv k/\cv k<=18446744073709551615
 cp:b.cl<=16384
section
variable {w w' W:World}{b:BkV}{cv:Nat->Int}{x k:Nat}{V S T kd y z:Int}{m:Nm}
theorem BB.new (w:World)(b:BkV):BB (w.alloc (bB b)) w.heap.size b:=Blk.new _ _ _
theorem BB.below (h:BB w x b)(hb:Below w.heap.size w w'):BB w' x b:=Blk.below h hb (Blk.lt h)
theorem BB.lt (h:BB w x b):x<w.heap.size:=Blk.lt h
theorem BB.cells (h:BB w x b):w.cell? (I1 x 0)=some (I b.V)/\w.cell? (I1 x 1)=some (I b.S)/\w.cell? (I1 x 2)=some (I b.T)/\w.cell? (I1 x 3)=some (I3 (I1 b.gn 0) b.nn b.cn)/\w.cell? (I1 x 4)=some (I3 (I1 b.cb 0) b.cl b.cc)/\w.cell? (I1 x 5)=some (.map (some b.wb))/\w.cell? (I1 x 6)=some (I3 (I1 b.ga 0) b.na b.ca):=
 ⟨Blk.cell h 0,Blk.cell h 1,Blk.cell h 2,Blk.cell h 3,Blk.cell h 4,Blk.cell h 5,Blk.cell h 6⟩
theorem BB.rule (x:Nat)(b:BkV):∀ W:World,BB W x b->W.cell? (I1 x 0)=some (I b.V)/\W.cell? (I1 x 1)=some (I b.S)/\W.cell? (I1 x 2)=some (I b.T)/\W.cell? (I1 x 3)=some (I3 (I1 b.gn 0) b.nn b.cn)/\W.cell? (I1 x 4)=some (I3 (I1 b.cb 0) b.cl b.cc)/\W.cell? (I1 x 5)=some (.map (some b.wb))/\W.cell? (I1 x 6)=some (I3 (I1 b.ga 0) b.na b.ca):=fun _ h=>h.cells
theorem Bk.below (h:Bk w b cv)(hb:Below w.heap.size w w'):Bk w' b cv:=
 ⟨h.hR,h.hc,h.ha,h.wm.keep (hb.block _ h.wm.lt),fun k hk=>Qi hb (h.cs k hk),fun k hk=>by
  obtain⟨m,h1,h2⟩:=h.al k hk;exact⟨m,h1.below hb h.lt.2,h2⟩,⟨Nat.lt_of_lt_of_le h.lt.1 hb.size,Nat.lt_of_lt_of_le h.lt.2 hb.size⟩,h.rg,h.cp⟩
theorem Bk.alloc (h:Bk w b cv)(o:Obj):Bk (w.alloc o) b cv:=h.below ((Below.refl _ _).alloc (Nat.le_refl _) o)
theorem Bk.drew (h:Bk w b cv):Bk w.drew b cv:=h.below (Below.refl _ _).drew
theorem QfO (hR:Rt V S T)(h:Qf V S T m k):in64 m.k/\in64 m.a/\in64 m.b/\in64 m.c:=by
 have h1:=hR.v2;have h2:=hR.s2;have h3:=hR.t2;have h4:=QF V;have h5:=(sizes hR).nd2;unfold Qf at h;unfold in64
 rcases h with h|h|h|h|h|h|h|h|h|h<;>omega
def nmI (V S T:Int)(m:Nm):Int:=
 if m.k=1 then m.a-1 else if m.k=2 then T else if m.k=3 then T+1+m.a*7 else if m.k=4 then T+1+m.a*7+1 else if m.k=5 then T+1+m.a*7+2 else
 if m.k=6 then T+1+m.a*7+3+m.b else if m.k=7 then T+1+m.a*7+5+m.b else if m.k=8 then o3 S T+m.a*lv V+m.b else if m.k=9 then o4 V S T+ahF V m.a+(m.b-m.a-1) else o5 V S T+(m.a-1)*7+m.b
theorem Qeo (h:Qf V S T m k):(k:Int)=nmI V S T m:=by
 unfold Qf at h;unfold nmI
 rcases h with ⟨e,h⟩|⟨e,h⟩|⟨e,h⟩|⟨e,h⟩|⟨e,h⟩|⟨e,h⟩|⟨e,h⟩|⟨e,h⟩|⟨e,h⟩|⟨e,h⟩<;>simp only[e]<;>simp<;>omega
theorem QlP {m m':Nm}(e:nmV m=nmV m'):m=m':=by
 injection e with e;have e2:=congrArg Array.toList e;simp at e2;obtain⟨a,b,c,d⟩:=m;obtain⟨a',b',c',d'⟩:=m';simp at e2;obtain⟨rfl,rfl,rfl,rfl⟩:=e2;rfl
theorem Qaj (B:Bk w b cv)(h:Qf b.V b.S b.T ⟨kd,y,z,0⟩ k)(hk:k<b.cl):
 Calls Tryz.prog 51 #[vB b,I kd,I y,I z] w fun e w'=>e=.returned (I2 (cv k))/\Below w.heap.size w w':=by
 have HB:=q9 (B.alloc (bB b));obtain⟨q1,q2,q3,q4⟩:=QfO B.hR h;obtain⟨kl,hkey⟩:=keyN ⟨kd,y,z,0⟩ q1 q2 q3 q4
 have hlk:=HB.wm.look_some true Qlg Tryz.underlying65 hkey ⟨_,k,by have:=B.hc;omega,h,rfl,rfl⟩
 have hcs:=HB.cs k hk;have hlt:=HB.lt.1;obtain⟨c0,c1,c2,c3,c4,c5,c6⟩:=(BB.new w b).cells
 have kI:(k:Int)<(b.cl:Int):=by omega
 have kN:¬ (b.cl:Int)<=(k:Int):=by omega
 have k0:(0:Int)<=(k:Int):=by omega
 clear B h q1 q2 q3 q4 hkey HB
 go_enter Tryz.func51,Tryz.ntmps51
 go_wp2_with fail
 go_ret;exact⟨rfl,(Below.refl _ _).alloc (Nat.le_refl _) _⟩
end
section
variable {w w' W:World}{v u:Value}{l a:List Nat}{b:BkV}{cv:Nat->Int}{x k i:Nat}{V S T y z:Int}{m m':Nm}
def Qjv (w0:World)(l:List Nat)(x:Nat)(i:Value)(W:World):Prop:=W=w0/\∃ k,k<=l.length/\i=I ((k:Nat):Int)/\x∉l.take k
theorem Qcv (h:LI w v l)(hl:l.length<=100000):
 Calls Tryz.prog 104 #[v,I (x:Int)] w fun e w'=>e=.returned (.bool (decide (x∈l)))/\w=w':=by
 obtain⟨a0,c0,rfl,_⟩:=h.shape;have H:=q9 h;obtain⟨n,hn⟩:∃ n,l.length=n:=⟨_,rfl⟩;have HN:=q9 hn;rw[hn] at H hl;rw[hn]
 have nI:(n:Int)<=100000:=by omega
 clear h hn
 have HRel:Hid (Qjv w l x (I 0) w):=q9 ⟨rfl,0,Nat.zero_le _,rfl,by simp⟩
 go_enter Tryz.func104,Tryz.ntmps104
 go_wp2_with fail
 go_loopw [5] (fun i wr=>Qjv w l x i wr) (fun i _=>n-(intOf i).toNat)
 case atStart=>exact HRel.out
 case round=>
  clear HRel;obtain⟨rfl,k,hk,rfl,hx⟩:=hrel;have HX:=q9 hx;rw[HN.out] at hk;clear hx
  by_cases hkn:k<n
  . obtain⟨y,hy⟩:∃ y,l[k]?=some y:=⟨_,List.getElem?_eq_getElem (by have:=HN.out;omega)⟩
    obtain⟨b1,o1,rfl,c1⟩:=H.at hy;have HY:=q9 hy
    have kI:(k:Int)<(n:Int):=by omega
    have k0:(0:Int)<=(k:Int):=by omega
    clear hy
    by_cases e:y=x
    . subst e
      have eb:((y:Int)==(y:Int))=true:=beq_self_eq_true _;have HE:Hid (y∈l):=q9 (List.mem_of_getElem? HY.out);go_wp2_with fail
      go_ret
      exact⟨by rw[decide_eq_true HE.out];rfl,rfl⟩
    . have eb:((y:Int)==(x:Int))=false:=beq_eq_false_iff_ne.2 (by omega)
      have HE:=q9 e;clear e;go_wp2_with fail
      go_roundw
      case rel=>
       refine⟨rfl,k+1,by have:=HN.out;omega,by simp,?_⟩
       rw[List.take_add_one,HY.out];intro hm
       rcases List.mem_append.1 hm with hm|hm
       . exact HX hm
       . exact HE.out (by simpa using hm:x=y).symm
      case measure=>simp [intOf];omega
  . have ek:k=n:=by omega
    subst ek
    have kI:¬ (k:Int)<(k:Int):=by omega
    clear hk hkn;go_wp2_with fail
    go_ret
    exact⟨by rw[decide_eq_false (by have:=HX.out;rw[<-HN.out,List.take_length] at this;exact this)];rfl,rfl⟩
def ofF (m:Nm):Int:=if m.k=1 then m.a else m.b
theorem Qp1 (m:Nm)(w:World):Calls Tryz.prog 106 #[nmV m] w fun e w'=>e=.returned (I (ofF m))/\Below w.heap.size w w':=by
 obtain⟨c0,c1,c2,c3⟩:(w.alloc (.cells #[I m.k,I m.a,I m.b,I m.c] 114)).cell? (I1 w.heap.size 0)=some (I m.k)/\(w.alloc (.cells #[I m.k,I m.a,I m.b,I m.c] 114)).cell? (I1 w.heap.size 1)=some (I m.a)/\(w.alloc (.cells #[I m.k,I m.a,I m.b,I m.c] 114)).cell? (I1 w.heap.size 2)=some (I m.b)/\True:=⟨(Blk.new _ _ _).cell 0,(Blk.new _ _ _).cell 1,(Blk.new _ _ _).cell 2,trivial⟩;have HB:Hid (Below w.heap.size w (w.alloc (.cells #[I m.k,I m.a,I m.b,I m.c] 114))):=q9 ((Below.refl _ _).alloc (Nat.le_refl _) _);unfold ofF
 by_cases h:m.k=1
 . have h1:(m.k==1)=true:=by rw[h];rfl
   rw[if_pos h];clear h
   go_enter Tryz.func106,Tryz.ntmps106
   go_wp2_with fail
   go_ret;exact⟨rfl,HB⟩
 . have h1:(m.k==1)=false:=beq_eq_false_iff_ne.2 h
   rw[if_neg h];clear h
   go_enter Tryz.func106,Tryz.ntmps106
   go_wp2_with fail
   go_ret;exact⟨rfl,HB⟩
theorem Qej {n a a' c c':Int}(h1:0<=c)(h2:c<n)(h3:0<=c')(h4:c'<n)(e:a*n+c=a'*n+c'):a=a'/\c=c':=by
 have d:∀ a c:Int,0<=c->c<n->(a*n+c) / n=a:=fun a c g1 g2=>by
  rw[Int.add_comm,Int.add_mul_ediv_right _ _ (by omega),Int.ediv_eq_zero_of_lt g1 g2];omega
 have e1:a=a':=by rw[<-d a c h1 h2,<-d a' c' h3 h4,e]
 subst e1
 exact⟨rfl,by omega⟩
theorem Qb3 (h:Qn V S m k)(h':Qn V S m' k)(hV:1<=V):m=m':=by
 have hl:=(QF V).1;have hs:sn V=lv V*2:=rfl;have hv:vn V=lv V*V:=rfl;obtain⟨k1,a1,b1,c1⟩:=m;obtain⟨k2,a2,b2,c2⟩:=m';unfold Qn at h h';simp only at h h'
 have up:∀ a b:Int,0<=a->a<lv V->0<=b->b<V->a*V+b<lv V*V:=fun a b g1 g2 g3 g4=>by
  have h5:(a+1)*V<=lv V*V:=Int.mul_le_mul_of_nonneg_right (by omega) (by omega)
  rw[Int.add_mul] at h5;omega
 have lo:∀ a:Int,0<=a->0<=a*sn V:=fun a g=>Int.mul_nonneg g (by omega)
 rcases h with ⟨rfl,rfl,g1,g2,g3,g4,g5⟩|⟨rfl,g1,g2,g3,g4,g5,g6⟩<;>rcases h' with ⟨rfl,rfl,f1,f2,f3,f4,f5⟩|⟨rfl,f1,f2,f3,f4,f5,f6⟩
 . obtain⟨rfl,rfl⟩:=Qej g3 g4 f3 f4 (g5.symm.trans f5)
   rfl
 . have:=up a1 b1 g1 g2 g3 g4
   have:=lo a2 f1;omega
 . have:=up a2 b2 f1 f2 f3 f4
   have:=lo a1 g1;omega
 . obtain⟨rfl,e⟩:=Qej (n:=sn V) (a:=a1) (a':=a2) (c:=2*b1+c1) (c':=2*b2+c2) (by omega) (by omega) (by omega) (by omega) (by omega)
   have e1:b1=b2:=by omega
   have e2:c1=c2:=by omega
   subst e1 e2;rfl
theorem Qfo (h:Qn V S m k)(h':Qn V S m i):k=i:=by
 unfold Qn at h h'
 rcases h with ⟨e1,_,_,_,_,_,g5⟩|⟨e1,_,_,_,_,_,g6⟩<;>rcases h' with ⟨e2,_,_,_,_,_,f5⟩|⟨e2,_,_,_,_,_,f6⟩<;>omega
theorem Bk.name (B:Bk w b cv)(h:Qn b.V b.S m k)(hk:k<b.na):NmAt w b.ga k m:=by
 obtain⟨m',h1,h2⟩:=B.al k hk;rw[Qb3 h h2 B.hR.v1];exact h1
theorem NmAt.cells (h:NmAt w x k m):w.cell? (I1 x (k*4))=some (I m.k)/\w.cell? (I1 x (k*4+1))=some (I m.a)/\w.cell? (I1 x (k*4+2))=some (I m.b)/\w.cell? (I1 x (k*4+3))=some (I m.c):=h
set_option maxHeartbeats 2000000 in
theorem Qco (B:Bk w b cv)(h:Qn b.V b.S m k)(hk:k<b.na):
 Calls Tryz.prog 105 #[vB b,nmV m] w fun e w'=>e=.returned (I ((k+1:Nat):Int))/\Below w.heap.size w w':=by
 have HB:=q9 ((B.alloc (bB b)).alloc (.cells #[I m.k,I m.a,I m.b,I m.c] 114))
 have HW:Hid (Below w.heap.size w ((w.alloc (bB b)).alloc (.cells #[I m.k,I m.a,I m.b,I m.c] 114))):=q9 (((Below.refl _ _).alloc (Nat.le_refl _) _).alloc (by simp) _)
 have hX:BB ((w.alloc (bB b)).alloc (.cells #[I m.k,I m.a,I m.b,I m.c] 114)) w.heap.size b:=(BB.new w b).below ((Below.refl _ _).alloc (Nat.le_refl _) _);have HX:=q9 hX;have HM:Hid (Blk ((w.alloc (bB b)).alloc (.cells #[I m.k,I m.a,I m.b,I m.c] 114)) (w.heap.size+1) 114 #[I m.k,I m.a,I m.b,I m.c]):=q9 (Q8 _ _ _ _ _);have HN:=q9 h;have HR:=q9 B.hR
 have na560:b.na<=560:=by rw[B.ha];have:=(sizes B.hR).nd2;omega
 obtain⟨c0,c1,c2,c3,c4,c5,c6⟩:=hX.cells;clear B h hX
 go_enter Tryz.func105,Tryz.ntmps105
 go_wp2_with fail
 clear c0 c1 c2 c3 c4 c5 c6;generalize (w.alloc (bB b)).alloc (.cells #[I m.k,I m.a,I m.b,I m.c] 114)=w1 at HB HX HM HW |-;generalize w.heap.size+1=mb at HM |-
 go_loopw [6] (fun i wr=>∃ j:Nat,j<=k/\i=I (j:Int)/\Below w1.heap.size w1 wr) (fun i _=>k-(intOf i).toNat)
 case atStart=>exact⟨0,Nat.zero_le _,rfl,Below.refl _ _⟩
 case round=>
  obtain⟨j,hj,rfl,hb⟩:=hrel;have HB2:=q9 (HB.below hb)
  obtain⟨mj,hn1,hn2⟩:=HB2.al j (by omega)
  obtain⟨z0,z1,z2,z3⟩:=hn1.cells;have glt:=HB2.lt.2;obtain⟨m0,m1,m2,m3⟩:=And.intro ((HM.below hb HM.lt).cell 0) (And.intro ((HM.below hb HM.lt).cell 1) (And.intro ((HM.below hb HM.lt).cell 2) ((HM.below hb HM.lt).cell 3)));have mlt:=(HM.below hb HM.lt).lt;have HBW:=q9 (HW.trans (hb.mono HW.size));have HBB:=q9 hb
  have jI:(j:Int)<(b.na:Int):=by omega
  have j0:(0:Int)<=(j:Int):=by omega
  clear hb hn1
  by_cases hjk:j=k
  . subst hjk
    obtain rfl:mj=m:=Qb3 hn2 HN.out HR.v1;have q0:(mj.k==mj.k)=true:=beq_self_eq_true _;have q1:(mj.a==mj.a)=true:=beq_self_eq_true _;have q2:(mj.b==mj.b)=true:=beq_self_eq_true _;have q3:(mj.c==mj.c)=true:=beq_self_eq_true _;clear hn2;go_wp2_with fail
    go_region
    all_goals
     go_wp2_with fail
     go_ret
     exact⟨by simp,HBW.drew⟩
  . have HNE:Hid (mj≠m):=q9 fun e=>hjk (Qfo (by rw[<-e];exact hn2) HN)
    have HJK:Hid (j<k):=q9 (by omega)
    obtain⟨x0,x1,x2,x3⟩:=mj;obtain⟨y0,y1,y2,y3⟩:=m;dsimp only at *
    have hbits:¬ (((x0==y0)=true)/\((x1==y1)=true)/\((x2==y2)=true)/\((x3==y3)=true)):=by
     rintro⟨a1,a2,a3,a4⟩
     exact HNE.out (by rw[eq_of_beq a1,eq_of_beq a2,eq_of_beq a3,eq_of_beq a4])
    clear hn2 hjk hj
    cases q0:(x0==y0)
    . go_wp2_with fail
      go_region
      all_goals
       go_wp2_with fail
       go_roundw
       case rel=>exact⟨j+1,HJK.out,by simp,HBB.drew⟩
       case measure=>have:=HJK.out;simp [intOf];omega
    . cases q1:(x1==y1)
      . go_wp2_with fail
        go_region
        all_goals
         go_wp2_with fail
         go_roundw
         case rel=>exact⟨j+1,HJK.out,by simp,HBB.drew⟩
         case measure=>have:=HJK.out;simp [intOf];omega
      . cases q2:(x2==y2)
        . go_wp2_with fail
          go_region
          all_goals
           go_wp2_with fail
           go_roundw
           case rel=>exact⟨j+1,HJK.out,by simp,HBB.drew⟩
           case measure=>have:=HJK.out;simp [intOf];omega
        . have q3:(x3==y3)=false:=by
           cases c:(x3==y3)
           . rfl
           . exact absurd ⟨q0,q1,q2,c⟩ hbits
          go_wp2_with fail
          go_region
          all_goals
           go_wp2_with fail
           go_roundw
           case rel=>exact⟨j+1,HJK.out,by simp,HBB.drew⟩
           case measure=>have:=HJK.out;simp [intOf];omega
end
end Go.Proofs.YtaooglagddphnaaGreat
