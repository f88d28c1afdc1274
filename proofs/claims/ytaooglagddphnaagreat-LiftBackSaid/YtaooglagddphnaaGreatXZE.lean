/- ZE -/
import Derived.Test.YtaooglagddphnaaGreatXZD
import Derived.Laws.MakeOwn
import Derived.Test.YtaooglagddphnaaGreatXW
namespace Go.Proofs.YtaooglagddphnaaGreat
open Go.RowKit Go.Shelf
attribute [local go_sem] Oper.semAt_some
set_option maxRecDepth 100000
def fsB (L:List Fr)(k:Nat):List Fr:=L.drop (L.length-k)
theorem Qcx (L:List Fr):fsB L 0=[]:=by simp [fsB]
theorem QiW (L:List Fr):fsB L L.length=L:=by simp [fsB]
theorem Qdl {L:List Fr}{k:Nat}(h:k<L.length):fsB L (k+1)=(bkF L k).2 :: fsB L k:=by
 have hj:L.length-1-k<L.length:=by omega
 unfold fsB bkF
 rw[show L.length-(k+1)=L.length-1-k by omega,List.drop_eq_getElem_cons hj,List.getElem?_eq_getElem hj,show L.length-1-k+1=L.length-k by omega]
 rfl
theorem Qlk {L:List Fr}{n:Nat}(hn:1<=n)(h:∀ f∈L,1<=f.x/\f.x<=n)(k:Nat):1<=(bkF L k).2.x/\(bkF L k).2.x<=n:=by
 unfold bkF
 cases e:L[L.length-1-k]? with
 |none=>exact⟨Nat.le_refl _,hn⟩
 |some f=>exact h f (List.mem_of_getElem? e)
theorem Qje {L:List Fr}{k:Nat}(h:k<L.length):(bkF L k).2∈L:=by
 have hj:L.length-1-k<L.length:=by omega
 unfold bkF;rw[List.getElem?_eq_getElem hj];exact List.getElem_mem hj
section
variable {V S T:Int}{g:Mg9}{w w' w0 W W':World}{p gb cap m:Nat}{row:Option Nat}
theorem Blk.own {i:Nat}{ty:TypeId}{cs:Array Value}(h:Blk W i ty cs)(hg:W.grownBy W' row)(hr:∀ r,row=some r->∃ o:Obj,W.heap[r]?=some o/\o.isCells=false):Blk W' i ty cs:=
 h.grown hg fun e=>by obtain⟨o,h1,h2⟩:=hr _ e;rw[show W.heap[i]?=_ from h] at h1;cases h1;cases h2
theorem TM.own_ (h:TM W V S T p gb cap m g)(hg:W.grownBy W' row)(hr:∀ r,row=some r->∃ o:Obj,W.heap[r]?=some o/\o.isCells=false):TM W' V S T p gb cap m g:=by
 obtain⟨⟨_,h3⟩,⟨_,h4⟩⟩:=h.blk
 refine h.grown hg (fun e=>?_) fun e=>?_
 . obtain⟨o,h1,h2⟩:=hr _ e;rw[show W.heap[p]?=_ from h3] at h1;cases h1;cases h2
 . obtain⟨o,h1,h2⟩:=hr _ e;rw[show W.heap[gb]?=_ from h4] at h1;cases h1;cases h2
theorem Qaq {B:Nat}(A:TM W V S T p gb cap m g)(ho:Only p gb W W'):KeepsFrom B W W':=by
 obtain⟨⟨_,h3⟩,⟨_,h4⟩⟩:=A.blk
 refine⟨ho.size,fun k o hk h0 hc=>(ho.block k ?_ (fun e=>?_) fun e=>?_).trans h0⟩
 . exact(Array.getElem?_eq_some_iff.1 h0).1
 . subst e;rw[show W.heap[k]?=_ from h3] at h0;cases h0;cases hc
 . subst e;rw[show W.heap[k]?=_ from h4] at h0;cases h0;cases hc
def SpI (w0:World)(b Bs:Nat)(V S T:Int)(p gb cap m:Nat)(g:Mg9)(mk:Nat->Nat)(L:List Fr)(pre:List Nat)(W:World):Prop:=
 ∃ g1 a c,Bs<W.heap.size/\Boxed W (b+1) 3 (I ((a:Nat):Int))/\Boxed W (b+1+1) 3 (I ((c:Nat):Int))/\a<=nN V S/\c<=nN V S/\TB W b V S T p/\TM W V S T p gb cap (m+9*pre.length) g1/\Only p gb w0 W/\
  (pre=List.range pre.length->pre.length<=L.length->QdY (vxN V) mk g g1 (plug (fsB L pre.length) .nil) (Qd (fsB L pre.length)).1 (Qd (fsB L pre.length)).2/\a=(Qd (fsB L pre.length)).1.root/\c=(Qd (fsB L pre.length)).2.root)
theorem SpI.own {b Bs:Nat}{mk:Nat->Nat}{L:List Fr}{B:Nat}(hB:w0.heap.size<=B):OwnFrom B (SpI w0 b Bs V S T p gb cap m g mk L):=fun s W W' row hs hg hr=>by
 obtain⟨g1,a,c,h0,h1,h2,h3,h4,h5,h6,h7,h8⟩:=hs
 have hr':=fun r e=>(hr r e).2
 exact⟨g1,a,c,Nat.lt_of_lt_of_le h0 hg.size,Blk.own h1 hg hr',Blk.own h2 hg hr',h3,h4,Blk.own h5 hg hr',h6.own_ hg hr',h7.grown hg fun i hi=>by have:=(hr i hi).1;omega,h8⟩
theorem Qg1 {i j:Nat}(ho:Only p gb W W')(hi:i<W.heap.size)(hj:j<W.heap.size)(h1:i≠p)(h2:i≠gb)(h3:j≠p)(h4:j≠gb):KpB i j W W':=⟨ho.block i hi h1 h2,ho.block j hj h3 h4⟩
theorem KpB.set {i j q:Nat}(h:KpB i j W W')(h1:i≠q)(h2:j≠q)(u:Value):KpB i j W (W'.setCell (I1 q 0) u):=⟨(Below.heap_setCell W' (I1 q 0) u i h1).trans h.1,(Below.heap_setCell W' (I1 q 0) u j h2).trans h.2⟩
theorem Qha {mk:Nat->Nat}(hm:∀ x,mk x<4){t0:Tp}{L:List Fr}{g1:Mg9}{k:Nat}(hL:plug L .nil=t0)(hl:Qe (vxN V) mk g t0)(hz:t0.size<65536)(hnd:t0.row.Nodup)(hn:∀ y∈t0.row,y≠0)(hk:k<L.length)
 (h:QdY (vxN V) mk g g1 (plug (fsB L k) .nil) (Qd (fsB L k)).1 (Qd (fsB L k)).2):
 QdY (vxN V) mk g (QaL (vxN V) g1 (bkF L k).2.x (bkF L k).2.rt (if (bkF L k).2.rt then (Qd (fsB L k)).1.root else (Qd (fsB L k)).2.root)) (plug (fsB L (k+1)) .nil) (Qd (fsB L (k+1))).1 (Qd (fsB L (k+1))).2:=by
 have hs:t0=plug (L.take (L.length-(k+1))) (plug (fsB L (k+1)) .nil):=by rw[<-QeI];unfold fsB;rw[List.take_append_drop,hL]
 have hfr:=(QdA hm (fs:=L) (t:=.nil) (by rw[hL];exact hl) (by rw[hL];exact hz) (by rw[hL];exact hn)).1 _ (Qje hk)
 have h1:(plug (fsB L (k+1)) .nil).row.Nodup:=by rw[hs] at hnd;exact QcT hnd
 have h2:∀ y∈(plug (fsB L (k+1)) .nil).row,y≠0:=fun y hy=>hn y (by rw[hs];exact Qdd hy)
 have h3:(plug (fsB L (k+1)) .nil).size<65536:=by
  have:=Qbq (L.take (L.length-(k+1))) (plug (fsB L (k+1)) .nil);rw[<-hs] at this;omega
 rw[Qdl hk] at h1 h2 h3 |-;exact h.next hm hfr h1 h2 h3
theorem QfZ {mk:Nat->Nat}(L:List Fr)(hz:∀ k,g 0 k=0):QdY (vxN V) mk g g (plug (fsB L 0) .nil) (Qd (fsB L 0)).1 (Qd (fsB L 0)).2:=by
 rw[Qcx];exact⟨trivial,trivial,hz,fun _ _ _=>rfl,fun _=>rfl⟩
theorem Qhb {mk:Nat->Nat}{g1:Mg9}{t a b:Tp}(h:QdY (vxN V) mk g g1 t a b)(ha:∀ y∈a.row,y∈t.row)(hb:∀ y∈b.row,y∈t.row)(hd:∀ y∈a.row,y∉b.row)(na:a.row.Nodup)(nb:b.row.Nodup):
 Q7 (vxN V) mk (setP (setP g1 a.root 0) b.root 0) a/\Q7 (vxN V) mk (setP (setP g1 a.root 0) b.root 0) b/\(∀ y,y∉t.row->∀ k,setP (setP g1 a.root 0) b.root 0 y k=g y k)/\∀ y,setP (setP g1 a.root 0) b.root 0 y 5=g y 5:=by
 have ab_:∀ y∈a.row,y≠b.root\/b.root=0:=fun y hy=>by
  by_cases h0:b.root=0
  . exact .inr h0
  . exact .inl fun e=>hd y hy (e ▸ Tp.root_mem h0)
 have other:∀ y,(y≠a.root\/a.root=0)->(y≠b.root\/b.root=0)->∀ k,setP (setP g1 a.root 0) b.root 0 y k=g1 y k:=fun y h1 h2 k=>by
  have e1:setP g1 a.root 0 y k=g1 y k:=by
   rcases h1 with h1|h1
   . exact Qq _ _ _ h1
   . unfold setP;rw[if_pos h1]
  rcases h2 with h2|h2
  . rw[Qq _ _ _ h2,e1]
  . unfold setP at e1 |-;rw[if_pos h2];exact e1
 refine⟨⟨h.la.congr (fun y _=>⟨rfl,?_,?_,?_⟩) na fun y hy hne=>other y (.inl hne) (ab_ y hy) 2,fun h0=>?_⟩,⟨h.lb.congr (fun y _=>⟨rfl,?_,?_,?_⟩) nb fun y hy hne=>?_,fun h0=>?_⟩,fun y hy k=>?_,fun y=>?_⟩
 . rw[Qb _ _ _ _ (by decide),Qb _ _ _ _ (by decide)]
 . rw[Qb _ _ _ _ (by decide),Qb _ _ _ _ (by decide)]
 . rw[Qb _ _ _ _ (by decide),Qb _ _ _ _ (by decide)]
 . rcases ab_ _ (Tp.root_mem h0) with e|e
   . rw[Qq _ _ _ e,Qbo _ _ h0]
   . unfold setP;rw[if_pos e,if_neg h0,Qaf]
 . rw[Qb _ _ _ _ (by decide),Qb _ _ _ _ (by decide)]
 . rw[Qb _ _ _ _ (by decide),Qb _ _ _ _ (by decide)]
 . rw[Qb _ _ _ _ (by decide),Qb _ _ _ _ (by decide)]
 . refine other y ?_ (.inl hne) 2
   by_cases h0:a.root=0
   . exact .inr h0
   . exact .inl fun e=>hd _ (Tp.root_mem h0) (e ▸ hy)
 . exact Qbo _ _ h0
 . refine(other y ?_ ?_ k).trans (h.o y hy k)
   . by_cases h0:a.root=0
     . exact .inr h0
     . exact .inl fun e=>hy (e ▸ ha _ (Tp.root_mem h0))
   . by_cases h0:b.root=0
     . exact .inr h0
     . exact .inl fun e=>hy (e ▸ hb _ (Tp.root_mem h0))
 . rw[Qb _ _ _ _ (by decide),Qb _ _ _ _ (by decide)];exact h.p y
theorem Qk6 (A:TM w V S T p gb cap m g){x c:Nat}(h:Qjw V S x c)(hm:m<=99999980):
 Calls Tryz.prog 147 #[vTr V S T p,.agg #[I (x:Int),I 4],I (c:Int)] w (Did V S T p gb cap (m+9) (QaL (vxN V) g x true c) (.tuple #[]) w):=QmN (rt:=true) A h hm
theorem Qk7 (A:TM w V S T p gb cap m g){x c:Nat}(h:Qjw V S x c)(hm:m<=99999980):
 Calls Tryz.prog 147 #[vTr V S T p,.agg #[I (x:Int),I 3],I (c:Int)] w (Did V S T p gb cap (m+9) (QaL (vxN V) g x false c) (.tuple #[]) w):=QmN (rt:=false) A h hm
def QnD (V S T:Int)(p gb cap m:Nat)(g:Mg9)(mk:Nat->Nat)(t ta tb:Tp)(w:World)(e:Ending)(w':World):Prop:=
 ∃ g',e=.returned (.tuple #[I ((ta.root:Nat):Int),I ((tb.root:Nat):Int)])/\TM w' V S T p gb cap m g'/\Only p gb w w'/\Q7 (vxN V) mk g' ta/\Q7 (vxN V) mk g' tb/\(∀ y,y∉t.row->∀ k,g' y k=g y k)/\∀ y,g' y 5=g y 5
set_option maxHeartbeats 4000000 in
theorem QmF (A:TM w V S T p gb cap m g){t0:Tp}{mk:Nat->Nat}{k0:Int}(hmk:∀ x,mk x<4)(hk1:-9223372036854775808<=k0)(hk2:k0<=9223372036854775807)(hL:Qe (vxN V) mk g t0)(hz:t0.size<=nN V S)(hnd:t0.row.Nodup)(hn:∀ y∈t0.row,y≠0/\y<=nN V S)(hm:m<=99970000):
 Calls Tryz.prog 120 #[vTr V S T p,I (t0.root:Int),I k0] w (QnD V S T p gb cap (m+12*nN V S+4) g mk t0 (Qd (wayT k0 t0)).1 (Qd (wayT k0 t0)).2 w):=by
 have hn560:=Ql A.hR;have HA:=q9 A;have HMK:=q9 hmk;have HP0:Hid (Qe (vxN V) mk g t0/\t0.size<=nN V S/\(∀ y∈t0.row,y≠0/\y<=nN V S)/\t0.row.Nodup):=q9 ⟨hL,hz,hn,hnd⟩
 have HLL:Hid ((wayT k0 t0).length<=nN V S):=q9 (by have:=Qbq (wayT k0 t0) .nil;rw[QaX] at this;rw[Tp.size_nil] at this;omega)
 have hpl:=QaX k0 t0
 have HFX:Hid (∀ f∈wayT k0 t0,1<=f.x/\f.x<=nN V S):=q9 fun f hf=>by
  have h1:=Qf6 (t:=.nil) hf;rw[hpl] at h1;have:=hn _ h1;omega
 have HPL:=q9 hpl;obtain⟨L,hLE⟩:∃ L,wayT k0 t0=L:=⟨_,rfl⟩;rw[hLE] at HLL HFX HPL;rw[hLE];have HLE:=q9 hLE;clear hL hz hn A hmk hnd hpl hLE;refine(callsIn_wide (n:=10)).1 ?_;refine callsIn_of_wp_marks Tryz.func120 rfl trivial ?_ rfl;simp only[Tryz.ntmps120,List.size_toArray,List.length_cons,List.length_nil,Nat.reduceAdd,Nat.reduceSub,Array.replicate_succ,Array.replicate_zero,List.push_toArray,List.append_toArray,List.nil_append,List.cons_append]
 gi_wp2_with fail
 have HT:Hid (TB (((w.alloc (I5 V S T p)).alloc (.cells #[I 0] 3)).alloc (.cells #[I 0] 3)) w.heap.size V S T p):=q9 (((TB.new w V S T p).alloc _).alloc _);have HB1:Hid (Blk (((w.alloc (I5 V S T p)).alloc (.cells #[I 0] 3)).alloc (.cells #[I 0] 3)) (w.heap.size+1) 3 #[I 0]):=q9 ((Q8 w _ _ _ _).alloc _)
 have HB2:Hid (Blk (((w.alloc (I5 V S T p)).alloc (.cells #[I 0] 3)).alloc (.cells #[I 0] 3)) (w.heap.size+1+1) 3 #[I 0]):=q9 (by have:=Q8 (w.alloc (I5 V S T p)) 3 3 #[I 0] #[I 0];simpa using this)
 have HA0:=q9 (((HA.alloc (I5 V S T p)).alloc (.cells #[I 0] 3)).alloc (.cells #[I 0] 3));have HO0:=q9 ((((Only.refl p gb w).alloc (I5 V S T p)).alloc (.cells #[I 0] 3)).alloc (.cells #[I 0] 3));generalize hwb:w.heap.size=b at HT HB1 HB2 |-;generalize ((w.alloc (I5 V S T p)).alloc (.cells #[I 0] 3)).alloc (.cells #[I 0] 3)=W0 at HT HB1 HB2 HA0 HO0 |-;refine⟨trivial,?_⟩
 refine(callsIn_wide.2 (QmD HA0 HMK hk1 hk2 HP0.1 HP0.2.1 HP0.2.2.1 (by omega))).mono ?_;rintro e w1 ⟨v,rfl,R1,A1,O1⟩;rw[HLE.out] at R1
 have HT1:=q9 (HT.only HA0.out O1)
 have HB11:=q9 (HB1.treap HA0.out O1 (by decide) (by decide))
 have HB21:=q9 (HB2.treap HA0.out O1 (by decide) (by decide))
 have HA1:=q9 A1;have HO1:=q9 (HO0.trans O1);have HR1:=q9 R1;obtain⟨av,vc,rfl⟩:=R1.slice;clear R1 A1 O1 HT HB1 HB2 HA0 HO0 HA;obtain⟨y0,y1,y2,y3,y4,y5⟩:=HT1.cells;have hlt:=HT1.lt
 gi_wp2_with fail
 refine⟨trivial,?_⟩;refine(QdS Fence.wide _ trivial rfl _ _ _ _).mono ?_;rintro e w2 ⟨rfl,rfl⟩
 gi_wp2_with fail
 obtain⟨Bs,hBs⟩:∃ Bs,w1.heap.size=Bs:=⟨_,rfl⟩;obtain⟨W2,hW2⟩:∃ W2,w1.alloc (.cells #[.slice av L.length vc] 184)=W2:=⟨_,rfl⟩
 have HX1:Hid (Blk W2 Bs 184 #[.slice av L.length vc]):=q9 (by rw[<-hW2,<-hBs];exact Blk.new _ _ _)
 have HR2:Hid (RowW W2 W0.heap.size (.slice av L.length vc) L):=q9 (by rw[<-hW2];exact HR1.alloc _)
 have HT2:Hid (TB W2 b V S T p):=q9 (by rw[<-hW2];exact HT1.alloc _)
 have HB12:Hid (Blk W2 (b+1) 3 #[I 0]):=q9 (by rw[<-hW2];exact HB11.alloc _)
 have HB22:Hid (Blk W2 (b+1+1) 3 #[I 0]):=q9 (by rw[<-hW2];exact HB21.alloc _)
 have HA2:Hid (TM W2 V S T p gb cap (m+3*nN V S) g):=q9 (by rw[<-hW2];exact HA1.alloc _)
 have HO2:Hid (Only p gb w W2):=q9 (by rw[<-hW2];exact HO1.alloc _)
 obtain⟨q,hq⟩:∃ q,Qe6 (.slice av L.length vc) Bs=q:=⟨_,rfl⟩
 have hs2:W2.heap.size=Bs+1:=by rw[<-hW2,<-hBs];simp
 have HNE:Hid ((Bs≠p/\Bs≠gb/\Bs≠b+1/\Bs≠b+1+1)/\(q≠p/\q≠gb/\q≠b+1/\q≠b+1+1)/\q<=Bs):=q9 (by
  have p1:=HA1.p_lt;have p2:=HA1.g_lt;have p3:=HB11.lt;have p4:=HB21.lt
  have hb1:Bs≠p/\Bs≠gb/\Bs≠b+1/\Bs≠b+1+1:=⟨by omega,by omega,by omega,by omega⟩
  refine⟨hb1,?_⟩;rw[<-hq];unfold Qe6
  cases e:(Value.slice av L.length vc).ownBlock with
  |none=>exact⟨hb1,Nat.le_refl _⟩
  |some r=>
   have n1:=HR1.ne_t HA1.out
   have n2:=HR1.ne_blk HB11.out (by decide)
   have n3:=HR1.ne_blk HB21.out (by decide)
   have n4:=(HR1.lt r e).2;rw[e] at n1 n2 n3
   exact⟨⟨fun h=>n1.1 (by rw[<-h];rfl),fun h=>n1.2 (by rw[<-h];rfl),fun h=>n2 (by rw[<-h];rfl),fun h=>n3 (by rw[<-h];rfl)⟩,by show r<=Bs;omega⟩)
 have HBB:Hid (b+1+1<Bs):=q9 (by have p4:=HB21.lt;omega)
 rw[hW2,hBs];clear HT1 HB11 HB21 HA1 HO1 HR1 y0 y1 y2 y3 y4 y5 hlt hW2 hk1 hk2
 refine wpIn_rangeFunc_ownH (w:=W2) rfl (by omega) (gf:=160) (lb:=#[.pointer (some (I1 Bs 0))]) rfl trivial (enters_of Tryz.func160 (by kernel_rfl) rfl)
  (Qer Fence.wide (10-1) trivial rfl (by omega) Bs W0.heap.size _ L (by have:=HLL.out;omega) W2 HX1.out HR2.out) KpB.trans
  (fun W l o o' hl _ _ _=>⟨World.putObj_heap_other (by omega),World.putObj_heap_other (by rw[hq];have:=HNE.2.2;omega)⟩) (Below.refl _ _) (fun _=>rfl)
  (SpI w b Bs V S T p gb cap (m+3*nN V S) g mk L) (fun _ _ _=>False) (SpI.own (by have:=HO2.size;omega)) (fun _ _ _ _ _ hs _ _=>hs)
  ⟨g,0,0,by omega,HB12.out,HB22.out,Nat.zero_le _,Nat.zero_le _,HT2.out,HA2.out,HO2.out,fun _ _=>⟨QfZ L HA2.z,by rw[List.length_nil,Qcx];rfl,by rw[List.length_nil,Qcx];rfl⟩⟩
  (fun k a' W=>∃ Bx,Blk W Bx 191 #[I ((bkF L k).2.x:Int),I (sd (bkF L k).2.rt:Int)]/\a'={ tmps:=#[vTr V S T p,I (t0.root:Int),I k0,.pointer (some (I1 b 0)),undef,undef,.pointer (some ⟨b+1,0,none⟩),.pointer (some ⟨b+1+1,0,none⟩),undef,.pointer (some (I1 Bx 0)),vTr V S T p,I (t0.root:Int),I k0,.slice av L.length vc,.func (.func 160) #[] #[.pointer (some (I1 Bs 0))],I ((bkF L k).1:Int),vTn (bkF L k).2.x (sd (bkF L k).2.rt),undef,undef,undef,undef,undef,undef,undef,undef,undef,undef,undef,undef,undef,undef,undef,undef,undef,undef,undef,undef,undef,undef,undef],defers:=[]})
  (fun k a' _ X Y row hs hg hr=>by obtain⟨Bx,h1,h2⟩:=hs;exact⟨Bx,Blk.own h1 hg (fun r e=>(hr r e).2),h2⟩)
  ?assign ?body ?done ?stop
 case assign=>
  rintro l pre x W K hI hK
  gi_wp2_with fail
  have hBW:Bs<W.heap.size:=by obtain⟨_,_,_,h0,_⟩:=hI;exact h0
  exact hK _ _ ((KeepsOthers.alloc _ _).from _) ⟨Below.heap_alloc W _ _ hBW,Below.heap_alloc W _ _ (by rw[hq];have:=HNE.2.2;omega)⟩ ((SpI.own (w0:=w) (B:=W2.heap.size) (by have:=HO2.size;omega)).alloc _ hI) ⟨W.heap.size,Blk.new _ _ _,rfl⟩
 case body=>
  rintro l pre x a' W hl ⟨r,hr⟩ hI ⟨Bx,hX,rfl⟩ hlt;obtain⟨g1,a,c,h0,hBa,hBc,ha,hc,hT,hA,hO,hst⟩:=hI
  have hbase:w.heap.size<=b+1:=by omega
  have HT3:=q9 hT;have HA3:=q9 hA;have HO3:=q9 hO;have HBa:Hid (Blk W (b+1) 3 #[I (a:Int)]):=q9 hBa;have HBc:Hid (Blk W (b+1+1) 3 #[I (c:Int)]):=q9 hBc;have HX3:=q9 hX;have HST:=q9 hst;have HI0:=q9 h0;have HFO:=q9 (Qlk (Qlf hA.hR) HFX.out x);have HPN:Hid (pre.length<L.length):=q9 hlt
  have hMM:m+3*nN V S+9*pre.length<=99990000:=by have:=HLL.out;omega
  obtain⟨y0,y1,y2,y3,y4,y5⟩:=hT.cells;have tlt:=hT.lt;have ca:W.cell? ⟨b+1,0,none⟩=some (I (a:Int)):=HBa.cell 0;have cc:W.cell? ⟨b+1+1,0,none⟩=some (I (c:Int)):=HBc.cell 0;have alt:=HBa.lt;have clt:=HBc.lt;have xlt:=hX.lt;have x0:W.cell? (I1 Bx 0)=some (I ((bkF L x).2.x:Int)):=hX.cell 0;have x1:W.cell? (I1 Bx 1)=some (I (sd (bkF L x).2.rt:Int)):=hX.cell 1
  have HST2:Hid (∀ rt,(bkF L x).2.rt=rt->∀ pre',pre'=pre++[x]->pre'=List.range pre'.length->pre'.length<=L.length->QdY (vxN V) mk g (QaL (vxN V) g1 (bkF L x).2.x rt (if rt then a else c)) (plug (fsB L pre'.length) .nil) (Qd (fsB L pre'.length)).1 (Qd (fsB L pre'.length)).2/\(if rt then (bkF L x).2.x else a)=(Qd (fsB L pre'.length)).1.root/\(if rt then c else (bkF L x).2.x)=(Qd (fsB L pre'.length)).2.root):=q9 (by
   rintro rt hrt pre' rfl hp hpl;rw[List.length_append,List.length_singleton] at hp hpl |-;rw[List.range_succ] at hp;obtain⟨hp1,hp2⟩:=List.append_inj' hp rfl
   have hx:x=pre.length:=by simpa using hp2
   obtain⟨s1,s2,s3⟩:=HST.out hp1 (by omega)
   have hn2:=Qha HMK.out (g1:=g1) (k:=pre.length) HPL.out HP0.1 (by have:=HP0.2.1;omega) HP0.2.2.2 (fun y hy=>(HP0.2.2.1 y hy).1) (by omega) s1
   rw[hx] at hrt |-;rw[hrt,<-s2,<-s3] at hn2;refine⟨hn2,?_⟩
   rw[Qdl (by omega)]
   unfold Qd;rw[hrt]
   cases rt
   . exact⟨s2,(Fr.join_root _ _).symm⟩
   . exact⟨(Fr.join_root _ _).symm,s3⟩)
  obtain⟨fx,hfx⟩:∃ fx,(bkF L x).2.x=fx:=⟨_,rfl⟩;have HFX2:=q9 hfx;rw[hfx] at x0 HFO HST2;rw[hfx];clear hT hA hO hBa hBc hX hst h0 hlt;generalize hrt:(bkF L x).2.rt=rt at x1 |-
  replace HST2:=q9 (HST2.out rt hrt)
  cases rt with
  |true=>
   have x1':W.cell? (I1 Bx 1)=some (I 4):=x1;clear x1;have HS3:Hid (∀ pre',pre'=pre++[x]->pre'=List.range pre'.length->pre'.length<=L.length->QdY (vxN V) mk g (QaL (vxN V) g1 fx true a) (plug (fsB L pre'.length) .nil) (Qd (fsB L pre'.length)).1 (Qd (fsB L pre'.length)).2/\fx=(Qd (fsB L pre'.length)).1.root/\c=(Qd (fsB L pre'.length)).2.root):=HST2
   gi_wp2_with fail
   refine⟨trivial,?_⟩
   refine(CallsIn.inRound l (callsIn_wide.2 (Qk6 HA3 ⟨HFO.1,HFO.2,ha⟩ (by omega)))).mono ?_;rintro e w5 ⟨rfl,A5,O5⟩
   have HA5:=q9 A5;have HO5:=q9 O5;have HT5:=q9 (HT3.only HA3.out O5)
   have HBa5:=q9 (HBa.treap HA3.out O5 (by decide) (by decide))
   have HBc5:=q9 (HBc.treap HA3.out O5 (by decide) (by decide))
   have HX5:=q9 (HX3.treap HA3.out O5 (by decide) (by decide))
   clear A5 O5 y0 y1 y2 y3 y4 y5 tlt ca cc alt clt xlt x0 x1'
   have x0:w5.cell? (I1 Bx 0)=some (I (fx:Int)):=by rw[<-HFX2.out];exact HX5.cell 0
   have xlt:=HX5.lt;have ba:=HBa5.cell 0;have bc:=HBc5.cell 0;have fa:=HBa5.frozen;have fc:=HBc5.frozen;have alt:=HBa5.lt;have clt:=HBc5.lt
   gi_wp2_with fail
   have hq5:q<W.heap.size:=by have:=HNE.2.2;have:=HI0.out;omega
   refine⟨(Qaq HA3 HO5).trans ((KeepsOthers.setCell _ _ _).from _),?_,?_⟩
   . rw[hq];exact(Qg1 HO5 HI0 hq5 HNE.1.1 HNE.1.2.1 HNE.2.1.1 HNE.2.1.2.1).set HNE.1.2.2.1 HNE.2.1.2.2.1 _
   . exact⟨_,fx,c,by have:=HO5.size;have:=HI0.out;simpa [World.setCell] using (by omega:Bs<w5.heap.size),HBa5.set_ 0 _,HBc5.far (by simp) _,HFO.2,hc,Blk.far HT5.out (by simp) _,by rw[List.length_append,List.length_singleton,show m+3*nN V S+9*(pre.length+1)=m+3*nN V S+9*pre.length+9 by omega];exact HA5.far HBa5 (by decide) (by decide) _,(HO3.trans HO5).set_new (by omega) _,HS3 _ rfl⟩
  |false=>
   have x1':W.cell? (I1 Bx 1)=some (I 3):=x1;clear x1;have HS3:Hid (∀ pre',pre'=pre++[x]->pre'=List.range pre'.length->pre'.length<=L.length->QdY (vxN V) mk g (QaL (vxN V) g1 fx false c) (plug (fsB L pre'.length) .nil) (Qd (fsB L pre'.length)).1 (Qd (fsB L pre'.length)).2/\a=(Qd (fsB L pre'.length)).1.root/\fx=(Qd (fsB L pre'.length)).2.root):=HST2
   gi_wp2_with fail
   refine⟨trivial,?_⟩
   refine(CallsIn.inRound l (callsIn_wide.2 (Qk7 HA3 ⟨HFO.1,HFO.2,hc⟩ (by omega)))).mono ?_;rintro e w5 ⟨rfl,A5,O5⟩
   have HA5:=q9 A5;have HO5:=q9 O5;have HT5:=q9 (HT3.only HA3.out O5)
   have HBa5:=q9 (HBa.treap HA3.out O5 (by decide) (by decide))
   have HBc5:=q9 (HBc.treap HA3.out O5 (by decide) (by decide))
   have HX5:=q9 (HX3.treap HA3.out O5 (by decide) (by decide))
   clear A5 O5 y0 y1 y2 y3 y4 y5 tlt ca cc alt clt xlt x0 x1'
   have x0:w5.cell? (I1 Bx 0)=some (I (fx:Int)):=by rw[<-HFX2.out];exact HX5.cell 0
   have xlt:=HX5.lt;have ba:=HBa5.cell 0;have bc:=HBc5.cell 0;have fa:=HBa5.frozen;have fc:=HBc5.frozen;have alt:=HBa5.lt;have clt:=HBc5.lt
   gi_wp2_with fail
   have hq5:q<W.heap.size:=by have:=HNE.2.2;have:=HI0.out;omega
   refine⟨(Qaq HA3 HO5).trans ((KeepsOthers.setCell _ _ _).from _),?_,?_⟩
   . rw[hq];exact(Qg1 HO5 HI0 hq5 HNE.1.1 HNE.1.2.1 HNE.2.1.1 HNE.2.1.2.1).set HNE.1.2.2.2 HNE.2.1.2.2.2 _
   . exact⟨_,a,fx,by have:=HO5.size;have:=HI0.out;simpa [World.setCell] using (by omega:Bs<w5.heap.size),HBa5.far (by simp) _,HBc5.set_ 0 _,ha,HFO.2,Blk.far HT5.out (by simp;omega) _,by rw[List.length_append,List.length_singleton,show m+3*nN V S+9*(pre.length+1)=m+3*nN V S+9*pre.length+9 by omega];exact HA5.far HBc5 (by decide) (by decide) _,(HO3.trans HO5).set_new (by omega) _,HS3 _ rfl⟩
 case done=>
  rintro D ys W hD rfl hI hK;obtain⟨g1,a,c,h0,hBa,hBc,ha,hc,hT,hA,hO,hst⟩:=hI
  obtain⟨s1,s2,s3⟩:=hst (by rw[List.length_range]) (by rw[List.length_range];exact Nat.le_refl _)
  rw[List.length_range,QiW] at s1 s2 s3;rw[HPL.out] at s1;have HS:=q9 (And.intro s1 (And.intro s2 s3));have HT3:=q9 hT;have HA3:=q9 hA;have HO3:=q9 hO;have HBa:Hid (Blk W (b+1) 3 #[I (a:Int)]):=q9 hBa;have HBc:Hid (Blk W (b+1+1) 3 #[I (c:Int)]):=q9 hBc;have HK:=q9 hK
  have HDD:Hid (Bs<D):=q9 (by omega)
  obtain⟨M,hM⟩:∃ M,m+3*nN V S+9*(List.range L.length).length=M:=⟨_,rfl⟩;rw[hM] at HA3
  have hM1:M<=m+12*nN V S:=by rw[<-hM,List.length_range];have:=HLL.out;omega
  obtain⟨y0,y1,y2,y3,y4,y5⟩:=hT.cells;have tlt:=hT.lt;have ca:W.cell? ⟨b+1,0,none⟩=some (I (a:Int)):=HBa.cell 0;have alt:=HBa.lt;clear hT hA hO hBa hBc hst s1 s2 s3 hK hM
  gi_wp2_with fail
  refine⟨trivial,?_⟩
  refine(callsIn_wide.2 (QaZ (v:=0) HA3 ha (Nat.zero_le _) (by omega))).mono ?_;rintro e w5 ⟨rfl,A5,O5⟩
  have HA5:=q9 A5;have HO5:=q9 (HO3.trans O5);have HT5:=q9 (HT3.only HA3.out O5)
  have HBa5:=q9 (HBa.treap HA3.out O5 (by decide) (by decide))
  have HBc5:=q9 (HBc.treap HA3.out O5 (by decide) (by decide))
  have HK5:Hid (w5.heap[D]?=some (.deferred (some []))):=q9 ((O5.block D (Array.getElem?_eq_some_iff.1 HK.out).1 (by have:=HNE.out;have:=HA2.p_lt;omega) (by have:=HA2.g_lt;omega)).trans HK.out)
  clear A5 O5 y0 y1 y2 y3 y4 y5 tlt ca alt HT3 HA3 HO3 HBa HBc HK;obtain⟨y0,y1,y2,y3,y4,y5⟩:=HT5.cells;have tlt:=HT5.lt;have cc:w5.cell? ⟨b+1+1,0,none⟩=some (I (c:Int)):=HBc5.cell 0;have clt:=HBc5.lt
  gi_wp2_with fail
  refine⟨trivial,?_⟩
  refine(callsIn_wide.2 (QaZ (v:=0) HA5 hc (Nat.zero_le _) (by omega))).mono ?_;rintro e w6 ⟨rfl,A6,O6⟩
  have HA6:=q9 A6;have HO6:=q9 (HO5.trans O6)
  have HBa6:=q9 (HBa5.treap HA5.out O6 (by decide) (by decide))
  have HBc6:=q9 (HBc5.treap HA5.out O6 (by decide) (by decide))
  have HK6:Hid (w6.heap[D]?=some (.deferred (some []))):=q9 ((O6.block D (Array.getElem?_eq_some_iff.1 HK5.out).1 (by have:=HA2.p_lt;omega) (by have:=HA2.g_lt;omega)).trans HK5.out)
  clear A6 O6 y0 y1 y2 y3 y4 y5 tlt cc clt HT5 HA5 HO5 HBa5 HBc5 HK5;have ca:w6.cell? ⟨b+1,0,none⟩=some (I (a:Int)):=HBa6.cell 0;have cc:w6.cell? ⟨b+1+1,0,none⟩=some (I (c:Int)):=HBc6.cell 0;have fa:=HBa6.frozen;have fc:=HBc6.frozen;have alt:=HBa6.lt;have clt:=HBc6.lt
  gi_wp2_with fail
  refine wpIn_wide.2 ?_;go_region
  have HKZ:Hid (((w6.setCell ⟨b+1,0,none⟩ (I (a:Int))).setCell ⟨b+1+1,0,none⟩ (I (c:Int))).drew.heap[D]?=some (.deferred (some []))):=q9 ((Below.heap_setCell (w6.setCell ⟨b+1,0,none⟩ (I (a:Int))) ⟨b+1+1,0,none⟩ _ D (by have:=HBB.out;have:=HDD.out;simp;omega)).trans ((Below.heap_setCell w6 ⟨b+1,0,none⟩ _ D (by have:=HBB.out;have:=HDD.out;simp;omega)).trans HK6.out))
  have HBaZ:Hid (Blk ((w6.setCell ⟨b+1,0,none⟩ (I (a:Int))).setCell ⟨b+1+1,0,none⟩ (I (c:Int))).drew (b+1) 3 #[I (a:Int)]):=q9 ((HBa6.set_ 0 _).far (by simp) _)
  have HBcZ:Hid (Blk ((w6.setCell ⟨b+1,0,none⟩ (I (a:Int))).setCell ⟨b+1+1,0,none⟩ (I (c:Int))).drew (b+1+1) 3 #[I (c:Int)]):=q9 ((HBc6.far (by simp) _).set_ 0 _)
  have HAZ:Hid (TM ((w6.setCell ⟨b+1,0,none⟩ (I (a:Int))).setCell ⟨b+1+1,0,none⟩ (I (c:Int))).drew V S T p gb cap (M+2+2) (setP (setP g1 a 0) c 0)):=q9 ((HA6.far HBa6.out (by decide) (by decide) _).far (HBc6.far (by simp) _) (by decide) (by decide) _).drew
  have HOZ:Hid (Only p gb w ((w6.setCell ⟨b+1,0,none⟩ (I (a:Int))).setCell ⟨b+1+1,0,none⟩ (I (c:Int))).drew):=q9 ((HO6.set_new (by omega) _).set_new (by omega) _).drew
  generalize ((w6.setCell ⟨b+1,0,none⟩ (I (a:Int))).setCell ⟨b+1+1,0,none⟩ (I (c:Int))).drew=Z at HKZ HBaZ HBcZ HAZ HOZ |-;clear HBa6 HBc6 HA6 HO6 HK6 ca cc fa fc alt clt
  gi_wp2_with fail
  have HNP:Hid (D≠p/\D≠gb/\w.heap.size<=D):=q9 ⟨by have:=HA2.p_lt;omega,by have:=HA2.g_lt;omega,by have:=HBB.out;have:=HDD.out;omega⟩
  have HBaY:Hid (Blk (Z.putObj D (.deferred none)) (b+1) 3 #[I (a:Int)]):=q9 ((World.putObj_heap_other (by have:=HBB.out;have:=HDD.out;omega)).trans HBaZ.out)
  have HBcY:Hid (Blk (Z.putObj D (.deferred none)) (b+1+1) 3 #[I (c:Int)]):=q9 ((World.putObj_heap_other (by have:=HBB.out;have:=HDD.out;omega)).trans HBcZ.out)
  have ca:(Z.putObj D (.deferred none)).cell? ⟨b+1,0,none⟩=some (I (a:Int)):=HBaY.cell 0;have cc:(Z.putObj D (.deferred none)).cell? ⟨b+1+1,0,none⟩=some (I (c:Int)):=HBcY.cell 0;have hgr:=grownBy_putObj' Z D (.deferred none)
  refine⟨by simp,.inl ⟨_,_,rfl,run_takeDeferred HKZ.out,?_⟩⟩
  refine⟨.tuple #[I (a:Int),I (c:Int)],by simp [results,Tryz.results120,go_sem,ca,cc],?_⟩
  obtain⟨s1,s2,s3⟩:=HS.out;have hrow:=Qam L;rw[HPL.out] at hrow;have hnd2:=HP0.2.2.2;rw[<-hrow,List.nodup_append] at hnd2
  obtain⟨d1,d2,d3,d4⟩:=Qhb s1 (fun y hy=>by rw[<-hrow];exact List.mem_append_left _ hy) (fun y hy=>by rw[<-hrow];exact List.mem_append_right _ hy) (fun y h1 h2=>hnd2.2.2 y h1 y h2 rfl) hnd2.1 hnd2.2.1
  rw[<-s2,<-s3] at d1 d2 d3 d4
  exact⟨_,by rw[<-s2,<-s3],(HAZ.grown hgr (by intro e;cases e;exact HNP.1 rfl) (by intro e;cases e;exact HNP.2.1 rfl)).more (by omega),HOZ.grown hgr (by intro i e;cases e;exact HNP.2.2),d1,d2,d3,d4⟩
 case stop=>
  rintro D c pre W _ _ h _;exact h.elim
end
attribute [local go_sem] Oper.semAt_some
section
variable {V S T:Int}{g:Mg9}{w w' w0 W W':World}{p gb cap m:Nat}{row:Option Nat}
def MgI (w0:World)(b r8 Bs:Nat)(V S T:Int)(p gb cap m:Nat)(g:Mg9)(mk:Nat->Nat)(L:List Fr)(rest:Tp)(pre:List Nat)(W:World):Prop:=
 ∃ g1 c,Bs<W.heap.size/\Boxed W r8 3 (I ((c:Nat):Int))/\c<=nN V S/\TB W b V S T p/\TM W V S T p gb cap (m+9*pre.length) g1/\Only p gb w0 W/\
  (pre=List.range pre.length->pre.length<=L.length->QdZ (vxN V) mk g g1 (plug (fsB L pre.length) rest)/\c=(plug (fsB L pre.length) rest).root)
theorem MgI.own {b r8 Bs:Nat}{mk:Nat->Nat}{L:List Fr}{rest:Tp}{B:Nat}(hB:w0.heap.size<=B):OwnFrom B (MgI w0 b r8 Bs V S T p gb cap m g mk L rest):=fun s W W' row hs hg hr=>by
 obtain⟨g1,c,h0,h2,h4,h5,h6,h7,h8⟩:=hs
 have hr':=fun r e=>(hr r e).2
 exact⟨g1,c,Nat.lt_of_lt_of_le h0 hg.size,Blk.own h2 hg hr',h4,Blk.own h5 hg hr',h6.own_ hg hr',h7.grown hg fun i hi=>by have:=(hr i hi).1;omega,h8⟩
theorem Qho {mk:Nat->Nat}(hm:∀ x,mk x<4){t0 rest:Tp}{L:List Fr}{g1:Mg9}{k:Nat}(hL:plug L rest=t0)(hf:∀ f∈L,FrOk (vxN V) mk g f)(hz:t0.size<65536)(hnd:t0.row.Nodup)(hn:∀ y∈t0.row,y≠0)(hk:k<L.length)
 (h:QdZ (vxN V) mk g g1 (plug (fsB L k) rest)):QdZ (vxN V) mk g (QaL (vxN V) g1 (bkF L k).2.x (bkF L k).2.rt (plug (fsB L k) rest).root) (plug (fsB L (k+1)) rest):=by
 have hs:t0=plug (L.take (L.length-(k+1))) (plug (fsB L (k+1)) rest):=by rw[<-QeI];unfold fsB;rw[List.take_append_drop,hL]
 have h1:(plug (fsB L (k+1)) rest).row.Nodup:=by rw[hs] at hnd;exact QcT hnd
 have h2:∀ y∈(plug (fsB L (k+1)) rest).row,y≠0:=fun y hy=>hn y (by rw[hs];exact Qdd hy)
 have h3:(plug (fsB L (k+1)) rest).size<65536:=by
  have:=Qbq (L.take (L.length-(k+1))) (plug (fsB L (k+1)) rest);rw[<-hs] at this;omega
 rw[Qdl hk] at h1 h2 h3 |-;exact h.next hm (hf _ (Qje hk)) h1 h2 h3
theorem Qhp {mk:Nat->Nat}{g1:Mg9}{t:Tp}(h:QdZ (vxN V) mk g g1 t)(n:t.row.Nodup):Q7 (vxN V) mk (setP g1 t.root 0) t/\(∀ y,y∉t.row->∀ k,setP g1 t.root 0 y k=g y k)/\∀ y,setP g1 t.root 0 y 5=g y 5:=by
 refine⟨⟨h.l.congr (fun y _=>⟨rfl,Qb _ _ _ _ (by decide),Qb _ _ _ _ (by decide),Qb _ _ _ _ (by decide)⟩) n fun y _ hne=>Qq _ _ _ hne,fun h0=>Qbo _ _ h0⟩,fun y hy k=>?_,fun y=>(Qb _ _ _ _ (by decide)).trans (h.p y)⟩
 by_cases h0:t.root=0
 . unfold setP;rw[if_pos h0];exact h.o y hy k
 . rw[Qq _ _ _ fun e=>hy (by rw[e];exact Tp.root_mem h0)];exact h.o y hy k
def QnI (V S T:Int)(p gb cap m:Nat)(g:Mg9)(mk:Nat->Nat)(ta tb:Tp)(w:World)(e:Ending)(w':World):Prop:=
 ∃ g' t,e=.returned (I ((t.root:Nat):Int))/\TM w' V S T p gb cap m g'/\Only p gb w w'/\Q7 (vxN V) mk g' t/\t.row=ta.row++tb.row/\(Hp (fun z=>g z 5) ta->Hp (fun z=>g z 5) tb->Hp (fun z=>g z 5) t)/\(∀ y,y∉t.row->∀ k,g' y k=g y k)/\∀ y,g' y 5=g y 5
set_option maxHeartbeats 4000000 in
theorem QmG (A:TM w V S T p gb cap m g){ta tb:Tp}{mk:Nat->Nat}(hmk:∀ x,mk x<4)(hLa:Qe (vxN V) mk g ta)(hLb:Qe (vxN V) mk g tb)(hz:ta.size+tb.size<=nN V S)(hnd:(ta.row++tb.row).Nodup)(hna:∀ y∈ta.row,y≠0/\y<=nN V S)(hnb:∀ y∈tb.row,y≠0/\y<=nN V S)(hm:m<=99970000):
 Calls Tryz.prog 115 #[vTr V S T p,I (ta.root:Int),I (tb.root:Int)] w (QnI V S T p gb cap (m+12*nN V S+2) g mk ta tb w):=by
 have hn560:=Ql A.hR;have HA:=q9 A;have HMK:=q9 hmk;have HP0:Hid (Qe (vxN V) mk g ta/\Qe (vxN V) mk g tb/\ta.size+tb.size<=nN V S/\(∀ y∈ta.row,y≠0/\y<=nN V S)/\(∀ y∈tb.row,y≠0/\y<=nN V S)/\(ta.row++tb.row).Nodup):=q9 ⟨hLa,hLb,hz,hna,hnb,hnd⟩;clear hLa hLb hz hna hnb A hmk hnd;refine(callsIn_wide (n:=10)).1 ?_;refine callsIn_of_wp_marks Tryz.func115 rfl trivial ?_ rfl;simp only[Tryz.ntmps115,List.size_toArray,List.length_cons,List.length_nil,Nat.reduceAdd,Nat.reduceSub,Array.replicate_succ,Array.replicate_zero,List.push_toArray,List.append_toArray,List.nil_append,List.cons_append]
 gi_wp2_with fail
 have HT:Hid (TB (w.alloc (I5 V S T p)) w.heap.size V S T p):=q9 (TB.new w V S T p);have HA0:=q9 (HA.alloc (I5 V S T p));have HO0:=q9 ((Only.refl p gb w).alloc (I5 V S T p))
 have HWS:Hid (w.heap.size<(w.alloc (I5 V S T p)).heap.size):=q9 (by simp)
 generalize hwb:w.heap.size=b at HT HWS |-;generalize w.alloc (I5 V S T p)=W0 at HT HA0 HO0 HWS |-;refine⟨trivial,?_⟩
 refine(callsIn_wide.2 (QnP HA0 HP0.1 HP0.2.1 HP0.2.2.1 HP0.2.2.2.1 HP0.2.2.2.2.1 (by omega))).mono ?_;rintro e w1 ⟨v,L,rest,rfl,hM,R1,A1,O1⟩
 obtain⟨av,vc,rfl⟩:=R1.slice;have hpr:=hM.row
 have hfr:=hM.frames HMK.out HP0.1 HP0.2.1 (by have:=HP0.2.2.1;omega) (by have:=HP0.2.2.1;omega) (fun y hy=>(HP0.2.2.2.1 y hy).1) (fun y hy=>(HP0.2.2.2.2.1 y hy).1)
 have HHP:Hid (Hp (fun z=>g z 5) ta->Hp (fun z=>g z 5) tb->Hp (fun z=>g z 5) (plug L rest)):=q9 fun h1 h2=>hM.hp h1 h2 fun x hx hx'=>by
  have:=HP0.2.2.2.2.2;rw[List.nodup_append] at this;exact this.2.2 x hx x hx' rfl
 obtain⟨t0,ht0⟩:∃ t0,plug L rest=t0:=⟨_,rfl⟩;rw[ht0] at hpr HHP;have HPL:=q9 ht0;have HROW:=q9 hpr;have HFR:=q9 hfr
 have HSZ:Hid (t0.size<=nN V S):=q9 (by have:=HP0.2.2.1;unfold Tp.size at this |-;rw[hpr,List.length_append];exact this)
 have HND:Hid t0.row.Nodup:=q9 (by rw[hpr];exact HP0.2.2.2.2.2)
 have HNN:Hid (∀ y∈t0.row,y≠0/\y<=nN V S):=q9 fun y hy=>by
  rw[hpr] at hy
  rcases List.mem_append.1 hy with h|h
  . exact HP0.2.2.2.1 y h
  . exact HP0.2.2.2.2.1 y h
 have HLL:Hid (L.length<=nN V S):=q9 (by have:=Qbq L rest;rw[ht0] at this;have:=HSZ.out;omega)
 have HFX:Hid (∀ f∈L,1<=f.x/\f.x<=nN V S):=q9 fun f hf=>by
  have h1:=Qf6 (t:=rest) hf;rw[ht0] at h1;have:=HNN.out _ h1;omega
 have HRN:Hid (rest.root<=nN V S):=q9 (Qbp fun y hy=>HNN.out y (by rw[<-ht0];exact Qdd hy))
 have HT1:=q9 ((HT.only HA0.out O1).alloc (.cells #[I ((rest.root:Nat):Int)] 3));have HA1:=q9 (A1.alloc (.cells #[I ((rest.root:Nat):Int)] 3));have HO1:=q9 ((HO0.trans O1).alloc (.cells #[I ((rest.root:Nat):Int)] 3));have HR1:=q9 (R1.alloc (.cells #[I ((rest.root:Nat):Int)] 3));have HB1:Hid (Blk (w1.alloc (.cells #[I ((rest.root:Nat):Int)] 3)) w1.heap.size 3 #[I ((rest.root:Nat):Int)]):=q9 (Blk.new _ _ _)
 have HW01:Hid (b<=w1.heap.size):=q9 (by have:=O1.size;have:=HWS.out;omega)
 clear hM hpr hfr ht0 R1 A1 O1 HT HA0 HO0 HA HWS;obtain⟨c0,hc0⟩:∃ c0,rest.root=c0:=⟨_,rfl⟩;have HC0:=q9 hc0;rw[hc0] at HT1 HA1 HO1 HR1 HB1 HRN;rw[hc0];clear hc0
 gi_wp2_with fail
 refine⟨trivial,?_⟩;refine(QdS Fence.wide _ trivial rfl _ _ _ _).mono ?_;rintro e w2 ⟨rfl,rfl⟩
 gi_wp2_with fail
 generalize hr8:w1.heap.size=r8 at HB1 HW01 |-
 have hsz1:(w1.alloc (.cells #[I (c0:Int)] 3)).heap.size=r8+1:=by simp [hr8]
 generalize w1.alloc (.cells #[I (c0:Int)] 3)=Wa at HT1 HA1 HO1 HR1 HB1 hsz1 |-;obtain⟨Bs,hBs⟩:∃ Bs,r8+1=Bs:=⟨_,rfl⟩;obtain⟨W2,hW2⟩:∃ W2,Wa.alloc (.cells #[.slice av L.length vc] 184)=W2:=⟨_,rfl⟩
 have HX1:Hid (Blk W2 Bs 184 #[.slice av L.length vc]):=q9 (by rw[<-hW2,<-hBs,<-hsz1];exact Blk.new _ _ _)
 have HR2:Hid (RowW W2 W0.heap.size (.slice av L.length vc) L):=q9 (by rw[<-hW2];exact HR1.alloc _)
 have HT2:Hid (TB W2 b V S T p):=q9 (by rw[<-hW2];exact HT1.alloc _)
 have HB2:Hid (Blk W2 r8 3 #[I (c0:Int)]):=q9 (by rw[<-hW2];exact HB1.alloc _)
 have HA2:Hid (TM W2 V S T p gb cap (m+3*nN V S) g):=q9 (by rw[<-hW2];exact HA1.alloc _)
 have HO2:Hid (Only p gb w W2):=q9 (by rw[<-hW2];exact HO1.alloc _)
 obtain⟨q,hq⟩:∃ q,Qe6 (.slice av L.length vc) Bs=q:=⟨_,rfl⟩
 have hs2:W2.heap.size=Bs+1:=by rw[<-hW2,<-hBs];simp [hsz1]
 have HNE:Hid ((Bs≠p/\Bs≠gb/\Bs≠r8)/\(q≠p/\q≠gb/\q≠r8)/\q<=Bs):=q9 (by
  have p1:=HA1.p_lt;have p2:=HA1.g_lt;have p3:=HB1.lt
  have hb1:Bs≠p/\Bs≠gb/\Bs≠r8:=⟨by omega,by omega,by omega⟩
  refine⟨hb1,?_⟩;rw[<-hq];unfold Qe6
  cases e:(Value.slice av L.length vc).ownBlock with
  |none=>exact⟨hb1,Nat.le_refl _⟩
  |some r=>
   have n1:=HR1.ne_t HA1.out
   have n2:=HR1.ne_blk HB1.out (by decide)
   have n4:=(HR1.lt r e).2;rw[e] at n1 n2
   exact⟨⟨fun h=>n1.1 (by rw[<-h];rfl),fun h=>n1.2 (by rw[<-h];rfl),fun h=>n2 (by rw[<-h];rfl)⟩,by show r<=Bs;omega⟩)
 have HNR:Hid (r8≠p/\r8≠gb/\p<Bs/\gb<Bs):=q9 (by
  have p1:=HA1.p_lt;have p2:=HA1.g_lt;obtain⟨⟨_,h3⟩,⟨_,h4⟩⟩:=HA1.blk
  exact⟨HB1.ne_ h3 (by decide),HB1.ne_ h4 (by decide),by omega,by omega⟩)
 rw[hW2,hBs];clear HT1 HB1 HA1 HO1 HR1 hW2
 refine wpIn_rangeFunc_ownH (w:=W2) rfl (by omega) (gf:=160) (lb:=#[.pointer (some (I1 Bs 0))]) rfl trivial (enters_of Tryz.func160 (by kernel_rfl) rfl)
  (Qer Fence.wide (10-1) trivial rfl (by omega) Bs W0.heap.size _ L (by have:=HLL.out;omega) W2 HX1.out HR2.out) KpB.trans
  (fun W l o o' hl _ _ _=>⟨World.putObj_heap_other (by omega),World.putObj_heap_other (by rw[hq];have:=HNE.2.2;omega)⟩) (Below.refl _ _) (fun _=>rfl)
  (MgI w b r8 Bs V S T p gb cap (m+3*nN V S) g mk L rest) (fun _ _ _=>False) (MgI.own (by have:=HO2.size;omega)) (fun _ _ _ _ _ hs _ _=>hs)
  ⟨g,c0,by omega,HB2.out,HRN.out,HT2.out,HA2.out,HO2.out,fun _ _=>⟨by rw[List.length_nil,Qcx];exact QdZ.refl HFR.2 HA2.z,by rw[List.length_nil,Qcx];exact HC0.symm⟩⟩
  (fun k a' W=>∃ Bx,Blk W Bx 191 #[I ((bkF L k).2.x:Int),I (sd (bkF L k).2.rt:Int)]/\a'={ tmps:=#[vTr V S T p,I (ta.root:Int),I (tb.root:Int),.pointer (some (I1 b 0)),undef,undef,I 0,.slice av L.length vc,.pointer (some (I1 r8 0)),undef,.pointer (some (I1 Bx 0)),.tuple #[.slice av L.length vc,I (c0:Int)],vTr V S T p,I (ta.root:Int),I (tb.root:Int),.tuple #[.slice av L.length vc,I (c0:Int)],.slice av L.length vc,I (c0:Int),.slice av L.length vc,.func (.func 160) #[] #[.pointer (some (I1 Bs 0))],I ((bkF L k).1:Int),vTn (bkF L k).2.x (sd (bkF L k).2.rt),undef,undef,undef,undef,undef,undef,undef,undef,undef,undef],defers:=[]})
  (fun k a' _ X Y row hs hg hr=>by obtain⟨Bx,h1,h2⟩:=hs;exact⟨Bx,Blk.own h1 hg (fun r e=>(hr r e).2),h2⟩)
  ?assign ?body ?done ?stop
 case assign=>
  rintro l pre x W K hI hK
  gi_wp2_with fail
  have hBW:Bs<W.heap.size:=by obtain⟨_,_,h0,_⟩:=hI;exact h0
  exact hK _ _ ((KeepsOthers.alloc _ _).from _) ⟨Below.heap_alloc W _ _ hBW,Below.heap_alloc W _ _ (by rw[hq];have:=HNE.2.2;omega)⟩ ((MgI.own (w0:=w) (B:=W2.heap.size) (by have:=HO2.size;omega)).alloc _ hI) ⟨W.heap.size,Blk.new _ _ _,rfl⟩
 case body=>
  rintro l pre x a' W hl ⟨r,hr⟩ hI ⟨Bx,hX,rfl⟩ hlt;obtain⟨g1,c,h0,hBc,hc,hT,hA,hO,hst⟩:=hI
  have hbase:w.heap.size<=r8:=by have:=HW01.out;omega
  have HT3:=q9 hT;have HA3:=q9 hA;have HO3:=q9 hO;have HBc:Hid (Blk W r8 3 #[I (c:Int)]):=q9 hBc;have HX3:=q9 hX;have HI0:=q9 h0;have HFO:=q9 (Qlk (Qlf hA.hR) HFX.out x);have HPN:Hid (pre.length<L.length):=q9 hlt
  have hMM:m+3*nN V S+9*pre.length<=99990000:=by have:=HLL.out;omega
  obtain⟨y0,y1,y2,y3,y4,y5⟩:=hT.cells;have tlt:=hT.lt;have cc:W.cell? (I1 r8 0)=some (I (c:Int)):=HBc.cell 0;have clt:=HBc.lt;have xlt:=hX.lt;have x0:W.cell? (I1 Bx 0)=some (I ((bkF L x).2.x:Int)):=hX.cell 0;have x1:W.cell? (I1 Bx 1)=some (I (sd (bkF L x).2.rt:Int)):=hX.cell 1
  have HST2:Hid (∀ pre',pre'=pre++[x]->pre'=List.range pre'.length->pre'.length<=L.length->QdZ (vxN V) mk g (QaL (vxN V) g1 (bkF L x).2.x (bkF L x).2.rt c) (plug (fsB L pre'.length) rest)/\(bkF L x).2.x=(plug (fsB L pre'.length) rest).root):=q9 (by
   rintro pre' rfl hp hpl;rw[List.length_append,List.length_singleton] at hp hpl |-;rw[List.range_succ] at hp;obtain⟨hp1,hp2⟩:=List.append_inj' hp rfl
   have hx:x=pre.length:=by simpa using hp2
   obtain⟨s1,s2⟩:=hst hp1 (by omega)
   have hn2:=Qho HMK.out (g1:=g1) (k:=pre.length) HPL.out HFR.1 (by have:=HSZ.out;omega) HND.out (fun y hy=>(HNN.out y hy).1) (by omega) s1
   rw[hx];rw[<-s2] at hn2;refine⟨hn2,?_⟩
   rw[Qdl (by omega)]
   exact(Fr.join_root _ _).symm)
  obtain⟨fx,hfx⟩:∃ fx,(bkF L x).2.x=fx:=⟨_,rfl⟩;have HFX2:=q9 hfx;rw[hfx] at x0 HFO HST2;rw[hfx];clear hT hA hO hBc hX hst h0 hlt;generalize hrt:(bkF L x).2.rt=rt at x1 HST2 |-
  cases rt with
  |true=>
   have x1':W.cell? (I1 Bx 1)=some (I 4):=x1;clear x1
   gi_wp2_with fail
   refine⟨trivial,?_⟩
   refine(CallsIn.inRound l (callsIn_wide.2 (Qk6 HA3 ⟨HFO.1,HFO.2,hc⟩ (by omega)))).mono ?_;rintro e w5 ⟨rfl,A5,O5⟩
   have HA5:=q9 A5;have HO5:=q9 O5;have HT5:=q9 (HT3.only HA3.out O5)
   have HBc5:=q9 (HBc.treap HA3.out O5 (by decide) (by decide))
   have HX5:=q9 (HX3.treap HA3.out O5 (by decide) (by decide))
   clear A5 O5 y0 y1 y2 y3 y4 y5 tlt cc clt xlt x0 x1'
   have x0:w5.cell? (I1 Bx 0)=some (I (fx:Int)):=by rw[<-HFX2.out];exact HX5.cell 0
   have xlt:=HX5.lt;have bc:=HBc5.cell 0;have fc:=HBc5.frozen;have clt:=HBc5.lt
   gi_wp2_with fail
   have hq5:q<W.heap.size:=by have:=HNE.2.2;have:=HI0.out;omega
   refine⟨(Qaq HA3 HO5).trans ((KeepsOthers.setCell _ _ _).from _),?_,?_⟩
   . rw[hq];exact(Qg1 HO5 HI0 hq5 HNE.1.1 HNE.1.2.1 HNE.2.1.1 HNE.2.1.2.1).set HNE.1.2.2 HNE.2.1.2.2 _
   . exact⟨_,fx,by have:=HO5.size;have:=HI0.out;simpa [World.setCell] using (by omega:Bs<w5.heap.size),HBc5.set_ 0 _,HFO.2,Blk.far HT5.out (Blk.ne_ HT5.out HBc5.out (by decide)) _,by rw[List.length_append,List.length_singleton,show m+3*nN V S+9*(pre.length+1)=m+3*nN V S+9*pre.length+9 by omega];exact HA5.far HBc5 (by decide) (by decide) _,(HO3.trans HO5).set_new hbase _,HST2 _ rfl⟩
  |false=>
   have x1':W.cell? (I1 Bx 1)=some (I 3):=x1;clear x1
   gi_wp2_with fail
   refine⟨trivial,?_⟩
   refine(CallsIn.inRound l (callsIn_wide.2 (Qk7 HA3 ⟨HFO.1,HFO.2,hc⟩ (by omega)))).mono ?_;rintro e w5 ⟨rfl,A5,O5⟩
   have HA5:=q9 A5;have HO5:=q9 O5;have HT5:=q9 (HT3.only HA3.out O5)
   have HBc5:=q9 (HBc.treap HA3.out O5 (by decide) (by decide))
   have HX5:=q9 (HX3.treap HA3.out O5 (by decide) (by decide))
   clear A5 O5 y0 y1 y2 y3 y4 y5 tlt cc clt xlt x0 x1'
   have x0:w5.cell? (I1 Bx 0)=some (I (fx:Int)):=by rw[<-HFX2.out];exact HX5.cell 0
   have xlt:=HX5.lt;have bc:=HBc5.cell 0;have fc:=HBc5.frozen;have clt:=HBc5.lt
   gi_wp2_with fail
   have hq5:q<W.heap.size:=by have:=HNE.2.2;have:=HI0.out;omega
   refine⟨(Qaq HA3 HO5).trans ((KeepsOthers.setCell _ _ _).from _),?_,?_⟩
   . rw[hq];exact(Qg1 HO5 HI0 hq5 HNE.1.1 HNE.1.2.1 HNE.2.1.1 HNE.2.1.2.1).set HNE.1.2.2 HNE.2.1.2.2 _
   . exact⟨_,fx,by have:=HO5.size;have:=HI0.out;simpa [World.setCell] using (by omega:Bs<w5.heap.size),HBc5.set_ 0 _,HFO.2,Blk.far HT5.out (Blk.ne_ HT5.out HBc5.out (by decide)) _,by rw[List.length_append,List.length_singleton,show m+3*nN V S+9*(pre.length+1)=m+3*nN V S+9*pre.length+9 by omega];exact HA5.far HBc5 (by decide) (by decide) _,(HO3.trans HO5).set_new hbase _,HST2 _ rfl⟩
 case done=>
  rintro D ys W hD rfl hI hK;obtain⟨g1,c,h0,hBc,hc,hT,hA,hO,hst⟩:=hI
  obtain⟨s1,s2⟩:=hst (by rw[List.length_range]) (by rw[List.length_range];exact Nat.le_refl _)
  rw[List.length_range,QiW,HPL.out] at s1 s2;have HS:=q9 (And.intro s1 s2);have HT3:=q9 hT;have HA3:=q9 hA;have HO3:=q9 hO;have HBc:Hid (Blk W r8 3 #[I (c:Int)]):=q9 hBc;have HK:=q9 hK
  have HDD:Hid (Bs<D):=q9 (by omega)
  obtain⟨M,hM⟩:∃ M,m+3*nN V S+9*(List.range L.length).length=M:=⟨_,rfl⟩;rw[hM] at HA3
  have hM1:M<=m+12*nN V S:=by rw[<-hM,List.length_range];have:=HLL.out;omega
  obtain⟨y0,y1,y2,y3,y4,y5⟩:=hT.cells;have tlt:=hT.lt;have cc:W.cell? (I1 r8 0)=some (I (c:Int)):=HBc.cell 0;have clt:=HBc.lt;clear hT hA hO hBc hst s1 s2 hK hM
  gi_wp2_with fail
  refine⟨trivial,?_⟩
  refine(callsIn_wide.2 (QaZ (v:=0) HA3 hc (Nat.zero_le _) (by omega))).mono ?_;rintro e w6 ⟨rfl,A6,O6⟩
  have HA6:=q9 A6;have HO6:=q9 (HO3.trans O6)
  have HBc6:=q9 (HBc.treap HA3.out O6 (by decide) (by decide))
  have HK6:Hid (w6.heap[D]?=some (.deferred (some []))):=q9 ((O6.block D (Array.getElem?_eq_some_iff.1 HK.out).1 (by have:=HNR.out;have:=HDD.out;omega) (by have:=HNR.out;have:=HDD.out;omega)).trans HK.out)
  clear A6 O6 y0 y1 y2 y3 y4 y5 tlt cc clt HT3 HA3 HO3 HBc HK;have cc:w6.cell? (I1 r8 0)=some (I (c:Int)):=HBc6.cell 0;have clt:=HBc6.lt
  gi_wp2_with fail
  have HNP:Hid (D≠p/\D≠gb/\w.heap.size<=D):=q9 ⟨by have:=HNR.out;have:=HDD.out;omega,by have:=HNR.out;have:=HDD.out;omega,by have:=HW01.out;have:=HDD.out;omega⟩
  have hgr:=grownBy_putObj' w6 D (.deferred none)
  refine⟨by simp,.inl ⟨_,_,rfl,run_takeDeferred HK6.out,?_⟩⟩
  refine⟨_,results_tmp rfl _ _ _,?_⟩;obtain⟨s1,s2⟩:=HS.out;obtain⟨d1,d3,d4⟩:=Qhp s1 HND.out;rw[<-s2] at d1 d3 d4
  exact⟨_,t0,by rw[<-s2];rfl,(HA6.grown hgr (by intro e;cases e;exact HNP.1 rfl) (by intro e;cases e;exact HNP.2.1 rfl)).more (by omega),HO6.grown hgr (by intro i e;cases e;exact HNP.2.2),d1,HROW,HHP,d3,d4⟩
 case stop=>
  rintro D c pre W _ _ h _;exact h.elim
end
open Go.RowKit
def AP (W:World)(b n:Nat)(pri:Nat->Nat):Prop:=∃ zs,Blk W b 88 zs/\∀ k,k<=n->zs[k]?=some (I2 (pri k:Int))
def AM (W:World)(b n:Nat)(mk:Nat->Nat):Prop:=∃ zs,Blk W b 3 zs/\zs.size=n+1/\∀ k,k<=n->zs[k]?=some (I (mk k:Int))
def AV (W:World)(b n:Nat)(vx:Nat->Bool):Prop:=∃ zs,Blk W b 4 zs/\∀ k,k<=n->zs[k]?=some (.bool (vx k))
section
variable {w w' W:World}{b n:Nat}{pri mk:Nat->Nat}{vx:Nat->Bool}
theorem AP.cell (h:AP W b n pri){k:Nat}(hk:k<=n):W.cell? (I1 b k)=some (I2 (pri k:Int)):=by obtain⟨zs,hz,he⟩:=h;exact(hz.cell k).trans (he k hk)
theorem AM.cell (h:AM W b n mk){k:Nat}(hk:k<=n):W.cell? (I1 b k)=some (I (mk k:Int)):=by obtain⟨zs,hz,_,he⟩:=h;exact(hz.cell k).trans (he k hk)
theorem AV.cell (h:AV W b n vx){k:Nat}(hk:k<=n):W.cell? (I1 b k)=some (.bool (vx k)):=by obtain⟨zs,hz,he⟩:=h;exact(hz.cell k).trans (he k hk)
theorem AP.lt (h:AP W b n pri):b<W.heap.size:=by obtain⟨zs,hz,_⟩:=h;exact hz.lt
theorem AM.lt (h:AM W b n mk):b<W.heap.size:=by obtain⟨zs,hz,_⟩:=h;exact hz.lt
theorem AV.lt (h:AV W b n vx):b<W.heap.size:=by obtain⟨zs,hz,_⟩:=h;exact hz.lt
theorem AP.keep (h:AP w b n pri)(e:w'.heap[b]?=w.heap[b]?):AP w' b n pri:=by obtain⟨zs,hz,he⟩:=h;exact⟨zs,e.trans hz,he⟩
theorem AM.keep (h:AM w b n mk)(e:w'.heap[b]?=w.heap[b]?):AM w' b n mk:=by obtain⟨zs,hz,he⟩:=h;exact⟨zs,e.trans hz,he⟩
theorem AV.keep (h:AV w b n vx)(e:w'.heap[b]?=w.heap[b]?):AV w' b n vx:=by obtain⟨zs,hz,he⟩:=h;exact⟨zs,e.trans hz,he⟩
theorem AP.below (h:AP w b n pri)(hb:Below w.heap.size w w'):AP w' b n pri:=h.keep (hb.block b h.lt)
theorem AM.below (h:AM w b n mk)(hb:Below w.heap.size w w'):AM w' b n mk:=h.keep (hb.block b h.lt)
theorem AV.below (h:AV w b n vx)(hb:Below w.heap.size w w'):AV w' b n vx:=h.keep (hb.block b h.lt)
theorem Qao {B:Nat}{a:World}(h:Below B a w)(k:Nat):Below B a (w.drewN k):=⟨h.os,h.tape,h.output,h.size,h.block⟩
theorem Qjr (h:AP w b n pri){x y cp:Nat}(hx:x<=n)(hy:y<=n)(vr vm vv:Value):
 Calls Tryz.prog 157 #[.agg #[vr,I3 (I1 b 0) (n+1) cp,vm,vv],I (x:Int),I (y:Int)] w fun e w'=>e=.returned (.bool (ab pri x y))/\Below w.heap.size w w':=by
 have cx:=h.cell hx;have cy:=h.cell hy;have hlt:=h.lt;obtain⟨P,hP⟩:∃ P,pri x=P:=⟨_,rfl⟩;obtain⟨Q,hQ⟩:∃ Q,pri y=Q:=⟨_,rfl⟩
 have hab:ab pri x y=decide (Q<P\/(P=Q/\x<y)):=by unfold ab;rw[hP,hQ]
 rw[hab];rw[hP] at cx;rw[hQ] at cy
 have hxI:(x:Int)<(n:Int)+1:=by omega
 have hyI:(y:Int)<(n:Int)+1:=by omega
 clear hP hQ hab h hx hy
 rcases Nat.lt_trichotomy Q P with h|h|h
 . rw[decide_eq_true (.inl h:Q<P\/(P=Q/\x<y))]
   have hI:(Q:Int)<(P:Int):=by omega
   go_enter Tryz.func157,Tryz.ntmps157
   go_wp2_with fail
   go_quiet (fail)
   go_wp2_with fail
   go_ret;exact⟨rfl,Qao ((Below.refl _ _).alloc (Nat.le_refl _) _) _⟩
 . subst h
   rw[show decide (Q<Q\/(Q=Q/\x<y))=decide (x<y) by simp]
   go_enter Tryz.func157,Tryz.ntmps157
   go_wp2_with fail
   go_quiet (fail)
   go_wp2_with fail
   go_ret;exact⟨rfl,Qao ((Below.refl _ _).alloc (Nat.le_refl _) _) _⟩
 . rw[decide_eq_false (by omega:¬ (Q<P\/(P=Q/\x<y)))]
   have hI:(P:Int)<(Q:Int):=by omega
   have hJ:((P:Int)==(Q:Int))=false:=beq_eq_false_iff_ne.2 (by omega)
   go_enter Tryz.func157,Tryz.ntmps157
   go_wp2_with fail
   go_quiet (fail)
   go_wp2_with fail
   go_ret
   exact⟨(by show Ending.returned (.bool (decide (Q<P)))=_;rw[decide_eq_false (by omega)]),Qao ((Below.refl _ _).alloc (Nat.le_refl _) _) _⟩
end
abbrev vF (vr:Value)(pb n cp:Nat)(vm vv:Value):Value:=.agg #[vr,I3 (I1 pb 0) (n+1) cp,vm,vv]
def FB (W:World)(b:Nat)(vr:Value)(pb n cp:Nat)(vm vv:Value):Prop:=Blk W b 158 #[vr,I3 (I1 pb 0) (n+1) cp,vm,vv]
structure RS (W:World)(b:Nat)(vr:Value)(pb n cp:Nat)(vm vv:Value)(rb i1 i2 x y:Nat):Prop where
 f:FB W b vr pb n cp vm vv
 r:∃ zs,Blk W rb 3 zs/\zs[i1]?=some (I (x:Int))/\zs[i2]?=some (I (y:Int))
section
variable {w w' W:World}{b pb n cp:Nat}{vr vm vv:Value}{pri:Nat->Nat}
theorem RS.below {rb i1 i2 x y:Nat}(h:RS w b vr pb n cp vm vv rb i1 i2 x y)(hb:Below w.heap.size w w'):RS w' b vr pb n cp vm vv rb i1 i2 x y:=by
 obtain⟨f,zs,hz,h1,h2⟩:=h;exact⟨Blk.below f hb (Blk.lt f),zs,hz.below hb hz.lt,h1,h2⟩
theorem RS.drew {rb i1 i2 x y:Nat}(h:RS w b vr pb n cp vm vv rb i1 i2 x y):RS w.drew b vr pb n cp vm vv rb i1 i2 x y:=⟨h.f,h.r⟩
theorem QlE (b:Nat)(vr:Value)(pb n cp:Nat)(vm vv:Value)(rb i1 i2 x y:Nat):∀ W:World,RS W b vr pb n cp vm vv rb i1 i2 x y->W.cell? (I1 b 0)=some vr/\W.cell? (I1 b 1)=some (I3 (I1 pb 0) (n+1) cp)/\W.cell? (I1 b 2)=some vm/\W.cell? (I1 b 3)=some vv/\W.cell? (I1 rb i1)=some (I (x:Int))/\W.cell? (I1 rb i2)=some (I (y:Int)):=fun W h=>by
 obtain⟨f,zs,hz,h1,h2⟩:=h;exact⟨Blk.cell f 0,Blk.cell f 1,Blk.cell f 2,Blk.cell f 3,(hz.cell _).trans h1,(hz.cell _).trans h2⟩
theorem LI.two {v:Value}{l:List Nat}(h:LI w v l){i j:Nat}(hi:i<l.length)(hj:j<l.length):∃ rb off cap,v=I3 (I1 rb off) l.length cap/\l.length<=cap/\rb<w.heap.size/\∃ zs,Blk w rb 3 zs/\zs[off+i]?=some (I ((l[i]?.getD 0:Nat):Int))/\zs[off+j]?=some (I ((l[j]?.getD 0:Nat):Int)):=by
 obtain⟨a,cap,rfl,h1,h2,h3,h4⟩:=h
 obtain⟨b,off,zs,rfl,hz,hs,hx⟩:=h4 (by omega)
 exact⟨b,off,cap,rfl,h2,hz.lt,zs,hz,hx i _ (by rw[List.getElem?_eq_getElem hi];rfl),hx j _ (by rw[List.getElem?_eq_getElem hj];rfl)⟩
def QdX (d len i a:Nat):Prop:=a<len/\i<=len/\((i<=d/\a<=i)\/(d<i/\a=d))
theorem QjI {l r:Tp}{x d len i a:Nat}(hp:Hp pri (.node l x r))(hd:l.row.length=d)(hl:(Tp.node l x r).row.length=len)(h:QdX d len i a)(hi:i<len):
 QdX d len (i+1) (if ab pri ((Tp.node l x r).row[i]?.getD 0) ((Tp.node l x r).row[a]?.getD 0) then i else a):=by
 obtain⟨h1,h2,h3⟩:=h
 have hx:(Tp.node l x r).row[d]?.getD 0=x:=by rw[Tp.row_node,<-hd];simp
 have hab:∀ k,k<len->k≠d->ab pri x ((Tp.node l x r).row[k]?.getD 0)=true:=fun k hk hne=>by
  have hk':k<(Tp.node l x r).row.length:=by omega
  rw[List.getElem?_eq_getElem hk'];simp only[Option.getD_some];have hm:=List.getElem_mem hk';have hk2:=hk';rw[Tp.row_node] at hk2
  have hcases:k<d\/d<k:=by omega
  rcases hcases with hc|hc
  . have:(Tp.node l x r).row[k]'hk'=l.row[k]'(by omega):=by simp only[Tp.row_node];rw[List.getElem_append_left]
    rw[this];exact hp.1 _ (List.getElem_mem _)
  . have:(Tp.node l x r).row[k]'hk'=r.row[k-d-1]'(by simp at hk2;omega):=by
     simp only[Tp.row_node]
     rw[List.getElem_append_right (by omega)]
     rw[List.getElem_cons]
     rw[dif_neg (by omega)]
     congr 1
     omega
    rw[this];exact hp.2.1 _ (List.getElem_mem _)
 refine⟨by split<;>omega,by omega,?_⟩
 rcases h3 with ⟨h3,h4⟩|⟨h3,h4⟩
 . by_cases hid:i=d
   . right
     refine⟨by omega,?_⟩
     subst hid
     by_cases ha:a=i
     . subst ha;split<;>rfl
     . rw[if_pos (by rw[hx];exact hab a h1 ha)]
   . left
     exact⟨by omega,by split<;>omega⟩
 . right
   refine⟨by omega,?_⟩
   subst h4;rw[if_neg]
   rw[hx,QkS (hab i hi (by omega))]
   decide
end
theorem Qm7 {a b:Nat}(ha:a<4)(hb:b<4):bits .or .i64 (a:Int) (b:Int)=((a ||| b:Nat):Int):=by
 have key:∀ a<4,∀ b<4,bits .or .i64 ((a:Nat):Int) ((b:Nat):Int)=((a ||| b:Nat):Int):=by decide
 exact key a ha b hb
abbrev Rec7:=Nat->Nat->Nat
def row7 (a b c d e f g:Nat):Nat->Nat
 |0=>a
 |1=>b
 |2=>c
 |3=>d
 |4=>e
 |5=>f
 |_=>g
def recT (vx:Nat->Bool)(mk:Nat->Nat):Nat->Tp->Rec7->Rec7
 |_,.nil,rc=>rc
 |par,.node l x r,rc=>fun y=>if y=x then row7 par l.root r.root (Tp.node l x r).row.length (cntV vx (Tp.node l x r).row) (mk x) (allM mk (Tp.node l x r).row) else recT vx mk x r (recT vx mk x l rc) y
def OB (W:World)(ob n:Nat)(rc:Rec7):Prop:=∃ zs,Blk W ob 162 zs/\zs.size=(n+1)*7/\∀ k j,k<=n->j<7->zs[k*7+j]?=some (I (rc k j:Int))
def NB (W:World)(nb a b c d e f g:Nat):Prop:=Blk W nb 162 #[I (a:Int),I (b:Int),I (c:Int),I (d:Int),I (e:Int),I (f:Int),I (g:Int)]
section
variable {w w' W:World}{b pb n cp mb cm vb cv ob nb:Nat}{vr vm vv:Value}{pri mk:Nat->Nat}{vx:Nat->Bool}{rc:Rec7}
theorem OB.keep (h:OB w ob n rc)(e:w'.heap[ob]?=w.heap[ob]?):OB w' ob n rc:=by obtain⟨zs,hz,h1,h2⟩:=h;exact⟨zs,e.trans hz,h1,h2⟩
theorem OB.lt (h:OB w ob n rc):ob<w.heap.size:=by obtain⟨zs,hz,_⟩:=h;exact hz.lt
theorem OB.below (h:OB w ob n rc)(hb:Below w.heap.size w w'):OB w' ob n rc:=h.keep (hb.block ob h.lt)
theorem OB.drew (h:OB w ob n rc):OB w.drew ob n rc:=h
theorem OB.blk (h:OB w ob n rc):∃ cs,Blk w ob 162 cs:=by obtain⟨zs,hz,_⟩:=h;exact⟨zs,hz⟩
theorem OB.put (h:OB w ob n rc){x a0 a1 a2 a3 a4 a5 a6:Nat}(hx:x<=n):
 OB (((((((w.setCell (I1 ob (x*7)) (I (a0:Int))).setCell (I1 ob (x*7+1)) (I (a1:Int))).setCell (I1 ob (x*7+2)) (I (a2:Int))).setCell (I1 ob (x*7+3)) (I (a3:Int))).setCell (I1 ob (x*7+4)) (I (a4:Int))).setCell (I1 ob (x*7+5)) (I (a5:Int))).setCell (I1 ob (x*7+6)) (I (a6:Int))) ob n (fun y=>if y=x then row7 a0 a1 a2 a3 a4 a5 a6 else rc y):=by
 obtain⟨zs,hz,hs,he⟩:=h
 have hxs:x*7+6<zs.size:=by rw[hs];omega
 refine⟨_,((((((hz.set_ (x*7) _).set_ (x*7+1) _).set_ (x*7+2) _).set_ (x*7+3) _).set_ (x*7+4) _).set_ (x*7+5) _).set_ (x*7+6) _,by simp [hs],fun k j hk hj=>?_⟩
 show _=some (I (((if k=x then row7 a0 a1 a2 a3 a4 a5 a6 else rc k) j:Nat):Int))
 by_cases e:k=x
 . subst e
   rw[if_pos rfl]
   have:j=0\/j=1\/j=2\/j=3\/j=4\/j=5\/j=6:=by omega
   rcases this with rfl|rfl|rfl|rfl|rfl|rfl|rfl<;>(simp only[Array.getElem?_setIfInBounds,Array.size_setIfInBounds];simp [row7];omega)
 . rw[if_neg e]
   simp only[Array.getElem?_setIfInBounds,Array.size_setIfInBounds]
   rw[if_neg (by omega),if_neg (by omega),if_neg (by omega),if_neg (by omega),if_neg (by omega),if_neg (by omega),if_neg (by omega)]
   exact he k j hk hj
structure FS (W:World)(pb mb vb n:Nat)(pri mk:Nat->Nat)(vx:Nat->Bool):Prop where
 p:AP W pb n pri
 m:AM W mb n mk
 v:AV W vb n vx
theorem FS.below (h:FS w pb mb vb n pri mk vx)(hb:Below w.heap.size w w'):FS w' pb mb vb n pri mk vx:=⟨h.p.below hb,h.m.below hb,h.v.below hb⟩
theorem FS.only (h:FS w pb mb vb n pri mk vx){cs:Array Value}(hz:Blk w ob 162 cs)(ho:Only ob ob w w'):FS w' pb mb vb n pri mk vx:=by
 obtain⟨⟨z1,h1,e1⟩,⟨z2,h2,e2⟩,⟨z3,h3,e3⟩⟩:=h
 have n1:=h1.ne_ hz (by decide)
 have n2:=h2.ne_ hz (by decide)
 have n3:=h3.ne_ hz (by decide)
 exact⟨⟨z1,h1.only ho n1 n1,e1⟩,⟨z2,h2.only ho n2 n2,e2⟩,⟨z3,h3.only ho n3 n3,e3⟩⟩
theorem FS.drew (h:FS w pb mb vb n pri mk vx):FS w.drew pb mb vb n pri mk vx:=h.below (Below.refl _ _).drew
theorem LI.cutTo {w:World}{a:Option Addr}{n cap k:Nat}{l:List Nat}(h:LI w (.slice a n cap) l)(hk:k<=n):LI w (.slice a k cap) (l.take k):=by
 obtain⟨a',cap',e,h1,h2,h3,h4⟩:=h;injection e with e1 e2 e3;subst e1 e3
 have hlen:(l.take k).length=k:=by rw[List.length_take];omega
 refine⟨a,cap,by rw[hlen],h1,by rw[hlen];omega,h3,fun hc=>?_⟩
 obtain⟨b,off,zs,rfl,hz,hs,hx⟩:=h4 hc
 exact⟨b,off,zs,rfl,hz,hs,fun i y hi=>hx i y (by rw[List.getElem?_take] at hi;split at hi;exact hi;cases hi)⟩
theorem LI.cutFrom {w:World}{b off n cap k:Nat}{l:List Nat}(h:LI w (I3 (I1 b off) n cap) l)(hk:k<=n):LI w (.slice (if cap=k then some (I1 b off) else some (I1 b (off+k))) (n-k) (cap-k)) (l.drop k):=by
 obtain⟨a',cap',e,h1,h2,h3,h4⟩:=h;injection e with e1 e2 e3;subst e1 e3
 have hlen:(l.drop k).length=n-k:=by rw[List.length_drop];omega
 refine⟨if cap=k then some (I1 b off) else some (I1 b (off+k)),cap-k,by rw[hlen],by omega,by rw[hlen];omega,(by intro e;split at e<;>cases e),fun hc=>?_⟩
 obtain⟨b',off',zs,e,hz,hs,hx⟩:=h4 (by omega)
 cases e
 rw[if_neg (by omega)]
 refine⟨b,off+k,zs,rfl,hz,by omega,fun i y hi=>?_⟩
 rw[List.getElem?_drop] at hi
 rw[show off+k+i=off+(k+i) by omega]
 exact hx _ _ hi
def Qms (ob n:Nat)(vx:Nat->Bool)(mk:Nat->Nat)(par:Nat)(t:Tp)(rc:Rec7)(w:World)(e:Ending)(w':World):Prop:=
 e=.returned (I ((t.root:Nat):Int))/\OB w' ob n (recT vx mk par t rc)/\Only ob ob w w'
structure SN (W:World)(b nb:Nat)(vr:Value)(pb n cp:Nat)(vm vv:Value):Prop where
 f:FB W b vr pb n cp vm vv
 r:∃ cs,Blk W nb 162 cs/\cs.size=7
theorem SN.only (h:SN w b nb vr pb n cp vm vv){cs:Array Value}(hz:Blk w ob 162 cs)(ho:Only ob ob w w')(hne:nb≠ob):SN w' b nb vr pb n cp vm vv:=by
 obtain⟨f,c2,h2,h3⟩:=h
 have n1:=Blk.ne_ f hz (by decide)
 exact⟨Blk.only f ho n1 n1,c2,h2.only ho hne hne,h3⟩
theorem SN.drew (h:SN w b nb vr pb n cp vm vv):SN w.drew b nb vr pb n cp vm vv:=⟨h.f,h.r⟩
theorem SN.set (h:SN w b nb vr pb n cp vm vv)(i:Nat)(u:Value):SN (w.setCell (I1 nb i) u) b nb vr pb n cp vm vv:=by
 obtain⟨f,c2,h2,h3⟩:=h
 exact⟨Blk.far f (Blk.ne_ f h2 (by decide)) u,_,h2.set_ i u,by simpa using h3⟩
theorem Qlz (b nb:Nat)(vr:Value)(pb n cp:Nat)(vm vv:Value):∀ W:World,SN W b nb vr pb n cp vm vv->W.cell? (I1 b 0)=some vr/\W.cell? (I1 b 1)=some (I3 (I1 pb 0) (n+1) cp)/\W.cell? (I1 b 2)=some vm/\W.cell? (I1 b 3)=some vv/\W.cell? (I1 nb 1)=some (zAt W nb 1)/\W.cell? (I1 nb 2)=some (zAt W nb 2)/\W.frozen? (I1 nb 1)=false/\W.frozen? (I1 nb 2)=false:=fun W h=>by
 obtain⟨f,cs,h2,h3⟩:=h
 have e1:W.cell? (I1 nb 1)=some cs[1]:=(h2.cell 1).trans (Array.getElem?_eq_getElem (by omega))
 have e2:W.cell? (I1 nb 2)=some cs[2]:=(h2.cell 2).trans (Array.getElem?_eq_getElem (by omega))
 exact⟨Blk.cell f 0,Blk.cell f 1,Blk.cell f 2,Blk.cell f 3,by unfold zAt;rw[e1];rfl,by unfold zAt;rw[e2];rfl,h2.frozen 1,h2.frozen 2⟩
def QnC (w0:World)(b:Nat)(vr:Value)(pb n cp:Nat)(vm vv:Value)(R:List Nat)(d:Nat)(at_ i:Value)(W:World):Prop:=
 ∃ k a,QdX d R.length k a/\at_=I ((a:Nat):Int)/\i=I ((k:Nat):Int)/\FB W b vr pb n cp vm vv/\Below w0.heap.size w0 W
def QnB (w0:World)(b nb:Nat)(vr:Value)(pb n cp:Nat)(vm vv:Value)(R:List Nat)(par:Nat)(vx:Nat->Bool)(mk:Nat->Nat)(x:Nat)(i:Value)(W:World):Prop:=
 ∃ k,k<=R.length/\i=I ((k:Nat):Int)/\FB W b vr pb n cp vm vv/\NB W nb par 0 0 R.length (cntV vx (R.take k)) (mk x) (allM mk (R.take k))/\Below w0.heap.size w0 W
set_option maxHeartbeats 8000000 in
theorem Qex (hm:∀ x,mk x<4):∀ (t:Tp) (w:World) (v:Value) (par:Nat) (rc:Rec7) (vr:Value) (co:Nat),FS w pb mb vb n pri mk vx->OB w ob n rc->LI w v t.row->Hp pri t->(∀ y∈t.row,y<=n)->t.row.length<=100000->n<=100000->par<=n->
 Calls Tryz.prog 142 #[vF vr pb n cp (I3 (I1 mb 0) (n+1) cm) (I3 (I1 vb 0) (n+1) cv),v,I (par:Int),I3 (I1 ob 0) (n+1) co] w (Qms ob n vx mk par t rc w)
 |.nil,w,v,par,rc,vr,co,hF,hO,hR,hp,hn,hl,hn1,hpar=>by
  obtain⟨a,c,rfl,_,_⟩:=hR.shape;have e0:(Tp.nil.row).length=0:=rfl;rw[e0];have HO:=q9 hO;clear hR hF hp hn hl hO
  go_enter Tryz.func142,Tryz.ntmps142
  go_wp2_with fail
  go_ret;exact⟨rfl,HO.below ((Below.refl _ _).alloc (Nat.le_refl _) _),(Only.refl _ _ _).alloc _⟩
 |.node l x r,w,v,par,rc,vr,co,hF,hO,hR,hp,hn,hl,hn1,hpar=>by
  have HIL:=q9 (fun w' v'=>Qex hm l w' v' x rc vr co)
  have HIR:=q9 (fun w' v'=>Qex hm r w' v' x (recT vx mk x l rc) vr co)
  obtain⟨R,hRR⟩:∃ R,(Tp.node l x r).row=R:=⟨_,rfl⟩;have HPP:=q9 hp
  have HTN:Hid (∀ d i a,l.row.length=d->QdX d R.length i a->i<R.length->QdX d R.length (i+1) (if ab pri (R[i]?.getD 0) (R[a]?.getD 0) then i else a)):=q9 fun d i a hd h hi=>by
   have:=QjI (len:=R.length) hp hd (by rw[hRR]) h hi
   rw[hRR] at this;exact this
  obtain⟨d,hd⟩:∃ d,l.row.length=d:=⟨_,rfl⟩
  have HT2:Hid (∀ i a,QdX d R.length i a->i<R.length->QdX d R.length (i+1) (if ab pri (R[i]?.getD 0) (R[a]?.getD 0) then i else a)):=q9 fun i a=>HTN.out d i a hd
  have HXD:Hid (R[d]?.getD 0=x):=q9 (by rw[<-hRR,Tp.row_node,<-hd];simp)
  have hdl:d<R.length:=by rw[<-hRR,Tp.row_node,<-hd];simp
  have HSP:Hid (R=l.row++x :: r.row/\l.row.length=d):=q9 ⟨hRR.symm,hd⟩;obtain⟨CV,hCV⟩:∃ CV,cntV vx R=CV:=⟨_,rfl⟩;obtain⟨AL,hAL⟩:∃ AL,allM mk R=AL:=⟨_,rfl⟩;obtain⟨lr,hlr⟩:∃ lr,l.root=lr:=⟨_,rfl⟩;obtain⟨rr,hrr⟩:∃ rr,r.root=rr:=⟨_,rfl⟩;obtain⟨MX,hMX⟩:∃ MX,mk x=MX:=⟨_,rfl⟩;have HCV:=q9 hCV;have HAL:=q9 hAL;have HLR:=q9 hlr;have HRR:=q9 hrr;have HMX:=q9 hMX
  have HRC:Hid (recT vx mk par (.node l x r) rc=fun y=>if y=x then row7 par lr rr R.length CV MX AL else recT vx mk x r (recT vx mk x l rc) y):=q9 (by rw[<-hCV,<-hAL,<-hlr,<-hrr,<-hMX,<-hRR];rfl)
  have HTD:Hid (∀ W e W',e=.returned (I (x:Int))/\OB W' ob n (fun y=>if y=x then row7 par lr rr R.length CV MX AL else recT vx mk x r (recT vx mk x l rc) y)/\Only ob ob W W'->Qms ob n vx mk par (.node l x r) rc W e W'):=q9 fun W e W' h=>⟨h.1,by rw[HRC.out];exact h.2.1,h.2.2⟩
  refine Calls.mono ?_ (fun e W' h=>HTD.out w e W' h)
  rw[hRR] at hR hn hl;have HN:=q9 hn;have HLI:=q9 hR;have HFS:=q9 hF;have HOB:=q9 hO;have HMK:=q9 hm
  have hlI:(R.length:Int)<=100000:=by omega
  clear hp hRR hd HTN hn hF hO HTD HRC hm hCV hAL hlr hrr hMX;obtain⟨rb,off,vc,rfl,hcap,hrlt,hz0⟩:=hR.two hdl hdl
  have hl0:¬ (R.length:Int)=0:=by omega
  have hl0b:((R.length:Int)==0)=false:=beq_eq_false_iff_ne.2 hl0;clear hR hz0
  go_enter Tryz.func142,Tryz.ntmps142
  go_wp2_with fail
  have HF:Hid (FB (w.alloc (.cells #[vr,I3 (I1 pb 0) (n+1) cp,I3 (I1 mb 0) (n+1) cm,I3 (I1 vb 0) (n+1) cv] 158)) w.heap.size vr pb n cp (I3 (I1 mb 0) (n+1) cm) (I3 (I1 vb 0) (n+1) cv)):=q9 (Blk.new _ _ _);have HB0:Hid (Below w.heap.size w (w.alloc (.cells #[vr,I3 (I1 pb 0) (n+1) cp,I3 (I1 mb 0) (n+1) cm,I3 (I1 vb 0) (n+1) cv] 158))):=q9 ((Below.refl _ _).alloc (Nat.le_refl _) _);generalize w.alloc (.cells #[vr,I3 (I1 pb 0) (n+1) cp,I3 (I1 mb 0) (n+1) cm,I3 (I1 vb 0) (n+1) cv] 158)=W0 at HF HB0 |-;obtain⟨VM,hVM⟩:∃ VM,Value.slice (some (I1 mb 0)) (n+1) cm=VM:=⟨_,rfl⟩;obtain⟨VV,hVV⟩:∃ VV,Value.slice (some (I1 vb 0)) (n+1) cv=VV:=⟨_,rfl⟩
  have HRel:Hid (QnC w w.heap.size vr pb n cp (I3 (I1 mb 0) (n+1) cm) (I3 (I1 vb 0) (n+1) cv) R d (I 0) (I 0) W0):=q9 ⟨0,0,⟨by omega,by omega,.inl ⟨by omega,by omega⟩⟩,rfl,rfl,HF.out,HB0.out⟩
  generalize hwb:w.heap.size=b at HF HRel |-;clear HF HB0 hVM hVV
  go_loopw [9,10] (fun a i wr=>QnC w b vr pb n cp (I3 (I1 mb 0) (n+1) cm) (I3 (I1 vb 0) (n+1) cv) R d a i wr) (fun _ i _=>R.length-(intOf i).toNat)
  case atStart=>exact HRel.out
  case round=>
   clear HRel;obtain⟨k,a,htop,rfl,rfl,hF,hB⟩:=hrel;have hB':Below w.heap.size w wr:=hB;have HFS1:=q9 (HFS.below hB');have HLI1:=q9 (HLI.below hB');have HB:=q9 hB
   by_cases hkl:k<R.length
   . obtain⟨rb',off',cap,e,hcap',hrlt',hzs⟩:=HLI1.two hkl htop.1
     injection e with e1 _ e3;injection e1 with e1;injection e1 with e1 e4 _;subst e1 e3 e4;obtain⟨X,hX⟩:∃ X,R[k]?.getD 0=X:=⟨_,rfl⟩;obtain⟨Y,hY⟩:∃ Y,R[a]?.getD 0=Y:=⟨_,rfl⟩
     have HXN:Hid (X<=n):=q9 (HN.out X (by rw[<-hX,List.getElem?_eq_getElem hkl];exact List.getElem_mem _))
     have HYN:Hid (Y<=n):=q9 (HN.out Y (by rw[<-hY,List.getElem?_eq_getElem htop.1];exact List.getElem_mem _))
     have HT3:=q9 (HT2.out k a htop hkl);rw[hX,hY] at hzs HT3;have HRS:Hid (RS wr b vr pb n cp (I3 (I1 mb 0) (n+1) cm) (I3 (I1 vb 0) (n+1) cv) rb (off+k) (off+a) X Y):=q9 ⟨hF,hzs⟩;have hrs:=QlE b vr pb n cp (I3 (I1 mb 0) (n+1) cm) (I3 (I1 vb 0) (n+1) cv) rb (off+k) (off+a) X Y;obtain⟨y0,y1,y2,y3,y4,y5⟩:=hrs wr HRS.out;have hlt:=Blk.lt hF
     have h0k:(0:Int)<=(k:Int):=by omega
     have h1k:(k:Int)<(R.length:Int):=by omega
     have h0a:(0:Int)<=(a:Int):=by omega
     have h1a:(a:Int)<(R.length:Int):=by have:=htop.1;omega
     clear hF hB htop hzs hX hY hcap' hB';go_wp2_with fail
     have HRd:=q9 HRS.drew;have HPd:=q9 HFS1.drew.p;have HBd:=q9 HB.drew
     go_region_held3 (fun W=>RS W b vr pb n cp (I3 (I1 mb 0) (n+1) cm) (I3 (I1 vb 0) (n+1) cv) rb (off+k) (off+a) X Y) (first|(with_reducible assumption)|(with_reducible exact RS.below (by assumption) hb1)|(with_reducible exact HRd.out))
      (first
       |(go_at_call 157;((with_reducible refine(Qjr HPd.out HXN.out HYN.out _ _ _).mono ?_);rintro e w2 ⟨rfl,hb1⟩;have HB2:=q9 (QK HBd.out hb1 HBd.out.size);have HR2:=q9 (HRd.out.below hb1))))
     all_goals
      by_cases hab:ab pri X Y=true
      . rw[hab] at HT3 |-
        go_wp2_with fail
        go_roundw
        case rel=>exact⟨k+1,k,HT3.out,rfl,by simp,HR2.f,HB2.out⟩
        case measure=>simp [intOf];omega
      . have hab':ab pri X Y=false:=by simpa using hab
        rw[hab'] at HT3 |-;go_wp2_with fail
        go_roundw
        case rel=>exact⟨k+1,a,HT3.out,rfl,by simp,HR2.f,HB2.out⟩
        case measure=>simp [intOf];omega
   . obtain⟨h1,h2,h3⟩:=htop
     have ha:a=d:=by omega
     subst ha
     have hxn:x<=n:=HN.out x (by rw[HSP.1];simp)
     have hc1:wr.cell? (I1 rb (off+a))=some (I (x:Int)):=by
      obtain⟨rb',off',cap,e,_,_,zs,hz,hz1,_⟩:=HLI1.two h1 h1;injection e with e1 _ e3;injection e1 with e1;injection e1 with e1 e4 _;subst e1 e3 e4;rw[HXD.out] at hz1;exact(hz.cell _).trans hz1
     have hcm:=HFS1.m.cell hxn
     have h0a:(0:Int)<=(a:Int):=by omega
     have h1a:(a:Int)<(R.length:Int):=by omega
     have hkI:¬ (k:Int)<(R.length:Int):=by omega
     have hxI:(x:Int)<(n:Int)+1:=by omega
     have hm4:(mk x:Int)<=3:=by have:=HMK.out x;omega
     rw[HMX.out] at hcm hm4;have c0:=Blk.cell hF 0;have c2:wr.cell? (I1 b 2)=some (I3 (I1 mb 0) (n+1) cm):=Blk.cell hF 2;have blt:=Blk.lt hF;have mlt:=HFS1.m.lt
     have rlt:rb<wr.heap.size:=by have:=hB.size;omega
     have HFB:=q9 hF;clear hF hB h2 h3 c0;go_wp2_with fail
     have HNB:Hid (NB (wr.alloc (.cells #[I (par:Int),I 0,I 0,I (R.length:Int),I 0,I (MX:Int),I 0] 162)) wr.heap.size par 0 0 R.length 0 MX 0):=q9 (Blk.new _ _ _)
     have HRel2:Hid (QnB w b wr.heap.size vr pb n cp (I3 (I1 mb 0) (n+1) cm) (I3 (I1 vb 0) (n+1) cv) R par vx mk x (I 0) (wr.alloc (.cells #[I (par:Int),I 0,I 0,I (R.length:Int),I 0,I (MX:Int),I 0] 162))):=q9 ⟨0,Nat.zero_le _,rfl,Blk.alloc HFB.out _,by rw[HMX.out];exact HNB.out,by have:=HB.out;exact this.alloc this.size _⟩
     have HNW:Hid (w.heap.size<=wr.heap.size/\b<wr.heap.size/\mb<w.heap.size/\vb<w.heap.size):=q9 ⟨by have:=HB.size;omega,blt,HFS.m.lt,HFS.v.lt⟩
     generalize hnb:wr.heap.size=nb at HRel2 HNW |-;generalize wr.alloc (.cells #[I (par:Int),I 0,I 0,I (R.length:Int),I 0,I (MX:Int),I 0] 162)=W1 at HRel2 |-;clear HNB hc1 hcm c2 HFS1 HLI1 HB HFB hm4 blt mlt rlt
     go_loopw [13] (fun i wr=>QnB w b nb vr pb n cp (I3 (I1 mb 0) (n+1) cm) (I3 (I1 vb 0) (n+1) cv) R par vx mk x i wr) (fun i _=>R.length-(intOf i).toNat)
     case atStart=>exact HRel2.out
     case round=>
      clear HRel2;obtain⟨k2,hk2,rfl,hF,hNB,hB⟩:=hrel;have hB':Below w.heap.size w wr:=hB;have HFS1:=q9 (HFS.below hB');have HLI1:=q9 (HLI.below hB');have HB:=q9 hB';have HFB:=q9 hF;have HNB:=q9 hNB;have bc2:wr.cell? (I1 b 2)=some (I3 (I1 mb 0) (n+1) cm):=Blk.cell hF 2;have bc3:wr.cell? (I1 b 3)=some (I3 (I1 vb 0) (n+1) cv):=Blk.cell hF 3;have blt:=Blk.lt hF;have mlt:=HFS1.m.lt;have vlt:=HFS1.v.lt;have nlt:=Blk.lt hNB;have nfz:=Blk.frozen hNB
      have rlt:rb<wr.heap.size:=by have:=hB.size;omega
      by_cases hkl2:k2<R.length
      . obtain⟨Y,hY⟩:∃ Y,R[k2]?.getD 0=Y:=⟨_,rfl⟩
        have hYn:Y<=n:=HN.out Y (by rw[<-hY,List.getElem?_eq_getElem hkl2];exact List.getElem_mem _)
        have hTK:R.take (k2+1)=R.take k2++[Y]:=by
         rw[List.take_add_one,List.getElem?_eq_getElem hkl2]
         have:R[k2]=Y:=by rw[<-hY,List.getElem?_eq_getElem hkl2];rfl
         rw[this];rfl
        have hcy:wr.cell? (I1 rb (off+k2))=some (I (Y:Int)):=by
         obtain⟨rb',off',cap,e,_,_,zs,hz,hz1,_⟩:=HLI1.two hkl2 hkl2;injection e with e1 _ e3;injection e1 with e1;injection e1 with e1 e4 _;subst e1 e3 e4;rw[hY] at hz1;exact(hz.cell _).trans hz1
        have hcv:=HFS1.v.cell hYn;have hcm:=HFS1.m.cell hYn;obtain⟨CN,hCN⟩:∃ CN,cntV vx (R.take k2)=CN:=⟨_,rfl⟩;obtain⟨AN,hAN⟩:∃ AN,allM mk (R.take k2)=AN:=⟨_,rfl⟩;obtain⟨MY,hMY⟩:∃ MY,mk Y=MY:=⟨_,rfl⟩
        have hCNl:(CN:Int)<=100000:=by have:=QcZ vx (R.take k2);rw[hCN,List.length_take] at this;omega
        have hor:bits .or .i64 (AN:Int) (MY:Int)=((AN ||| MY:Nat):Int):=Qm7 (by rw[<-hAN];exact Qc2 HMK.out _) (by rw[<-hMY];exact HMK Y)
        obtain⟨AN2,hAN2⟩:∃ AN2,AN ||| MY=AN2:=⟨_,rfl⟩
        have HAN:Hid (allM mk (R.take (k2+1))=AN2):=q9 (by rw[hTK,Qe2,hAN,<-hAN2,<-hMY];simp [allM])
        rw[hAN2] at hor;rw[hMY] at hcm;rw[hCN,hAN] at hNB HNB;have n4:wr.cell? (I1 nb 4)=some (I (CN:Int)):=Blk.cell hNB 4;have n6:wr.cell? (I1 nb 6)=some (I (AN:Int)):=Blk.cell hNB 6
        have hrn:¬ rb=nb:=by have:=HNW.out;omega
        have hmn:¬ mb=nb:=by have:=HNW.out;omega
        have hbn:¬ b=nb:=by have:=HNW.out;omega
        have h0k:(0:Int)<=(k2:Int):=by omega
        have h1k:(k2:Int)<(R.length:Int):=by omega
        have h0y:(0:Int)<=(Y:Int):=by omega
        have h1y:(Y:Int)<(n:Int)+1:=by omega
        have HTK:=q9 hTK;have HCN:=q9 hCN;clear hF hNB hB hB' hTK hY hAN hMY hAN2 hYn hCN
        by_cases hvx:vx Y=true
        . rw[hvx] at hcv
          have HC2:Hid (cntV vx (R.take (k2+1))=CN+1):=q9 (by rw[HTK.out,QeU,HCN.out,Qbx,if_pos hvx];rfl)
          clear hvx;go_wp2_with fail
          go_quiet (fail)
          go_wp2_with fail
          go_region;go_wp2_with fail
          go_roundw
          case rel=>exact⟨k2+1,by omega,by simp,Blk.far (Blk.far HFB.out hbn _) hbn _,by rw[HC2.out,HAN.out];exact Blk.set_ (Blk.set_ HNB 4 _) 6 _,(((Qao HB _).setCell (p:=(I1 nb 4)) HNW.1 _).setCell (p:=(I1 nb 6)) HNW.1 _).drew⟩
          case measure=>simp [intOf];omega
        . have hvx':vx Y=false:=by simpa using hvx
          rw[hvx'] at hcv
          have HC2:Hid (cntV vx (R.take (k2+1))=CN):=q9 (by rw[HTK.out,QeU,HCN.out,Qbx,if_neg hvx];rfl)
          clear hvx hvx';go_wp2_with fail
          go_quiet (fail)
          go_wp2_with fail
          go_region;go_wp2_with fail
          go_roundw
          case rel=>exact⟨k2+1,by omega,by simp,Blk.far HFB.out hbn _,by rw[HC2.out,HAN.out];exact Blk.set_ HNB 6 _,(Qao HB _).setCell (p:=(I1 nb 6)) HNW.1 _⟩
          case measure=>simp [intOf];omega
      . have hk2':k2=R.length:=by omega
        subst hk2';rw[List.take_length] at hNB HNB;have HOB1:=q9 (HOB.below hB');have hobw:=HOB.lt
        have HLIl:Hid (LI wr (I3 (I1 rb off) a vc) l.row):=q9 (by
         have h:=HLI1.cutTo (k:=a) (by omega)
         rw[HSP.1,<-HSP.2,List.take_left'] at h
         . rw[HSP.2] at h;exact h
         . rfl)
        have HP1:Hid (Hp pri l):=q9 HPP.2.2.1;have HP2:Hid (Hp pri r):=q9 HPP.2.2.2
        have HN1:Hid (∀ y∈l.row,y<=n):=q9 fun y hy=>HN.out y (by rw[HSP.1];simp [hy])
        have HN2:Hid (∀ y∈r.row,y<=n):=q9 fun y hy=>HN.out y (by rw[HSP.1];simp [hy])
        have HL1:Hid (l.row.length<=100000):=q9 (by rw[HSP.2];omega)
        have HL2:Hid (r.row.length<=100000):=q9 (by have:=congrArg List.length HSP.1;simp at this;omega)
        have HXN:Hid (x<=n):=q9 hxn
        have hnbo:nb≠ob:=by have:=HNW.out;omega
        rw[HCV.out,HAL.out,HMX.out] at hNB HNB;have HSN:Hid (SN wr b nb vr pb n cp (I3 (I1 mb 0) (n+1) cm) (I3 (I1 vb 0) (n+1) cv)):=q9 ⟨hF,_,hNB,rfl⟩;have hsn:=Qlz b nb vr pb n cp (I3 (I1 mb 0) (n+1) cm) (I3 (I1 vb 0) (n+1) cv);obtain⟨z0,z1,z2,z3,z4,z5,z6,z7⟩:=hsn wr HSN.out
        have hai:(a:Int)<=(vc:Int):=by omega
        have han:a<=vc:=by omega
        have hrv:R.length<=vc:=hcap
        have hl9:¬ (R.length:Int)<(R.length:Int):=by omega
        clear hF hNB hB hB' bc2 bc3 mlt vlt nfz;go_wp2_with fail
        have HSd:=q9 HSN.drew;have HNd:=q9 (Blk.drew HNB.out);have HFd:=q9 HFS1.drew;have HOd:=q9 HOB1.drew;have HLd:=q9 HLIl.drew;have HLRd:=q9 HLI1.drew;have HBd:=q9 HB.drew;obtain⟨zo,hzo⟩:=HOd.blk
        go_region_held3 (fun W=>SN W b nb vr pb n cp (I3 (I1 mb 0) (n+1) cm) (I3 (I1 vb 0) (n+1) cv)) (first|(with_reducible assumption)|(with_reducible exact SN.set (by assumption) 1 _)|(with_reducible exact HSx.out)|(with_reducible exact HSd.out))
         (first
          |(go_at_call 142;((with_reducible refine(HIL.out _ _ HFd.out HOd.out HLd.out HP1.out HN1.out HL1.out hn1 HXN.out).mono ?_);rintro e w2 ⟨rfl,hO2,O2⟩;rw[HLR.out];have HSx:=q9 (SN.only HSd.out hzo O2 hnbo);have HN2x:=q9 (Blk.only HNd.out O2 hnbo hnbo);have HF2x:=q9 (HFd.out.only hzo O2);have HL2x:=q9 (HLRd.out.only O2 (HLRd.out.ne_blk hzo (by decide)) (HLRd.out.ne_blk hzo (by decide)));have HO2x:=q9 hO2;have HOO:=q9 ((Only.of_below (p:=ob) (g:=ob) HBd.out).trans O2))))
        all_goals
         have HZ:Hid (SN (w2.setCell (I1 nb 1) (I (lr:Int))) b nb vr pb n cp (I3 (I1 mb 0) (n+1) cm) (I3 (I1 vb 0) (n+1) cv)):=q9 (HSx.set 1 _);have HN3:=q9 (Blk.set_ HN2x.out 1 (I (lr:Int)));have HOn:Hid (Only nb nb w2 (w2.setCell (I1 nb 1) (I (lr:Int)))):=q9 ((Only.refl nb nb w2).set_p _);have HF3:=q9 (HF2x.only HN2x.out HOn.out)
         have HL3:=q9 (HL2x.only HOn.out (HL2x.ne_blk HN2x.out (by decide)) (HL2x.ne_blk HN2x.out (by decide)))
         have HO3:Hid (OB (w2.setCell (I1 nb 1) (I (lr:Int))) ob n (recT vx mk x l rc)):=q9 (HO2x.keep (Below.heap_setCell w2 (I1 nb 1) _ ob (fun e=>hnbo e.symm)))
         have HOO3:Hid (Only ob ob w (w2.setCell (I1 nb 1) (I (lr:Int)))):=q9 (HOO.set_new HNW.1 _);clear HSx HN2x HOn HF2x HL2x HO2x HOO HSd HNd HFd HOd HLd HLRd HBd HLIl HLI1 HFS1 HOB1 HB HFB HNB HSN blt nlt rlt z0 z1 z2 z3 z4 z5 z6 z7 hzo;generalize w2.setCell (I1 nb 1) (I (lr:Int))=Z at HZ HN3 HF3 HL3 HO3 HOO3 |-
         have HLIr:Hid (LI Z (.slice (if vc=a+1 then some (I1 rb off) else some ⟨rb,off+(a+1),none⟩) (R.length-(a+1)) (vc-(a+1))) r.row):=q9 (by
          have h:=HL3.cutFrom (k:=a+1) (by omega)
          rw[HSP.1,<-HSP.2] at h
          have e9:(l.row++x :: r.row).drop (l.row.length+1)=r.row:=by
           rw[show l.row++x :: r.row=(l.row++[x])++r.row by simp,List.drop_left' (by simp)]
          rw[e9] at h;rw[HSP.1,<-HSP.2];exact h)
         obtain⟨z0,z1,z2,z3,z4,z5,z6,z7⟩:=hsn Z HZ.out;have nlt:=Blk.lt HN3.out;have blt:=Blk.lt HZ.f
         have ha1:(0:Int)<=(a:Int)+1:=by omega
         have ha2:(a:Int)+1<=(R.length:Int):=by omega
         have ha3:a+1<=R.length:=by omega
         have haw:IntKind.i64.wrap ((a:Int)+1)=(a:Int)+1:=IntWalk.i64_in _ (by omega)
         have hav:(a:Int)+1<=(vc:Int):=by omega
         by_cases hvc:vc=a+1
         . replace HLIr:=q9 (by have h:=HLIr.out;rw[if_pos hvc,show vc-(a+1)=0 by omega] at h;exact h)
           go_wp2_with fail
           have HSd:=q9 HZ.drew;have HNd:=q9 (Blk.drew HN3.out);have HFd:=q9 HF3.drew;have HOd:=q9 HO3.drew;have HLd:=q9 HLIr.drew;have HBd:=q9 HOO3.drew;have HLRd:=q9 HL3.drew;obtain⟨zo,hzo⟩:=HOd.blk
           go_region_held3 (fun W=>SN W b nb vr pb n cp (I3 (I1 mb 0) (n+1) cm) (I3 (I1 vb 0) (n+1) cv)) (first|(with_reducible assumption)|(with_reducible exact SN.set (by assumption) 2 _)|(with_reducible exact HSx.out)|(with_reducible exact HSd.out))
            (first
             |(go_at_call 142;(go_loud ((with_reducible refine(HIR.out _ _ HFd.out HOd.out HLd.out HP2.out HN2.out HL2.out hn1 HXN.out).mono ?_));rintro e w2 ⟨rfl,hO2,O2⟩;rw[HRR.out];have HSx:=q9 (SN.only HSd.out hzo O2 hnbo);have HN2x:=q9 (Blk.only HNd.out O2 hnbo hnbo);have HO2x:=q9 hO2;have HOO:=q9 (HBd.out.trans O2))))
           all_goals
            have HN4:=q9 (Blk.set_ HN2x.out 2 (I (rr:Int)));have HOn:Hid (Only nb nb w2 (w2.setCell (I1 nb 2) (I (rr:Int)))):=q9 ((Only.refl nb nb w2).set_p _)
            have HO4:Hid (OB (w2.setCell (I1 nb 2) (I (rr:Int))) ob n (recT vx mk x r (recT vx mk x l rc))):=q9 (HO2x.keep (Below.heap_setCell w2 (I1 nb 2) _ ob (fun e=>hnbo e.symm)))
            have HOO4:Hid (Only ob ob w (w2.setCell (I1 nb 2) (I (rr:Int)))):=q9 (HOO.set_new HNW.1 _);clear HSx HN2x HOn HO2x HOO HSd HNd HFd HOd HLd HLRd HBd HLIr HZ HN3 HF3 HL3 HO3 HOO3 nlt blt z0 z1 z2 z3 z4 z5 z6 z7 hzo hsn;generalize w2.setCell (I1 nb 2) (I (rr:Int))=Z2 at HN4 HO4 HOO4 |-;have n0:Z2.cell? (I1 nb 0)=some (I (par:Int)):=Blk.cell HN4.out 0;have n1:Z2.cell? (I1 nb 1)=some (I (lr:Int)):=Blk.cell HN4.out 1;have n2:Z2.cell? (I1 nb 2)=some (I (rr:Int)):=Blk.cell HN4.out 2;have n3:Z2.cell? (I1 nb 3)=some (I (R.length:Int)):=Blk.cell HN4.out 3;have n4:Z2.cell? (I1 nb 4)=some (I (CV:Int)):=Blk.cell HN4.out 4;have n5:Z2.cell? (I1 nb 5)=some (I (MX:Int)):=Blk.cell HN4.out 5;have n6:Z2.cell? (I1 nb 6)=some (I (AL:Int)):=Blk.cell HN4.out 6;have nlt:=Blk.lt HN4.out
            have oc:∀ j,j<7->Z2.cell? (I1 ob (x*7+j))=some (I ((recT vx mk x r (recT vx mk x l rc) x j:Nat):Int))/\Z2.frozen? (I1 ob (x*7+j))=false:=fun j hj=>by
             obtain⟨zs,hz,_,he⟩:=HO4.out;exact⟨(hz.cell _).trans (he x j HXN hj),hz.frozen _⟩
            obtain⟨p0,q0⟩:=oc 0 (by omega)
            obtain⟨p1,q1⟩:=oc 1 (by omega)
            obtain⟨p2,q2⟩:=oc 2 (by omega)
            obtain⟨p3,q3⟩:=oc 3 (by omega)
            obtain⟨p4,q4⟩:=oc 4 (by omega)
            obtain⟨p5,q5⟩:=oc 5 (by omega)
            obtain⟨p6,q6⟩:=oc 6 (by omega)
            rw[Nat.add_zero] at p0 q0;have olt:=HO4.lt
            have hx0:(0:Int)<=(x:Int):=by omega
            clear oc;go_wp2_with fail
            go_ret;exact⟨rfl,HO4.put HXN,(((((((HOO4.set_p _).set_p _).set_p _).set_p _).set_p _).set_p _).set_p _)⟩
         . replace HLIr:=q9 (by have h:=HLIr.out;rw[if_neg hvc] at h;exact h)
           go_wp2_with fail
           have HSd:=q9 HZ.drew;have HNd:=q9 (Blk.drew HN3.out);have HFd:=q9 HF3.drew;have HOd:=q9 HO3.drew;have HLd:=q9 HLIr.drew;have HBd:=q9 HOO3.drew;have HLRd:=q9 HL3.drew;obtain⟨zo,hzo⟩:=HOd.blk
           go_region_held3 (fun W=>SN W b nb vr pb n cp (I3 (I1 mb 0) (n+1) cm) (I3 (I1 vb 0) (n+1) cv)) (first|(with_reducible assumption)|(with_reducible exact SN.set (by assumption) 2 _)|(with_reducible exact HSx.out)|(with_reducible exact HSd.out))
            (first
             |(go_at_call 142;(go_loud ((with_reducible refine(HIR.out _ _ HFd.out HOd.out HLd.out HP2.out HN2.out HL2.out hn1 HXN.out).mono ?_));rintro e w2 ⟨rfl,hO2,O2⟩;rw[HRR.out];have HSx:=q9 (SN.only HSd.out hzo O2 hnbo);have HN2x:=q9 (Blk.only HNd.out O2 hnbo hnbo);have HO2x:=q9 hO2;have HOO:=q9 (HBd.out.trans O2))))
           all_goals
            have HN4:=q9 (Blk.set_ HN2x.out 2 (I (rr:Int)));have HOn:Hid (Only nb nb w2 (w2.setCell (I1 nb 2) (I (rr:Int)))):=q9 ((Only.refl nb nb w2).set_p _)
            have HO4:Hid (OB (w2.setCell (I1 nb 2) (I (rr:Int))) ob n (recT vx mk x r (recT vx mk x l rc))):=q9 (HO2x.keep (Below.heap_setCell w2 (I1 nb 2) _ ob (fun e=>hnbo e.symm)))
            have HOO4:Hid (Only ob ob w (w2.setCell (I1 nb 2) (I (rr:Int)))):=q9 (HOO.set_new HNW.1 _);clear HSx HN2x HOn HO2x HOO HSd HNd HFd HOd HLd HLRd HBd HLIr HZ HN3 HF3 HL3 HO3 HOO3 nlt blt z0 z1 z2 z3 z4 z5 z6 z7 hzo hsn;generalize w2.setCell (I1 nb 2) (I (rr:Int))=Z2 at HN4 HO4 HOO4 |-;have n0:Z2.cell? (I1 nb 0)=some (I (par:Int)):=Blk.cell HN4.out 0;have n1:Z2.cell? (I1 nb 1)=some (I (lr:Int)):=Blk.cell HN4.out 1;have n2:Z2.cell? (I1 nb 2)=some (I (rr:Int)):=Blk.cell HN4.out 2;have n3:Z2.cell? (I1 nb 3)=some (I (R.length:Int)):=Blk.cell HN4.out 3;have n4:Z2.cell? (I1 nb 4)=some (I (CV:Int)):=Blk.cell HN4.out 4;have n5:Z2.cell? (I1 nb 5)=some (I (MX:Int)):=Blk.cell HN4.out 5;have n6:Z2.cell? (I1 nb 6)=some (I (AL:Int)):=Blk.cell HN4.out 6;have nlt:=Blk.lt HN4.out
            have oc:∀ j,j<7->Z2.cell? (I1 ob (x*7+j))=some (I ((recT vx mk x r (recT vx mk x l rc) x j:Nat):Int))/\Z2.frozen? (I1 ob (x*7+j))=false:=fun j hj=>by
             obtain⟨zs,hz,_,he⟩:=HO4.out;exact⟨(hz.cell _).trans (he x j HXN hj),hz.frozen _⟩
            obtain⟨p0,q0⟩:=oc 0 (by omega)
            obtain⟨p1,q1⟩:=oc 1 (by omega)
            obtain⟨p2,q2⟩:=oc 2 (by omega)
            obtain⟨p3,q3⟩:=oc 3 (by omega)
            obtain⟨p4,q4⟩:=oc 4 (by omega)
            obtain⟨p5,q5⟩:=oc 5 (by omega)
            obtain⟨p6,q6⟩:=oc 6 (by omega)
            rw[Nat.add_zero] at p0 q0;have olt:=HO4.lt
            have hx0:(0:Int)<=(x:Int):=by omega
            clear oc;go_wp2_with fail
            go_ret;exact⟨rfl,HO4.put HXN,(((((((HOO4.set_p _).set_p _).set_p _).set_p _).set_p _).set_p _).set_p _)⟩
end
theorem Ql3:(Tryz.prog.info? 36).map (fun i=>(i.zero,i.size,i.bytes))=some (some (.slice none 0 0),1,24):=by kernel_rfl
theorem Ql2:(Tryz.prog.info? 162).map (fun i=>(i.zero,i.size,i.bytes))=some (some (.agg #[I 0,I 0,I 0,I 0,I 0,I 0,I 0]),7,56):=by kernel_rfl
def RowV (w:World)(base:Nat)(v:Value)(xs:List Value):Prop:=w.ownsRow base 36 1 v xs.length xs
section
variable {w w':World}{base:Nat}{v:Value}{xs:List Value}
theorem RowV.nil (w:World)(base:Nat):RowV w base (.slice none 0 0) []:=World.ownsRow_nil _ _ _ _
theorem RowV.kept_of (h:RowV w base v xs)(hb:∀ i,v.ownBlock=some i->w'.heap[i]?=w.heap[i]?):RowV w' base v xs:=by
 refine⟨h.1,?_⟩
 rcases h.2 with hn|⟨g,cap,cur,rfl,hg,hgg,rest⟩
 . exact .inl hn
 . exact .inr ⟨g,cap,cur,rfl,hg,(hb g rfl).trans hgg,rest⟩
theorem RowV.lt (h:RowV w base v xs):∀ k,v.ownBlock=some k->base<=k/\k<w.heap.size:=World.ownsRow.lt h
theorem RowV.alloc (h:RowV w base v xs)(o:Obj):RowV (w.alloc o) base v xs:=World.ownsRow.alloc h o
theorem RowV.drew (h:RowV w base v xs):RowV w.drew base v xs:=h
theorem RowV.mono {base':Nat}(h:RowV w base v xs)(hb:base'<=base):RowV w base' v xs:=by
 refine⟨h.1,?_⟩
 rcases h.2 with hn|⟨g,cap,cur,rfl,hg,rest⟩
 . exact .inl hn
 . exact .inr ⟨g,cap,cur,rfl,Nat.le_trans hb hg,rest⟩
theorem RowV.below (h:RowV w base v xs)(hb:Below w.heap.size w w'):RowV w' base v xs:=h.kept_of fun i hi=>hb.block i (h.lt i hi).2
theorem RowV.shape (h:RowV w base v xs):(v=.slice none 0 0/\xs=[])\/∃ g cap cs,v=I3 (I1 g 0) xs.length cap/\base<=g/\Blk w g 36 cs/\xs.length<=cap/\cap<=maxLen/\∀ (k:Nat) (x:Value),xs[k]?=some x->cs[k]?=some x:=by
 rcases h.2 with ⟨rfl,h0⟩|⟨g,cap,cur,rfl,hg,hgg,h1,h2,h3,h4⟩
 . exact .inl ⟨rfl,List.eq_nil_of_length_eq_zero h0⟩
 . refine .inr ⟨g,cap,cur,rfl,hg,hgg,h1,h2,fun k x hx=>?_⟩
   have hk:=(List.getElem?_eq_some_iff.1 hx).1
   have he:cur[k]?=xs[k]?:=by
    have e:cur.toList.take xs.length=xs:=by simpa using h4
    have e2:=congrArg (fun l:List Value=>l[k]?) e
    simp only[List.getElem?_take_of_lt hk,Array.getElem?_toList] at e2;exact e2
   rw[he];exact hx
theorem RowV.slice (h:RowV w base v xs):∃ a cap,v=.slice a xs.length cap:=by
 rcases h.shape with ⟨rfl,rfl⟩|⟨g,cap,cs,rfl,_⟩
 . exact⟨none,0,rfl⟩
 . exact⟨_,cap,rfl⟩
theorem RowV.ne_blk (h:RowV w base v xs){i:Nat}{ty:TypeId}{cs:Array Value}(hi:Blk w i ty cs)(hty:36≠ty):v.ownBlock≠some i:=by
 intro e
 rcases h.shape with ⟨rfl,_⟩|⟨g,cap,zs,rfl,_,hz,_⟩
 . cases e
 . cases e;exact hz.ne_ hi hty rfl
theorem RowV.only {p g:Nat}(h:RowV w base v xs)(ho:Only p g w w')(h1:v.ownBlock≠some p)(h2:v.ownBlock≠some g):RowV w' base v xs:=
 h.kept_of fun i hi=>ho.block i (h.lt i hi).2 (fun e=>h1 (e ▸ hi)) (fun e=>h2 (e ▸ hi))
theorem QcM (w:World){ops:Array Oper}{rest:List Oper}{o:Oper}{a:Act}{Q:Exit->Act->World->Prop}(hgd:o.guard=none)(s x:Operand)
 (ho:o.op=.call { callee:=.builtin .append,args:=#[s,x],argTypes:=#[107,107]})
 {v:Value} {xs:List Value} {base:Nat} (hs:a.eval s=v) (h:RowV w base v xs) (u:Value) (hu:u.oneCell'=true) (ad:Addr) (c:Nat) (hx:a.eval x=.slice (some ad) 1 c) (hc0:w.cell? (ad.add 0)=some u) (hl:xs.length<=100000) (hb:base<=w.heap.size)
 (hK:∀ v' w',RowV w' base v' (xs++[u])->w.grownBy w' v.ownBlock->wpList Tryz.prog ops Q rest (a.put o.dst v') w'):wpList Tryz.prog ops Q (o :: rest) a w:=by
 obtain⟨i0,hi0,hz0,hz1,hz2⟩:=info_parts Ql3
 refine wpList_append_own_at w hgd s x 107 ho base 36 i0 _ 1 24 Tryz.underlying107 hi0 hz0 hz1 hz2 rfl (by omega) v xs.length xs hs h ad 1 c [u] hx rfl ?_ ?_ (by simp only[maxLen];omega) (by omega) hb ?_
 . intro j u' hj
   match j,hj with
   |0,hj=>simp at hj;subst hj;exact hc0
   |j+1,hj=>simp at hj
 . intro u' hu';simp at hu';subst hu';exact hu
 . intro v' w' h1 h2 _ _
   refine hK v' w' ?_ h2;unfold RowV;rw[List.length_append,List.length_singleton];exact h1
end
def QT (W:World)(mb:Nat)(vs:List Value)(ts:List Tp):Prop:=vs.length=ts.length/\∀ (i:Nat) (v:Value) (t:Tp),vs[i]?=some v->ts[i]?=some t->LI W v t.row/\bk v≠some mb
theorem QT.keep {w w':World}{mb:Nat}{vs:List Value}{ts:List Tp}(h:QT w mb vs ts)(hk:∀ v t,v∈vs->t∈ts->LI w v t.row->bk v≠some mb->LI w' v t.row):QT w' mb vs ts:=
 ⟨h.1,fun i v t h1 h2=>⟨hk v t (List.mem_of_getElem? h1) (List.mem_of_getElem? h2) (h.2 i v t h1 h2).1 (h.2 i v t h1 h2).2,(h.2 i v t h1 h2).2⟩⟩
theorem QT.below {w w':World}{mb:Nat}{vs:List Value}{ts:List Tp}(h:QT w mb vs ts)(hb:Below w.heap.size w w'):QT w' mb vs ts:=h.keep fun _ _ _ _ h1 _=>h1.below hb
theorem QT.only {w w':World}{mb p g:Nat}{vs:List Value}{ts:List Tp}{t1 t2:TypeId}{c1 c2:Array Value}(h:QT w mb vs ts)(ho:Only p g w w')(h1:Blk w p t1 c1)(h2:Blk w g t2 c2)(n1:3≠t1)(n2:3≠t2):QT w' mb vs ts:=
 h.keep fun _ _ _ _ hl _=>hl.only ho (hl.ne_blk h1 n1) (hl.ne_blk h2 n2)
section
variable {w w' W:World}
theorem QjT {p a b n v o al:Nat}(hn:n<=65535)(hv:v<=65535)(ho:o<=3)(ha:al<=3)(w:World):
 Calls Tryz.prog 110 #[.agg #[I (p:Int),I (a:Int),I (b:Int),I (n:Int),I (v:Int),I (o:Int),I (al:Int)]] w fun e w'=>e=.returned (I2 (sumW n v o al:Int))/\Below w.heap.size w w':=by
 have hnI:(n:Int)<=65535:=by omega
 have hvI:(v:Int)<=65535:=by omega
 have hoI:(o:Int)<=3:=by omega
 have haI:(al:Int)<=3:=by omega
 have e:(((al:Int)*4+(o:Int))*65536+(v:Int))*65536+(n:Int)=(sumW n v o al:Int):=by unfold sumW;omega
 obtain⟨s,hs⟩:∃ s,sumW n v o al=s:=⟨_,rfl⟩;rw[hs] at e |-;have HE:=q9 e;clear hs e hn hv ho ha
 go_enter Tryz.func110,Tryz.ntmps110
 go_wp2_with fail
 go_ret
 exact⟨by rw[<-HE.out];rfl,(Below.refl _ _).alloc (Nat.le_refl _) _⟩
def recF (vx:Nat->Bool)(mk:Nat->Nat)(ts:List Tp)(rc:Rec7):Rec7:=ts.foldl (fun rc t=>recT vx mk 0 t rc) rc
theorem QbC {vx:Nat->Bool}{mk:Nat->Nat}:∀ {t:Tp} {par:Nat} {rc:Rec7} {y:Nat},y∉t.row->recT vx mk par t rc y=rc y
 |.nil,_,_,_,_=>rfl
 |.node l x r,par,rc,y,h=>by
  rw[Tp.row_node,List.mem_append,not_or,List.mem_cons,not_or] at h;simp only[recT];rw[if_neg h.2.1,QbC h.2.2,QbC h.1]
theorem Qeg {vx:Nat->Bool}{mk:Nat->Nat}:∀ {ts:List Tp} {rc:Rec7} {y:Nat},(∀ t∈ts,y∉t.row)->recF vx mk ts rc y=rc y
 |[],_,_,_=>rfl
 |t :: ts,rc,y,h=>by
  show recF vx mk ts (recT vx mk 0 t rc) y=rc y
  rw[Qeg fun t' ht=>h t' (List.mem_cons_of_mem _ ht),QbC (h t (List.mem_cons_self ..))]
def QcG (g:Mg9)(rc:Rec7)(y:Nat):Prop:=g y 2=rc y 0/\g y 3=rc y 1/\g y 4=rc y 2/\g y 6=sumW (rc y 3) (rc y 4) (rc y 5) (rc y 6)/\rc y 3<=65535/\rc y 4<=65535/\rc y 5<=3/\rc y 6<=3
theorem Qf4 {vx:Nat->Bool}{mk:Nat->Nat}(hm:∀ x,mk x<4){g:Mg9}:∀ {t:Tp} {par:Nat} {rc:Rec7},Qe vx mk g t->(t.root≠0->g t.root 2=par)->t.row.Nodup->(∀ y∈t.row,y≠0)->t.size<65536->∀ y∈t.row,QcG g (recT vx mk par t rc) y
 |.nil,_,_,_,_,_,_,_,y,h=>by simp [Tp.row] at h
 |.node l x r,par,rc,hl,hp,hn,h0,hz,y,h=>by
  have hn':=hn;rw[Tp.row_node,List.nodup_append] at hn;obtain⟨nl,nr,nd⟩:=hn;rw[List.nodup_cons] at nr;obtain⟨a,b,c,d,e,hll,hlr⟩:=hl
  have hx0:x≠0:=h0 x (by simp [Tp.row])
  rw[Tp.size_node] at hz
  have key:∀ rc',recT vx mk par (.node l x r) rc x=rc'->True:=fun _ _=>trivial
  by_cases hyx:y=x
  . subst hyx
    have h1:recT vx mk par (.node l y r) rc y=row7 par l.root r.root (Tp.node l y r).row.length (cntV vx (Tp.node l y r).row) (mk y) (allM mk (Tp.node l y r).row):=by simp only[recT,if_true]
    have hlen:(Tp.node l y r).row.length=l.size+1+r.size:=Tp.size_node l y r;have hcv:=QcZ vx (Tp.node l y r).row;have hal:=Qc2 hm (Tp.node l y r).row;have hmy:=hm y;unfold QcG;rw[h1]
    exact⟨hp hx0,a,b,c,by show (Tp.node l y r).row.length<=65535;omega,by show cntV vx (Tp.node l y r).row<=65535;omega,by show mk y<=3;omega,by show allM mk (Tp.node l y r).row<=3;omega⟩
  . have e1:recT vx mk par (.node l x r) rc y=recT vx mk x r (recT vx mk x l rc) y:=by simp only[recT];rw[if_neg hyx]
    rw[Tp.row_node] at h
    rcases List.mem_append.1 h with h|h
    . have hyr:y∉r.row:=fun h2=>nd y h y (by simp [h2]) rfl
      have:=Qf4 hm (rc:=rc) hll (fun h=>d h) nl (fun z hz=>h0 z (by simp [Tp.row,hz])) (by omega) y h
      unfold QcG at this |-;rw[e1,QbC hyr];exact this
    . rcases List.mem_cons.1 h with rfl|h
      . exact absurd rfl hyx
      . have:=Qf4 hm (rc:=recT vx mk x l rc) hlr (fun h=>e h) nr.2 (fun z hz=>h0 z (by simp [Tp.row,hz])) (by omega) y h
        unfold QcG at this |-;rw[e1];exact this
theorem Qig {vx:Nat->Bool}{mk:Nat->Nat}(hm:∀ x,mk x<4){g:Mg9}:∀ {ts:List Tp} {rc:Rec7},(∀ t∈ts,Q7 vx mk g t/\t.size<65536/\∀ y∈t.row,y≠0)->(ts.flatMap Tp.row).Nodup->∀ t∈ts,∀ y∈t.row,QcG g (recF vx mk ts rc) y
 |[],_,_,_,t,ht,_,_=>by simp at ht
 |t0 :: ts,rc,h,hn,t,ht,y,hy=>by
  rw[List.flatMap_cons,List.nodup_append] at hn;obtain⟨n1,n2,n3⟩:=hn;show QcG g (recF vx mk ts (recT vx mk 0 t0 rc)) y
  rcases List.mem_cons.1 ht with rfl|ht
  . have h1:=h t (List.mem_cons_self ..)
    have h2:=Qf4 hm (rc:=rc) h1.1.1 h1.1.2 n1 h1.2.2 h1.2.1 y hy
    have h3:recF vx mk ts (recT vx mk 0 t rc) y=recT vx mk 0 t rc y:=Qeg fun t' ht' hy'=>n3 y hy y (List.mem_flatMap.2 ⟨t',ht',hy'⟩) rfl
    unfold QcG at h2 |-;rw[h3];exact h2
  . exact Qig hm (fun t' ht'=>h t' (List.mem_cons_of_mem _ ht')) n2 t ht y hy
end
abbrev Qg4:Value:=.agg #[I 0,I 0,I 0,I 0,I 0,I 0,I 0]
theorem Qhq (n:Nat)(hn:n<=100000)(w:World):(Instr.makeSlice 159 (I ((n:Int)+1)) (I ((n:Int)+1))).run Tryz.prog w=.ok (I3 (I1 w.heap.size 0) (n+1) (n+1)) (w.alloc (.cells (madeCells Qg4.cells ((n+1)*7)) 162)):=by
 obtain⟨i0,hi0,hz0,hz1,hz2⟩:=info_parts Ql2
 have h:=run_make (P:=Tryz.prog) w 159 162 i0 Qg4 Tryz.underlying159 hi0 hz0 .i64 .i64 ((n:Int)+1) ((n:Int)+1) (by omega) (Int.le_refl _) (by rw[hz2];omega) (by omega)
 rw[show ((n:Int)+1).toNat=n+1 by omega,hz1] at h
 exact h
theorem Qiu (n k:Nat)(hk:k<n):(madeCells Qg4.cells n)[k]?=some (I 0):=by
 unfold madeCells;simp only[Array.getElem?_map,Array.getElem?_range,if_pos hk,Option.map_some]
 have h7:∀ j,j<7->(Qg4.cells)[j]! =I 0:=by
  intro j hj
  have:j=0\/j=1\/j=2\/j=3\/j=4\/j=5\/j=6:=by omega
  rcases this with rfl|rfl|rfl|rfl|rfl|rfl|rfl<;>rfl
 rw[show Qg4.cells.size=7 from rfl]
 rw[h7 _ (Nat.mod_lt _ (by omega))]
theorem OB.made (w:World)(n:Nat):OB (w.alloc (.cells (madeCells Qg4.cells ((n+1)*7)) 162)) w.heap.size n (fun _ _=>0):=
 ⟨_,Blk.new _ _ _,size_madeCells _ _,fun k j hk hj=>Qiu _ _ (by omega)⟩
structure SR (W:World)(b:Nat)(vr:Value)(pb n cp:Nat)(vm vv:Value)(rg k:Nat)(u:Value):Prop where
 f:FB W b vr pb n cp vm vv
 r:∃ cs,Blk W rg 36 cs/\cs[k]?=some u
section
variable {w w' W w0:World}{b pb n cp mb cm vb cv ob rg k base:Nat}{vr vm vv u:Value}{pri mk:Nat->Nat}{vx:Nat->Bool}{rc:Rec7}
theorem SR.drew (h:SR w b vr pb n cp vm vv rg k u):SR w.drew b vr pb n cp vm vv rg k u:=⟨h.f,h.r⟩
theorem SR.only {cs:Array Value}(h:SR w b vr pb n cp vm vv rg k u)(hz:Blk w ob 162 cs)(ho:Only ob ob w w'):SR w' b vr pb n cp vm vv rg k u:=by
 obtain⟨f,c2,h2,h3⟩:=h
 have n1:=Blk.ne_ f hz (by decide)
 have n2:=h2.ne_ hz (by decide)
 exact⟨Blk.only f ho n1 n1,c2,h2.only ho n2 n2,h3⟩
theorem Qly (b:Nat)(vr:Value)(pb n cp:Nat)(vm vv:Value)(rg k:Nat)(u:Value):∀ W:World,SR W b vr pb n cp vm vv rg k u->W.cell? (I1 b 0)=some vr/\W.cell? (I1 b 1)=some (I3 (I1 pb 0) (n+1) cp)/\W.cell? (I1 b 2)=some vm/\W.cell? (I1 b 3)=some vv/\W.cell? (I1 rg k)=some u:=fun W h=>by
 obtain⟨f,cs,h2,h3⟩:=h;exact⟨Blk.cell f 0,Blk.cell f 1,Blk.cell f 2,Blk.cell f 3,(h2.cell k).trans h3⟩
def QnG (w0:World)(b ob base:Nat)(vr:Value)(pb mb vb n cp:Nat)(vm vv:Value)(pri mk:Nat->Nat)(vx:Nat->Bool)(vs:List Value)(ts:List Tp)(i:Value)(W:World):Prop:=
 ∃ k,k<=ts.length/\i=I ((k:Nat):Int)/\FB W b vr pb n cp vm vv/\OB W ob n (recF vx mk (ts.take k) (fun _ _=>0))/\FS W pb mb vb n pri mk vx/\RowV W base vr vs/\QT W mb vs ts/\Only ob ob w0 W
theorem QhU (hm:∀ x,mk x<4)(t:Tp)(w:World)(v:Value)(rc:Rec7)(vr:Value)(co:Nat)(hF:FS w pb mb vb n pri mk vx)(hO:OB w ob n rc)(hR:LI w v t.row)(hp:Hp pri t)(hy:∀ y∈t.row,y<=n)(hl:t.row.length<=100000)(hn:n<=100000):
 Calls Tryz.prog 142 #[vF vr pb n cp (I3 (I1 mb 0) (n+1) cm) (I3 (I1 vb 0) (n+1) cv),v,I 0,I3 (I1 ob 0) (n+1) co] w (Qms ob n vx mk 0 t rc w):=Qex hm t w v 0 rc vr co hF hO hR hp hy hl hn (Nat.zero_le _)
def QnF (n:Nat)(rc:Rec7)(w:World)(e:Ending)(w':World):Prop:=
 ∃ ob co,e=.returned (I3 (I1 ob 0) (n+1) co)/\w.heap.size<=ob/\OB w' ob n rc/\Below w.heap.size w w'
set_option maxHeartbeats 4000000 in
theorem Qhn (hm:∀ x,mk x<4)(hF:FS w pb mb vb n pri mk vx){vs:List Value}{ts:List Tp}(hV:RowV w base vr vs)(hR:QT w mb vs ts)(hT:∀ t∈ts,Hp pri t/\(∀ y∈t.row,y<=n)/\t.row.length<=100000)(hn:n<=100000)(hts:ts.length<=100000):
 Calls Tryz.prog 109 #[vF vr pb n cp (I3 (I1 mb 0) (n+1) cm) (I3 (I1 vb 0) (n+1) cv)] w (QnF n (recF vx mk ts (fun _ _=>0)) w):=by
 have hmk:=Qhq n hn;have HMK:=q9 hm;have HF:=q9 hF;have HV:=q9 hV;have HR:=q9 hR;have HT:=q9 hT;have hlen:vs.length=ts.length:=hR.1
 have nI:(n:Int)<=100000:=by omega
 obtain⟨av,vc,rfl⟩:=hV.slice;rw[hlen] at HV;rw[hlen];have HLEN:=q9 hlen;clear hlen;obtain⟨N9,hN9⟩:∃ N9,ts.length=N9:=⟨_,rfl⟩;rw[hN9] at HV hts HLEN;rw[hN9];have HN9:=q9 hN9;clear hm hF hV hR hT hN9
 go_enter Tryz.func109,Tryz.ntmps109
 go_wp2_with fail
 have HFB:Hid (FB (w.alloc (.cells #[.slice av N9 vc,I3 (I1 pb 0) (n+1) cp,I3 (I1 mb 0) (n+1) cm,I3 (I1 vb 0) (n+1) cv] 158)) w.heap.size (.slice av N9 vc) pb n cp (I3 (I1 mb 0) (n+1) cm) (I3 (I1 vb 0) (n+1) cv)):=q9 (Blk.new _ _ _);have HB0:Hid (Below w.heap.size w (w.alloc (.cells #[.slice av N9 vc,I3 (I1 pb 0) (n+1) cp,I3 (I1 mb 0) (n+1) cm,I3 (I1 vb 0) (n+1) cv] 158))):=q9 ((Below.refl _ _).alloc (Nat.le_refl _) _)
 have HOB:Hid (OB ((w.alloc (.cells #[.slice av N9 vc,I3 (I1 pb 0) (n+1) cp,I3 (I1 mb 0) (n+1) cm,I3 (I1 vb 0) (n+1) cv] 158)).alloc (.cells (madeCells #[I 0,I 0,I 0,I 0,I 0,I 0,I 0] ((n+1)*7)) 162)) (w.heap.size+1) n (fun _ _=>0)):=q9 (by have:=OB.made (w.alloc (.cells #[.slice av N9 vc,I3 (I1 pb 0) (n+1) cp,I3 (I1 mb 0) (n+1) cm,I3 (I1 vb 0) (n+1) cv] 158)) n;rw[World.size_alloc] at this;exact this)
 have HFS1:=q9 ((HF.below HB0.out).below ((Below.refl _ _).alloc (Nat.le_refl _) (.cells (madeCells #[I 0,I 0,I 0,I 0,I 0,I 0,I 0] ((n+1)*7)) 162)));have HV1:=q9 ((HV.below HB0.out).alloc (.cells (madeCells #[I 0,I 0,I 0,I 0,I 0,I 0,I 0] ((n+1)*7)) 162));have HR1:=q9 ((HR.below HB0.out).below ((Below.refl _ _).alloc (Nat.le_refl _) (.cells (madeCells #[I 0,I 0,I 0,I 0,I 0,I 0,I 0] ((n+1)*7)) 162)));have HB1:=q9 (HB0.alloc HB0.size (.cells (madeCells #[I 0,I 0,I 0,I 0,I 0,I 0,I 0] ((n+1)*7)) 162));have HFB1:=q9 (Blk.alloc HFB.out (.cells (madeCells #[I 0,I 0,I 0,I 0,I 0,I 0,I 0] ((n+1)*7)) 162));generalize hwb:w.heap.size=b at HFB1 HOB |-;generalize (w.alloc (.cells #[.slice av N9 vc,I3 (I1 pb 0) (n+1) cp,I3 (I1 mb 0) (n+1) cm,I3 (I1 vb 0) (n+1) cv] 158)).alloc (.cells (madeCells #[I 0,I 0,I 0,I 0,I 0,I 0,I 0] ((n+1)*7)) 162)=W1 at HOB HFS1 HV1 HR1 HB1 HFB1 |-;have HRel:Hid (QnG W1 b (b+1) base (.slice av N9 vc) pb mb vb n cp (I3 (I1 mb 0) (n+1) cm) (I3 (I1 vb 0) (n+1) cv) pri mk vx vs ts (I 0) W1):=q9 ⟨0,Nat.zero_le _,rfl,HFB1.out,HOB.out,HFS1.out,HV1.out,HR1.out,Only.refl _ _ _⟩;clear HF HV HR HFB HB0 HOB HFS1 HV1 HR1 HFB1 hmk
 go_loopw [4] (fun i wr=>QnG W1 b (b+1) base (.slice av N9 vc) pb mb vb n cp (I3 (I1 mb 0) (n+1) cm) (I3 (I1 vb 0) (n+1) cv) pri mk vx vs ts i wr) (fun i _=>N9-(intOf i).toNat)
 case atStart=>exact HRel.out
 case round=>
  clear HRel;obtain⟨k,hk,rfl,hF,hO,hS,hV,hR,hOn⟩:=hrel;have HFB:=q9 hF;have HO:=q9 hO;have HS:=q9 hS;have HV:=q9 hV;have HR:=q9 hR;have HON:=q9 hOn;have c0:wr.cell? (I1 b 0)=some (.slice av N9 vc):=Blk.cell hF 0;have blt:=Blk.lt hF;rw[HN9.out] at hk
  by_cases hkl:k<N9
  . obtain⟨t,ht⟩:∃ t,ts[k]?=some t:=⟨_,List.getElem?_eq_getElem (by rw[HN9.out];exact hkl)⟩
    obtain⟨u,hu⟩:∃ u,vs[k]?=some u:=⟨_,List.getElem?_eq_getElem (by have:=HLEN.out;omega)⟩
    have htm:=List.mem_of_getElem? ht;have HLI:=q9 (hR.2 k u t hu ht).1;have HTT:=q9 (HT.out t htm)
    have HTK:Hid (recF vx mk (ts.take (k+1)) (fun _ _=>0)=recT vx mk 0 t (recF vx mk (ts.take k) (fun _ _=>0))):=q9 (by
     rw[List.take_add_one,ht];unfold recF;rw[List.foldl_append];rfl)
    rcases hV.shape with ⟨_,h0⟩|⟨rg,cap,cs,e,_,hz,hcl,_,hcs⟩
    . exfalso;have hlen:=HLEN.out;rw[h0] at hlen;simp at hlen;omega
    . injection e with e1 e2 e3
      clear e2;subst e1 e3;have hcu:=hcs k u hu;have HSR:Hid (SR wr b (I3 (I1 rg 0) N9 vc) pb n cp (I3 (I1 mb 0) (n+1) cm) (I3 (I1 vb 0) (n+1) cv) rg k u):=q9 ⟨hF,cs,hz,hcu⟩;have hsr:=Qly b (I3 (I1 rg 0) N9 vc) pb n cp (I3 (I1 mb 0) (n+1) cm) (I3 (I1 vb 0) (n+1) cv) rg k u;obtain⟨y0,y1,y2,y3,y4⟩:=hsr wr HSR.out
      have h0k:(0:Int)<=(k:Int):=by omega
      have h1k:(k:Int)<(N9:Int):=by omega
      clear hF hO hS hV hR hOn hz hcs hcu htm c0 hu ht hcl;go_wp2_with fail
      have HSd:=q9 HSR.drew;have HFd:=q9 HS.drew;have HOd:=q9 HO.drew;have HLd:=q9 HLI.drew;have HVd:=q9 HV.drew;have HRd:=q9 (HR.below (Below.refl _ _).drew);have HNd:=q9 HON.drew;obtain⟨zo,hzo⟩:=HOd.blk
      go_region_held3 (fun W=>SR W b (I3 (I1 rg 0) N9 vc) pb n cp (I3 (I1 mb 0) (n+1) cm) (I3 (I1 vb 0) (n+1) cv) rg k u) (first|(with_reducible assumption)|(with_reducible exact HSx.out)|(with_reducible exact HSd.out))
       (first
        |(go_at_call 142;(go_loud ((with_reducible refine(QhU HMK.out t _ u _ _ _ HFd.out HOd.out HLd.out HTT.out.1 HTT.out.2.1 HTT.out.2.2 hn).mono ?_));rintro e w2 ⟨rfl,hO2,O2⟩;have HSx:=q9 (SR.only HSd.out hzo O2);have HO2:=q9 hO2;have HF2:=q9 (HFd.out.only hzo O2);have HV2:=q9 (HVd.out.only O2 (HVd.out.ne_blk hzo (by decide)) (HVd.out.ne_blk hzo (by decide)));have HR2:=q9 (HRd.out.only O2 hzo hzo (by decide) (by decide));have HN2:=q9 (HNd.out.trans O2))))
      all_goals
       go_wp2_with fail
       go_roundw
       case rel=>exact⟨k+1,(by rw[HN9.out];exact hkl),by simp,HSx.f,by rw[HTK.out];exact HO2,HF2,HV2,HR2,HN2⟩
       case measure=>simp [intOf];omega
  . have hk2:k=N9:=by omega
    subst hk2;have hO9:=HO.out;rw[<-HN9.out,List.take_length] at hO9
    replace HO:=q9 hO9
    clear hO9;clear hF hO hS hV hR hOn;go_wp2_with fail
    go_ret
    exact⟨_,_,rfl,by omega,HO,HON.below HB1 HB1.size (by omega) (by omega)⟩
end
structure PK9 where
 V:Int
 S:Int
 T:Int
 q:Nat
 p:Nat
 gb:Nat
 cap:Nat
 pb:Nat
 mb:Nat
 vb:Nat
 cp:Nat
 cm:Nat
 cv:Nat
 base:Nat
theorem Qi8 {vx vx':Nat->Bool}:∀ {l:List Nat},(∀ x∈l,vx' x=vx x)->cntV vx' l=cntV vx l
 |[],_=>rfl
 |x :: l,h=>by rw[Qbx,Qbx,h x (by simp),Qi8 fun y hy=>h y (by simp [hy])]
theorem Qe.vx {vx vx':Nat->Bool}{mk:Nat->Nat}{g:Mg9}:∀ {t:Tp},Qe vx mk g t->(∀ x∈t.row,vx' x=vx x)->Qe vx' mk g t
 |.nil,_,_=>trivial
 |.node l x r,h,h1=>by
  obtain⟨a,b,c,d,e,hl,hr⟩:=h
  exact⟨a,b,by rw[c,Qbl,Qbl,Qi8 h1],d,e,Qe.vx hl fun y hy=>h1 y (by simp [Tp.row,hy]),Qe.vx hr fun y hy=>h1 y (by simp [Tp.row,hy])⟩
structure FI (V S:Int)(g:Mg9)(mk:Nat->Nat)(ts:List Tp):Prop where
 hm:∀ x,mk x<4
 st:∀ t∈ts,Q7 (vxN V) mk g t/\Hp (fun z=>g z 5) t/\t≠.nil
 nd:(ts.flatMap Tp.row).Nodup
 al:∀ x,(x≠0/\x<=nN V S)↔∃ t∈ts,x∈t.row
section
variable {w w' W:World}{K:PK9}{m m':Nat}{g g':Mg9}{mk:Nat->Nat}{ts:List Tp}{vr:Value}{vs:List Value}
theorem flat_len {V S:Int}(h:FI V S g mk ts):(ts.flatMap Tp.row).length<=nN V S:=by
 have h1:(ts.flatMap Tp.row) ⊆ List.range' 1 (nN V S):=fun x hx=>by
  obtain⟨t,ht,hx⟩:=List.mem_flatMap.1 hx;have:=(h.al x).2 ⟨t,ht,hx⟩
  exact List.mem_range'.2 ⟨x-1,by omega,by omega⟩
 have:=h.nd.length_le_of_subset h1;simpa using this
theorem FI.size {V S:Int}(h:FI V S g mk ts){t:Tp}(ht:t∈ts):t.size<=nN V S:=by
 refine Nat.le_trans ?_ (flat_len h);obtain⟨a,b,rfl⟩:=List.append_of_mem ht;rw[List.flatMap_append,List.flatMap_cons];simp [Tp.size];omega
theorem FI.nodes {V S:Int}(h:FI V S g mk ts){t:Tp}(ht:t∈ts):∀ y∈t.row,y≠0/\y<=nN V S:=fun y hy=>(h.al y).2 ⟨t,ht,hy⟩
theorem FI.one {V S:Int}(h:FI V S g mk ts){t:Tp}(ht:t∈ts):t.row.Nodup:=by
 have:=h.nd;obtain⟨a,b,rfl⟩:=List.append_of_mem ht;rw[List.flatMap_append,List.flatMap_cons,List.nodup_append,List.nodup_append] at this;exact this.2.1.1
def wo {α:Type}(i k:Nat):Nat->List α->List α
 |_,[]=>[]
 |j,x :: l=>if j≠i/\j≠k then x :: wo i k (j+1) l else wo i k (j+1) l
end
end Go.Proofs.YtaooglagddphnaaGreat
