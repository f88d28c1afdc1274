/- Ge -/
import Derived.Test.YtaooglagddphnaaGreatXGd
import Derived.Test.YtaooglagddphnaaGreatXGc
import Derived.Test.YtaooglagddphnaaGreatXZF
import Derived.Deep.RegionHeld3
import Derived.Test.YtaooglagddphnaaGreatXGra
namespace Go.Proofs.YtaooglagddphnaaGreat
open Go.RowKit
set_option maxRecDepth 100000
def QiF:Value->Nat
 |.slice _ n _=>n
 |_=>0
theorem Qkj {w:World}{v:Value}{l:List Nat}{n:Nat}(h:LI w v l)(hn:l.length=n):∃ a c,v=.slice a n c/\LI w (.slice a n c) l:=by
 obtain⟨a,c,e,_,_⟩:=h.shape;subst hn e;exact⟨a,c,rfl,h⟩
def QnJ (w0:World)(L:List Nat)(o ia ix:Value)(W:World):Prop:=
 ∃ (pre suf:List Nat) (k a x:Nat) (av:Option Addr) (ac:Nat),L=pre++suf/\pre.length=k/\pre.getLast?.getD 0=a/\suf.headD 0=x/\o=.slice av k ac/\ia=I2 (a:Int)/\ix=I2 (x:Int)/\LI W (.slice av k ac) (pre.map fun x=>x-1)/\(∀ i,bk (.slice av k ac)=some i->w0.heap.size<=i)/\Below w0.heap.size w0 W
section
variable {w:World}{b:BkV}{cv:Nat->Int}{q:Nat->Nat->List Nat}{v l:Nat}
set_option maxHeartbeats 8000000 in
theorem Qki (B:Bk w b cv)(hQ:LQ b.V b.S b.T cv q)(hlen:(((q v l).length:Nat):Int)<=b.S)(hv:(v:Int)<b.V)(hl:(l:Int)<lv b.V):
 Calls Tryz.prog 103 #[vB b,I (v:Int),I (l:Int)] w fun e w'=>∃ vs,e=.returned (.tuple #[vs,.bool true])/\LI w' vs ((q v l).map fun x=>x-1)/\(∀ i,bk vs=some i->w.heap.size<=i)/\Below w.heap.size w w':=by
 have HBk:=q9 (B.alloc (bB b));have HX:=q9 (BB.new w b);have HW:Hid (Below w.heap.size w (w.alloc (bB b))):=q9 ((Below.refl _ _).alloc (Nat.le_refl _) _);have HR:=q9 B.hR;have HQ:=q9 hQ;have s48:=B.hR.s2;have s00:=B.hR.s1;have hce:=QY B.hR;have hcl:=B.hc
 have HCL:Hid (b.cl=Qv b.V b.S b.T):=q9 (by omega)
 have HP:=q9 (And.intro hv hl);obtain⟨L,hL⟩:∃ L,q v l=L:=⟨_,rfl⟩;obtain⟨x0,hx0⟩:∃ x,L.headD 0=x:=⟨_,rfl⟩;rw[hL] at hlen;have hF0:=(hQ.pt v l hv hl).1;rw[hL,hx0] at hF0
 have hC8:Qf b.V b.S b.T ⟨8,(v:Int),(l:Int),0⟩ (hC b.V b.S b.T v l):=QgW (by omega) hv (by omega) hl (QaS B.hR hv hl).2.1
 have hK8:hC b.V b.S b.T v l<b.cl:=by rw[HCL.out];exact Qcn B.hR (Qgg B.hR hv hl)
 have HC8:=q9 (And.intro hC8 hK8);have HF0:=q9 hF0;have HQL:=q9 hL;have HXD:=q9 hx0;have HLE:=q9 hlen;rw[hL];clear hL hx0 hF0 hC8 hK8 hQ hv hl hlen B hce hcl;obtain⟨c0,c1,c2,c3,c4,c5,c6⟩:=(BB.new w b).cells
 go_enter Tryz.func103,Tryz.ntmps103
 go_wp2_with fail
 clear c0 c1 c2 c3 c4 c5 c6;generalize w.alloc (bB b)=w1 at HBk HX HW |-;generalize w.heap.size=xb at HX |-;refine(Qaj HBk HC8.1 HC8.2).mono ?_;rintro e w2 ⟨rfl,b2⟩;rw[HF0.out]
 have HREL:Hid (QnJ w1 L (.slice none 0 0) (I2 0) (I2 (x0:Int)) w2):=q9 ⟨[],L,0,0,x0,none,0,rfl,rfl,rfl,HXD.out,rfl,rfl,rfl,LI.nil _,(fun k hk=>by simp [bk] at hk),b2⟩
 clear b2 HF0 HC8 HXD;go_wp2_with fail
 go_loopw [8,9,10] (fun o ia ix wr=>QnJ w1 L o ia ix wr) (fun o _ _ _=>L.length-QiF o)
 case atStart=>exact HREL.out
 case round=>
  clear HREL;obtain⟨pre,suf,k,a,x,av,ac,hps,hk,ha,hx,rfl,rfl,rfl,hli,hbk,hb⟩:=hrel;have HB:=q9 hb;have HX2:=q9 (HX.below hb);have HBk2:=q9 (HBk.below hb);have HLI:=q9 hli;have HBK:=q9 hbk
  have hsum:pre.length+suf.length=L.length:=by rw[hps];simp
  have hL48:L.length<=48:=by have:=HLE.out;omega
  clear hb hli hbk
  by_cases hx0:x=0
  . as_aux_lemma=>
    have e1:((x:Int) !=0)=false:=by rw[hx0];rfl
    have hsuf:suf=[]:=by
     cases suf with
     |nil=>rfl
     |cons y s=>
      have hy:y=x:=hx
      have:=(HQ.rg v l y (by rw[HQL.out,hps];simp)).1
      omega
    subst hsuf
    have hpL:pre=L:=by rw[hps];simp
    have HLI9:Hid (LI wr (.slice av k ac) (L.map fun x=>x-1)):=q9 (by rw[<-hpL];exact HLI)
    have HBE:=q9 (HW.trans (HB.mono HW.size))
    have HBK9:Hid (∀ i,bk (.slice av k ac)=some i->w.heap.size<=i):=q9 fun i hi=>Nat.le_trans HW.size (HBK.out i hi)
    clear hx0 hps hk ha hx hsum HLI;go_wp2_with fail
    go_ret2
    exact⟨_,rfl,HLI9,HBK9,HBE⟩
  . as_aux_lemma=>
    have e1:((x:Int) !=0)=true:=bne_iff_ne.2 (by omega)
    obtain⟨suf,rfl⟩:∃ s,suf=x :: s:=by
     cases suf with
     |nil=>exact absurd hx.symm hx0
     |cons y s=>
      have:y=x:=hx;subst this;exact⟨s,rfl⟩
    obtain⟨x2,hx2⟩:∃ y,suf.headD 0=y:=⟨_,rfl⟩
    have hql:q v l=pre++x :: suf:=by rw[HQL.out];exact hps
    obtain⟨r1,r2⟩:=HQ.rg v l x (by rw[hql];simp)
    obtain⟨i1,i2,_⟩:=HQ.live HP.1 HP.2 hql;rw[ha] at i1;rw[hx2] at i2;obtain⟨qd,hqd⟩:∃ y,(x-1) / 2=y:=⟨_,rfl⟩;obtain⟨rd,hrd⟩:∃ y,(x-1) % 2=y:=⟨_,rfl⟩;obtain⟨y,hy⟩:∃ y,x-1=y:=⟨_,rfl⟩
    have hqS:(qd:Int)<b.S:=by omega
    have hrd2:rd<2:=by omega
    have hcp:Qf b.V b.S b.T ⟨7,(qd:Int),(rd:Int),0⟩ (pvC b.S b.T x)/\pvC b.S b.T x<b.cl:=by
     unfold pvC;rw[hqd,hrd]
     exact⟨QeW (by omega) hqS (by omega) (by have h1:=Qac HR.out hqS (k:=5+rd) (by omega);have h2:=Qav (T:=b.T) hqS (k:=5+rd) (by omega);omega),by rw[HCL.out];exact QeC HR hqS (by omega)⟩
    have hcn:Qf b.V b.S b.T ⟨6,(qd:Int),(rd:Int),0⟩ (nxC b.S b.T x)/\nxC b.S b.T x<b.cl:=by
     unfold nxC;rw[hqd,hrd]
     exact⟨QeX (by omega) hqS (by omega) (by have h1:=Qac HR.out hqS (k:=3+rd) (by omega);have h2:=Qav (T:=b.T) hqS (k:=3+rd) (by omega);omega),by rw[HCL.out];exact QeC HR hqS (by omega)⟩
    have HCP:=q9 hcp;have HCN:=q9 hcn;have HI1:=q9 i1;have HI2:=q9 i2
    have ha96:(a:Int)<=96:=by
     by_cases c:a=0
     . omega
     . have:=(HQ.rg v l a (by rw[hql,<-ha];exact List.mem_append_left _ (Qdg (by rw[ha];exact c)))).2
       omega
    have HPS:Hid (L=(pre++[x])++suf/\(pre++[x]).length=k+1/\(pre++[x]).getLast?.getD 0=x/\suf.headD 0=x2/\(pre++[x]).map (fun x=>x-1)=pre.map (fun x=>x-1)++[y]):=q9 ⟨by rw[hps];simp,by simp;exact hk,by simp,hx2,by rw[List.map_append,List.map_singleton,hy]⟩
    have hkL:k<L.length:=by rw[<-hsum,<-hk];simp
    have HKL:=q9 hkL
    have hm48:(pre.map fun x=>x-1).length<=100000:=by rw[List.length_map];omega
    have hkS:(k:Int)<=48:=by omega
    have x1I:(1:Int)<=(x:Int):=by omega
    have x96:(x:Int)<=96:=by omega
    have k0:(0:Int)<=(k:Int):=by omega
    have a0I:(0:Int)<=(a:Int):=by omega
    have q1:((x:Int)-1) / 2=(qd:Int):=by omega
    have q2:((x:Int)-1) % 2=(rd:Int):=by omega
    have e3:((x:Int)-1).tdiv 2=(qd:Int):=(Int.tdiv_eq_ediv_of_nonneg (by omega)).trans q1
    have e4:((x:Int)-1).tmod 2=(rd:Int):=(Int.tmod_eq_emod_of_nonneg (by omega)).trans q2
    have qx6:(qd:Int)<=96:=by omega
    have r96:(rd:Int)<=96:=by omega
    have wS:IntKind.i64.wrap (2*b.S)=2*b.S:=IntWalk.i64_in _ (by omega)
    have wS2:IntKind.u64.wrap (2*b.S)=2*b.S:=IntWalk.u64_in _ (by omega)
    have w1x:IntKind.i64.wrap ((x:Int)-1)=(x:Int)-1:=IntWalk.i64_in _ (by omega)
    have w2x:IntKind.u64.wrap ((x:Int)-1)=(x:Int)-1:=IntWalk.u64_in _ (by omega)
    have wqd:IntKind.i64.wrap (qd:Int)=(qd:Int):=IntWalk.i64_in _ (by omega)
    have w2q:IntKind.i64.wrap (2*(qd:Int))=2*(qd:Int):=IntWalk.i64_in _ (by omega)
    have w2y:2*(qd:Int)+(rd:Int)=(y:Int):=by omega
    have wy:IntKind.i64.wrap (y:Int)=(y:Int):=IntWalk.i64_in _ (by omega)
    have g1:¬ 2*b.S<(k:Int):=by have:=HLE.out;omega
    have gd1:=decide_eq_false g1
    have g3:¬ 2*b.S<(x:Int):=by omega
    have gd3:=decide_eq_false g3;have naa:((a:Int) !=(a:Int))=false:=bne_self_eq_false _;clear hx0 hps hk ha hx hql r1 r2 i1 i2 hqd hrd hcp hcn hx2 q1 q2 hy hsum hqS hrd2 hkL;obtain⟨c0,c1,c2,c3,c4,c5,c6⟩:=HX2.cells;have xlt:=HX2.lt;go_wp2_with fail
    refine(Qaj HBk2 HCP.1 HCP.2).mono ?_;rintro e w3 ⟨rfl,b3⟩;rw[HI1.out];have HX3:=q9 (HX2.below b3);have HBk3:=q9 (HBk2.below b3);have HB3:=q9 (HB.trans (b3.mono HB.size));have HLI3:=q9 (HLI.below b3);clear HX2 HBk2 HB HLI b3 c0 c1 c2 c3 c4 c5 c6 xlt;obtain⟨c0,c1,c2,c3,c4,c5,c6⟩:=HX3.cells;have xlt:=HX3.lt;go_wp2_with (at_builtin;refine Qau _ rfl _ _ rfl rfl (HLI3.alloc _) (I1 w3.heap.size 0) 1 y rfl (Q5 _ _ _) hm48 ?_)
    intro v' w4 hli4 hg4 hbk4
    have hb4:Below w1.heap.size w1 w4:=(HB3.trans ((Below.refl _ _).alloc HB3.size (.cells #[I (y:Int)] 3))).grown hg4 (by simp;exact Nat.le_succ_of_le HB3.size) HBK
    have hbk5:∀ i,bk v'=some i->w1.heap.size<=i:=by
     intro i hi
     rcases hbk4 with e|⟨j,e,hj⟩
     . exact HBK.out i (e ▸ hi)
     . rw[hi] at e;cases e
       have:=HB3.size
       (try simp at hj)
       omega
    have hsl:∃ a c,v'=.slice a (k+1) c/\LI w4 (.slice a (k+1) c) ((pre++[x]).map fun x=>x-1):=by
     rw[HPS.2.2.2.2]
     exact Qkj hli4 (by have:=HPS.2.1;simp at this;simp;exact this)
    obtain⟨av',ac',rfl,hli5⟩:=hsl;have HLI5:=q9 hli5;have HBK5:=q9 hbk5;have HB4:=q9 hb4;have HX4:=q9 (HX.below hb4);have HBk4:=q9 (HBk.below hb4);clear hli4 hg4 hbk4 hbk5 hb4 hli5 HX3 HBk3 HB3 HLI3 HBK c0 c1 c2 c3 c4 c5 c6 xlt;obtain⟨c0,c1,c2,c3,c4,c5,c6⟩:=HX4.cells;have xlt:=HX4.lt;go_wp2_with fail
    refine(Qaj HBk4 HCN.1 HCN.2).mono ?_;rintro e w5 ⟨rfl,b5⟩;rw[HI2.out];have HLI6:=q9 (HLI5.below b5);have HB5:=q9 (HB4.trans (b5.mono HB4.size));clear HX4 HBk4 HB4 HLI5 b5 c0 c1 c2 c3 c4 c5 c6 xlt;go_wp2_with fail
    go_roundw
    case rel=>exact⟨pre++[x],suf,k+1,x,x2,av',ac',HPS.1,HPS.2.1,HPS.2.2.1,HPS.2.2.2.1,rfl,rfl,rfl,HLI6.out,HBK5.out,HB5.out⟩
    case measure=>have:=HKL.out;simp [QiF];omega
end
theorem LI.one13 (w:World)(x:Nat):LI (w.alloc (.cells #[I (x:Int)] 3)) (I3 (I1 w.heap.size 0) 1 1) [x]:=
 by
 refine⟨_,1,rfl,by simp [maxLen],by simp,(fun e=>by cases e),fun _=>⟨_,0,_,rfl,Blk.new _ _ _,by simp,fun k y hk=>?_⟩⟩
 cases k with
 |zero=>simp at hk;subst hk;rfl
 |succ k=>simp at hk
theorem LI.old13 {w w':World}{u v:Value}{l:List Nat}{B:Nat}(h:LI w u l)(hg:w.grownBy w' v.ownBlock)(hr:∀ r,v.ownBlock=some r->B<=r)(hu:∀ b,bk u=some b->b<B):LI w' u l:=h.keep fun b hb=>hg.block b (h.lt b hb) fun e=>by have h1:=hr b e.symm;have h2:=hu b hb;omega
theorem QfS (w:World){ops:Array Oper}{rest:List Oper}{o:Oper}{a:Act}{Q:Exit->Act->World->Prop}(hgd:o.guard=none)(s x:Operand)
 (ho:o.op=.call { callee:=.builtin .append,args:=#[s,x],argTypes:=#[36,36]})
 {base c:Nat} {v:Value} {l:List Nat} (hs:a.eval s=v) (h:RI w base v l) (hx:a.eval x=I3 (I1 w.heap.size 0) 1 1) (hl:l.length<=90000) (hb:base<=w.heap.size)
 (hK:∀ v' w',RI w' base v' (l++[c])->Below base w w'->(∀ (u:Value) (l2:List Nat),LI w u l2->(∀ b,bk u=some b->b<base)->LI w' u l2)->wpList Tryz.prog ops Q rest (a.put o.dst v') w'):wpList Tryz.prog ops Q (o :: rest) a (w.alloc (.cells #[I (c:Int)] 3)):=by
 have h':RI (w.alloc (.cells #[I (c:Int)] 3)) base v l:=World.ownsRow.alloc h _
 refine Qat _ hgd s x ho hs h' hx (LI.one13 w c) (by simp;omega) (Nat.le_trans hb (by simp)) ?_
 intro v' w' hR hg
 refine hK v' w' hR (((Below.refl base w).alloc hb _).grown hg (Nat.le_trans hb (by simp)) (fun r hr=>(h'.lt r hr).1)) fun u l2 hu hub=>?_
 exact LI.old13 (B:=base) (hu.alloc _) hg (fun r hr=>(h'.lt r hr).1) hub
theorem Qes (w:World){ops:Array Oper}{rest:List Oper}{o:Oper}{a:Act}{Q:Exit->Act->World->Prop}(hgd:o.guard=none)(s x:Operand)
 (ho:o.op=.call { callee:=.builtin .append,args:=#[s,x],argTypes:=#[36,36]})
 {base:Nat} {v u:Value} {l l2:List Nat} (hs:a.eval s=v) (h:RI w base v l) (hx:a.eval x=u) (hu:LI w u l2) (hl:l.length+l2.length<=100000) (hb:base<=w.heap.size)
 (hK:∀ v' w',RI w' base v' (l++l2)->Below base w w'->(∀ (u:Value) (l2:List Nat),LI w u l2->(∀ b,bk u=some b->b<base)->LI w' u l2)->wpList Tryz.prog ops Q rest (a.put o.dst v') w'):wpList Tryz.prog ops Q (o :: rest) a w:=by
 refine Qat w hgd s x ho hs h hx hu hl hb ?_;intro v' w' hR hg
 exact hK v' w' hR ((Below.refl base w).grown hg hb (fun r hr=>(h.lt r hr).1)) fun u l2 hu hub=>LI.old13 (B:=base) hu hg (fun r hr=>(h.lt r hr).1) hub
theorem Qad {w:World}{v:Value}{l:List Nat}{n:Nat}(h:LI w v l)(hn:l.length=n):∃ a c,v=.slice a n c/\LI w (.slice a n c) l:=by
 obtain⟨a,c,e,_,_⟩:=h.shape;subst hn e;exact⟨a,c,rfl,h⟩
def RW (b:BkV)(cv:Nat->Int):Tp->Prop
 |.nil=>True
 |.node l x r=>1<=x/\x<=b.na/\cv (cN b.V b.S b.T x 3)=(l.root:Int)/\cv (cN b.V b.S b.T x 4)=(r.root:Int)/\RW b cv l/\RW b cv r
section
variable {w:World}{b:BkV}{cv:Nat->Int}{x k:Nat}
theorem Qeq (B:Bk w b cv)(h1:1<=x)(h2:x<=b.na)(hk:k<7):Qf b.V b.S b.T ⟨10,(x:Int),(k:Int),0⟩ (cN b.V b.S b.T x k)/\cN b.V b.S b.T x k<b.cl:=by
 have e1:=Q0 B.hR;have e2:b.na=nN b.V b.S:=B.ha
 refine⟨QfP (by omega) (by omega) (by omega) (by omega) (QdP B.hR h1),?_⟩
 have h3:=QfQ (k:=k) B.hR h1 (by omega) hk
 have h4:=B.hc;have h5:((QaT b.V b.S b.T:Nat):Int)=cn b.V b.S b.T:=(Qb9 B.hR).2;omega
theorem Qid {t:Tp}{n:Nat}(h:RW b cv t)(hn:b.na<=n):t.root<=n:=by
 cases t with
 |nil=>exact Nat.zero_le _
 |node l x r=>exact Nat.le_trans h.2.1 hn
set_option maxHeartbeats 8000000 in
theorem QlF (t:Tp):∀ {w:World} {d:Nat},Bk w b cv->RW b cv t->d+t.row.length<=b.na->
 Calls Tryz.prog 108 #[vB b,I (t.root:Int),I (d:Int)] w fun e w'=>∃ vs,e=.returned (.tuple #[vs,.bool true])/\LI w' vs t.row/\(∀ i,bk vs=some i->w.heap.size<=i)/\Below w.heap.size w w':=by
 induction t with
 |nil=>
  intro w d B hW hd;have HW:Hid (Below w.heap.size w (w.alloc (bB b))):=q9 ((Below.refl _ _).alloc (Nat.le_refl _) _);have e0:(((Tp.nil.root:Nat):Int)==0)=true:=rfl;clear B hW hd;show Calls Tryz.prog 108 #[vB b,I 0,I (d:Int)] w _
  go_enter Tryz.func108,Tryz.ntmps108
  go_wp2_with fail
  go_ret2
  exact⟨_,rfl,LI.nil _,(fun i hi=>by simp [bk] at hi),HW.out⟩
 |node l x r ihl ihr=>
  intro w d B hW hd;obtain⟨x1,x2,h3,h4,hl,hr⟩:=hW
  have hlen:(Tp.node l x r).row.length=l.row.length+1+r.row.length:=by rw[Tp.row_node];simp;omega
  rw[hlen] at hd
  have na560:b.na<=560:=by rw[B.ha];have:=(sizes B.hR).nd2;omega
  have HBk:=q9 (B.alloc (bB b));have HX:=q9 (BB.new w b);have HW:Hid (Below w.heap.size w (w.alloc (bB b))):=q9 ((Below.refl _ _).alloc (Nat.le_refl _) _)
  have HC3:Hid (Qf b.V b.S b.T ⟨10,(x:Int),3,0⟩ (cN b.V b.S b.T x 3)/\cN b.V b.S b.T x 3<b.cl):=q9 (Qeq B (k:=3) x1 x2 (by decide))
  have HC4:Hid (Qf b.V b.S b.T ⟨10,(x:Int),4,0⟩ (cN b.V b.S b.T x 4)/\cN b.V b.S b.T x 4<b.cl):=q9 (Qeq B (k:=4) x1 x2 (by decide))
  have H3:=q9 h3;have H4:=q9 h4
  have HIL:=q9 (fun(w:World) (B:Bk w b cv)=>ihl (w:=w) (d:=d+1) B hl (by omega))
  have HIR:=q9 (fun(w:World) (B:Bk w b cv)=>ihr (w:=w) (d:=d+1) B hr (by omega))
  obtain⟨rl,hrl⟩:∃ k,l.root=k:=⟨_,rfl⟩;obtain⟨rr,hrr⟩:∃ k,r.root=k:=⟨_,rfl⟩;rw[hrl] at H3 HIL;rw[hrr] at H4 HIR
  have hrlb:rl<=560:=by rw[<-hrl];exact Qid hl na560
  have hrrb:rr<=560:=by rw[<-hrr];exact Qid hr na560
  have wrl:IntKind.i64.wrap (rl:Int)=(rl:Int):=IntWalk.i64_in _ (by omega)
  have wrr:IntKind.i64.wrap (rr:Int)=(rr:Int):=IntWalk.i64_in _ (by omega)
  have HLEN:Hid (l.row.length+1+r.row.length<=b.na):=q9 (by omega)
  rw[Tp.row_node];obtain⟨LL,hLL⟩:∃ L,l.row=L:=⟨_,rfl⟩;obtain⟨RR,hRR⟩:∃ L,r.row=L:=⟨_,rfl⟩;obtain⟨k1,hk1⟩:∃ k,LL.length=k:=⟨_,rfl⟩;obtain⟨k2,hk2⟩:∃ k,RR.length=k:=⟨_,rfl⟩;have HK1:=q9 hk1;have HK2:=q9 hk2;clear hk1 hk2;rw[hLL] at HIL HLEN |-;rw[hRR] at HIR HLEN |-;have hroot:(Tp.node l x r).root=x:=rfl;rw[hroot]
  have e0:((x:Int)==0)=false:=beq_eq_false_iff_ne.2 (by omega)
  have xI:(0:Int)<=(x:Int):=by omega
  have g1:¬ (x:Int)<0:=by omega
  have gd1:=decide_eq_false g1
  have g2:¬ (b.na:Int)<(x:Int):=by omega
  have gd2:=decide_eq_false g2
  have g3:¬ (b.na:Int)<(d:Int):=by omega
  have gd3:=decide_eq_false g3
  have d0:(0:Int)<=(d:Int):=by omega
  have d560:(d:Int)<=560:=by omega
  have ed:(d:Int)+1=((d+1:Nat):Int):=by omega
  have HED:=q9 ed
  have wd:IntKind.i64.wrap ((d:Int)+1)=(d:Int)+1:=IntWalk.i64_in _ (by omega)
  obtain⟨c0,c1,c2,c3,c4,c5,c6⟩:=(BB.new w b).cells;clear ihl ihr hl hr hlen hd h3 h4 hrl hrr hLL hRR hroot ed B x1 x2
  go_enter Tryz.func108,Tryz.ntmps108
  go_wp2_with fail
  clear c0 c1 c2 c3 c4 c5 c6;generalize w.alloc (bB b)=w1 at HBk HX HW |-;generalize w.heap.size=xb at HX |-;have HXd:=q9 (HX.below (Below.refl _ _).drew);have HBd:=q9 HBk.drew;obtain⟨c0,c1,c2,c3,c4,c5,c6⟩:=HXd.cells;have xlt:=HXd.lt;have hrule:=BB.rule xb b
  go_region_held3 (fun W=>BB W xb b) (first|(with_reducible assumption)|(with_reducible exact HXb1.out)|(with_reducible exact HXa1.out)|(with_reducible exact HXd.out))
   (first
    |(go_at_call 51;((with_reducible refine(Qaj HBd.out HC3.out.1 HC3.out.2).mono ?_);rintro e wa1 ⟨rfl,ba⟩;rw[H3.out];have HXa1:=q9 (HXd.out.below ba);have HBa1:=q9 (HBd.out.below ba);have HWa1:=q9 ba))
    |(go_at_call 108;((try rw[HED.out]);(with_reducible refine(HIL.out _ HBa1.out).mono ?_);rintro e wb1 ⟨vs1,rfl,hli,hbk,bb⟩;obtain⟨av1,ac1,rfl,hli⟩:=Qad hli HK1.out;have HXb1:=q9 (HXa1.out.below bb);have HBb1:=q9 (HBa1.out.below bb);have HWb1:=q9 bb;have HLI1:=q9 hli;have HBK1:=q9 hbk))
    |fail)
  clear hrule HXd HBd c0 c1 c2 c3 c4 c5 c6 xlt;obtain⟨c0,c1,c2,c3,c4,c5,c6⟩:=HXb1.cells;have xlt:=HXb1.lt;go_wp2_with fail
  clear c0 c1 c2 c3 c4 c5 c6 xlt;have HXd:=q9 (HXb1.below (Below.refl _ _).drew);have HBd:=q9 HBb1.drew;obtain⟨c0,c1,c2,c3,c4,c5,c6⟩:=HXd.cells;have xlt:=HXd.lt;have hrule:=BB.rule xb b
  go_region_held3 (fun W=>BB W xb b) (first|(with_reducible assumption)|(with_reducible exact HXb2.out)|(with_reducible exact HXa2.out)|(with_reducible exact HXd.out))
   (first
    |(go_at_call 51;((with_reducible refine(Qaj HBd.out HC4.out.1 HC4.out.2).mono ?_);rintro e wa2 ⟨rfl,ba⟩;rw[H4.out];have HXa2:=q9 (HXd.out.below ba);have HBa2:=q9 (HBd.out.below ba);have HWa2:=q9 ba))
    |(go_at_call 108;((try rw[HED.out]);(with_reducible refine(HIR.out _ HBa2.out).mono ?_);rintro e wb2 ⟨vs2,rfl,hli,hbk,bb⟩;obtain⟨av2,ac2,rfl,hli⟩:=Qad hli HK2.out;have HXb2:=q9 (HXa2.out.below bb);have HBb2:=q9 (HBa2.out.below bb);have HWb2:=q9 bb;have HLI2:=q9 hli;have HBK2:=q9 hbk))
    |fail)
  clear hrule HXd HBd c0 c1 c2 c3 c4 c5 c6 xlt;have b01:=((Below.refl w1.heap.size w1).drew.trans HWa1.out).trans (HWb1.mono HWa1.size);have b12:=((Below.refl wb1.heap.size wb1).drew.trans HWa2.out).trans (HWb2.mono HWa2.size);have HB2:=q9 (HW.trans ((b01.trans (b12.mono b01.size)).mono HW.size));have HL1:=q9 (HLI1.below b12)
  have hlt1:∀ i,bk (.slice av1 k1 ac1)=some i->i<wb2.heap.size:=fun i hi=>Nat.lt_of_lt_of_le (HLI1.lt i hi) b12.size
  have hlt2:∀ i,bk (.slice av2 k2 ac2)=some i->i<wb2.heap.size:=fun i hi=>HLI2.lt i hi
  have HLT:=q9 (And.intro hlt1 hlt2);clear b01 b12 hlt1 hlt2 HWa1 HWb1 HWa2 HWb2 HLI1 HBa1 HBb1 HBa2 HBb2 HXa1 HXb1 HXa2 HBK1 HBK2 HIL HIR HC3 HC4 H3 H4
  go_wp2_with (at_builtin;go_loud (refine Qes _ rfl _ _ rfl rfl (RI.nil _ wb2.heap.size) rfl HL1.out (by have:=HLEN.out;simp;omega) (Nat.le_refl _) ?_))
  intro v3 w3 hR3 hb3 hk3;have HR3:=q9 hR3;have HB3:=q9 hb3;have HL2:=q9 (hk3 _ _ HLI2.out HLT.2);clear hR3 hb3 hk3 HL1 HLI2
  go_wp2_with (at_builtin;refine QfS (c:=x) w3 rfl _ _ rfl rfl HR3.out rfl (by have:=HLEN.out;simp;omega) HB3.size ?_)
  intro v4 w4 hR4 hb4 hk4;have HR4:=q9 hR4;have HB4:=q9 (HB3.trans hb4);have HL3:=q9 (hk4 _ _ HL2.out HLT.2);clear hR4 hb4 hk4 HL2 HR3 HB3
  go_wp2_with (at_builtin;refine Qes _ rfl _ _ rfl rfl HR4.out rfl HL3.out (by have:=HLEN.out;simp;omega) HB4.size ?_)
  intro v5 w5 hR5 hb5 hk5;have HB5:=q9 (HB4.trans hb5)
  have hlen5:(LL++x :: RR).length=LL.length+1+RR.length:=by simp;omega
  obtain⟨n5,hn5⟩:∃ n,LL.length+1+RR.length=n:=⟨_,rfl⟩;have HN5:=q9 hn5;obtain⟨a5,cc5,rfl,hL5⟩:=Qad hR5.li (hlen5.trans hn5);have HR5:=q9 hR5.bk;have HL5:Hid (LI w5 (.slice a5 n5 cc5) (LL++x :: RR)):=q9 hL5
  have n5I:(n5:Int)<=(b.na:Int):=by have:=HLEN.out;omega
  have HX5:=q9 (HXb2.below HB5.out);have HBE:=q9 (HB2.trans (HB5.mono HB2.size));clear hR5 hb5 hk5 hlen5 hn5 hL5 HL3 HR4 HB4 HXb2;obtain⟨c0,c1,c2,c3,c4,c5,c6⟩:=HX5.cells;have xlt:=HX5.lt;go_wp2_with fail
  go_region
  all_goals
   go_wp2_with fail
   go_ret2
   exact⟨_,rfl,HL5.below (Below.refl _ _).drew,fun i hi=>Nat.le_trans HB2.size (HR5 i hi),HBE.drew⟩
end
def besP (v l:Nat)(e:E1):Bool:=!e.t && decide (e.l=l/\(e.u=v\/e.v=v))
def Qdz (v:Nat)(e:E1):Nat:=if e.v=v then 2*e.s+2 else 2*e.s+1
section
variable {V S T:Int}{cv:Nat->Int}{q:Nat->Nat->List Nat}{es:List E1}{v l:Nat}
theorem Qgq (hK:LK q (es.filter fun e=>!e.t))(hen:∀ e∈es,e.u≠e.v){e:E1}(he:e∈es)(hp:besP v l e=true):Qdz v e∈q v l:=by
 unfold besP at hp;simp only[Bool.and_eq_true,Bool.not_eq_true',decide_eq_true_eq] at hp
 refine(hK v l _).2 ⟨e,List.mem_filter.2 ⟨he,by simp [hp.1]⟩,hp.2.1,?_⟩
 unfold Qdz;have:=hen e he
 split<;>omega
theorem Qmm (hK:LK q (es.filter fun e=>!e.t))(hQ:LQ V S T cv q)(hun:es.Pairwise fun a b=>a.s≠b.s/\¬ (a.u=b.u/\a.v=b.v))(hen:∀ e∈es,e.u≠e.v):(es.filter fun e=>besP v l e).length=(q v l).length:=by
 have hp:((es.filter fun e=>besP v l e).map (Qdz v)).Perm (q v l):=by
  refine(List.perm_ext_iff_of_nodup ?_ (hQ.nd v l)).2 fun x=>?_
  . unfold List.Nodup
    rw[List.pairwise_map]
    refine(hun.sublist List.filter_sublist).imp fun {a b} hab=>?_
    have:=hab.1;unfold Qdz
    split<;>split<;>omega
  . constructor
    . intro hx
      obtain⟨e,he,rfl⟩:=List.mem_map.1 hx;obtain⟨h1,h2⟩:=List.mem_filter.1 he;exact Qgq hK hen h1 h2
    . intro hx
      obtain⟨e,he,h1,h2⟩:=(hK v l x).1 hx;obtain⟨h3,h4⟩:=List.mem_filter.1 he;have h5:=hen e h3;refine List.mem_map.2 ⟨e,List.mem_filter.2 ⟨h3,?_⟩,?_⟩
      . unfold besP
        simp only[Bool.and_eq_true,decide_eq_true_eq]
        exact⟨h4,h1,by omega⟩
      . unfold Qdz
        split<;>omega
 rw[<-hp.length_eq,List.length_map]
end
def KA13 (w0:World)(nv:Nat)(i:Value)(W:World):Prop:=∃ v,v<=nv/\i=I ((v:Nat):Int)/\Below w0.heap.size w0 W
def KB13 (w0:World)(nl:Nat)(i:Value)(W:World):Prop:=∃ l,l<=nl/\i=I ((l:Nat):Int)/\Below w0.heap.size w0 W
def KC13 (w0:World)(es:List E1)(v l:Nat)(n i:Value)(W:World):Prop:=
 ∃ k m,k<=es.length/\i=I ((k:Nat):Int)/\n=I ((m:Nat):Int)/\((es.take k).filter fun e=>besP v l e).length=m/\Below w0.heap.size w0 W
section
variable {w:World}{b:BkV}{cv:Nat->Int}{q:Nat->Nat->List Nat}{es:List E1}{base:Nat}{vl:Value}
set_option maxHeartbeats 8000000 in
theorem Qiw (B:Bk w b cv)(hL:EW w base vl es)(hln:es.length<=100)(hQ:LQ b.V b.S b.T cv q)(hK:LK q (es.filter fun e=>!e.t))(hun:es.Pairwise fun a b=>a.s≠b.s/\¬ (a.u=b.u/\a.v=b.v))(hen:∀ e∈es,e.u≠e.v)(hq:∀ v l,(((q v l).length:Nat):Int)<=b.S):
 Calls Tryz.prog 53 #[vB b,vl] w fun e w'=>e=.returned (.bool true)/\Below w.heap.size w w':=by
 obtain⟨la,ln,lc,rfl,hEW⟩:=QbI hL;have HBk:=q9 (B.alloc (bB b));have HX:=q9 (BB.new w b);have HW:Hid (Below w.heap.size w (w.alloc (bB b))):=q9 ((Below.refl _ _).alloc (Nat.le_refl _) _);have HEW:=q9 (hEW.alloc (bB b))
 have hlen:es.length=ln:=by
  obtain⟨a,c,e⟩:=hEW.slice;injection e with _ e _;exact e.symm
 have HLN:=q9 hlen;have HR:=q9 B.hR;have HQ:=q9 hQ;have HK:=q9 hK;have HUN:=q9 hun;have HQL:=q9 hq;have HEN:=q9 hen
 have lnI:(ln:Int)<=100:=by omega
 obtain⟨nv,hnv⟩:∃ k:Nat,b.V=(k:Int):=⟨b.V.toNat,by have:=B.hR.v1;omega⟩
 have HNV:=q9 hnv
 have nv16:nv<=16:=by have:=B.hR.v2;omega
 obtain⟨nl,hnl⟩:∃ k:Nat,lv b.V=(k:Int):=⟨(lv b.V).toNat,by have:=QF b.V;omega⟩
 have HNL:=q9 hnl
 have hl5:nl<=5:=by have:=QF b.V;omega
 obtain⟨c0,c1,c2,c3,c4,c5,c6⟩:=(BB.new w b).cells;clear B hL hEW hlen hQ hK hun hq hen hnv hnl hln
 go_enter Tryz.func53,Tryz.ntmps53
 go_wp2_with fail
 clear c0 c1 c2 c3 c4 c5 c6;generalize w.alloc (bB b)=w1 at HBk HX HW HEW |-;generalize w.heap.size=xb at HX |-;have HRELA:Hid (KA13 w1 nv (I 0) w1):=q9 ⟨0,Nat.zero_le _,rfl,Below.refl _ _⟩
 go_loopw [5] (fun i wr=>KA13 w1 nv i wr) (fun i _=>nv-(intOf i).toNat)
 case atStart=>exact HRELA.out
 case round=>
  clear HRELA;obtain⟨v,hv,rfl,hb⟩:=hrel;have HB:=q9 hb;have HX2:=q9 (HX.below hb);clear hb
  by_cases hvn:v<nv
  rotate_left
  . as_aux_lemma=>
    have ek:v=nv:=by omega
    subst ek
    have vN:¬ (v:Int)<b.V:=by have:=HNV.out;omega
    have HBE:=q9 (HW.trans (HB.mono HW.size));obtain⟨c0,c1,c2,c3,c4,c5,c6⟩:=HX2.cells;have xlt:=HX2.lt;go_wp2_with fail
    go_ret;exact⟨rfl,HBE⟩
  . have vV:(v:Int)<b.V:=by have:=HNV.out;omega
    have v0:(0:Int)<=(v:Int):=by omega
    have HRELB:Hid (KB13 w1 nl (I 0) wr):=q9 ⟨0,Nat.zero_le _,rfl,HB.out⟩;obtain⟨c0,c1,c2,c3,c4,c5,c6⟩:=HX2.cells;have xlt:=HX2.lt;go_wp2_with fail
    clear c0 c1 c2 c3 c4 c5 c6 xlt HX2 HB
    go_loopw [6] (fun i wr=>KB13 w1 nl i wr) (fun i _=>nl-(intOf i).toNat)
    case atStart=>exact HRELB.out
    case round=>
     clear HRELB;obtain⟨l,hl,rfl,hb⟩:=hrel;have HB:=q9 hb;have HX2:=q9 (HX.below hb);have HBk2:=q9 (HBk.below hb);have HEW2:=q9 (HEW.below hb);clear hb;obtain⟨c0,c1,c2,c3,c4,c5,c6⟩:=HX2.cells;have xlt:=HX2.lt;go_wp2_with fail
     refine(QH _ _ _ HR _).mono ?_;rintro e w2 ⟨rfl,b2⟩;rw[HNL.out];have HB3:=q9 (HB.trans (b2.mono HB.size));have HX3:=q9 (HX2.below b2);have HBk3:=q9 (HBk2.below b2);have HEW3:=q9 (HEW2.below b2);clear c0 c1 c2 c3 c4 c5 c6 xlt HX2 HB HBk2 HEW2 b2
     by_cases hln:l<nl
     rotate_left
     . as_aux_lemma=>
       have ek:l=nl:=by omega
       subst ek
       have lN:¬ (l:Int)<(l:Int):=by omega
       go_wp2_with fail
       exact⟨⟨v+1,by omega,by simp,HB3.out⟩,by simp [intOf];omega⟩
     have lI:(l:Int)<(nl:Int):=by omega
     have l0:(0:Int)<=(l:Int):=by omega
     have lV:(l:Int)<lv b.V:=by have:=HNL.out;omega
     obtain⟨c0,c1,c2,c3,c4,c5,c6⟩:=HX3.cells;have xlt:=HX3.lt;go_wp2_with fail
     refine(Qki HBk3 HQ (HQL v l) vV lV).mono ?_;rintro e w4 ⟨vs,rfl,hli,_,b4⟩;have HB4:=q9 (HB3.trans (b4.mono HB3.size));have HX4:=q9 (HX3.below b4);have HEW4:=q9 (HEW3.below b4)
     obtain⟨gn,hgn⟩:∃ k,((q v l).map fun x=>x-1).length=k:=⟨_,rfl⟩
     obtain⟨ga9,gc9,rfl,hli⟩:=Qad hli hgn;have HLI4:=q9 hli
     have HGN:Hid ((es.filter fun e=>besP v l e).length=gn):=q9 (by rw[<-hgn,List.length_map];exact Qmm HK HQ HUN HEN)
     have HRELC:Hid (KC13 w4 es v l (I 0) (I 0) w4):=q9 ⟨0,0,Nat.zero_le _,rfl,rfl,by simp,Below.refl _ _⟩
     have HGL:Hid (((q v l).map fun x=>x-1).length<=1000):=q9 (by have h1:=HQL.out v l;have h2:=HR.s2;rw[List.length_map];omega)
     have gn48:gn<=100000:=by have h1:=HQL.out v l;have h2:=HR.s2;rw[List.length_map] at hgn;omega
     clear c0 c1 c2 c3 c4 c5 c6 xlt HX3 HB3 HBk3 HEW3 b4 hli hgn;go_wp2_with fail
     go_loopw [9,10] (fun n i wr=>KC13 w4 es v l n i wr) (fun _ i _=>ln-(intOf i).toNat)
     case atStart=>exact HRELC.out
     case round=>
      clear HRELC;obtain⟨k,n,hk,rfl,rfl,hn,hb⟩:=hrel;have HBK:=q9 hb;have HXK:=q9 (HX4.below hb);have HEWK:=q9 (HEW4.below hb);have HLIK:=q9 (HLI4.below hb);have HN:=q9 hn;rw[HLN.out] at hk;clear hb hn
      by_cases hkn:k<ln
      rotate_left
      . as_aux_lemma=>
        have ek:k=ln:=by omega
        subst ek
        have kN:¬ (k:Int)<(k:Int):=by omega
        have hng:n=gn:=by rw[<-HGN.out,<-HN.out,<-HLN.out,List.take_length]
        subst hng;have nn:((n:Int) !=(n:Int))=false:=bne_self_eq_false _;have HBE:=q9 (HB4.trans (HBK.mono HB4.size));go_wp2_with fail
        exact⟨⟨l+1,by omega,by simp,HBE.out⟩,by simp [intOf];omega⟩
      obtain⟨e,he⟩:∃ e,es[k]?=some e:=⟨_,List.getElem?_eq_getElem (by have:=HLN.out;omega)⟩
      obtain⟨g,c9,e9,_,glt,_,z0,z1,z2,z3,z4⟩:=HEWK.at he;injection e9 with e91 e92 e93;subst e91
      have kI:(k:Int)<(ln:Int):=by omega
      have k0:(0:Int)<=(k:Int):=by omega
      have HNX:Hid (((es.take (k+1)).filter fun e=>besP v l e).length=n+if besP v l e then 1 else 0):=q9 (by rw[List.take_add_one,he,Option.toList_some,List.filter_append,List.length_append,HN.out];congr 1;by_cases c:besP v l e=true<;>simp [c])
      have HEM:Hid (e∈es):=q9 (List.mem_of_getElem? he)
      have HKN:Hid (k+1<=es.length):=q9 (by have:=HLN.out;omega)
      have nI:(n:Int)<=100:=by
       have h1:=HN.out
       have h2:=List.length_filter_le (fun e=>besP v l e) (es.take k)
       rw[List.length_take] at h2;omega
      have n0:(0:Int)<=(n:Int):=by omega
      clear he e92 e93 HN;obtain⟨es9,eu,ev,el,et⟩:=e;dsimp only at *;have HNE:Hid (eu≠ev):=q9 (HEN.out _ HEM.out);have hne:=HNE.out
      cases et
      rotate_left
      . show _
        as_aux_lemma=>
        clear hne
        have hb9:besP v l ⟨es9,eu,ev,el,true⟩=false:=by unfold besP;simp
        have HNX2:=HNX.out;rw[hb9] at HNX2;have HNX3:=q9 HNX2;clear HNX2 hb9 HNX HEM;go_wp2_with fail
        go_roundw
        case rel=>exact⟨k+1,n,HKN.out,by simp,rfl,HNX3.out,HBK.out⟩
        case measure=>simp [intOf];omega
      by_cases hl9:el=l
      rotate_left
      . show _
        as_aux_lemma=>
        have nl1:((el:Int) !=(l:Int))=true:=bne_iff_ne.2 (by omega)
        have hb9:besP v l ⟨es9,eu,ev,el,false⟩=false:=by unfold besP;simp;omega
        have HNX2:=HNX.out;rw[hb9] at HNX2;have HNX3:=q9 HNX2;clear HNX2 hb9 HNX HEM;go_wp2_with fail
        go_roundw
        case rel=>exact⟨k+1,n,HKN.out,by simp,rfl,HNX3.out,HBK.out⟩
        case measure=>simp [intOf];omega
      subst hl9;have nl1:((el:Int) !=(el:Int))=false:=bne_self_eq_false _
      by_cases hu9:eu=v
      . show _
        as_aux_lemma=>
        have nu1:((eu:Int) !=(v:Int))=false:=by rw[hu9];exact bne_self_eq_false _
        have e1:((ev:Int)==(v:Int))=false:=beq_eq_false_iff_ne.2 (by omega)
        have hb9:besP v el ⟨es9,eu,ev,el,false⟩=true:=by unfold besP;simp;omega
        have hsd:Qdz v ⟨es9,eu,ev,el,false⟩=2*es9+1:=if_neg (show ¬ ev=v by omega)
        have hmem:=Qgq HK.out HEN.out HEM.out hb9;rw[hsd] at hmem;have hrg:=(HQ.rg v el _ hmem).2;have s48:=HR.s2;obtain⟨y,hy⟩:∃ y,2*es9=y:=⟨_,rfl⟩
        have HMY:Hid (decide (y∈(q v el).map fun x=>x-1)=true):=q9 (decide_eq_true (List.mem_map.2 ⟨_,hmem,by omega⟩))
        have w2y:2*(es9:Int)=(y:Int):=by omega
        have w2s:IntKind.i64.wrap (2*(es9:Int))=2*(es9:Int):=IntWalk.i64_in _ (by omega)
        have wy:IntKind.i64.wrap (y:Int)=(y:Int):=IntWalk.i64_in _ (by omega)
        have HNX2:=HNX.out;rw[hb9] at HNX2;have HNX3:=q9 HNX2;clear HNX2 hb9 HNX HEM hsd hmem hrg hy;go_wp2_with fail
        refine(Qcv HLIK.out (by have:=HGL.out;omega)).mono ?_;rintro e w5 ⟨rfl,rfl⟩
        rw[HMY.out];go_wp2_with fail
        go_roundw
        case rel=>exact⟨k+1,n+1,HKN.out,by simp,by simp,HNX3.out,HBK.out⟩
        case measure=>simp [intOf];omega
      have nu1:((eu:Int) !=(v:Int))=true:=bne_iff_ne.2 (by omega)
      by_cases hv9:ev=v
      . show _
        as_aux_lemma=>
        have nv1:((ev:Int) !=(v:Int))=false:=by rw[hv9];exact bne_self_eq_false _
        have e1:((ev:Int)==(v:Int))=true:=by rw[hv9];exact beq_self_eq_true _
        have hb9:besP v el ⟨es9,eu,ev,el,false⟩=true:=by unfold besP;simp;omega
        have hsd:Qdz v ⟨es9,eu,ev,el,false⟩=2*es9+2:=if_pos (show ev=v by omega)
        have hmem:=Qgq HK.out HEN.out HEM.out hb9;rw[hsd] at hmem;have hrg:=(HQ.rg v el _ hmem).2;have s48:=HR.s2;obtain⟨y,hy⟩:∃ y,2*es9+1=y:=⟨_,rfl⟩
        have HMY:Hid (decide (y∈(q v el).map fun x=>x-1)=true):=q9 (decide_eq_true (List.mem_map.2 ⟨_,hmem,by omega⟩))
        have w2y:2*(es9:Int)+1=(y:Int):=by omega
        have w2s:IntKind.i64.wrap (2*(es9:Int))=2*(es9:Int):=IntWalk.i64_in _ (by omega)
        have wy:IntKind.i64.wrap (y:Int)=(y:Int):=IntWalk.i64_in _ (by omega)
        have HNX2:=HNX.out;rw[hb9] at HNX2;have HNX3:=q9 HNX2;clear HNX2 hb9 HNX HEM hsd hmem hrg hy;go_wp2_with fail
        refine(Qcv HLIK.out (by have:=HGL.out;omega)).mono ?_;rintro e w5 ⟨rfl,rfl⟩
        rw[HMY.out];go_wp2_with fail
        go_roundw
        case rel=>exact⟨k+1,n+1,HKN.out,by simp,by simp,HNX3.out,HBK.out⟩
        case measure=>simp [intOf];omega
      . show _
        as_aux_lemma=>
        have nv1:((ev:Int) !=(v:Int))=true:=bne_iff_ne.2 (by omega)
        have hb9:besP v el ⟨es9,eu,ev,el,false⟩=false:=by unfold besP;simp;omega
        have HNX2:=HNX.out;rw[hb9] at HNX2;have HNX3:=q9 HNX2;clear HNX2 hb9 HNX HEM;go_wp2_with fail
        go_roundw
        case rel=>exact⟨k+1,n,HKN.out,by simp,rfl,HNX3.out,HBK.out⟩
        case measure=>simp [intOf];omega
end
def QhJ (V:Int)(s l:Nat):Nat:=(vn V+(s:Int)*sn V+2*(l:Int)).toNat+1
def Qax (V:Int)(m:Nat->Nat)(e:E1):Nat->Nat:=
 if e.t then fun x=>if x=QhJ V e.s e.l then m x ||| 2 else m x
 else fun x=>if x=ndA V e.v e.l then (if ndA V e.v e.l=ndA V e.u e.l then m x ||| 1 ||| 1 else m x ||| 1) else if x=ndA V e.u e.l then m x ||| 1 else m x
def Cn13 (W:World)(sb n:Nat)(F:Nat->Nat):Prop:=∃ zs,Blk W sb 3 zs/\(∀ k,k<n->zs[k]?=some (I ((F k:Nat):Int)))/\zs.size=n
theorem or13 {a b:Nat}(ha:a<4)(hb:b<4):bits .or .i64 ((a:Nat):Int) ((b:Nat):Int)=((a ||| b:Nat):Int):=by
 have h:∀ a b:Fin 4,bits .or .i64 ((a.1:Nat):Int) ((b.1:Nat):Int)=((a.1 ||| b.1:Nat):Int):=by decide
 exact h ⟨a,ha⟩ ⟨b,hb⟩
theorem QeP (V:Int)(m:Nat->Nat)(e:E1)(h:∀ x,m x<4):∀ x,Qax V m e x<4:=by
 intro x;have:=h x;unfold Qax
 have h1:m x ||| 1<4:=Qcm this (by decide)
 have h2:m x ||| 2<4:=Qcm this (by decide)
 have h3:m x ||| 1 ||| 1<4:=Qcm h1 (by decide)
 split
 . dsimp only;split<;>assumption
 . dsimp only
   split
   . split<;>assumption
   . split<;>assumption
theorem Qde {V:Int}:∀ (l:List E1) (m:Nat->Nat),(∀ x,m x<4)->∀ x,l.foldl (Qax V) m x<4
 |[],_,h=>h
 |e :: l,_,h=>Qde l _ (QeP V _ e h)
theorem QhI {V S T:Int}{s l x:Nat}(hR:Rt V S T)(hs:(s:Int)<S)(hl:(l:Int)<lv V)(hx:(vn V+(s:Int)*sn V+2*(l:Int)).toNat=x):Qn V S ⟨2,(s:Int),(l:Int),0⟩ x/\(x:Int)<nd V S:=by
 have h1:0<=(s:Int)*sn V:=Int.mul_nonneg (by omega) (by unfold sn;have:=QF V;omega)
 have h2:(s:Int)*sn V<=(S-1)*sn V:=Int.mul_le_mul_of_nonneg_right (by omega) (by unfold sn;have:=QF V;omega)
 have h3:(S-1)*sn V=S*sn V-sn V:=by rw[Int.sub_mul];omega
 have h4:sn V=lv V*2:=rfl;have h5:nd V S=vn V+S*sn V:=rfl;have h6:=(sizes hR).vn1;refine⟨.inr ⟨rfl,?_⟩,?_⟩
 . dsimp only
   refine⟨by omega,hs,by omega,hl,.inl rfl,?_⟩
   omega
 . omega
theorem Qd9 {V S T:Int}{v l:Nat}(hR:Rt V S T)(hv:(v:Int)<V)(hl:(l:Int)<lv V):∃ x,ndA V v l=x+1/\Qn V S ⟨1,(l:Int),(v:Int),0⟩ x/\(x:Int)<nd V S:=by
 obtain⟨_,h1,h2,h3⟩:=Qbd hR hv hl;have h4:=Q0 hR
 obtain⟨x,hx⟩:∃ x,ndA V v l=x+1:=⟨ndA V v l-1,by omega⟩
 refine⟨x,hx,.inl ⟨rfl,rfl,?_⟩,?_⟩
 . dsimp only
   refine⟨by omega,hl,by omega,hv,?_⟩
   omega
 . omega
def SM13 (W:World)(xb ab:Nat)(b:BkV)(s u v l:Nat)(t:Bool):Prop:=BB W xb b/\Blk W ab 56 #[I (s:Int),I (u:Int),I (v:Int),I (l:Int),.bool t]
section
variable {w w':World}{xb ab s u v l:Nat}{b:BkV}{t:Bool}
theorem SM13.below (h:SM13 w xb ab b s u v l t)(hb:Below w.heap.size w w'):SM13 w' xb ab b s u v l t:=⟨h.1.below hb,Blk.below h.2 hb (Blk.lt h.2)⟩
theorem SM13.lt (h:SM13 w xb ab b s u v l t):xb<w.heap.size/\ab<w.heap.size:=⟨h.1.lt,Blk.lt h.2⟩
theorem SM13.cells (h:SM13 w xb ab b s u v l t):(w.cell? (I1 xb 0)=some (I b.V)/\w.cell? (I1 xb 1)=some (I b.S)/\w.cell? (I1 xb 2)=some (I b.T)/\w.cell? (I1 xb 3)=some (I3 (I1 b.gn 0) b.nn b.cn)/\w.cell? (I1 xb 4)=some (I3 (I1 b.cb 0) b.cl b.cc)/\w.cell? (I1 xb 5)=some (.map (some b.wb))/\w.cell? (I1 xb 6)=some (I3 (I1 b.ga 0) b.na b.ca))/\w.cell? (I1 ab 0)=some (I (s:Int))/\w.cell? (I1 ab 1)=some (I (u:Int))/\w.cell? (I1 ab 2)=some (I (v:Int))/\w.cell? (I1 ab 3)=some (I (l:Int))/\w.cell? (I1 ab 4)=some (.bool t):=
 ⟨h.1.cells,Blk.cell h.2 0,Blk.cell h.2 1,Blk.cell h.2 2,Blk.cell h.2 3,Blk.cell h.2 4⟩
theorem SM13.rule (xb ab:Nat)(b:BkV)(s u v l:Nat)(t:Bool):∀ W:World,SM13 W xb ab b s u v l t->(W.cell? (I1 xb 0)=some (I b.V)/\W.cell? (I1 xb 1)=some (I b.S)/\W.cell? (I1 xb 2)=some (I b.T)/\W.cell? (I1 xb 3)=some (I3 (I1 b.gn 0) b.nn b.cn)/\W.cell? (I1 xb 4)=some (I3 (I1 b.cb 0) b.cl b.cc)/\W.cell? (I1 xb 5)=some (.map (some b.wb))/\W.cell? (I1 xb 6)=some (I3 (I1 b.ga 0) b.na b.ca))/\W.cell? (I1 ab 0)=some (I (s:Int))/\W.cell? (I1 ab 1)=some (I (u:Int))/\W.cell? (I1 ab 2)=some (I (v:Int))/\W.cell? (I1 ab 3)=some (I (l:Int))/\W.cell? (I1 ab 4)=some (.bool t):=fun _ h=>h.cells
end
def KM13 (w1:World)(mb n:Nat)(V:Int)(es:List E1)(i:Value)(W:World):Prop:=
 ∃ k,k<=es.length/\i=I ((k:Nat):Int)/\Cn13 W mb n ((es.take k).foldl (Qax V) fun _=>0)/\Below w1.heap.size w1 W
section
variable {w w':World}{sb n:Nat}{F F':Nat->Nat}
theorem Cn13.made (w:World)(S:Nat):Cn13 (w.alloc (.cells (madeCells #[I 0] S) 3)) w.heap.size S (fun _=>0):=
 ⟨_,Blk.new w _ _,fun k hk=>by
  have h:=toList_madeCells_one (I 0) S;rw[<-Array.getElem?_toList,h];simp [hk],size_madeCells _ _⟩
theorem Cn13.cell {k:Nat}(h:Cn13 w sb n F)(hk:k<n):w.cell? (I1 sb k)=some (I ((F k:Nat):Int)):=by
 obtain⟨zs,hz,he⟩:=h;exact(hz.cell k).trans (he.1 k hk)
theorem Cn13.lt (h:Cn13 w sb n F):sb<w.heap.size:=by
 obtain⟨zs,hz,he⟩:=h;exact hz.lt
theorem Cn13.frozen (h:Cn13 w sb n F)(k:Nat):w.frozen? (I1 sb k)=false:=by
 obtain⟨zs,hz,he⟩:=h;exact hz.frozen k
theorem Cn13.below (h:Cn13 w sb n F)(hb:Below w.heap.size w w'):Cn13 w' sb n F:=by
 obtain⟨zs,hz,he⟩:=h;exact⟨zs,hz.below hb hz.lt,he⟩
theorem Cn13.set_ (h:Cn13 w sb n F){k:Nat}(hk:k<n){y:Int}(h1:(F' k:Int)=y)(h2:∀ i,i≠k->F' i=F i):Cn13 (w.setCell (I1 sb k) (I y)) sb n F':=by
 obtain⟨zs,hz,he⟩:=h
 refine⟨_,hz.set_ k _,fun i hi=>?_,by rw[Array.size_setIfInBounds];exact he.2⟩
 have hs:i<zs.size:=by
  have:=he.1 i hi
  rcases Nat.lt_or_ge i zs.size with hlt|hge
  . exact hlt
  . rw[Array.getElem?_eq_none hge] at this;cases this
 by_cases e:i=k
 . subst e
   rw[Array.getElem?_setIfInBounds_self_of_lt hs,h1]
 . rw[Array.getElem?_setIfInBounds_ne (fun h=>e h.symm),h2 i e]
   exact he.1 i hi
end
section
variable {w:World}{b:BkV}{cv:Nat->Int}{es:List E1}{base:Nat}{vl:Value}
set_option maxHeartbeats 8000000 in
theorem Qit (B:Bk w b cv)(hL:EW w base vl es)(hln:es.length<=100)(hen:∀ e∈es,e.u<e.v/\(e.v:Int)<b.V/\(e.s:Int)<b.S/\(e.l:Int)<lv b.V):
 Calls Tryz.prog 54 #[vB b,vl] w fun e w'=>∃ mb,e=.returned (I3 (I1 mb 0) (b.na+1) (b.na+1))/\Cn13 w' mb (b.na+1) (es.foldl (Qax b.V) fun _=>0)/\w.heap.size<=mb/\Below w.heap.size w w':=by
 obtain⟨la,ln,lc,rfl,hEW⟩:=QbI hL
 have hlen:es.length=ln:=by
  obtain⟨a,c,e⟩:=hEW.slice;injection e with _ e _;exact e.symm
 have HLN:=q9 hlen;have HR:=q9 B.hR;have HEN:=q9 hen
 have lnI:(ln:Int)<=100:=by omega
 obtain⟨na,hna⟩:∃ k,b.na=k:=⟨_,rfl⟩;have HNA:=q9 hna
 have na560:na<=560:=by rw[<-hna,B.ha];have:=(sizes B.hR).nd2;omega
 have HNN:Hid (((na:Nat):Int)=nd b.V b.S):=q9 (by rw[<-hna,B.ha];have:=(sizes B.hR).nd1;omega)
 have HBk:=q9 (B.alloc (bB b));have HX:=q9 (BB.new w b);have HW:Hid (Below w.heap.size w (w.alloc (bB b))):=q9 ((Below.refl _ _).alloc (Nat.le_refl _) _);have HEW:=q9 (hEW.alloc (bB b))
 have hmk:=run_make_row' (P:=Tryz.prog) 36 3 (I 0) 8 Tryz.underlying36 Qel rfl .i64 .i64 (na+1) (by omega) (by omega)
 have hna1:IntKind.i64.wrap ((na:Int)+1)=((na+1:Nat):Int):=(IntWalk.i64_in _ (by omega)).trans (by omega)
 have hna2:((na:Int)+1)=((na+1:Nat):Int):=by omega
 obtain⟨c0,c1,c2,c3,c4,c5,c6⟩:=(BB.new w b).cells;rw[hna] at c6;rw[<-hna2] at hmk;clear hna1 hna2;clear B hL hEW hlen hen hln hna
 go_enter Tryz.func54,Tryz.ntmps54
 go_wp2_with fail
 clear c0 c1 c2 c3 c4 c5 c6 hmk
 have hms:(w.alloc (bB b)).heap.size=w.heap.size+1:=by simp
 have HC:Hid (Cn13 ((w.alloc (bB b)).alloc (.cells (madeCells #[I 0] (na+1)) 3)) (w.heap.size+1) (na+1) (fun _=>0)):=q9 (by have h:=Cn13.made (w.alloc (bB b)) (na+1);rw[hms] at h;exact h)
 have hb9:Below (w.alloc (bB b)).heap.size (w.alloc (bB b)) ((w.alloc (bB b)).alloc (.cells (madeCells #[I 0] (na+1)) 3)):=(Below.refl _ _).alloc (Nat.le_refl _) _;have HSZ:Hid (w.heap.size<=w.heap.size+1):=q9 (Nat.le_succ _);have HRELA:Hid (KM13 (w.alloc (bB b)) (w.heap.size+1) (na+1) b.V es (I 0) ((w.alloc (bB b)).alloc (.cells (madeCells #[I 0] (na+1)) 3))):=q9 ⟨0,Nat.zero_le _,rfl,HC.out,hb9⟩;generalize (w.alloc (bB b)).alloc (.cells (madeCells #[I 0] (na+1)) 3)=w2 at HRELA |-;clear HC hb9;have HMB:=q9 hms;clear hms;generalize w.alloc (bB b)=w1 at HBk HX HW HEW HRELA HMB |-;generalize w.heap.size+1=mb at HSZ HRELA HMB |-;obtain⟨xb,hxb⟩:∃ k,w.heap.size=k:=⟨_,rfl⟩;rw[hxb] at HX |-;clear hxb
 go_loopw [6] (fun i wr=>KM13 w1 mb (na+1) b.V es i wr) (fun i _=>ln-(intOf i).toNat)
 case atStart=>exact HRELA.out
 case round=>
  clear HRELA;obtain⟨k,hk,rfl,hC,hb⟩:=hrel;have HB:=q9 hb;have HC:=q9 hC;have HXK:=q9 (HX.below hb);have HEWK:=q9 (HEW.below hb);have HBkK:=q9 (HBk.below hb);rw[HLN.out] at hk;clear hb hC
  by_cases hkn:k<ln
  rotate_left
  . as_aux_lemma=>
    have ek:k=ln:=by omega
    subst ek
    have kN:¬ (k:Int)<(k:Int):=by omega
    have HBE:=q9 (HW.trans (HB.mono HW.size))
    have HCE:Hid (Cn13 wr mb (na+1) (es.foldl (Qax b.V) fun _=>0)):=q9 (by have h:=HC.out;rw[<-HLN.out,List.take_length] at h;exact h)
    go_wp2_with fail
    go_ret;refine⟨mb,?_,?_,?_,HBE⟩
    . rw[HNA.out]
      first|done|rfl
    . rw[HNA.out];exact HCE
    . exact HSZ
  obtain⟨e,he⟩:∃ e,es[k]?=some e:=⟨_,List.getElem?_eq_getElem (by have:=HLN.out;omega)⟩
  obtain⟨g,c9,e9,_,glt,_,z0,z1,z2,z3,z4⟩:=HEWK.at he;injection e9 with e91 e92 e93;subst e91
  have kI:(k:Int)<(ln:Int):=by omega
  have k0:(0:Int)<=(k:Int):=by omega
  have HNX:Hid ((es.take (k+1)).foldl (Qax b.V) (fun _=>0)=Qax b.V ((es.take k).foldl (Qax b.V) fun _=>0) e):=q9 (by rw[List.take_add_one,he,Option.toList_some,List.foldl_append];rfl)
  have HM4:Hid (∀ x,(es.take k).foldl (Qax b.V) (fun _=>0) x<4):=q9 (Qde _ _ (fun _=>by decide))
  generalize (es.take k).foldl (Qax b.V) (fun _=>0)=F at HNX HM4 HC
  have HEM:Hid (e∈es):=q9 (List.mem_of_getElem? he)
  have HKN:Hid (k+1<=es.length):=q9 (by have:=HLN.out;omega)
  clear he e92 e93;obtain⟨es9,eu,ev,el,et⟩:=e;dsimp only at *;obtain⟨e1,e2,e3,e4⟩:=HEN.out _ HEM.out;dsimp only at e1 e2 e3 e4;have HE9:Hid (eu<ev/\(ev:Int)<b.V/\(es9:Int)<b.S/\(el:Int)<lv b.V):=q9 ⟨e1,e2,e3,e4⟩
  have HIN:Hid (in64 (eu:Int)/\in64 (ev:Int)/\in64 (es9:Int)/\in64 (el:Int)):=q9 (by have h1:=HR.v2;have h2:=HR.s2;have h3:=QF b.V;unfold in64;omega)
  clear e1 e2 e3 e4
  cases et
  rotate_left
  . as_aux_lemma=>
    obtain⟨x,hx⟩:∃ x,(vn b.V+(es9:Int)*sn b.V+2*(el:Int)).toNat=x:=⟨_,rfl⟩;have hnd:=QhI HR.out HE9.2.2.1 HE9.2.2.2 hx;have HND:=q9 hnd.1
    have hxn:x<na:=by have:=HNN.out;omega
    have HXN:=q9 hxn
    have HAR:Hid (Qax b.V F ⟨es9,eu,ev,el,true⟩=fun y=>if y=x+1 then F y ||| 2 else F y):=q9 (by unfold Qax QhJ;rw[hx];rfl)
    clear hx hnd;obtain⟨c0,c1,c2,c3,c4,c5,c6⟩:=HXK.cells;have xlt:=HXK.lt;go_wp2_with fail
    have hba:=(Below.refl wr.heap.size wr).alloc (Nat.le_refl _) (.cells #[I (es9:Int),I (eu:Int),I (ev:Int),I (el:Int),.bool true] 56);have HB4:=q9 (HB.trans (hba.mono HB.size));have HC4:=q9 (HC.below hba);have HBk4:=q9 (HBkK.below hba);clear hba
    refine(Qco (m:=⟨2,(es9:Int),(el:Int),0⟩) HBk4.out HND.out (by rw[HNA.out];exact HXN)).mono ?_;rintro e w5 ⟨rfl,b5⟩
    have HB5:=q9 (HB4.trans (b5.mono HB4.size));have HC5:=q9 (HC4.below b5);clear c0 c1 c2 c3 c4 c5 c6 xlt HXK HEWK HBkK b5 z0 z1 z2 z3 z4 HB HB4 HC4 HBk4
    have hce:=HC5.cell (k:=x+1) (by have:=HXN.out;omega)
    have hfz:=HC5.frozen (x+1);have hclt:=HC5.lt;obtain⟨y,hy⟩:∃ y,F (x+1)=y:=⟨_,rfl⟩;rw[hy] at hce
    have hor:bits .or .i64 ((y:Nat):Int) 2=((y ||| 2:Nat):Int):=or13 (b:=2) (by rw[<-hy];exact HM4 _) (by decide)
    have HS:Hid (Cn13 (w5.setCell (I1 mb (x+1)) (I ((y ||| 2:Nat):Int))) mb (na+1) ((es.take (k+1)).foldl (Qax b.V) fun _=>0)):=q9 (by
     rw[HNX.out,HAR.out]
     refine HC5.set_ (by have:=HXN.out;omega) ?_ fun i hi=>if_neg hi
     rw[if_pos rfl,hy])
    have HBS:Hid (Below w1.heap.size w1 (w5.setCell (I1 mb (x+1)) (I ((y ||| 2:Nat):Int)))):=q9 (HB5.setCell (p:=(I1 mb (x+1))) (by rw[HMB.out];exact Nat.le_refl _) _)
    have xI:(x:Int)+1<(na:Int)+1:=by have:=HXN.out;omega
    have x0:(0:Int)<=(x:Int)+1:=by omega
    clear HC5 HB5 HNX HAR HM4 HC HIN HE9 hy;go_wp2_with fail
    exact⟨⟨k+1,HKN.out,by simp,HS.out,HBS.out⟩,by simp [intOf];omega⟩
  obtain⟨x,hx,hnx,hx2⟩:=Qd9 (v:=eu) (l:=el) HR.out (by have:=HE9.out;omega) HE9.2.2.2
  obtain⟨y,hy,hny,hy2⟩:=Qd9 (v:=ev) (l:=el) HR.out HE9.2.1 HE9.2.2.2;have HNX9:=q9 hnx;have HNY9:=q9 hny
  have HXY:Hid (x≠y):=q9 fun e=>by
   have:=Qle HR.out (v:=eu) (l:=el) (v2:=ev) (l2:=el) (by have:=HE9.out;omega) HE9.2.2.2 HE9.2.1 HE9.2.2.2 (by omega)
   have:=HE9.out;omega
  have hxn:x<na:=by have:=HNN.out;omega
  have hyn:y<na:=by have:=HNN.out;omega
  have HXN:=q9 hxn;have HYN:=q9 hyn
  have HAR:Hid (Qax b.V F ⟨es9,eu,ev,el,false⟩=fun z=>if z=y+1 then F z ||| 1 else if z=x+1 then F z ||| 1 else F z):=q9 (by
   unfold Qax;dsimp only
   rw[hx,hy,if_neg (by decide)]
   funext z
   rw[if_neg (show ¬ y+1=x+1 by have:=HXY.out;omega)])
  clear hx hy hnx hny hx2 hy2;obtain⟨c0,c1,c2,c3,c4,c5,c6⟩:=HXK.cells;have xlt:=HXK.lt;go_wp2_with fail
  have hba:=(Below.refl wr.heap.size wr).alloc (Nat.le_refl _) (.cells #[I (es9:Int),I (eu:Int),I (ev:Int),I (el:Int),.bool false] 56);have HB4:=q9 (HB.trans (hba.mono HB.size));have HC4:=q9 (HC.below hba);have HBk4:=q9 (HBkK.below hba);have HX4:=q9 (HXK.below hba);have hbl:Blk (wr.alloc (.cells #[I (es9:Int),I (eu:Int),I (ev:Int),I (el:Int),.bool false] 56)) wr.heap.size 56 #[I (es9:Int),I (eu:Int),I (ev:Int),I (el:Int),.bool false]:=Blk.new _ _ _;have HBL:=q9 hbl;clear hba hbl;generalize hwa:wr.alloc (.cells #[I (es9:Int),I (eu:Int),I (ev:Int),I (el:Int),.bool false] 56)=wa at HB4 HC4 HBk4 HX4 HBL |-;generalize wr.heap.size=ab at HBL |-;have HS4:Hid (SM13 wa xb ab b es9 eu ev el false):=q9 ⟨HX4.out,HBL.out⟩;clear c0 c1 c2 c3 c4 c5 c6 xlt HXK HEWK HBkK z0 z1 z2 z3 z4 HB HX4 HBL hwa;have HSd:=q9 (HS4.below (Below.refl _ _).drew);have HBd:=q9 HBk4.drew;obtain⟨⟨c0,c1,c2,c3,c4,c5,c6⟩,d0,d1,d2,d3,d4⟩:=HSd.cells;have xlt:=HSd.lt;have hrule:=SM13.rule xb ab b es9 eu ev el false
  go_region_held3 (fun W=>SM13 W xb ab b es9 eu ev el false) (first|(with_reducible assumption)|(with_reducible exact HS6.out)|(with_reducible exact HS5.out)|(with_reducible exact HSd.out))
   (first
    |(go_at_call 105;((with_reducible refine(Qco (m:=⟨1,(el:Int),(eu:Int),0⟩) HBd.out HNX9.out (by rw[HNA.out];exact HXN.out)).mono ?_);rintro e w5 ⟨rfl,b5⟩;have HS5:=q9 (HSd.out.below b5);have HB5:=q9 (HBd.out.below b5);have HW5:=q9 b5))
    |(go_at_call 105;((with_reducible refine(Qco (m:=⟨1,(el:Int),(ev:Int),0⟩) HB5.out HNY9.out (by rw[HNA.out];exact HYN.out)).mono ?_);rintro e w6 ⟨rfl,b6⟩;have HS6:=q9 (HS5.out.below b6);have HW6:=q9 b6))
    |fail)
  clear hrule HSd HBd c0 c1 c2 c3 c4 c5 c6 d0 d1 d2 d3 d4 xlt;have b06:=((Below.refl wa.heap.size wa).drew.trans HW5.out).trans (HW6.mono HW5.size);have HB6:=q9 (HB4.trans (b06.mono HB4.size));have HC6:=q9 (HC4.below b06);clear b06 HB4 HC4 HBk4 HS4 HS5 HB5 HW5 HW6 HS6
  have hce:=HC6.cell (k:=x+1) (by have:=HXN.out;omega)
  have hce2:=HC6.cell (k:=y+1) (by have:=HYN.out;omega)
  have hfz:=HC6.frozen (x+1);have hfz2:=HC6.frozen (y+1);have hclt:=HC6.lt;obtain⟨fx,hfx⟩:∃ z,F (x+1)=z:=⟨_,rfl⟩;obtain⟨fy,hfy⟩:∃ z,F (y+1)=z:=⟨_,rfl⟩;rw[hfx] at hce;rw[hfy] at hce2
  have hor:bits .or .i64 ((fx:Nat):Int) 1=((fx ||| 1:Nat):Int):=or13 (b:=1) (by rw[<-hfx];exact HM4 _) (by decide)
  have hor2:bits .or .i64 ((fy:Nat):Int) 1=((fy ||| 1:Nat):Int):=or13 (b:=1) (by rw[<-hfy];exact HM4 _) (by decide)
  have HS0:Hid (Cn13 (w6.setCell (I1 mb (x+1)) (I ((fx ||| 1:Nat):Int))) mb (na+1) (fun z=>if z=x+1 then F z ||| 1 else F z)):=q9 (by
   refine HC6.set_ (by have:=HXN.out;omega) ?_ fun i hi=>if_neg hi
   rw[if_pos rfl,hfx])
  have HS:Hid (Cn13 ((w6.setCell (I1 mb (x+1)) (I ((fx ||| 1:Nat):Int))).setCell (I1 mb (y+1)) (I ((fy ||| 1:Nat):Int))) mb (na+1) ((es.take (k+1)).foldl (Qax b.V) fun _=>0)):=q9 (by
   rw[HNX.out,HAR.out]
   refine HS0.set_ (by have:=HYN.out;omega) ?_ fun i hi=>if_neg hi
   rw[if_pos rfl,hfy])
  have HBS:Hid (Below w1.heap.size w1 ((w6.setCell (I1 mb (x+1)) (I ((fx ||| 1:Nat):Int))).setCell (I1 mb (y+1)) (I ((fy ||| 1:Nat):Int)))):=q9 ((HB6.setCell (p:=(I1 mb (x+1))) (by rw[HMB.out];exact Nat.le_refl _) _).setCell (p:=(I1 mb (y+1))) (by rw[HMB.out];exact Nat.le_refl _) _)
  have xI:(x:Int)+1<(na:Int)+1:=by have:=HXN.out;omega
  have x0:(0:Int)<=(x:Int)+1:=by omega
  have yI:(y:Int)+1<(na:Int)+1:=by have:=HYN.out;omega
  have y0:(0:Int)<=(y:Int)+1:=by omega
  have xy9:x+1≠y+1:=by have:=HXY.out;omega
  have yx9:y+1≠x+1:=by have:=HXY.out;omega
  clear HC6 HB6 HNX HAR HM4 HC HIN HE9 hfx hfy HS0;go_wp2_with fail
  exact⟨⟨k+1,HKN.out,by simp,HS.out,HBS.out⟩,by simp [intOf];omega⟩
end
theorem QeR:(Tryz.prog.info? 72).map (fun i=>(i.zero,i.size,i.bytes))=some (some (.agg #[I 0,I 0]),2,16):=by kernel_rfl
theorem Qkf (n:Nat)(hn:n<=100000)(w:World):(Instr.makeSlice 92 (I (n:Int)) (I (n:Int))).run Tryz.prog w=.ok (I3 (I1 w.heap.size 0) n n) (w.alloc (.cells (madeCells #[I 0,I 0] (n*2)) 72)):=by
 obtain⟨i0,hi0,hz0,hz1,hz2⟩:=info_parts QeR
 have h:=run_make (P:=Tryz.prog) w 92 72 i0 (.agg #[I 0,I 0]) Tryz.underlying92 hi0 hz0 .i64 .i64 (n:Int) (n:Int) (by omega) (Int.le_refl _) (by rw[hz2];omega) (by omega)
 rw[Int.toNat_natCast,hz1] at h;exact h
def QaW (lev:Nat)(gr:List (Option (Nat × Nat)))(e:E1):List (Option (Nat × Nat)):=if e.t && decide (lev<=e.l) then gr.set e.s (some (e.u,e.v)) else gr
def GB13 (W:World)(mb:Nat)(gr:List (Option (Nat × Nat))):Prop:=
 ∃ zs,Blk W mb 72 zs/\zs.size=gr.length*2/\∀ k e,gr[k]?=some e->zs[k*2]?=some (I (end1 e))/\zs[k*2+1]?=some (I (end2 e))
section
variable {w w':World}{mb n:Nat}{gr:List (Option (Nat × Nat))}
theorem GB13.below (h:GB13 w mb gr)(hb:Below w.heap.size w w'):GB13 w' mb gr:=by
 obtain⟨zs,hz,h1,h2⟩:=h;exact⟨zs,hz.below hb hz.lt,h1,h2⟩
theorem GB13.gi (h:GB13 w mb gr)(hn:gr.length=n):GI w (I3 (I1 mb 0) n n) gr:=by
 obtain⟨zs,hz,_,h2⟩:=h;subst hn
 refine⟨mb,0,_,zs,rfl,hz,fun k e he=>?_⟩
 rw[Nat.zero_add];exact h2 k e he
theorem GB13.at (h:GB13 w mb gr){k:Nat}(hk:k<gr.length):∃ x y,w.cell? (I1 mb (k*2))=some x/\w.cell? (I1 mb (k*2+1))=some y/\w.frozen? (I1 mb (k*2))=false/\w.frozen? (I1 mb (k*2+1))=false/\mb<w.heap.size:=by
 obtain⟨zs,hz,h1,h2⟩:=h;have:=h2 k _ (List.getElem?_eq_getElem hk);exact⟨_,_,(hz.cell _).trans this.1,(hz.cell _).trans this.2,hz.frozen _,hz.frozen _,hz.lt⟩
theorem GB13.set_ (h:GB13 w mb gr){y:Nat}(hy:y<gr.length)(o:Option (Nat × Nat)):
 GB13 ((w.setCell (I1 mb (y*2)) (I (end1 o))).setCell (I1 mb (y*2+1)) (I (end2 o))) mb (gr.set y o):=by
 obtain⟨zs,hz,h1,h2⟩:=h
 refine⟨_,(hz.set_ (y*2) _).set_ (y*2+1) _,by rw[Array.size_setIfInBounds,Array.size_setIfInBounds,List.length_set];exact h1,fun k e he=>?_⟩
 by_cases e1:k=y
 . subst e1
   rw[List.getElem?_set_self hy] at he;injection he with he;subst he
   constructor
   . rw[Array.getElem?_setIfInBounds_ne (by omega),Array.getElem?_setIfInBounds_self_of_lt (by omega)]
   . rw[Array.getElem?_setIfInBounds_self_of_lt (by rw[Array.size_setIfInBounds];omega)]
 . rw[List.getElem?_set_ne (Ne.symm e1)] at he
   obtain⟨q1,q2⟩:=h2 k e he
   constructor
   . rw[Array.getElem?_setIfInBounds_ne (by omega),Array.getElem?_setIfInBounds_ne (by omega)];exact q1
   . rw[Array.getElem?_setIfInBounds_ne (by omega),Array.getElem?_setIfInBounds_ne (by omega)];exact q2
end
def KG13 (w1:World)(mb n:Nat)(i:Value)(W:World):Prop:=
 ∃ k,k<=n/\i=I ((k:Nat):Int)/\Below w1.heap.size w1 W/\∃ zs,Blk W mb 72 zs/\zs.size=n*2/\∀ y,y<k->zs[y*2]?=some (I (-1))/\zs[y*2+1]?=some (I (-1))
theorem KG13.next {w1 w:World}{k mb n:Nat}{zs:Array Value}(hk:k<n)(hb:Below w1.heap.size w1 w)(h1:w1.heap.size<=mb)(hz:Blk w mb 72 zs)(hs:zs.size=n*2)(hc:∀ y,y<k->zs[y*2]?=some (I (-1))/\zs[y*2+1]?=some (I (-1))):
 KG13 w1 mb n (I ((k:Int)+1)) ((w.setCell (I1 mb (k*2)) (I (-1))).setCell (I1 mb (k*2+1)) (I (-1))):=by
 refine⟨k+1,hk,by simp,(hb.setCell h1 _).setCell h1 _,_,(hz.set_ (k*2) _).set_ (k*2+1) _,by rw[Array.size_setIfInBounds,Array.size_setIfInBounds];exact hs,fun y hy=>?_⟩
 by_cases e:y=k
 . subst e
   constructor
   . rw[Array.getElem?_setIfInBounds_ne (by omega),Array.getElem?_setIfInBounds_self_of_lt (by omega)]
   . rw[Array.getElem?_setIfInBounds_self_of_lt (by rw[Array.size_setIfInBounds];omega)]
 . obtain⟨q1,q2⟩:=hc y (by omega)
   constructor
   . rw[Array.getElem?_setIfInBounds_ne (by omega),Array.getElem?_setIfInBounds_ne (by omega)];exact q1
   . rw[Array.getElem?_setIfInBounds_ne (by omega),Array.getElem?_setIfInBounds_ne (by omega)];exact q2
theorem KG13.done {w:World}{mb n:Nat}{zs:Array Value}(hz:Blk w mb 72 zs)(hs:zs.size=n*2)(hc:∀ y,y<n->zs[y*2]?=some (I (-1))/\zs[y*2+1]?=some (I (-1))):GB13 w mb (List.replicate n none):=by
 refine⟨zs,hz,by rw[List.length_replicate];exact hs,fun k e he=>?_⟩
 obtain⟨h1,h2⟩:=List.getElem?_eq_some_iff.1 he;rw[List.getElem_replicate] at h2;subst h2
 exact hc k (by simpa using h1)
theorem Qfz (lev:Nat)(gr:List (Option (Nat × Nat)))(e:E1):(QaW lev gr e).length=gr.length:=by
 unfold QaW
 split
 . exact List.length_set
 . rfl
theorem Qcw (lev:Nat):∀ (es:List E1) (gr:List (Option (Nat × Nat))),(es.foldl (QaW lev) gr).length=gr.length
 |[],_=>rfl
 |e :: es,gr=>(Qcw lev es _).trans (Qfz lev gr e)
def KH13 (w1:World)(mb n lev:Nat)(es:List E1)(i:Value)(W:World):Prop:=
 ∃ k,k<=es.length/\i=I ((k:Nat):Int)/\GB13 W mb ((es.take k).foldl (QaW lev) (List.replicate n none))/\Below w1.heap.size w1 W
section
variable {w:World}{b:BkV}{cv:Nat->Int}{es:List E1}{base lev:Nat}{vl:Value}
set_option maxHeartbeats 8000000 in
theorem QiS (B:Bk w b cv)(hL:EW w base vl es)(hln:es.length<=100)(hlev:(lev:Int)<lv b.V)(hen:∀ e∈es,e.u<e.v/\(e.v:Int)<b.V/\(e.s:Int)<b.S/\(e.l:Int)<lv b.V):
 Calls Tryz.prog 57 #[vB b,vl,I (lev:Int)] w fun e w'=>∃ mb,e=.returned (I3 (I1 mb 0) b.S.toNat b.S.toNat)/\GB13 w' mb (es.foldl (QaW lev) (List.replicate b.S.toNat none))/\w.heap.size<=mb/\Below w.heap.size w w':=by
 obtain⟨la,ln,lc,rfl,hEW⟩:=QbI hL
 have hlen:es.length=ln:=by
  obtain⟨a,c,e⟩:=hEW.slice;injection e with _ e _;exact e.symm
 have HLN:=q9 hlen;have HR:=q9 B.hR;have HEN:=q9 hen
 have lnI:(ln:Int)<=100:=by omega
 obtain⟨sn,hsn⟩:∃ k:Nat,b.S=(k:Int):=⟨b.S.toNat,by have:=B.hR.s1;omega⟩
 have HSN:=q9 hsn
 have sn48:sn<=48:=by have:=B.hR.s2;omega
 have HLV:Hid ((lev:Int)<lv b.V):=q9 hlev
 have lev5:(lev:Int)<=5:=by have:=QF b.V;omega
 have lev0:(0:Int)<=(lev:Int):=by omega
 have HX:=q9 (BB.new w b);have HW:Hid (Below w.heap.size w (w.alloc (bB b))):=q9 ((Below.refl _ _).alloc (Nat.le_refl _) _);have HEW:=q9 (hEW.alloc (bB b))
 have hmk:∀ W:World,(Instr.makeSlice 92 (I b.S) (I b.S)).run Tryz.prog W=.ok (I3 (I1 W.heap.size 0) sn sn) (W.alloc (.cells (madeCells #[I 0,I 0] (sn*2)) 72)):=fun W=>by
  have:=Qkf sn (by omega) W
  rwa [<-hsn] at this
 obtain⟨c0,c1,c2,c3,c4,c5,c6⟩:=(BB.new w b).cells
 have S0:0<=b.S:=by omega
 have S1:b.S<=48:=by omega
 clear B hL hEW hlen hen hln hsn hlev
 go_enter Tryz.func57,Tryz.ntmps57
 go_wp2_with fail
 clear c0 c1 c2 c3 c4 c5 c6 hmk S0 S1
 have hms:(w.alloc (bB b)).heap.size=w.heap.size+1:=by simp
 have hz0:Blk ((w.alloc (bB b)).alloc (.cells (madeCells #[I 0,I 0] (sn*2)) 72)) (w.heap.size+1) 72 (madeCells #[I 0,I 0] (sn*2)):=by have h:=Blk.new (w.alloc (bB b)) 72 (madeCells #[I 0,I 0] (sn*2));rw[hms] at h;exact h
 have hb9:Below (w.alloc (bB b)).heap.size (w.alloc (bB b)) ((w.alloc (bB b)).alloc (.cells (madeCells #[I 0,I 0] (sn*2)) 72)):=(Below.refl _ _).alloc (Nat.le_refl _) _;have HSZ:Hid (w.heap.size<=w.heap.size+1):=q9 (Nat.le_succ _)
 have HRELA:Hid (KG13 (w.alloc (bB b)) (w.heap.size+1) sn (I 0) ((w.alloc (bB b)).alloc (.cells (madeCells #[I 0,I 0] (sn*2)) 72))):=q9 ⟨0,Nat.zero_le _,rfl,hb9,_,hz0,by rw[size_madeCells],fun y hy=>absurd hy (Nat.not_lt_zero _)⟩
 generalize (w.alloc (bB b)).alloc (.cells (madeCells #[I 0,I 0] (sn*2)) 72)=w2 at HRELA |-;clear hz0 hb9;have HMB:=q9 hms;clear hms;generalize w.alloc (bB b)=w1 at HX HW HEW HRELA HMB |-;generalize w.heap.size+1=mb at HSZ HRELA HMB |-;obtain⟨xb,hxb⟩:∃ k,w.heap.size=k:=⟨_,rfl⟩;rw[hxb] at HX |-;clear hxb HX
 go_loopw [8] (fun i wr=>KG13 w1 mb sn i wr) (fun i _=>sn-(intOf i).toNat)
 case atStart=>exact HRELA.out
 case round=>
  clear HRELA;obtain⟨y,hy,rfl,hb,zs,hz,hsz,hc⟩:=hrel;have HB:=q9 hb;have HZ:=q9 hz;have HC:=q9 hc;have HSZ2:=q9 hsz;clear hb hc
  by_cases hys:y<sn
  . as_aux_lemma=>
    have yI:(y:Int)<(sn:Int):=by omega
    have y0:(0:Int)<=(y:Int):=by omega
    have d1:wr.cell? (I1 mb (y*2))=some (zs[y*2]'(by omega)):=(hz.cell _).trans (Array.getElem?_eq_getElem _)
    have d2:wr.cell? (I1 mb (y*2+1))=some (zs[y*2+1]'(by omega)):=(hz.cell _).trans (Array.getElem?_eq_getElem _)
    have f1:=hz.frozen (y*2);have f2:=hz.frozen (y*2+1);have blt:=hz.lt;generalize zs[y*2]=x1 at d1;generalize zs[y*2+1]=x2 at d2
    have HNX:=q9 (KG13.next (n:=sn) hys HB.out (by rw[HMB.out];exact Nat.le_refl _) HZ hsz HC)
    clear hz hys HB HZ HC hsz;go_wp2_with fail
    go_roundw
    case rel=>exact HNX.out
    case measure=>simp [intOf];omega
  have ey:y=sn:=by omega
  subst ey
  have yN:¬ (y:Int)<(y:Int):=by omega
  have HG0:=q9 (KG13.done HZ.out HSZ2.out HC.out);have HEWR:=q9 (HEW.below HB.out);have HRELB:Hid (KH13 w1 mb y lev es (I 0) wr):=q9 ⟨0,Nat.zero_le _,rfl,HG0.out,HB.out⟩;clear hz hsz HZ HC HSZ2 HG0 hys hy HB;go_wp2_with fail
  go_loopw [9] (fun i wr=>KH13 w1 mb y lev es i wr) (fun i _=>ln-(intOf i).toNat)
  case atStart=>exact HRELB.out
  case round=>
   clear HRELB;obtain⟨k,hk,rfl,hG,hb⟩:=hrel;have HB:=q9 hb;have HG:=q9 hG;have HEWK:=q9 (HEW.below hb);rw[HLN.out] at hk;clear hb hG
   by_cases hkn:k<ln
   rotate_left
   . as_aux_lemma=>
     have ek:k=ln:=by omega
     subst ek
     have kN:¬ (k:Int)<(k:Int):=by omega
     have HBE:=q9 (HW.trans (HB.mono HW.size))
     have HGE:Hid (GB13 wr mb (es.foldl (QaW lev) (List.replicate y none))):=q9 (by have h:=HG.out;rw[<-HLN.out,List.take_length] at h;exact h)
     go_wp2_with fail
     go_ret;refine⟨mb,?_,?_,HSZ,HBE⟩
     . rw[HSN.out,Int.toNat_natCast]
       first|done|rfl
     . rw[HSN.out,Int.toNat_natCast]
       exact HGE
   obtain⟨e,he⟩:∃ e,es[k]?=some e:=⟨_,List.getElem?_eq_getElem (by have:=HLN.out;omega)⟩
   obtain⟨g,c9,e9,_,glt,gfz,z0,z1,z2,z3,z4⟩:=HEWK.at he;injection e9 with e91 e92 e93;subst e91
   have kI:(k:Int)<(ln:Int):=by omega
   have k0:(0:Int)<=(k:Int):=by omega
   have HNX:Hid ((es.take (k+1)).foldl (QaW lev) (List.replicate y none)=QaW lev ((es.take k).foldl (QaW lev) (List.replicate y none)) e):=q9 (by rw[List.take_add_one,he,Option.toList_some,List.foldl_append];rfl)
   have HGL:Hid (((es.take k).foldl (QaW lev) (List.replicate y none)).length=y):=q9 (by rw[Qcw,List.length_replicate])
   generalize (es.take k).foldl (QaW lev) (List.replicate y none)=gr at HNX HGL HG;have HEM:Hid (e∈es):=q9 (List.mem_of_getElem? he)
   have HKN:Hid (k+1<=es.length):=q9 (by have:=HLN.out;omega)
   clear he e92 e93;obtain⟨es9,eu,ev,el,et⟩:=e;dsimp only at *;obtain⟨e1,e2,e3,e4⟩:=HEN.out _ HEM.out;dsimp only at e1 e2 e3 e4
   have HES:Hid (es9<y):=q9 (by have:=HSN.out;omega)
   have eu9:(eu:Int)<=16:=by have:=HR.v2;omega
   have ev9:(ev:Int)<=16:=by have:=HR.v2;omega
   have el9:(el:Int)<=16:=by have:=QF b.V;omega
   clear e1 e2 e3 e4 HEM
   cases et
   . as_aux_lemma=>
     have hgr:QaW lev gr ⟨es9,eu,ev,el,false⟩=gr:=rfl
     have HN2:Hid (KH13 w1 mb y lev es (I ((k:Int)+1)) wr):=q9 ⟨k+1,HKN.out,by simp,by rw[HNX.out,hgr];exact HG,HB⟩
     clear hgr HNX HG HB;go_wp2_with fail
     go_roundw
     case rel=>exact HN2.out
     case measure=>simp [intOf];omega
   by_cases hle:lev<=el
   rotate_left
   . as_aux_lemma=>
     have leN:¬ (lev:Int)<=(el:Int):=by omega
     have hgr:QaW lev gr ⟨es9,eu,ev,el,true⟩=gr:=if_neg (by simp;omega)
     have HN2:Hid (KH13 w1 mb y lev es (I ((k:Int)+1)) wr):=q9 ⟨k+1,HKN.out,by simp,by rw[HNX.out,hgr];exact HG,HB⟩
     clear hgr HNX HG HB;go_wp2_with fail
     go_roundw
     case rel=>exact HN2.out
     case measure=>simp [intOf];omega
   have leI:(lev:Int)<=(el:Int):=by omega
   have hgr:QaW lev gr ⟨es9,eu,ev,el,true⟩=gr.set es9 (some (eu,ev)):=if_pos (by simp;omega)
   have HGN:Hid (GB13 ((wr.setCell (I1 mb (es9*2)) (I (eu:Int))).setCell (I1 mb (es9*2+1)) (I (ev:Int))) mb (gr.set es9 (some (eu,ev)))):=q9 (HG.set_ (by rw[HGL.out];exact HES) (some (eu,ev)))
   obtain⟨x1,x2,d1,d2,f1,f2,blt⟩:=HG.at (k:=es9) (by rw[HGL.out];exact HES)
   have esI:(es9:Int)<(y:Int):=by have:=HES.out;omega
   have es0:(0:Int)<=(es9:Int):=by omega
   have HN2:Hid (KH13 w1 mb y lev es (I ((k:Int)+1)) (((wr.setCell (I1 mb (es9*2)) (I (eu:Int))).setCell (I1 mb (es9*2+1)) (I (ev:Int))).drew)):=q9 ⟨k+1,HKN.out,by simp,by rw[HNX.out,hgr];exact HGN.below (Below.refl _ _).drew,((HB.setCell (p:=(I1 mb (es9*2))) (by rw[HMB.out];exact Nat.le_refl _) _).setCell (p:=(I1 mb (es9*2+1))) (by rw[HMB.out];exact Nat.le_refl _) _).drew⟩
   clear hgr HNX HG HB HGN;go_wp2_with fail
   go_region;go_wp2_with fail
   go_roundw
   case rel=>exact HN2.out
   case measure=>simp [intOf];omega
end
end Go.Proofs.YtaooglagddphnaaGreat
