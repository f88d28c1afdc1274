/- Gq -/
import Derived.Test.YtaooglagddphnaaGreatXGp
import Derived.Laws.Rows
import Derived.Deep.MidRow
namespace Go.Proofs.YtaooglagddphnaaGreat
open Go.RowKit
set_option maxRecDepth 100000
def decA (T k:Int):Nm:=if k<T then ⟨1,k+1,0,0⟩ else if k=T then ⟨2,0,0,0⟩ else if (k-T-1) % 7=0 then ⟨3,(k-T-1) / 7,0,0⟩ else if (k-T-1) % 7=1 then ⟨4,(k-T-1) / 7,0,0⟩ else if (k-T-1) % 7=2 then ⟨5,(k-T-1) / 7,0,0⟩ else if (k-T-1) % 7<5 then ⟨6,(k-T-1) / 7,(k-T-1) % 7-3,0⟩ else ⟨7,(k-T-1) / 7,(k-T-1) % 7-5,0⟩
section
variable {V S T:Int}{m m':Nm}{k:Nat}
theorem Qep (hR:Rt V S T)(h:Qf V S T m k):((k:Int)<o3 S T/\m=decA T k)\/(o3 S T<=k/\(k:Int)<o4 V S T/\m=⟨8,((k:Int)-o3 S T) / lv V,((k:Int)-o3 S T) % lv V,0⟩)\/
 (o4 V S T<=k/\(k:Int)<o5 V S T/\m.k=9/\m.c=0/\0<=m.a/\m.a<m.b/\m.b<V/\(k:Int)=o4 V S T+ahF V m.a+(m.b-m.a-1))\/(o5 V S T<=k/\m=⟨10,((k:Int)-o5 V S T) / 7+1,((k:Int)-o5 V S T) % 7,0⟩):=by
 have h3:o3 S T=T+1+S*7:=rfl;have h4:o4 V S T=o3 S T+vn V:=rfl;have h5:o5 V S T=o4 V S T+pr V:=rfl;have hl:=QF V;have hvn:vn V=lv V*V:=rfl;have t1:=hR.t1;have s1:=hR.s1;obtain⟨mk,ma,mb,mc⟩:=m;unfold Qf at h;dsimp only at h |-
 rcases h with ⟨e,⟨e1,e2⟩,h⟩|⟨e,⟨e1,e2,e3⟩,h⟩|⟨e,⟨e1,e2⟩,h⟩|⟨e,⟨e1,e2⟩,h⟩|⟨e,⟨e1,e2⟩,h⟩|⟨e,e1,h⟩|⟨e,e1,h⟩|⟨e,e1,h⟩|⟨e,e1,h⟩|⟨e,e1,h⟩
 . refine .inl ⟨by omega,?_⟩
   unfold decA
   rw[if_pos (by omega),e,e1,e2,Nm.mk.injEq]
   omega
 . refine .inl ⟨by omega,?_⟩
   unfold decA
   rw[if_neg (by omega),if_pos (by omega),e,e1,e2,e3]
 . refine .inl ⟨by omega,?_⟩
   unfold decA
   rw[if_neg (by omega),if_neg (by omega),if_pos (by omega),e,e1,e2,Nm.mk.injEq]
   omega
 . refine .inl ⟨by omega,?_⟩
   unfold decA
   rw[if_neg (by omega),if_neg (by omega),if_neg (by omega),if_pos (by omega),e,e1,e2,Nm.mk.injEq]
   omega
 . refine .inl ⟨by omega,?_⟩
   unfold decA
   rw[if_neg (by omega),if_neg (by omega),if_neg (by omega),if_neg (by omega),if_pos (by omega),e,e1,e2,Nm.mk.injEq]
   omega
 . refine .inl ⟨by omega,?_⟩
   unfold decA
   rw[if_neg (by omega),if_neg (by omega),if_neg (by omega),if_neg (by omega),if_neg (by omega),if_pos (by omega),e,e1,Nm.mk.injEq]
   omega
 . refine .inl ⟨by omega,?_⟩
   unfold decA
   rw[if_neg (by omega),if_neg (by omega),if_neg (by omega),if_neg (by omega),if_neg (by omega),if_neg (by omega),e,e1,Nm.mk.injEq]
   omega
 . obtain⟨a1,a2,a3,a4,a5⟩:=h
   have h9:ma*lv V+lv V<=vn V:=by
    have:=Int.mul_le_mul_of_nonneg_left (show ma+1<=V by omega) (show 0<=lv V by omega)
    rw[Int.mul_add,Int.mul_one,Int.mul_comm (lv V) ma] at this;rw[hvn];exact this
   have h8:0<=ma*lv V:=Int.mul_nonneg a1 (by omega)
   refine .inr (.inl ⟨by omega,by omega,?_⟩)
   have e9:(k:Int)-o3 S T=mb+ma*lv V:=by omega
   rw[e9,Int.add_mul_ediv_right _ _ (by omega),Int.ediv_eq_zero_of_lt a3 a4,Int.zero_add,Int.add_mul_emod_self_right,Int.emod_eq_of_lt a3 a4,e,e1]
 . obtain⟨a1,a2,a3,a4⟩:=h
   have g1:=QfT (V:=V) a1 (by omega)
   have g2:=Qjq (V:=V) (a:=ma) (by omega)
   exact .inr (.inr (.inl ⟨by omega,by omega,e,e1,a1,a2,a3,a4⟩))
 . obtain⟨a1,a2,a3,a4,a5⟩:=h
   refine .inr (.inr (.inr ⟨by omega,?_⟩))
   rw[e,e1,Nm.mk.injEq];omega
theorem Qgo (hR:Rt V S T)(h:Qf V S T m k)(h':Qf V S T m' k):m=m':=by
 have h4:o4 V S T=o3 S T+vn V:=rfl;have h5:o5 V S T=o4 V S T+pr V:=rfl;have hv:=(sizes hR).vn1;have hp:=(sizes hR).pr1
 rcases Qep hR h with ⟨a1,a2⟩|⟨a1,a2,a3⟩|⟨a1,a2,a3⟩|⟨a1,a2⟩<;>rcases Qep hR h' with ⟨b1,b2⟩|⟨b1,b2,b3⟩|⟨b1,b2,b3⟩|⟨b1,b2⟩
 . rw[a2,b2]
 . omega
 . omega
 . omega
 . omega
 . rw[a3,b3]
 . omega
 . omega
 . omega
 . omega
 . obtain⟨mk,ma,mb,mc⟩:=m
   obtain⟨mk',ma',mb',mc'⟩:=m';dsimp only at a3 b3;obtain⟨e1,e2,a4,a5,a6,a7⟩:=a3;obtain⟨f1,f2,b4,b5,b6,b7⟩:=b3
   have ha:ma=ma':=by
    rcases Int.lt_trichotomy ma ma' with c|c|c
    . have:=QhL (V:=V) c (by omega);omega
    . exact c
    . have:=QhL (V:=V) c (by omega);omega
   subst ha;rw[Nm.mk.injEq];omega
 . omega
 . omega
 . omega
 . omega
 . rw[a2,b2]
end
def Nms (W:World)(P:Nm->Nat->Prop)(n g:Nat):Prop:=g<W.heap.size/\∃ f:Nat->Nm,∀ k,k<n->NmAt W g k (f k)/\P (f k) k
section
variable {w w' W w0:World}{P:Nm->Nat->Prop}{n g tb ob:Nat}{V S T:Int}{b:BkV}
theorem Nms.below (h:Nms w P n g)(hb:Below w.heap.size w w'):Nms w' P n g:=⟨Nat.lt_of_lt_of_le h.1 hb.size,by obtain⟨f,h2⟩:=h.2;exact⟨f,fun k hk=>⟨(h2 k hk).1.below hb h.1,(h2 k hk).2⟩⟩⟩
theorem QJ {b o:Nat}(h:w'.heap[b]?=w.heap[b]?):w'.cell? (I1 b o)=w.cell? (I1 b o):=by unfold World.cell?;simp only[h]
theorem Nms.keep (h:Nms w P n g)(hb:w'.heap[g]?=w.heap[g]?):Nms w' P n g:=by
 obtain⟨h1,f,h2⟩:=h
 refine⟨?_,f,fun k hk=>⟨?_,(h2 k hk).2⟩⟩
 . have h3:w.heap[g]?=some w.heap[g]:=Array.getElem?_eq_getElem h1
   rw[h3] at hb;exact(Array.getElem?_eq_some_iff.1 hb).1
 . obtain⟨a0,a1,a2,a3⟩:=(h2 k hk).1
   exact⟨(QJ hb).trans a0,(QJ hb).trans a1,(QJ hb).trans a2,(QJ hb).trans a3⟩
theorem Qw {ty:TypeId}{cs:Array Value}{i m:Nat}(h:Blk w i ty cs)(hs:cs.size=m):w.there i 0 m:=fun j hj=>by
 rw[Nat.zero_add];refine⟨?_,h.frozen j⟩
 rw[h.cell j,Array.getElem?_eq_getElem (by omega)]
 rfl
theorem Qk {ops:Array Oper}{o:Oper}{a:Act}{K:Act->World->Prop}{Q:Exit->Act->World->Prop}{F:Prop}(hgd:o.guard=none)(ty:TypeId)(x y:Operand)(ho:o.op=.store ty x y)
 (i:Nat) (vs:List Value) (hx:a.eval x=.pointer (some (I1 i 0))) (hy:a.eval y=.agg vs.toArray) (ht:w.there i 0 vs.length) (hi:(Tryz.prog.info? ty).map (·.size)=some vs.length) (h1:vs.all (·.oneCell')=true)
 (h:K (a.put o.dst undef) (w.setCells i 0 vs)):if Region.wanted o (yielded ops a.tmps)=true then Oper.wp Tryz.prog o a w K Q else F:=by
 rw[if_pos (by simp [Region.wanted,hgd])]
 exact wp_store_mid ty x y ho i 0 vs.toArray hx hy (by simpa using ht) (by simpa using hi) (by rw[List.all_toArray];exact h1) (by simpa using h)
theorem QbQ {ops:Array Oper}{rest:List Oper}{o:Oper}{a:Act}{Q:Exit->Act->World->Prop}(hgd:o.guard=none)(ty:TypeId)(x y:Operand)(ho:o.op=.store ty x y)
 (i:Nat) (vs:List Value) (hx:a.eval x=.pointer (some (I1 i 0))) (hy:a.eval y=.agg vs.toArray) (ht:w.there i 0 vs.length) (hi:(Tryz.prog.info? ty).map (·.size)=some vs.length) (h1:vs.all (·.oneCell')=true)
 (h:wpList Tryz.prog ops Q rest (a.put o.dst undef) (w.setCells i 0 vs)):wpList Tryz.prog ops Q (o :: rest) a w:=
 wpList_store_mid hgd ty x y ho i 0 vs.toArray hx hy (by simpa using ht) (by simpa using hi) (by rw[List.all_toArray];exact h1) (by simpa using h)
structure OS13 (w0 W:World)(ob tb:Nat)(b:BkV)(n:Nat)(G:Value->Value->Prop):Prop where
 o:Blk W ob 67 #[I 0,I 0,I 0,.slice none 0 0,.slice none 0 0,.map none,.slice none 0 0]
 bb:BB W tb b
 nm:Nms W (Qf b.V b.S b.T) b.nn b.gn
 al:Nms W (Qn b.V b.S) b.na b.ga
 fm:FM 114 W b.wb n G
 be:Below w0.heap.size w0 W
 ge:w0.heap.size<=ob/\w0.heap.size<=tb/\w0.heap.size<=b.wb
 no:b.gn≠ob/\b.ga≠ob/\w0.heap.size<=b.ga
theorem QnN {z0 z1 z2 z3 z4 z5 z6:Value}(hO:Blk w ob 67 #[I 0,I 0,I 0,.slice none 0 0,.slice none 0 0,.map none,.slice none 0 0])(hT:Blk w tb 67 #[z0,z1,z2,z3,z4,z5,z6])(hN:Nms w (Qf b.V b.S b.T) b.nn b.gn)(hA:Nms w (Qn b.V b.S) b.na b.ga)(hM:FM 114 w b.wb n fun _ _=>False)(hB:Below w0.heap.size w0 w)(g1:w0.heap.size<=ob)(g2:w0.heap.size<=tb)(g3:w0.heap.size<=b.wb)(n1:b.gn≠tb)(n2:b.ga≠tb)(n3:ob≠tb)(n5:b.gn≠ob)(n6:b.ga≠ob/\w0.heap.size<=b.ga):
 OS13 w0 (w.setCells tb 0 [I b.V,I b.S,I b.T,I3 (I1 b.gn 0) b.nn b.cn,I3 (I1 b.cb 0) b.cl b.cc,.map (some b.wb),I3 (I1 b.ga 0) b.na b.ca]) ob tb b n fun _ _=>False:=by
 show OS13 w0 (((((((w.setCell (I1 tb 0) (I b.V)).setCell (I1 tb 1) (I b.S)).setCell (I1 tb 2) (I b.T)).setCell (I1 tb 3) (I3 (I1 b.gn 0) b.nn b.cn)).setCell (I1 tb 4) (I3 (I1 b.cb 0) b.cl b.cc)).setCell (I1 tb 5) (.map (some b.wb))).setCell (I1 tb 6) (I3 (I1 b.ga 0) b.na b.ca)) ob tb b n fun _ _=>False
 have hk:∀ (W:World) (i j:Nat) (u:Value),i≠tb->(W.setCell (I1 tb j) u).heap[i]?=W.heap[i]?:=fun W i j u h=>Below.heap_setCell W (I1 tb j) u i (fun e=>h (by rw[e]))
 have n4:b.wb≠tb:=hM.ne_blk hT;have t0:Blk (w.setCell (I1 tb 0) (I b.V)) tb 67 #[I b.V,z1,z2,z3,z4,z5,z6]:=hT.set_ 0 _;have t1:Blk ((w.setCell (I1 tb 0) (I b.V)).setCell (I1 tb 1) (I b.S)) tb 67 #[I b.V,I b.S,z2,z3,z4,z5,z6]:=t0.set_ 1 _;have t2:Blk (((w.setCell (I1 tb 0) (I b.V)).setCell (I1 tb 1) (I b.S)).setCell (I1 tb 2) (I b.T)) tb 67 #[I b.V,I b.S,I b.T,z3,z4,z5,z6]:=t1.set_ 2 _;have t3:Blk ((((w.setCell (I1 tb 0) (I b.V)).setCell (I1 tb 1) (I b.S)).setCell (I1 tb 2) (I b.T)).setCell (I1 tb 3) (I3 (I1 b.gn 0) b.nn b.cn)) tb 67 #[I b.V,I b.S,I b.T,I3 (I1 b.gn 0) b.nn b.cn,z4,z5,z6]:=t2.set_ 3 _;have t4:Blk (((((w.setCell (I1 tb 0) (I b.V)).setCell (I1 tb 1) (I b.S)).setCell (I1 tb 2) (I b.T)).setCell (I1 tb 3) (I3 (I1 b.gn 0) b.nn b.cn)).setCell (I1 tb 4) (I3 (I1 b.cb 0) b.cl b.cc)) tb 67 #[I b.V,I b.S,I b.T,I3 (I1 b.gn 0) b.nn b.cn,I3 (I1 b.cb 0) b.cl b.cc,z5,z6]:=t3.set_ 4 _;have t5:Blk ((((((w.setCell (I1 tb 0) (I b.V)).setCell (I1 tb 1) (I b.S)).setCell (I1 tb 2) (I b.T)).setCell (I1 tb 3) (I3 (I1 b.gn 0) b.nn b.cn)).setCell (I1 tb 4) (I3 (I1 b.cb 0) b.cl b.cc)).setCell (I1 tb 5) (.map (some b.wb))) tb 67 #[I b.V,I b.S,I b.T,I3 (I1 b.gn 0) b.nn b.cn,I3 (I1 b.cb 0) b.cl b.cc,.map (some b.wb),z6]:=t4.set_ 5 _;have t6:Blk (((((((w.setCell (I1 tb 0) (I b.V)).setCell (I1 tb 1) (I b.S)).setCell (I1 tb 2) (I b.T)).setCell (I1 tb 3) (I3 (I1 b.gn 0) b.nn b.cn)).setCell (I1 tb 4) (I3 (I1 b.cb 0) b.cl b.cc)).setCell (I1 tb 5) (.map (some b.wb))).setCell (I1 tb 6) (I3 (I1 b.ga 0) b.na b.ca)) tb 67 #[I b.V,I b.S,I b.T,I3 (I1 b.gn 0) b.nn b.cn,I3 (I1 b.cb 0) b.cl b.cc,.map (some b.wb),I3 (I1 b.ga 0) b.na b.ca]:=t5.set_ 6 _
 have hall:∀ i,i≠tb->(((((((w.setCell (I1 tb 0) (I b.V)).setCell (I1 tb 1) (I b.S)).setCell (I1 tb 2) (I b.T)).setCell (I1 tb 3) (I3 (I1 b.gn 0) b.nn b.cn)).setCell (I1 tb 4) (I3 (I1 b.cb 0) b.cl b.cc)).setCell (I1 tb 5) (.map (some b.wb))).setCell (I1 tb 6) (I3 (I1 b.ga 0) b.na b.ca)).heap[i]?=w.heap[i]?:=fun i h=>by
  rw[hk _ _ _ _ h,hk _ _ _ _ h,hk _ _ _ _ h,hk _ _ _ _ h,hk _ _ _ _ h,hk _ _ _ _ h,hk _ _ _ _ h]
 exact⟨(hall _ n3).trans hO,t6,hN.keep (hall _ n1),hA.keep (hall _ n2),hM.keep (hall _ n4),((((((hB.setCell (p:=(I1 tb 0)) g2 _).setCell (p:=(I1 tb 1)) g2 _).setCell (p:=(I1 tb 2)) g2 _).setCell (p:=(I1 tb 3)) g2 _).setCell (p:=(I1 tb 4)) g2 _).setCell (p:=(I1 tb 5)) g2 _).setCell (p:=(I1 tb 6)) g2 _,⟨g1,g2,g3⟩,n5,n6⟩
theorem Qoh {i:Nat}{ty:TypeId}{cs:Array Value}{z0 z1 z2 z3 z4 z5 z6 v0 v1 v2 v3 v4 v5 v6:Value}(h:Blk w i ty cs)(hT:Blk w tb 67 #[z0,z1,z2,z3,z4,z5,z6])(hne:ty≠67):
 Blk (w.setCells tb 0 [v0,v1,v2,v3,v4,v5,v6]) i ty cs:=by
 show Blk (((((((w.setCell (I1 tb 0) v0).setCell (I1 tb 1) v1).setCell (I1 tb 2) v2).setCell (I1 tb 3) v3).setCell (I1 tb 4) v4).setCell (I1 tb 5) v5).setCell (I1 tb 6) v6) i ty cs;have hn:=Blk.ne_ h hT hne;exact(((((((h.far (p:=(I1 tb 0)) hn v0).far (p:=(I1 tb 1)) hn v1).far (p:=(I1 tb 2)) hn v2).far (p:=(I1 tb 3)) hn v3).far (p:=(I1 tb 4)) hn v4).far (p:=(I1 tb 5)) hn v5).far (p:=(I1 tb 6)) hn v6)
theorem Qgd (b:Nat)(V S T:Int):∀ W:World,Blk W b 63 #[I V,I S,I T]->W.cell? (I1 b 0)=some (I V)/\W.cell? (I1 b 1)=some (I S)/\W.cell? (I1 b 2)=some (I T):=fun _ h=>⟨h.cell 0,h.cell 1,h.cell 2⟩
structure OP13 (w0 W:World)(lb ob:Nat)(V S T:Int)(cl nd9:Nat)(gn ga wb tb:Option Nat):Prop where
 l:(Blk W lb 63 #[I V,I S,I T])
 o:Blk W ob 67 #[I 0,I 0,I 0,.slice none 0 0,.slice none 0 0,.map none,.slice none 0 0]
 be:Below w0.heap.size w0 W
 n:∀ x∈gn,Nms W (Qf V S T) cl x/\x≠ob/\∀ y∈tb,x≠y
 a:∀ x∈ga,Nms W (Qn V S) nd9 x/\(x≠ob/\w0.heap.size<=x)/\∀ y∈tb,x≠y
 m:∀ x∈wb,FM 114 W x 0 (fun _ _=>False)/\w0.heap.size<=x
 t:∀ x∈tb,Blk W x 67 #[I 0,I 0,I 0,.slice none 0 0,.slice none 0 0,.map none,.slice none 0 0]/\w0.heap.size<=x/\ob≠x
section
variable {lb cl nd9 cc ca:Nat}{gn ga wb t9:Option Nat}
theorem OP13.below (h:OP13 w0 w lb ob V S T cl nd9 gn ga wb t9)(hb:Below w.heap.size w w'):OP13 w0 w' lb ob V S T cl nd9 gn ga wb t9:=
 ⟨h.l.below hb h.l.lt,h.o.below hb h.o.lt,h.be.trans (hb.mono h.be.size),fun x hx=>⟨(h.n x hx).1.below hb,(h.n x hx).2⟩,fun x hx=>⟨(h.a x hx).1.below hb,(h.a x hx).2⟩,fun x hx=>⟨(h.m x hx).1.keep (hb.block _ (h.m x hx).1.lt),(h.m x hx).2⟩,fun x hx=>⟨(h.t x hx).1.below hb (h.t x hx).1.lt,(h.t x hx).2⟩⟩
theorem OP13.cells_ (h:OP13 w0 w lb ob V S T cl nd9 none ga wb t9){g:Nat}{f:Nat->Nm}(h1:w.heap.size<=g)(h2:g<w'.heap.size)(h3:∀ k,k<cl->NmAt w' g k (f k)/\Qf V S T (f k) k)(hb:Below w.heap.size w w'):OP13 w0 w' lb ob V S T cl nd9 (some g) ga wb t9:=by
 have k:=h.below hb
 refine⟨k.l,k.o,k.be,fun x hx=>?_,k.a,k.m,k.t⟩
 injection hx with hx;subst hx
 exact⟨⟨h2,f,h3⟩,by have:=h.o.lt;omega,fun y hy=>by have:=(h.t y hy).1.lt;omega⟩
theorem OP13.nodes_ (h:OP13 w0 w lb ob V S T cl nd9 gn none wb t9){g:Nat}{f:Nat->Nm}(h1:w.heap.size<=g)(h2:g<w'.heap.size)(h3:∀ k,k<nd9->NmAt w' g k (f k)/\Qn V S (f k) k)(hb:Below w.heap.size w w'):OP13 w0 w' lb ob V S T cl nd9 gn (some g) wb t9:=by
 have k:=h.below hb
 refine⟨k.l,k.o,k.be,k.n,fun x hx=>?_,k.m,k.t⟩
 injection hx with hx;subst hx
 exact⟨⟨h2,f,h3⟩,⟨by have:=h.o.lt;omega,by have:=h.be.size;omega⟩,fun y hy=>by have:=(h.t y hy).1.lt;omega⟩
theorem OP13.map_ (h:OP13 w0 w lb ob V S T cl nd9 gn ga none t9):OP13 w0 (w.alloc (.map #[] 0)) lb ob V S T cl nd9 gn ga (some w.heap.size) t9:=by
 have k:=h.below ((Below.refl _ _).alloc (Nat.le_refl _) (.map #[] 0))
 refine⟨k.l,k.o,k.be,k.n,k.a,fun x hx=>?_,k.t⟩
 injection hx with hx;subst hx;exact⟨FM.made _ _,h.be.size⟩
theorem OP13.var_ (h:OP13 w0 w lb ob V S T cl nd9 gn ga wb none):OP13 w0 (w.alloc (.cells #[I 0,I 0,I 0,.slice none 0 0,.slice none 0 0,.map none,.slice none 0 0] 67)) lb ob V S T cl nd9 gn ga wb (some w.heap.size):=by
 have k:=h.below ((Below.refl _ _).alloc (Nat.le_refl _) (.cells #[I 0,I 0,I 0,.slice none 0 0,.slice none 0 0,.map none,.slice none 0 0] 67))
 refine⟨k.l,k.o,k.be,fun x hx=>⟨(k.n x hx).1,(k.n x hx).2.1,fun y hy=>?_⟩,fun x hx=>⟨(k.a x hx).1,(k.a x hx).2.1,fun y hy=>?_⟩,k.m,fun x hx=>?_⟩
 . injection hy with hy;have:=(h.n x hx).1.1;omega
 . injection hy with hy;have:=(h.a x hx).1.1;omega
 . injection hx with hx
   subst hx
   exact⟨Blk.new _ _ _,h.be.size,by have:=h.o.lt;omega⟩
theorem OP13.fin {gn ga wb tb cn9 cb:Nat}(h:OP13 w0 w lb ob V S T cl nd9 (some gn) (some ga) (some wb) (some tb))(hg:w0.heap.size<=ob):
 OS13 w0 (w.setCells tb 0 [I V,I S,I T,I3 (I1 gn 0) cl cn9,I3 (I1 cb 0) cl cc,.map (some wb),I3 (I1 ga 0) nd9 ca]) ob tb ⟨V,S,T,gn,cl,cn9,cb,cl,cc,wb,ga,nd9,ca⟩ 0 (fun _ _=>False)/\Blk (w.setCells tb 0 [I V,I S,I T,I3 (I1 gn 0) cl cn9,I3 (I1 cb 0) cl cc,.map (some wb),I3 (I1 ga 0) nd9 ca]) lb 63 #[I V,I S,I T]:=by
 obtain⟨n1,n2,n3⟩:=h.n _ rfl;obtain⟨a1,a2,a3⟩:=h.a _ rfl;obtain⟨m1,m2⟩:=h.m _ rfl;obtain⟨t1,t2,t3⟩:=h.t _ rfl
 exact⟨QnN (b:=⟨V,S,T,gn,cl,cn9,cb,cl,cc,wb,ga,nd9,ca⟩) h.o t1 n1 a1 m1 h.be hg t2 m2 (n3 _ rfl) (a3 _ rfl) t3 n2 a2,Qoh h.l t1 (by decide)⟩
end
def Gf (f:Nat->Nm)(n:Nat)(key val:Value):Prop:=∃ j,j<n/\key=nmV (f j)/\val=I ((j:Nat):Int)
def KO13 (w0:World)(ob tb:Nat)(b:BkV)(f:Nat->Nm)(i:Value)(W:World):Prop:=∃ k,k<=b.nn/\i=I ((k:Nat):Int)/\OS13 w0 W ob tb b k (Gf f k)/\∀ k,k<b.nn->NmAt W b.gn k (f k)
theorem NmAt.kept {x k:Nat}{m:Nm}(h:NmAt w x k m)(hb:w'.heap[x]?=w.heap[x]?):NmAt w' x k m:=⟨(QJ hb).trans h.1,(QJ hb).trans h.2.1,(QJ hb).trans h.2.2.1,(QJ hb).trans h.2.2.2⟩
theorem FM.iff13 {ky:TypeId}{wb:Nat}{G G':Value->Value->Prop}(h:FM ky w wb n G)(e:∀ x u,G' x u↔G x u):FM ky w wb n G':=by
 obtain⟨es,clock,h1,h2,h3,h4,h5⟩:=h
 exact⟨es,clock,h1,h2,h3,h4,fun x u=>(e x u).trans (h5 x u)⟩
theorem FM.ne_cell {ky:TypeId}{wb i o:Nat}{G:Value->Value->Prop}{v:Value}(h:FM ky w wb n G)(hc:w.cell? (I1 i o)=some v):i≠wb:=by
 rintro rfl;obtain⟨es,clock,h1,_⟩:=h;unfold World.cell? at hc;simp [h1] at hc
theorem Nms.over (h:Nms w P n g)(hn:0<n){ky:TypeId}{wb j:Nat}{G:Value->Value->Prop}(hM:FM ky w wb j G)(hg:w.grownBy w' (some wb)):Nms w' P n g:=by
 refine h.keep (hg.block g h.1 fun e=>?_)
 obtain⟨f,h2⟩:=h.2;injection e with e;exact hM.ne_cell (h2 0 hn).1.1 e
theorem OS13.map_ {G G':Value->Value->Prop}{j:Nat}(h:OS13 w0 w ob tb b n G)(hM:FM 114 w b.wb j G'):OS13 w0 w ob tb b j G':=⟨h.o,h.bb,h.nm,h.al,hM,h.be,h.ge,h.no⟩
theorem OS13.drew {G:Value->Value->Prop}(h:OS13 w0 w ob tb b n G):OS13 w0 w.drew ob tb b n G:=by
 have hd:Below w.heap.size w w.drew:=(Below.refl _ _).drew;exact⟨h.o.below hd h.o.lt,h.bb.below hd,h.nm.below hd,h.al.below hd,h.fm.keep (hd.block _ h.fm.lt),h.be.trans (hd.mono h.be.size),h.ge,h.no⟩
theorem OS13.grown {G G':Value->Value->Prop}{j:Nat}(h:OS13 w0 w ob tb b n G)(h1:0<b.nn)(h2:0<b.na)(hM:FM 114 w' b.wb j G')(hg:w.grownBy w' (some b.wb)):OS13 w0 w' ob tb b j G':=by
 have key:∀ {i:Nat} {ty:TypeId} {cs:Array Value},Blk w i ty cs->Blk w' i ty cs:=fun {i ty cs} hi=>(hg.block i hi.lt fun e=>by
  injection e with e;exact h.fm.ne_blk hi e.symm).trans hi
 exact⟨key h.o,key h.bb,h.nm.over h1 h.fm hg,h.al.over h2 h.fm hg,hM,h.be.grown hg h.be.size (fun r hr=>by injection hr with hr;have:=h.ge.2.2;omega),h.ge,h.no⟩
theorem Ql4 {cl k:Nat}{f:Nat->Nm}(hC:∀ k,k<cl->Qf V S T (f k) k)(hk:k<cl)(x u:Value):Gf f (k+1) x u↔(x=nmV (f k)/\u=I ((k:Nat):Int))\/(x≠nmV (f k)/\Gf f k x u):=by
 constructor
 . rintro⟨j,hj,rfl,rfl⟩
   by_cases e:j=k
   . subst e;exact .inl ⟨rfl,rfl⟩
   . refine .inr ⟨fun h=>?_,j,by omega,rfl,rfl⟩
     have h1:=Qeo (hC j (by omega))
     have h2:=Qeo (hC k hk);rw[QlP h] at h1;omega
 . rintro(⟨rfl,rfl⟩|⟨_,j,hj,rfl,rfl⟩)
   . exact⟨k,by omega,rfl,rfl⟩
   . exact⟨j,by omega,rfl,rfl⟩
theorem Qm6 {cl gn cn9 cb cc wb ga nd9 ca:Nat}{f:Nat->Nm}{cv:Nat->Int}(hR:Rt V S T)(hcl:(cl:Int)=cn V S T)(hnd:(nd V S).toNat=nd9)(hcs:∀ k,k<cl->w0.cell? (I1 cb k)=some (I2 (cv k)))(hcb:cb<w0.heap.size)(hrg:∀ k,0<=cv k/\cv k<=18446744073709551615)(hcp:cl<=16384)(hC:∀ k,k<cl->Qf V S T (f k) k)
 (h:OS13 w0 w ob tb ⟨V,S,T,gn,cl,cn9,cb,cl,cc,wb,ga,nd9,ca⟩ cl (Gf f cl)):
 Bk (w.setCells ob 0 [I V,I S,I T,I3 (I1 gn 0) cl cn9,I3 (I1 cb 0) cl cc,.map (some wb),I3 (I1 ga 0) nd9 ca]) ⟨V,S,T,gn,cl,cn9,cb,cl,cc,wb,ga,nd9,ca⟩ cv/\
 Below w0.heap.size w0 (w.setCells ob 0 [I V,I S,I T,I3 (I1 gn 0) cl cn9,I3 (I1 cb 0) cl cc,.map (some wb),I3 (I1 ga 0) nd9 ca])/\
 Blk (w.setCells ob 0 [I V,I S,I T,I3 (I1 gn 0) cl cn9,I3 (I1 cb 0) cl cc,.map (some wb),I3 (I1 ga 0) nd9 ca]) ob 67 #[I V,I S,I T,I3 (I1 gn 0) cl cn9,I3 (I1 cb 0) cl cc,.map (some wb),I3 (I1 ga 0) nd9 ca]/\w0.heap.size<=ga:=by
 show Bk (((((((w.setCell (I1 ob 0) (I V)).setCell (I1 ob 1) (I S)).setCell (I1 ob 2) (I T)).setCell (I1 ob 3) (I3 (I1 gn 0) cl cn9)).setCell (I1 ob 4) (I3 (I1 cb 0) cl cc)).setCell (I1 ob 5) (.map (some wb))).setCell (I1 ob 6) (I3 (I1 ga 0) nd9 ca)) ⟨V,S,T,gn,cl,cn9,cb,cl,cc,wb,ga,nd9,ca⟩ cv/\
  Below w0.heap.size w0 (((((((w.setCell (I1 ob 0) (I V)).setCell (I1 ob 1) (I S)).setCell (I1 ob 2) (I T)).setCell (I1 ob 3) (I3 (I1 gn 0) cl cn9)).setCell (I1 ob 4) (I3 (I1 cb 0) cl cc)).setCell (I1 ob 5) (.map (some wb))).setCell (I1 ob 6) (I3 (I1 ga 0) nd9 ca))/\
  Blk (((((((w.setCell (I1 ob 0) (I V)).setCell (I1 ob 1) (I S)).setCell (I1 ob 2) (I T)).setCell (I1 ob 3) (I3 (I1 gn 0) cl cn9)).setCell (I1 ob 4) (I3 (I1 cb 0) cl cc)).setCell (I1 ob 5) (.map (some wb))).setCell (I1 ob 6) (I3 (I1 ga 0) nd9 ca)) ob 67 #[I V,I S,I T,I3 (I1 gn 0) cl cn9,I3 (I1 cb 0) cl cc,.map (some wb),I3 (I1 ga 0) nd9 ca]/\w0.heap.size<=ga
 obtain⟨hO,hB,hN,hA,hM,hbe,⟨g1,_,_⟩,n1,n2⟩:=h;dsimp only at hN hA hM n1 n2
 have hk:∀ (W:World) (i j:Nat) (u:Value),i≠ob->(W.setCell (I1 ob j) u).heap[i]?=W.heap[i]?:=fun W i j u h=>Below.heap_setCell W (I1 ob j) u i (fun e=>h (by rw[e]))
 have hall:∀ i,i≠ob->(((((((w.setCell (I1 ob 0) (I V)).setCell (I1 ob 1) (I S)).setCell (I1 ob 2) (I T)).setCell (I1 ob 3) (I3 (I1 gn 0) cl cn9)).setCell (I1 ob 4) (I3 (I1 cb 0) cl cc)).setCell (I1 ob 5) (.map (some wb))).setCell (I1 ob 6) (I3 (I1 ga 0) nd9 ca)).heap[i]?=w.heap[i]?:=fun i h=>by
  rw[hk _ _ _ _ h,hk _ _ _ _ h,hk _ _ _ _ h,hk _ _ _ _ h,hk _ _ _ _ h,hk _ _ _ _ h,hk _ _ _ _ h]
 have hbb:=((((((hbe.setCell (p:=(I1 ob 0)) g1 (I V)).setCell (p:=(I1 ob 1)) g1 (I S)).setCell (p:=(I1 ob 2)) g1 (I T)).setCell (p:=(I1 ob 3)) g1 (I3 (I1 gn 0) cl cn9)).setCell (p:=(I1 ob 4)) g1 (I3 (I1 cb 0) cl cc)).setCell (p:=(I1 ob 5)) g1 (.map (some wb))).setCell (p:=(I1 ob 6)) g1 (I3 (I1 ga 0) nd9 ca);have t0:Blk (w.setCell (I1 ob 0) (I V)) ob 67 #[I V,I 0,I 0,.slice none 0 0,.slice none 0 0,.map none,.slice none 0 0]:=hO.set_ 0 _;have t1:Blk ((w.setCell (I1 ob 0) (I V)).setCell (I1 ob 1) (I S)) ob 67 #[I V,I S,I 0,.slice none 0 0,.slice none 0 0,.map none,.slice none 0 0]:=t0.set_ 1 _;have t2:Blk (((w.setCell (I1 ob 0) (I V)).setCell (I1 ob 1) (I S)).setCell (I1 ob 2) (I T)) ob 67 #[I V,I S,I T,.slice none 0 0,.slice none 0 0,.map none,.slice none 0 0]:=t1.set_ 2 _;have t3:Blk ((((w.setCell (I1 ob 0) (I V)).setCell (I1 ob 1) (I S)).setCell (I1 ob 2) (I T)).setCell (I1 ob 3) (I3 (I1 gn 0) cl cn9)) ob 67 #[I V,I S,I T,I3 (I1 gn 0) cl cn9,.slice none 0 0,.map none,.slice none 0 0]:=t2.set_ 3 _;have t4:Blk (((((w.setCell (I1 ob 0) (I V)).setCell (I1 ob 1) (I S)).setCell (I1 ob 2) (I T)).setCell (I1 ob 3) (I3 (I1 gn 0) cl cn9)).setCell (I1 ob 4) (I3 (I1 cb 0) cl cc)) ob 67 #[I V,I S,I T,I3 (I1 gn 0) cl cn9,I3 (I1 cb 0) cl cc,.map none,.slice none 0 0]:=t3.set_ 4 _;have t5:Blk ((((((w.setCell (I1 ob 0) (I V)).setCell (I1 ob 1) (I S)).setCell (I1 ob 2) (I T)).setCell (I1 ob 3) (I3 (I1 gn 0) cl cn9)).setCell (I1 ob 4) (I3 (I1 cb 0) cl cc)).setCell (I1 ob 5) (.map (some wb))) ob 67 #[I V,I S,I T,I3 (I1 gn 0) cl cn9,I3 (I1 cb 0) cl cc,.map (some wb),.slice none 0 0]:=t4.set_ 5 _;have t6:Blk (((((((w.setCell (I1 ob 0) (I V)).setCell (I1 ob 1) (I S)).setCell (I1 ob 2) (I T)).setCell (I1 ob 3) (I3 (I1 gn 0) cl cn9)).setCell (I1 ob 4) (I3 (I1 cb 0) cl cc)).setCell (I1 ob 5) (.map (some wb))).setCell (I1 ob 6) (I3 (I1 ga 0) nd9 ca)) ob 67 #[I V,I S,I T,I3 (I1 gn 0) cl cn9,I3 (I1 cb 0) cl cc,.map (some wb),I3 (I1 ga 0) nd9 ca]:=t5.set_ 6 _;have hA2:=hA.keep (hall _ n2.1)
 refine⟨⟨hR,hcl,hnd.symm,?_,fun k hk=>Qi hbb (hcs k hk),fun k hk=>?_,⟨Nat.lt_of_lt_of_le hcb hbb.size,hA2.1⟩,hrg,hcp⟩,hbb,t6,n2.2⟩
 . refine(hM.keep (hall _ (hM.ne_blk hO))).iff13 fun x u=>⟨?_,?_⟩
   . rintro⟨m,k,hk,hc,rfl,rfl⟩
     have hk:(k:Int)<cn V S T:=hk
     have hk2:k<cl:=by omega
     exact⟨k,hk2,by rw[Qgo hR hc (hC k hk2)],rfl⟩
   . rintro⟨j,hj,rfl,rfl⟩
     exact⟨f j,j,(by omega:(j:Int)<cn V S T),hC j hj,rfl,rfl⟩
 . obtain⟨_,f2,h2⟩:=hA2
   exact⟨f2 k,h2 k hk⟩
set_option maxHeartbeats 16000000 in
theorem Qj3 {cb cl cc:Nat}{cv:Nat->Int}(hR:Rt V S T)(hcl:(cl:Int)=cn V S T)(hcs:∀ k,k<cl->w.cell? (I1 cb k)=some (I2 (cv k)))(hcb:cb<w.heap.size)(hrg:∀ k,0<=cv k/\cv k<=18446744073709551615)(hcp:cl<=16384):
 Calls Tryz.prog 50 #[vL V S T,I3 (I1 cb 0) cl cc] w fun e w'=>∃ b:BkV,e=.returned (vB b)/\Bk w' b cv/\b.V=V/\b.S=S/\b.T=T/\Below w.heap.size w w'/\w.heap.size<=b.ga/\b.cb=cb:=by
 have HR:=q9 hR;have HCL:=q9 hcl;have HCS:=q9 hcs;have HCB:=q9 hcb;have HRG:=q9 hrg;have HCP:=q9 hcp
 have hcn:(cn V S T).toNat=cl:=by omega
 have HCN:=q9 hcn;obtain⟨nd9,hnd⟩:∃ k,(nd V S).toNat=k:=⟨_,rfl⟩;have HND:=q9 hnd;have hrc:=Qhj V S T hR;rw[hcn] at hrc;have hrn:=QcR V S T hR;rw[hnd] at hrn;have HRC:=q9 hrc;have HRN:=q9 hrn
 have clI:(cl:Int)<=16384:=by omega
 have HL1:Hid (Blk ((w.alloc (.cells #[I V,I S,I T] 63)).alloc (.cells #[I 0,I 0,I 0,.slice none 0 0,.slice none 0 0,.map none,.slice none 0 0] 67)) w.heap.size 63 #[I V,I S,I T]):=q9 ((Blk.new w _ _).alloc _);have HO1:Hid (Blk ((w.alloc (.cells #[I V,I S,I T] 63)).alloc (.cells #[I 0,I 0,I 0,.slice none 0 0,.slice none 0 0,.map none,.slice none 0 0] 67)) (w.alloc (.cells #[I V,I S,I T] 63)).heap.size 67 #[I 0,I 0,I 0,.slice none 0 0,.slice none 0 0,.map none,.slice none 0 0]):=q9 (Blk.new _ _ _)
 have HB1:Hid (Below w.heap.size w ((w.alloc (.cells #[I V,I S,I T] 63)).alloc (.cells #[I 0,I 0,I 0,.slice none 0 0,.slice none 0 0,.map none,.slice none 0 0] 67))):=q9 (((Below.refl _ _).alloc (Nat.le_refl _) _).alloc (by simp) _)
 have hs1:(w.alloc (.cells #[I V,I S,I T] 63)).heap.size=w.heap.size+1:=by simp
 rw[hs1] at HO1;have HG1:Hid (w.heap.size<=w.heap.size+1):=q9 (Nat.le_succ _);clear hR hcl hcs hcb hrg hcp hcn hnd hrc hrn hs1
 go_enter Tryz.func50,Tryz.ntmps50
 go_upto_region 1 with fail
 generalize (w.alloc (.cells #[I V,I S,I T] 63)).alloc (.cells #[I 0,I 0,I 0,.slice none 0 0,.slice none 0 0,.map none,.slice none 0 0] 67)=w1 at HL1 HO1 HB1 |-;generalize w.heap.size+1=ob at HO1 HG1 |-;obtain⟨lb,hlb⟩:∃ k,w.heap.size=k:=⟨_,rfl⟩;rw[hlb] at HL1 |-;have HLB:=q9 hlb;clear hlb
 go_cut [5] from 7 to 14 (fun s wx=>∃ tb gn cn9 wb ga ca,s=.pointer (some (I1 tb 0))/\OS13 w wx ob tb ⟨V,S,T,gn,cl,cn9,cb,cl,cc,wb,ga,nd9,ca⟩ 0 fun _ _=>False)
 case first=>
  have HP:=q9 (OP13.below (gn:=none) (ga:=none) (wb:=none) (t9:=none) (cl:=cl) (nd9:=nd9) ⟨HL1.out,HO1.out,HB1.out,fun _ h=>(nomatch h),fun _ h=>(nomatch h),fun _ h=>(nomatch h),fun _ h=>(nomatch h)⟩ ((Below.refl _ _).drew:Below w1.heap.size w1 w1.drew))
  clear HL1 HO1 HB1;have hrule:=Qgd lb V S T;have hmm:=@run_makeMap Tryz.prog
  refine wp_region_held_drew (S:=(fun W=>Blk W lb 63 #[I V,I S,I T])) (by kernel_rfl) ?_ (fun hHeld=>?_)
  . exact HP.l
  generalize w1.drew=v0 at HP hHeld |-;refine q9N 0 rfl ?_
  refine q9N 1 rfl ?_
  refine q9N 3 rfl ?_
  refine q9N 5 rfl ?_
  refine wpAnyH_ready (rs:=[2,4,8]) (by kernel_rfl) (by simp) ?_
  refine AllReadyH.cons rfl (fun K hK=>?_) ?_
  rotate_left
  ·
   refine AllReadyH.cons rfl (fun K hK=>?_) ?_
   rotate_left
   ·
    refine AllReadyH.cons rfl (fun K hK=>?_) ?_
    rotate_left
    . exact AllReadyH.nil
    go_simp
    have HP:=q9 HP.var_;generalize v0.alloc (.cells #[I 0,I 0,I 0,.slice none 0 0,.slice none 0 0,.map none,.slice none 0 0] 67)=w8 at HP |-;generalize v0.heap.size=tb at HP |-
    refine hK.out _ _ ?_ (fun hHeld=>?_)
    . (try dsimp only);exact HP.l
    clear hK K;try simp only[Act.put,q98]
    refine wpAnyH_ready (rs:=[2,4]) (by kernel_rfl) (by simp) ?_
    refine AllReadyH.cons rfl (fun K hK=>?_) ?_
    rotate_left
    ·
     refine AllReadyH.cons rfl (fun K hK=>?_) ?_
     rotate_left
     . exact AllReadyH.nil
     go_simp
     have HP:=q9 HP.map_;generalize w8.alloc (.map #[] 0)=w5 at HP |-;generalize w8.heap.size=wb at HP |-
     refine hK.out _ _ ?_ (fun hHeld=>?_)
     . (try dsimp only);exact HP.l
     clear hK K;try simp only[Act.put,q98]
     refine q9R 2 rfl fun K hK=>?_
     go_simp
     refine(HRC _).mono ?_;rintro e w4 ⟨gn,cn9,f,rfl,hle,hge,hlt,hf,bc⟩;have HP:=q9 (HP.cells_ hge hlt hf bc);clear hle hge hlt hf bc;go_wp2_with fail
     refine hK.out _ _ ?_ (fun hHeld=>?_)
     . (try dsimp only);exact HP.l
     clear hK K;try simp only[Act.put,q98]
     refine q9R 6 rfl fun K hK=>?_
     go_simp
     refine(HRN _).mono ?_;rintro e w6 ⟨ga,ca,f,rfl,hle,hge,hlt,hf,bc⟩;have HP:=q9 (HP.nodes_ hge hlt hf bc);clear hle hge hlt hf bc;go_wp2_with fail
     refine hK.out _ _ ?_ (fun hHeld=>?_)
     . (try dsimp only);exact HP.l
     clear hK K;try simp only[Act.put,q98]
     refine q9N 7 rfl ?_
     refine q9R 9 rfl fun K hK=>?_
     have HTH:=q9 (Qw (HP.t tb rfl).1 (m:=7) rfl)
     refine Qk (by rfl) 67 _ _ (by rfl) tb [I V,I S,I T,I3 (I1 gn 0) cl cn9,I3 (I1 cb 0) cl cc,.map (some wb),I3 (I1 ga 0) nd9 ca] (by rfl) (by rfl) HTH (by kernel_rfl) (by rfl) ?_
     have HOS:=q9 (HP.fin (cn9:=cn9) (cb:=cb) (cc:=cc) (ca:=ca) HG1.out)
     refine hK.out _ _ ?_ (fun hHeld=>?_)
     . (try dsimp only);exact HOS.2
     clear hK K;try simp only[Act.put]
     refine wpAnyH_done (by kernel_rfl) ?_ _
     clear hHeld HP HTH hrule hmm;go_wp2_with fail
     go_meet
     exact⟨tb,gn,cn9,wb,ga,ca,rfl,HOS.1⟩
    go_simp
    refine(HRC _).mono ?_;rintro e w4 ⟨gn,cn9,f,rfl,hle,hge,hlt,hf,bc⟩;have HP:=q9 (HP.cells_ hge hlt hf bc);clear hle hge hlt hf bc;go_wp2_with fail
    refine hK.out _ _ ?_ (fun hHeld=>?_)
    . (try dsimp only);exact HP.l
    clear hK K;try simp only[Act.put,q98]
    refine wpAnyH_ready (rs:=[4,6]) (by kernel_rfl) (by simp) ?_
    refine AllReadyH.cons rfl (fun K hK=>?_) ?_
    rotate_left
    ·
     refine AllReadyH.cons rfl (fun K hK=>?_) ?_
     rotate_left
     . exact AllReadyH.nil
     go_simp
     refine(HRN _).mono ?_;rintro e w6 ⟨ga,ca,f,rfl,hle,hge,hlt,hf,bc⟩;have HP:=q9 (HP.nodes_ hge hlt hf bc);clear hle hge hlt hf bc;go_wp2_with fail
     refine hK.out _ _ ?_ (fun hHeld=>?_)
     . (try dsimp only);exact HP.l
     clear hK K;try simp only[Act.put,q98]
     refine q9R 4 rfl fun K hK=>?_
     go_simp
     have HP:=q9 HP.map_;generalize w6.alloc (.map #[] 0)=w5 at HP |-;generalize w6.heap.size=wb at HP |-
     refine hK.out _ _ ?_ (fun hHeld=>?_)
     . (try dsimp only);exact HP.l
     clear hK K;try simp only[Act.put,q98]
     refine q9N 7 rfl ?_
     refine q9R 9 rfl fun K hK=>?_
     have HTH:=q9 (Qw (HP.t tb rfl).1 (m:=7) rfl)
     refine Qk (by rfl) 67 _ _ (by rfl) tb [I V,I S,I T,I3 (I1 gn 0) cl cn9,I3 (I1 cb 0) cl cc,.map (some wb),I3 (I1 ga 0) nd9 ca] (by rfl) (by rfl) HTH (by kernel_rfl) (by rfl) ?_
     have HOS:=q9 (HP.fin (cn9:=cn9) (cb:=cb) (cc:=cc) (ca:=ca) HG1.out)
     refine hK.out _ _ ?_ (fun hHeld=>?_)
     . (try dsimp only);exact HOS.2
     clear hK K;try simp only[Act.put]
     refine wpAnyH_done (by kernel_rfl) ?_ _
     clear hHeld HP HTH hrule hmm;go_wp2_with fail
     go_meet
     exact⟨tb,gn,cn9,wb,ga,ca,rfl,HOS.1⟩
    go_simp
    have HP:=q9 HP.map_;generalize w4.alloc (.map #[] 0)=w5 at HP |-;generalize w4.heap.size=wb at HP |-
    refine hK.out _ _ ?_ (fun hHeld=>?_)
    . (try dsimp only);exact HP.l
    clear hK K;try simp only[Act.put,q98]
    refine q9R 6 rfl fun K hK=>?_
    go_simp
    refine(HRN _).mono ?_;rintro e w6 ⟨ga,ca,f,rfl,hle,hge,hlt,hf,bc⟩;have HP:=q9 (HP.nodes_ hge hlt hf bc);clear hle hge hlt hf bc;go_wp2_with fail
    refine hK.out _ _ ?_ (fun hHeld=>?_)
    . (try dsimp only);exact HP.l
    clear hK K;try simp only[Act.put,q98]
    refine q9N 7 rfl ?_
    refine q9R 9 rfl fun K hK=>?_
    have HTH:=q9 (Qw (HP.t tb rfl).1 (m:=7) rfl)
    refine Qk (by rfl) 67 _ _ (by rfl) tb [I V,I S,I T,I3 (I1 gn 0) cl cn9,I3 (I1 cb 0) cl cc,.map (some wb),I3 (I1 ga 0) nd9 ca] (by rfl) (by rfl) HTH (by kernel_rfl) (by rfl) ?_
    have HOS:=q9 (HP.fin (cn9:=cn9) (cb:=cb) (cc:=cc) (ca:=ca) HG1.out)
    refine hK.out _ _ ?_ (fun hHeld=>?_)
    . (try dsimp only);exact HOS.2
    clear hK K;try simp only[Act.put]
    refine wpAnyH_done (by kernel_rfl) ?_ _
    clear hHeld HP HTH hrule hmm;go_wp2_with fail
    go_meet
    exact⟨tb,gn,cn9,wb,ga,ca,rfl,HOS.1⟩
   go_simp
   have HP:=q9 HP.map_;generalize v0.alloc (.map #[] 0)=w5 at HP |-;generalize v0.heap.size=wb at HP |-
   refine hK.out _ _ ?_ (fun hHeld=>?_)
   . (try dsimp only);exact HP.l
   clear hK K;try simp only[Act.put,q98]
   refine wpAnyH_ready (rs:=[2,8]) (by kernel_rfl) (by simp) ?_
   refine AllReadyH.cons rfl (fun K hK=>?_) ?_
   rotate_left
   ·
    refine AllReadyH.cons rfl (fun K hK=>?_) ?_
    rotate_left
    . exact AllReadyH.nil
    go_simp
    have HP:=q9 HP.var_;generalize w5.alloc (.cells #[I 0,I 0,I 0,.slice none 0 0,.slice none 0 0,.map none,.slice none 0 0] 67)=w8 at HP |-;generalize w5.heap.size=tb at HP |-
    refine hK.out _ _ ?_ (fun hHeld=>?_)
    . (try dsimp only);exact HP.l
    clear hK K;try simp only[Act.put,q98]
    refine q9R 2 rfl fun K hK=>?_
    go_simp
    refine(HRC _).mono ?_;rintro e w4 ⟨gn,cn9,f,rfl,hle,hge,hlt,hf,bc⟩;have HP:=q9 (HP.cells_ hge hlt hf bc);clear hle hge hlt hf bc;go_wp2_with fail
    refine hK.out _ _ ?_ (fun hHeld=>?_)
    . (try dsimp only);exact HP.l
    clear hK K;try simp only[Act.put,q98]
    refine q9R 6 rfl fun K hK=>?_
    go_simp
    refine(HRN _).mono ?_;rintro e w6 ⟨ga,ca,f,rfl,hle,hge,hlt,hf,bc⟩;have HP:=q9 (HP.nodes_ hge hlt hf bc);clear hle hge hlt hf bc;go_wp2_with fail
    refine hK.out _ _ ?_ (fun hHeld=>?_)
    . (try dsimp only);exact HP.l
    clear hK K;try simp only[Act.put,q98]
    refine q9N 7 rfl ?_
    refine q9R 9 rfl fun K hK=>?_
    have HTH:=q9 (Qw (HP.t tb rfl).1 (m:=7) rfl)
    refine Qk (by rfl) 67 _ _ (by rfl) tb [I V,I S,I T,I3 (I1 gn 0) cl cn9,I3 (I1 cb 0) cl cc,.map (some wb),I3 (I1 ga 0) nd9 ca] (by rfl) (by rfl) HTH (by kernel_rfl) (by rfl) ?_
    have HOS:=q9 (HP.fin (cn9:=cn9) (cb:=cb) (cc:=cc) (ca:=ca) HG1.out)
    refine hK.out _ _ ?_ (fun hHeld=>?_)
    . (try dsimp only);exact HOS.2
    clear hK K;try simp only[Act.put]
    refine wpAnyH_done (by kernel_rfl) ?_ _
    clear hHeld HP HTH hrule hmm;go_wp2_with fail
    go_meet
    exact⟨tb,gn,cn9,wb,ga,ca,rfl,HOS.1⟩
   go_simp
   refine(HRC _).mono ?_;rintro e w4 ⟨gn,cn9,f,rfl,hle,hge,hlt,hf,bc⟩;have HP:=q9 (HP.cells_ hge hlt hf bc);clear hle hge hlt hf bc;go_wp2_with fail
   refine hK.out _ _ ?_ (fun hHeld=>?_)
   . (try dsimp only);exact HP.l
   clear hK K;try simp only[Act.put,q98]
   refine wpAnyH_ready (rs:=[6,8]) (by kernel_rfl) (by simp) ?_
   refine AllReadyH.cons rfl (fun K hK=>?_) ?_
   rotate_left
   ·
    refine AllReadyH.cons rfl (fun K hK=>?_) ?_
    rotate_left
    . exact AllReadyH.nil
    go_simp
    have HP:=q9 HP.var_;generalize w4.alloc (.cells #[I 0,I 0,I 0,.slice none 0 0,.slice none 0 0,.map none,.slice none 0 0] 67)=w8 at HP |-;generalize w4.heap.size=tb at HP |-
    refine hK.out _ _ ?_ (fun hHeld=>?_)
    . (try dsimp only);exact HP.l
    clear hK K;try simp only[Act.put,q98]
    refine q9R 6 rfl fun K hK=>?_
    go_simp
    refine(HRN _).mono ?_;rintro e w6 ⟨ga,ca,f,rfl,hle,hge,hlt,hf,bc⟩;have HP:=q9 (HP.nodes_ hge hlt hf bc);clear hle hge hlt hf bc;go_wp2_with fail
    refine hK.out _ _ ?_ (fun hHeld=>?_)
    . (try dsimp only);exact HP.l
    clear hK K;try simp only[Act.put,q98]
    refine q9N 7 rfl ?_
    refine q9R 9 rfl fun K hK=>?_
    have HTH:=q9 (Qw (HP.t tb rfl).1 (m:=7) rfl)
    refine Qk (by rfl) 67 _ _ (by rfl) tb [I V,I S,I T,I3 (I1 gn 0) cl cn9,I3 (I1 cb 0) cl cc,.map (some wb),I3 (I1 ga 0) nd9 ca] (by rfl) (by rfl) HTH (by kernel_rfl) (by rfl) ?_
    have HOS:=q9 (HP.fin (cn9:=cn9) (cb:=cb) (cc:=cc) (ca:=ca) HG1.out)
    refine hK.out _ _ ?_ (fun hHeld=>?_)
    . (try dsimp only);exact HOS.2
    clear hK K;try simp only[Act.put]
    refine wpAnyH_done (by kernel_rfl) ?_ _
    clear hHeld HP HTH hrule hmm;go_wp2_with fail
    go_meet
    exact⟨tb,gn,cn9,wb,ga,ca,rfl,HOS.1⟩
   go_simp
   refine(HRN _).mono ?_;rintro e w6 ⟨ga,ca,f,rfl,hle,hge,hlt,hf,bc⟩;have HP:=q9 (HP.nodes_ hge hlt hf bc);clear hle hge hlt hf bc;go_wp2_with fail
   refine hK.out _ _ ?_ (fun hHeld=>?_)
   . (try dsimp only);exact HP.l
   clear hK K;try simp only[Act.put,q98]
   refine q9N 7 rfl ?_
   refine q9R 8 rfl fun K hK=>?_
   go_simp
   have HP:=q9 HP.var_;generalize w6.alloc (.cells #[I 0,I 0,I 0,.slice none 0 0,.slice none 0 0,.map none,.slice none 0 0] 67)=w8 at HP |-;generalize w6.heap.size=tb at HP |-
   refine hK.out _ _ ?_ (fun hHeld=>?_)
   . (try dsimp only);exact HP.l
   clear hK K;try simp only[Act.put,q98]
   refine q9R 9 rfl fun K hK=>?_
   have HTH:=q9 (Qw (HP.t tb rfl).1 (m:=7) rfl)
   refine Qk (by rfl) 67 _ _ (by rfl) tb [I V,I S,I T,I3 (I1 gn 0) cl cn9,I3 (I1 cb 0) cl cc,.map (some wb),I3 (I1 ga 0) nd9 ca] (by rfl) (by rfl) HTH (by kernel_rfl) (by rfl) ?_
   have HOS:=q9 (HP.fin (cn9:=cn9) (cb:=cb) (cc:=cc) (ca:=ca) HG1.out)
   refine hK.out _ _ ?_ (fun hHeld=>?_)
   . (try dsimp only);exact HOS.2
   clear hK K;try simp only[Act.put]
   refine wpAnyH_done (by kernel_rfl) ?_ _
   clear hHeld HP HTH hrule hmm;go_wp2_with fail
   go_meet
   exact⟨tb,gn,cn9,wb,ga,ca,rfl,HOS.1⟩
  go_simp
  refine(HRC _).mono ?_;rintro e w4 ⟨gn,cn9,f,rfl,hle,hge,hlt,hf,bc⟩;have HP:=q9 (HP.cells_ hge hlt hf bc);clear hle hge hlt hf bc;go_wp2_with fail
  refine hK.out _ _ ?_ (fun hHeld=>?_)
  . (try dsimp only);exact HP.l
  clear hK K;try simp only[Act.put,q98]
  refine wpAnyH_ready (rs:=[4,6,8]) (by kernel_rfl) (by simp) ?_
  refine AllReadyH.cons rfl (fun K hK=>?_) ?_
  rotate_left
  ·
   refine AllReadyH.cons rfl (fun K hK=>?_) ?_
   rotate_left
   ·
    refine AllReadyH.cons rfl (fun K hK=>?_) ?_
    rotate_left
    . exact AllReadyH.nil
    go_simp
    have HP:=q9 HP.var_;generalize w4.alloc (.cells #[I 0,I 0,I 0,.slice none 0 0,.slice none 0 0,.map none,.slice none 0 0] 67)=w8 at HP |-;generalize w4.heap.size=tb at HP |-
    refine hK.out _ _ ?_ (fun hHeld=>?_)
    . (try dsimp only);exact HP.l
    clear hK K;try simp only[Act.put,q98]
    refine wpAnyH_ready (rs:=[4,6]) (by kernel_rfl) (by simp) ?_
    refine AllReadyH.cons rfl (fun K hK=>?_) ?_
    rotate_left
    ·
     refine AllReadyH.cons rfl (fun K hK=>?_) ?_
     rotate_left
     . exact AllReadyH.nil
     go_simp
     refine(HRN _).mono ?_;rintro e w6 ⟨ga,ca,f,rfl,hle,hge,hlt,hf,bc⟩;have HP:=q9 (HP.nodes_ hge hlt hf bc);clear hle hge hlt hf bc;go_wp2_with fail
     refine hK.out _ _ ?_ (fun hHeld=>?_)
     . (try dsimp only);exact HP.l
     clear hK K;try simp only[Act.put,q98]
     refine q9R 4 rfl fun K hK=>?_
     go_simp
     have HP:=q9 HP.map_;generalize w6.alloc (.map #[] 0)=w5 at HP |-;generalize w6.heap.size=wb at HP |-
     refine hK.out _ _ ?_ (fun hHeld=>?_)
     . (try dsimp only);exact HP.l
     clear hK K;try simp only[Act.put,q98]
     refine q9N 7 rfl ?_
     refine q9R 9 rfl fun K hK=>?_
     have HTH:=q9 (Qw (HP.t tb rfl).1 (m:=7) rfl)
     refine Qk (by rfl) 67 _ _ (by rfl) tb [I V,I S,I T,I3 (I1 gn 0) cl cn9,I3 (I1 cb 0) cl cc,.map (some wb),I3 (I1 ga 0) nd9 ca] (by rfl) (by rfl) HTH (by kernel_rfl) (by rfl) ?_
     have HOS:=q9 (HP.fin (cn9:=cn9) (cb:=cb) (cc:=cc) (ca:=ca) HG1.out)
     refine hK.out _ _ ?_ (fun hHeld=>?_)
     . (try dsimp only);exact HOS.2
     clear hK K;try simp only[Act.put]
     refine wpAnyH_done (by kernel_rfl) ?_ _
     clear hHeld HP HTH hrule hmm;go_wp2_with fail
     go_meet
     exact⟨tb,gn,cn9,wb,ga,ca,rfl,HOS.1⟩
    go_simp
    have HP:=q9 HP.map_;generalize w8.alloc (.map #[] 0)=w5 at HP |-;generalize w8.heap.size=wb at HP |-
    refine hK.out _ _ ?_ (fun hHeld=>?_)
    . (try dsimp only);exact HP.l
    clear hK K;try simp only[Act.put,q98]
    refine q9R 6 rfl fun K hK=>?_
    go_simp
    refine(HRN _).mono ?_;rintro e w6 ⟨ga,ca,f,rfl,hle,hge,hlt,hf,bc⟩;have HP:=q9 (HP.nodes_ hge hlt hf bc);clear hle hge hlt hf bc;go_wp2_with fail
    refine hK.out _ _ ?_ (fun hHeld=>?_)
    . (try dsimp only);exact HP.l
    clear hK K;try simp only[Act.put,q98]
    refine q9N 7 rfl ?_
    refine q9R 9 rfl fun K hK=>?_
    have HTH:=q9 (Qw (HP.t tb rfl).1 (m:=7) rfl)
    refine Qk (by rfl) 67 _ _ (by rfl) tb [I V,I S,I T,I3 (I1 gn 0) cl cn9,I3 (I1 cb 0) cl cc,.map (some wb),I3 (I1 ga 0) nd9 ca] (by rfl) (by rfl) HTH (by kernel_rfl) (by rfl) ?_
    have HOS:=q9 (HP.fin (cn9:=cn9) (cb:=cb) (cc:=cc) (ca:=ca) HG1.out)
    refine hK.out _ _ ?_ (fun hHeld=>?_)
    . (try dsimp only);exact HOS.2
    clear hK K;try simp only[Act.put]
    refine wpAnyH_done (by kernel_rfl) ?_ _
    clear hHeld HP HTH hrule hmm;go_wp2_with fail
    go_meet
    exact⟨tb,gn,cn9,wb,ga,ca,rfl,HOS.1⟩
   go_simp
   refine(HRN _).mono ?_;rintro e w6 ⟨ga,ca,f,rfl,hle,hge,hlt,hf,bc⟩;have HP:=q9 (HP.nodes_ hge hlt hf bc);clear hle hge hlt hf bc;go_wp2_with fail
   refine hK.out _ _ ?_ (fun hHeld=>?_)
   . (try dsimp only);exact HP.l
   clear hK K;try simp only[Act.put,q98]
   refine wpAnyH_ready (rs:=[4,8]) (by kernel_rfl) (by simp) ?_
   refine AllReadyH.cons rfl (fun K hK=>?_) ?_
   rotate_left
   ·
    refine AllReadyH.cons rfl (fun K hK=>?_) ?_
    rotate_left
    . exact AllReadyH.nil
    go_simp
    have HP:=q9 HP.var_;generalize w6.alloc (.cells #[I 0,I 0,I 0,.slice none 0 0,.slice none 0 0,.map none,.slice none 0 0] 67)=w8 at HP |-;generalize w6.heap.size=tb at HP |-
    refine hK.out _ _ ?_ (fun hHeld=>?_)
    . (try dsimp only);exact HP.l
    clear hK K;try simp only[Act.put,q98]
    refine q9R 4 rfl fun K hK=>?_
    go_simp
    have HP:=q9 HP.map_;generalize w8.alloc (.map #[] 0)=w5 at HP |-;generalize w8.heap.size=wb at HP |-
    refine hK.out _ _ ?_ (fun hHeld=>?_)
    . (try dsimp only);exact HP.l
    clear hK K;try simp only[Act.put,q98]
    refine q9N 7 rfl ?_
    refine q9R 9 rfl fun K hK=>?_
    have HTH:=q9 (Qw (HP.t tb rfl).1 (m:=7) rfl)
    refine Qk (by rfl) 67 _ _ (by rfl) tb [I V,I S,I T,I3 (I1 gn 0) cl cn9,I3 (I1 cb 0) cl cc,.map (some wb),I3 (I1 ga 0) nd9 ca] (by rfl) (by rfl) HTH (by kernel_rfl) (by rfl) ?_
    have HOS:=q9 (HP.fin (cn9:=cn9) (cb:=cb) (cc:=cc) (ca:=ca) HG1.out)
    refine hK.out _ _ ?_ (fun hHeld=>?_)
    . (try dsimp only);exact HOS.2
    clear hK K;try simp only[Act.put]
    refine wpAnyH_done (by kernel_rfl) ?_ _
    clear hHeld HP HTH hrule hmm;go_wp2_with fail
    go_meet
    exact⟨tb,gn,cn9,wb,ga,ca,rfl,HOS.1⟩
   go_simp
   have HP:=q9 HP.map_;generalize w6.alloc (.map #[] 0)=w5 at HP |-;generalize w6.heap.size=wb at HP |-
   refine hK.out _ _ ?_ (fun hHeld=>?_)
   . (try dsimp only);exact HP.l
   clear hK K;try simp only[Act.put,q98]
   refine q9N 7 rfl ?_
   refine q9R 8 rfl fun K hK=>?_
   go_simp
   have HP:=q9 HP.var_;generalize w5.alloc (.cells #[I 0,I 0,I 0,.slice none 0 0,.slice none 0 0,.map none,.slice none 0 0] 67)=w8 at HP |-;generalize w5.heap.size=tb at HP |-
   refine hK.out _ _ ?_ (fun hHeld=>?_)
   . (try dsimp only);exact HP.l
   clear hK K;try simp only[Act.put,q98]
   refine q9R 9 rfl fun K hK=>?_
   have HTH:=q9 (Qw (HP.t tb rfl).1 (m:=7) rfl)
   refine Qk (by rfl) 67 _ _ (by rfl) tb [I V,I S,I T,I3 (I1 gn 0) cl cn9,I3 (I1 cb 0) cl cc,.map (some wb),I3 (I1 ga 0) nd9 ca] (by rfl) (by rfl) HTH (by kernel_rfl) (by rfl) ?_
   have HOS:=q9 (HP.fin (cn9:=cn9) (cb:=cb) (cc:=cc) (ca:=ca) HG1.out)
   refine hK.out _ _ ?_ (fun hHeld=>?_)
   . (try dsimp only);exact HOS.2
   clear hK K;try simp only[Act.put]
   refine wpAnyH_done (by kernel_rfl) ?_ _
   clear hHeld HP HTH hrule hmm;go_wp2_with fail
   go_meet
   exact⟨tb,gn,cn9,wb,ga,ca,rfl,HOS.1⟩
  go_simp
  have HP:=q9 HP.map_;generalize w4.alloc (.map #[] 0)=w5 at HP |-;generalize w4.heap.size=wb at HP |-
  refine hK.out _ _ ?_ (fun hHeld=>?_)
  . (try dsimp only);exact HP.l
  clear hK K;try simp only[Act.put,q98]
  refine wpAnyH_ready (rs:=[6,8]) (by kernel_rfl) (by simp) ?_
  refine AllReadyH.cons rfl (fun K hK=>?_) ?_
  rotate_left
  ·
   refine AllReadyH.cons rfl (fun K hK=>?_) ?_
   rotate_left
   . exact AllReadyH.nil
   go_simp
   have HP:=q9 HP.var_;generalize w5.alloc (.cells #[I 0,I 0,I 0,.slice none 0 0,.slice none 0 0,.map none,.slice none 0 0] 67)=w8 at HP |-;generalize w5.heap.size=tb at HP |-
   refine hK.out _ _ ?_ (fun hHeld=>?_)
   . (try dsimp only);exact HP.l
   clear hK K;try simp only[Act.put,q98]
   refine q9R 6 rfl fun K hK=>?_
   go_simp
   refine(HRN _).mono ?_;rintro e w6 ⟨ga,ca,f,rfl,hle,hge,hlt,hf,bc⟩;have HP:=q9 (HP.nodes_ hge hlt hf bc);clear hle hge hlt hf bc;go_wp2_with fail
   refine hK.out _ _ ?_ (fun hHeld=>?_)
   . (try dsimp only);exact HP.l
   clear hK K;try simp only[Act.put,q98]
   refine q9N 7 rfl ?_
   refine q9R 9 rfl fun K hK=>?_
   have HTH:=q9 (Qw (HP.t tb rfl).1 (m:=7) rfl)
   refine Qk (by rfl) 67 _ _ (by rfl) tb [I V,I S,I T,I3 (I1 gn 0) cl cn9,I3 (I1 cb 0) cl cc,.map (some wb),I3 (I1 ga 0) nd9 ca] (by rfl) (by rfl) HTH (by kernel_rfl) (by rfl) ?_
   have HOS:=q9 (HP.fin (cn9:=cn9) (cb:=cb) (cc:=cc) (ca:=ca) HG1.out)
   refine hK.out _ _ ?_ (fun hHeld=>?_)
   . (try dsimp only);exact HOS.2
   clear hK K;try simp only[Act.put]
   refine wpAnyH_done (by kernel_rfl) ?_ _
   clear hHeld HP HTH hrule hmm;go_wp2_with fail
   go_meet
   exact⟨tb,gn,cn9,wb,ga,ca,rfl,HOS.1⟩
  go_simp
  refine(HRN _).mono ?_;rintro e w6 ⟨ga,ca,f,rfl,hle,hge,hlt,hf,bc⟩;have HP:=q9 (HP.nodes_ hge hlt hf bc);clear hle hge hlt hf bc;go_wp2_with fail
  refine hK.out _ _ ?_ (fun hHeld=>?_)
  . (try dsimp only);exact HP.l
  clear hK K;try simp only[Act.put,q98]
  refine q9N 7 rfl ?_
  refine q9R 8 rfl fun K hK=>?_
  go_simp
  have HP:=q9 HP.var_;generalize w6.alloc (.cells #[I 0,I 0,I 0,.slice none 0 0,.slice none 0 0,.map none,.slice none 0 0] 67)=w8 at HP |-;generalize w6.heap.size=tb at HP |-
  refine hK.out _ _ ?_ (fun hHeld=>?_)
  . (try dsimp only);exact HP.l
  clear hK K;try simp only[Act.put,q98]
  refine q9R 9 rfl fun K hK=>?_
  have HTH:=q9 (Qw (HP.t tb rfl).1 (m:=7) rfl)
  refine Qk (by rfl) 67 _ _ (by rfl) tb [I V,I S,I T,I3 (I1 gn 0) cl cn9,I3 (I1 cb 0) cl cc,.map (some wb),I3 (I1 ga 0) nd9 ca] (by rfl) (by rfl) HTH (by kernel_rfl) (by rfl) ?_
  have HOS:=q9 (HP.fin (cn9:=cn9) (cb:=cb) (cc:=cc) (ca:=ca) HG1.out)
  refine hK.out _ _ ?_ (fun hHeld=>?_)
  . (try dsimp only);exact HOS.2
  clear hK K;try simp only[Act.put]
  refine wpAnyH_done (by kernel_rfl) ?_ _
  clear hHeld HP HTH hrule hmm;go_wp2_with fail
  go_meet
  exact⟨tb,gn,cn9,wb,ga,ca,rfl,HOS.1⟩
 case rest=>
  obtain⟨tb,gn,cn9,wb,ga,ca,rfl,hS⟩:=hcut;obtain⟨hlt,f,hf⟩:=hS.nm
  have HCA:Hid (∀ k,k<cl->Qf V S T (f k) k):=q9 fun k hk=>(hf k hk).2
  have HREL:Hid (KO13 w ob tb ⟨V,S,T,gn,cl,cn9,cb,cl,cc,wb,ga,nd9,ca⟩ f (I 0) wc):=q9 ⟨0,Nat.zero_le _,rfl,hS.map_ (hS.fm.iff13 fun x u=>⟨fun⟨j,h,_⟩=>absurd h (Nat.not_lt_zero _),fun h=>h.elim⟩),fun k hk=>(hf k hk).1⟩
  have cl1:0<cl:=by have:=HCL.out;have:=Qj5 HR.out;have:=(sizes HR.out).nd1;have e3:cn V S T=o5 V S T+nd V S*7:=by { unfold cn o5;omega };omega
  have nd1:0<nd9:=by have:=HND.out;have:=(sizes HR.out).nd1;omega
  clear hS hlt hf HRC HRN;go_wp2_with fail
  go_loopw [6] (fun i wr=>KO13 w ob tb ⟨V,S,T,gn,cl,cn9,cb,cl,cc,wb,ga,nd9,ca⟩ f i wr) (fun i _=>cl-(intOf i).toNat)
  case atStart=>exact HREL.out
  case round=>
   clear HREL;obtain⟨k,hk,rfl,hS,hnm⟩:=hrel;have HS:=q9 hS;have HNM:=q9 hnm;clear hS hnm;dsimp only at hk
   by_cases hkn:k<cl
   . as_aux_lemma=>
     have hd:Below wr.heap.size wr wr.drew:=(Below.refl _ _).drew;have HSd:=q9 (HS.drew);have hnk:NmAt wr.drew gn k (f k):=(HNM.out k hkn).below hd HS.nm.1;obtain⟨n0,n1,n2,n3⟩:=hnk.cells;obtain⟨q1,q2,q3,q4⟩:=QfO HR.out (HCA.out k hkn);obtain⟨kl,hkey⟩:=keyN (f k) q1 q2 q3 q4;obtain⟨w5,hup,hfm,hg⟩:=HSd.fm.store (v:=I (k:Int)) (G':=Gf f (k+1)) Qlg Tryz.underlying65 hkey (Ql4 HCA.out hkn)
     have HN5:Hid (KO13 w ob tb ⟨V,S,T,gn,cl,cn9,cb,cl,cc,wb,ga,nd9,ca⟩ f (I ((k:Int)+1)) w5):=q9 ⟨k+1,hkn,by simp,HSd.grown (show 0<cl from cl1) nd1 hfm hg,fun j hj=>((HNM.out j hj).below hd HS.nm.1).kept (hg.block gn HSd.nm.1 fun e=>by
      injection e with e;exact HSd.fm.ne_cell ((HNM j hj).below hd HS.nm.1).1 e)⟩
     obtain⟨c0,c1,c2,c3,c4,c5,c6⟩:=HS.bb.cells;have xlt:=HS.bb.lt;have glt:=HS.nm.1;obtain⟨d0,d1,d2,d3,d4,d5,d6⟩:=HSd.bb.cells
     have kI:(k:Int)<(cl:Int):=by omega
     have k0:(0:Int)<=(k:Int):=by omega
     dsimp only at c0 c1 c2 c3 c4 c5 c6 d0 d1 d2 d3 d4 d5 d6 xlt glt;clear hd hnk q1 q2 q3 q4 hkey hfm hg HS HSd HNM;go_wp2_with fail
     go_region;go_wp2_with fail
     go_roundw
     case rel=>exact HN5.out
     case measure=>simp [intOf];omega
   . as_aux_lemma=>
     have ek:cl=k:=by omega
     subst ek
     have kN:¬ (cl:Int)<(cl:Int):=by omega
     have HE9:Hid (Bk _ ⟨V,S,T,gn,cl,cn9,cb,cl,cc,wb,ga,nd9,ca⟩ cv/\Below w.heap.size w _/\_):=q9 (Qm6 HR.out HCL.out HND.out HCS.out HCB.out HRG.out HCP.out HCA.out HS.out);obtain⟨c0,c1,c2,c3,c4,c5,c6⟩:=HS.bb.cells;have xlt:=HS.bb.lt;have HTH:=q9 (Qw HS.o (m:=7) rfl);have HBB:Hid (Blk wr tb 67 #[I V,I S,I T,I3 (I1 gn 0) cl cn9,I3 (I1 cb 0) cl cc,.map (some wb),I3 (I1 ga 0) nd9 ca]):=q9 HS.bb;dsimp only at c0 c1 c2 c3 c4 c5 c6 xlt;clear HS HNM;go_upto_region 6 with fail
     go_step
     refine wpList_load_row (by rfl) 67 _ (by rfl) tb (by rfl) 67 #[I V,I S,I T,I3 (I1 gn 0) cl cn9,I3 (I1 cb 0) cl cc,.map (some wb),I3 (I1 ga 0) nd9 ca] (0,0) _ HBB Tryz.underlying67 rfl (by kernel_rfl) ?_
     refine QbQ (by rfl) 67 _ _ (by rfl) ob [I V,I S,I T,I3 (I1 gn 0) cl cn9,I3 (I1 cb 0) cl cc,.map (some wb),I3 (I1 ga 0) nd9 ca] (by rfl) (by rfl) HTH (by kernel_rfl) (by rfl) ?_
     go_wp2_with fail
     try simp only[Exit.inBlock,Exit.then]
     refine bodyPost_ret (v:=vB ⟨V,S,T,gn,cl,cn9,cb,cl,cc,wb,ga,nd9,ca⟩) ?_ rfl ?_
     . exact results_cell_row rfl _ _ ob 67 _ _ _ rfl HE9.2.2.1 Tryz.underlying67 rfl (by kernel_rfl)
     exact⟨⟨V,S,T,gn,cl,cn9,cb,cl,cc,wb,ga,nd9,ca⟩,rfl,HE9.1,rfl,rfl,rfl,HE9.2.1,HE9.2.2.2,rfl⟩
end
end Go.Proofs.YtaooglagddphnaaGreat
