/- Gk -/
import Derived.Test.YtaooglagddphnaaGreatXGj
import Derived.Test.YtaooglagddphnaaGreatXU
import Derived.Test.YtaooglagddphnaaGreatXW
namespace Go.Proofs.YtaooglagddphnaaGreat
open Go.RowKit
set_option maxRecDepth 100000
structure SR13 (W:World)(ob lo q p:Nat)(V S T:Int)(vl:Value)(kd s u v:Int):Prop where
 sq:SQ13 W ob q p V S T vl kd s u v
 fl:Blk W lo 23 #[I V,I S,I T]
structure OL13 (W:World)(ob lo:Nat)(V S T kd s u v:Int):Prop where
 o:QhM W ob kd s u v
 l:Blk W lo 23 #[I V,I S,I T]
section
variable {w w' w0:World}{base q p gb cap m ob lo:Nat}{V S T kd s u v:Int}{f:Nat->Int}{mk:Nat->Nat}{ts:List Tp}{vl:Value}{ls:List E1}
theorem PX13.sr (h:PX13 w0 w base q V S T p gb cap m f mk ts vl ls)(ho:OL13 w0 ob lo V S T kd s u v):SR13 w ob lo q p V S T vl kd s u v:=⟨h.sq ho.o,h.kb _ _ _ ho.l Ql0⟩
theorem SR13.rule (ob lo q p:Nat)(V S T:Int)(vl:Value)(kd s u v:Int):∀ W:World,SR13 W ob lo q p V S T vl kd s u v->
 ((W.cell? (I1 ob 0)=some (I kd)/\W.cell? (I1 ob 1)=some (I s)/\W.cell? (I1 ob 2)=some (I u)/\W.cell? (I1 ob 3)=some (I v))/\(W.cell? (I1 q 0)=some (I V)/\W.cell? (I1 q 1)=some (I S)/\W.cell? (I1 q 2)=some (I T)/\W.cell? (I1 q 3)=some (.pointer (some (I1 p 0)))/\W.cell? (I1 q 4)=some (I V)/\W.cell? (I1 q 5)=some (I S)/\W.cell? (I1 q 6)=some (I T)/\W.cell? (I1 q 7)=some (I4 p)/\W.cell? (I1 q 8)=some (I 1)/\W.cell? (I1 q 9)=some (I 0)/\W.cell? (I1 q 10)=some (I V)/\W.cell? (I1 q 11)=some (I S)/\W.cell? (I1 q 12)=some (I T)/\W.cell? (I1 q 13)=some (I4 p)/\W.cell? (I1 q 14)=some (vl)))/\W.cell? (I1 lo 0)=some (I V)/\W.cell? (I1 lo 1)=some (I S)/\W.cell? (I1 lo 2)=some (I T):=
 fun W h=>⟨SQ13.rule ob q p V S T vl kd s u v W h.sq,Blk.cell h.fl 0,Blk.cell h.fl 1,Blk.cell h.fl 2⟩
theorem SR13.lt {W:World}(h:SR13 W ob lo q p V S T vl kd s u v):ob<W.heap.size/\q<W.heap.size/\lo<W.heap.size:=⟨h.sq.lt.1,h.sq.lt.2,Blk.lt h.fl⟩
end
def StK (ls:List E1)(V S kd s u v:Int)(ls':List E1):Prop:=kd=1->∀ s' u' v':Nat,s=(s':Int)->u=(u':Int)->v=(v':Int)->u'≠v'->u<V->v<V->s<S->(∀ x∈ls,x.s≠s')->PutR ls s' u' v' ls'
section
variable {w:World}{base q p gb cap m:Nat}{V S T kd:Int}{f:Nat->Int}{mk:Nat->Nat}{ts:List Tp}{vl:Value}{ls:List E1}{qq:Nat->Nat->List Nat}
variable {s u v:Int}
set_option maxHeartbeats 8000000 in
theorem Qiv (h:PW13 w base q V S T p gb cap m f mk ts vl ls)(hG:LG V S T f mk ts ls qq)(hl:ls.length<=1000)(hb:u=v\/u<0\/V<=u\/v<0\/V<=v\/s<0\/S<=s):
 Calls Tryz.prog 11 #[.pointer (some (I1 q 0)),vO13 kd s u v] w (QkV w base q V S T p gb cap (m+160+220*nN V S) (StK ls V S kd s u v)):=by
 have HB:=q9 hb;clear hb;have hR:=h.ta.hR;have hn:=Ql hR;obtain⟨av,ac,rfl⟩:=h.ew.slice;obtain⟨n,hn9⟩:∃ n,ls.length=n:=⟨_,rfl⟩;have HN:=q9 hn9;rw[hn9] at h hl;have HG:=q9 hG;have HR:=q9 hR;have HLN:=q9 hl;have HOP0:Hid (QhM (w.alloc (.cells #[I kd,I s,I u,I v] 33)) w.heap.size kd s u v):=q9 (Blk.new _ _ _);have HX0:=q9 ((PX13.start h).alloc (.cells #[I kd,I s,I u,I v] 33))
 have nI:(n:Int)<=1000:=by omega
 clear h hG hR hl hn9
 go_enter Tryz.func11,Tryz.ntmps11
 obtain⟨c0,c1,c2,c3,c4,c5,c6,c7,c8,c9,c10,c11,c12,c13,c14⟩:=HX0.pw.pq.cells;have qlt:=HX0.pw.pq.lt
 go_upto_if 51 with fail
 clear c0 c1 c2 c3 c4 c5 c6 c7 c8 c9 c10 c11 c12 c13 c14
 all_goals first
  |(exfalso;have hb:=HB.out;omega)
  |(go_wp2_with fail
    all_goals first
     |(exfalso;have hb:=HB.out;omega)
     |((try simp only[Exit.inBlock,Exit.then]);refine bodyPost_ret (results_none rfl _ _ _) rfl ?_
       exact⟨rfl,f,mk,ts,_,ls,qq,(HX0.alloc _).more (by omega),HG.out,fun _ s' u' v' e1 e2 e3 h1 h2 h3 h4 _=>by have:=HB.out;omega⟩)
     |(have e9:u=v:=by assumption
       subst e9
       (try simp only[Exit.inBlock,Exit.then]);refine bodyPost_ret (results_none rfl _ _ _) rfl ?_
       exact⟨rfl,f,mk,ts,_,ls,qq,(HX0.alloc _).more (by omega),HG.out,fun _ s' u' v' e1 e2 e3 h1 h2 h3 h4 _=>by have:=HB.out;omega⟩))
end
section
variable {w:World}{base q p gb cap m:Nat}{V S T kd:Int}{f:Nat->Int}{mk:Nat->Nat}{ts:List Tp}{vl:Value}{ls:List E1}{qq:Nat->Nat->List Nat}
variable {s9 u9 v9:Nat}
theorem lv6 {V:Int}(h:V<=6):(lv V).toNat<=3:=by
 unfold lv;split<;>(try split)<;>(try split)<;>(try split)<;>omega
set_option maxHeartbeats 8000000 in
theorem Qhr (h:PW13 w base q V S T p gb cap m f mk ts vl ls)(hG:LG V S T f mk ts ls qq)(hl:ls.length<=1000)(hn6:nN V S<=66)(hV6:V<=6)(hm:m<=99740000)(hne:u9≠v9)(hu:(u9:Int)<V)(hv:(v9:Int)<V)(hs:(s9:Int)<S):
 Calls Tryz.prog 11 #[.pointer (some (I1 q 0)),vO13 kd (s9:Int) (u9:Int) (v9:Int)] w (QkV w base q V S T p gb cap (m+160+220*nN V S) (StK ls V S kd (s9:Int) (u9:Int) (v9:Int))):=by
 have g0:((u9:Int)==(v9:Int))=false:=beq_eq_false_iff_ne.2 (by omega)
 have g1:¬ (u9:Int)<0:=by omega
 have g2:¬ V<=(u9:Int):=by omega
 have g3:¬ (v9:Int)<0:=by omega
 have g4:¬ V<=(v9:Int):=by omega
 have g5:¬ (s9:Int)<0:=by omega
 have g6:¬ S<=(s9:Int):=by omega
 have l3:(lv V).toNat<=3:=lv6 hV6;have HL3:=q9 l3;have HP:Hid (u9≠v9/\(u9:Int)<V/\(v9:Int)<V/\(s9:Int)<S):=q9 ⟨hne,hu,hv,hs⟩;clear hne hu hv hs l3 hV6;have hR:=h.ta.hR;have hn:=Ql hR;obtain⟨av,ac,rfl⟩:=h.ew.slice;obtain⟨n,hn9⟩:∃ n,ls.length=n:=⟨_,rfl⟩;have HN:=q9 hn9;rw[hn9] at h hl;have HG:=q9 hG;have HR:=q9 hR;have HLN:=q9 hl;have HOP0:Hid (QhM (w.alloc (.cells #[I kd,I (s9:Int),I (u9:Int),I (v9:Int)] 33)) w.heap.size kd (s9:Int) (u9:Int) (v9:Int)):=q9 (Blk.new _ _ _);have HX0:=q9 ((PX13.start h).alloc (.cells #[I kd,I (s9:Int),I (u9:Int),I (v9:Int)] 33))
 have nI:(n:Int)<=1000:=by omega
 clear h hG hR hl hn9
 go_enter Tryz.func11,Tryz.ntmps11
 obtain⟨c0,c1,c2,c3,c4,c5,c6,c7,c8,c9,c10,c11,c12,c13,c14⟩:=HX0.pw.pq.cells;have qlt:=HX0.pw.pq.lt;go_wp2_with fail
 have HX1:=q9 (HX0.alloc (.cells #[I V,I S,I T] 23))
 have HOP:Hid (OL13 ((w.alloc (.cells #[I kd,I (s9:Int),I (u9:Int),I (v9:Int)] 33)).alloc (.cells #[I V,I S,I T] 23)) w.heap.size (w.heap.size+1) V S T kd (s9:Int) (u9:Int) (v9:Int)):=q9 ⟨HOP0.below ((Below.refl _ _).alloc (Nat.le_refl _) _) (Blk.lt HOP0.out),by
  have e:w.heap.size+1=(w.alloc (.cells #[I kd,I (s9:Int),I (u9:Int),I (v9:Int)] 33)).heap.size:=by simp
  rw[e];exact Blk.new _ _ _⟩
 have HX2:Hid (PX13 ((w.alloc (.cells #[I kd,I (s9:Int),I (u9:Int),I (v9:Int)] 33)).alloc (.cells #[I V,I S,I T] 23)) ((w.alloc (.cells #[I kd,I (s9:Int),I (u9:Int),I (v9:Int)] 33)).alloc (.cells #[I V,I S,I T] 23)) base q V S T p gb cap m f mk ts (.slice av n ac) ls):=q9 (PX13.start HX1.pw);clear HX0 HOP0 c0 c1 c2 c3 c4 c5 c6 c7 c8 c9 c10 c11 c12 c13 c14 qlt g0 g1 g2 g3 g4 g5 g6;generalize ((w.alloc (.cells #[I kd,I (s9:Int),I (u9:Int),I (v9:Int)] 33)).alloc (.cells #[I V,I S,I T] 23))=W1 at HX1 HX2 HOP |-;generalize w.heap.size+1=lo at HOP |-;generalize w.heap.size=ob at HOP |-;obtain⟨iI,hiI⟩:=QmW ls s9;have HI:=q9 hiI
 obtain⟨i0,i1⟩:=hiI.bd (by have:=HN.out;omega)
 clear hiI
 refine(Qhc HX2.pw.pq HX2.pw.ew HG.er (by have:=HN.out;omega) HI.out).mono ?_;rintro e w3 ⟨rfl,B3⟩
 have H4:=q9 (HX2.below B3);clear HX2 B3;have hrule:=SR13.rule ob lo q p V S T (.slice av n ac) kd (s9:Int) (u9:Int) (v9:Int);obtain⟨⟨⟨o0,o1,o2,o3⟩,c0,c1,c2,c3,c4,c5,c6,c7,c8,c9,c10,c11,c12,c13,c14⟩,d0,d1,d2⟩:=hrule _ (H4.sr HOP.out);obtain⟨olt,qlt,dlt⟩:=(H4.sr HOP.out).lt
 cases e1:(kd==1)
 rotate_left
 . as_aux_lemma=>
    have hk1:kd=1:=by simpa using e1
    have e2:(kd==2)=false:=by rw[hk1];rfl
    have e3:(kd==3)=false:=by rw[hk1];rfl
    have HK1:=q9 hk1;clear hk1
    by_cases gi:iI<0
    . have HNS:=q9 (HI.neg (by omega))
      clear HI i0 i1;go_wp2_with fail
      refine(Qne H4.pw HG.out (by have:=HN.out;omega) (by omega) HP.1 HP.2.1 HP.2.2.1 HP.2.2.2 HNS.out).mono ?_;rintro e w5 ⟨rfl,f5,mk5,ts5,vl5,ls5,qq5,hX5,hG5,hR5⟩
      have HX5:=q9 (HX1.over (H4.over hX5));have HG5:=q9 hG5;have HR5:=q9 hR5;clear hX5 hG5 hR5 H4 hrule o0 o1 o2 o3 c0 c1 c2 c3 c4 c5 c6 c7 c8 c9 c10 c11 c12 c13 c14 d0 d1 d2 olt qlt dlt;go_wp2_with fail
      go_end0
      exact⟨rfl,f5,mk5,ts5,vl5,ls5,qq5,HX5.more (by omega),HG5,fun _ s' u' v' e2 e3 e4 h1 h2 h3 h4 h5=>by
       obtain rfl:s'=s9:=by omega
       obtain rfl:u'=u9:=by omega
       obtain rfl:v'=v9:=by omega
       exact HR5⟩
    . have HPI:=q9 (HI.pos (by omega))
      clear HI;go_wp2_with fail
      have Hd:=q9 H4.drew;clear H4 o0 o1 o2 o3 c0 c1 c2 c3 c4 c5 c6 c7 c8 c9 c10 c11 c12 c13 c14 d0 d1 d2 olt qlt dlt;obtain⟨⟨⟨o0,o1,o2,o3⟩,c0,c1,c2,c3,c4,c5,c6,c7,c8,c9,c10,c11,c12,c13,c14⟩,d0,d1,d2⟩:=hrule _ (Hd.sr HOP.out);obtain⟨olt,qlt,dlt⟩:=(Hd.sr HOP.out).lt
      refine wp_region_held_drew (S:=(fun W=>SR13 W ob lo q p V S T (.slice av n ac) kd (s9:Int) (u9:Int) (v9:Int))) (by kernel_rfl) ?_ (fun hHeld=>?_)
      . exact Hd.sr HOP
      refine q9N 0 rfl ?_
      refine q9N 1 rfl ?_
      refine q9N 2 rfl ?_
      refine q9N 3 rfl ?_
      refine q9F 4 rfl ?_
      refine q9F 5 rfl ?_
      refine q9N 6 rfl ?_
      refine q9N 7 rfl ?_
      refine q9F 8 rfl ?_
      refine q9F 9 rfl ?_
      refine q9F 10 rfl ?_
      refine q9F 11 rfl ?_
      refine q9F 12 rfl ?_
      refine q9F 13 rfl ?_
      refine q9F 14 rfl ?_
      refine q9F 15 rfl ?_
      refine q9F 16 rfl ?_
      refine q9F 17 rfl ?_
      refine q9F 18 rfl ?_
      refine q9F 19 rfl ?_
      refine q9N 20 rfl ?_
      refine q9N 21 rfl ?_
      refine wpAnyH_done (by kernel_rfl) ?_ _
      clear hrule o0 o1 o2 o3 c0 c1 c2 c3 c4 c5 c6 c7 c8 c9 c10 c11 c12 c13 c14 d0 d1 d2 olt qlt dlt;go_wp2_with fail
      go_end0
      exact⟨rfl,f,mk,ts,_,ls,qq,(HX1.over Hd).more (by omega),HG,fun e1 s' u' v' e2 e3 e4 h1 h2 h3 h4 h5=>by
       obtain⟨i,x,_,hi,hx⟩:=HPI.out
       exact absurd (by omega:x.s=s') (h5 x (List.mem_of_getElem? hi))⟩
 cases e2:(kd==2)
 rotate_left
 . as_aux_lemma=>
    have hk1:kd=2:=by simpa using e2
    have e3:(kd==3)=false:=by rw[hk1];rfl
    have HK1:=q9 hk1;clear hk1
    by_cases gi:0<=iI
    rotate_left
    . go_wp2_with fail
      have Hd:=q9 H4.drew;clear H4 o0 o1 o2 o3 c0 c1 c2 c3 c4 c5 c6 c7 c8 c9 c10 c11 c12 c13 c14 d0 d1 d2 olt qlt dlt;obtain⟨⟨⟨o0,o1,o2,o3⟩,c0,c1,c2,c3,c4,c5,c6,c7,c8,c9,c10,c11,c12,c13,c14⟩,d0,d1,d2⟩:=hrule _ (Hd.sr HOP.out);obtain⟨olt,qlt,dlt⟩:=(Hd.sr HOP.out).lt
      refine wp_region_held_drew (S:=(fun W=>SR13 W ob lo q p V S T (.slice av n ac) kd (s9:Int) (u9:Int) (v9:Int))) (by kernel_rfl) ?_ (fun hHeld=>?_)
      . exact Hd.sr HOP
      refine q9N 0 rfl ?_
      refine q9N 1 rfl ?_
      refine q9N 2 rfl ?_
      refine q9N 3 rfl ?_
      refine q9F 4 rfl ?_
      refine q9F 5 rfl ?_
      refine q9N 6 rfl ?_
      refine q9N 7 rfl ?_
      refine q9F 8 rfl ?_
      refine q9F 9 rfl ?_
      refine q9F 10 rfl ?_
      refine q9F 11 rfl ?_
      refine q9F 12 rfl ?_
      refine q9F 13 rfl ?_
      refine q9F 14 rfl ?_
      refine q9F 15 rfl ?_
      refine q9F 16 rfl ?_
      refine q9F 17 rfl ?_
      refine q9F 18 rfl ?_
      refine q9F 19 rfl ?_
      refine q9N 20 rfl ?_
      refine q9N 21 rfl ?_
      refine wpAnyH_done (by kernel_rfl) ?_ _
      clear hrule o0 o1 o2 o3 c0 c1 c2 c3 c4 c5 c6 c7 c8 c9 c10 c11 c12 c13 c14 d0 d1 d2 olt qlt dlt;go_wp2_with fail
      go_end0
      exact⟨rfl,f,mk,ts,_,ls,qq,(HX1.over Hd.out).more (by omega),HG.out,fun e1 s' u' v' e2 e3 e4 h1 h2 h3 h4 h5=>by have:=HK1.out;omega⟩
    obtain⟨i,x,hiI,hi,ex⟩:=HI.pos gi;subst ex;subst hiI;have hok9:=HG.er.ok x (List.mem_of_getElem? hi)
    have HUV:Hid (x.u<x.v/\(x.u:Int)<V/\(x.v:Int)<V/\(x.l:Int)<lv V):=q9 ⟨hok9.1,by omega,hok9.2.1,hok9.2.2.2⟩
    have iLn:i<ls.length:=(List.getElem?_eq_some_iff.1 hi).1;have HIX:=q9 hi;obtain⟨g,cp9,hv5,_,glt,_,z0,z1,z2,z3,z4⟩:=H4.pw.ew.at hi;injection hv5 with ev1 ev2 ev3;subst ev1 ev3
    have iI:(i:Int)<(n:Int):=by have:=HN.out;omega
    have inn:(0:Int)<=(i:Int):=by omega
    have hcap:n<=ac:=by
     rcases H4.pw.ew.shape with ⟨e,_⟩|⟨_,_,_,e,_,_,h1,_⟩
     . cases e
     . injection e with _ _ e3
       rw[<-e3] at h1;rw[HN.out] at h1;exact h1
    obtain⟨xt,hxt⟩:∃ xt,x.t=xt:=⟨_,rfl⟩;have HXT:=q9 hxt;rw[hxt] at z4;clear hi ev2 hok9 hxt HI i0 i1 iLn;clear hrule;have hrule:=SR13.rule ob lo q p V S T (I3 (I1 g 0) n ac) kd (x.s:Int) (u9:Int) (v9:Int)
    cases xt
    . as_aux_lemma=>
       go_wp2_with fail
       have H5:=q9 (H4.alloc (.cells #[I (x.s:Int),I (x.u:Int),I (x.v:Int),I (x.l:Int),.bool false] 56));have HXB:Hid (Blk (w3.alloc (.cells #[I (x.s:Int),I (x.u:Int),I (x.v:Int),I (x.l:Int),.bool false] 56)) w3.heap.size 56 #[I (x.s:Int),I (x.u:Int),I (x.v:Int),I (x.l:Int),.bool false]):=q9 (Blk.new _ _ _);clear H4 z0 z1 z2 z3 z4 glt o0 o1 o2 o3 c0 c1 c2 c3 c4 c5 c6 c7 c8 c9 c10 c11 c12 c13 c14 d0 d1 d2 olt qlt dlt;generalize w3.heap.size=xb at HXB |-;generalize w3.alloc (.cells #[I (x.s:Int),I (x.u:Int),I (x.v:Int),I (x.l:Int),.bool false] 56)=W5 at H5 HXB |-;have H6:=q9 H5.drew;obtain⟨⟨⟨o0,o1,o2,o3⟩,c0,c1,c2,c3,c4,c5,c6,c7,c8,c9,c10,c11,c12,c13,c14⟩,d0,d1,d2⟩:=hrule _ (H6.sr HOP.out);obtain⟨olt,qlt,dlt⟩:=(H6.sr HOP.out).lt
       have HPL:=q9 (Qiz H6.pw.ta HG.out HIX.out HXT.out (by omega))
       go_region_held3 (fun W=>SR13 W ob lo q p V S T (I3 (I1 g 0) n ac) kd (x.s:Int) (u9:Int) (v9:Int)) (first|(with_reducible assumption)|(with_reducible exact H7.out.sr HOP.out)|(with_reducible exact H6.out.sr HOP.out))
        (first
         |(go_at_call 38;((with_reducible refine HPL.out.mono ?_);rintro e w7 ⟨f7,mk7,ts7,rfl,A7,G7,K7,O7⟩;have H7:=q9 (H6.out.next A7 O7);have HXB7:=q9 (Blk.ta (Blk.drew HXB.out) H6.out.pw.ta O7 (by decide) (by decide));have HG7:=q9 (And.intro G7 K7))))
       clear HPL H5 H6 HXB o0 o1 o2 o3 c0 c1 c2 c3 c4 c5 c6 c7 c8 c9 c10 c11 c12 c13 c14 d0 d1 d2 olt qlt dlt
       have hm7:m+34+16*nN V S<=m+159+216*nN V S:=by omega
       have HM7:Hid (PX13 W1 w7 base q V S T p gb cap (m+159+216*nN V S) f7 mk7 ts7 (I3 (I1 g 0) n ac) ls):=q9 (H7.more hm7);clear H7 hm7;obtain⟨⟨⟨o0,o1,o2,o3⟩,c0,c1,c2,c3,c4,c5,c6,c7,c8,c9,c10,c11,c12,c13,c14⟩,d0,d1,d2⟩:=hrule _ (HM7.sr HOP.out);obtain⟨olt,qlt,dlt⟩:=(HM7.sr HOP.out).lt;have x0:=Blk.cell HXB7.out 1;have x1:=Blk.cell HXB7.out 2;have xlt:=Blk.lt HXB7.out;go_wp2_with fail
       have H8:=q9 HM7.drew;clear o0 o1 o2 o3 c0 c1 c2 c3 c4 c5 c6 c7 c8 c9 c10 c11 c12 c13 c14 d0 d1 d2 olt qlt dlt x0 x1 xlt
       have hrule3:∀ W:World,SR13 W ob lo q p V S T (I3 (I1 g 0) n ac) kd (x.s:Int) (u9:Int) (v9:Int)/\Blk W xb 56 #[I (x.s:Int),I (x.u:Int),I (x.v:Int),I (x.l:Int),.bool false]->(((W.cell? (I1 ob 0)=some (I kd))/\W.cell? (I1 q 10)=some (I V)/\W.cell? (I1 q 11)=some (I S)/\W.cell? (I1 q 12)=some (I T)/\W.cell? (I1 q 13)=some (I4 p))/\W.cell? (I1 xb 1)=some (I (x.u:Int))/\W.cell? (I1 xb 2)=some (I (x.v:Int))):=fun W h=>by
        obtain⟨⟨⟨o0,o1,o2,o3⟩,c0,c1,c2,c3,c4,c5,c6,c7,c8,c9,c10,c11,c12,c13,c14⟩,d0,d1,d2⟩:=hrule W h.1;exact⟨⟨o0,c10,c11,c12,c13⟩,Blk.cell h.2 1,Blk.cell h.2 2⟩
       have qlt:=(H8.sr HOP.out).lt.2.1;have xlt:=Blk.lt HXB7.out;have HXB8:Hid (Blk w7.drew xb 56 #[I (x.s:Int),I (x.u:Int),I (x.v:Int),I (x.l:Int),.bool false]):=q9 (Blk.drew HXB7.out);obtain⟨⟨o0,c10,c11,c12,c13⟩,x1,x2⟩:=hrule3 _ ⟨H8.sr HOP.out,HXB8.out⟩;clear hrule
       go_region_held3 (fun W=>SR13 W ob lo q p V S T (I3 (I1 g 0) n ac) kd (x.s:Int) (u9:Int) (v9:Int)/\Blk W xb 56 #[I (x.s:Int),I (x.u:Int),I (x.v:Int),I (x.l:Int),.bool false]) (first|(with_reducible assumption)|(with_reducible exact⟨H9.out.sr HOP.out,HXB9.out⟩)|(with_reducible exact⟨H8.out.sr HOP.out,HXB8.out⟩))
        (first
         |(go_at_call 39;((with_reducible refine(Qe8 H8.out.pw.ta HUV.out.2.1 HUV.out.2.2.1 (Nat.ne_of_lt HUV.out.1) (by omega)).mono ?_);rintro e w8 ⟨rfl,A8,O8⟩;have H9:=q9 (H8.out.next A8 O8);have HXB9:=q9 (Blk.ta HXB8.out H8.out.pw.ta O8 (by decide) (by decide)))))
       clear H8 HM7 HXB7 HXB8 HXB9 hrule3 o0 c10 c11 c12 c13 x1 x2 xlt qlt;have HG9:=q9 (HG7.1.gone HR.out HG.er HG7.2 HIX.out);clear HG7;have hrule:=SR13.rule ob lo q p V S T (I3 (I1 g 0) n ac) kd (x.s:Int) (u9:Int) (v9:Int);obtain⟨⟨⟨o0,o1,o2,o3⟩,c0,c1,c2,c3,c4,c5,c6,c7,c8,c9,c10,c11,c12,c13,c14⟩,d0,d1,d2⟩:=hrule _ (H9.sr HOP.out);obtain⟨olt,qlt,dlt⟩:=(H9.sr HOP.out).lt
       have wq1:IntKind.i64.wrap ((i:Int)+1)=(i:Int)+1:=IntWalk.i64_in _ (by omega)
       have iac:i<=ac:=by omega
       have j0:(0:Int)<=(i:Int)+1:=by omega
       have j1:(i:Int)+1<=(n:Int):=by omega
       have jt:((i:Int)+1).toNat=i+1:=by omega
       obtain⟨ad,had⟩:∃ ad,(if ac=i+1 then some ((I1 g 0):Addr) else some ⟨g,(i+1)*5,none⟩)=some ad:=by split<;>exact⟨_,rfl⟩
       have HSRC:Hid (∀ W:World,EW W base (I3 (I1 g 0) n ac) ls->∀ (j:Nat) (u:Value),(Qu (ls.drop (i+1)))[j]?=some u->W.cell? (ad.add j)=some u):=q9 (by
        intro W hW j u hj
        by_cases hac:ac=i+1
        . have:ls.drop (i+1)=[]:=List.drop_eq_nil_of_le (by have:=HN.out;omega)
          rw[this] at hj;cases hj
        . rw[if_neg hac] at had
          injection had with had;rw[<-had];exact hW.src_drop (i+1) j u hj)
       go_wp2_with fail
       clear o0 o1 o2 o3 c0 c1 c2 c3 c4 c5 c6 c7 c8 c9 c10 c11 c12 c13 c14 d0 d1 d2 olt qlt dlt;have H10:=q9 H9.drew;obtain⟨⟨⟨o0,o1,o2,o3⟩,c0,c1,c2,c3,c4,c5,c6,c7,c8,c9,c10,c11,c12,c13,c14⟩,d0,d1,d2⟩:=hrule _ (H10.sr HOP.out);obtain⟨olt,qlt,dlt⟩:=(H10.sr HOP.out).lt
       refine QcL (fun W=>SR13 W ob lo q p V S T (I3 (I1 g 0) n ac) kd (x.s:Int) (u9:Int) (v9:Int)) (fun j=>decide (19<=j)) (by kernel_rfl) ?_ (fun hHeld=>?_)
       . exact H10.sr HOP
       refine q9P 0 rfl ?_
       refine q9P 2 rfl ?_
       refine q9P 3 rfl ?_
       refine q9P 4 rfl ?_
       refine q9L 5 rfl ?_
       refine q9P 6 rfl ?_
       refine q9P 7 rfl ?_
       refine q9P 9 rfl ?_
       refine q9P 10 rfl ?_
       refine q9P 11 rfl ?_
       refine q9L 12 rfl ?_
       refine q9P 13 rfl ?_
       refine q9P 14 rfl ?_
       refine q9P 15 rfl ?_
       refine q9T 1 rfl fun K hK=>?_
       go_simp
       refine hK.out _ _ ?_ (fun hHeld=>?_)
       . (try dsimp only);exact(H9.alloc _).drew.sr HOP
       clear hK K;try simp only[Act.put,q98]
       refine q9T 8 rfl fun K hK=>?_
       refine QL (l2:=ls.take i) (by rfl) _ _ (by rfl) rfl (EW.empty w8).drew (I1 g 0) i ac (by rw[List.length_take];have:=HN.out;omega) rfl ((H9.alloc (.cells #[] 56)).drew.pw.ew.src_take i) (by simp;have:=HLN.out;omega) (by simp) ?_
       intro va wa hOa hga
       have HBa:=q9 (((Below.refl _ _).alloc (Nat.le_refl _) (.cells #[] 56)).drew.grown hga (by simp) (fun r hr=>((EW.empty w8).drew.lt r hr).1))
       have Ha:=q9 (H9.below HBa.out);rw[List.nil_append] at hOa;have HOa:=q9 hOa;obtain⟨ava,aca,hva⟩:=hOa.slice;obtain⟨na,hna⟩:∃ N,(ls.take i).length=N:=⟨_,rfl⟩;rw[hna] at hva;subst hva;clear hga hOa hna
       refine hK.out _ _ ?_ (fun hHeld=>?_)
       . (try dsimp only);exact Ha.sr HOP
       clear hK K;try simp only[Act.put,q98]
       refine q9T 16 rfl fun K hK=>?_
       refine QL (l2:=ls.drop (i+1)) (by rfl) _ _ (by rfl) rfl HOa.out ad (n-(i+1)) (ac-(i+1)) (by rw[List.length_drop];have:=HN.out;omega) rfl (HSRC.out _ Ha.pw.ew) (by simp;have:=HLN.out;have:=HN.out;omega) HBa.size ?_
       intro vb wb hOb hgb
       have HBb:=q9 (HBa.grown hgb HBa.size (fun r hr=>(HOa.lt r hr).1))
       have Hb:=q9 (H9.below HBb.out);rw[Qbj] at hOb;have HOb:=q9 (hOb.less H9.pw.size);obtain⟨avb,acb,hvb⟩:=hOb.slice;obtain⟨nb,hnb⟩:∃ N,(ls.eraseIdx i).length=N:=⟨_,rfl⟩;rw[hnb] at hvb;subst hvb;have y7:=Blk.cell Hb.pw.pq 14;have y8:=Blk.frozen Hb.pw.pq 14;have y9:=Hb.pw.pq.lt;clear hgb hOb hnb
       refine hK.out _ _ ?_ (fun hHeld=>?_)
       . (try dsimp only);exact Hb.sr HOP
       clear hK K;try simp only[Act.put,q98]
       refine q9P 17 rfl ?_
       refine q9P 18 rfl ?_
       refine Till.ready (rs:=[19]) (by kernel_rfl) (by simp) ?_
       refine Qc.last rfl (by rfl) (fun K hK=>?_) ?_
       rotate_left
       . exact Qc.nil
       go_simp
       refine hK.out _ _ ?_;clear hK K;try simp only[Act.put,q98]
       refine Till.done (by kernel_rfl) ?_ _
       clear hrule o0 o1 o2 o3 c0 c1 c2 c3 c4 c5 c6 c7 c8 c9 c10 c11 c12 c13 c14 d0 d1 d2 olt qlt dlt;have Hc:=q9 (Hb.list HOb.out);clear y7 y8 y9;go_wp2_with fail
       go_end0
       exact⟨rfl,_,mk7,ts7,_,_,_,(HX1.over Hc.out).more (by omega),HG9.out,fun e1=>by have:=HK1.out;omega⟩
    . as_aux_lemma=>
       go_wp2_with fail
       have H5:=q9 (H4.alloc (.cells #[I (x.s:Int),I (x.u:Int),I (x.v:Int),I (x.l:Int),.bool true] 56));have HXB:Hid (Blk (w3.alloc (.cells #[I (x.s:Int),I (x.u:Int),I (x.v:Int),I (x.l:Int),.bool true] 56)) w3.heap.size 56 #[I (x.s:Int),I (x.u:Int),I (x.v:Int),I (x.l:Int),.bool true]):=q9 (Blk.new _ _ _);clear H4 z0 z1 z2 z3 z4 glt o0 o1 o2 o3 c0 c1 c2 c3 c4 c5 c6 c7 c8 c9 c10 c11 c12 c13 c14 d0 d1 d2 olt qlt dlt;generalize w3.heap.size=xb at HXB |-;generalize w3.alloc (.cells #[I (x.s:Int),I (x.u:Int),I (x.v:Int),I (x.l:Int),.bool true] 56)=W5 at H5 HXB |-;have H6:=q9 H5.drew;obtain⟨⟨⟨o0,o1,o2,o3⟩,c0,c1,c2,c3,c4,c5,c6,c7,c8,c9,c10,c11,c12,c13,c14⟩,d0,d1,d2⟩:=hrule _ (H6.sr HOP.out);obtain⟨olt,qlt,dlt⟩:=(H6.sr HOP.out).lt
       have HPL:=q9 (QiA H6.pw.ta HG.out HIX.out HXT.out (by omega))
       go_region_held3 (fun W=>SR13 W ob lo q p V S T (I3 (I1 g 0) n ac) kd (x.s:Int) (u9:Int) (v9:Int)) (first|(with_reducible assumption)|(with_reducible exact H7.out.sr HOP.out)|(with_reducible exact H6.out.sr HOP.out))
        (first
         |(go_at_call 23;((with_reducible refine HPL.out.mono ?_);rintro e w7 ⟨f7,mk7,ts7,rfl,A7,G7,K7,O7⟩;have H7:=q9 (H6.out.next A7 O7);have HXB7:=q9 (Blk.ta (Blk.drew HXB.out) H6.out.pw.ta O7 (by decide) (by decide));have HG7:=q9 (And.intro G7 K7))))
       clear HPL H5 H6 HXB o0 o1 o2 o3 c0 c1 c2 c3 c4 c5 c6 c7 c8 c9 c10 c11 c12 c13 c14 d0 d1 d2 olt qlt dlt;have hml:(lv V).toNat*(72*nN V S+50)<=3*(72*nN V S+50):=Nat.mul_le_mul_right _ HL3.out
       have hm7:m+(lv V).toNat*(72*nN V S+50)<=m+159+216*nN V S:=by omega
       have HM7:Hid (PX13 W1 w7 base q V S T p gb cap (m+159+216*nN V S) f7 mk7 ts7 (I3 (I1 g 0) n ac) ls):=q9 (H7.more hm7);clear H7 hm7 hml;obtain⟨⟨⟨o0,o1,o2,o3⟩,c0,c1,c2,c3,c4,c5,c6,c7,c8,c9,c10,c11,c12,c13,c14⟩,d0,d1,d2⟩:=hrule _ (HM7.sr HOP.out);obtain⟨olt,qlt,dlt⟩:=(HM7.sr HOP.out).lt;have x0:=Blk.cell HXB7.out 1;have x1:=Blk.cell HXB7.out 2;have xlt:=Blk.lt HXB7.out;go_wp2_with fail
       have H8:=q9 HM7.drew;clear o0 o1 o2 o3 c0 c1 c2 c3 c4 c5 c6 c7 c8 c9 c10 c11 c12 c13 c14 d0 d1 d2 olt qlt dlt x0 x1 xlt
       have hrule3:∀ W:World,SR13 W ob lo q p V S T (I3 (I1 g 0) n ac) kd (x.s:Int) (u9:Int) (v9:Int)/\Blk W xb 56 #[I (x.s:Int),I (x.u:Int),I (x.v:Int),I (x.l:Int),.bool true]->(((W.cell? (I1 ob 0)=some (I kd))/\W.cell? (I1 q 10)=some (I V)/\W.cell? (I1 q 11)=some (I S)/\W.cell? (I1 q 12)=some (I T)/\W.cell? (I1 q 13)=some (I4 p))/\W.cell? (I1 xb 1)=some (I (x.u:Int))/\W.cell? (I1 xb 2)=some (I (x.v:Int))):=fun W h=>by
        obtain⟨⟨⟨o0,o1,o2,o3⟩,c0,c1,c2,c3,c4,c5,c6,c7,c8,c9,c10,c11,c12,c13,c14⟩,d0,d1,d2⟩:=hrule W h.1;exact⟨⟨o0,c10,c11,c12,c13⟩,Blk.cell h.2 1,Blk.cell h.2 2⟩
       have qlt:=(H8.sr HOP.out).lt.2.1;have xlt:=Blk.lt HXB7.out;have HXB8:Hid (Blk w7.drew xb 56 #[I (x.s:Int),I (x.u:Int),I (x.v:Int),I (x.l:Int),.bool true]):=q9 (Blk.drew HXB7.out);obtain⟨⟨o0,c10,c11,c12,c13⟩,x1,x2⟩:=hrule3 _ ⟨H8.sr HOP.out,HXB8.out⟩;clear hrule
       go_region_held3 (fun W=>SR13 W ob lo q p V S T (I3 (I1 g 0) n ac) kd (x.s:Int) (u9:Int) (v9:Int)/\Blk W xb 56 #[I (x.s:Int),I (x.u:Int),I (x.v:Int),I (x.l:Int),.bool true]) (first|(with_reducible assumption)|(with_reducible exact⟨H9.out.sr HOP.out,HXB9.out⟩)|(with_reducible exact⟨H8.out.sr HOP.out,HXB8.out⟩))
        (first
         |(go_at_call 39;((with_reducible refine(Qe8 H8.out.pw.ta HUV.out.2.1 HUV.out.2.2.1 (Nat.ne_of_lt HUV.out.1) (by omega)).mono ?_);rintro e w8 ⟨rfl,A8,O8⟩;have H9:=q9 (H8.out.next A8 O8);have HXB9:=q9 (Blk.ta HXB8.out H8.out.pw.ta O8 (by decide) (by decide)))))
       clear H8 HM7 HXB7 HXB8 HXB9 hrule3 o0 c10 c11 c12 c13 x1 x2 xlt qlt;have HG9:=q9 (HG7.1.gone HR.out HG.er HG7.2 HIX.out);clear HG7;have hrule:=SR13.rule ob lo q p V S T (I3 (I1 g 0) n ac) kd (x.s:Int) (u9:Int) (v9:Int);obtain⟨⟨⟨o0,o1,o2,o3⟩,c0,c1,c2,c3,c4,c5,c6,c7,c8,c9,c10,c11,c12,c13,c14⟩,d0,d1,d2⟩:=hrule _ (H9.sr HOP.out);obtain⟨olt,qlt,dlt⟩:=(H9.sr HOP.out).lt
       have wq1:IntKind.i64.wrap ((i:Int)+1)=(i:Int)+1:=IntWalk.i64_in _ (by omega)
       have iac:i<=ac:=by omega
       have j0:(0:Int)<=(i:Int)+1:=by omega
       have j1:(i:Int)+1<=(n:Int):=by omega
       have jt:((i:Int)+1).toNat=i+1:=by omega
       obtain⟨ad,had⟩:∃ ad,(if ac=i+1 then some ((I1 g 0):Addr) else some ⟨g,(i+1)*5,none⟩)=some ad:=by split<;>exact⟨_,rfl⟩
       have HSRC:Hid (∀ W:World,EW W base (I3 (I1 g 0) n ac) ls->∀ (j:Nat) (u:Value),(Qu (ls.drop (i+1)))[j]?=some u->W.cell? (ad.add j)=some u):=q9 (by
        intro W hW j u hj
        by_cases hac:ac=i+1
        . have:ls.drop (i+1)=[]:=List.drop_eq_nil_of_le (by have:=HN.out;omega)
          rw[this] at hj;cases hj
        . rw[if_neg hac] at had
          injection had with had;rw[<-had];exact hW.src_drop (i+1) j u hj)
       go_wp2_with fail
       clear o0 o1 o2 o3 c0 c1 c2 c3 c4 c5 c6 c7 c8 c9 c10 c11 c12 c13 c14 d0 d1 d2 olt qlt dlt;have H10:=q9 H9.drew;obtain⟨⟨⟨o0,o1,o2,o3⟩,c0,c1,c2,c3,c4,c5,c6,c7,c8,c9,c10,c11,c12,c13,c14⟩,d0,d1,d2⟩:=hrule _ (H10.sr HOP.out);obtain⟨olt,qlt,dlt⟩:=(H10.sr HOP.out).lt
       refine QcL (fun W=>SR13 W ob lo q p V S T (I3 (I1 g 0) n ac) kd (x.s:Int) (u9:Int) (v9:Int)) (fun j=>decide (19<=j)) (by kernel_rfl) ?_ (fun hHeld=>?_)
       . exact H10.sr HOP
       refine q9P 0 rfl ?_
       refine q9P 2 rfl ?_
       refine q9P 3 rfl ?_
       refine q9P 4 rfl ?_
       refine q9L 5 rfl ?_
       refine q9P 6 rfl ?_
       refine q9P 7 rfl ?_
       refine q9P 9 rfl ?_
       refine q9P 10 rfl ?_
       refine q9P 11 rfl ?_
       refine q9L 12 rfl ?_
       refine q9P 13 rfl ?_
       refine q9P 14 rfl ?_
       refine q9P 15 rfl ?_
       refine q9T 1 rfl fun K hK=>?_
       go_simp
       refine hK.out _ _ ?_ (fun hHeld=>?_)
       . (try dsimp only);exact(H9.alloc _).drew.sr HOP
       clear hK K;try simp only[Act.put,q98]
       refine q9T 8 rfl fun K hK=>?_
       refine QL (l2:=ls.take i) (by rfl) _ _ (by rfl) rfl (EW.empty w8).drew (I1 g 0) i ac (by rw[List.length_take];have:=HN.out;omega) rfl ((H9.alloc (.cells #[] 56)).drew.pw.ew.src_take i) (by simp;have:=HLN.out;omega) (by simp) ?_
       intro va wa hOa hga
       have HBa:=q9 (((Below.refl _ _).alloc (Nat.le_refl _) (.cells #[] 56)).drew.grown hga (by simp) (fun r hr=>((EW.empty w8).drew.lt r hr).1))
       have Ha:=q9 (H9.below HBa.out);rw[List.nil_append] at hOa;have HOa:=q9 hOa;obtain⟨ava,aca,hva⟩:=hOa.slice;obtain⟨na,hna⟩:∃ N,(ls.take i).length=N:=⟨_,rfl⟩;rw[hna] at hva;subst hva;clear hga hOa hna
       refine hK.out _ _ ?_ (fun hHeld=>?_)
       . (try dsimp only);exact Ha.sr HOP
       clear hK K;try simp only[Act.put,q98]
       refine q9T 16 rfl fun K hK=>?_
       refine QL (l2:=ls.drop (i+1)) (by rfl) _ _ (by rfl) rfl HOa.out ad (n-(i+1)) (ac-(i+1)) (by rw[List.length_drop];have:=HN.out;omega) rfl (HSRC.out _ Ha.pw.ew) (by simp;have:=HLN.out;have:=HN.out;omega) HBa.size ?_
       intro vb wb hOb hgb
       have HBb:=q9 (HBa.grown hgb HBa.size (fun r hr=>(HOa.lt r hr).1))
       have Hb:=q9 (H9.below HBb.out);rw[Qbj] at hOb;have HOb:=q9 (hOb.less H9.pw.size);obtain⟨avb,acb,hvb⟩:=hOb.slice;obtain⟨nb,hnb⟩:∃ N,(ls.eraseIdx i).length=N:=⟨_,rfl⟩;rw[hnb] at hvb;subst hvb;have y7:=Blk.cell Hb.pw.pq 14;have y8:=Blk.frozen Hb.pw.pq 14;have y9:=Hb.pw.pq.lt;clear hgb hOb hnb
       refine hK.out _ _ ?_ (fun hHeld=>?_)
       . (try dsimp only);exact Hb.sr HOP
       clear hK K;try simp only[Act.put,q98]
       refine q9P 17 rfl ?_
       refine q9P 18 rfl ?_
       refine Till.ready (rs:=[19]) (by kernel_rfl) (by simp) ?_
       refine Qc.last rfl (by rfl) (fun K hK=>?_) ?_
       rotate_left
       . exact Qc.nil
       go_simp
       refine hK.out _ _ ?_;clear hK K;try simp only[Act.put,q98]
       refine Till.done (by kernel_rfl) ?_ _
       clear hrule o0 o1 o2 o3 c0 c1 c2 c3 c4 c5 c6 c7 c8 c9 c10 c11 c12 c13 c14 d0 d1 d2 olt qlt dlt;have Hc:=q9 (Hb.list HOb.out);clear y7 y8 y9;go_wp2_with fail
       go_end0
       exact⟨rfl,_,mk7,ts7,_,_,_,(HX1.over Hc.out).more (by omega),HG9.out,fun e1=>by have:=HK1.out;omega⟩
 cases e3:(kd==3)
 . as_aux_lemma=>
    have HE1:Hid (¬ kd=1):=q9 (by simpa using e1)
    go_wp2_with fail
    have Hd:=q9 H4.drew;clear H4 o0 o1 o2 o3 c0 c1 c2 c3 c4 c5 c6 c7 c8 c9 c10 c11 c12 c13 c14 d0 d1 d2 olt qlt dlt;obtain⟨⟨⟨o0,o1,o2,o3⟩,c0,c1,c2,c3,c4,c5,c6,c7,c8,c9,c10,c11,c12,c13,c14⟩,d0,d1,d2⟩:=hrule _ (Hd.sr HOP.out);obtain⟨olt,qlt,dlt⟩:=(Hd.sr HOP.out).lt
    refine wp_region_held_drew (S:=(fun W=>SR13 W ob lo q p V S T (.slice av n ac) kd (s9:Int) (u9:Int) (v9:Int))) (by kernel_rfl) ?_ (fun hHeld=>?_)
    . exact Hd.sr HOP
    refine q9N 0 rfl ?_
    refine q9N 1 rfl ?_
    refine q9N 2 rfl ?_
    refine q9N 3 rfl ?_
    refine q9F 4 rfl ?_
    refine q9F 5 rfl ?_
    refine q9N 6 rfl ?_
    refine q9N 7 rfl ?_
    refine q9F 8 rfl ?_
    refine q9F 9 rfl ?_
    refine q9F 10 rfl ?_
    refine q9F 11 rfl ?_
    refine q9F 12 rfl ?_
    refine q9F 13 rfl ?_
    refine q9F 14 rfl ?_
    refine q9F 15 rfl ?_
    refine q9F 16 rfl ?_
    refine q9F 17 rfl ?_
    refine q9F 18 rfl ?_
    refine q9F 19 rfl ?_
    refine q9N 20 rfl ?_
    refine q9N 21 rfl ?_
    refine wpAnyH_done (by kernel_rfl) ?_ _
    clear hrule o0 o1 o2 o3 c0 c1 c2 c3 c4 c5 c6 c7 c8 c9 c10 c11 c12 c13 c14 d0 d1 d2 olt qlt dlt;go_wp2_with fail
    go_end0
    exact⟨rfl,f,mk,ts,_,ls,qq,(HX1.over Hd).more (by omega),HG,fun e1 s' u' v' e2 e3 e4 h1 h2 h3 h4 h5=>absurd e1 HE1⟩
 . as_aux_lemma=>
    have hk1:kd=3:=by simpa using e3
    have HK1:=q9 hk1;clear hk1
    by_cases gi:0<=iI
    rotate_left
    . have HGD:=q9 (decide_eq_false gi)
      go_wp2_with fail
      have gd:=HGD.out;have Hd:=q9 H4.drew;clear H4 o0 o1 o2 o3 c0 c1 c2 c3 c4 c5 c6 c7 c8 c9 c10 c11 c12 c13 c14 d0 d1 d2 olt qlt dlt;obtain⟨⟨⟨o0,o1,o2,o3⟩,c0,c1,c2,c3,c4,c5,c6,c7,c8,c9,c10,c11,c12,c13,c14⟩,d0,d1,d2⟩:=hrule _ (Hd.sr HOP.out);obtain⟨olt,qlt,dlt⟩:=(Hd.sr HOP.out).lt
      refine wp_region_held_drew (S:=(fun W=>SR13 W ob lo q p V S T (.slice av n ac) kd (s9:Int) (u9:Int) (v9:Int))) (by kernel_rfl) ?_ (fun hHeld=>?_)
      . exact Hd.sr HOP
      refine q9N 0 rfl ?_
      refine q9N 1 rfl ?_
      refine q9N 2 rfl ?_
      refine q9N 3 rfl ?_
      refine q9N 4 rfl ?_
      refine q9N 5 rfl ?_
      refine q9N 6 rfl ?_
      refine q9N 7 rfl ?_
      refine q9F 8 rfl ?_
      refine q9F 9 rfl ?_
      refine q9F 10 rfl ?_
      refine q9F 11 rfl ?_
      refine q9F 12 rfl ?_
      refine q9F 13 rfl ?_
      refine q9F 14 rfl ?_
      refine q9F 15 rfl ?_
      refine q9F 16 rfl ?_
      refine q9F 17 rfl ?_
      refine q9F 18 rfl ?_
      refine q9F 19 rfl ?_
      refine q9N 20 rfl ?_
      refine q9N 21 rfl ?_
      refine wpAnyH_done (by kernel_rfl) ?_ _
      clear hrule o0 o1 o2 o3 c0 c1 c2 c3 c4 c5 c6 c7 c8 c9 c10 c11 c12 c13 c14 d0 d1 d2 olt qlt dlt;go_wp2_with fail
      go_end0
      exact⟨rfl,f,mk,ts,_,ls,qq,(HX1.over Hd.out).more (by omega),HG.out,fun e1 s' u' v' e2 e3 e4 h1 h2 h3 h4 h5=>by have:=HK1.out;omega⟩
    obtain⟨i,x,hiI,hi,ex⟩:=HI.pos gi;subst ex;subst hiI;have hok9:=HG.er.ok x (List.mem_of_getElem? hi)
    have HUV:Hid (x.u<x.v/\(x.u:Int)<V/\(x.v:Int)<V/\(x.l:Int)<lv V):=q9 ⟨hok9.1,by omega,hok9.2.1,hok9.2.2.2⟩
    have iLn:i<ls.length:=(List.getElem?_eq_some_iff.1 hi).1;have HIX:=q9 hi;obtain⟨g,cp9,hv5,_,glt,_,z0,z1,z2,z3,z4⟩:=H4.pw.ew.at hi;injection hv5 with ev1 ev2 ev3;subst ev1 ev3
    have iI:(i:Int)<(n:Int):=by have:=HN.out;omega
    have inn:(0:Int)<=(i:Int):=by omega
    have hcap:n<=ac:=by
     rcases H4.pw.ew.shape with ⟨e,_⟩|⟨_,_,_,e,_,_,h1,_⟩
     . cases e
     . injection e with _ _ e3
       rw[<-e3] at h1;rw[HN.out] at h1;exact h1
    obtain⟨xt,hxt⟩:∃ xt,x.t=xt:=⟨_,rfl⟩;have HXT:=q9 hxt;rw[hxt] at z4;clear hi ev2 hok9 hxt HI i0 i1 iLn;clear hrule;have hrule:=SR13.rule ob lo q p V S T (I3 (I1 g 0) n ac) kd (x.s:Int) (u9:Int) (v9:Int)
    have wl:IntKind.i64.wrap ((x.l:Int)+1)=(x.l:Int)+1:=IntWalk.i64_in _ (by have:=HUV.out;have:=(QF V).2;omega)
    go_wp2_with fail
    clear z0 z1 z2 z4 o0 o1 o2 o3 c0 c1 c2 c3 c4 c5 c6 c7 c8 c9 c10 c11 c12 c13 c14 d0 d1 d2 olt qlt dlt;have H5:=q9 H4.drew
    have HZ3:Hid (∀ W:World,SR13 W ob lo q p V S T (I3 (I1 g 0) n ac) kd (x.s:Int) (u9:Int) (v9:Int)/\EW W base (I3 (I1 g 0) n ac) ls->W.cell? (I1 g (i*5+3))=some (I (x.l:Int))/\W.cell? (I1 g (i*5+4))=some (.bool xt)):=q9 fun W h=>by
     obtain⟨g',c',e,_,_,_,_,_,_,y3,y4⟩:=h.2.at HIX.out;injection e with e1 _ _;injection e1 with e1;injection e1 with e1;subst e1
     exact⟨y3,by rw[y4,HXT.out]⟩
    obtain⟨N,hN9⟩:∃ N,lv V=N:=⟨_,rfl⟩;have HNN:=q9 hN9;clear hN9 z3 glt
    have hrule2:∀ W:World,SR13 W ob lo q p V S T (I3 (I1 g 0) n ac) kd (x.s:Int) (u9:Int) (v9:Int)/\EW W base (I3 (I1 g 0) n ac) ls->(((W.cell? (I1 ob 0)=some (I kd)/\W.cell? (I1 lo 0)=some (I V)/\W.cell? (I1 lo 1)=some (I S)/\W.cell? (I1 lo 2)=some (I T))/\W.cell? (I1 q 14)=some (I3 (I1 g 0) n ac))/\W.cell? (I1 g (i*5+3))=some (I (x.l:Int))):=fun W h=>by
     obtain⟨⟨⟨o0,o1,o2,o3⟩,c0,c1,c2,c3,c4,c5,c6,c7,c8,c9,c10,c11,c12,c13,c14⟩,d0,d1,d2⟩:=hrule W h.1;exact⟨⟨⟨o0,d0,d1,d2⟩,c14⟩,(HZ3 W h).1⟩
    have iI2:¬ ((i:Int)<0):=by omega
    obtain⟨⟨⟨o0,d0,d1,d2⟩,c14⟩,z3⟩:=hrule2 _ ⟨H5.sr HOP.out,H5.pw.ew⟩;have qlt:=(H5.sr HOP.out).lt.2.1
    refine wp_region_held_drew (S:=(fun W=>SR13 W ob lo q p V S T (I3 (I1 g 0) n ac) kd (x.s:Int) (u9:Int) (v9:Int)/\EW W base (I3 (I1 g 0) n ac) ls)) (by kernel_rfl) ?_ (fun hHeld=>?_)
    . exact⟨H5.sr HOP,H5.pw.ew⟩
    refine q9N 0 rfl ?_
    refine q9N 1 rfl ?_
    refine q9N 2 rfl ?_
    refine q9N 3 rfl ?_
    refine q9N 4 rfl ?_
    refine q9N 5 rfl ?_
    refine q9N 6 rfl ?_
    refine q9N 7 rfl ?_
    refine q9N 8 rfl ?_
    refine q9N 9 rfl ?_
    refine q9N 10 rfl ?_
    refine q9N 11 rfl ?_
    refine q9N 12 rfl ?_
    refine q9N 13 rfl ?_
    refine q9N 14 rfl ?_
    refine q9N 15 rfl ?_
    refine q9N 16 rfl ?_
    refine q9N 17 rfl ?_
    refine q9R 18 rfl fun K hK=>?_
    go_simp
    (refine(QM V S T HR.out _).mono ?_;rintro e w5 ⟨rfl,B5⟩;rw[HNN.out];have H6:=q9 (H5.below B5);clear B5)
    go_wp2_with fail
    refine hK.out _ _ ?_ (fun hHeld=>?_)
    . (try dsimp only);(first|(with_reducible exact⟨H6.out.sr HOP.out,H6.out.pw.ew⟩)|(with_reducible exact⟨H5.out.sr HOP.out,H5.out.pw.ew⟩))
    clear hK K;try simp only[Act.put,q98]
    refine q9N 19 rfl ?_
    refine q9N 20 rfl ?_
    refine q9N 21 rfl ?_
    refine wpAnyH_done (by kernel_rfl) ?_ _
    clear H4 H5 hrule2 o0 d0 d1 d2 c14 z3 qlt
    by_cases hlv:(x.l:Int)+1<N
    rotate_left
    . go_wp2_with fail
      go_end0
      exact⟨rfl,f,mk,ts,_,ls,qq,(HX1.over H6.out).more (by omega),HG.out,fun e1=>by have:=HK1.out;omega⟩
    have HLV:Hid (((x.l+1:Nat):Int)<lv V):=q9 (by rw[HNN.out];omega)
    obtain⟨⟨⟨o0,o1,o2,o3⟩,c0,c1,c2,c3,c4,c5,c6,c7,c8,c9,c10,c11,c12,c13,c14⟩,d0,d1,d2⟩:=hrule _ (H6.sr HOP.out);obtain⟨olt,qlt,dlt⟩:=(H6.sr HOP.out).lt;obtain⟨z3,z4⟩:=HZ3.out _ ⟨H6.sr HOP.out,H6.pw.ew⟩
    have glt:g<w5.heap.size:=by
     obtain⟨_,cs,hz⟩:=H6.pw.ew.own g rfl;exact hz.lt
    cases xt
    . as_aux_lemma=>
       go_wp2_with fail
       clear z3 z4 glt o0 o1 o2 o3 c0 c1 c2 c3 c4 c5 c6 c7 c8 c9 c10 c11 c12 c13 c14 d0 d1 d2 olt qlt dlt;have H7:=q9 H6.drew;clear H6;obtain⟨⟨⟨o0,o1,o2,o3⟩,c0,c1,c2,c3,c4,c5,c6,c7,c8,c9,c10,c11,c12,c13,c14⟩,d0,d1,d2⟩:=hrule _ (H7.sr HOP.out);obtain⟨olt,qlt,dlt⟩:=(H7.sr HOP.out).lt
       have HPL:=q9 (Qkl H7.pw.ta HG.out HIX.out HXT.out HLV.out (by omega))
       go_region_held3 (fun W=>SR13 W ob lo q p V S T (I3 (I1 g 0) n ac) kd (x.s:Int) (u9:Int) (v9:Int)) (first|(with_reducible assumption)|(with_reducible exact H8.out.sr HOP.out)|(with_reducible exact H7.out.sr HOP.out))
        (first
         |(go_at_call 40;((with_reducible refine HPL.out.mono ?_);rintro e w7 ⟨f7,mk7,ts7,rfl,A7,G7,_,O7⟩;have H8:=q9 (H7.out.next A7 O7);have HG7:=q9 G7)))
       clear HPL H7 o0 o1 o2 o3 c0 c1 c2 c3 c4 c5 c6 c7 c8 c9 c10 c11 c12 c13 c14 d0 d1 d2 olt qlt dlt
       have H9:Hid (PX13 W1 (w7.setCell (I1 g (i*5+1+2)) (I ((x.l:Int)+1))) base q V S T p gb cap (m+135+32*nN V S) f7 mk7 ts7 (I3 (I1 g 0) n ac) (ls.set i { x with l:=x.l+1 })):=q9 (by
        have h:=H8.out
        have e9:(I ((x.l:Int)+1))=I ((x.l+1:Nat):Int):=by rw[Int.natCast_add];rfl
        rw[<-HN.out] at h |-;rw[e9]
        exact h.turned (j:=3) (y:={ x with l:=x.l+1 }) (uv:=I ((x.l+1:Nat):Int)) HIX (by decide) rfl)
       obtain⟨_,_,hown⟩:=H8.pw.ew.own g rfl;have z1:=hown.frozen (i*5+3);have glt:=hown.lt;obtain⟨z3,z4⟩:=HZ3.out _ ⟨H8.sr HOP.out,H8.pw.ew⟩;clear hown;obtain⟨⟨⟨o0,o1,o2,o3⟩,c0,c1,c2,c3,c4,c5,c6,c7,c8,c9,c10,c11,c12,c13,c14⟩,d0,d1,d2⟩:=hrule _ (H8.sr HOP.out);obtain⟨olt,qlt,dlt⟩:=(H8.sr HOP.out).lt;go_wp2_with fail
       go_end0
       exact⟨rfl,f7,mk7,ts7,_,_,_,(HX1.over H9.out).more (by omega),HG7.out,fun e1=>by have:=HK1.out;omega⟩
    . as_aux_lemma=>
       go_wp2_with fail
       clear z3 z4 glt o0 o1 o2 o3 c0 c1 c2 c3 c4 c5 c6 c7 c8 c9 c10 c11 c12 c13 c14 d0 d1 d2 olt qlt dlt;have H7:=q9 H6.drew;clear H6;obtain⟨⟨⟨o0,o1,o2,o3⟩,c0,c1,c2,c3,c4,c5,c6,c7,c8,c9,c10,c11,c12,c13,c14⟩,d0,d1,d2⟩:=hrule _ (H7.sr HOP.out);obtain⟨olt,qlt,dlt⟩:=(H7.sr HOP.out).lt
       have HPL:=q9 (Qiy H7.pw.ta HG.out HIX.out HXT.out HLV.out (by omega))
       go_region_held3 (fun W=>SR13 W ob lo q p V S T (I3 (I1 g 0) n ac) kd (x.s:Int) (u9:Int) (v9:Int)) (first|(with_reducible assumption)|(with_reducible exact H8.out.sr HOP.out)|(with_reducible exact H7.out.sr HOP.out))
        (first
         |(go_at_call 22;((with_reducible refine HPL.out.mono ?_);rintro e w7 ⟨f7,mk7,ts7,rfl,A7,G7,_,O7⟩;have H8:=q9 (H7.out.next A7 O7);have HG7:=q9 G7)))
       clear HPL H7 o0 o1 o2 o3 c0 c1 c2 c3 c4 c5 c6 c7 c8 c9 c10 c11 c12 c13 c14 d0 d1 d2 olt qlt dlt
       have H9:Hid (PX13 W1 (w7.setCell (I1 g (i*5+1+2)) (I ((x.l:Int)+1))) base q V S T p gb cap (m+114*nN V S+52) f7 mk7 ts7 (I3 (I1 g 0) n ac) (ls.set i { x with l:=x.l+1 })):=q9 (by
        have h:=H8.out
        have e9:(I ((x.l:Int)+1))=I ((x.l+1:Nat):Int):=by rw[Int.natCast_add];rfl
        rw[<-HN.out] at h |-;rw[e9]
        exact h.turned (j:=3) (y:={ x with l:=x.l+1 }) (uv:=I ((x.l+1:Nat):Int)) HIX (by decide) rfl)
       obtain⟨_,_,hown⟩:=H8.pw.ew.own g rfl;have z1:=hown.frozen (i*5+3);have glt:=hown.lt;obtain⟨z3,z4⟩:=HZ3.out _ ⟨H8.sr HOP.out,H8.pw.ew⟩;clear hown;obtain⟨⟨⟨o0,o1,o2,o3⟩,c0,c1,c2,c3,c4,c5,c6,c7,c8,c9,c10,c11,c12,c13,c14⟩,d0,d1,d2⟩:=hrule _ (H8.sr HOP.out);obtain⟨olt,qlt,dlt⟩:=(H8.sr HOP.out).lt;go_wp2_with fail
       go_end0
       exact⟨rfl,f7,mk7,ts7,_,_,_,(HX1.over H9.out).more (by omega),HG7.out,fun e1=>by have:=HK1.out;omega⟩
end
section
variable {w:World}{base q p gb cap m:Nat}{V S T kd:Int}{f:Nat->Int}{mk:Nat->Nat}{ts:List Tp}{vl:Value}{ls:List E1}{qq:Nat->Nat->List Nat}
variable {s u v:Int}
theorem QeQ (h:PW13 w base q V S T p gb cap m f mk ts vl ls)(hG:LG V S T f mk ts ls qq)(hl:ls.length<=1000)(hn6:nN V S<=66)(hV6:V<=6)(hm:m<=99740000):
 Calls Tryz.prog 11 #[.pointer (some (I1 q 0)),vO13 kd s u v] w (QkV w base q V S T p gb cap (m+160+220*nN V S) (StK ls V S kd s u v)):=by
 by_cases hb:u=v\/u<0\/V<=u\/v<0\/V<=v\/s<0\/S<=s
 . exact Qiv h hG hl hb
 . obtain⟨u9,rfl⟩:∃ u9:Nat,u=(u9:Int):=⟨u.toNat,by omega⟩
   obtain⟨v9,rfl⟩:∃ u9:Nat,v=(u9:Int):=⟨v.toNat,by omega⟩
   obtain⟨s9,rfl⟩:∃ u9:Nat,s=(u9:Int):=⟨s.toNat,by omega⟩
   exact Qhr h hG hl hn6 hV6 hm (by omega) (by omega) (by omega) (by omega)
end
end Go.Proofs.YtaooglagddphnaaGreat
