/- HdLOrder -/
import Derived.Test.YtfpnjpbpfgjakaaGreatOHdY
namespace Go.Proofs.YtfpnjpbpfgjakaaGreat
open Go.RowKit Go.Proofs.Tryz
set_option maxRecDepth 100000
set_option maxHeartbeats 16000000
def Lo14 (w:World)(zb:Nat)(V S T:Int)(da:Option Addr)(dl dc:Nat)(oa:Option Addr)(ol oc:Nat)(base q p gb cap base2 q2 p2 gb2 cap2:Nat)(fo:Nat->O13)(r:Nat)(i:Value)(W:World):Prop:=
 ∃ (k:Nat) (f:Nat->Int) (mk:Nat->Nat) (ts:List Tp) (vl:Value) (ls bs:List E1) (qq:Nat->Nat->List Nat) (f2:Nat->Int) (mk2:Nat->Nat) (ts2:List Tp) (vl2:Value) (ls2 bs2:List E1) (qq2:Nat->Nat->List Nat),k<=ol/\i=I ((k:Nat):Int)/\
  Tw14 w W zb V S T da dl dc oa ol oc base q p gb cap base2 q2 p2 gb2 cap2 (1280+1460000*k) (1280+1460000*k) f mk ts vl ls bs qq f2 mk2 ts2 vl2 ls2 bs2 qq2/\Or14 V S (fun a b=>∃ j,j<k/\Pr14 V (fo j).u (fo j).v a b) ls bs/\Or14 V S (fun a b=>∃ j,j<k/\Pr14 V (fo ((j+r) % ol)).u (fo ((j+r) % ol)).v a b) ls2 bs2
def Lt14 (w:World)(zb:Nat)(V S T:Int)(da:Option Addr)(dl dc:Nat)(oa:Option Addr)(ol oc:Nat)(base q p gb cap base2 q2 p2 gb2 cap2 M K:Nat)(vl vl2:Value)(ls bs ls2 bs2:List E1)(i:Nat)(W:World):Prop:=
 ∃ (f:Nat->Int) (mk:Nat->Nat) (ts:List Tp) (qq:Nat->Nat->List Nat) (f2:Nat->Int) (mk2:Nat->Nat) (ts2:List Tp) (qq2:Nat->Nat->List Nat),Tw14 w W zb V S T da dl dc oa ol oc base q p gb cap base2 q2 p2 gb2 cap2 (M+K*i) (M+K*i) f mk ts vl ls bs qq f2 mk2 ts2 vl2 ls2 bs2 qq2
def La14 (w:World)(zb:Nat)(V S T:Int)(da:Option Addr)(dl dc:Nat)(oa:Option Addr)(ol oc:Nat)(base q p gb cap base2 q2 p2 gb2 cap2 M K:Nat)(vl vl2:Value)(ls bs ls2 bs2 bq:List E1)(n:Nat)(c i:Value)(W:World):Prop:=
 ∃ j:Nat,j<=n/\i=I ((j:Nat):Int)/\c=I ((((bq.take j).filter fun x=>x.t).length:Nat):Int)/\Lt14 w zb V S T da dl dc oa ol oc base q p gb cap base2 q2 p2 gb2 cap2 M K vl vl2 ls bs ls2 bs2 j W
def Jv14 (w:World)(zb:Nat)(V S T:Int)(da:Option Addr)(dl dc:Nat)(oa:Option Addr)(ol oc:Nat)(base q p gb cap base2 q2 p2 gb2 cap2 M K:Nat)(vl vl2:Value)(ls bs ls2 bs2:List E1)(i:Value)(W:World):Prop:=
 ∃ j:Nat,(j:Int)<=V/\i=I ((j:Nat):Int)/\Lt14 w zb V S T da dl dc oa ol oc base q p gb cap base2 q2 p2 gb2 cap2 M K vl vl2 ls bs ls2 bs2 j W
structure SG14 (W:World)(q:Nat)(V S T:Int)(p:Nat)(vl:Value)(eb:Nat)(s u v l:Int)(t:Bool):Prop where
 a:PB13 W q V S T p vl
 b:Blk W eb 67 #[I s,I u,I v,I l,.bool t]
theorem SG14.cells {W:World}{q:Nat}{V S T:Int}{p:Nat}{vl:Value}{eb:Nat}{s u v l:Int}{t:Bool}(h:SG14 W q V S T p vl eb s u v l t):W.cell? (I1 eb 0)=some (I s)/\W.cell? (I1 q 10)=some (I V)/\W.cell? (I1 q 11)=some (I S)/\W.cell? (I1 q 12)=some (I T)/\W.cell? (I1 q 13)=some (I4 p):=⟨h.b.cell 0,Blk.cell h.a 10,Blk.cell h.a 11,Blk.cell h.a 12,Blk.cell h.a 13⟩
theorem Qp2 {bq:List E1}{j:Nat}{y:E1}(h:bq[j]?=some y):((bq.take (j+1)).filter fun x=>x.t).length=((bq.take j).filter fun x=>x.t).length+if y.t=true then 1 else 0:=by
 rw[List.take_add_one,h,List.filter_append,List.length_append]
 cases hy:y.t<;>simp [hy]
structure SO14 (W:World)(zb:Nat)(V S T:Int)(da:Option Addr)(dl dc ob off ol oc k k2:Nat)(o o2:O13):Prop where
 z:Blk W zb 27 #[I V,I S,I T,.slice da dl dc,I3 (I1 ob off) ol oc]
 a:W.cell? (I1 ob (off+k*3))=some (I o.kd)/\W.cell? (I1 ob (off+k*3+1))=some (I o.u)/\W.cell? (I1 ob (off+k*3+2))=some (I o.v)
 b:W.cell? (I1 ob (off+k2*3))=some (I o2.kd)/\W.cell? (I1 ob (off+k2*3+1))=some (I o2.u)/\W.cell? (I1 ob (off+k2*3+2))=some (I o2.v)
theorem SO14.below {W w':World}{zb:Nat}{V S T:Int}{da:Option Addr}{dl dc ob off ol oc k k2:Nat}{o o2:O13}(h:SO14 W zb V S T da dl dc ob off ol oc k k2 o o2)(hb:Below W.heap.size W w'):SO14 w' zb V S T da dl dc ob off ol oc k k2 o o2:=
 ⟨h.z.below hb h.z.lt,⟨Qi hb h.a.1,Qi hb h.a.2.1,Qi hb h.a.2.2⟩,⟨Qi hb h.b.1,Qi hb h.b.2.1,Qi hb h.b.2.2⟩⟩
theorem SO14.cells {W:World}{zb:Nat}{V S T:Int}{da:Option Addr}{dl dc ob off ol oc k k2:Nat}{o o2:O13}(h:SO14 W zb V S T da dl dc ob off ol oc k k2 o o2):(W.cell? (I1 zb 4)=some (I3 (I1 ob off) ol oc))/\(W.cell? (I1 ob (off+k*3))=some (I o.kd)/\W.cell? (I1 ob (off+k*3+1))=some (I o.u)/\W.cell? (I1 ob (off+k*3+2))=some (I o.v))/\(W.cell? (I1 ob (off+k2*3))=some (I o2.kd)/\W.cell? (I1 ob (off+k2*3+1))=some (I o2.u)/\W.cell? (I1 ob (off+k2*3+2))=some (I o2.v)):=⟨h.z.cell 4,h.a,h.b⟩
theorem Qp1 {R:Nat->Prop}(k:Nat):(∃ j,j<k+1/\R j)↔(∃ j,j<k/\R j)\/R k:=⟨fun⟨j,hj,h⟩=>by
 by_cases e:j=k
 . subst e;exact .inr h
 . exact .inl ⟨j,by omega,h⟩,fun h=>h.elim (fun⟨j,hj,h⟩=>⟨j,by omega,h⟩) fun h=>⟨k,Nat.lt_succ_self k,h⟩⟩
section
variable {V S T:Int}{da oa:Option Addr}{dl dc ol oc:Nat}{fd:Nat->Nat}{fo:Nat->O13}{turn:Int}
theorem Qqc (w:World)(hD:QfW w da dl fd)(hO:Qmx w oa ol fo):
 I0 8 #[vC13 V S T da dl dc oa ol oc,I turn] w fun e w'=>e=.returned (.bool true)/\Below w.heap.size w w':=by
 have HO:=q9 hO;have HD:=q9 hD;clear hO hD;have HB1:Hid (Below w.heap.size w (w.alloc (.cells #[I V,I S,I T,.slice da dl dc,.slice oa ol oc] 27))):=q9 Jc;have HZ1:Hid (Blk (w.alloc (.cells #[I V,I S,I T,.slice da dl dc,.slice oa ol oc] 27)) w.heap.size 27 #[I V,I S,I T,.slice da dl dc,.slice oa ol oc]):=q9 (Blk.new _ _ _)
 go_enter func8,ntmps8
 go_upto_region 1 with fail
 generalize (w.alloc (.cells #[I V,I S,I T,.slice da dl dc,.slice oa ol oc] 27))=W1 at HB1 HZ1 |-;generalize w.heap.size=zb at HZ1 |-;have z0:=HZ1.cell 0;have z1:=HZ1.cell 1;have z2:=HZ1.cell 2;have z3:=HZ1.cell 3;have z4:=HZ1.cell 4;have zlt:=HZ1.lt;go_wp2_with fail
 refine(Qf3 V S T da dl dc oa ol oc _).mono ?_;rintro e w2 ⟨rfl,hb2⟩;have HB2:=q9 (HB1.trans (hb2.mono HB1.size));have HZ2:=q9 (HZ1.below hb2 HZ1.lt);clear HB1 HZ1 hb2
 cases hr:Qd4 V S T dl ol
 . go_wp2_with fail
   refine(Qo9 _).mono ?_;rintro e w3 ⟨rfl,hb3⟩;have HB3:=q9 (HB2.trans (hb3.mono HB2.size));go_wp2_with fail
   go_ret;exact⟨rfl,HB3⟩
 have HG:=q9 (Qif hr);clear hr;have z0:=HZ2.cell 0;have z1:=HZ2.cell 1;have z2:=HZ2.cell 2;have z3:=HZ2.cell 3;have z4:=HZ2.cell 4;have zlt:=HZ2.lt
 by_cases b0:turn<0
 . go_wp2_with fail
   refine(Qo9 _).mono ?_;rintro e w3 ⟨rfl,hb3⟩;have HB3:=q9 (HB2.trans (hb3.mono HB2.size));go_wp2_with fail
   go_ret;exact⟨rfl,HB3⟩
 by_cases b1:(ol:Int)=0
 . have b2:ol=0:=by omega
   subst b2;go_wp2_with fail
   refine(Qo9 _).mono ?_;rintro e w3 ⟨rfl,hb3⟩;have HB3:=q9 (HB2.trans (hb3.mono HB2.size));go_wp2_with fail
   go_ret;exact⟨rfl,HB3⟩
 obtain⟨rr,hrr,hrl⟩:∃ r:Nat,Int.tmod turn (ol:Int)=(r:Int)/\r<ol:=by
  have h1:=Int.emod_nonneg turn b1
  have h2:=Int.emod_lt_of_pos turn (b:=(ol:Int)) (by omega)
  refine⟨(turn % (ol:Int)).toNat,?_,by omega⟩
  rw[Int.tmod_eq_emod_of_nonneg (by omega)];omega
 have HRR:=q9 (And.intro hrr hrl);have ob0:((ol:Int)==0)=false:=Jf b1;go_wp2_with fail
 have HZd:=q9 (HZ2.drew);have HBd:=q9 HB2.drew;clear HZ2 HB2 hrr
 have hrule:=fun(W:World) (h:Blk W zb 27 #[I V,I S,I T,.slice da dl dc,.slice oa ol oc])=>(show W.cell? (I1 zb 0)=some (I V)/\W.cell? (I1 zb 1)=some (I S)/\W.cell? (I1 zb 2)=some (I T)/\W.cell? (I1 zb 3)=some (.slice da dl dc)/\W.cell? (I1 zb 4)=some (.slice oa ol oc) from ⟨h.cell 0,h.cell 1,h.cell 2,h.cell 3,h.cell 4⟩)
 have z0:=HZd.cell 0;have z1:=HZd.cell 1;have z2:=HZd.cell 2;have z3:=HZd.cell 3;have z4:=HZd.cell 4;have zlt:=HZd.lt
 go_region_held3 (fun W=>Blk W zb 27 #[I V,I S,I T,.slice da dl dc,.slice oa ol oc]) (first|(with_reducible assumption)|(with_reducible exact HLb.out.z)|(with_reducible exact HLa.out.z)|(with_reducible exact HZd.out))
  (first
   |(go_at_call 11;((with_reducible refine(Qp3 HG.out HD.out HZd.out HBd.out).mono ?_);rintro e w3 ⟨base,q,p,gb,cap,f0,mk0,ts0,vl0,rfl,_,_,hL⟩;have HLa:=q9 hL))
   |(go_at_call 11;((with_reducible refine(Qp3 HG.out HD.out HLa.out.z HLa.out.be).mono ?_);rintro e w4 ⟨base2,q2,p2,gb2,cap2,f20,mk20,ts20,vl20,rfl,hb2,hbw,hL2⟩;have HLb:=q9 hL2))
   |fail)
 clear hrule
 obtain⟨ob,off,rfl,hcell⟩:=HO.out (by omega)
 have HT0:=q9 (Qp8 HLa.out HLb.out hbw hb2)
 have HRel:Hid (Lo14 w zb V S T da dl dc (some (I1 ob off)) ol oc base q p gb cap base2 q2 p2 gb2 cap2 fo rr (I 0) w4):=q9 ⟨0,_,_,_,_,_,_,_,_,_,_,_,_,_,_,Nat.zero_le _,rfl,HT0.out,Or14.nil fun a b h=>(by obtain⟨j,hj,_⟩:=h;omega),Or14.nil fun a b h=>(by obtain⟨j,hj,_⟩:=h;omega)⟩
 have z4:=HT0.a.z.cell 4;have zlt:=HT0.a.z.lt;have HC:=q9 hcell;clear HLa HLb HT0 hL hL2 hb2 hbw hcell HZd HBd
 have holI:(ol:Int)<=40:=by have:=HG.o;omega
 go_wp2_with fail
 go_loopw [45] (fun i wr=>Lo14 w zb V S T da dl dc (some (I1 ob off)) ol oc base q p gb cap base2 q2 p2 gb2 cap2 fo rr i wr) (fun i _=>ol-(intOf i).toNat)
 case atStart=>exact HRel.out
 case round=>
  clear HRel;obtain⟨k,f,mk,ts,vl,ls,bs,qq,f2,mk2,ts2,vl2,ls2,bs2,qq2,hk,rfl,hT,hP,hQ⟩:=hrel;have HT:=q9 hT;have HP:=q9 hP;have HQ:=q9 hQ;clear hT hP hQ
  by_cases hkl:k<ol
  . as_aux_lemma=>
    obtain⟨k2,hk2⟩:∃ j,(k+rr) % ol=j:=⟨_,rfl⟩
    have hk2l:k2<ol:=by rw[<-hk2];exact Nat.mod_lt _ (by omega)
    have HK2:=q9 hk2
    have tm2:Int.tmod ((k:Int)+(rr:Int)) (ol:Int)=(k2:Int):=by
     rw[Int.tmod_eq_emod_of_nonneg (by omega),<-hk2,Int.natCast_emod,Int.natCast_add]
    have tm1:=HRR.1;obtain⟨o,ho⟩:∃ o,fo k=o:=⟨_,rfl⟩;obtain⟨o2,ho2⟩:∃ o,fo k2=o:=⟨_,rfl⟩;have HOO:=q9 (And.intro ho ho2);have h1:=HC.out k hkl;have h2:=HC.out k2 hk2l;rw[ho] at h1;rw[ho2] at h2;have HS:Hid (SO14 wr zb V S T da dl dc ob off ol oc k k2 o o2):=q9 ⟨HT.a.z,⟨Qi HT.a.be h1.1,Qi HT.a.be h1.2.1,Qi HT.a.be h1.2.2⟩,⟨Qi HT.a.be h2.1,Qi HT.a.be h2.2.1,Qi HT.a.be h2.2.2⟩⟩
    have hkI:(k:Int)<(ol:Int):=by omega
    have hk0:(0:Int)<=(k:Int):=by omega
    have hk2I:(k2:Int)<(ol:Int):=by omega
    have hk20:(0:Int)<=(k2:Int):=by omega
    have rr0:(0:Int)<=(rr:Int):=by omega
    have ol0:¬ ol=0:=by omega
    have wkr:IntKind.i64.wrap ((k:Int)+(rr:Int))=(k:Int)+(rr:Int):=IntWalk.i64_in _ (by omega)
    have rrI:(rr:Int)<(ol:Int):=by have:=HRR.2;omega
    clear hk ho ho2 hk2 h1 h2;go_wp2_with fail
    have HSd:=q9 (HS.below Ja.drew)
    have hrule:=fun(W:World) (h:SO14 W zb V S T da dl dc ob off ol oc k k2 o o2)=>h.cells
    obtain⟨y0,⟨y1,y2,y3⟩,y4,y5,y6⟩:=HSd.cells
    refine QcL (fun W=>SO14 W zb V S T da dl dc ob off ol oc k k2 o o2) (fun j=>decide (23<=j)) (by kernel_rfl) ?_ (fun hHeld=>?_)
    . exact HSd
    refine q9P 0 rfl ?_
    refine q9L 1 rfl ?_
    refine q9P 2 rfl ?_
    refine q9P 3 rfl ?_
    refine q9L 4 rfl ?_
    refine q9P 5 rfl ?_
    refine q9L 6 rfl ?_
    refine q9P 7 rfl ?_
    refine q9P 8 rfl ?_
    refine q9P 9 rfl ?_
    refine q9L 10 rfl ?_
    refine q9P 11 rfl ?_
    refine q9P 12 rfl ?_
    refine q9P 13 rfl ?_
    refine q9P 14 rfl ?_
    refine q9L 15 rfl ?_
    refine q9P 16 rfl ?_
    refine q9P 17 rfl ?_
    refine q9P 18 rfl ?_
    refine q9L 19 rfl ?_
    refine Till.ready (rs:=[20,21]) (by kernel_rfl) (by simp) ?_
    refine Qc.cons rfl (fun K hK=>?_) ?_
    rotate_left
    . refine Qc.cons rfl (fun K hK=>?_) ?_
      rotate_left
      . exact Qc.nil
      go_simp
      refine hK.out _ _ ?_ (fun hHeld=>?_)
      . (try dsimp only);exact HSd.below Jc
      clear hK K;try simp only[Act.put,q98]
      refine q9T 20 rfl fun K hK=>?_
      go_simp
      refine hK.out _ _ ?_ (fun hHeld=>?_)
      . (try dsimp only);exact HSd.below (Ja.alloc Jb _ |>.alloc (by simp) _)
      clear hK K;try simp only[Act.put,q98]
      refine q9T 22 rfl fun K hK=>?_
      go_simp
      refine hK.out _ _ ?_ (fun hHeld=>?_)
      . (try dsimp only);exact HSd.below (Ja.alloc Jb _ |>.alloc (by simp) _)
      clear hK K;try simp only[Act.put,q98]
      refine Till.ready (rs:=[23]) (by kernel_rfl) (by simp) ?_
      refine Qc.last rfl (by rfl) (fun K hK=>?_) ?_
      rotate_left
      . exact Qc.nil
      go_simp
      refine hK.out _ _ ?_;clear hK K;try simp only[Act.put,q98]
      refine Till.done (by kernel_rfl) ?_ _
      have hb9:Below wr.heap.size wr ((wr.alloc (.cells #[I o2.kd,I o2.u,I o2.v] 33)).alloc (.cells #[I o.kd,I o.u,I o.v] 33)).drew:=(Jc.alloc (by simp) _).drew
      have ho1:Blk ((wr.alloc (.cells #[I o2.kd,I o2.u,I o2.v] 33)).alloc (.cells #[I o.kd,I o.u,I o.v] 33)).drew (wr.heap.size+1) 33 #[I o.kd,I o.u,I o.v]:=by have h9:=Blk.new (wr.alloc (.cells #[I o2.kd,I o2.u,I o2.v] 33)) 33 #[I o.kd,I o.u,I o.v];rw[World.size_alloc] at h9;exact h9
      have ho2:Blk ((wr.alloc (.cells #[I o2.kd,I o2.u,I o2.v] 33)).alloc (.cells #[I o.kd,I o.u,I o.v] 33)).drew (wr.heap.size) 33 #[I o2.kd,I o2.u,I o2.v]:=(Blk.new wr _ _).alloc _;generalize ((wr.alloc (.cells #[I o2.kd,I o2.u,I o2.v] 33)).alloc (.cells #[I o.kd,I o.u,I o.v] 33)).drew=W9 at hb9 ho1 ho2 |-;generalize hx1:wr.heap.size+1=x1 at ho1 |-;generalize hx2:wr.heap.size=x2 at ho2 |-
      have HN:Hid (wr.heap.size<=x1/\wr.heap.size<=x2/\x1≠x2):=q9 ⟨by omega,by omega,by omega⟩
      have HO1:=q9 ho1;have HO2:=q9 ho2;have HB9:=q9 hb9;clear ho1 ho2 hb9 hx1 hx2;have p1:=HO1.cell 0;have p2:=HO1.frozen 0;have p3:=HO1.lt;have r1:=HO2.cell 0;have r2:=HO2.frozen 0;have r3:=HO2.lt;have nx:=HN.2.2;go_upto_region 12 with fail
      have HT8:=q9 (HT.below ((HB9.setCell (p:=(I1 x1 0)) HN.1 (I 1)).setCell (p:=(I1 x2 0)) HN.2.1 (I 1)));have HA1:Hid (Blk ((W9.setCell (I1 x1 0) (I 1)).setCell (I1 x2 0) (I 1)) x1 33 #[I 1,I o.u,I o.v]):=q9 ((HO1.set_ 0 (I 1)).far (p:=(I1 x2 0)) HN.2.2 _);have HA2:Hid (Blk ((W9.setCell (I1 x1 0) (I 1)).setCell (I1 x2 0) (I 1)) x2 33 #[I 1,I o2.u,I o2.v]):=q9 ((HO2.far (p:=(I1 x1 0)) (Ne.symm HN.2.2) (I 1)).set_ 0 _);clear HO1 HO2 HB9 HT HS HSd p1 p2 p3 r1 r2 r3 nx hrule;generalize (W9.setCell (I1 x1 0) (I 1)).setCell (I1 x2 0) (I 1)=W8 at HT8 HA1 HA2 |-;have p0:=HA1.cell 0;have p1:=HA1.cell 1;have p2:=HA1.cell 2;have p3:=HA1.lt;go_wp2_with fail
      refine(HT8.step HG (by omega)).mono ?_
      rintro e w5 ⟨rfl,f',mk',ts',vl',ls',bs',qq',hT5,hst,hkx⟩;have HT5:=q9 hT5.symm;have HA3:=q9 (HT8.a.pw.blk14 hkx HA2.out QiH)
      have HP5:=q9 (HP.step (P':=fun a b=>∃ j,j<k+1/\Pr14 V (fo j).u (fo j).v a b) hst (fun a b=>by rw[<-HOO.1];exact Qp1 (R:=fun j=>Pr14 V (fo j).u (fo j).v a b) k) HG.r.s1)
      clear hT5 hst hkx HT8 HA1 HA2 HP p0 p1 p2 p3;have p0:=HA3.cell 0;have p1:=HA3.cell 1;have p2:=HA3.cell 2;have p3:=HA3.lt;go_wp2_with fail
      refine(HT5.step HG (by omega)).mono ?_
      rintro e w6 ⟨rfl,f2',mk2',ts2',vl2',ls2',bs2',qq2',hT6,hst2,_⟩
      have HT6:=q9 (hT6.symm.more (m':=1280+1460000*(k+1)) (n':=1280+1460000*(k+1)) (by omega) (by omega))
      have HQ6:=q9 (HQ.step (P':=fun a b=>∃ j,j<k+1/\Pr14 V (fo ((j+rr) % ol)).u (fo ((j+rr) % ol)).v a b) hst2 (fun a b=>by rw[<-HOO.2,<-HK2.out];exact Qp1 (R:=fun j=>Pr14 V (fo ((j+rr) % ol)).u (fo ((j+rr) % ol)).v a b) k) HG.r.s1)
      clear hT6 hst2 HT5 HA3 HQ p0 p1 p2 p3;go_wp2_with fail
      go_roundw
      case rel=>exact⟨k+1,_,_,_,_,_,_,_,_,_,_,_,_,_,_,hkl,by simp,HT6.out,HP5.out,HQ6.out⟩
      case measure=>simp [intOf];omega
    go_simp
    refine hK.out _ _ ?_ (fun hHeld=>?_)
    . (try dsimp only);exact HSd.below Jc
    clear hK K;try simp only[Act.put,q98]
    refine q9T 21 rfl fun K hK=>?_
    go_simp
    refine hK.out _ _ ?_ (fun hHeld=>?_)
    . (try dsimp only);exact HSd.below (Ja.alloc Jb _ |>.alloc (by simp) _)
    clear hK K;try simp only[Act.put,q98]
    refine q9T 22 rfl fun K hK=>?_
    go_simp
    refine hK.out _ _ ?_ (fun hHeld=>?_)
    . (try dsimp only);exact HSd.below (Ja.alloc Jb _ |>.alloc (by simp) _)
    clear hK K;try simp only[Act.put,q98]
    refine Till.ready (rs:=[23]) (by kernel_rfl) (by simp) ?_
    refine Qc.last rfl (by rfl) (fun K hK=>?_) ?_
    rotate_left
    . exact Qc.nil
    go_simp
    refine hK.out _ _ ?_;clear hK K;try simp only[Act.put,q98]
    refine Till.done (by kernel_rfl) ?_ _
    have hb9:Below wr.heap.size wr ((wr.alloc (.cells #[I o.kd,I o.u,I o.v] 33)).alloc (.cells #[I o2.kd,I o2.u,I o2.v] 33)).drew:=(Jc.alloc (by simp) _).drew
    have ho1:Blk ((wr.alloc (.cells #[I o.kd,I o.u,I o.v] 33)).alloc (.cells #[I o2.kd,I o2.u,I o2.v] 33)).drew (wr.heap.size) 33 #[I o.kd,I o.u,I o.v]:=(Blk.new wr _ _).alloc _
    have ho2:Blk ((wr.alloc (.cells #[I o.kd,I o.u,I o.v] 33)).alloc (.cells #[I o2.kd,I o2.u,I o2.v] 33)).drew (wr.heap.size+1) 33 #[I o2.kd,I o2.u,I o2.v]:=by have h9:=Blk.new (wr.alloc (.cells #[I o.kd,I o.u,I o.v] 33)) 33 #[I o2.kd,I o2.u,I o2.v];rw[World.size_alloc] at h9;exact h9
    generalize ((wr.alloc (.cells #[I o.kd,I o.u,I o.v] 33)).alloc (.cells #[I o2.kd,I o2.u,I o2.v] 33)).drew=W9 at hb9 ho1 ho2 |-;generalize hx2:wr.heap.size+1=x2 at ho2 |-;generalize hx1:wr.heap.size=x1 at ho1 |-
    have HN:Hid (wr.heap.size<=x1/\wr.heap.size<=x2/\x1≠x2):=q9 ⟨by omega,by omega,by omega⟩
    have HO1:=q9 ho1;have HO2:=q9 ho2;have HB9:=q9 hb9;clear ho1 ho2 hb9 hx1 hx2;have p1:=HO1.cell 0;have p2:=HO1.frozen 0;have p3:=HO1.lt;have r1:=HO2.cell 0;have r2:=HO2.frozen 0;have r3:=HO2.lt;have nx:=HN.2.2;go_upto_region 12 with fail
    have HT8:=q9 (HT.below ((HB9.setCell (p:=(I1 x1 0)) HN.1 (I 1)).setCell (p:=(I1 x2 0)) HN.2.1 (I 1)));have HA1:Hid (Blk ((W9.setCell (I1 x1 0) (I 1)).setCell (I1 x2 0) (I 1)) x1 33 #[I 1,I o.u,I o.v]):=q9 ((HO1.set_ 0 (I 1)).far (p:=(I1 x2 0)) HN.2.2 _);have HA2:Hid (Blk ((W9.setCell (I1 x1 0) (I 1)).setCell (I1 x2 0) (I 1)) x2 33 #[I 1,I o2.u,I o2.v]):=q9 ((HO2.far (p:=(I1 x1 0)) (Ne.symm HN.2.2) (I 1)).set_ 0 _);clear HO1 HO2 HB9 HT HS HSd p1 p2 p3 r1 r2 r3 nx hrule;generalize (W9.setCell (I1 x1 0) (I 1)).setCell (I1 x2 0) (I 1)=W8 at HT8 HA1 HA2 |-;have p0:=HA1.cell 0;have p1:=HA1.cell 1;have p2:=HA1.cell 2;have p3:=HA1.lt;go_wp2_with fail
    refine(HT8.step HG (by omega)).mono ?_
    rintro e w5 ⟨rfl,f',mk',ts',vl',ls',bs',qq',hT5,hst,hkx⟩;have HT5:=q9 hT5.symm;have HA3:=q9 (HT8.a.pw.blk14 hkx HA2.out QiH)
    have HP5:=q9 (HP.step (P':=fun a b=>∃ j,j<k+1/\Pr14 V (fo j).u (fo j).v a b) hst (fun a b=>by rw[<-HOO.1];exact Qp1 (R:=fun j=>Pr14 V (fo j).u (fo j).v a b) k) HG.r.s1)
    clear hT5 hst hkx HT8 HA1 HA2 HP p0 p1 p2 p3;have p0:=HA3.cell 0;have p1:=HA3.cell 1;have p2:=HA3.cell 2;have p3:=HA3.lt;go_wp2_with fail
    refine(HT5.step HG (by omega)).mono ?_
    rintro e w6 ⟨rfl,f2',mk2',ts2',vl2',ls2',bs2',qq2',hT6,hst2,_⟩
    have HT6:=q9 (hT6.symm.more (m':=1280+1460000*(k+1)) (n':=1280+1460000*(k+1)) (by omega) (by omega))
    have HQ6:=q9 (HQ.step (P':=fun a b=>∃ j,j<k+1/\Pr14 V (fo ((j+rr) % ol)).u (fo ((j+rr) % ol)).v a b) hst2 (fun a b=>by rw[<-HOO.2,<-HK2.out];exact Qp1 (R:=fun j=>Pr14 V (fo ((j+rr) % ol)).u (fo ((j+rr) % ol)).v a b) k) HG.r.s1)
    clear hT6 hst2 HT5 HA3 HQ p0 p1 p2 p3;go_wp2_with fail
    go_roundw
    case rel=>exact⟨k+1,_,_,_,_,_,_,_,_,_,_,_,_,_,_,hkl,by simp,HT6.out,HP5.out,HQ6.out⟩
    case measure=>simp [intOf];omega
  . have ek:ol=k:=by omega
    subst ek
    have hkI:¬ (ol:Int)<(ol:Int):=by omega
    as_aux_lemma=>
    obtain⟨M9,hM9⟩:∃ M,1280+1460000*ol=M:=⟨_,rfl⟩
    have HM9:Hid (M9<=58410000):=q9 (by have:=HG.o;omega)
    rw[hM9] at HT;clear hM9 hk hkl;obtain⟨n,hn⟩:∃ n,ls.length=n:=⟨_,rfl⟩;obtain⟨n2,hn2⟩:∃ n,ls2.length=n:=⟨_,rfl⟩;obtain⟨av,ac,rfl⟩:=HT.a.pw.ew.slice;obtain⟨av2,ac2,rfl⟩:=HT.b.pw.ew.slice;have HN:=q9 (And.intro hn hn2)
    have nS:(n:Int)<=S:=by rw[<-hn];exact HT.a.len.1
    have nS2:(n2:Int)<=S:=by rw[<-hn2];exact HT.b.len.1
    have S12:S<=12:=HG.s;rw[hn,hn2] at HT;clear hn hn2
    have HQ9:=q9 (HQ.cong fun a b=>(Qqa (R:=fun j a b=>Pr14 V (fo j).u (fo j).v a b) HRR.2 a b).symm)
    obtain⟨c0,c1,c2,c3,c4,c5,c6,c7,c8,c9,c10,c11,c12,c13,c14⟩:=HT.a.pw.pq.cells;have qlt:=HT.a.pw.pq.lt;obtain⟨d0,d1,d2,d3,d4,d5,d6,d7,d8,d9,d10,d11,d12,d13,d14⟩:=HT.b.pw.pq.cells;have q2lt:=HT.b.pw.pq.lt;have z0:=HT.a.z.cell 0;have z1:=HT.a.z.cell 1;have z4:=HT.a.z.cell 4;have zlt:=HT.a.z.lt;go_wp2_with fail
    have HTd:=q9 HT.drew;clear HT;have HT:=HTd;clear HTd;obtain⟨c0,c1,c2,c3,c4,c5,c6,c7,c8,c9,c10,c11,c12,c13,c14⟩:=HT.a.pw.pq.cells;have qlt:=HT.a.pw.pq.lt;obtain⟨d0,d1,d2,d3,d4,d5,d6,d7,d8,d9,d10,d11,d12,d13,d14⟩:=HT.b.pw.pq.cells;have q2lt:=HT.b.pw.pq.lt;have z0:=HT.a.z.cell 0;have z1:=HT.a.z.cell 1;have z4:=HT.a.z.cell 4;have zlt:=HT.a.z.lt
    have hrule:=fun(W:World) (h:PB13 W q V S T p (.slice av n ac)/\PB13 W q2 V S T p2 (.slice av2 n2 ac2)/\Blk W zb 27 #[I V,I S,I T,.slice da dl dc,I3 (I1 ob off) ol oc])=>And.intro h.1.cells (And.intro h.2.1.cells (show W.cell? (I1 zb 0)=some (I V)/\W.cell? (I1 zb 1)=some (I S) from ⟨h.2.2.cell 0,h.2.2.cell 1⟩))
    by_cases e1:n=n2
    . subst e1
      have eb1:((n:Int) !=(n:Int))=false:=by simp
      by_cases e2:(n:Int)=S
      . as_aux_lemma=>
        have eb2:((n:Int)==S)=true:=beq_iff_eq.2 e2
        go_region_held3 (fun W=>PB13 W q V S T p (.slice av n ac)/\PB13 W q2 V S T p2 (.slice av2 n ac2)/\Blk W zb 27 #[I V,I S,I T,.slice da dl dc,I3 (I1 ob off) ol oc]) (first|(with_reducible assumption)|(with_reducible exact⟨HT.out.a.pw.pq,HT.out.b.pw.pq,HT.out.a.z⟩)) (first|fail)
        go_wp2_with fail
        refine(Qo9 _).mono ?_;rintro e w3 ⟨rfl,hb3⟩;have HB3:=q9 (HT.a.be.trans (hb3.mono HT.a.be.size));go_wp2_with fail
        go_ret;exact⟨rfl,HB3⟩
      . have eb2:((n:Int)==S)=false:=Jf e2
        go_region_held3 (fun W=>PB13 W q V S T p (.slice av n ac)/\PB13 W q2 V S T p2 (.slice av2 n ac2)/\Blk W zb 27 #[I V,I S,I T,.slice da dl dc,I3 (I1 ob off) ol oc]) (first|(with_reducible assumption)|(with_reducible exact⟨HT.out.a.pw.pq,HT.out.b.pw.pq,HT.out.a.z⟩)) (first|fail)
        clear hrule;go_wp2_with fail
        have HW9:=q9 (HP.same HQ9.out (by rw[HN.1];omega) (by rw[HN.2];omega) HT.a.mv HT.b.mv HT.a.hs HT.b.hs)
        have HL0:Hid (La14 w zb V S T da dl dc (some (I1 ob off)) ol oc base q p gb cap base2 q2 p2 gb2 cap2 M9 256 (.slice av n ac) (.slice av2 n ac2) ls bs ls2 bs2 bs n (I 0) (I 0) wr.drew):=q9 ⟨0,Nat.zero_le _,rfl,rfl,_,_,_,_,_,_,_,_,HT.out⟩;clear HT
        go_loopw [7,109] (fun c i W=>La14 w zb V S T da dl dc (some (I1 ob off)) ol oc base q p gb cap base2 q2 p2 gb2 cap2 M9 256 (.slice av n ac) (.slice av2 n ac2) ls bs ls2 bs2 bs n c i W) (fun _ i _=>n-(intOf i).toNat)
        case atStart=>exact HL0.out
        case round=>
         clear HL0;obtain⟨j,hj,rfl,rfl,f,mk,ts,qq,f2,mk2,ts2,qq2,hT⟩:=hrel;have HT:=q9 hT;clear hT
         have hbl:bs.length=n:=by rw[HT.a.mv.len];exact HN.1
         have HBL:=q9 hbl;clear hbl
         by_cases hjn:j<n
         . as_aux_lemma=>
           obtain⟨x,hx⟩:∃ x,ls[j]?=some x:=⟨_,Jh (by rw[HN.1];exact hjn)⟩
           obtain⟨y,hy,ys,hyr⟩:=HT.a.mv.st j x hx;clear hyr;obtain⟨g9,cap9,e9,_,glt,gfr,g0,g1,g2,g3,g4⟩:=HT.a.pw.ew.at hx;injection e9 with e9 e7 e8;subst e9 e8;clear e7;rw[<-ys] at g0;have hcn:=Qp2 hy;have HYB:=q9 (Je hy)
           obtain⟨cn,hc0⟩:∃ c,((bs.take j).filter fun x=>x.t).length=c:=⟨_,rfl⟩
           have cn12:(cn:Int)<=12:=by
            have h1:=List.length_filter_le (fun x=>x.t) (bs.take j)
            have h2:=List.length_take_le j bs;omega
           have cn0:(0:Int)<=(cn:Int):=Jg _;rw[hc0] at hcn |-;have HCN:=q9 hcn
           have jI:(j:Int)<(n:Int):=by omega
           have j0:(0:Int)<=(j:Int):=by omega
           clear hcn hc0 hx hy ys hj;obtain⟨c0,c1,c2,c3,c4,c5,c6,c7,c8,c9,c10,c11,c12,c13,c14⟩:=HT.a.pw.pq.cells;have qlt:=HT.a.pw.pq.lt;go_wp2_with fail
           have HEb:Hid (Blk (wr.alloc (.cells #[I (y.s:Int),I (x.u:Int),I (x.v:Int),I (x.l:Int),.bool x.t] 67)) wr.heap.size 67 #[I (y.s:Int),I (x.u:Int),I (x.v:Int),I (x.l:Int),.bool x.t]):=q9 (Blk.new _ _ _);have HTb:=q9 (HT.alloc (.cells #[I (y.s:Int),I (x.u:Int),I (x.v:Int),I (x.l:Int),.bool x.t] 67));clear HT gfr;generalize wr.alloc (.cells #[I (y.s:Int),I (x.u:Int),I (x.v:Int),I (x.l:Int),.bool x.t] 67)=W1 at HEb HTb |-;generalize wr.heap.size=eb at HEb |-;have HE0:=q9 (HEb.below Ja.drew HEb.lt);have HTa:=q9 HTb.drew;clear HEb HTb
           have hrule:=fun(W:World) (h:SG14 W q V S T p (I3 (I1 g9 0) n ac) eb (y.s:Int) (x.u:Int) (x.v:Int) (x.l:Int) x.t)=>h.cells
           obtain⟨c0,c1,c2,c3,c4,c5,c6,c7,c8,c9,c10,c11,c12,c13,c14⟩:=HTa.a.pw.pq.cells;have qlt:=HTa.a.pw.pq.lt;have k0:=HE0.cell 0;have klt:=HE0.lt
           have hfd:∀ W:World,(Instr.field 76 (vEd y.u y.v y.l y.t) 3).run prog W=.ok (.bool y.t) W:=fun W=>by kernel_rfl
           have HGT:=q9 (HTa.get HYB.out (by have:=HM9.out;omega))
           go_region_held3 (fun W=>SG14 W q V S T p (I3 (I1 g9 0) n ac) eb (y.s:Int) (x.u:Int) (x.v:Int) (x.l:Int) x.t) (first|(with_reducible assumption)|(with_reducible exact⟨HT5.out.a.pw.pq,HE5.out⟩)|(with_reducible exact⟨HTa.out.a.pw.pq,HE0.out⟩))
            (first
             |(go_at_call 24;((with_reducible refine HGT.out.mono ?_);rintro e w5 ⟨rfl,hT5,O5⟩;have HT5:=q9 hT5;have HE5:=q9 (Blk.ta HE0.out HTa.out.a.pw.ta O5 (by decide) (by decide))))
             |fail)
           have HT6:=q9 (HT5.more (m':=M9+256*(j+1)) (n':=M9+256*(j+1)) (by omega) (by omega))
           clear hrule k0 klt hfd HGT HT5 HE5 HTa HE0 hT5 O5
           cases hyt:y.t with
           |true=>
            as_aux_lemma=>
            have HC2:Hid (((bs.take (j+1)).filter fun x=>x.t).length=cn+1):=q9 (by have:=HCN.out;rw[hyt] at this;simpa using this)
            go_wp2_with fail
            go_roundw
            case rel=>exact⟨j+1,hjn,by simp,by rw[HC2.out];simp,_,_,_,_,_,_,_,_,HT6.out⟩
            case measure=>simp [intOf];omega
           |false=>
            as_aux_lemma=>
            have HC2:Hid (((bs.take (j+1)).filter fun x=>x.t).length=cn):=q9 (by have:=HCN.out;rw[hyt] at this;simpa using this)
            go_wp2_with fail
            go_roundw
            case rel=>exact⟨j+1,hjn,by simp,by rw[HC2.out],_,_,_,_,_,_,_,_,HT6.out⟩
            case measure=>simp [intOf];omega
         . have ej:n=j:=by omega
           subst ej
           have hjI:¬ (n:Int)<(n:Int):=by omega
           rw[List.take_of_length_le (Nat.le_of_eq HBL.out)];clear hj hjn;obtain⟨M8,hMM⟩:∃ M,M9+4096=M:=⟨_,rfl⟩
           have HM8:Hid (M8<=58420000):=q9 (by have:=HM9.out;omega)
           have HT9:=q9 (HT.more (m':=M8) (n':=M8) (by omega) (by omega))
           clear HT hMM;have HT:=HT9;clear HT9
           obtain⟨ca,hca⟩:∃ c,(bs.filter fun x=>x.t).length=c:=⟨_,rfl⟩
           have HCA:=q9 hca;rw[hca];clear hca;obtain⟨d0,d1,d2,d3,d4,d5,d6,d7,d8,d9,d10,d11,d12,d13,d14⟩:=HT.b.pw.pq.cells;have q2lt:=HT.b.pw.pq.lt;go_wp2_with fail
           have HL0:Hid (La14 w zb V S T da dl dc (some (I1 ob off)) ol oc base q p gb cap base2 q2 p2 gb2 cap2 M8 256 (.slice av n ac) (.slice av2 n ac2) ls bs ls2 bs2 bs2 n (I 0) (I 0) wr):=q9 ⟨0,Nat.zero_le _,rfl,rfl,_,_,_,_,_,_,_,_,HT.out⟩;clear HT
           go_loopw [8,132] (fun c i W=>La14 w zb V S T da dl dc (some (I1 ob off)) ol oc base q p gb cap base2 q2 p2 gb2 cap2 M8 256 (.slice av n ac) (.slice av2 n ac2) ls bs ls2 bs2 bs2 n c i W) (fun _ i _=>n-(intOf i).toNat)
           case atStart=>exact HL0.out
           case round=>
            clear HL0;obtain⟨j,hj,rfl,rfl,f,mk,ts,qq,f2,mk2,ts2,qq2,hT⟩:=hrel;have HT:=q9 hT;clear hT
            have hbl:bs2.length=n:=by rw[HT.b.mv.len];exact HN.2
            have HBL:=q9 hbl;clear hbl
            by_cases hjn:j<n
            . as_aux_lemma=>
              obtain⟨x,hx⟩:∃ x,ls2[j]?=some x:=⟨_,Jh (by rw[HN.2];exact hjn)⟩
              obtain⟨y,hy,ys,hyr⟩:=HT.b.mv.st j x hx;clear hyr;obtain⟨g9,cap9,e9,_,glt,gfr,g0,g1,g2,g3,g4⟩:=HT.b.pw.ew.at hx;injection e9 with e9 e7 e8;subst e9 e8;clear e7;rw[<-ys] at g0;have hcn:=Qp2 hy;have HYB:=q9 (Je hy)
              obtain⟨cn,hc0⟩:∃ c,((bs2.take j).filter fun x=>x.t).length=c:=⟨_,rfl⟩
              have cn12:(cn:Int)<=12:=by
               have h1:=List.length_filter_le (fun x=>x.t) (bs2.take j)
               have h2:=List.length_take_le j bs2;omega
              have cn0:(0:Int)<=(cn:Int):=Jg _;rw[hc0] at hcn |-;have HCN:=q9 hcn
              have jI:(j:Int)<(n:Int):=by omega
              have j0:(0:Int)<=(j:Int):=by omega
              clear hcn hc0 hx hy ys hj;obtain⟨c0,c1,c2,c3,c4,c5,c6,c7,c8,c9,c10,c11,c12,c13,c14⟩:=HT.b.pw.pq.cells;have qlt:=HT.b.pw.pq.lt;go_wp2_with fail
              have HEb:Hid (Blk (wr.alloc (.cells #[I (y.s:Int),I (x.u:Int),I (x.v:Int),I (x.l:Int),.bool x.t] 67)) wr.heap.size 67 #[I (y.s:Int),I (x.u:Int),I (x.v:Int),I (x.l:Int),.bool x.t]):=q9 (Blk.new _ _ _);have HTb:=q9 (HT.alloc (.cells #[I (y.s:Int),I (x.u:Int),I (x.v:Int),I (x.l:Int),.bool x.t] 67));clear HT gfr;generalize wr.alloc (.cells #[I (y.s:Int),I (x.u:Int),I (x.v:Int),I (x.l:Int),.bool x.t] 67)=W1 at HEb HTb |-;generalize wr.heap.size=eb at HEb |-;have HE0:=q9 (HEb.below Ja.drew HEb.lt);have HTa:=q9 HTb.drew;clear HEb HTb
              have hrule:=fun(W:World) (h:SG14 W q2 V S T p2 (I3 (I1 g9 0) n ac2) eb (y.s:Int) (x.u:Int) (x.v:Int) (x.l:Int) x.t)=>h.cells
              obtain⟨c0,c1,c2,c3,c4,c5,c6,c7,c8,c9,c10,c11,c12,c13,c14⟩:=HTa.b.pw.pq.cells;have qlt:=HTa.b.pw.pq.lt;have k0:=HE0.cell 0;have klt:=HE0.lt
              have hfd:∀ W:World,(Instr.field 76 (vEd y.u y.v y.l y.t) 3).run prog W=.ok (.bool y.t) W:=fun W=>by kernel_rfl
              have HGT:=q9 (HTa.symm.get HYB.out (by have:=HM8.out;omega))
              go_region_held3 (fun W=>SG14 W q2 V S T p2 (I3 (I1 g9 0) n ac2) eb (y.s:Int) (x.u:Int) (x.v:Int) (x.l:Int) x.t) (first|(with_reducible assumption)|(with_reducible exact⟨HT5.out.b.pw.pq,HE5.out⟩)|(with_reducible exact⟨HTa.out.b.pw.pq,HE0.out⟩))
               (first
                |(go_at_call 24;((with_reducible refine HGT.out.mono ?_);rintro e w5 ⟨rfl,hT5,O5⟩;have HT5:=q9 hT5.symm;have HE5:=q9 (Blk.ta HE0.out HTa.out.b.pw.ta O5 (by decide) (by decide))))
                |fail)
              have HT6:=q9 (HT5.more (m':=M8+256*(j+1)) (n':=M8+256*(j+1)) (by omega) (by omega))
              clear hrule k0 klt hfd HGT HT5 HE5 HTa HE0 hT5 O5
              cases hyt:y.t with
              |true=>
               as_aux_lemma=>
               have HC2:Hid (((bs2.take (j+1)).filter fun x=>x.t).length=cn+1):=q9 (by have:=HCN.out;rw[hyt] at this;simpa using this)
               go_wp2_with fail
               go_roundw
               case rel=>exact⟨j+1,hjn,by simp,by rw[HC2.out];simp,_,_,_,_,_,_,_,_,HT6.out⟩
               case measure=>simp [intOf];omega
              |false=>
               as_aux_lemma=>
               have HC2:Hid (((bs2.take (j+1)).filter fun x=>x.t).length=cn):=q9 (by have:=HCN.out;rw[hyt] at this;simpa using this)
               go_wp2_with fail
               go_roundw
               case rel=>exact⟨j+1,hjn,by simp,by rw[HC2.out],_,_,_,_,_,_,_,_,HT6.out⟩
               case measure=>simp [intOf];omega
            . have ej:n=j:=by omega
              subst ej
              have hjI:¬ (n:Int)<(n:Int):=by omega
              rw[List.take_of_length_le (Nat.le_of_eq HBL.out)];clear hj hjn;obtain⟨M7,hMM⟩:∃ M,M8+4096=M:=⟨_,rfl⟩
              have HM7:Hid (M7<=58430000):=q9 (by have:=HM8.out;omega)
              have HT9:=q9 (HT.more (m':=M7) (n':=M7) (by omega) (by omega))
              clear HT hMM;have HT:=HT9;clear HT9
              have ecb:(bs2.filter fun x=>x.t).length=ca:=HW9.2.symm.trans HCA.out
              rw[ecb];clear ecb
              have HJ0:Hid (Jv14 w zb V S T da dl dc (some (I1 ob off)) ol oc base q p gb cap base2 q2 p2 gb2 cap2 M7 4096 (.slice av n ac) (.slice av2 n ac2) ls bs ls2 bs2 (I 0) wr):=q9 ⟨0,by have:=HG.r.v1;show (0:Int)<=V;omega,rfl,_,_,_,_,_,_,_,_,HT.out⟩
              have z0:=HT.a.z.cell 0;have zlt:=HT.a.z.lt;clear HT;go_wp2_with fail
              go_loopw [153] (fun i W=>Jv14 w zb V S T da dl dc (some (I1 ob off)) ol oc base q p gb cap base2 q2 p2 gb2 cap2 M7 4096 (.slice av n ac) (.slice av2 n ac2) ls bs ls2 bs2 i W) (fun i _=>V.toNat-(intOf i).toNat)
              case atStart=>exact HJ0.out
              case round=>
               clear HJ0;obtain⟨x,hx,rfl,f,mk,ts,qq,f2,mk2,ts2,qq2,hT⟩:=hrel;have HT:=q9 hT;clear hT;have x0:(0:Int)<=(x:Int):=Jg _;have v8:V<=8:=HG.v
               by_cases hxV:(x:Int)<V
               . as_aux_lemma=>
                 obtain⟨N9,hN9⟩:∃ M,M7+4096*x=M:=⟨_,rfl⟩;have HN9:=q9 hN9;rw[hN9] at HT;clear hN9
                 have HJ1:Hid (Jv14 w zb V S T da dl dc (some (I1 ob off)) ol oc base q p gb cap base2 q2 p2 gb2 cap2 N9 512 (.slice av n ac) (.slice av2 n ac2) ls bs ls2 bs2 (I 0) wr):=q9 ⟨0,by omega,rfl,_,_,_,_,_,_,_,_,HT.out⟩
                 have z0:=HT.a.z.cell 0;have zlt:=HT.a.z.lt;clear HT;go_wp2_with fail
                 go_loopw [159] (fun i W=>Jv14 w zb V S T da dl dc (some (I1 ob off)) ol oc base q p gb cap base2 q2 p2 gb2 cap2 N9 512 (.slice av n ac) (.slice av2 n ac2) ls bs ls2 bs2 i W) (fun i _=>V.toNat-(intOf i).toNat)
                 case atStart=>exact HJ1.out
                 case round=>
                  clear HJ1;obtain⟨y,hy,rfl,f,mk,ts,qq,f2,mk2,ts2,qq2,hT⟩:=hrel;have HT:=q9 hT;clear hT;have y0:(0:Int)<=(y:Int):=Jg _
                  by_cases hyV:(y:Int)<V
                  . as_aux_lemma=>
                    go_wp2_with fail
                    have HTd:=q9 HT.drew;clear HT
                    have hrule:=fun(W:World) (h:PB13 W q V S T p (.slice av n ac)/\PB13 W q2 V S T p2 (.slice av2 n ac2))=>And.intro h.1.cells h.2.cells
                    obtain⟨c0,c1,c2,c3,c4,c5,c6,c7,c8,c9,c10,c11,c12,c13,c14⟩:=HTd.a.pw.pq.cells;have qlt:=HTd.a.pw.pq.lt;obtain⟨d0,d1,d2,d3,d4,d5,d6,d7,d8,d9,d10,d11,d12,d13,d14⟩:=HTd.b.pw.pq.cells;have q2lt:=HTd.b.pw.pq.lt
                    have HJA:=q9 (HTd.join HG.out hxV hyV (by have:=HM7.out;have:=HN9.out;omega))
                    go_region_held3 (fun W=>PB13 W q V S T p (.slice av n ac)/\PB13 W q2 V S T p2 (.slice av2 n ac2)) (first|(with_reducible assumption)|(with_reducible exact⟨HT6.out.a.pw.pq,HT6.out.b.pw.pq⟩)|(with_reducible exact⟨HT5.out.a.pw.pq,HT5.out.b.pw.pq⟩)|(with_reducible exact⟨HTd.out.a.pw.pq,HTd.out.b.pw.pq⟩))
                     (first
                      |(go_at_call 16;((with_reducible refine HJA.out.mono ?_);rintro e w5 ⟨r,rfl,hr,hT5⟩;have HT5:=q9 hT5))
                      |(go_at_call 16;((with_reducible refine(HT5.out.symm.join HG.out hxV hyV (by have:=HM7.out;have:=HN9.out;omega)).mono ?_);rintro e w6 ⟨r2,rfl,hr2,hT6⟩;have HT6:=q9 hT6.symm;obtain rfl:r2=r:=Bool.eq_iff_iff.2 (hr2.trans ((HW9.out.1 _ _).symm.trans hr.symm))))
                      |fail)
                    have HT8:=q9 (HT6.more (m':=N9+512*(y+1)) (n':=N9+512*(y+1)) (by omega) (by omega))
                    clear hrule HT6 HT5 HTd HJA hr hr2 hT5 hT6;go_wp2_with fail
                    go_roundw
                    case rel=>exact⟨y+1,by omega,by simp,_,_,_,_,_,_,_,_,HT8.out⟩
                    case measure=>simp [intOf];omega
                  . as_aux_lemma=>
                    have HT8:=q9 (HT.more (m':=M7+4096*(x+1)) (n':=M7+4096*(x+1)) (by have:=HN9.out;omega) (by have:=HN9.out;omega))
                    clear HT;go_wp2_with fail
                    go_roundw
                    case rel=>exact⟨x+1,by omega,by simp,_,_,_,_,_,_,_,_,HT8.out⟩
                    case measure=>simp [intOf];omega
               . as_aux_lemma=>
                 go_wp2_with fail
                 refine(Qo9 _).mono ?_;rintro e w3 ⟨rfl,hb3⟩;have HB3:=q9 (HT.a.be.trans (hb3.mono HT.a.be.size));go_wp2_with fail
                 go_ret;exact⟨rfl,HB3⟩
    . as_aux_lemma=>
      have eb1:((n:Int) !=(n2:Int))=true:=by simp;omega
      have eb3:((n:Int)==(n2:Int))=false:=Jf (by omega)
      have eb4:¬ (n:Int)=(n2:Int):=by omega
      refine wp_region_held_drew (S:=(fun W=>PB13 W q V S T p (.slice av n ac)/\PB13 W q2 V S T p2 (.slice av2 n2 ac2)/\Blk W zb 27 #[I V,I S,I T,.slice da dl dc,I3 (I1 ob off) ol oc])) (by kernel_rfl) ?_ (fun hHeld=>?_)
      . exact⟨HT.a.pw.pq,HT.b.pw.pq,HT.a.z⟩
      refine q9N 0 rfl ?_
      refine q9N 1 rfl ?_
      refine q9N 2 rfl ?_
      refine q9N 3 rfl ?_
      refine q9N 4 rfl ?_
      refine q9N 5 rfl ?_
      refine q9N 6 rfl ?_
      refine q9N 7 rfl ?_
      refine q9N 8 rfl ?_
      refine q9N 9 rfl ?_
      refine q9N 10 rfl ?_
      refine q9N 11 rfl ?_
      refine q9F 12 rfl ?_
      refine q9F 13 rfl ?_
      refine q9F 14 rfl ?_
      refine q9F 15 rfl ?_
      refine q9F 16 rfl ?_
      refine q9F 17 rfl ?_
      refine q9F 18 rfl ?_
      refine q9F 19 rfl ?_
      refine q9F 20 rfl ?_
      refine q9N 21 rfl ?_
      refine wpAnyH_done (by kernel_rfl) ?_ _
      go_wp2_with fail
      refine(Qo9 _).mono ?_;rintro e w3 ⟨rfl,hb3⟩;have HB3:=q9 (HT.a.be.trans (hb3.mono HT.a.be.size));go_wp2_with fail
      go_ret;exact⟨rfl,HB3⟩
end
end Go.Proofs.YtfpnjpbpfgjakaaGreat
