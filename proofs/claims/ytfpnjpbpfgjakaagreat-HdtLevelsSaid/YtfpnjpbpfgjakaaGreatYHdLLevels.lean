/- HdLLevels -/
import Derived.Test.YtfpnjpbpfgjakaaGreatYHf
import Derived.Carry
namespace Go.Proofs.YtfpnjpbpfgjakaaGreat
open Go.RowKit
set_option maxRecDepth 100000
section
variable {w w' w0 W:World}{zb base base2 q p gb cap m:Nat}{V S T kd u v:Int}{da oa:Option Addr}{dl dc ol oc:Nat}{f:Nat->Int}{mk:Nat->Nat}{ts:List Tp}{vl v2:Value}{ls bs ls' bs' es:List E1}{qq:Nat->Nat->List Nat}{x y:E1}
theorem QpR.lev {f f':Nat->Int}(h:QpR V S kd u v ls bs ls' bs')(hE:ER V S T f bs)(hE2:ER V S T f' bs')(hM:Mv ls bs)(hx:x∈bs')(hy:y∈bs)(e:y.s=x.s):y.l<=x.l:=by
 rcases h with ⟨_,rfl,_⟩|⟨_,s,a,b,t,_,_,_,_,_,h1,_,_,_,rfl⟩|⟨_,i,_,h1⟩
 . rw[hE.uniq hy hx e];exact Nat.le_refl _
 . rcases List.mem_append.1 hx with hx|hx
   . rw[hE.uniq hy hx e];exact Nat.le_refl _
   . rw[List.mem_singleton] at hx
     subst hx;obtain⟨j,hj⟩:=List.mem_iff_getElem?.1 hy;obtain⟨z,hz,hs,_⟩:=hM.back hj;exact absurd (hs.symm.trans e) (h1 z (List.mem_of_getElem? hz))
 . obtain⟨j,hj⟩:=List.mem_iff_getElem?.1 hx
   obtain⟨z,hz,hs,_,_,hl,_⟩:=h1.back hj;have hz2:=List.mem_of_mem_eraseIdx (List.mem_of_getElem? hz);rw[hE.uniq hy hz2 (e.trans hs)];exact hl
theorem lev_find14 (h:∀ y∈es,y.s=x.s->y.l<=x.l)(hx:x.u<x.v):∃ (ys yu yv yl:Int) (yt:Bool),fE (fdE es (x.s:Int))=.agg #[I ys,I yu,I yv,I yl,.bool yt]/\(yu=(x.u:Int)->yv=(x.v:Int)->¬ (x.l:Int)<yl):=by
 cases hf:fdE es (x.s:Int) with
 |none=>exact⟨0,0,0,0,false,rfl,fun h1 h2=>by omega⟩
 |some y=>
  have h1:=List.find?_some hf
  have h2:=h y (List.mem_of_find?_eq_some hf) (by simp at h1;omega)
  exact⟨_,_,_,_,_,rfl,fun _ _=>by omega⟩
theorem EW.kx14 (hE:EW W base2 v2 es)(hx:KxE W w' q p gb)(hW:PW13 W base q V S T p gb cap m f mk ts vl ls)(hb:∀ k,vl.ownBlock=some k->v2.ownBlock≠some k):EW w' base2 v2 es:=by
 refine hE.kept_of fun i hi=>?_
 obtain⟨_,cs,hz⟩:=hE.own i hi;obtain⟨f9,hR,c,A,C⟩:=hW.ta.em;obtain⟨zs,hz2,_⟩:=A.cells
 refine hx i hz.lt (Blk.ne_ hz hW.pq (by decide)) (Blk.ne_ hz A.own (by decide)) (Blk.ne_ hz hz2 (by decide)) fun v0 h0 e=>?_
 rw[hW.pq.cells.2.2.2.2.2.2.2.2.2.2.2.2.2.2] at h0;injection h0 with h0;subst h0;exact hb i e hi
theorem xbook14k (h:LwH w W zb V S T da dl dc oa ol oc base q p gb cap m f mk ts vl ls bs qq)(hG:RH13 V S T dl ol)(hm:m<=99900000):
 I0 14 #[.pointer (some (I1 q 0))] W fun e w'=>∃ b:BkV,e=.returned (vB b)/\Bo14 b bs w'/\LwH w w' zb V S T da dl dc oa ol oc base q p gb cap (m+1300) f mk ts vl ls bs qq/\Only p gb W w':=by
 refine(QoN h.pw h.lg hG.v hG.s hm).mono ?_;rintro e w' ⟨b,rfl,hB,hV,A,O⟩;exact⟨b,rfl,hB,h.next A O h.lg,O⟩
theorem shr14 {V:Int}{l:Nat}(h0:0<=V)(h:2*2 ^ l<=V.toNat):¬ V / 2 ^ l<2:=by
 have h1:(2:Int)<=V / 2 ^ l:=by
  have hp:(0:Int)<2 ^ l:=Int.pow_pos (by decide)
  refine(Int.le_ediv_iff_mul_le hp).2 ?_
  have h2:((2*2 ^ l:Nat):Int)<=(V.toNat:Int):=by omega
  rw[Int.toNat_of_nonneg h0] at h2;simpa using h2
 omega
end
section
variable {V S T:Int}{da oa:Option Addr}{dl dc ol oc:Nat}{fd:Nat->Nat}{fo:Nat->O13}
set_option maxHeartbeats 16000000 in
theorem llevels14 (w:World)(hD:QfW w da dl fd)(hO:Qmx w oa ol fo):
 I0 6 #[vC13 V S T da dl dc oa ol oc] w fun e w'=>e=.returned (.bool true)/\Below w.heap.size w w':=by
 have HO:=q9 hO;have HD:=q9 hD;clear hO hD;have HB1:Hid (Below w.heap.size w (w.alloc (.cells #[I V,I S,I T,.slice da dl dc,.slice oa ol oc] 27))):=q9 ((Below.refl _ _).alloc (Nat.le_refl _) _);have HZ1:Hid (Blk (w.alloc (.cells #[I V,I S,I T,.slice da dl dc,.slice oa ol oc] 27)) w.heap.size 27 #[I V,I S,I T,.slice da dl dc,.slice oa ol oc]):=q9 (Blk.new _ _ _)
 go_enter Tryz.func6,Tryz.ntmps6
 go_upto_region 1 with fail
 generalize (w.alloc (.cells #[I V,I S,I T,.slice da dl dc,.slice oa ol oc] 27))=W1 at HB1 HZ1 |-;generalize w.heap.size=zb at HZ1 |-;have z0:=HZ1.cell 0;have z1:=HZ1.cell 1;have z2:=HZ1.cell 2;have z3:=HZ1.cell 3;have z4:=HZ1.cell 4;have zlt:=HZ1.lt;go_wp2_with fail
 refine(Qf3 V S T da dl dc oa ol oc _).mono ?_;rintro e w2 ⟨rfl,hb2⟩;have HB2:=q9 (HB1.trans (hb2.mono HB1.size));have HZ2:=q9 (HZ1.below hb2 HZ1.lt);clear HB1 HZ1 hb2
 cases hr:Qd4 V S T dl ol
 . go_wp2_with fail
   refine(Qo9 _).mono ?_;rintro e w3 ⟨rfl,hb3⟩;have HB3:=q9 (HB2.trans (hb3.mono HB2.size));go_wp2_with fail
   go_ret;exact⟨rfl,HB3⟩
 have HG:=q9 (Qif hr);clear hr;have z0:=HZ2.cell 0;have z1:=HZ2.cell 1;have z2:=HZ2.cell 2;have z3:=HZ2.cell 3;have z4:=HZ2.cell 4;have zlt:=HZ2.lt;go_wp2_with fail
 refine(Qpc HG HD HZ2 HB2).mono ?_;rintro e w3 ⟨base,q,p,gb,cap,f0,mk0,ts0,vl0,rfl,_,hL⟩;have HRel:Hid (Lp14 w zb V S T da dl dc oa ol oc base q p gb cap (I 0) w3):=q9 ⟨0,_,_,_,_,_,_,_,Nat.zero_le _,rfl,hL⟩;clear HZ2 HB2;have z4:=hL.z.cell 4;have zlt:=hL.z.lt;clear hL
 have holI:(ol:Int)<=40:=by have:=HG.o;omega
 go_wp2_with fail
 go_loopw [24] (fun i wr=>Lp14 w zb V S T da dl dc oa ol oc base q p gb cap i wr) (fun i _=>ol-(intOf i).toNat)
 case atStart=>exact HRel.out
 case round=>
  clear HRel;obtain⟨k,f,mk,ts,vl,ls,bs,qq,hk,rfl,hL⟩:=hrel;have HL:=q9 hL;clear hL
  by_cases hkl:k<ol
  . as_aux_lemma=>
    obtain⟨ob,off,rfl,hcell⟩:=HO.out (by omega)
    have hc:=hcell k hkl;obtain⟨o,ho⟩:∃ o,fo k=o:=⟨_,rfl⟩;rw[ho] at hc;obtain⟨kd,u9,v9⟩:=o;have c0:=Qi HL.be hc.1;have c1:=Qi HL.be hc.2.1;have c2:=Qi HL.be hc.2.2
    have hkI:(k:Int)<(ol:Int):=by omega
    have hk0:(0:Int)<=(k:Int):=by omega
    have HLa:=q9 (HL.alloc (.cells #[I kd,I u9,I v9] 33));clear hc ho hcell HL;go_wp2_with fail
    have HOP:Hid (Blk (wr.alloc (.cells #[I kd,I u9,I v9] 33)) wr.heap.size 33 #[I kd,I u9,I v9]):=q9 (Blk.new _ _ _);generalize wr.alloc (.cells #[I kd,I u9,I v9] 33)=W1 at HLa HOP |-;generalize wr.heap.size=ob9 at HOP |-
    refine(xbook14k HLa HG (by omega)).mono ?_
    rintro e w5 ⟨b1,rfl,hB1,hL1,O1⟩;have HLb:=q9 hL1;have HOP1:=q9 (Kbs.ta HLa.pw.ta O1 _ _ _ HOP.out QiH);have hed1:=hB1.edges (base:=w5.heap.size) (Nat.le_refl _);clear hB1 hL1 O1 HLa HOP;go_wp2_with fail
    refine hed1.mono ?_;rintro e w6 ⟨va,es,rfl,hP1,hE1,hb6⟩;have HLc:=q9 (HLb.below hb6);have HOP2:=q9 (HOP1.below hb6 HOP1.lt);have HE1:=q9 hE1;have HP1:=q9 hP1
    have HFR:Hid (∀ k,vl.ownBlock=some k->va.ownBlock≠some k):=q9 fun k hk e=>by
     have h1:=(HLb.pw.ew.lt k hk).2;have h2:=(hE1.lt k e).1;omega
    clear hed1 hP1 hE1 hb6 HLb HOP1;have o0:=HOP2.cell 0;have o1:=HOP2.cell 1;have o2:=HOP2.cell 2;have olt:=HOP2.lt;go_wp2_with fail
    refine(Qpo HLc HG (by omega)).mono ?_
    rintro e w7 ⟨rfl,f',mk',ts',vl',ls',bs',qq',hL5,hst,hkx,_⟩;have HL5:=q9 hL5;have HEX:=q9 (HE1.kx14 hkx HLc.pw HFR.out)
    have HLV:Hid (∀ x∈bs',∀ y∈es,y.s=x.s->y.l<=x.l):=q9 fun x hx y hy e=>hst.lev HLc.lg.er hL5.lg.er HLc.mv hx (HP1.mem_iff.1 hy) e
    have HLN:Hid (es.length<=1000):=q9 (by rw[HP1.length_eq,HLc.mv.len];exact HLc.len.2)
    clear hL5 hst hkx HE1 HLc HOP2 HFR HP1;go_wp2_with fail
    refine(xbook14k HL5 HG (by omega)).mono ?_
    rintro e w8 ⟨b2,rfl,hB2,hL8,O8⟩;have HL8:=q9 hL8;have HEY:=q9 (HEX.ta HL5.pw.ta O8);have hed2:=hB2.edges (base:=w8.heap.size) (Nat.le_refl _);clear hB2 hL8 O8 HL5 HEX;go_wp2_with fail
    refine hed2.mono ?_;rintro e w9 ⟨vb,ns,rfl,hP2,hE2,hb9⟩;have HL9:=q9 (HL8.below hb9);have HEZ:=q9 (HEY.below hb9);have HP2:=q9 hP2;obtain⟨la,ln,lc,rfl,hE2⟩:=QbI hE2
    have hl9:ns.length=ln:=by
     obtain⟨a,c,e⟩:=hE2.slice;injection e with _ e _;exact e.symm
    have HEL:=q9 hl9;have HE2:=q9 hE2;clear hed2 hP2 hE2 hb9 hl9 HL8 HEY;go_wp2_with fail
    have HREL:Hid (KT13 w9 ln (I 0) w9):=q9 ⟨0,Nat.zero_le _,rfl,Below.refl _ _⟩
    go_loopw [52] (fun i wr=>KT13 w9 ln i wr) (fun i _=>ln-(intOf i).toNat)
    case atStart=>exact HREL.out
    case round=>
     clear HREL;obtain⟨j,hj,rfl,hb⟩:=hrel;have HB:=q9 hb;clear hb
     by_cases hjn:j<ln
     . as_aux_lemma=>
       have HEk:=q9 (HE2.below HB.out)
       obtain⟨x,hx⟩:∃ x,ns[j]?=some x:=⟨_,List.getElem?_eq_getElem (by have:=HEL.out;omega)⟩
       obtain⟨gb9,cap9,e1,_,glt,gfr,g0,g1,g2,g3,g4⟩:=HEk.at hx;injection e1 with e1 e2 e3;subst e1;have hxb:x∈bs':=HP2.mem_iff.1 (List.mem_of_getElem? hx);have hok:=HL9.lg.er.ok x hxb;obtain⟨ys,yu,yv,yl,yt,hfe,hle⟩:=lev_find14 (HLV.out x hxb) hok.1;have HFE:=q9 hfe;have HLE:=q9 hle;have lv5:=(QF V).2;have l0:(0:Int)<=(x.l:Int):=Int.natCast_nonneg _
       have l5:(x.l:Int)<=5:=by have:=hok.2.2.2;omega
       have V0:0<=V:=by have:=HG.r.v1;omega
       have hsh:=shr14 V0 (HL9.hs.level hxb (by have:=hok.1;have:=hok.2.1;omega) (by have:=hok.2.1;omega) (by have:=hok.1;omega) (Qpl HG.r.v1 hok.2.2.2))
       have z0:=(HL9.z.below HB.out HL9.z.lt).cell 0;have zlt:=(HL9.z.below HB.out HL9.z.lt).lt;have HZB:=q9 (HL9.z.below HB.out HL9.z.lt);have HEW9:=q9 (HEZ.below HB.out)
       have ln9:(ln:Int)<=1000:=by have:=HP2.length_eq;have:=HEL.out;have:=HL9.mv.len;have:=HL9.len.2;omega
       have kI:(j:Int)<(ln:Int):=by omega
       have k0:(0:Int)<=(j:Int):=by omega
       clear hx hxb hok lv5 V0 hfe hle e2 e3;go_wp2_with fail
       have hba:Below wr.heap.size wr (wr.alloc (.cells #[I (x.s:Int),I (x.u:Int),I (x.v:Int),I (x.l:Int),.bool x.t] 67)):=(Below.refl _ _).alloc (Nat.le_refl _) _;have HXE:Hid (Blk (wr.alloc (.cells #[I (x.s:Int),I (x.u:Int),I (x.v:Int),I (x.l:Int),.bool x.t] 67)) wr.heap.size 67 #[I (x.s:Int),I (x.u:Int),I (x.v:Int),I (x.l:Int),.bool x.t]):=q9 (Blk.new _ _ _);have HBa:=q9 (HB.trans (hba.mono HB.size));have HEa:=q9 (HEW9.below hba);have HZa:=q9 (HZB.below hba HZB.lt);clear HB HEk hba gfr HEW9 HZB;generalize wr.alloc (.cells #[I (x.s:Int),I (x.u:Int),I (x.v:Int),I (x.l:Int),.bool x.t] 67)=w10 at HXE HBa HEa HZa |-;generalize wr.heap.size=eb at HXE |-;refine(Qop HEa HLN).mono ?_;rintro e w11 ⟨rfl,b11⟩;rw[HFE.out];have HX11:=q9 (HXE.below b11 HXE.lt);have HB11:=q9 (HBa.trans (b11.mono HBa.size));have HZ11:=q9 (HZa.below b11 HZa.lt);clear HXE HBa HEa HZa b11;have HX12:=q9 (HX11.alloc (.cells #[I ys,I yu,I yv,I yl,.bool yt] 67));have HB12:=q9 (HB11.trans (((Below.refl w11.heap.size w11).alloc (Nat.le_refl _) (.cells #[I ys,I yu,I yv,I yl,.bool yt] 67)).mono HB11.size));have HZ12:=q9 (HZ11.alloc (.cells #[I ys,I yu,I yv,I yl,.bool yt] 67));have x1:=HX12.cell 1;have x2:=HX12.cell 2;have x3:=HX12.cell 3;have xlt:=HX12.lt;have z0:=HZ12.cell 0;have zlt:=HZ12.lt
       by_cases q1:yu=(x.u:Int)
       . subst q1
         by_cases q2:yv=(x.v:Int)
         . subst q2
           have qle:=HLE.out rfl rfl
           as_aux_lemma=>
           go_wp2_with fail
           go_roundw
           case rel=>exact⟨j+1,hjn,by simp,HB12.out⟩
           case measure=>simp [intOf];omega
         . have qb2:(yv==(x.v:Int))=false:=beq_eq_false_iff_ne.2 q2
           as_aux_lemma=>
           go_wp2_with fail
           go_roundw
           case rel=>exact⟨j+1,hjn,by simp,HB12.out⟩
           case measure=>simp [intOf];omega
       . have qb1:(yu==(x.u:Int))=false:=beq_eq_false_iff_ne.2 q1
         as_aux_lemma=>
         go_wp2_with fail
         go_roundw
         case rel=>exact⟨j+1,hjn,by simp,HB12.out⟩
         case measure=>simp [intOf];omega
     . as_aux_lemma=>
       have HL10:=q9 ((HL9.below HB.out).more (m':=1280+1470000*(k+1)) (by omega))
       clear HL9 HB;go_wp2_with fail
       go_roundw
       case rel=>exact⟨k+1,f',mk',ts',vl',ls',bs',qq',hkl,by simp,HL10.out⟩
       case measure=>simp [intOf];omega
  . have ek:ol=k:=by omega
    subst ek
    have hkI:¬ (ol:Int)<(ol:Int):=by omega
    clear hk hkl
    as_aux_lemma=>
    go_wp2_with fail
    refine(Qo9 _).mono ?_;rintro e w3 ⟨rfl,hb3⟩;have HB3:=q9 (HL.be.trans (hb3.mono HL.be.size));go_wp2_with fail
    go_ret;exact⟨rfl,HB3⟩
end
end Go.Proofs.YtfpnjpbpfgjakaaGreat
