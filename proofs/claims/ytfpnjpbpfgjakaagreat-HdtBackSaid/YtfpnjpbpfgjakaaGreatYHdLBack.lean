/- HdLBack -/
import Derived.Test.YtfpnjpbpfgjakaaGreatYHf
import Derived.Carry
namespace Go.Proofs.YtfpnjpbpfgjakaaGreat
open Go.RowKit
set_option maxRecDepth 100000
section
variable {V S T:Int}{da oa:Option Addr}{dl dc ol oc:Nat}{fd:Nat->Nat}{fo:Nat->O13}{u v:Int}
set_option maxHeartbeats 16000000 in
theorem lback14 (w:World)(hD:QfW w da dl fd)(hO:Qmx w oa ol fo):
 I0 7 #[vC13 V S T da dl dc oa ol oc,I u,I v] w fun e w'=>e=.returned (.bool true)/\Below w.heap.size w w':=by
 have HO:=q9 hO;have HD:=q9 hD;clear hO hD;have HB1:Hid (Below w.heap.size w (w.alloc (.cells #[I V,I S,I T,.slice da dl dc,.slice oa ol oc] 27))):=q9 ((Below.refl _ _).alloc (Nat.le_refl _) _);have HZ1:Hid (Blk (w.alloc (.cells #[I V,I S,I T,.slice da dl dc,.slice oa ol oc] 27)) w.heap.size 27 #[I V,I S,I T,.slice da dl dc,.slice oa ol oc]):=q9 (Blk.new _ _ _)
 go_enter Tryz.func7,Tryz.ntmps7
 go_upto_region 1 with fail
 generalize (w.alloc (.cells #[I V,I S,I T,.slice da dl dc,.slice oa ol oc] 27))=W1 at HB1 HZ1 |-;generalize w.heap.size=zb at HZ1 |-;have z0:=HZ1.cell 0;have z1:=HZ1.cell 1;have z2:=HZ1.cell 2;have z3:=HZ1.cell 3;have z4:=HZ1.cell 4;have zlt:=HZ1.lt;go_wp2_with fail
 refine(Qf3 V S T da dl dc oa ol oc _).mono ?_;rintro e w2 ⟨rfl,hb2⟩;have HB2:=q9 (HB1.trans (hb2.mono HB1.size));have HZ2:=q9 (HZ1.below hb2 HZ1.lt);clear HB1 HZ1 hb2
 cases hr:Qd4 V S T dl ol
 . go_wp2_with fail
   refine(Qo9 _).mono ?_;rintro e w3 ⟨rfl,hb3⟩;have HB3:=q9 (HB2.trans (hb3.mono HB2.size));go_wp2_with fail
   go_ret;exact⟨rfl,HB3⟩
 have HG:=q9 (Qif hr);clear hr;have z0:=HZ2.cell 0;have z1:=HZ2.cell 1;have z2:=HZ2.cell 2;have z3:=HZ2.cell 3;have z4:=HZ2.cell 4;have zlt:=HZ2.lt
 by_cases b0:u<0
 . go_wp2_with fail
   refine(Qo9 _).mono ?_;rintro e w3 ⟨rfl,hb3⟩;have HB3:=q9 (HB2.trans (hb3.mono HB2.size));go_wp2_with fail
   go_ret;exact⟨rfl,HB3⟩
 by_cases b1:v<0
 . go_wp2_with fail
   refine(Qo9 _).mono ?_;rintro e w3 ⟨rfl,hb3⟩;have HB3:=q9 (HB2.trans (hb3.mono HB2.size));go_wp2_with fail
   go_ret;exact⟨rfl,HB3⟩
 by_cases b2:V<=u
 . go_wp2_with fail
   refine(Qo9 _).mono ?_;rintro e w3 ⟨rfl,hb3⟩;have HB3:=q9 (HB2.trans (hb3.mono HB2.size));go_wp2_with fail
   go_ret;exact⟨rfl,HB3⟩
 by_cases b3:V<=v
 . go_wp2_with fail
   refine(Qo9 _).mono ?_;rintro e w3 ⟨rfl,hb3⟩;have HB3:=q9 (HB2.trans (hb3.mono HB2.size));go_wp2_with fail
   go_ret;exact⟨rfl,HB3⟩
 by_cases b4:u=v
 . subst b4
   go_wp2_with fail
   refine(Qo9 _).mono ?_;rintro e w3 ⟨rfl,hb3⟩;have HB3:=q9 (HB2.trans (hb3.mono HB2.size));go_wp2_with fail
   go_ret;exact⟨rfl,HB3⟩
 obtain⟨u,rfl⟩:∃ n:Nat,u=(n:Int):=⟨u.toNat,by omega⟩
 obtain⟨v,rfl⟩:∃ n:Nat,v=(n:Int):=⟨v.toNat,by omega⟩
 have HUV:Hid ((u:Int)<V/\(v:Int)<V/\u≠v):=q9 ⟨by omega,by omega,fun e=>b4 (by rw[e])⟩
 have b5:((u:Int)==(v:Int))=false:=beq_eq_false_iff_ne.2 b4;have v8:V<=8:=HG.v;have u0I:(0:Int)<=(u:Int):=Int.natCast_nonneg _;have v0I:(0:Int)<=(v:Int):=Int.natCast_nonneg _;go_wp2_with fail
 refine(Qpc HG HD HZ2 HB2).mono ?_;rintro e w3 ⟨base,q,p,gb,cap,f0,mk0,ts0,vl0,rfl,_,hL⟩;have HRel:Hid (Lp14 w zb V S T da dl dc oa ol oc base q p gb cap (I 0) w3):=q9 ⟨0,_,_,_,_,_,_,_,Nat.zero_le _,rfl,hL⟩;clear HZ2 HB2;have z4:=hL.z.cell 4;have zlt:=hL.z.lt;clear hL
 have holI:(ol:Int)<=40:=by have:=HG.o;omega
 go_wp2_with fail
 go_loopw [54] (fun i wr=>Lp14 w zb V S T da dl dc oa ol oc base q p gb cap i wr) (fun i _=>ol-(intOf i).toNat)
 case atStart=>exact HRel.out
 case round=>
  clear HRel;obtain⟨k,f,mk,ts,vl,ls,bs,qq,hk,rfl,hL⟩:=hrel;have HL:=q9 hL;clear hL
  by_cases hkl:k<ol
  . as_aux_lemma=>
    obtain⟨ob,off,rfl,hcell⟩:=HO.out (by omega)
    have hc:=hcell k hkl;obtain⟨o,ho⟩:∃ o,fo k=o:=⟨_,rfl⟩;rw[ho] at hc;obtain⟨kd,u9,v9⟩:=o;have c0:=Qi HL.be hc.1;have c1:=Qi HL.be hc.2.1;have c2:=Qi HL.be hc.2.2
    have hkI:(k:Int)<(ol:Int):=by omega
    have hk0:(0:Int)<=(k:Int):=by omega
    have HLa:=q9 (HL.alloc (.cells #[I kd,I u9,I v9] 33));clear hc ho hcell HL;go_wp2_with fail
    refine(Qpo HLa HG (by omega)).mono ?_
    rintro e w5 ⟨rfl,f',mk',ts',vl',ls',bs',qq',hL5,_⟩;have HL5:=q9 hL5;clear hL5 HLa
    have HL6:=q9 (HL5.more (m':=1280+1470000*(k+1)) (by omega))
    clear HL5;go_wp2_with fail
    go_roundw
    case rel=>exact⟨k+1,f',mk',ts',vl',ls',bs',qq',hkl,by simp,HL6.out⟩
    case measure=>simp [intOf];omega
  . have ek:ol=k:=by omega
    subst ek
    have hkI:¬ (ol:Int)<(ol:Int):=by omega
    clear hk hkl
    as_aux_lemma=>
    obtain⟨M9,hM9⟩:∃ M,1280+1470000*ol=M:=⟨_,rfl⟩
    have HM9:Hid (M9<=58810000):=q9 (by have:=HG.o;omega)
    rw[hM9] at HL;clear hM9;obtain⟨n,hn⟩:∃ n,ls.length=n:=⟨_,rfl⟩;have HN:=q9 (And.intro hn HL.len.2);obtain⟨av,ac,rfl⟩:=HL.pw.ew.slice;clear hn
    have hfr:=Qo3 HL.pw.pq HL.pw.ew HN.2 HG.r.s1 (by have:=HG.s;omega)
    go_wp2_with fail
    refine hfr.mono ?_;rintro e w4 ⟨r,rfl,hfi,hb4⟩;have HL2:=q9 (HL.below hb4);have HFI:=q9 hfi;clear hfr hfi hb4 HL;obtain⟨a,ha⟩:∃ a,min u v=a:=⟨_,rfl⟩;obtain⟨c,hc⟩:∃ a,max u v=a:=⟨_,rfl⟩;have HAE:=q9 (And.intro ha hc)
    have HAC:Hid (((a=u/\c=v)\/(a=v/\c=u))/\a<c):=q9 (by have:=HUV.out;omega)
    have hbt:=QoF HL2.pw.pq HL2.pw.ew HN.2 ha hc (fun i j x y hi hj e=>HL2.mv.ends1 HL2.lg.er hi hj e)
    clear ha hc;go_wp2_with fail
    refine hbt.mono ?_;rintro e w5 ⟨r2,rfl,hbi,hb5⟩;have HL3:=q9 (HL2.below hb5);have hbd:=hbi.bd HN.2;have HBI:=q9 hbi;clear hbt hbi hb5 HL2
    by_cases c1:0<=r2
    . go_wp2_with fail
      refine(Qo9 _).mono ?_;rintro e w3 ⟨rfl,hb3⟩;have HB3:=q9 (HL3.be.trans (hb3.mono HL3.be.size));go_wp2_with fail
      go_ret;exact⟨rfl,HB3⟩
    by_cases c2:r<0
    . go_wp2_with fail
      refine(Qo9 _).mono ?_;rintro e w3 ⟨rfl,hb3⟩;have HB3:=q9 (HL3.be.trans (hb3.mono HL3.be.size));go_wp2_with fail
      go_ret;exact⟨rfl,HB3⟩
    obtain⟨sl,rfl,hsS,hns⟩:∃ s9:Nat,r=(s9:Int)/\(s9:Int)<S/\∀ x∈ls,x.s≠s9:=by
     rcases HFI.out with ⟨rfl,_⟩|⟨s9,rfl,h1,h2⟩
     . omega
     . exact⟨s9,rfl,h1,h2⟩
    have hnp:∀ x∈ls,¬ (x.u=a/\x.v=c):=by
     rcases HBI.out with ⟨_,h⟩|⟨i,x,h,_⟩
     . exact h
     . omega
    have HNP:Hid (∀ x∈bs,¬ (x.u=min u v/\x.v=max u v)):=q9 fun x hx=>by
     rw[HAE.1,HAE.2];obtain⟨i,hi⟩:=List.mem_iff_getElem?.1 hx;obtain⟨y,hy,a1,a2,a3,_⟩:=HL3.mv.back hi;rw[a2,a3];exact hnp y (List.mem_of_getElem? hy)
    have HNS:Hid (∀ x∈bs,x.s≠sl):=q9 fun x hx=>by
     obtain⟨i,hi⟩:=List.mem_iff_getElem?.1 hx;obtain⟨y,hy,a1,a2,a3,_⟩:=HL3.mv.back hi;rw[a1];exact hns y (List.mem_of_getElem? hy)
    have HSS:=q9 hsS;have sl0:(0:Int)<=(sl:Int):=Int.natCast_nonneg _
    have slU:(sl:Int)<=1000:=by have:=HG.s;omega
    clear hsS hns hnp HFI HBI;have h128:=Qoz HG.r HG.v HG.s;have hdc:=QpE HG.r HG.v HG.s;obtain⟨c0,c1,c2,c3,c4,c5,c6,c7,c8,c9,c10,c11,c12,c13,c14⟩:=HL3.pw.pq.cells;have qlt:=HL3.pw.pq.lt
    have hj:=QpS (x:=u) (y:=v) HL3.out HUV.1 HUV.2.1 (by have:=HM9.out;omega)
    go_wp2_with fail
    refine hj.mono ?_;rintro e w6 ⟨r3,rfl,hr3,hL4⟩;have HL4:=q9 hL4
    have HWW:Hid (Way (aE ls) u v↔Way (tE bs 0) u v):=q9 (by rw[<-hL4.mv.aE_eq];exact hL4.hs.all)
    have HR3:Hid (r3=true↔Way (tE bs 0) u v):=q9 (hr3.trans (by rw[<-hL4.mv.aE_eq];exact hL4.hs.all))
    clear hj hr3 hL4 HL3;obtain⟨c0,c1,c2,c3,c4,c5,c6,c7,c8,c9,c10,c11,c12,c13,c14⟩:=HL4.pw.pq.cells;have qlt:=HL4.pw.pq.lt
    have hin:=QoY (s:=sl) (u:=u) (v:=v) HL4.pw.ta HL4.lg HUV.2.2 HUV.1 HUV.2.1 HSS.out HNS.out HNP.out (by have:=HM9.out;omega)
    go_wp2_with fail
    refine hin.mono ?_;rintro e w7 ⟨t,f7,mk7,ts7,q7,rfl,ht,A7,G7,O7⟩;rw[HAE.1,HAE.2] at G7;have HG7:=q9 G7;have HT7:=q9 ht;have H7:=q9 ((PX13.start HL4.pw).next A7 O7);have HB7:Hid (Below w.heap.size w w7):=q9 (HL4.be.trans (H7.be.mono HL4.hb))
    have HI7:Hid (Hs V.toNat (bs++[⟨sl,a,c,0,t⟩])):=q9 (HL4.hs.inn (by
     refine ht.trans (not_congr ?_)
     rcases HAC.1 with ⟨rfl,rfl⟩|⟨rfl,rfl⟩
     . exact Iff.rfl
     . exact⟨Way.symm,Way.symm⟩))
    have HTR:Hid (t=!r3):=q9 (by
     cases r3 with
     |true=>cases t with
      |true=>exact absurd (HR3.1 rfl) (ht.1 rfl)
      |false=>rfl
     |false=>cases t with
      |true=>rfl
      |false=>have:=ht.2 (fun h=>by have:=HR3.2 h;cases this);cases this)
    have HWV:Hid (Way (tE (bs++[⟨sl,a,c,0,t⟩]) 0) u v):=q9 (by
     rw[<-HI7.all];have h1:Way (aE (bs++[⟨sl,a,c,0,t⟩])) a c:=(Way.refl a).fore (s:=sl) (Qo5.2 ⟨_,List.mem_append_right _ (List.mem_singleton.2 rfl),rfl,rfl,rfl⟩)
     rcases HAC.1 with ⟨rfl,rfl⟩|⟨rfl,rfl⟩
     . exact h1
     . exact h1.symm)
    have e1:(t==r3)=false:=by rw[HTR.out];cases r3<;>rfl
    clear hin A7 O7 G7 ht;obtain⟨c0,c1,c2,c3,c4,c5,c6,c7,c8,c9,c10,c11,c12,c13,c14⟩:=H7.pw.pq.cells;have qlt:=H7.pw.pq.lt
    have hj7:=Qom (u:=u) (v:=v) H7.pw.ta HG7.lf HUV.1 HUV.2.1 (by have:=HM9.out;omega)
    go_wp2_with fail
    refine hj7.mono ?_;rintro e w8 ⟨r4,rfl,hr4,A8,O8⟩;obtain rfl:r4=true:=hr4.2 HWV.out;have H8:=q9 (H7.next A8 O8);clear hj7 A8 O8 hr4 H7;obtain⟨c0,c1,c2,c3,c4,c5,c6,c7,c8,c9,c10,c11,c12,c13,c14⟩:=H8.pw.pq.cells;have qlt:=H8.pw.pq.lt;obtain⟨k9,hk9⟩:∃ k,bs.length=k:=⟨_,rfl⟩
    have HE9:Hid ((bs++[(⟨sl,a,c,0,t⟩:E1)])[k9]?=some ⟨sl,a,c,0,t⟩/\(bs++[(⟨sl,a,c,0,t⟩:E1)]).eraseIdx k9=bs):=q9 (by
     subst hk9
     exact⟨by rw[List.getElem?_append_right (Nat.le_refl _),Nat.sub_self];rfl,by rw[List.eraseIdx_append_of_length_le (Nat.le_refl _),Nat.sub_self];simp⟩)
    have hdl:=Qpm (x:=⟨sl,a,c,0,t⟩) H8.pw.ta HG7.out HI7.out HE9.1 (by omega) (by have:=HM9.out;omega)
    rw[HE9.2] at hdl;clear hk9;go_wp2_with fail
    refine hdl.mono ?_;rintro e w9 ⟨tr,ok,by9,f9,mk9,ts9,bs9,qy,rfl,A9,G9,D9,O9⟩;obtain rfl:tr=t:=D9.tr
    have hok:ok=false:=by
     cases ok with
     |false=>rfl
     |true=>
      exfalso
      have h1:=D9.jn.1 rfl;refine HT7.1 h1.1 ?_;rw[<-HL4.hs.all]
      rcases HAC.1 with ⟨h2,h3⟩|⟨h2,h3⟩
      . rw[<-h2,<-h3];exact h1.2
      . rw[<-h2,<-h3];exact h1.2.symm
    subst hok;obtain rfl:by9=0:=D9.no rfl
    have HL9:Hid (LwH w w9 zb V S T da dl dc oa ol oc base q p gb cap (M9+4000000) f9 mk9 ts9 (.slice av ls.length ac) ls bs9 qy):=q9 ((HL4.over (H8.next A9 O9) G9 D9.hs (HL4.mv.trans D9.mv)).more (by omega))
    have e2:(tr !=tr)=false:=by cases tr<;>rfl
    clear hdl A9 O9 G9 D9 H8 HL4 HI7 HWV HG7 HE9;obtain⟨c0,c1,c2,c3,c4,c5,c6,c7,c8,c9,c10,c11,c12,c13,c14⟩:=HL9.pw.pq.cells;have qlt:=HL9.pw.pq.lt
    have hjA:=QpS (x:=u) (y:=v) HL9.out HUV.1 HUV.2.1 (by have:=HM9.out;omega)
    go_wp2_with fail
    refine hjA.mono ?_;rintro e wA ⟨r5,rfl,hr5,hLA⟩;obtain rfl:r5=r3:=Bool.eq_iff_iff.2 (hr5.trans (HWW.trans HR3.symm));have HLA:=q9 hLA;clear hjA hr5 hLA HL9;go_wp2_with fail
    refine(QpT HLA.out HG.out (by have:=HM9.out;omega)).mono ?_;rintro e wB ⟨rfl,hLB⟩
    have HLB:=q9 hLB;clear hLB HLA;go_wp2_with fail
    refine(QpU HLB.out HG.out (by have:=HM9.out;omega)).mono ?_;rintro e wC ⟨b,rfl,hB,hV,hLC⟩
    have HLC:=q9 hLC;clear hLC HLB;go_wp2_with fail
    refine(hB.sound (by rw[hV];exact HLC.hs)).mono ?_;rintro e wD ⟨rfl,b5⟩
    have HLD:=q9 (HLC.below b5).be;clear HLC hB hV b5;go_wp2_with fail
    refine(Qo9 _).mono ?_;rintro e w3 ⟨rfl,hb3⟩;have HB3:=q9 (HLD.trans (hb3.mono HLD.size));go_wp2_with fail
    go_ret;exact⟨rfl,HB3⟩
end
end Go.Proofs.YtfpnjpbpfgjakaaGreat
