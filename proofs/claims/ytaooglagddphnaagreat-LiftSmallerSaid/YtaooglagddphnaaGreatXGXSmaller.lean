/- GXSmaller -/
import Derived.Test.YtaooglagddphnaaGreatXGr
import Derived.Carry
namespace Go.Proofs.YtaooglagddphnaaGreat
open Go.RowKit
set_option maxRecDepth 100000
section
variable {w w' w0 w1 W:World}{zb base q p gb cap m m':Nat}{V S T kd s u v:Int}{da oa:Option Addr}{dl dc ol oc:Nat}{f f':Nat->Int}{mk mk':Nat->Nat}{ts ts':List Tp}{vl vl':Value}{ls ls':List E1}{qq qq':Nat->Nat->List Nat}{fd:Nat->Nat}
theorem xforest13 (h:LwX w W zb V S T da dl dc oa ol oc base q p gb cap m f mk ts vl ls qq)(hG:RH13 V S T dl ol){L x y:Nat}{LI xI yI:Int}(hL:LI=(L:Int))(hx:xI=(x:Int))(hy:yI=(y:Int))(hV:(x:Int)<V):
 Calls Tryz.prog 14 #[.pointer (some (I1 q 0)),I LI,I xI,I yI] W fun e w'=>∃ r,e=.returned (.bool r)/\(r=true↔Way (tE ls L) x y)/\LwX w w' zb V S T da dl dc oa ol oc base q p gb cap m f mk ts vl ls qq:=by
 subst hL hx hy
 refine(Qkv h.pw.pq h.pw.ew h.len.2 (fun x hx=>⟨(h.lg.er.ok x hx).1,(h.lg.er.ok x hx).2.1⟩) (by have:=hG.v;omega) hV).mono ?_
 rintro e w' ⟨r,rfl,hr,hb⟩;exact⟨r,rfl,hr,h.below hb⟩
def Lp13 (w:World)(zb:Nat)(V S T:Int)(da:Option Addr)(dl dc:Nat)(oa:Option Addr)(ol oc:Nat)(base q p gb cap:Nat)(i:Value)(W:World):Prop:=
 ∃ k f mk ts vl ls qq,k<=ol/\i=I ((k:Nat):Int)/\LwX w W zb V S T da dl dc oa ol oc base q p gb cap (660+14680*k) f mk ts vl ls qq
end
section
variable {E:List (Nat × Nat × Nat)}{u k:Nat}
open Classical in
noncomputable def cK (E:List (Nat × Nat × Nat))(u k:Nat):Nat:=((List.range k).filter fun v=>decide (Way E u v)).length
theorem cK_le:cK E u k<=k:=by
 classical
 unfold cK
 exact Nat.le_trans (List.length_filter_le _ _) (by rw[List.length_range];exact Nat.le_refl _)
theorem cK_zero:cK E u 0=0:=rfl
theorem cK_yes (h:Way E u k):cK E u (k+1)=cK E u k+1:=by
 classical
 unfold cK
 rw[List.range_succ,List.filter_append,List.length_append,List.filter_cons_of_pos (by simpa using h)]
 rfl
theorem cK_no (h:¬ Way E u k):cK E u (k+1)=cK E u k:=by
 classical
 unfold cK
 rw[List.range_succ,List.filter_append,List.length_append,List.filter_cons_of_neg (by simpa using h)]
 rfl
end
section
variable {V S T u v li:Int}{da oa:Option Addr}{dl dc ol oc:Nat}{fd:Nat->Nat}{fo:Nat->O13}
set_option maxHeartbeats 16000000 in
theorem lsmaller13 (w:World)(hD:QfW w da dl fd)(hO:Qmx w oa ol fo):
 Calls Tryz.prog 6 #[vC13 V S T da dl dc oa ol oc,I li,.agg #[I u,I v]] w fun e w'=>e=.returned (.bool true)/\Below w.heap.size w w':=by
 have HO:=q9 hO;have HD:=q9 hD;clear hO hD
 have HB1:Hid (Below w.heap.size w ((w.alloc (.cells #[I V,I S,I T,.slice da dl dc,.slice oa ol oc] 27)).alloc (.cells #[I u,I v] 72))):=q9 (((Below.refl _ _).alloc (Nat.le_refl _) _).alloc (by simp) _)
 have HZ1:Hid (Blk ((w.alloc (.cells #[I V,I S,I T,.slice da dl dc,.slice oa ol oc] 27)).alloc (.cells #[I u,I v] 72)) w.heap.size 27 #[I V,I S,I T,.slice da dl dc,.slice oa ol oc]):=q9 ((Blk.new _ _ _).alloc _);have HA1:Hid (Blk ((w.alloc (.cells #[I V,I S,I T,.slice da dl dc,.slice oa ol oc] 27)).alloc (.cells #[I u,I v] 72)) (w.heap.size+1) 72 #[I u,I v]):=q9 (Q8 w _ _ _ _)
 go_enter Tryz.func6,Tryz.ntmps6
 go_wp2_with fail
 generalize w.heap.size+1=ab at HA1 |-;generalize w.heap.size=zb at HZ1 |-;generalize ((w.alloc (.cells #[I V,I S,I T,.slice da dl dc,.slice oa ol oc] 27)).alloc (.cells #[I u,I v] 72))=W1 at HB1 HZ1 HA1 |-;have HBd:=q9 (HB1.trans ((Below.refl (w.heap.size) W1).drew));have HZd:Hid (Blk W1.drew zb 27 #[I V,I S,I T,.slice da dl dc,.slice oa ol oc]):=q9 (HZ1.below (Below.refl _ _).drew HZ1.lt);have HAd:Hid (Blk W1.drew ab 72 #[I u,I v]):=q9 (HA1.below (Below.refl _ _).drew HA1.lt);clear HB1 HZ1 HA1;have x0:=HAd.cell 0;have x1:=HAd.cell 1;have xlt:=HAd.lt
 have hrule:∀ W:World,Blk W ab 72 #[I u,I v]->W.cell? (I1 ab 0)=some (I u)/\W.cell? (I1 ab 1)=some (I v):=fun _ h=>⟨h.cell 0,h.cell 1⟩
 go_region_held3 (fun W=>Blk W ab 72 #[I u,I v]) (first|(with_reducible assumption)|(with_reducible exact HAd.out)) (fail)
 clear hrule x0 x1 xlt;generalize W1.drew=W2 at HBd HZd HAd |-;have z0:=HZd.cell 0;have z1:=HZd.cell 1;have z2:=HZd.cell 2;have z3:=HZd.cell 3;have z4:=HZd.cell 4;have zlt:=HZd.lt;go_wp2_with fail
 refine(Qf3 V S T da dl dc oa ol oc _).mono ?_;rintro e w2 ⟨rfl,hb2⟩;have HB2:=q9 (HBd.trans (hb2.mono HBd.size));have HZ2:=q9 (HZd.below hb2 HZd.lt);clear HBd HZd HAd hb2 z0 z1 z2 z3 z4 zlt
 cases hr:Qd4 V S T dl ol
 . go_wp2_with fail
   refine(QdT _).mono ?_;rintro e w3 ⟨rfl,hb3⟩;have HB3:=q9 (HB2.trans (hb3.mono HB2.size));go_wp2_with fail
   go_ret;exact⟨rfl,HB3⟩
 have HG:=q9 (Qif hr);clear hr;have z0:=HZ2.cell 0;have z1:=HZ2.cell 1;have z2:=HZ2.cell 2;have z3:=HZ2.cell 3;have z4:=HZ2.cell 4;have zlt:=HZ2.lt
 by_cases b0:v<0
 . go_wp2_with fail
   refine(QdT _).mono ?_;rintro e w3 ⟨rfl,hb3⟩;have HB3:=q9 (HB2.trans (hb3.mono HB2.size));go_wp2_with fail
   go_ret;exact⟨rfl,HB3⟩
 by_cases b1:V<=v
 . go_wp2_with fail
   refine(QdT _).mono ?_;rintro e w3 ⟨rfl,hb3⟩;have HB3:=q9 (HB2.trans (hb3.mono HB2.size));go_wp2_with fail
   go_ret;exact⟨rfl,HB3⟩
 by_cases b2:u<0
 . go_wp2_with fail
   refine(QdT _).mono ?_;rintro e w3 ⟨rfl,hb3⟩;have HB3:=q9 (HB2.trans (hb3.mono HB2.size));go_wp2_with fail
   go_ret;exact⟨rfl,HB3⟩
 by_cases b3:V<=u
 . go_wp2_with fail
   refine(QdT _).mono ?_;rintro e w3 ⟨rfl,hb3⟩;have HB3:=q9 (HB2.trans (hb3.mono HB2.size));go_wp2_with fail
   go_ret;exact⟨rfl,HB3⟩
 by_cases b4:li<0
 . go_wp2_with fail
   refine(QdT _).mono ?_;rintro e w3 ⟨rfl,hb3⟩;have HB3:=q9 (HB2.trans (hb3.mono HB2.size));go_wp2_with fail
   go_ret;exact⟨rfl,HB3⟩
 by_cases b5:lv V<=li
 . go_wp2_with fail
   refine(QM V S T HG.r _).mono ?_;rintro e w9 ⟨rfl,hb9⟩;have HB9:=q9 (HB2.trans (hb9.mono HB2.size));clear hb9;go_wp2_with fail
   refine(QdT _).mono ?_;rintro e w3 ⟨rfl,hb3⟩;have HB3:=q9 (HB9.trans (hb3.mono HB9.size));go_wp2_with fail
   go_ret;exact⟨rfl,HB3⟩
 obtain⟨u,rfl⟩:∃ n:Nat,u=(n:Int):=⟨u.toNat,by omega⟩
 obtain⟨v,rfl⟩:∃ n:Nat,v=(n:Int):=⟨v.toNat,by omega⟩
 obtain⟨L,rfl⟩:∃ n:Nat,li=(n:Int):=⟨li.toNat,by omega⟩
 have HUV:Hid ((u:Int)<V/\(v:Int)<V/\(L:Int)<lv V):=q9 ⟨by omega,by omega,by omega⟩
 go_wp2_with fail
 refine(QM V S T HG.r _).mono ?_;rintro e w9 ⟨rfl,hb9⟩;have HB9:=q9 (HB2.trans (hb9.mono HB2.size));have HZ9:=q9 (HZ2.below hb9 HZ2.lt);clear hb9 HB2 HZ2 z0 z1 z2 z3 z4 zlt;have z0:=HZ9.cell 0;have z1:=HZ9.cell 1;have z2:=HZ9.cell 2;have z3:=HZ9.cell 3;have z4:=HZ9.cell 4;have zlt:=HZ9.lt;go_wp2_with fail
 refine(QjB HG HD HZ9 HB9).mono ?_;rintro e w3 ⟨base,q,p,gb,cap,f0,mk0,ts0,vl0,rfl,_,hL⟩;have HRel:Hid (Lp13 w zb V S T da dl dc oa ol oc base q p gb cap (I 0) w3):=q9 ⟨0,_,_,_,_,_,_,Nat.zero_le _,rfl,hL⟩;clear z0 z1 z2 z3 z4 zlt HZ9 HB9;have z4:=hL.z.cell 4;have zlt:=hL.z.lt;clear hL
 have holI:(ol:Int)<=40:=by have:=HG.o;omega
 go_wp2_with fail
 go_loopw [64] (fun i wr=>Lp13 w zb V S T da dl dc oa ol oc base q p gb cap i wr) (fun i _=>ol-(intOf i).toNat)
 case atStart=>exact HRel.out
 case round=>
  clear HRel z4 zlt;obtain⟨k,f,mk,ts,vl,ls,qq,hk,rfl,hL⟩:=hrel;have HL:=q9 hL;clear hL
  by_cases hkl:k<ol
  . as_aux_lemma=>
    obtain⟨ob,off,rfl,hcell⟩:=HO.out (by omega)
    have hc:=hcell k hkl;obtain⟨o,ho⟩:∃ o,fo k=o:=⟨_,rfl⟩;rw[ho] at hc;obtain⟨kd,s9,u9,v9⟩:=o;have c0:=Qi HL.be hc.1;have c1:=Qi HL.be hc.2.1;have c2:=Qi HL.be hc.2.2.1;have c3:=Qi HL.be hc.2.2.2
    have hkI:(k:Int)<(ol:Int):=by omega
    have hk0:(0:Int)<=(k:Int):=by omega
    have HLa:=q9 (HL.alloc (.cells #[I kd,I s9,I u9,I v9] 33));clear hc ho hcell HL;go_wp2_with fail
    refine(Qln HLa HG (by omega)).mono ?_
    rintro e w5 ⟨rfl,f',mk',ts',vl',ls',qq',hL5⟩
    have HL5:=q9 (hL5.more (m':=660+14680*(k+1)) (by omega))
    clear hL5 HLa c0 c1 c2 c3;go_wp2_with fail
    go_roundw
    case rel=>exact⟨k+1,f',mk',ts',vl',ls',qq',hkl,by simp,HL5.out⟩
    case measure=>simp [intOf];omega
  . have ek:ol=k:=by omega
    subst ek
    have hkI:¬ (ol:Int)<(ol:Int):=by omega
    clear hk hkl
    as_aux_lemma=>
    have z0:=HL.z.cell 0;have zlt:=HL.z.lt
    obtain⟨vn,hvn⟩:∃ n:Nat,V=(n:Int):=⟨V.toNat,by have:=HG.r.v1;omega⟩
    have HVN:=q9 hvn
    have hv6:vn<=6:=by have:=HG.v;omega
    have HV6:=q9 hv6;rw[hvn] at z0;clear hvn;go_wp2_with fail
    clear z0 zlt;obtain⟨M9,hM9⟩:∃ M,660+14680*ol=M:=⟨_,rfl⟩
    have HM9:Hid (M9<=740000):=q9 (by have:=HG.o;omega)
    rw[hM9] at HL;clear hM9
    have HRel:Hid (∃ k:Nat,k<=vn/\(I 0:Value)=I ((k:Nat):Int)/\(I 0:Value)=I ((cK (tE ls L) u k:Nat):Int)/\(I 0:Value)=I ((cK (tE ls L) v k:Nat):Int)/\LwX w wr zb V S T da dl dc oa ol oc base q p gb cap M9 f mk ts vl ls qq):=q9 ⟨0,Nat.zero_le _,rfl,by rw[cK_zero];rfl,by rw[cK_zero];rfl,HL.out⟩
    go_loopw [12,13,75] (fun a b i wr=>∃ k:Nat,k<=vn/\i=I ((k:Nat):Int)/\a=I ((cK (tE ls L) u k:Nat):Int)/\b=I ((cK (tE ls L) v k:Nat):Int)/\LwX w wr zb V S T da dl dc oa ol oc base q p gb cap M9 f mk ts vl ls qq) (fun _ _ i _=>vn-(intOf i).toNat)
    case atStart=>exact HRel.out
    case round=>
     clear HRel HL;obtain⟨k,hk,rfl,rfl,rfl,hL⟩:=hrel;have HL:=q9 hL;clear hL;have hka:=cK_le (E:=tE ls L) (u:=u) (k:=k);have hkb:=cK_le (E:=tE ls L) (u:=v) (k:=k);obtain⟨a9,ha9⟩:∃ n,cK (tE ls L) u k=n:=⟨_,rfl⟩;obtain⟨b9,hb9⟩:∃ n,cK (tE ls L) v k=n:=⟨_,rfl⟩;have HA9:=q9 (And.intro ha9 hb9);rw[ha9] at hka;rw[hb9] at hkb;rw[ha9,hb9];clear ha9 hb9
     have ka:(a9:Int)<=6:=by omega
     have kb:(b9:Int)<=6:=by omega
     have ka0:(0:Int)<=(a9:Int):=by omega
     have kb0:(0:Int)<=(b9:Int):=by omega
     by_cases hkv:k<vn
     . have hkI:(k:Int)<(vn:Int):=by omega
       have hk6:(k:Int)<=6:=by omega
       have hk0:(0:Int)<=(k:Int):=by omega
       go_wp2_with fail
       refine(xforest13 HL HG rfl rfl rfl HUV.1).mono ?_;rintro e w5 ⟨r,rfl,hr,hL5⟩;have HL5:=q9 hL5;have HR5:=q9 hr;clear hL5 hr HL
       cases r
       . have HN5:Hid (cK (tE ls L) u (k+1)=a9):=q9 ((cK_no fun h=>by have:=HR5.2 h;cases this).trans HA9.1)
         go_wp2_with fail
         refine(xforest13 HL5 HG rfl rfl rfl HUV.2.1).mono ?_;rintro e w6 ⟨r,rfl,hr,hL6⟩;have HL6:=q9 hL6;have HR6:=q9 hr;clear hL6 hr HL5
         cases r
         . have HN6:Hid (cK (tE ls L) v (k+1)=b9):=q9 ((cK_no fun h=>by have:=HR6.2 h;cases this).trans HA9.2)
           go_wp2_with fail
           go_roundw
           case rel=>exact⟨k+1,hkv,by simp,by rw[HN5.out],by rw[HN6.out],HL6.out⟩
           case measure=>simp [intOf];omega
         . have HN6:Hid (cK (tE ls L) v (k+1)=b9+1):=q9 ((cK_yes (HR6.1 rfl)).trans (by rw[HA9.2]))
           go_wp2_with fail
           go_roundw
           case rel=>exact⟨k+1,hkv,by simp,by rw[HN5.out],by rw[HN6.out];simp,HL6.out⟩
           case measure=>simp [intOf];omega
       . have HN5:Hid (cK (tE ls L) u (k+1)=a9+1):=q9 ((cK_yes (HR5.1 rfl)).trans (by rw[HA9.1]))
         go_wp2_with fail
         refine(xforest13 HL5 HG rfl rfl rfl HUV.2.1).mono ?_;rintro e w6 ⟨r,rfl,hr,hL6⟩;have HL6:=q9 hL6;have HR6:=q9 hr;clear hL6 hr HL5
         cases r
         . have HN6:Hid (cK (tE ls L) v (k+1)=b9):=q9 ((cK_no fun h=>by have:=HR6.2 h;cases this).trans HA9.2)
           go_wp2_with fail
           go_roundw
           case rel=>exact⟨k+1,hkv,by simp,by rw[HN5.out];simp,by rw[HN6.out],HL6.out⟩
           case measure=>simp [intOf];omega
         . have HN6:Hid (cK (tE ls L) v (k+1)=b9+1):=q9 ((cK_yes (HR6.1 rfl)).trans (by rw[HA9.2]))
           go_wp2_with fail
           go_roundw
           case rel=>exact⟨k+1,hkv,by simp,by rw[HN5.out];simp,by rw[HN6.out];simp,HL6.out⟩
           case measure=>simp [intOf];omega
     . have ek:vn=k:=by omega
       subst ek
       have hkI:¬ (vn:Int)<(vn:Int):=by omega
       obtain⟨gr,hV,hg⟩:=HL.lg.lf.fo
       have hcu:cntJ V (gr L) u=a9:=by rw[Qi9 (hg L HUV.2.2),HVN.out];exact HA9.1
       have hcv:cntJ V (gr L) v=b9:=by rw[Qi9 (hg L HUV.2.2),HVN.out];exact HA9.2
       have hsm:=Qhu (L:=L) (u:=u) (v:=v) HL.pw.ta hV HUV.2.2 HUV.1 HUV.2.1 (by have:=HM9.out;omega)
       rw[hcu,hcv] at hsm;have HSM:=q9 hsm;clear hsm hcu hcv hV hg;obtain⟨c0,c1,c2,c3,c4,c5,c6,c7,c8,c9,c10,c11,c12,c13,c14⟩:=HL.pw.pq.cells;have qlt:=HL.pw.pq.lt
       by_cases hba:b9<a9
       . have hbI:(b9:Int)<(a9:Int):=by omega
         have hsm:=HSM.out;rw[if_pos hba] at hsm;clear HSM;go_wp2_with fail
         refine hsm.mono ?_;rintro e w7 ⟨rfl,A7,O7⟩;have HB7:=q9 (HL.next A7 O7 HL.lg).be;clear hsm A7 O7 HL c0 c1 c2 c3 c4 c5 c6 c7 c8 c9 c10 c11 c12 c13 c14 qlt
         have e7:((v:Int)==(v:Int))=true:=by simp
         go_wp2_with fail
         refine(QdT _).mono ?_;rintro e w8 ⟨rfl,hb8⟩;have HB8:=q9 (HB7.trans (hb8.mono HB7.size));go_wp2_with fail
         go_ret;exact⟨rfl,HB8⟩
       . have hbI:¬ (b9:Int)<(a9:Int):=by omega
         have hsm:=HSM.out;rw[if_neg hba] at hsm;clear HSM;go_wp2_with fail
         refine hsm.mono ?_;rintro e w7 ⟨rfl,A7,O7⟩;have HB7:=q9 (HL.next A7 O7 HL.lg).be;clear hsm A7 O7 HL c0 c1 c2 c3 c4 c5 c6 c7 c8 c9 c10 c11 c12 c13 c14 qlt
         have e7:((u:Int)==(u:Int))=true:=by simp
         go_wp2_with fail
         refine(QdT _).mono ?_;rintro e w8 ⟨rfl,hb8⟩;have HB8:=q9 (HB7.trans (hb8.mono HB7.size));go_wp2_with fail
         go_ret;exact⟨rfl,HB8⟩
end
end Go.Proofs.YtaooglagddphnaaGreat
