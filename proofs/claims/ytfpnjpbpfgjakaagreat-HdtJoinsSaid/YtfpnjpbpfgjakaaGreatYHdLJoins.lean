/- HdLJoins -/
import Derived.Test.YtfpnjpbpfgjakaaGreatYHf
import Derived.Carry
namespace Go.Proofs.YtfpnjpbpfgjakaaGreat
open Go.RowKit
set_option maxRecDepth 100000
def Jr14 (w:World)(zb:Nat)(V S T:Int)(da:Option Addr)(dl dc:Nat)(oa:Option Addr)(ol oc:Nat)(base q p gb cap M K:Nat)(i:Value)(W:World):Prop:=
 ∃ (x:Nat) (f:Nat->Int) (mk:Nat->Nat) (ts:List Tp) (vl:Value) (ls bs:List E1) (qq:Nat->Nat->List Nat),(x:Int)<=V/\i=I ((x:Nat):Int)/\LwH w W zb V S T da dl dc oa ol oc base q p gb cap (M+K*x) f mk ts vl ls bs qq
section
variable {V S T:Int}{da oa:Option Addr}{dl dc ol oc:Nat}{fd:Nat->Nat}{fo:Nat->O13}
set_option maxHeartbeats 16000000 in
theorem ljoins14 (w:World)(hD:QfW w da dl fd)(hO:Qmx w oa ol fo):
 I0 5 #[vC13 V S T da dl dc oa ol oc] w fun e w'=>e=.returned (.bool true)/\Below w.heap.size w w':=by
 have HO:=q9 hO;have HD:=q9 hD;clear hO hD;have HB1:Hid (Below w.heap.size w (w.alloc (.cells #[I V,I S,I T,.slice da dl dc,.slice oa ol oc] 27))):=q9 ((Below.refl _ _).alloc (Nat.le_refl _) _);have HZ1:Hid (Blk (w.alloc (.cells #[I V,I S,I T,.slice da dl dc,.slice oa ol oc] 27)) w.heap.size 27 #[I V,I S,I T,.slice da dl dc,.slice oa ol oc]):=q9 (Blk.new _ _ _)
 go_enter Tryz.func5,Tryz.ntmps5
 go_upto_region 1 with fail
 generalize (w.alloc (.cells #[I V,I S,I T,.slice da dl dc,.slice oa ol oc] 27))=W1 at HB1 HZ1 |-;generalize w.heap.size=zb at HZ1 |-;have z0:=HZ1.cell 0;have z1:=HZ1.cell 1;have z2:=HZ1.cell 2;have z3:=HZ1.cell 3;have z4:=HZ1.cell 4;have zlt:=HZ1.lt;go_wp2_with fail
 refine(Qf3 V S T da dl dc oa ol oc _).mono ?_;rintro e w2 ⟨rfl,hb2⟩;have HB2:=q9 (HB1.trans (hb2.mono HB1.size));have HZ2:=q9 (HZ1.below hb2 HZ1.lt);clear HB1 HZ1 hb2
 cases hr:Qd4 V S T dl ol
 . go_wp2_with fail
   refine(Qo9 _).mono ?_;rintro e w3 ⟨rfl,hb3⟩;have HB3:=q9 (HB2.trans (hb3.mono HB2.size));go_wp2_with fail
   go_ret;exact⟨rfl,HB3⟩
 have HG:=q9 (Qif hr);clear hr;have z0:=HZ2.cell 0;have z1:=HZ2.cell 1;have z2:=HZ2.cell 2;have z3:=HZ2.cell 3;have z4:=HZ2.cell 4;have zlt:=HZ2.lt;go_wp2_with fail
 refine(Qpc HG HD HZ2 HB2).mono ?_;rintro e w3 ⟨base,q,p,gb,cap,f0,mk0,ts0,vl0,rfl,_,hL⟩;have HRel:Hid (Lp14 w zb V S T da dl dc oa ol oc base q p gb cap (I 0) w3):=q9 ⟨0,_,_,_,_,_,_,_,Nat.zero_le _,rfl,hL⟩;clear HZ2 HB2;have z4:=hL.z.cell 4;have zlt:=hL.z.lt;clear hL
 have holI:(ol:Int)<=40:=by have:=HG.o;omega
 go_wp2_with fail
 go_loopw [19] (fun i wr=>Lp14 w zb V S T da dl dc oa ol oc base q p gb cap i wr) (fun i _=>ol-(intOf i).toNat)
 case atStart=>exact HRel.out
 case round=>
  clear HRel;obtain⟨k,f,mk,ts,vl,ls,bs,qq,hk,rfl,hL⟩:=hrel;have HL:=q9 hL;clear hL
  by_cases hkl:k<ol
  . as_aux_lemma=>
    obtain⟨ob,off,rfl,hcell⟩:=HO.out (by omega)
    have hc:=hcell k hkl;obtain⟨o,ho⟩:∃ o,fo k=o:=⟨_,rfl⟩;rw[ho] at hc;obtain⟨kd,u9,v9⟩:=o;have c0:=Qi HL.be hc.1;have c1:=Qi HL.be hc.2.1;have c2:=Qi HL.be hc.2.2
    have hkI:(k:Int)<(ol:Int):=by omega
    have hk0:(0:Int)<=(k:Int):=by omega
    have HLa:=q9 (HL.alloc (.cells #[I kd,I u9,I v9] 33));clear hc ho hcell HL;go_wp2_with fail
    refine(Qpo HLa HG (by omega)).mono ?_
    rintro e w5 ⟨rfl,f',mk',ts',vl',ls',bs',qq',hL5,_⟩;have HL5:=q9 hL5;clear hL5 HLa
    have HL6:=q9 (HL5.more (m':=1280+1470000*(k+1)) (by omega))
    clear HL5;go_wp2_with fail
    go_roundw
    case rel=>exact⟨k+1,f',mk',ts',vl',ls',bs',qq',hkl,by simp,HL6.out⟩
    case measure=>simp [intOf];omega
  . have ek:ol=k:=by omega
    subst ek
    have hkI:¬ (ol:Int)<(ol:Int):=by omega
    clear hk hkl
    as_aux_lemma=>
    obtain⟨M9,hM9⟩:∃ M,1280+1470000*ol=M:=⟨_,rfl⟩
    have HM9:Hid (M9<=58810000):=q9 (by have:=HG.o;omega)
    rw[hM9] at HL;clear hM9
    have HJ0:Hid (Jr14 w zb V S T da dl dc oa ol oc base q p gb cap M9 4096 (I 0) wr):=q9 ⟨0,f,mk,ts,vl,ls,bs,qq,by have:=HG.r.v1;show (0:Int)<=V;omega,rfl,HL.out⟩
    have z0:=HL.z.cell 0;have zlt:=HL.z.lt;clear HL;go_wp2_with fail
    go_loopw [31] (fun i W=>Jr14 w zb V S T da dl dc oa ol oc base q p gb cap M9 4096 i W) (fun i _=>V.toNat-(intOf i).toNat)
    case atStart=>exact HJ0.out
    case round=>
     clear HJ0;obtain⟨x,f,mk,ts,vl,ls,bs,qq,hx,rfl,hL⟩:=hrel;have HL:=q9 hL;clear hL;have x0:(0:Int)<=(x:Int):=Int.natCast_nonneg _;have v8:V<=8:=HG.v
     by_cases hxV:(x:Int)<V
     . as_aux_lemma=>
       obtain⟨N9,hN9⟩:∃ M,M9+4096*x=M:=⟨_,rfl⟩;have HN9:=q9 hN9;rw[hN9] at HL;clear hN9
       have HJ1:Hid (Jr14 w zb V S T da dl dc oa ol oc base q p gb cap N9 256 (I 0) wr):=q9 ⟨0,f,mk,ts,vl,ls,bs,qq,by omega,rfl,HL.out⟩
       have z0:=HL.z.cell 0;have zlt:=HL.z.lt;clear HL;go_wp2_with fail
       go_loopw [37] (fun i W=>Jr14 w zb V S T da dl dc oa ol oc base q p gb cap N9 256 i W) (fun i _=>V.toNat-(intOf i).toNat)
       case atStart=>exact HJ1.out
       case round=>
        clear HJ1;obtain⟨y,f,mk,ts,vl,ls,bs,qq,hy,rfl,hL⟩:=hrel;have HL:=q9 hL;clear hL;have y0:(0:Int)<=(y:Int):=Int.natCast_nonneg _
        by_cases hyV:(y:Int)<V
        . as_aux_lemma=>
          obtain⟨c0,c1,c2,c3,c4,c5,c6,c7,c8,c9,c10,c11,c12,c13,c14⟩:=HL.pw.pq.cells;have qlt:=HL.pw.pq.lt;go_wp2_with fail
          have H0:=q9 HL.drew;clear HL
          have hrule:=fun(W:World) (h:PB13 W q V S T p vl)=>h.cells
          obtain⟨c0,c1,c2,c3,c4,c5,c6,c7,c8,c9,c10,c11,c12,c13,c14⟩:=H0.pw.pq.cells;have qlt:=H0.pw.pq.lt;have h128:=Qoz HG.r HG.v HG.s
          have HJ1:=q9 (QpS (x:=x) (y:=y) H0.out hxV hyV (by have:=HM9.out;have:=HN9.out;omega))
          have HJ2:Hid (∀ W,EW W base vl ls->I0 17 #[vl,I (x:Int),I (y:Int)] W fun e w'=>∃ r,e=.returned (.bool r)/\(r=true↔Way (aE ls) x y)/\Below W.heap.size W w'):=q9 fun W hW=>QoE (u:=x) (v9:=y) hW H0.len.2 (fun z hz=>⟨(H0.mv.ok H0.lg.er z hz).1,(H0.mv.ok H0.lg.er z hz).2.1⟩) (by omega) hxV
          go_region_held3 (fun W=>PB13 W q V S T p vl) (first|(with_reducible assumption)|(with_reducible exact H7.out.pw.pq)|(with_reducible exact H6.out.pw.pq)|(with_reducible exact H0.out.pw.pq))
           (first
            |(go_at_call 16;((with_reducible refine HJ1.out.mono ?_);rintro e w5 ⟨r,rfl,hr,h6⟩;have H6:=q9 h6;have HR1:=q9 hr))
            |(go_at_call 17;((with_reducible refine(HJ2.out _ H6.out.pw.ew).mono ?_);rintro e w6 ⟨r2,rfl,hr2,B6⟩;have H7:=q9 (H6.out.below B6);obtain rfl:r2=r:=Bool.eq_iff_iff.2 (hr2.trans hr.symm))))
          clear hrule
          have H8:=q9 (H7.more (m':=N9+256*(y+1)) (by omega))
          clear H7 H6 h6 hr hr2 H0 HJ1 HJ2 HR1;go_wp2_with fail
          go_roundw
          case rel=>exact⟨y+1,f,mk,ts,vl,ls,bs,qq,by omega,by simp,H8.out⟩
          case measure=>simp [intOf];omega
        . as_aux_lemma=>
          have H8:=q9 (HL.more (m':=M9+4096*(x+1)) (by have:=HN9.out;omega))
          clear HL;go_wp2_with fail
          go_roundw
          case rel=>exact⟨x+1,f,mk,ts,vl,ls,bs,qq,by omega,by simp,H8.out⟩
          case measure=>simp [intOf];omega
     . as_aux_lemma=>
       go_wp2_with fail
       refine(Qo9 _).mono ?_;rintro e w3 ⟨rfl,hb3⟩;have HB3:=q9 (HL.be.trans (hb3.mono HL.be.size));go_wp2_with fail
       go_ret;exact⟨rfl,HB3⟩
end
end Go.Proofs.YtfpnjpbpfgjakaaGreat
