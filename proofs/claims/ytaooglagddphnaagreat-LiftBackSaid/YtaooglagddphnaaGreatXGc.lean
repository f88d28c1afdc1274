/- Gc -/
import Derived.Test.YtaooglagddphnaaGreatXGb
import Derived.Test.YtaooglagddphnaaGreatXW
namespace Go.Proofs.YtaooglagddphnaaGreat
open Go.RowKit
set_option maxRecDepth 100000
def QpI (w0:World)(b lb v l:Nat)(V S T:Int)(p gb cap m:Nat)(f:Nat->Int)(mk:Nat->Nat)(ts:List Tp)(L:List Nat)(vs x i:Value)(W:World):Prop:=
 ∃ pre suf,L=pre++suf/\x=I2 ((suf.headD 0:Nat):Int)/\i=I (pre.length:Int)/\(pre.length:Int)<=S/\LU W vs pre/\(∀ k,bk vs=some k->w0.heap.size<=k)/\AY w0 W b lb v l V S T p gb cap (m+1+pre.length) f mk ts
def Qp0 (V S T:Int)(p gb cap m:Nat)(f:Nat->Int)(mk:Nat->Nat)(ts:List Tp)(L:List Nat)(w:World)(e:Ending)(w':World):Prop:=
 ∃ vs,e=.returned vs/\LU w' vs L/\(∀ k,bk vs=some k->w.heap.size<=k)/\TA w' V S T p gb cap m f mk ts/\Only p gb w w'
section
variable {V S T:Int}{w w' w0:World}{p gb cap m s u v l b lb:Nat}{f:Nat->Int}{mk:Nat->Nat}{ts:List Tp}{q:Nat->Nat->List Nat}{bs:List E1}{r:Option Nat}
theorem TA.grown (h:TA w V S T p gb cap m f mk ts)(hg:w.grownBy w' r)(h1:r≠some p)(h2:r≠some gb):TA w' V S T p gb cap m f mk ts:=by
 obtain⟨g,a,b,c⟩:=h;exact⟨g,a.grown hg h1 h2,b,c⟩
theorem LI.ne_ta {vs:Value}{L:List Nat}(h:LI w vs L)(A:TA w V S T p gb cap m f mk ts):bk vs≠some p/\bk vs≠some gb:=by
 obtain⟨g,a,_⟩:=A;exact h.ne_t a
theorem Qot {k:Nat}{vs:Value}(h:∀ k,bk vs=some k->w0.heap.size<=k)(hk:k<w0.heap.size):bk vs≠some k:=fun e=>by have:=h k e;omega
theorem AY.grown_u {vs:Value}{L:List Nat}(h:AY w0 w b lb v l V S T p gb cap m f mk ts)(hL:LU w vs L)(hp:p<w0.heap.size/\gb<w0.heap.size)(hg:w.grownBy w' (bk vs))(hr:∀ k,bk vs=some k->w0.heap.size<=k):AY w0 w' b lb v l V S T p gb cap m f mk ts:=
 ⟨⟨Blk.grown h.x.e hg (hL.ne_blk h.x.e (by decide)),h.x.m.grown hg (Qot hr hp.1) (Qot hr hp.2),h.x.o.grown hg hr⟩,Blk.grown h.l hg (hL.ne_blk h.l (by decide))⟩
theorem S_nN (h:Rt V S T):S.toNat<=nN V S:=by
 have h1:=Q0 h;have hz:=sizes h
 have h2:S*1<=S*sn V:=Int.mul_le_mul_of_nonneg_left (by have:=hz.sn1;omega) h.s1
 unfold nd at h1;have:=hz.vn1;omega
theorem QoH (A:TA w V S T p gb cap m f mk ts)(hQ:LQ V S T f q)(hv:(v:Int)<V)(hl:(l:Int)<lv V)(hm:m<=99900000):
 Calls Tryz.prog 134 #[vA V S T p,vLs v l] w (Qp0 V S T p gb cap (m+1+((q v l).take S.toNat).length) f mk ts ((q v l).take S.toNat) w):=by
 have H:=q9 (AY.new A v l);have HP:=q9 (And.intro A.p_lt A.g_lt);have HR:=q9 A.hR;have s48:=A.hR.s2;have s0:=A.hR.s1;have hh:=(hQ.pt v l hv hl).1;have hQ9:=q9 hQ;obtain⟨L,hL⟩:∃ L,q v l=L:=⟨_,rfl⟩;rw[hL] at hh |-;have HL:=q9 hL
 have HH:Hid (f (nxA V S T v l 0)=((L.headD 0:Nat):Int)):=q9 (by unfold nxA;rw[if_pos rfl];exact hh)
 clear A hQ hh hL
 go_enter Tryz.func134,Tryz.ntmps134
 go_wp2_with fail
 generalize ((w.alloc (I7 V S T p)).alloc (.cells #[I (v:Int),I (l:Int)] 137))=w1 at H |-;generalize w.heap.size+1=lb at H |-;generalize hbw:w.heap.size=b at H |-
 refine(Qr (x:=0) H.x.m hv hl (by omega) (by omega) rfl).mono ?_;rintro e w2 ⟨rfl,A2,O2⟩;rw[HH.out]
 have H2:=q9 (H.next A2 O2)
 have HRel:Hid (QpI w b lb v l V S T p gb cap m f mk ts L (.slice none 0 0) (I2 ((L.headD 0:Nat):Int)) (I 0) w2):=q9 ⟨[],L,rfl,rfl,rfl,s0,LU.nil _,fun i hi=>by simp [bk] at hi,H2.out⟩
 obtain⟨c0,c1,c2,c3,c4,c5,c6,c7,c8,c9⟩:=H2.x.e.cells;have blt:=H2.x.e.lt;clear H A2 O2 H2;generalize L.headD 0=h0 at HRel |-;go_wp2_with fail
 clear c0 c1 c2 c3 c4 c5 c6 c7 c8 c9 blt
 go_loopw [5,6,16] (fun vs x i wr=>QpI w b lb v l V S T p gb cap m f mk ts L vs x i wr) (fun _ _ i _=>S.toNat-(intOf i).toNat)
 case atStart=>exact HRel.out
 case round=>
  clear HRel HH;obtain⟨pre,suf,hps,rfl,rfl,hpl,hli,hbk,hY⟩:=hrel;have HY:=q9 hY;have HLI:=q9 hli;have HBK:=q9 hbk;have HPS:=q9 hps;obtain⟨ao,vc,hvs,_,_⟩:=hli.shape;subst hvs;clear hY hli hbk hps
  by_cases hj:(pre.length:Int)<S
  . cases suf with
    |nil=>
     as_aux_lemma=>
     obtain⟨c0,c1,c2,c3,c4,c5,c6,c7,c8,c9⟩:=HY.x.e.cells;have blt:=HY.x.e.lt;obtain⟨d0,d1⟩:=HY.l.cells;have dlt:=HY.l.lt;go_wp2_with fail
     refine(Qfe HR _).mono ?_;rintro e w3 ⟨rfl,hb3⟩;have HY3:=q9 (HY.below hb3);have HLI3:=q9 (HLI.below hb3);clear HY HLI hb3 c0 c1 c2 c3 c4 c5 c6 c7 c8 c9 blt d0 d1 dlt;go_wp2_with fail
     go_ret
     have e:pre=L.take S.toNat:=by rw[HPS.out,List.append_nil,List.take_of_length_le (by omega)]
     rw[<-e];exact⟨_,rfl,HLI3,HBK,HY3.x.m,HY3.x.o⟩
    |cons x suf=>
     as_aux_lemma=>
     have hql:q v l=pre++x :: suf:=by rw[HL.out];exact HPS
     obtain⟨x1,x2⟩:=hQ9.out.rg v l x (by rw[hql];simp)
     obtain⟨_,i2,_⟩:=hQ9.out.live hv hl hql
     have HNA:Hid (f (nxA V S T v l x)=((suf.headD 0:Nat):Int)):=q9 (by unfold nxA;rw[if_neg (by omega)];exact i2)
     clear hql i2;obtain⟨s9,hs9⟩:∃ s9,(x-1) / 2=s9:=⟨_,rfl⟩;have HS:=q9 hs9;clear hs9
     have hp5:pre.length<=100000:=by omega
     show _;simp only[List.headD_cons];obtain⟨c0,c1,c2,c3,c4,c5,c6,c7,c8,c9⟩:=HY.x.e.cells;have blt:=HY.x.e.lt;obtain⟨d0,d1⟩:=HY.l.cells;have dlt:=HY.l.lt;go_wp2_with fail
     refine(Qff HR x1 x2 HS _).mono ?_;rintro e w3 ⟨rfl,hb3⟩;have HY3:=q9 (HY.below hb3);have HLI3:=q9 (HLI.below hb3);clear HY HLI hb3 c0 c1 c2 c3 c4 c5 c6 c7 c8 c9 blt d0 d1 dlt;obtain⟨c0,c1,c2,c3,c4,c5,c6,c7,c8,c9⟩:=HY3.x.e.cells;have blt:=HY3.x.e.lt;obtain⟨d0,d1⟩:=HY3.l.cells;have dlt:=HY3.l.lt;go_wp2_with (at_builtin;refine Qoq _ rfl _ _ rfl rfl (HLI3.alloc _) (I1 w3.heap.size 0) 1 x rfl (Q5 _ _ _) hp5 ?_)
     intro v' w4 hli4 hg4 hbk4;have HLa:=HLI3.alloc (.cells #[I2 (x:Int)] 88);have HY4:=q9 (AY.grown_u (HY3.below ((Below.refl _ _).alloc (Nat.le_refl _) (.cells #[I2 (x:Int)] 88))) HLa HP.out hg4 HBK.out)
     have HB4:Hid (∀ k,bk v'=some k->w.heap.size<=k):=by
      refine q9 fun i hi=>?_
      rcases hbk4 with e|⟨k,e,hk⟩
      . exact HBK.out i (e ▸ hi)
      . rw[hi] at e;cases e
        have:=HY3.x.o.size;omega
     have HLI4:=q9 hli4;clear HLa hli4 hg4 hbk4 HY3 HLI3 HBK c0 c1 c2 c3 c4 c5 c6 c7 c8 c9 blt d0 d1 dlt;obtain⟨c0,c1,c2,c3,c4,c5,c6,c7,c8,c9⟩:=HY4.x.e.cells;have blt:=HY4.x.e.lt;obtain⟨d0,d1⟩:=HY4.l.cells;have dlt:=HY4.l.lt;go_wp2_with fail
     refine(Qr (x:=x) HY4.x.m hv hl x2 (by omega) rfl).mono ?_;rintro e w5 ⟨rfl,A5,O5⟩;rw[HNA.out]
     have HY5:=q9 (HY4.next A5 O5);have HLI5:=q9 (HLI4.only O5 (Qot HB4.out HP.1) (Qot HB4.out HP.2))
     have hRel:Hid (QpI w b lb v l V S T p gb cap m f mk ts L v' (I2 ((suf.headD 0:Nat):Int)) (I ((pre.length:Int)+1)) w5):=q9 ⟨pre++[x],suf,by rw[HPS.out];simp,rfl,by simp,by simp;omega,HLI5.out,HB4.out,⟨⟨HY5.x.e,HY5.x.m.more (by simp;omega),HY5.x.o⟩,HY5.l⟩⟩
     clear HY4 HY5 HLI4 HLI5 HB4 A5 O5 c0 c1 c2 c3 c4 c5 c6 c7 c8 c9 blt d0 d1 dlt HNA;generalize suf.headD 0=h1 at hRel |-;go_wp2_with fail
     go_roundw
     case rel=>exact hRel.out
     case measure=>simp [intOf];omega
  . as_aux_lemma=>
    generalize suf.headD 0=h1;go_wp2_with fail
    go_ret
    have e:pre=L.take S.toNat:=by rw[HPS.out,show S.toNat=pre.length by omega,List.take_left'];rfl
    exact⟨_,rfl,by rw[<-e];exact HLI.out,HBK.out,HY.x.m.more (by have h9:=congrArg List.length e;rw[List.length_take] at h9;(try rw[List.length_take]);omega),HY.x.o⟩
def Qpa (w0:World)(l:List Nat)(x:Nat)(i:Value)(W:World):Prop:=W=w0/\∃ k,k<=l.length/\i=I ((k:Nat):Int)/\x∉l.take k
theorem Qpd {v:Value}{l:List Nat}{x:Nat}(h:LU w v l)(hl:l.length<=100000){xI:Int}(hxI:xI=(x:Int)):
 Calls Tryz.prog 154 #[v,I2 xI] w fun e w'=>∃ r:Int,e=.returned (I r)/\decide (0<=r)=decide (x∈l)/\w=w':=by
 subst hxI;obtain⟨a0,c0,rfl,_⟩:=h.shape;have H:=q9 h;obtain⟨n,hn⟩:∃ n,l.length=n:=⟨_,rfl⟩;have HN:=q9 hn;rw[hn] at H hl;rw[hn]
 have nI:(n:Int)<=100000:=by omega
 clear h hn
 have HRel:Hid (Qpa w l x (I 0) w):=q9 ⟨rfl,0,Nat.zero_le _,rfl,by simp⟩
 go_enter Tryz.func154,Tryz.ntmps154
 go_wp2_with fail
 go_loopw [8] (fun i wr=>Qpa w l x i wr) (fun i _=>n-(intOf i).toNat)
 case atStart=>exact HRel.out
 case round=>
  clear HRel;obtain⟨rfl,k,hk,rfl,hx⟩:=hrel;have HX:=q9 hx;rw[HN.out] at hk;clear hx
  by_cases hkn:k<n
  . obtain⟨y,hy⟩:∃ y,l[k]?=some y:=⟨_,List.getElem?_eq_getElem (by have:=HN.out;omega)⟩
    obtain⟨b1,o1,rfl,c1⟩:=H.at hy;have HY:=q9 hy
    have kI:(k:Int)<(n:Int):=by omega
    have k0:(0:Int)<=(k:Int):=by omega
    clear hy
    by_cases e:x=y
    . subst e
      have eb:((x:Int)==(x:Int))=true:=beq_self_eq_true _;have HE:Hid (x∈l):=q9 (List.mem_of_getElem? HY.out);go_wp2_with fail
      go_ret
      exact⟨_,rfl,by rw[decide_eq_true HE.out,decide_eq_true (Int.natCast_nonneg k)],rfl⟩
    . have eb:((x:Int)==(y:Int))=false:=beq_eq_false_iff_ne.2 (by omega)
      have HE:=q9 e;clear e;go_wp2_with fail
      go_roundw
      case rel=>
       refine⟨rfl,k+1,by have:=HN.out;omega,by simp,?_⟩
       rw[List.take_add_one,HY.out];intro hm
       rcases List.mem_append.1 hm with hm|hm
       . exact HX hm
       . exact HE.out (by simpa using hm)
      case measure=>simp [intOf];omega
  . have ek:k=n:=by omega
    subst ek
    have kI:¬ (k:Int)<(k:Int):=by omega
    clear hk hkn;go_wp2_with fail
    go_ret
    have hx9:x∉l:=by have:=HX.out;rw[<-HN.out,List.take_length] at this;exact this
    exact⟨_,rfl,by simp [hx9],rfl⟩
theorem QoQ {v:Value}{l:List Nat}{x:Nat}(h:LU w v l)(hl:l.length<=100000){xI:Int}(hxI:xI=(x:Int)):
 Calls Tryz.prog 133 #[v,I2 xI] w fun e w'=>e=.returned (.bool (decide (x∈l)))/\w=w':=by
 subst hxI;have H:=q9 h;clear h
 go_enter Tryz.func133,Tryz.ntmps133
 go_wp2_with fail
 refine(Qpd H hl rfl).mono ?_;rintro e w1 ⟨r,rfl,hr,rfl⟩;go_wp2_with fail
 go_ret;refine⟨?_,rfl⟩;rw[<-hr];rfl
theorem QoM (A:TA w V S T p gb cap m f mk ts)(hQ:LQ V S T f q)(hv:(v:Int)<V)(hl:(l:Int)<lv V){x:Nat}(hm:m<=99900000):
 Calls Tryz.prog 86 #[vA V S T p,vLs v l,I2 (x:Int)] w (Dta V S T p gb cap (m+1+S.toNat) f mk ts (.bool (decide (x∈(q v l).take S.toNat))) w):=by
 have H:=q9 (AY.new A v l);have HQ:=q9 hQ;have s48:=A.hR.s2
 have HL:Hid (((q v l).take S.toNat).length<=S.toNat):=q9 (by rw[List.length_take];omega)
 obtain⟨L,hL⟩:∃ L,(q v l).take S.toNat=L:=⟨_,rfl⟩;have HLL:=q9 hL;rw[hL] at HL |-;clear A hQ hL
 go_enter Tryz.func86,Tryz.ntmps86
 go_wp2_with fail
 generalize ((w.alloc (I7 V S T p)).alloc (.cells #[I (v:Int),I (l:Int)] 137))=w1 at H |-;generalize w.heap.size=B at H |-;have hr:=QoH H.x.m HQ.out hv hl hm;rw[HLL.out] at hr;refine hr.mono ?_;rintro e w2 ⟨vs,rfl,L2,N2,A2,O2⟩;have H2:=q9 (H.next A2 O2);have HL2:=q9 L2;clear hr A2 O2 H L2 N2;go_wp2_with fail
 refine(QoQ HL2.out (by have:=HL.out;omega) rfl).mono ?_;rintro e w3 ⟨rfl,rfl⟩
 go_wp2_with fail
 go_ret
 exact⟨rfl,H2.x.m.more (by have:=HL.out;omega),H2.x.o⟩
theorem QoB {L:List Nat}(h:(L.length:Int)<=S):L.take S.toNat=L:=List.take_of_length_le (by omega)
theorem QoZ (A:TA w V S T p gb cap m f mk ts)(hQ:LQ V S T f q)(hv:(v:Int)<V)(hl:(l:Int)<lv V){x:Nat}(hx:x∉q v l)(hm:m<=99900000):
 Calls Tryz.prog 86 #[vA V S T p,vLs v l,I2 (x:Int)] w (Dta V S T p gb cap (m+2+nN V S) f mk ts (.bool false) w):=by
 have hn:=S_nN A.hR;refine(QoM (x:=x) A hQ hv hl hm).mono ?_;rintro e w2 ⟨rfl,A2,O2⟩
 exact⟨by rw[decide_eq_false fun h=>hx (List.mem_of_mem_take h)],A2.more (by omega),O2⟩
theorem QoL (A:TA w V S T p gb cap m f mk ts)(hQ:LQ V S T f q)(hv:(v:Int)<V)(hl:(l:Int)<lv V){x:Nat}(hx:x∈q v l)(hlen:((q v l).length:Int)<=S)(hm:m<=99900000):
 Calls Tryz.prog 86 #[vA V S T p,vLs v l,I2 (x:Int)] w (Dta V S T p gb cap (m+2+nN V S) f mk ts (.bool true) w):=by
 have hn:=S_nN A.hR;refine(QoM (x:=x) A hQ hv hl hm).mono ?_;rintro e w2 ⟨rfl,A2,O2⟩
 exact⟨by rw[QoB hlen,decide_eq_true hx],A2.more (by omega),O2⟩
end
def qA (q:Nat->Nat->List Nat)(s u v l j:Nat):Nat->Nat->List Nat:=if j=0 then q else if j=1 then qset q u l ((2*s+1) :: q u l) else add2 q s u v l
def qR (q:Nat->Nat->List Nat)(s u v l j:Nat):Nat->Nat->List Nat:=if j=0 then q else if j=1 then qset q u l ((q u l).erase (2*s+1)) else rem2 q s u v l
def MkB (V:Int)(mk mk':Nat->Nat):Prop:=∀ y,hasB (mk' y) 1=hasB (mk y) 1/\((∀ v l:Nat,(v:Int)<V->(l:Int)<lv V->y≠ndA V v l)->mk' y=mk y)
def QfX (Q:Nat->Nat->Nat->List Nat)(w0:World)(b r:Nat)(V S T:Int)(p gb cap m:Nat)(f:Nat->Int)(mk:Nat->Nat)(ts:List Tp)(u v l:Nat)(i:Value)(W:World):Prop:=
 ∃ (j:Nat) (f':Nat->Int) (mk':Nat->Nat),j<=2/\i=I (j:Int)/\AX w0 W b V S T p gb cap (m+2+j*(16+8*nN V S)) f' mk' ts/\Blk W r 137 #[I (u:Int),I (l:Int),I (v:Int),I (l:Int)]/\LQ V S T f' (Q j)/\(MQ V mk' (Q j)/\MkB V mk mk')/\Ke V S T f f'
def ArD (V S T:Int)(p gb cap m:Nat)(f:Nat->Int)(mk:Nat->Nat)(ts:List Tp)(q':Nat->Nat->List Nat)(w:World)(e:Ending)(w':World):Prop:=
 ∃ f' mk',e=.returned (.tuple #[])/\TA w' V S T p gb cap m f' mk' ts/\LQ V S T f' q'/\(MQ V mk' q'/\MkB V mk mk')/\Ke V S T f f'/\Only p gb w w'
section
variable {V S T:Int}{w w' w0:World}{p gb cap m s u v l:Nat}{f:Nat->Int}{mk:Nat->Nat}{ts:List Tp}{q:Nat->Nat->List Nat}
theorem AX.ay {b gb p cap m v l:Nat}(h:AX w0 w b V S T p gb cap m f mk ts):AY w0 (w.alloc (.cells #[I (v:Int),I (l:Int)] 137)) b w.heap.size v l V S T p gb cap m f mk ts:=⟨h.below ((Below.refl _ _).alloc (Nat.le_refl _) _),Blk.new _ _ _⟩
theorem MkB.refl {V:Int}{mk:Nat->Nat}:MkB V mk mk:=fun _=>⟨rfl,fun _=>rfl⟩
theorem MkB.trans {V:Int}{mk mk' mk2:Nat->Nat}(h:MkB V mk mk')(h2:MkB V mk' mk2):MkB V mk mk2:=fun y=>⟨(h2 y).1.trans (h y).1,fun e=>((h2 y).2 e).trans ((h y).2 e)⟩
theorem Qib {s:Nat}{on:Bool}(hs:s<4):hasB (setB s 0 on) 1=hasB s 1:=by
 have:s=0\/s=1\/s=2\/s=3:=by omega
 cases on<;>rcases this with rfl|rfl|rfl|rfl<;>decide
theorem MkB.turn {V S T:Int}{mk mk':Nat->Nat}{v l:Nat}(h:MkB V mk mk')(_hR:Rt V S T)(h4:∀ x,mk' x<4)(hv:(v:Int)<V)(hl:(l:Int)<lv V)(on:Bool):MkB V mk (mkQ mk' (ndA V v l) on):=by
 refine h.trans fun y=>?_
 unfold mkQ
 split
 . exact⟨rfl,fun _=>rfl⟩
 . unfold Q9
   by_cases e:y=ndA V v l
   . subst e
     rw[if_pos rfl]
     exact⟨Qib (h4 _),fun hn=>absurd rfl (hn v l hv hl)⟩
   . rw[if_neg e];exact⟨rfl,fun _=>rfl⟩
theorem Ke.refl:Ke V S T f f:=⟨fun _ _ _ _=>rfl,fun _ _ _ _ _=>rfl⟩
theorem QfU (A:TA w V S T p gb cap m f mk ts)(hQ:LQ V S T f q)(hM:MQ V mk q)(huv:u<v)(hv:(v:Int)<V)(hs:(s:Int)<S)(hl:(l:Int)<lv V)(h1:f (sC S T s 1)=nV u v)(h2:f (sC S T s 2)=(l:Int))(hd1:∀ a b,2*s+1∉q a b)(hd2:∀ a b,2*s+2∉q a b)(hm:m<=99880000):
 Calls Tryz.prog 83 #[vA V S T p,I (s:Int)] w (ArD V S T p gb cap (m+34+16*nN V S) f mk ts (add2 q s u v l) w):=by
 have H:=q9 (AX.new A);have HR:=q9 A.hR;have hn560:=Ql A.hR
 have hu:(u:Int)<V:=by omega
 have hs48:s<48:=by have:=A.hR.s2;omega
 have HPRE:Hid (u<v/\(f (sC S T s 1)=nV u v/\f (sC S T s 2)=(l:Int))/\_/\_):=q9 ⟨huv,⟨h1,h2⟩,hd1,hd2⟩;have HQ9:=q9 hQ;have HM9:=q9 hM;have s0:(0:Int)<=(s:Int):=Int.natCast_nonneg _;clear A hQ hM h1 h2 hd1 hd2
 go_enter Tryz.func83,Tryz.ntmps83
 go_wp2_with fail
 generalize (w.alloc (I7 V S T p))=w1 at H |-;generalize w.heap.size=b at H |-
 refine(Qfw H.m HPRE.1 hv hs hl HPRE.2.1.1 HPRE.2.1.2 (by omega)).mono ?_;rintro e w2 ⟨r,rfl,B2,r2,A2,O2⟩
 have HRel:Hid (QfX (qA q s u v l) w b r V S T p gb cap m f mk ts u v l (I 0) w2):=q9 ⟨0,f,mk,by omega,rfl,by
  have:=H.next A2 O2
  exact⟨this.e,this.m.more (by omega),this.o⟩,B2,HQ9,⟨HM9,MkB.refl⟩,Ke.refl⟩
 clear H B2 r2 A2 O2 HQ9 HM9;go_wp2_with fail
 go_loopw [12] (fun i wr=>QfX (qA q s u v l) w b r V S T p gb cap m f mk ts u v l i wr) (fun i _=>2-(intOf i).toNat)
 case atStart=>exact HRel.out
 case round=>
  clear HRel;obtain⟨j,f1,mk1,hj,rfl,hX,hB,hQ,⟨hM,hMB⟩,hK⟩:=hrel;have HMB:=q9 hMB;clear hMB;have HX:=q9 hX;clear hX
  rcases(by omega:j=0\/j=1\/j=2) with hj0|hj0|hj0
  . subst hj0
    as_aux_lemma=>
     have hA:=HX.out;clear HX;have HQ0:Hid (LQ V S T f1 (qA q s u v l 0)):=q9 hQ;have HM0:Hid (MQ V mk1 (qA q s u v l 0)):=q9 hM;have HK0:=q9 hK;have HB0:=q9 hB;clear hQ hM hK hB;obtain⟨x,hx⟩:∃ x,2*s+0+1=x:=⟨_,rfl⟩
     have hx1:1<=x:=by omega
     have hx2:(x:Int)<=2*S:=by omega
     have HXX:=q9 hx
     have HD9:Hid (∀ a b,x∉qA q s u v l 0 a b):=q9 (by rw[<-hx];exact HPRE.2.2.1)
     obtain⟨c0,c1,c2,c3,c4,c5,c6,c7,c8,c9⟩:=hA.e.cells;have blt:=hA.e.lt;have HA:=q9 hA;clear hA hx;have g0:=HB0.cell 0;have g1:=HB0.cell 1;have glt:=HB0.lt;go_wp2_with fail
     have HY0:=q9 (HA.ay (v:=u) (l:=l));have HB1:=q9 (HB0.alloc (.cells #[I (u:Int),I (l:Int)] 137));clear HA HB0 c0 c1 c2 c3 c4 c5 c6 c7 c8 c9 blt g0 g1 glt;generalize wr.alloc (.cells #[I (u:Int),I (l:Int)] 137)=W1 at HY0 HB1 |-;generalize wr.heap.size=lb at HY0 |-
     refine(QbF (s:=s) (d:=0) hs48 (by decide) _).mono ?_;rintro e w2 ⟨rfl,hb2⟩;rw[HXX.out]
     have HY1:=q9 (HY0.below hb2);have HB2:=q9 (HB1.below hb2 HB1.lt);clear HY0 HB1 hb2;obtain⟨c0,c1,c2,c3,c4,c5,c6,c7,c8,c9⟩:=HY1.x.e.cells;have blt:=HY1.x.e.lt;obtain⟨d0,d1⟩:=HY1.l.cells;have dlt:=HY1.l.lt;go_wp2_with fail
     refine(QoZ HY1.x.m HQ0 hu hl (HD9 u l) (by omega)).mono ?_;rintro e w3 ⟨rfl,A3,O3⟩
     have HY2:=q9 (HY1.next A3 O3)
     have HB3:=q9 (Blk.ta HB2.out HY1.x.m O3 (by decide) (by decide))
     clear HY1 HB2 A3 O3 c0 c1 c2 c3 c4 c5 c6 c7 c8 c9 blt d0 d1 dlt;obtain⟨c0,c1,c2,c3,c4,c5,c6,c7,c8,c9⟩:=HY2.x.e.cells;have blt:=HY2.x.e.lt;obtain⟨d0,d1⟩:=HY2.l.cells;have dlt:=HY2.l.lt;go_wp2_with fail
     have hh:=(HQ0.pt u l hu hl).1;generalize hn9:(qA q s u v l 0 u l).headD 0=nn at hh
     have hnS:(nn:Int)<=2*S:=by rw[<-hn9];exact HQ0.head_le HR.s1
     have HN9:=q9 hn9
     have HHH:Hid (f1 (nxA V S T u l 0)=(nn:Int)):=q9 (by unfold nxA;rw[if_pos rfl];exact hh)
     have nn0:(0:Int)<=(nn:Int):=Int.natCast_nonneg _;clear hh hn9
     refine(Qr (x:=0) HY2.x.m hu hl (by have:=HR.s1;omega) (by omega) rfl).mono ?_;rintro e w4 ⟨rfl,A4,O4⟩;rw[HHH.out]
     have HY3:=q9 (HY2.next A4 O4)
     have HB4:=q9 (Blk.ta HB3.out HY2.x.m O4 (by decide) (by decide))
     clear HY2 HB3 A4 O4 c0 c1 c2 c3 c4 c5 c6 c7 c8 c9 blt d0 d1 dlt;obtain⟨c0,c1,c2,c3,c4,c5,c6,c7,c8,c9⟩:=HY3.x.e.cells;have blt:=HY3.x.e.lt;obtain⟨d0,d1⟩:=HY3.l.cells;have dlt:=HY3.l.lt;go_wp2_with fail
     refine(QbG (x:=0) (y:=x) HY3.x.m hu hl (by have:=HR.s1;omega) hx2 (by omega) rfl rfl).mono ?_;rintro e w5 ⟨rfl,A5,O5⟩
     have HY4:=q9 (HY3.next A5 O5)
     have HB5:=q9 (Blk.ta HB4.out HY3.x.m O5 (by decide) (by decide))
     clear HY3 HB4 A5 O5 c0 c1 c2 c3 c4 c5 c6 c7 c8 c9 blt d0 d1 dlt;obtain⟨c0,c1,c2,c3,c4,c5,c6,c7,c8,c9⟩:=HY4.x.e.cells;have blt:=HY4.x.e.lt;obtain⟨d0,d1⟩:=HY4.l.cells;have dlt:=HY4.l.lt;go_wp2_with fail
     refine(QbG (x:=x) (y:=nn) HY4.x.m hu hl hx2 hnS (by omega) rfl rfl).mono ?_;rintro e w6 ⟨rfl,A6,O6⟩
     have HY5:=q9 (HY4.next A6 O6)
     have HB6:=q9 (Blk.ta HB5.out HY4.x.m O6 (by decide) (by decide))
     clear HY4 HB5 A6 O6 c0 c1 c2 c3 c4 c5 c6 c7 c8 c9 blt d0 d1 dlt;obtain⟨c0,c1,c2,c3,c4,c5,c6,c7,c8,c9⟩:=HY5.x.e.cells;have blt:=HY5.x.e.lt;obtain⟨d0,d1⟩:=HY5.l.cells;have dlt:=HY5.l.lt
     have HL9:=q9 (HQ0.add HR.out hu hl hx1 hx2 HD9.out (QbH (f:=f1) HR.out hu hl (by have:=HR.s1;omega) hx2) (by rw[HN9.out];exact QbH HR hu hl hx2 hnS))
     obtain⟨f2,hf2⟩:∃ f2,Qcu V S T (Qcu V S T f1 u l 0 x) u l x nn=f2:=⟨_,rfl⟩
     have HL8:Hid (LQ V S T f2 (qset (qA q s u v l 0) u l (x :: qA q s u v l 0 u l))/\Ke V S T f1 f2):=q9 (by rw[<-hf2];exact HL9)
     have HY6:=HY5;rw[hf2] at HY6
     have enq:qset (qA q s u v l 0) u l (x :: qA q s u v l 0 u l)=qA q s u v l 1:=by
      rw[<-HXX.out];rfl
     have HL7:Hid (LQ V S T f2 (qA q s u v l 1)/\Ke V S T f1 f2):=q9 (by rw[<-enq];exact HL8)
     have hh2:=(HL7.1.pt u l hu hl).1
     have hM2:MQ V (mkQ mk1 (ndA V u l) (decide ((qA q s u v l 1 u l).headD 0≠0))) (qA q s u v l 1):=by
      rw[<-enq]
      refine HM0.turn HR (fun x=>HY6.x.m.mk4 x) hu hl ?_
      rw[enq];have:=(HL7.1.head_zero (v:=u) (l:=l));rw[<-enq,QQ] at this;rw[<-enq,QQ];exact not_congr this
     generalize (qA q s u v l 1 u l).headD 0=h9 at hh2 hM2
     have HM2:=q9 (And.intro hM2 (HMB.turn HR.out (fun x=>HY6.x.m.mk4 x) hu hl (decide (h9≠0))))
     have HH2:=q9 hh2;clear hM2 hh2 enq hf2 HL9 HY5;go_wp2_with fail
     refine(Qdf HY6.x.m hu hl HH2 (by omega)).mono ?_;rintro e w7 ⟨rfl,A7,O7⟩
     have HR9:Hid (QfX (qA q s u v l) w b r V S T p gb cap m f mk ts u v l (I 1) w7):=q9 ⟨1,f2,_,by omega,rfl,by
      have:=HY6.x.next A7 O7
      exact⟨this.e,this.m.more (by omega),this.o⟩,Blk.ta HB6 HY6.x.m O7 (by decide) (by decide),HL7.1,HM2,HK0.trans HL7.2⟩
     clear HY6 HB6 A7 O7 HL7 HL8 HM2 HH2 HK0 HM0 HQ0 c0 c1 c2 c3 c4 c5 c6 c7 c8 c9 blt d0 d1 dlt;go_wp2_with fail
     go_roundw
     case rel=>exact HR9.out
     case measure=>simp [intOf]
  . subst hj0
    as_aux_lemma=>
     have hA:=HX.out;clear HX;have HQ0:Hid (LQ V S T f1 (qA q s u v l 1)):=q9 hQ;have HM0:Hid (MQ V mk1 (qA q s u v l 1)):=q9 hM;have HK0:=q9 hK;have HB0:=q9 hB;clear hQ hM hK hB;obtain⟨x,hx⟩:∃ x,2*s+1+1=x:=⟨_,rfl⟩
     have hx1:1<=x:=by omega
     have hx2:(x:Int)<=2*S:=by omega
     have HXX:=q9 hx
     have HD9:Hid (∀ a b,x∉qA q s u v l 1 a b):=q9 (by
      intro a b hm
      rcases Qap.1 (show x∈qset q u l ((2*s+1) :: q u l) a b from hm) with ⟨e1,e2,h⟩|⟨_,h⟩
      . rcases List.mem_cons.1 h with h|h
        . omega
        . exact HPRE.2.2.2 u l (by rw[show 2*s+2=x by omega];exact h)
      . exact HPRE.2.2.2 a b (by rw[show 2*s+2=x by omega];exact h))
     obtain⟨c0,c1,c2,c3,c4,c5,c6,c7,c8,c9⟩:=hA.e.cells;have blt:=hA.e.lt;have HA:=q9 hA;clear hA hx;have g0:=HB0.cell 2;have g1:=HB0.cell 3;have glt:=HB0.lt;go_wp2_with fail
     have HY0:=q9 (HA.ay (v:=v) (l:=l));have HB1:=q9 (HB0.alloc (.cells #[I (v:Int),I (l:Int)] 137));clear HA HB0 c0 c1 c2 c3 c4 c5 c6 c7 c8 c9 blt g0 g1 glt;generalize wr.alloc (.cells #[I (v:Int),I (l:Int)] 137)=W1 at HY0 HB1 |-;generalize wr.heap.size=lb at HY0 |-
     refine(QbF (s:=s) (d:=1) hs48 (by decide) _).mono ?_;rintro e w2 ⟨rfl,hb2⟩;rw[HXX.out]
     have HY1:=q9 (HY0.below hb2);have HB2:=q9 (HB1.below hb2 HB1.lt);clear HY0 HB1 hb2;obtain⟨c0,c1,c2,c3,c4,c5,c6,c7,c8,c9⟩:=HY1.x.e.cells;have blt:=HY1.x.e.lt;obtain⟨d0,d1⟩:=HY1.l.cells;have dlt:=HY1.l.lt;go_wp2_with fail
     refine(QoZ HY1.x.m HQ0 hv hl (HD9 v l) (by omega)).mono ?_;rintro e w3 ⟨rfl,A3,O3⟩
     have HY2:=q9 (HY1.next A3 O3)
     have HB3:=q9 (Blk.ta HB2.out HY1.x.m O3 (by decide) (by decide))
     clear HY1 HB2 A3 O3 c0 c1 c2 c3 c4 c5 c6 c7 c8 c9 blt d0 d1 dlt;obtain⟨c0,c1,c2,c3,c4,c5,c6,c7,c8,c9⟩:=HY2.x.e.cells;have blt:=HY2.x.e.lt;obtain⟨d0,d1⟩:=HY2.l.cells;have dlt:=HY2.l.lt;go_wp2_with fail
     have hh:=(HQ0.pt v l hv hl).1;generalize hn9:(qA q s u v l 1 v l).headD 0=nn at hh
     have hnS:(nn:Int)<=2*S:=by rw[<-hn9];exact HQ0.head_le HR.s1
     have HN9:=q9 hn9
     have HHH:Hid (f1 (nxA V S T v l 0)=(nn:Int)):=q9 (by unfold nxA;rw[if_pos rfl];exact hh)
     have nn0:(0:Int)<=(nn:Int):=Int.natCast_nonneg _;clear hh hn9
     refine(Qr (x:=0) HY2.x.m hv hl (by have:=HR.s1;omega) (by omega) rfl).mono ?_;rintro e w4 ⟨rfl,A4,O4⟩;rw[HHH.out]
     have HY3:=q9 (HY2.next A4 O4)
     have HB4:=q9 (Blk.ta HB3.out HY2.x.m O4 (by decide) (by decide))
     clear HY2 HB3 A4 O4 c0 c1 c2 c3 c4 c5 c6 c7 c8 c9 blt d0 d1 dlt;obtain⟨c0,c1,c2,c3,c4,c5,c6,c7,c8,c9⟩:=HY3.x.e.cells;have blt:=HY3.x.e.lt;obtain⟨d0,d1⟩:=HY3.l.cells;have dlt:=HY3.l.lt;go_wp2_with fail
     refine(QbG (x:=0) (y:=x) HY3.x.m hv hl (by have:=HR.s1;omega) hx2 (by omega) rfl rfl).mono ?_;rintro e w5 ⟨rfl,A5,O5⟩
     have HY4:=q9 (HY3.next A5 O5)
     have HB5:=q9 (Blk.ta HB4.out HY3.x.m O5 (by decide) (by decide))
     clear HY3 HB4 A5 O5 c0 c1 c2 c3 c4 c5 c6 c7 c8 c9 blt d0 d1 dlt;obtain⟨c0,c1,c2,c3,c4,c5,c6,c7,c8,c9⟩:=HY4.x.e.cells;have blt:=HY4.x.e.lt;obtain⟨d0,d1⟩:=HY4.l.cells;have dlt:=HY4.l.lt;go_wp2_with fail
     refine(QbG (x:=x) (y:=nn) HY4.x.m hv hl hx2 hnS (by omega) rfl rfl).mono ?_;rintro e w6 ⟨rfl,A6,O6⟩
     have HY5:=q9 (HY4.next A6 O6)
     have HB6:=q9 (Blk.ta HB5.out HY4.x.m O6 (by decide) (by decide))
     clear HY4 HB5 A6 O6 c0 c1 c2 c3 c4 c5 c6 c7 c8 c9 blt d0 d1 dlt;obtain⟨c0,c1,c2,c3,c4,c5,c6,c7,c8,c9⟩:=HY5.x.e.cells;have blt:=HY5.x.e.lt;obtain⟨d0,d1⟩:=HY5.l.cells;have dlt:=HY5.l.lt
     have HL9:=q9 (HQ0.add HR.out hv hl hx1 hx2 HD9.out (QbH (f:=f1) HR.out hv hl (by have:=HR.s1;omega) hx2) (by rw[HN9.out];exact QbH HR hv hl hx2 hnS))
     obtain⟨f2,hf2⟩:∃ f2,Qcu V S T (Qcu V S T f1 v l 0 x) v l x nn=f2:=⟨_,rfl⟩
     have HL8:Hid (LQ V S T f2 (qset (qA q s u v l 1) v l (x :: qA q s u v l 1 v l))/\Ke V S T f1 f2):=q9 (by rw[<-hf2];exact HL9)
     have HY6:=HY5;rw[hf2] at HY6
     have enq:qset (qA q s u v l 1) v l (x :: qA q s u v l 1 v l)=qA q s u v l 2:=by
      rw[<-HXX.out]
      show _=add2 q s u v l;unfold add2;show qset (qset q u l ((2*s+1) :: q u l)) v l ((2*s+1+1) :: qset q u l ((2*s+1) :: q u l) v l)=_;rw[Qaw (by have:=HPRE.1;omega)]
     have HL7:Hid (LQ V S T f2 (qA q s u v l 2)/\Ke V S T f1 f2):=q9 (by rw[<-enq];exact HL8)
     have hh2:=(HL7.1.pt v l hv hl).1
     have hM2:MQ V (mkQ mk1 (ndA V v l) (decide ((qA q s u v l 2 v l).headD 0≠0))) (qA q s u v l 2):=by
      rw[<-enq]
      refine HM0.turn HR (fun x=>HY6.x.m.mk4 x) hv hl ?_
      rw[enq];have:=(HL7.1.head_zero (v:=v) (l:=l));rw[<-enq,QQ] at this;rw[<-enq,QQ];exact not_congr this
     generalize (qA q s u v l 2 v l).headD 0=h9 at hh2 hM2
     have HM2:=q9 (And.intro hM2 (HMB.turn HR.out (fun x=>HY6.x.m.mk4 x) hv hl (decide (h9≠0))))
     have HH2:=q9 hh2;clear hM2 hh2 enq hf2 HL9 HY5;go_wp2_with fail
     refine(Qdf HY6.x.m hv hl HH2 (by omega)).mono ?_;rintro e w7 ⟨rfl,A7,O7⟩
     have HR9:Hid (QfX (qA q s u v l) w b r V S T p gb cap m f mk ts u v l (I 2) w7):=q9 ⟨2,f2,_,by omega,rfl,by
      have:=HY6.x.next A7 O7
      exact⟨this.e,this.m.more (by omega),this.o⟩,Blk.ta HB6 HY6.x.m O7 (by decide) (by decide),HL7.1,HM2,HK0.trans HL7.2⟩
     clear HY6 HB6 A7 O7 HL7 HL8 HM2 HH2 HK0 HM0 HQ0 c0 c1 c2 c3 c4 c5 c6 c7 c8 c9 blt d0 d1 dlt;go_wp2_with fail
     go_roundw
     case rel=>exact HR9.out
     case measure=>simp [intOf]
  . subst hj0
    as_aux_lemma=>
     go_wp2_with fail
     go_end0
     exact⟨f1,mk1,rfl,HX.m.more (by omega),hQ,⟨hM,HMB⟩,hK,HX.o⟩
theorem Qfk (A:TA w V S T p gb cap m f mk ts)(hQ:LQ V S T f q)(hM:MQ V mk q)(huv:u<v)(hv:(v:Int)<V)(hs:(s:Int)<S)(hl:(l:Int)<lv V)(h1:f (sC S T s 1)=nV u v)(h2:f (sC S T s 2)=(l:Int))(hd1:2*s+1∈q u l)(hd2:2*s+2∈q v l)(hn1:((q u l).length:Int)<=S)(hn2:((q v l).length:Int)<=S)(hm:m<=99880000):
 Calls Tryz.prog 38 #[vA V S T p,I (s:Int)] w (ArD V S T p gb cap (m+34+16*nN V S) f mk ts (rem2 q s u v l) w):=by
 have H:=q9 (AX.new A);have HR:=q9 A.hR;have hn560:=Ql A.hR
 have hu:(u:Int)<V:=by omega
 have hs48:s<48:=by have:=A.hR.s2;omega
 have HPRE:Hid (u<v/\(f (sC S T s 1)=nV u v/\f (sC S T s 2)=(l:Int))/\_/\_):=q9 ⟨huv,⟨h1,h2⟩,hd1,hd2⟩;have HNN:=q9 (And.intro hn1 hn2);have HQ9:=q9 hQ;have HM9:=q9 hM;have s0:(0:Int)<=(s:Int):=Int.natCast_nonneg _;clear A hQ hM h1 h2 hd1 hd2 hn1 hn2
 go_enter Tryz.func38,Tryz.ntmps38
 go_wp2_with fail
 generalize (w.alloc (I7 V S T p))=w1 at H |-;generalize w.heap.size=b at H |-
 refine(Qfw H.m HPRE.1 hv hs hl HPRE.2.1.1 HPRE.2.1.2 (by omega)).mono ?_;rintro e w2 ⟨r,rfl,B2,r2,A2,O2⟩
 have HRel:Hid (QfX (qR q s u v l) w b r V S T p gb cap m f mk ts u v l (I 0) w2):=q9 ⟨0,f,mk,by omega,rfl,by
  have:=H.next A2 O2
  exact⟨this.e,this.m.more (by omega),this.o⟩,B2,HQ9,⟨HM9,MkB.refl⟩,Ke.refl⟩
 clear H B2 r2 A2 O2 HQ9 HM9;go_wp2_with fail
 go_loopw [11] (fun i wr=>QfX (qR q s u v l) w b r V S T p gb cap m f mk ts u v l i wr) (fun i _=>2-(intOf i).toNat)
 case atStart=>exact HRel.out
 case round=>
  clear HRel;obtain⟨j,f1,mk1,hj,rfl,hX,hB,hQ,⟨hM,hMB⟩,hK⟩:=hrel;have HMB:=q9 hMB;clear hMB;have HX:=q9 hX;clear hX
  rcases(by omega:j=0\/j=1\/j=2) with hj0|hj0|hj0
  . subst hj0
    as_aux_lemma=>
     have hA:=HX.out;clear HX;have HQ0:Hid (LQ V S T f1 (qR q s u v l 0)):=q9 hQ;have HM0:Hid (MQ V mk1 (qR q s u v l 0)):=q9 hM;have HK0:=q9 hK;have HB0:=q9 hB;clear hQ hM hK hB;obtain⟨x,hx⟩:∃ x,2*s+0+1=x:=⟨_,rfl⟩
     have hx1:1<=x:=by omega
     have hx2:(x:Int)<=2*S:=by omega
     have HXX:=q9 hx
     have hmem:x∈qR q s u v l 0 u l:=by rw[<-hx];exact HPRE.2.2.1
     have HMEM:=q9 hmem;have HLEN:Hid (((qR q s u v l 0 u l).length:Int)<=S):=q9 HNN.1;obtain⟨l1,l3,hql⟩:=List.append_of_mem hmem;have HQL:=q9 hql;obtain⟨i1,i2,i3⟩:=HQ0.live hu hl hql
     have hpS:((l1.getLast?.getD 0:Nat):Int)<=2*S:=by
      by_cases e:l1.getLast?.getD 0=0
      . rw[e];have:=HR.s1;omega
      . exact(HQ0.rg u l _ (by rw[hql];exact List.mem_append_left _ (Qdg e))).2
     have hnS:((l3.headD 0:Nat):Int)<=2*S:=by
      by_cases e:l3.headD 0=0
      . rw[e];have:=HR.s1;omega
      . exact(HQ0.rg u l _ (by rw[hql];exact List.mem_append_right _ (List.mem_cons_of_mem _ (Qah e)))).2
     have HNA:Hid (f1 (nxA V S T u l x)=((l3.headD 0:Nat):Int)):=q9 (by unfold nxA;rw[if_neg (by omega)];exact i2)
     have HERA:Hid (l1++l3=(qR q s u v l 0 u l).erase x):=q9 (by rw[hql,QgR];have:=HQ0.nd u l;rw[hql] at this;exact this)
     clear hmem hql;generalize hp9:l1.getLast?.getD 0=pp at i1 i3 hpS;generalize hn9:l3.headD 0=nn at i2 hnS HNA;have HI1:=q9 i1;have HI3:=q9 i3;have HP9:=q9 hp9;have HN9:=q9 hn9;clear i1 i2 i3 hp9 hn9;have pp0:(0:Int)<=(pp:Int):=Int.natCast_nonneg _;have nn0:(0:Int)<=(nn:Int):=Int.natCast_nonneg _;obtain⟨c0,c1,c2,c3,c4,c5,c6,c7,c8,c9⟩:=hA.e.cells;have blt:=hA.e.lt;have HA:=q9 hA;clear hA hx;have g0:=HB0.cell 0;have g1:=HB0.cell 1;have glt:=HB0.lt;go_wp2_with fail
     have HY0:=q9 (HA.ay (v:=u) (l:=l));have HB1:=q9 (HB0.alloc (.cells #[I (u:Int),I (l:Int)] 137));clear HA HB0 c0 c1 c2 c3 c4 c5 c6 c7 c8 c9 blt g0 g1 glt;generalize wr.alloc (.cells #[I (u:Int),I (l:Int)] 137)=W1 at HY0 HB1 |-;generalize wr.heap.size=lb at HY0 |-
     refine(QbF (s:=s) (d:=0) hs48 (by decide) _).mono ?_;rintro e w2 ⟨rfl,hb2⟩;rw[HXX.out]
     have HY1:=q9 (HY0.below hb2);have HB2:=q9 (HB1.below hb2 HB1.lt);clear HY0 HB1 hb2;obtain⟨c0,c1,c2,c3,c4,c5,c6,c7,c8,c9⟩:=HY1.x.e.cells;have blt:=HY1.x.e.lt;obtain⟨d0,d1⟩:=HY1.l.cells;have dlt:=HY1.l.lt;go_wp2_with fail
     refine(QoL HY1.x.m HQ0 hu hl HMEM HLEN (by omega)).mono ?_;rintro e w3 ⟨rfl,A3,O3⟩
     have HY2:=q9 (HY1.next A3 O3)
     have HB3:=q9 (Blk.ta HB2.out HY1.x.m O3 (by decide) (by decide))
     clear HY1 HB2 A3 O3 c0 c1 c2 c3 c4 c5 c6 c7 c8 c9 blt d0 d1 dlt;obtain⟨c0,c1,c2,c3,c4,c5,c6,c7,c8,c9⟩:=HY2.x.e.cells;have blt:=HY2.x.e.lt;obtain⟨d0,d1⟩:=HY2.l.cells;have dlt:=HY2.l.lt;go_wp2_with fail
     have HD:=q9 HY2.drew;have hrule:=SA2.rule b lb u l V S T p
     go_region_held3 (fun W=>SA2 W b lb u l V S T p) (first|(with_reducible assumption)|(with_reducible exact HZ3.out.sa)|(with_reducible exact HZ2.out.sa)|(with_reducible exact HZ1.out.sa)|(with_reducible exact HD.out.sa))
      (first
       |(go_at_call 88;((with_reducible refine(QcE HD.out.x.m hx1 hx2 (by omega)).mono ?_);rintro e w4 ⟨rfl,A4,O4⟩;rw[HI1.out];have HZ1:=q9 (HD.out.next A4 O4);have HB4:=q9 (Blk.ta (Blk.drew HB3.out) HD.out.x.m O4 (by decide) (by decide))))
       |(go_at_call 89;((with_reducible refine(Qr (x:=x) HZ1.out.x.m hu hl hx2 (by omega) rfl).mono ?_);rintro e w5 ⟨rfl,A5,O5⟩;rw[HNA.out];have HZ2:=q9 (HZ1.out.next A5 O5);have HB5:=q9 (Blk.ta HB4.out HZ1.out.x.m O5 (by decide) (by decide))))
       |(go_at_call 87;((with_reducible refine(QbG (x:=pp) (y:=nn) HZ2.out.x.m hu hl hpS hnS (by omega) rfl rfl).mono ?_);rintro e w6 ⟨rfl,A6,O6⟩;have HZ3:=q9 (HZ2.out.next A6 O6);have HB6:=q9 (Blk.ta HB5.out HZ2.out.x.m O6 (by decide) (by decide))))
       |fail)
     clear hrule HD HY2 HB3 HZ1 HZ2 HB4 HB5 A4 O4 A5 O5 A6 O6 c0 c1 c2 c3 c4 c5 c6 c7 c8 c9 blt d0 d1 dlt;obtain⟨c0,c1,c2,c3,c4,c5,c6,c7,c8,c9⟩:=HZ3.x.e.cells;have blt:=HZ3.x.e.lt;obtain⟨d0,d1⟩:=HZ3.l.cells;have dlt:=HZ3.l.lt;obtain⟨f2,hf2⟩:∃ f2,Qcu V S T f1 u l pp nn=f2:=⟨_,rfl⟩
     have HJ9:Hid (JF V S T f1 f2 u l pp nn):=q9 (by rw[<-hf2];exact QbH HR hu hl hpS hnS)
     have HL8:Hid (LQ V S T f2 (qset (qR q s u v l 0) u l ((qR q s u v l 0 u l).erase x))/\Ke V S T f1 f2):=q9 ⟨by rw[<-HERA.out];exact HQ0.rem HR.out hu hl HQL.out (by rw[HP9.out,HN9.out];exact HJ9),HJ9.k⟩
     have HY6:=HZ3;rw[hf2] at HY6;clear HZ3
     have enq:qset (qR q s u v l 0) u l ((qR q s u v l 0 u l).erase x)=qR q s u v l 1:=by
      rw[<-HXX.out];rfl
     have HL7:Hid (LQ V S T f2 (qR q s u v l 1)/\Ke V S T f1 f2):=q9 (by rw[<-enq];exact HL8)
     have hh2:=(HL7.1.pt u l hu hl).1
     have hM2:MQ V (mkQ mk1 (ndA V u l) (decide ((qR q s u v l 1 u l).headD 0≠0))) (qR q s u v l 1):=by
      rw[<-enq]
      refine HM0.turn HR (fun x=>HY6.x.m.mk4 x) hu hl ?_
      rw[enq];have:=(HL7.1.head_zero (v:=u) (l:=l));rw[<-enq,QQ] at this;rw[<-enq,QQ];exact not_congr this
     generalize (qR q s u v l 1 u l).headD 0=h9 at hh2 hM2
     have HM2:=q9 (And.intro hM2 (HMB.turn HR.out (fun x=>HY6.x.m.mk4 x) hu hl (decide (h9≠0))))
     have HH2:=q9 hh2;clear hM2 hh2 enq hf2;go_wp2_with fail
     refine(Qdf HY6.x.m hu hl HH2 (by omega)).mono ?_;rintro e w7 ⟨rfl,A7,O7⟩
     have HR9:Hid (QfX (qR q s u v l) w b r V S T p gb cap m f mk ts u v l (I 1) w7):=q9 ⟨1,f2,_,by omega,rfl,by
      have:=HY6.x.next A7 O7
      exact⟨this.e,this.m.more (by omega),this.o⟩,Blk.ta HB6 HY6.x.m O7 (by decide) (by decide),HL7.1,HM2,HK0.trans HL7.2⟩
     clear HY6 HB6 A7 O7 HL7 HL8 HM2 HH2 HK0 HM0 HQ0 c0 c1 c2 c3 c4 c5 c6 c7 c8 c9 blt d0 d1 dlt;go_wp2_with fail
     go_roundw
     case rel=>exact HR9.out
     case measure=>simp [intOf]
  . subst hj0
    as_aux_lemma=>
     have hA:=HX.out;clear HX;have HQ0:Hid (LQ V S T f1 (qR q s u v l 1)):=q9 hQ;have HM0:Hid (MQ V mk1 (qR q s u v l 1)):=q9 hM;have HK0:=q9 hK;have HB0:=q9 hB;clear hQ hM hK hB;obtain⟨x,hx⟩:∃ x,2*s+1+1=x:=⟨_,rfl⟩
     have hx1:1<=x:=by omega
     have hx2:(x:Int)<=2*S:=by omega
     have HXX:=q9 hx
     have hmem:x∈qR q s u v l 1 v l:=by
      show x∈qset q u l ((q u l).erase (2*s+1)) v l
      rw[Qaw (by have:=HPRE.1;omega),<-hx];exact HPRE.2.2.2
     have HMEM:=q9 hmem
     have HLEN:Hid (((qR q s u v l 1 v l).length:Int)<=S):=q9 (by show ((qset q u l ((q u l).erase (2*s+1)) v l).length:Int)<=S;rw[Qaw (by have:=HPRE.1;omega)];exact HNN.2)
     obtain⟨l1,l3,hql⟩:=List.append_of_mem hmem;have HQL:=q9 hql;obtain⟨i1,i2,i3⟩:=HQ0.live hv hl hql
     have hpS:((l1.getLast?.getD 0:Nat):Int)<=2*S:=by
      by_cases e:l1.getLast?.getD 0=0
      . rw[e];have:=HR.s1;omega
      . exact(HQ0.rg v l _ (by rw[hql];exact List.mem_append_left _ (Qdg e))).2
     have hnS:((l3.headD 0:Nat):Int)<=2*S:=by
      by_cases e:l3.headD 0=0
      . rw[e];have:=HR.s1;omega
      . exact(HQ0.rg v l _ (by rw[hql];exact List.mem_append_right _ (List.mem_cons_of_mem _ (Qah e)))).2
     have HNA:Hid (f1 (nxA V S T v l x)=((l3.headD 0:Nat):Int)):=q9 (by unfold nxA;rw[if_neg (by omega)];exact i2)
     have HERA:Hid (l1++l3=(qR q s u v l 1 v l).erase x):=q9 (by rw[hql,QgR];have:=HQ0.nd v l;rw[hql] at this;exact this)
     clear hmem hql;generalize hp9:l1.getLast?.getD 0=pp at i1 i3 hpS;generalize hn9:l3.headD 0=nn at i2 hnS HNA;have HI1:=q9 i1;have HI3:=q9 i3;have HP9:=q9 hp9;have HN9:=q9 hn9;clear i1 i2 i3 hp9 hn9;have pp0:(0:Int)<=(pp:Int):=Int.natCast_nonneg _;have nn0:(0:Int)<=(nn:Int):=Int.natCast_nonneg _;obtain⟨c0,c1,c2,c3,c4,c5,c6,c7,c8,c9⟩:=hA.e.cells;have blt:=hA.e.lt;have HA:=q9 hA;clear hA hx;have g0:=HB0.cell 2;have g1:=HB0.cell 3;have glt:=HB0.lt;go_wp2_with fail
     have HY0:=q9 (HA.ay (v:=v) (l:=l));have HB1:=q9 (HB0.alloc (.cells #[I (v:Int),I (l:Int)] 137));clear HA HB0 c0 c1 c2 c3 c4 c5 c6 c7 c8 c9 blt g0 g1 glt;generalize wr.alloc (.cells #[I (v:Int),I (l:Int)] 137)=W1 at HY0 HB1 |-;generalize wr.heap.size=lb at HY0 |-
     refine(QbF (s:=s) (d:=1) hs48 (by decide) _).mono ?_;rintro e w2 ⟨rfl,hb2⟩;rw[HXX.out]
     have HY1:=q9 (HY0.below hb2);have HB2:=q9 (HB1.below hb2 HB1.lt);clear HY0 HB1 hb2;obtain⟨c0,c1,c2,c3,c4,c5,c6,c7,c8,c9⟩:=HY1.x.e.cells;have blt:=HY1.x.e.lt;obtain⟨d0,d1⟩:=HY1.l.cells;have dlt:=HY1.l.lt;go_wp2_with fail
     refine(QoL HY1.x.m HQ0 hv hl HMEM HLEN (by omega)).mono ?_;rintro e w3 ⟨rfl,A3,O3⟩
     have HY2:=q9 (HY1.next A3 O3)
     have HB3:=q9 (Blk.ta HB2.out HY1.x.m O3 (by decide) (by decide))
     clear HY1 HB2 A3 O3 c0 c1 c2 c3 c4 c5 c6 c7 c8 c9 blt d0 d1 dlt;obtain⟨c0,c1,c2,c3,c4,c5,c6,c7,c8,c9⟩:=HY2.x.e.cells;have blt:=HY2.x.e.lt;obtain⟨d0,d1⟩:=HY2.l.cells;have dlt:=HY2.l.lt;go_wp2_with fail
     have HD:=q9 HY2.drew;have hrule:=SA2.rule b lb v l V S T p
     go_region_held3 (fun W=>SA2 W b lb v l V S T p) (first|(with_reducible assumption)|(with_reducible exact HZ3.out.sa)|(with_reducible exact HZ2.out.sa)|(with_reducible exact HZ1.out.sa)|(with_reducible exact HD.out.sa))
      (first
       |(go_at_call 88;((with_reducible refine(QcE HD.out.x.m hx1 hx2 (by omega)).mono ?_);rintro e w4 ⟨rfl,A4,O4⟩;rw[HI1.out];have HZ1:=q9 (HD.out.next A4 O4);have HB4:=q9 (Blk.ta (Blk.drew HB3.out) HD.out.x.m O4 (by decide) (by decide))))
       |(go_at_call 89;((with_reducible refine(Qr (x:=x) HZ1.out.x.m hv hl hx2 (by omega) rfl).mono ?_);rintro e w5 ⟨rfl,A5,O5⟩;rw[HNA.out];have HZ2:=q9 (HZ1.out.next A5 O5);have HB5:=q9 (Blk.ta HB4.out HZ1.out.x.m O5 (by decide) (by decide))))
       |(go_at_call 87;((with_reducible refine(QbG (x:=pp) (y:=nn) HZ2.out.x.m hv hl hpS hnS (by omega) rfl rfl).mono ?_);rintro e w6 ⟨rfl,A6,O6⟩;have HZ3:=q9 (HZ2.out.next A6 O6);have HB6:=q9 (Blk.ta HB5.out HZ2.out.x.m O6 (by decide) (by decide))))
       |fail)
     clear hrule HD HY2 HB3 HZ1 HZ2 HB4 HB5 A4 O4 A5 O5 A6 O6 c0 c1 c2 c3 c4 c5 c6 c7 c8 c9 blt d0 d1 dlt;obtain⟨c0,c1,c2,c3,c4,c5,c6,c7,c8,c9⟩:=HZ3.x.e.cells;have blt:=HZ3.x.e.lt;obtain⟨d0,d1⟩:=HZ3.l.cells;have dlt:=HZ3.l.lt;obtain⟨f2,hf2⟩:∃ f2,Qcu V S T f1 v l pp nn=f2:=⟨_,rfl⟩
     have HJ9:Hid (JF V S T f1 f2 v l pp nn):=q9 (by rw[<-hf2];exact QbH HR hv hl hpS hnS)
     have HL8:Hid (LQ V S T f2 (qset (qR q s u v l 1) v l ((qR q s u v l 1 v l).erase x))/\Ke V S T f1 f2):=q9 ⟨by rw[<-HERA.out];exact HQ0.rem HR.out hv hl HQL.out (by rw[HP9.out,HN9.out];exact HJ9),HJ9.k⟩
     have HY6:=HZ3;rw[hf2] at HY6;clear HZ3
     have enq:qset (qR q s u v l 1) v l ((qR q s u v l 1 v l).erase x)=qR q s u v l 2:=by
      rw[<-HXX.out]
      show _=rem2 q s u v l;unfold rem2;show qset (qset q u l ((q u l).erase (2*s+1))) v l ((qset q u l ((q u l).erase (2*s+1)) v l).erase (2*s+1+1))=_;rw[Qaw (by have:=HPRE.1;omega)]
     have HL7:Hid (LQ V S T f2 (qR q s u v l 2)/\Ke V S T f1 f2):=q9 (by rw[<-enq];exact HL8)
     have hh2:=(HL7.1.pt v l hv hl).1
     have hM2:MQ V (mkQ mk1 (ndA V v l) (decide ((qR q s u v l 2 v l).headD 0≠0))) (qR q s u v l 2):=by
      rw[<-enq]
      refine HM0.turn HR (fun x=>HY6.x.m.mk4 x) hv hl ?_
      rw[enq];have:=(HL7.1.head_zero (v:=v) (l:=l));rw[<-enq,QQ] at this;rw[<-enq,QQ];exact not_congr this
     generalize (qR q s u v l 2 v l).headD 0=h9 at hh2 hM2
     have HM2:=q9 (And.intro hM2 (HMB.turn HR.out (fun x=>HY6.x.m.mk4 x) hv hl (decide (h9≠0))))
     have HH2:=q9 hh2;clear hM2 hh2 enq hf2;go_wp2_with fail
     refine(Qdf HY6.x.m hv hl HH2 (by omega)).mono ?_;rintro e w7 ⟨rfl,A7,O7⟩
     have HR9:Hid (QfX (qR q s u v l) w b r V S T p gb cap m f mk ts u v l (I 2) w7):=q9 ⟨2,f2,_,by omega,rfl,by
      have:=HY6.x.next A7 O7
      exact⟨this.e,this.m.more (by omega),this.o⟩,Blk.ta HB6 HY6.x.m O7 (by decide) (by decide),HL7.1,HM2,HK0.trans HL7.2⟩
     clear HY6 HB6 A7 O7 HL7 HL8 HM2 HH2 HK0 HM0 HQ0 c0 c1 c2 c3 c4 c5 c6 c7 c8 c9 blt d0 d1 dlt;go_wp2_with fail
     go_roundw
     case rel=>exact HR9.out
     case measure=>simp [intOf]
  . subst hj0
    as_aux_lemma=>
     go_wp2_with fail
     go_end0
     exact⟨f1,mk1,rfl,HX.m.more (by omega),hQ,⟨hM,HMB⟩,hK,HX.o⟩
end
theorem Qb2:∀ {S:Nat} {l:List Nat},l.Nodup->(∀ x∈l,x<S)->l.length<=S
 |0,l,_,h=>by
  cases l with
  |nil=>simp
  |cons a l=>exact absurd (h a (by simp)) (by omega)
 |S+1,l,hn,h=>by
  have h1:=Qb2 (S:=S) (l:=l.erase S) (hn.erase S) fun x hx=>by
   have h2:=(List.Nodup.mem_erase_iff hn).1 hx;have h3:=h x h2.2;omega
  have h4:=List.length_erase (a:=S) (l:=l)
  split at h4<;>omega
def fsV:List Nat->Value
 |[]=>.tuple #[I 0,.bool false]
 |s :: _=>.tuple #[I (s:Int),.bool true]
def Qmw (w0:World)(V S T:Int)(p gb cap m:Nat)(f:Nat->Int)(mk:Nat->Nat)(ts:List Tp)(L:List Nat)(rv vs i:Value)(W:World):Prop:=
 ∃ k,k<=L.length/\i=I ((k:Nat):Int)/\LU W rv L/\LI W vs ((L.take k).map fun x=>(x-1) / 2)/\(∀ k,bk vs=some k->w0.heap.size<=k)/\TA W V S T p gb cap m f mk ts/\Only p gb w0 W
def Qoe (V S T:Int)(p gb cap m:Nat)(f:Nat->Int)(mk:Nat->Nat)(ts:List Tp)(L:List Nat)(w:World)(e:Ending)(w':World):Prop:=
 ∃ vs,e=.returned vs/\LI w' vs L/\(∀ k,bk vs=some k->w.heap.size<=k)/\TA w' V S T p gb cap m f mk ts/\Only p gb w w'
section
variable {V S T:Int}{w w' w0:World}{p gb cap m s u v l b lb:Nat}{f:Nat->Int}{mk:Nat->Nat}{ts:List Tp}{q:Nat->Nat->List Nat}{bs:List E1}{r:Option Nat}
theorem LU.grown_li {rv vs:Value}{L l2:List Nat}(h:LU w rv L)(hL:LI w vs l2)(hg:w.grownBy w' (bk vs)):LU w' rv L:=h.keep fun b hb=>by
 obtain⟨a,cap,rfl,h1,h2,h3,h4⟩:=h
 rcases Nat.eq_zero_or_pos cap with rfl|hc
 . rw[Qgp] at hb;cases hb
 . obtain⟨b',off,zs,rfl,hz,_⟩:=h4 hc
   rw[Qby hc] at hb;cases hb
   exact hg.block _ hz.lt fun e=>hL.ne_blk hz (by decide) e.symm
theorem QkD (h:LK q bs)(hq:LQ V S T (f) q)(hs:bs.Pairwise fun a b=>a.s≠b.s/\¬ (a.u=b.u/\a.v=b.v))(hne:∀ e∈bs,e.u≠e.v):(dl q v l).Nodup:=by
 have uniq:∀ e∈bs,∀ e'∈bs,e.s=e'.s->e=e':=fun e he e' he' es=>by
  obtain⟨i,hi⟩:=List.mem_iff_getElem?.1 he;obtain⟨j,hj⟩:=List.mem_iff_getElem?.1 he';have ⟨h1,e1⟩:=List.getElem?_eq_some_iff.1 hi;have ⟨h2,e2⟩:=List.getElem?_eq_some_iff.1 hj
  rcases Nat.lt_trichotomy i j with c|c|c
  . have:=(List.pairwise_iff_getElem.1 hs i j h1 h2 c).1
    rw[e1,e2] at this;exact absurd es this
  . subst c;rw[hi] at hj;injection hj
  . have:=(List.pairwise_iff_getElem.1 hs j i h2 h1 c).1
    rw[e1,e2] at this;exact absurd es.symm this
 unfold dl;refine List.pairwise_map.2 (List.Pairwise.imp_of_mem ?_ (hq.nd v l));intro a b ha hb hab e;obtain⟨e1,g1,g2,g3⟩:=(h v l a).1 ha;obtain⟨e2,k1,k2,k3⟩:=(h v l b).1 hb
 have:=uniq e1 g1 e2 k1 (by omega)
 subst this;have:=hne e1 g1;omega
theorem Qlj (hR:Rt V S T)(h:LK q bs)(hq:LQ V S T f q)(hs:bs.Pairwise fun a b=>a.s≠b.s/\¬ (a.u=b.u/\a.v=b.v))(hne:∀ e∈bs,e.u≠e.v):((q v l).length:Int)<=S:=by
 have h1:=Qb2 (S:=S.toNat) (QkD (v:=v) (l:=l) h hq hs hne) (fun x hx=>by
  obtain⟨y,hy,rfl⟩:=List.mem_map.1 hx;have:=hq.rg v l y hy;omega)
 unfold dl at h1;rw[List.length_map] at h1;have:=hR.s1;omega
theorem QdQ (A:TA w V S T p gb cap m f mk ts)(hv:(v:Int)<V)(hl:(l:Int)<lv V)(hm:m<=100000000):
 Calls Tryz.prog 89 #[vA V S T p,vLs v l,I2 0] w (Dta V S T p gb cap (m+1) f mk ts (I2 (f (nxA V S T v l 0))) w):=Qr (x:=0) A hv hl (by have:=A.hR.s1;omega) hm rfl
theorem Qb6 (A:TA w V S T p gb cap m f mk ts)(hQ:LQ V S T f q)(hv:(v:Int)<V)(hl:(l:Int)<lv V)(hm:m<=99900000){vI lI:Int}(hvI:vI=(v:Int))(hlI:lI=(l:Int)):
 Calls Tryz.prog 100 #[vA V S T p,I vI,I lI] w (Dta V S T p gb cap (m+1) f mk ts (fsV (dl q v l)) w):=by
 subst hvI hlI;have H:=q9 (AX.new A);have HR:=q9 A.hR;have hh:=(hQ.pt v l hv hl).1;have hle:=hQ.head_le (v:=v) (l:=l) A.hR.s1;have hz:=hQ.head_zero (v:=v) (l:=l)
 have hfs:fsV (dl q v l)=if (q v l).headD 0=0 then .tuple #[I 0,.bool false] else .tuple #[I ((((q v l).headD 0-1) / 2:Nat):Int),.bool true]:=by
  unfold dl
  by_cases c:q v l=[]
  . rw[if_pos (hz.2 c),c];rfl
  . rw[if_neg fun e=>c (hz.1 e)]
    cases hq9:q v l with
    |nil=>exact absurd hq9 c
    |cons x L=>rfl
 rw[hfs];clear hfs hz hQ A;generalize (q v l).headD 0=h at hh hle |-
 have HH:Hid (f (nxA V S T v l 0)=(h:Int)):=q9 (by unfold nxA;rw[if_pos rfl];exact hh)
 clear hh
 by_cases h0:h=0
 . subst h0
   rw[if_pos rfl]
   as_aux_lemma=>
   go_enter Tryz.func100,Tryz.ntmps100
   go_wp2_with fail
   generalize (w.alloc (I7 V S T p))=w1 at H |-;generalize w.heap.size=b at H |-;have HD:=q9 H.drew;have hrule:=AjB.rule b V S T p
   go_region_held3 (fun W=>AjB W b V S T p) (first|(with_reducible assumption)|(with_reducible exact H3.out.e)|(with_reducible exact H2.out.e)|(with_reducible exact HD.out.e))
    (first
     |(go_at_call 89;((with_reducible refine(QdQ HD.out.m hv hl (by omega)).mono ?_);rintro e w2 ⟨rfl,A2,O2⟩;rw[HH.out];have H2:=q9 (HD.out.next A2 O2)))
     |(go_at_call 140;((with_reducible refine(Qfe HR.out _).mono ?_);rintro e w3 ⟨rfl,hb3⟩;have H3:=q9 (H2.out.below hb3)))
     |fail)
   go_wp2_with fail
   go_ret2
   exact⟨rfl,H3.m,H3.o⟩
 . rw[if_neg h0]
   as_aux_lemma=>
   obtain⟨s9,hs9⟩:∃ s9,(h-1) / 2=s9:=⟨_,rfl⟩;rw[hs9];have HS:=q9 hs9;clear hs9;have hz0:(0:Int)<=(h:Int):=Int.natCast_nonneg _
   go_enter Tryz.func100,Tryz.ntmps100
   go_wp2_with fail
   generalize (w.alloc (I7 V S T p))=w1 at H |-;generalize w.heap.size=b at H |-;have HD:=q9 H.drew;have hrule:=AjB.rule b V S T p
   go_region_held3 (fun W=>AjB W b V S T p) (first|(with_reducible assumption)|(with_reducible exact H3.out.e)|(with_reducible exact H2.out.e)|(with_reducible exact HD.out.e))
    (first
     |(go_at_call 89;((with_reducible refine(QdQ HD.out.m hv hl (by omega)).mono ?_);rintro e w2 ⟨rfl,A2,O2⟩;rw[HH.out];have H2:=q9 (HD.out.next A2 O2)))
     |(go_at_call 140;((with_reducible refine(Qff HR.out (by omega) hle HS.out _).mono ?_);rintro e w3 ⟨rfl,hb3⟩;have H3:=q9 (H2.out.below hb3)))
     |fail)
   go_wp2_with fail
   go_ret2
   exact⟨rfl,H3.m,H3.o⟩
theorem Qhs (A:TA w V S T p gb cap m f mk ts)(hQ:LQ V S T f q)(hlen:((q v l).length:Int)<=S)(hv:(v:Int)<V)(hl:(l:Int)<lv V)(hm:m<=99900000){vI lI:Int}(hvI:vI=(v:Int))(hlI:lI=(l:Int)):
 Calls Tryz.prog 126 #[vA V S T p,I vI,I lI] w (Qoe V S T p gb cap (m+1+(q v l).length) f mk ts (dl q v l) w):=by
 subst hvI hlI;have H:=q9 (AX.new A);have s48:=A.hR.s2;have hQ9:=q9 hQ
 have HRG:Hid (∀ x∈q v l,1<=x/\x<=96):=q9 fun x hx=>by have:=hQ.rg v l x hx;omega
 have HLN:=q9 hlen;obtain⟨L,hL⟩:∃ L,q v l=L:=⟨_,rfl⟩;unfold dl;rw[hL] at HRG hlen |-;have HL:=q9 hL;clear A hQ hL
 go_enter Tryz.func126,Tryz.ntmps126
 go_wp2_with fail
 generalize (w.alloc (I7 V S T p))=w1 at H |-;generalize w.heap.size=b at H |-;refine(QoH H.m hQ9.out hv hl hm).mono ?_;rintro e w2 ⟨rv,rfl,L2,N2,A2,O2⟩;rw[QoB HLN.out,HL.out] at L2 A2;have H2:=q9 (H.next A2 O2);clear H A2 O2 N2 hQ9 HLN;obtain⟨ra,rc,rfl,_,_⟩:=L2.shape;obtain⟨n,hn⟩:∃ n,L.length=n:=⟨_,rfl⟩;have HN:=q9 hn;rw[hn] at L2 hlen H2 |-
 have HRel:Hid (Qmw w V S T p gb cap (m+1+n) f mk ts L (.slice ra n rc) (.slice none 0 0) (I 0) w2):=q9 ⟨0,Nat.zero_le _,rfl,L2,LI.nil _,fun i hi=>by simp [bk] at hi,H2.m,H2.o⟩
 clear L2 H2 hn;go_wp2_with fail
 go_loopw [7,18] (fun vs i wr=>Qmw w V S T p gb cap (m+1+n) f mk ts L (.slice ra n rc) vs i wr) (fun _ i _=>n-(intOf i).toNat)
 case atStart=>exact HRel.out
 case round=>
  clear HRel;obtain⟨k,hk,rfl,hU,hI,hB,hA,hO⟩:=hrel;rw[HN.out] at hk;have HU:=q9 hU;have HI:=q9 hI;have HB:=q9 hB;have HA:=q9 (And.intro hA hO)
  have ht:((L.take k).map fun x=>(x-1) / 2).length=k:=by rw[List.length_map,List.length_take,HN.out];omega
  obtain⟨ao,vc,hvs,_,_⟩:=hI.shape;rw[ht] at hvs;subst hvs
  have hp5:((L.take k).map fun x=>(x-1) / 2).length<=100000:=by omega
  clear hU hI hB hA hO ht
  by_cases hkn:k<n
  . as_aux_lemma=>
    obtain⟨x,hx⟩:∃ y,L[k]?=some y:=⟨_,List.getElem?_eq_getElem (by have:=HN.out;omega)⟩
    obtain⟨b1,o1,rfl,c1⟩:=HU.at hx;obtain⟨x1,x2⟩:=HRG.out x (List.mem_of_getElem? hx);have HX:=q9 hx
    have kI:(k:Int)<(n:Int):=by omega
    have k0:(0:Int)<=(k:Int):=by omega
    obtain⟨s9,hs9⟩:∃ s9,(x-1) / 2=s9:=⟨_,rfl⟩;have HS:=q9 hs9
    have x0I:(0:Int)<=(x:Int):=by omega
    clear hx hs9;go_wp2_with fail
    refine(QgZ x1 x2 HS rfl _).mono ?_;rintro e w3 ⟨rfl,hb3⟩;have HU3:=q9 (HU.below hb3);have HI3:=q9 (HI.below hb3);have HA3:=q9 (And.intro (HA.1.below hb3) (HA.2.trans (Only.of_below hb3)));clear HU HI HA hb3 c1;go_wp2_with (at_builtin;refine Qau _ rfl _ _ rfl rfl (HI3.alloc _) (I1 w3.heap.size 0) 1 s9 rfl (Q5 _ _ _) hp5 ?_)
    intro v' w4 hli4 hg4 hbk4;have HIa:=HI3.alloc (.cells #[I (s9:Int)] 3);have HU4:=q9 ((HU3.alloc (.cells #[I (s9:Int)] 3)).grown_li HIa hg4);have HA4:=q9 (And.intro ((HA3.1.alloc (.cells #[I (s9:Int)] 3)).grown hg4 (HIa.ne_ta (HA3.1.alloc _)).1 (HIa.ne_ta (HA3.1.alloc _)).2) ((HA3.2.alloc (.cells #[I (s9:Int)] 3)).grown hg4 HB.out))
    have HB4:Hid (∀ k,bk v'=some k->w.heap.size<=k):=by
     refine q9 fun i hi=>?_
     rcases hbk4 with e|⟨k,e,hk⟩
     . exact HB.out i (e ▸ hi)
     . rw[hi] at e;cases e
       have:=HA3.2.size;have:=Below.size ((Below.refl w3.heap.size w3).alloc (Nat.le_refl _) (.cells #[I (s9:Int)] 3));omega
    have hRel:Hid (Qmw w V S T p gb cap (m+1+n) f mk ts L (I3 (I1 b1 o1) n rc) v' (I ((k:Int)+1)) w4):=q9 ⟨k+1,by have:=HN.out;omega,by simp,HU4.out,by rw[List.take_add_one,HX.out,List.map_append];simp only[Option.toList_some,List.map_cons,List.map_nil,HS.out];(try rw[List.map_take]);exact hli4,HB4,HA4.1,HA4.2⟩
    clear HIa hli4 hg4 hbk4 HU3 HI3 HA3 HU4 HA4 HB4;go_wp2_with fail
    go_roundw
    case rel=>exact hRel.out
    case measure=>simp [intOf];omega
  . have ek:k=n:=by omega
    subst ek
    have kI:¬ (k:Int)<(k:Int):=by omega
    clear hk hkn
    as_aux_lemma=>
    go_wp2_with fail
    go_ret
    have e9:L.take k=L:=by rw[<-HN.out,List.take_length]
    exact⟨_,rfl,by rw[<-e9];exact HI.out,HB.out,HA.1.more (by have:=HN.out;omega),HA.2⟩
end
end Go.Proofs.YtaooglagddphnaaGreat
