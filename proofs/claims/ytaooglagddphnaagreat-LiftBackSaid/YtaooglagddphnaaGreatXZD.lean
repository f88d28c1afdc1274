/- ZD -/
import Derived.Test.YtaooglagddphnaaGreatXZC
import Derived.Test.YtaooglagddphnaaGreatXZB
import Derived.Maps.AppendAt
import Derived.RangeFuncNested
import Derived.RangeFuncBound
import Derived.RangeFuncCalls
import Derived.RangeFuncLeaves
import Derived.Shelf.Abstract
import Derived.Shelf.RegionOpen
import Derived.OwnWalkIn
import Derived.TacticsInMore
import Derived.LoopNIn
import Derived.LoopIn
import Derived.Test.YtaooglagddphnaaGreatXW
namespace Go.Proofs.YtaooglagddphnaaGreat
open Go.RowKit
set_option maxRecDepth 100000
def Chn (g:Mg9)(n:Nat):Nat->List Nat->Prop
 |y,[]=>y=0
 |y,x :: l=>y=x/\x≠0/\x<=n/\Chn g n (g x 2) l
section
variable {V S T:Int}{g:Mg9}{w w' w0:World}{p gb cap m:Nat}
theorem TM.grown {r:Option Nat}(h:TM w V S T p gb cap m g)(hg:w.grownBy w' r)(h1:r≠some p)(h2:r≠some gb):TM w' V S T p gb cap m g:=by
 obtain⟨c,f,A,C,rl⟩:=h.ar;exact⟨h.hR,c,f,A.grown hg h1 h2,C,rl⟩
theorem LI.ne_t {v:Value}{l:List Nat}(h:LI w v l)(A:TM w V S T p gb cap m g):bk v≠some p/\bk v≠some gb:=by
 obtain⟨⟨_,h3⟩,⟨_,h4⟩⟩:=A.blk
 exact⟨h.ne_blk h3 (by decide),h.ne_blk h4 (by decide)⟩
theorem LI.onlyT {v:Value}{l:List Nat}(h:LI w v l)(A:TM w V S T p gb cap m g)(ho:Only p gb w w'):LI w' v l:=h.only ho (h.ne_t A).1 (h.ne_t A).2
def Qmr (w0:World)(b:Nat)(V S T:Int)(p gb cap m:Nat)(g:Mg9)(l0:List Nat)(v i:Value)(W:World):Prop:=
 ∃ done rest y,l0=done++rest/\Chn g (nN V S) y rest/\i=I ((y:Nat):Int)/\LI W v done/\(∀ q,bk v=some q->w0.heap.size<=q)/\TB W b V S T p/\TM W V S T p gb cap (m+done.length) g/\Only p gb w0 W
def Told (V S T:Int)(p gb cap m:Nat)(g:Mg9)(l:List Nat)(w:World)(e:Ending)(w':World):Prop:=
 ∃ v,e=.returned v/\LI w' v l/\(∀ q,bk v=some q->w.heap.size<=q)/\TM w' V S T p gb cap m g/\Only p gb w w'
set_option maxHeartbeats 2000000 in
theorem tup (A:TM w V S T p gb cap m g){x:Nat}{l0:List Nat}(hx:x<=nN V S)(hc:Chn g (nN V S) x l0)(hl:l0.length<=nN V S)(hm:m<=99990000):
 Calls Tryz.prog 117 #[vTr V S T p,I (x:Int)] w (Told V S T p gb cap (m+nN V S) g l0 w):=by
 have HX:=q9 hx;have HC:=q9 hc;have HA:=q9 A;have HR:=q9 A.hR;have hn560:=Ql A.hR;have HNI:=q9 (Q0 A.hR);clear A hc hx
 go_enter Tryz.func117,Tryz.ntmps117
 go_wp2_with fail
 have HT:Hid (TB (w.alloc (I5 V S T p)) w.heap.size V S T p):=q9 (TB.new _ _ _ _ _);have HA0:=q9 (HA.alloc (I5 V S T p));have HO0:=q9 ((Only.refl p gb w).alloc (I5 V S T p))
 have HBL:Hid (w.heap.size<(w.alloc (I5 V S T p)).heap.size):=q9 (by simp)
 generalize hwb:w.heap.size=b at HT HBL |-;generalize hW:w.alloc (I5 V S T p)=W at HT HA0 HO0 HBL |-;clear hW;have htb:=Qm b V S T p;obtain⟨y0,y1,y2,y3,y4,y5⟩:=HT.cells;have hlt:=HT.lt;refine(Qar HR HX p _).mono ?_;rintro e w1 ⟨rfl,hb1⟩;have HT1:=q9 (HT.below hb1)
 have HRel:Hid (Qmr w b V S T p gb cap m g l0 (.slice none 0 0) (I (x:Int)) w1):=q9 ⟨[],l0,x,rfl,HC.out,rfl,LI.nil _,fun q hq=>by simp [bk] at hq,HT1.out,HA0.below hb1,HO0.trans (Only.of_below hb1)⟩
 clear hb1 HT HA0 HO0 y0 y1 y2 y3 y4 y5 hlt htb HT1 HX HC;go_wp2_with fail
 go_loopw [5,6] (fun v i wr=>Qmr w b V S T p gb cap m g l0 v i wr) (fun v _ _=>1000-lenV v)
 case atStart=>exact HRel.out
 case round=>
  clear HRel;obtain⟨done,rest,y,hl0,hch,rfl,hli,hbk,hT,hA,hO⟩:=hrel;have HLI:=q9 hli;have HBK:=q9 hbk;have HT:=q9 hT;have HA1:=q9 hA;have HO1:=q9 hO;clear hli hbk hT hA hO;obtain⟨y0,y1,y2,y3,y4,y5⟩:=HT.cells;have hlt:=HT.lt
  cases rest with
  |nil=>
   have e0:y=0:=hch;subst e0;rw[List.append_nil] at hl0;subst hl0;clear hch;go_wp2_with fail
   go_ret
   exact⟨_,rfl,HLI,HBK,HA1.more (by omega),HO1⟩
  |cons x rest=>
   obtain⟨rfl,hx0,hxn,hch'⟩:=hch;have HXN:=q9 hxn
   have HP:=q9 (show l0=(done++[y])++rest by rw[hl0];simp)
   have HCH:=q9 hch'
   have hdl:done.length<nN V S:=by rw[hl0] at hl;simp at hl;omega
   have hd1:(done.length:Int)<nd V S:=by have:=HNI.out;omega
   have hyI:¬ (y:Int)=0:=by omega
   have hd5:done.length<=100000:=by omega
   obtain⟨ao,vc,rfl,hvl,hvm⟩:=HLI.shape;clear hl0 hch' hxn hvl hvm;go_wp2_with fail
   refine(Q3 V S T HR _).mono ?_;rintro e w2 ⟨rfl,hb2⟩;have HT2:=q9 (HT.below hb2);have HA2:=q9 (HA1.below hb2);have HO2:=q9 (HO1.trans (Only.of_below hb2));have HLI2:=q9 (HLI.below hb2);clear hb2 HT HA1 HO1 HLI y0 y1 y2 y3 y4 y5 hlt;go_wp2_with (at_builtin;refine Qau _ rfl _ _ rfl rfl (HLI2.alloc _) (I1 w2.heap.size 0) 1 y rfl (Q5 _ _ _) hd5 ?_)
   intro v' w3 hli3 hg3 hbk3;have HLa:=HLI2.alloc (.cells #[I (y:Int)] 3);have HAa:=HA2.alloc (.cells #[I (y:Int)] 3);have HA3:=q9 (HAa.grown hg3 (HLa.ne_t HAa).1 (HLa.ne_t HAa).2)
   have HT3:Hid (TB w3 b V S T p):=q9 (Blk.grown (Blk.alloc HT2.out _) hg3 (HLa.ne_blk (Blk.alloc HT2.out (.cells #[I (y:Int)] 3)) (by decide)))
   have HO3:=q9 ((HO2.alloc (.cells #[I (y:Int)] 3)).grown hg3 HBK.out)
   have HB3:Hid (∀ q,bk v'=some q->w.heap.size<=q):=by
    refine q9 fun q hq=>?_
    rcases hbk3 with e|⟨k,e,hk⟩
    . exact HBK.out q (e ▸ hq)
    . rw[hq] at e;cases e
      have:=HO2.size;omega
   have HLI3:=q9 hli3;clear hli3 hg3 hbk3 HLa HAa HA2 HT2 HO2 HBK HLI2;obtain⟨y0,y1,y2,y3,y4,y5⟩:=HT3.cells;have hlt:=HT3.lt
   have hlen3:lenV v'=done.length+1:=by
    obtain⟨a',cap',e,_⟩:=HLI3.shape;rw[e];simp [lenV]
   go_wp2_with fail
   refine(Qey HA3 HXN (by omega)).mono ?_;rintro e w4 ⟨rfl,A4,O4⟩
   have hRel:Hid (Qmr w b V S T p gb cap m g l0 v' (I (g y 2:Int)) w4):=
    q9 ⟨done++[y],rest,g y 2,HP.out,HCH.out,rfl,HLI3.onlyT HA3.out O4,HB3.out,HT3.only HA3.out O4,by rw[List.length_append,List.length_singleton,<-Nat.add_assoc];exact A4,HO3.trans O4⟩
   clear A4 O4 HA3 HT3 HO3 HB3 HLI3 HP HCH y0 y1 y2 y3 y4 y5 hlt;generalize g y 2=z at hRel |-;go_wp2_with fail
   go_roundw
   case rel=>exact hRel.out
   case measure=>rw[hlen3];simp only[lenV];omega
def Qoc (l:List Nat)(W0:World)(k r:Value)(W:World):Prop:=
 W=W0/\∃ j,j<=l.length/\k=I ((j:Nat):Int)/\r=I ((((0 :: l)[j]?.getD 0:Nat)):Int)
set_option maxHeartbeats 2000000 in
theorem QnS (A:TM w V S T p gb cap m g){x:Nat}{l0:List Nat}(hx:x<=nN V S)(hc:Chn g (nN V S) x l0)(hl:l0.length<=nN V S)(hm:m<=99990000):
 Calls Tryz.prog 95 #[vTr V S T p,I (x:Int)] w (Did V S T p gb cap (m+nN V S) g (I ((((0 :: l0)[l0.length]?.getD 0:Nat)):Int)) w):=by
 have HX:=q9 hx;have HC:=q9 hc;have HA:=q9 A;have hn560:=Ql A.hR;have HL:=q9 hl;clear A hc hx
 go_enter Tryz.func95,Tryz.ntmps95
 go_wp2_with fail
 have HT:Hid (TB (w.alloc (I5 V S T p)) w.heap.size V S T p):=q9 (TB.new _ _ _ _ _);have HA0:=q9 (HA.alloc (I5 V S T p));have HO0:=q9 ((Only.refl p gb w).alloc (I5 V S T p))
 have HBL:Hid (w.heap.size<(w.alloc (I5 V S T p)).heap.size):=q9 (by simp)
 generalize hwb:w.heap.size=b at HT HBL |-;generalize hW:w.alloc (I5 V S T p)=W at HT HA0 HO0 HBL |-;clear hW;have htb:=Qm b V S T p;obtain⟨y0,y1,y2,y3,y4,y5⟩:=HT.cells;have hlt:=HT.lt;refine(tup HA0 HX HC HL hm).mono ?_;rintro e w1 ⟨v,rfl,hli,_,A1,O1⟩;have HA1:=q9 A1;have HO1:=q9 (HO0.trans O1);have HLI:=q9 hli;obtain⟨a,vc,rfl,hv1,hv2⟩:=hli.shape;clear hli A1 O1 HT HA0 HO0 y0 y1 y2 y3 y4 y5 hlt htb;go_wp2_with fail
 go_loopw [12,5] (fun k r wr=>Qoc l0 w1 k r wr) (fun k _ _=>l0.length-(intOf k).toNat)
 case atStart=>exact⟨rfl,0,Nat.zero_le _,rfl,rfl⟩
 case round=>
  obtain⟨hW,j,hj,rfl,rfl⟩:=hrel;subst hW
  by_cases hjl:j<l0.length
  . obtain⟨b1,off,cp,e,_,_,_,hcells⟩:=HLI.open_ (by intro e;rw[e] at hjl;simp at hjl)
    cases e
    have hcj:=hcells j _ (List.getElem?_eq_getElem hjl)
    have hv:((0 :: l0)[j+1]?.getD 0:Nat)=l0[j]:=by simp [List.getElem?_eq_getElem hjl]
    clear hcells;generalize hq:l0[j]=q at hcj hv;have HV:=q9 hv;clear hv hq;go_wp2_with fail
    go_roundw
    case rel=>exact⟨rfl,j+1,hjl,by simp,by rw[HV.out]⟩
    case measure=>simp [intOf];omega
  . obtain rfl:j=l0.length:=by omega
    go_wp2_with fail
    go_ret;exact⟨rfl,HA1,HO1⟩
end
def Qb1 (vx:Nat->Bool):Mg9->List Nat->Mg9
 |g,[]=>g
 |g,y :: l=>Qb1 vx (Qbe vx g y (oS (g y 6))) l
structure RkOk (V S:Int)(x:Nat):Prop where
 x1:1<=x
 xN:x<=nN V S
def Qe4 (V S:Int):List Nat->Prop
 |[]=>True
 |y :: l=>RkOk V S y/\Qe4 V S l
section
variable {V S T:Int}{g:Mg9}{w w' w0:World}{p gb cap m:Nat}
def QkW (w0:World)(b:Nat)(V S T:Int)(p gb cap m:Nat)(gE:Mg9)(v:Value)(l:List Nat)(i:Value)(W:World):Prop:=
 ∃ done rest g1,l=done++rest/\i=I ((done.length:Nat):Int)/\Qe4 V S rest/\Qb1 (vxN V) g1 rest=gE/\LI W v l/\TB W b V S T p/\TM W V S T p gb cap (m+6*done.length) g1/\Only p gb w0 W
set_option maxHeartbeats 4000000 in
theorem QnT (A:TM w V S T p gb cap m g){x k:Nat}{on:Bool}{l:List Nat}{g1:Mg9}(hk:k<2)(h:RkOk V S x)(hg1:Qbe (vxN V) g x (setB (oS (g x 6)) k on)=g1)(hc:Chn g1 (nN V S) (g1 x 2) l)(hl:l.length<=nN V S)(hr:Qe4 V S l)(hm:m<=99980000):
 Calls Tryz.prog 63 #[vTr V S T p,I (x:Int),I (k:Int),.bool on] w (Did V S T p gb cap (m+7+7*nN V S) (Qb1 (vxN V) g1 l) (.tuple #[]) w):=by
 have hn560:=Ql A.hR;have HK:=q9 hk;have HX:=q9 h.xN;have HA:=q9 A;have H:=q9 h;have HC:=q9 hc;have HL:=q9 hl;have HRK:=q9 hr;obtain⟨s,hs⟩:∃ s,g x 6=s:=⟨_,rfl⟩;have hol:=Qgb s
 have hbk:¬ (bt k:Int)=0:=by unfold bt;split<;>omega
 have hor:bits .or .u64 (oS s:Int) (bt k:Int)=(setB (oS s) k true:Int):=Qn2 k hol;have han:bits .andNot .u64 (oS s:Int) (bt k:Int)=(setB (oS s) k false:Int):=Qjo hol hk;have HB4:Hid (setB (oS s) k on<4):=q9 (Qia hol hk)
 have HG:Hid (Qbe (vxN V) g x (setB (oS s) k on)=g1):=q9 (by rw[<-hs];exact hg1)
 have HS:=q9 hs;have fl:=Qbn s
 have HM:Hid (m<=100000000):=q9 (by omega)
 have HX1:Hid (g1 x 2<=nN V S):=q9 (by
  rw[<-hg1,Qs _ _ _ _ _ (by decide)];exact(A.b h.xN).1)
 clear A hk h hg1 hc hl hr hs
 have main:∀ q:Bool,q=on->Calls Tryz.prog 63 #[vTr V S T p,I (x:Int),I (k:Int),.bool q] w (Did V S T p gb cap (m+7+7*nN V S) (Qb1 (vxN V) g1 l) (.tuple #[]) w):=by
  intro q hq
  cases q with
  |true=>
   subst hq
   go_enter Tryz.func63,Tryz.ntmps63
   go_wp2_with fail
   have HT:Hid (TB (w.alloc (I5 V S T p)) w.heap.size V S T p):=q9 (TB.new _ _ _ _ _);have HA0:=q9 (HA.alloc (I5 V S T p));have HO0:=q9 ((Only.refl p gb w).alloc (I5 V S T p))
   have HBL:Hid (w.heap.size<(w.alloc (I5 V S T p)).heap.size):=q9 (by simp)
   generalize hwb:w.heap.size=b at HT HBL |-;generalize hW:w.alloc (I5 V S T p)=W at HT HA0 HO0 HBL |-;clear hW;have htb:=Qm b V S T p;obtain⟨y0,y1,y2,y3,y4,y5⟩:=HT.cells;have hlt:=HT.lt;have HTd:=q9 HT.drew;have HAd:=q9 HA0.drew;have HOd:=q9 HO0.drew
   go_region_held3 (fun W=>TB W b V S T p) (first|(with_reducible assumption)|(with_reducible exact TB.below (by assumption) hb1)|(with_reducible exact TB.only (by assumption) (Hid.out (by assumption:Hid (TM _ V S T p gb cap (m) g))) O2)|(with_reducible exact HTd.out))
    (first
     |(go_at_call 96;((with_reducible refine(Qda HK.out _).mono ?_);rintro e w2 ⟨rfl,rfl⟩))
     |(go_at_call 99;((with_reducible refine(tsum (Hid.out (by assumption:Hid (TM _ V S T p gb cap (m) g))) HX.out HM.out).mono ?_);rintro e w2 ⟨rfl,A2,O2⟩;have HA1:=q9 A2;have HO1:=q9 (Only.trans (Hid.out (by assumption:Hid (Only p gb w _))) O2);rw[HS.out];have HT1:=q9 (TB.only (by assumption) (Hid.out (by assumption:Hid (TM _ V S T p gb cap (m) g))) O2))))
   all_goals
    clear hwb HTd HAd HOd HA0 HO0 HT y0 y1 y2 y3 y4 y5 hlt;obtain⟨y0,y1,y2,y3,y4,y5⟩:=HT1.cells;have hlt:=HT1.lt;go_wp2_with fail
    refine(QcP HA1 H.xN H.x1 HB4 (by omega)).mono ?_;rintro e w3 ⟨rfl,A3,O3⟩;rw[HG.out] at A3
    have HT:=q9 (HT1.only HA1.out O3);have HA0:Hid (TM w3 V S T p gb cap (m+6) g1):=q9 A3;have HO0:=q9 (HO1.trans O3);clear A3 O3 HT1 HA1 HO1 y0 y1 y2 y3 y4 y5 hlt;obtain⟨y0,y1,y2,y3,y4,y5⟩:=HT.cells;have hlt:=HT.lt
    have HM6:Hid (m+6<=100000000):=q9 (by omega)
    have HM7:Hid (m+7<=99990000):=q9 (by omega)
    go_wp2_with fail
    have HTd:=q9 HT.drew;have HAd:=q9 HA0.drew;have HOd:=q9 HO0.drew
    go_region_held3 (fun W=>TB W b V S T p) (first|(with_reducible assumption)|(with_reducible exact TB.below (by assumption) hb1)|(with_reducible exact TB.only (by assumption) (Hid.out (by assumption:Hid (TM _ V S T p gb cap (m+6) g1))) O2)|(with_reducible exact TB.only (by assumption) (Hid.out (by assumption:Hid (TM _ V S T p gb cap (m+7) g1))) O2)|(with_reducible exact HTd.out))
     (first
      |(go_at_call 118;((with_reducible refine(Qey (Hid.out (by assumption:Hid (TM _ V S T p gb cap (m+6) g1))) HX.out HM6.out).mono ?_);rintro e w2 ⟨rfl,A2,O2⟩;have HA2:Hid (TM w2 V S T p gb cap (m+7) g1):=q9 A2;have HO2:=q9 (Only.trans (Hid.out (by assumption:Hid (Only p gb w _))) O2)))
      |(go_at_call 117;((with_reducible refine(tup (Hid.out (by assumption:Hid (TM _ V S T p gb cap (m+7) g1))) HX1.out HC.out HL.out HM7.out).mono ?_);rintro e w2 ⟨v,rfl,hli,_,A2,O2⟩;obtain⟨av,vc,rfl,hv1,hv2⟩:=hli.shape;have HLI:=q9 hli;have HA3:=q9 A2;have HO3:=q9 (Only.trans (Hid.out (by assumption:Hid (Only p gb w _))) O2);have HT3:=q9 (TB.only (by assumption) (Hid.out (by assumption:Hid (TM _ V S T p gb cap (m+7) g1))) O2))))
    all_goals
     have HRel:Hid (QkW w b V S T p gb cap (m+7+nN V S) (Qb1 (vxN V) g1 l) (.slice av l.length vc) l (I 0) _):=q9 ⟨[],l,g1,rfl,rfl,HRK.out,rfl,HLI.out,HT3.out,HA3.out,HO3.out⟩;clear HT HA0 HO0 HTd HAd HOd HT3 HA3 HO3 HA2 HO2 HLI y0 y1 y2 y3 y4 y5 hlt hv1 hv2 hli A2 O2;go_wp2_with fail
     go_loopw [37] (fun i wr=>QkW w b V S T p gb cap (m+7+nN V S) (Qb1 (vxN V) g1 l) (.slice av l.length vc) l i wr) (fun i _=>l.length-(intOf i).toNat)
     case atStart=>exact HRel.out
     case round=>
      clear HRel;obtain⟨done,rest,g2,hl0,rfl,hok,hgE,hli,hT,hA,hO⟩:=hrel;have HT:=q9 hT;have HA0:=q9 hA;have HO0:=q9 hO;obtain⟨y0,y1,y2,y3,y4,y5⟩:=hT.cells;have hlt:=hT.lt;have HLI:=q9 hli;clear hT hA hO;have hll:=HL.out
      cases rest with
      |nil=>
       rw[List.append_nil] at hl0
       have hge:((done.length:Nat):Int)=(l.length:Int):=by rw[hl0]
       have HE:Hid (g2=Qb1 (vxN V) g1 l):=q9 hgE
       have hd:done.length=l.length:=by rw[hl0]
       clear hgE hli hok hl0;rw[hd] at HA0 |-;clear hge hd;go_wp2_with fail
       go_end0
       exact⟨rfl,by rw[<-HE.out];exact HA0.more (by omega),HO0⟩
      |cons y rest=>
       have hjl:done.length<l.length:=by rw[hl0];simp
       obtain⟨hyk,hok'⟩:=hok
       obtain⟨b1,off,cp,e,_,_,_,hcells⟩:=hli.open_ (by intro e;rw[e] at hjl;simp at hjl)
       cases e
       have hcj:=hcells done.length y (by rw[hl0];simp)
       have HYK:=q9 hyk;have HOK:=q9 hok';have HGE:=q9 hgE
       have HL0:=q9 (show l=(done++[y])++rest by rw[hl0];simp)
       obtain⟨s2,hs2⟩:∃ s2,g2 y 6=s2:=⟨_,rfl⟩;have HS2:=q9 hs2;have fl2:=Qbn s2;have HO4:Hid (oS s2<4):=q9 (Qgb _);obtain⟨M,hM⟩:∃ M,m+7+nN V S+6*done.length=M:=⟨_,rfl⟩;have HMM:=q9 hM;rw[hM] at HA0
       have HM1:Hid (M<=100000000):=q9 (by omega)
       have HM2:Hid (M+1<=99999990):=q9 (by omega)
       have HLId:=q9 HLI.drew;clear hcells hl0 hyk hok' hgE hli hs2 hM;go_wp2_with fail
       have HTd:=q9 HT.drew;have HAd:=q9 HA0.drew;have HOd:=q9 HO0.drew
       go_region_held3 (fun W=>TB W b V S T p) (first|(with_reducible assumption)|(with_reducible exact TB.below (by assumption) hb1)|(with_reducible exact TB.only (by assumption) (Hid.out (by assumption:Hid (TM _ V S T p gb cap (M) g2))) O2)|(with_reducible exact TB.only (by assumption) (Hid.out (by assumption:Hid (TM _ V S T p gb cap (M+1) g2))) O2)|(with_reducible exact HTd.out))
        (first
         |(go_at_call 99;((with_reducible refine(tsum (Hid.out (by assumption:Hid (TM _ V S T p gb cap M g2))) HYK.out.xN HM1.out).mono ?_);rintro e w2 ⟨rfl,A2,O2⟩;rw[HS2.out];have HA2:=q9 A2;have HO2:=q9 (Only.trans (Hid.out (by assumption:Hid (Only p gb w _))) O2);have HLI2:=q9 (LI.onlyT HLId.out (Hid.out (by assumption:Hid (TM _ V S T p gb cap M g2))) O2)))
         |(go_at_call 81;((with_reducible refine(QcP (Hid.out (by assumption:Hid (TM _ V S T p gb cap (M+1) g2))) HYK.out.xN HYK.out.x1 HO4.out HM2.out).mono ?_);rintro e w2 ⟨rfl,A2,O2⟩;have HA3:=q9 A2;have HO3:=q9 (Only.trans (Hid.out (by assumption:Hid (Only p gb w _))) O2);have HLI3:=q9 (LI.onlyT HLI2.out (Hid.out (by assumption:Hid (TM _ V S T p gb cap (M+1) g2))) O2);have HT3:=q9 (TB.only (by assumption) (Hid.out (by assumption:Hid (TM _ V S T p gb cap (M+1) g2))) O2))))
       all_goals
        go_wp2_with fail
        go_roundw
        case rel=>exact⟨done++[y],rest,_,HL0.out,by simp,HOK.out,HGE.out,HLI3.out,HT3.out,by rw[List.length_append,List.length_singleton,HS2.out,show m+7+nN V S+6*(done.length+1)=M+1+5 by rw[<-HMM.out];omega];exact HA3,HO3⟩
        case measure=>simp [intOf];omega
  |false=>
   subst hq
   go_enter Tryz.func63,Tryz.ntmps63
   go_wp2_with fail
   have HT:Hid (TB (w.alloc (I5 V S T p)) w.heap.size V S T p):=q9 (TB.new _ _ _ _ _);have HA0:=q9 (HA.alloc (I5 V S T p));have HO0:=q9 ((Only.refl p gb w).alloc (I5 V S T p))
   have HBL:Hid (w.heap.size<(w.alloc (I5 V S T p)).heap.size):=q9 (by simp)
   generalize hwb:w.heap.size=b at HT HBL |-;generalize hW:w.alloc (I5 V S T p)=W at HT HA0 HO0 HBL |-;clear hW;have htb:=Qm b V S T p;obtain⟨y0,y1,y2,y3,y4,y5⟩:=HT.cells;have hlt:=HT.lt;have HTd:=q9 HT.drew;have HAd:=q9 HA0.drew;have HOd:=q9 HO0.drew
   go_region_held3 (fun W=>TB W b V S T p) (first|(with_reducible assumption)|(with_reducible exact TB.below (by assumption) hb1)|(with_reducible exact TB.only (by assumption) (Hid.out (by assumption:Hid (TM _ V S T p gb cap (m) g))) O2)|(with_reducible exact HTd.out))
    (first
     |(go_at_call 96;((with_reducible refine(Qda HK.out _).mono ?_);rintro e w2 ⟨rfl,rfl⟩))
     |(go_at_call 99;((with_reducible refine(tsum (Hid.out (by assumption:Hid (TM _ V S T p gb cap (m) g))) HX.out HM.out).mono ?_);rintro e w2 ⟨rfl,A2,O2⟩;have HA1:=q9 A2;have HO1:=q9 (Only.trans (Hid.out (by assumption:Hid (Only p gb w _))) O2);rw[HS.out];have HT1:=q9 (TB.only (by assumption) (Hid.out (by assumption:Hid (TM _ V S T p gb cap (m) g))) O2))))
   all_goals
    clear hwb HTd HAd HOd HA0 HO0 HT y0 y1 y2 y3 y4 y5 hlt;obtain⟨y0,y1,y2,y3,y4,y5⟩:=HT1.cells;have hlt:=HT1.lt;go_wp2_with fail
    refine(QcP HA1 H.xN H.x1 HB4 (by omega)).mono ?_;rintro e w3 ⟨rfl,A3,O3⟩;rw[HG.out] at A3
    have HT:=q9 (HT1.only HA1.out O3);have HA0:Hid (TM w3 V S T p gb cap (m+6) g1):=q9 A3;have HO0:=q9 (HO1.trans O3);clear A3 O3 HT1 HA1 HO1 y0 y1 y2 y3 y4 y5 hlt;obtain⟨y0,y1,y2,y3,y4,y5⟩:=HT.cells;have hlt:=HT.lt
    have HM6:Hid (m+6<=100000000):=q9 (by omega)
    have HM7:Hid (m+7<=99990000):=q9 (by omega)
    go_wp2_with fail
    have HTd:=q9 HT.drew;have HAd:=q9 HA0.drew;have HOd:=q9 HO0.drew
    go_region_held3 (fun W=>TB W b V S T p) (first|(with_reducible assumption)|(with_reducible exact TB.below (by assumption) hb1)|(with_reducible exact TB.only (by assumption) (Hid.out (by assumption:Hid (TM _ V S T p gb cap (m+6) g1))) O2)|(with_reducible exact TB.only (by assumption) (Hid.out (by assumption:Hid (TM _ V S T p gb cap (m+7) g1))) O2)|(with_reducible exact HTd.out))
     (first
      |(go_at_call 118;((with_reducible refine(Qey (Hid.out (by assumption:Hid (TM _ V S T p gb cap (m+6) g1))) HX.out HM6.out).mono ?_);rintro e w2 ⟨rfl,A2,O2⟩;have HA2:Hid (TM w2 V S T p gb cap (m+7) g1):=q9 A2;have HO2:=q9 (Only.trans (Hid.out (by assumption:Hid (Only p gb w _))) O2)))
      |(go_at_call 117;((with_reducible refine(tup (Hid.out (by assumption:Hid (TM _ V S T p gb cap (m+7) g1))) HX1.out HC.out HL.out HM7.out).mono ?_);rintro e w2 ⟨v,rfl,hli,_,A2,O2⟩;obtain⟨av,vc,rfl,hv1,hv2⟩:=hli.shape;have HLI:=q9 hli;have HA3:=q9 A2;have HO3:=q9 (Only.trans (Hid.out (by assumption:Hid (Only p gb w _))) O2);have HT3:=q9 (TB.only (by assumption) (Hid.out (by assumption:Hid (TM _ V S T p gb cap (m+7) g1))) O2))))
    all_goals
     have HRel:Hid (QkW w b V S T p gb cap (m+7+nN V S) (Qb1 (vxN V) g1 l) (.slice av l.length vc) l (I 0) _):=q9 ⟨[],l,g1,rfl,rfl,HRK.out,rfl,HLI.out,HT3.out,HA3.out,HO3.out⟩;clear HT HA0 HO0 HTd HAd HOd HT3 HA3 HO3 HA2 HO2 HLI y0 y1 y2 y3 y4 y5 hlt hv1 hv2 hli A2 O2;go_wp2_with fail
     go_loopw [37] (fun i wr=>QkW w b V S T p gb cap (m+7+nN V S) (Qb1 (vxN V) g1 l) (.slice av l.length vc) l i wr) (fun i _=>l.length-(intOf i).toNat)
     case atStart=>exact HRel.out
     case round=>
      clear HRel;obtain⟨done,rest,g2,hl0,rfl,hok,hgE,hli,hT,hA,hO⟩:=hrel;have HT:=q9 hT;have HA0:=q9 hA;have HO0:=q9 hO;obtain⟨y0,y1,y2,y3,y4,y5⟩:=hT.cells;have hlt:=hT.lt;have HLI:=q9 hli;clear hT hA hO;have hll:=HL.out
      cases rest with
      |nil=>
       rw[List.append_nil] at hl0
       have hge:((done.length:Nat):Int)=(l.length:Int):=by rw[hl0]
       have HE:Hid (g2=Qb1 (vxN V) g1 l):=q9 hgE
       have hd:done.length=l.length:=by rw[hl0]
       clear hgE hli hok hl0;rw[hd] at HA0 |-;clear hge hd;go_wp2_with fail
       go_end0
       exact⟨rfl,by rw[<-HE.out];exact HA0.more (by omega),HO0⟩
      |cons y rest=>
       have hjl:done.length<l.length:=by rw[hl0];simp
       obtain⟨hyk,hok'⟩:=hok
       obtain⟨b1,off,cp,e,_,_,_,hcells⟩:=hli.open_ (by intro e;rw[e] at hjl;simp at hjl)
       cases e
       have hcj:=hcells done.length y (by rw[hl0];simp)
       have HYK:=q9 hyk;have HOK:=q9 hok';have HGE:=q9 hgE
       have HL0:=q9 (show l=(done++[y])++rest by rw[hl0];simp)
       obtain⟨s2,hs2⟩:∃ s2,g2 y 6=s2:=⟨_,rfl⟩;have HS2:=q9 hs2;have fl2:=Qbn s2;have HO4:Hid (oS s2<4):=q9 (Qgb _);obtain⟨M,hM⟩:∃ M,m+7+nN V S+6*done.length=M:=⟨_,rfl⟩;have HMM:=q9 hM;rw[hM] at HA0
       have HM1:Hid (M<=100000000):=q9 (by omega)
       have HM2:Hid (M+1<=99999990):=q9 (by omega)
       have HLId:=q9 HLI.drew;clear hcells hl0 hyk hok' hgE hli hs2 hM;go_wp2_with fail
       have HTd:=q9 HT.drew;have HAd:=q9 HA0.drew;have HOd:=q9 HO0.drew
       go_region_held3 (fun W=>TB W b V S T p) (first|(with_reducible assumption)|(with_reducible exact TB.below (by assumption) hb1)|(with_reducible exact TB.only (by assumption) (Hid.out (by assumption:Hid (TM _ V S T p gb cap (M) g2))) O2)|(with_reducible exact TB.only (by assumption) (Hid.out (by assumption:Hid (TM _ V S T p gb cap (M+1) g2))) O2)|(with_reducible exact HTd.out))
        (first
         |(go_at_call 99;((with_reducible refine(tsum (Hid.out (by assumption:Hid (TM _ V S T p gb cap M g2))) HYK.out.xN HM1.out).mono ?_);rintro e w2 ⟨rfl,A2,O2⟩;rw[HS2.out];have HA2:=q9 A2;have HO2:=q9 (Only.trans (Hid.out (by assumption:Hid (Only p gb w _))) O2);have HLI2:=q9 (LI.onlyT HLId.out (Hid.out (by assumption:Hid (TM _ V S T p gb cap M g2))) O2)))
         |(go_at_call 81;((with_reducible refine(QcP (Hid.out (by assumption:Hid (TM _ V S T p gb cap (M+1) g2))) HYK.out.xN HYK.out.x1 HO4.out HM2.out).mono ?_);rintro e w2 ⟨rfl,A2,O2⟩;have HA3:=q9 A2;have HO3:=q9 (Only.trans (Hid.out (by assumption:Hid (Only p gb w _))) O2);have HLI3:=q9 (LI.onlyT HLI2.out (Hid.out (by assumption:Hid (TM _ V S T p gb cap (M+1) g2))) O2);have HT3:=q9 (TB.only (by assumption) (Hid.out (by assumption:Hid (TM _ V S T p gb cap (M+1) g2))) O2))))
       all_goals
        go_wp2_with fail
        go_roundw
        case rel=>exact⟨done++[y],rest,_,HL0.out,by simp,HOK.out,HGE.out,HLI3.out,HT3.out,by rw[List.length_append,List.length_singleton,HS2.out,show m+7+nN V S+6*(done.length+1)=M+1+5 by rw[<-HMM.out];omega];exact HA3,HO3⟩
        case measure=>simp [intOf];omega
 exact main _ rfl
end
def idxG (g:Mg9):Nat->Nat->List Nat->Nat
 |i,_,[]=>i
 |i,f,y :: l=>idxG g (if g y 4=f then i+(nS (g (g y 3) 6)+1) else i) y l
section
variable {V S T:Int}{g:Mg9}{w w' w0:World}{p gb cap m:Nat}
def QnK (w0:World)(b:Nat)(V S T:Int)(p gb cap m:Nat)(g:Mg9)(E:Nat)(v:Value)(l:List Nat)(k i f:Value)(W:World):Prop:=
 ∃ done rest iN fN,l=done++rest/\k=I ((done.length:Nat):Int)/\i=I ((iN:Nat):Int)/\f=I ((fN:Nat):Int)/\iN<=65536*(1+done.length)/\idxG g iN fN rest=E/\(∀ y∈rest,y<=nN V S)/\LI W v l/\TB W b V S T p/\TM W V S T p gb cap (m+3*done.length) g/\Only p gb w0 W
set_option maxHeartbeats 4000000 in
theorem QmM (A:TM w V S T p gb cap m g){x:Nat}{l:List Nat}(hx:x<=nN V S)(hc:Chn g (nN V S) (g x 2) l)(hl:l.length<=nN V S)(hln:∀ y∈l,y<=nN V S)(hm:m<=99980000):
 Calls Tryz.prog 119 #[vTr V S T p,I (x:Int)] w (Did V S T p gb cap (m+3+4*nN V S) g (I (idxG g (nS (g (g x 3) 6)) x l:Int)) w):=by
 have hn560:=Ql A.hR;have HX:=q9 hx;have HA:=q9 A;have HC:=q9 hc;have HL:=q9 hl;have HLN:=q9 hln;have HX3:=q9 (A.b hx).2.1;have HX2:=q9 (A.b hx).1;obtain⟨c,hcc⟩:∃ c,g x 3=c:=⟨_,rfl⟩;rw[hcc] at HX3 |-;have HCC:=q9 hcc;obtain⟨i0,hi0⟩:∃ i0,nS (g c 6)=i0:=⟨_,rfl⟩;have HI0:=q9 hi0
 have HIL:Hid (i0<=65536):=q9 (by rw[<-hi0];exact Nat.le_of_lt (Qir _))
 rw[hi0];obtain⟨E,hE⟩:∃ E,idxG g i0 x l=E:=⟨_,rfl⟩;rw[hE];have HE0:=q9 hE
 have HM:Hid (m<=100000000):=q9 (by omega)
 have HM1:Hid (m+1<=100000000):=q9 (by omega)
 have HM2:Hid (m+2<=100000000):=q9 (by omega)
 have HM3:Hid (m+3<=99990000):=q9 (by omega)
 clear A hc hl hln hx hcc hi0 hE
 go_enter Tryz.func119,Tryz.ntmps119
 go_wp2_with fail
 have HT:Hid (TB (w.alloc (I5 V S T p)) w.heap.size V S T p):=q9 (TB.new _ _ _ _ _);have HA0:=q9 (HA.alloc (I5 V S T p));have HO0:=q9 ((Only.refl p gb w).alloc (I5 V S T p))
 have HBL:Hid (w.heap.size<(w.alloc (I5 V S T p)).heap.size):=q9 (by simp)
 generalize hwb:w.heap.size=b at HT HBL |-;generalize hW:w.alloc (I5 V S T p)=W at HT HA0 HO0 HBL |-;clear hW;have htb:=Qm b V S T p;obtain⟨y0,y1,y2,y3,y4,y5⟩:=HT.cells;have hlt:=HT.lt;have HTd:=q9 HT.drew;have HAd:=q9 HA0.drew;have HOd:=q9 HO0.drew
 go_region_held3 (fun W=>TB W b V S T p) (first|(with_reducible assumption)|(with_reducible exact TB.below (by assumption) hb1)|(with_reducible exact TB.only (by assumption) (Hid.out (by assumption:Hid (TM _ V S T p gb cap (m) g))) O2)|(with_reducible exact TB.only (by assumption) (Hid.out (by assumption:Hid (TM _ V S T p gb cap (m+1) g))) O2)|(with_reducible exact HTd.out))
  (first
   |(go_at_call 98;((with_reducible refine(QbW (Hid.out (by assumption:Hid (TM _ V S T p gb cap (m) g))) HX.out HM.out).mono ?_);rintro e w2 ⟨rfl,A2,O2⟩;have HA2:=q9 A2;have HO2:=q9 (Only.trans (Hid.out (by assumption:Hid (Only p gb w _))) O2);rw[HCC.out]))
   |(go_at_call 149;((with_reducible refine(Qlq (Hid.out (by assumption:Hid (TM _ V S T p gb cap (m+1) g))) HX3.out HM1.out).mono ?_);rintro e w2 ⟨rfl,A2,O2⟩;have HA3:=q9 A2;have HO3:=q9 (Only.trans (Hid.out (by assumption:Hid (Only p gb w _))) O2);rw[HI0.out];have HT3:=q9 (TB.only (by assumption) (Hid.out (by assumption:Hid (TM _ V S T p gb cap (m+1) g))) O2))))
 all_goals
  clear HT HA0 HO0 HTd HAd HOd HA2 HO2 y0 y1 y2 y3 y4 y5 hlt;obtain⟨y0,y1,y2,y3,y4,y5⟩:=HT3.cells;have hlt:=HT3.lt;go_wp2_with fail
  have HTd:=q9 HT3.drew;have HAd:=q9 HA3.drew;have HOd:=q9 HO3.drew
  go_region_held3 (fun W=>TB W b V S T p) (first|(with_reducible assumption)|(with_reducible exact TB.below (by assumption) hb1)|(with_reducible exact TB.only (by assumption) (Hid.out (by assumption:Hid (TM _ V S T p gb cap (m+1+1) g))) O2)|(with_reducible exact TB.only (by assumption) (Hid.out (by assumption:Hid (TM _ V S T p gb cap (m+3) g))) O2)|(with_reducible exact HTd.out))
   (first
    |(go_at_call 118;((with_reducible refine(Qey (Hid.out (by assumption:Hid (TM _ V S T p gb cap (m+1+1) g))) HX.out HM2.out).mono ?_);rintro e w2 ⟨rfl,A2,O2⟩;have HA2:Hid (TM w2 V S T p gb cap (m+3) g):=q9 A2;have HO2:=q9 (Only.trans (Hid.out (by assumption:Hid (Only p gb w _))) O2)))
    |(go_at_call 117;((with_reducible refine(tup (Hid.out (by assumption:Hid (TM _ V S T p gb cap (m+3) g))) HX2.out HC.out HL.out HM3.out).mono ?_);rintro e w2 ⟨v,rfl,hli,_,A2,O2⟩;obtain⟨av,vc,rfl,hv1,hv2⟩:=hli.shape;have HLI:=q9 hli;have HA4:=q9 A2;have HO4:=q9 (Only.trans (Hid.out (by assumption:Hid (Only p gb w _))) O2);have HT4:=q9 (TB.only (by assumption) (Hid.out (by assumption:Hid (TM _ V S T p gb cap (m+3) g))) O2))))
  all_goals
   have HRel:Hid (QnK w b V S T p gb cap (m+3+nN V S) g E (.slice av l.length vc) l (I 0) (I (i0:Int)) (I (x:Int)) _):=q9 ⟨[],l,i0,x,rfl,rfl,rfl,rfl,by have:=HIL.out;simp;omega,HE0.out,HLN.out,HLI.out,HT4.out,HA4.out,HO4.out⟩
   clear HT3 HA3 HO3 HTd HAd HOd HT4 HA4 HO4 HA2 HO2 HLI y0 y1 y2 y3 y4 y5 hlt hv1 hv2 hli A2 O2;go_wp2_with fail
   go_loopw [22,5,6] (fun k i f wr=>QnK w b V S T p gb cap (m+3+nN V S) g E (.slice av l.length vc) l k i f wr) (fun k _ _ _=>l.length-(intOf k).toNat)
   case atStart=>exact HRel.out
   case round=>
    clear HRel;obtain⟨done,rest,iN,fN,hl0,rfl,rfl,rfl,hiN,hgE,hyn,hli,hT,hA,hO⟩:=hrel;have HT:=q9 hT;have HA0:=q9 hA;have HO0:=q9 hO;obtain⟨y0,y1,y2,y3,y4,y5⟩:=hT.cells;have hlt:=hT.lt;have HLI:=q9 hli;clear hT hA hO;have hll:=HL.out
    cases rest with
    |nil=>
     rw[List.append_nil] at hl0;have HE:Hid (iN=E):=q9 hgE
     have hd:done.length=l.length:=by rw[hl0]
     clear hgE hli hl0 hyn;rw[hd] at HA0 |-;clear hd;go_wp2_with fail
     go_ret
     exact⟨by rw[<-HE.out];rfl,HA0.more (by omega),HO0.out⟩
    |cons y rest=>
     have hjl:done.length<l.length:=by rw[hl0];simp
     obtain⟨b1,off,cp,e,_,_,_,hcells⟩:=hli.open_ (by intro e;rw[e] at hjl;simp at hjl)
     cases e
     have hcj:=hcells done.length y (by rw[hl0];simp)
     have HYN:=q9 (hyn y (by simp))
     have HYR:Hid (∀ z∈rest,z<=nN V S):=q9 fun z hz=>hyn z (by simp [hz])
     have HGE:=q9 hgE
     have HL0:=q9 (show l=(done++[y])++rest by rw[hl0];simp)
     have H3N:=q9 (HA0.b HYN.out).2.1;obtain⟨l3,h3⟩:∃ l3,g y 3=l3:=⟨_,rfl⟩;obtain⟨l4,h4⟩:∃ l4,g y 4=l4:=⟨_,rfl⟩;have H3:=q9 h3;have H4:=q9 h4;rw[h3] at H3N;obtain⟨z,hz⟩:∃ z,nS (g l3 6)=z:=⟨_,rfl⟩;have HZ:=q9 hz
     have hz65:(z:Int)<=65535:=by rw[<-hz];have:=Qir (g l3 6);omega
     have hi40:(iN:Int)<=65536*(1+(done.length:Int)):=by omega
     have hd560:(done.length:Int)<=560:=by omega
     obtain⟨M,hM⟩:∃ M,m+3+nN V S+3*done.length=M:=⟨_,rfl⟩;have HMM:=q9 hM;rw[hM] at HA0
     have hM1:M<=99990000:=by omega
     clear hcells hl0 hyn hgE hli h3 h4 hz hM;go_wp2_with fail
     refine(Qdv HA0 HYN (by omega)).mono ?_;rintro e w3 ⟨rfl,A3,O3⟩;rw[H3.out,H4.out]
     have HT3:=q9 ((HT.only HA0.out O3).alloc (.cells #[I (l3:Int),I (l4:Int)] 72));have HA3:=q9 (A3.alloc (.cells #[I (l3:Int),I (l4:Int)] 72));have HO3:=q9 ((HO0.trans O3).alloc (.cells #[I (l3:Int),I (l4:Int)] 72));have HLI3:=q9 ((HLI.onlyT HA0.out O3).alloc (.cells #[I (l3:Int),I (l4:Int)] 72));have z0:=(HT.only HA0.out O3).cells;have zlt:=(HT.only HA0.out O3).lt;clear A3 O3 HT HA0 HO0 HLI y0 y1 y2 y3 y4 y5 hlt hcj;obtain⟨y0,y1,y2,y3,y4,y5⟩:=z0
     by_cases hf:l4=fN
     . subst hf
       have HE4:Hid ((if g y 4=l4 then iN+(nS (g (g y 3) 6)+1) else iN)=iN+(z+1)):=q9 (by rw[if_pos H4.out,H3.out,HZ.out])
       go_wp2_with fail
       refine(Qlq HA3 H3N (by omega)).mono ?_;rintro e w4 ⟨rfl,A4,O4⟩;rw[HZ.out]
       have HT4:=q9 (HT3.only HA3.out O4);have HLI4:=q9 (HLI3.onlyT HA3.out O4);have HA4:=q9 A4;have HO4:=q9 (HO3.trans O4);clear A4 O4;go_wp2_with fail
       go_roundw
       case rel=>exact⟨done++[y],rest,iN+(z+1),y,HL0.out,by simp,by simp,rfl,by simp;omega,by rw[<-HE4.out];exact HGE.out,HYR.out,HLI4.out,HT4.out,by rw[List.length_append,List.length_singleton,show m+3+nN V S+3*(done.length+1)=M+2+1 by rw[<-HMM.out];omega];exact HA4,HO4⟩
       case measure=>simp [intOf];omega
     . have HE4:Hid ((if g y 4=fN then iN+(nS (g (g y 3) 6)+1) else iN)=iN):=q9 (if_neg (by rw[H4.out];exact hf))
       have hfI:((l4:Int)==(fN:Int))=false:=beq_eq_false_iff_ne.2 (by omega)
       go_wp2_with fail
       go_roundw
       case rel=>exact⟨done++[y],rest,iN,y,HL0.out,by simp,by simp,rfl,by simp;omega,by have:=HGE.out;unfold idxG at this;rw[HE4.out] at this;exact this,HYR.out,HLI3.out,HT3.out,by rw[List.length_append,List.length_singleton,show m+3+nN V S+3*(done.length+1)=M+2+1 by rw[<-HMM.out];omega];exact HA3.more (by omega),HO3⟩
       case measure=>simp [intOf];omega
end
theorem Qh3 (s:Nat)(W:World):(Instr.field 150 (vSm s) 3).run Tryz.prog W=.ok (I2 (aS s:Int)) W:=by kernel_rfl
theorem Qe0 {mk:Nat->Nat}{k:Nat}(hk:k<2)(hm:∀ x,mk x<4)(l:List Nat):l.any (mbit mk k)=hasB (allM mk l) k:=(Qjn hk hm l).symm
theorem Qfv {vx:Nat->Bool}{mk:Nat->Nat}{g:Mg9}(hm:∀ x,mk x<4)(h0:∀ k,g 0 k=0){t:Tp}(h:Qe vx mk g t)(hz:t.size<65536):aS (g t.root 6)=allM mk t.row:=by
 rw[h.sum h0];exact(Qal hm t hz).2.2
section
variable {V S T:Int}{g:Mg9}{w w' w0:World}{p gb cap m:Nat}
def QkZ (w0:World)(b:Nat)(V S T:Int)(p gb cap m:Nat)(g:Mg9)(mk:Nat->Nat)(F q:Nat)(k i:Value)(W:World):Prop:=
 ∃ j t,j<=nN V S/\k=I ((j:Nat):Int)/\i=I ((t.root:Nat):Int)/\Qe (vxN V) mk g t/\t.size+j<=nN V S/\(∀ y∈t.row,y≠0/\y<=nN V S)/\Qx mk q t.row=F/\TB W b V S T p/\TM W V S T p gb cap (m+4*j) g/\Only p gb w0 W
theorem Qbp {n:Nat}{t:Tp}(h:∀ y∈t.row,y≠0/\y<=n):t.root<=n:=by
 by_cases h0:t.root=0
 . omega
 . exact(h _ (Tp.root_mem h0)).2
set_option maxHeartbeats 4000000 in
theorem QmO (A:TM w V S T p gb cap m g){t0:Tp}{k:Nat}{mk:Nat->Nat}(hmk:∀ x,mk x<4)(hk:k<2)(hL:Qe (vxN V) mk g t0)(hz:t0.size<=nN V S)(hn:∀ y∈t0.row,y≠0/\y<=nN V S)(hm:m<=99980000):
 Calls Tryz.prog 46 #[vTr V S T p,I (t0.root:Int),I (k:Int)] w (Did V S T p gb cap (m+4*nN V S) g (I (Qx mk k t0.row:Int)) w):=by
 have hn560:=Ql A.hR;have HX:=q9 (Qbp hn);have HA:=q9 A;have HR:=q9 A.hR;have HNI:=q9 (Q0 A.hR);have HK:=q9 hk;have HMK:=q9 hmk;have HZ0:=q9 A.z;obtain⟨F,hF⟩:∃ F,Qx mk k t0.row=F:=⟨_,rfl⟩;rw[hF];have HP0:Hid (Qe (vxN V) mk g t0/\t0.size<=nN V S/\(∀ y∈t0.row,y≠0/\y<=nN V S)/\Qx mk k t0.row=F):=q9 ⟨hL,hz,hn,hF⟩
 have HFIN:Hid (∀ t:Tp,t.size=0->Qx mk k t.row=F->F=0):=q9 fun t h1 h2=>by
  have:t.row=[]:=List.eq_nil_of_length_eq_zero h1;rw[this] at h2;exact h2.symm
 clear hL hz hn hF A hk hmk
 go_enter Tryz.func46,Tryz.ntmps46
 go_wp2_with fail
 have HT:Hid (TB (w.alloc (I5 V S T p)) w.heap.size V S T p):=q9 (TB.new _ _ _ _ _);have HA0:=q9 (HA.alloc (I5 V S T p));have HO0:=q9 ((Only.refl p gb w).alloc (I5 V S T p))
 have HBL:Hid (w.heap.size<(w.alloc (I5 V S T p)).heap.size):=q9 (by simp)
 generalize hwb:w.heap.size=b at HT HBL |-;generalize hW:w.alloc (I5 V S T p)=W at HT HA0 HO0 HBL |-;clear hW;have htb:=Qm b V S T p;obtain⟨y0,y1,y2,y3,y4,y5⟩:=HT.cells;have hlt:=HT.lt;have HTd:=q9 HT.drew;have HAd:=q9 HA0.drew;have HOd:=q9 HO0.drew
 go_region_held3 (fun W=>TB W b V S T p) (first|(with_reducible assumption)|(with_reducible exact TB.below (by assumption) hb1)|(with_reducible exact HTd.out))
  (first
   |(go_at_call 96;((with_reducible refine(Qda HK.out _).mono ?_);rintro e w2 ⟨rfl,rfl⟩))
   |(go_at_call 97;((with_reducible refine(Qar HR.out HX.out p _).mono ?_);rintro e w' ⟨rfl,hb1⟩;have HA1:=q9 (TM.below (Hid.out (by assumption:Hid (TM _ V S T p gb cap (m) g))) hb1);have HO1:=q9 (Only.trans (Hid.out (by assumption:Hid (Only p gb w _))) (Only.of_below hb1));have HT1:=q9 (TB.below (by assumption) hb1))))
 all_goals
  clear HT HA0 HO0 HTd HAd HOd y0 y1 y2 y3 y4 y5 hlt hwb;obtain⟨y0,y1,y2,y3,y4,y5⟩:=HT1.cells;have hlt:=HT1.lt;go_wp2_with fail
  refine(Q3 V S T HR _).mono ?_;rintro e w3 ⟨rfl,hb3⟩;rw[<-HNI.out];have HRel:Hid (QkZ w b V S T p gb cap m g mk F k (I 0) (I (t0.root:Int)) w3):=q9 ⟨0,t0,Nat.zero_le _,rfl,rfl,HP0.1,HP0.2.1,HP0.2.2.1,HP0.2.2.2,HT1.below hb3,HA1.below hb3,HO1.trans (Only.of_below hb3)⟩;clear hb3 HT1 HA1 HO1 y0 y1 y2 y3 y4 y5 hlt HP0;go_wp2_with fail
  go_loopw [19,8] (fun k9 i wr=>QkZ w b V S T p gb cap m g mk F k k9 i wr) (fun k9 _ _=>nN V S-(intOf k9).toNat)
  case atStart=>exact HRel.out
  case round=>
   clear HRel;obtain⟨j,t,hj,rfl,rfl,hLo,hsz,hnn,hF,hT,hA,hO⟩:=hrel;have HT:=q9 hT;have HA0:=q9 hA;have HO0:=q9 hO;obtain⟨y0,y1,y2,y3,y4,y5⟩:=hT.cells;have hlt:=hT.lt;clear hT hA hO
   by_cases hjl:j<nN V S
   . have HLo:=q9 hLo
     have HSZ:=q9 hsz;have HNN:=q9 hnn;have HF:=q9 hF;have HXN:=q9 (Qbp hnn)
     have HP1:Hid (aS (g t.root 6)=allM mk t.row):=q9 (Qfv HMK.out HZ0.out hLo (by omega))
     obtain⟨x,hx⟩:∃ x,t.root=x:=⟨_,rfl⟩;have HXR:=q9 hx;rw[hx] at HXN HP1;rw[hx];obtain⟨lc,hlc⟩:∃ lc,g x 3=lc:=⟨_,rfl⟩;have HLC:=q9 hlc
     have HLN:Hid (lc<=nN V S):=q9 (by rw[<-hlc];exact(HA0.b HXN).2.1)
     obtain⟨s,hs⟩:∃ s,g x 6=s:=⟨_,rfl⟩;have HS:=q9 hs;obtain⟨s2,hs2⟩:∃ s2,g lc 6=s2:=⟨_,rfl⟩;have HS2:=q9 hs2;rw[hs] at HP1;obtain⟨Z1,z1⟩:∃ Z1,bits .and .u64 (aS s:Int) (bt k:Int)=Z1:=⟨_,rfl⟩;obtain⟨Z2,z2⟩:∃ Z2,bits .and .u64 (aS s2:Int) (bt k:Int)=Z2:=⟨_,rfl⟩;obtain⟨Z3,z3⟩:∃ Z3,bits .and .u64 (oS s:Int) (bt k:Int)=Z3:=⟨_,rfl⟩
     have HZ1:Hid ((Z1==0)=!hasB (aS s) k):=q9 (by rw[<-z1];exact Qg0 (Qgu s) HK)
     have HZ2:Hid ((Z2==0)=!hasB (aS s2) k):=q9 (by rw[<-z2];exact Qg0 (Qgu s2) HK)
     have HZ3:Hid ((Z3==0)=!hasB (oS s) k):=q9 (by rw[<-z3];exact Qg0 (Qgb s) HK)
     have fl:=Qh3 s2;obtain⟨M,hM⟩:∃ M,m+4*j=M:=⟨_,rfl⟩;have HMM:=q9 hM;rw[hM] at HA0
     have hM1:M<=99990000:=by omega
     clear hLo hsz hnn hF hx hlc hs hs2 hM;go_wp2_with fail
     refine(QbW HA0 HXN (by omega)).mono ?_;rintro e w4 ⟨rfl,A4,O4⟩;rw[HLC.out]
     have HT4:=q9 (HT.only HA0.out O4);have HA4:=q9 A4;have HO4:=q9 (HO0.trans O4);clear A4 O4 HT HA0 HO0 y0 y1 y2 y3 y4 y5 hlt;obtain⟨y0,y1,y2,y3,y4,y5⟩:=HT4.cells;have hlt:=HT4.lt;go_wp2_with fail
     refine(tsum HA4 HXN (by omega)).mono ?_;rintro e w5 ⟨rfl,A5,O5⟩;rw[HS.out]
     have zz:=(HT4.only HA4.out O5).cells;have zlt:=(HT4.only HA4.out O5).lt;have HT5:=q9 ((HT4.only HA4.out O5).alloc (.cells #[I2 (nS s:Int),I2 (vS s:Int),I2 (oS s:Int),I2 (aS s:Int)] 150));have HA5:=q9 (A5.alloc (.cells #[I2 (nS s:Int),I2 (vS s:Int),I2 (oS s:Int),I2 (aS s:Int)] 150));have HO5:=q9 ((HO4.trans O5).alloc (.cells #[I2 (nS s:Int),I2 (vS s:Int),I2 (oS s:Int),I2 (aS s:Int)] 150));clear A5 O5 HT4 HA4 HO4 y0 y1 y2 y3 y4 y5 hlt;obtain⟨y0,y1,y2,y3,y4,y5⟩:=zz
     by_cases hZ1:Z1=0
     ·
      have HE:Hid (F=0):=q9 (by
       have h1:=HZ1.out;rw[hZ1,HP1.out,<-Qe0 HK.out HMK.out] at h1
       have h2:t.row.any (mbit mk k)=false:=by simpa using h1.symm
       rw[<-HF.out];exact QdL mk k h2)
      rw[hZ1] at z1;clear hZ1 HZ1 HZ2 HZ3 z2 z3;go_wp2_with fail
      rw[HE.out];go_ret
      exact⟨rfl,HA5.more (by have:=HMM.out;omega),HO5.out⟩
     . cases t with
       |nil=>
        exfalso
        apply hZ1
        have h1:=HZ1.out;rw[HP1.out] at h1
        have h2:hasB (allM mk Tp.nil.row) k=false:=by rw[<-Qe0 HK.out HMK.out];rfl
        rw[h2] at h1;simpa using h1
       |node l x' r=>
        have hxx:x'=x:=HXR.out;subst hxx;obtain⟨q3,q4,q6,_,_,hLl,hLr⟩:=HLo.out
        have elc:lc=l.root:=by rw[<-HLC.out,q3]
        have HSZn:Hid (l.size+1+r.size+j<=nN V S):=q9 (by have:=HSZ.out;rw[Tp.size_node] at this;exact this)
        have HLl:=q9 hLl;have HLr:=q9 hLr;have HLF:Hid (Qx mk k (l.row++x' :: r.row)=F):=HF
        have HN1:Hid (∀ y∈l.row,y≠0/\y<=nN V S):=q9 fun y hy=>HNN.out y (by simp [Tp.row,hy])
        have HN2:Hid (∀ y∈r.row,y≠0/\y<=nN V S):=q9 fun y hy=>HNN.out y (by simp [Tp.row,hy])
        have HQ4:=q9 q4
        have HQ2:Hid ((Z2==0)=!l.row.any (mbit mk k)):=q9 (by rw[HZ2.out,<-HS2.out,elc,Qfv HMK.out HZ0.out hLl (by have:=HSZn.out;omega),Qe0 HK.out HMK.out])
        have HQ3:Hid ((Z3==0)=!mbit mk k x'):=q9 (by
         rw[HZ3.out,<-HS.out,q6,Qch HMK.out (by have:=HSZ.out;omega)];rfl)
        have HELC:=q9 elc;clear q3 q4 q6 hLl hLr HLo HF HNN HXR HZ1 HZ2 HZ3 HP1 HSZ elc;go_wp2_with fail
        refine(tsum HA5 HLN (by omega)).mono ?_;rintro e w6 ⟨rfl,A6,O6⟩;rw[HS2.out]
        have HT6:=q9 (HT5.only HA5.out O6)
        have HBs:=q9 ((Blk.new w5 _ _:Blk (w5.alloc (.cells #[I2 (nS s:Int),I2 (vS s:Int),I2 (oS s:Int),I2 (aS s:Int)] 150)) w5.heap.size 150 _).treap HA5.out O6 (by decide) (by decide))
        have HA6:=q9 A6;have HO6:=q9 (HO5.trans O6);clear A6 O6 HT5 HA5 HO5 y0 y1 y2 y3 y4 y5 zlt;obtain⟨y0,y1,y2,y3,y4,y5⟩:=HT6.cells;have hlt:=HT6.lt;have bs2:w6.cell? (I1 w5.heap.size 2)=some (I2 (oS s:Int)):=HBs.cell 2;have bslt:=HBs.lt
        by_cases hZ2:Z2=0
        . have hq2:l.row.any (mbit mk k)=false:=by
           have:=HQ2.out;rw[hZ2] at this;simpa using this.symm
          have HF2:Hid (Qx mk k (x' :: r.row)=F):=q9 (by have:=HLF.out;rw[QcX,hq2] at this;simpa using this)
          rw[hZ2] at z2
          by_cases hZ3:Z3=0
          . have hq3:mbit mk k x'=false:=by have:=HQ3.out;rw[hZ3] at this;simpa using this.symm
            have HF3:Hid (Qx mk k r.row=F):=q9 (by have:=HF2.out;simp only[Qx,hq3] at this;exact this)
            rw[hZ3] at z3;clear hZ2 hZ3 hq2 hq3 HQ2 HQ3 HLF HF2;go_wp2_with fail
            refine(Qdw HA6 HXN (by omega)).mono ?_;rintro e w7 ⟨rfl,A7,O7⟩;rw[HQ4.out]
            have hRel:Hid (QkZ w b V S T p gb cap m g mk F k (I ((j+1:Nat):Int)) (I (r.root:Int)) w7):=q9 ⟨j+1,r,hjl,rfl,rfl,HLr.out,by have:=HSZn.out;omega,HN2.out,HF3.out,HT6.only HA6.out O7,by rw[show m+4*(j+1)=M+1+1+1+1 by rw[<-HMM.out];omega];exact A7,HO6.trans O7⟩
            clear A7 O7;go_wp2_with fail
            go_roundw
            case rel=>exact hRel.out
            case measure=>simp [intOf];omega
          . have hq3:mbit mk k x'=true:=by
             have:=HQ3.out;rw[show (Z3==0)=false from beq_eq_false_iff_ne.2 hZ3] at this;simpa using this.symm
            have HE:Hid (F=x'):=q9 (by have:=HF2.out;simp only[Qx,hq3,if_true] at this;exact this.symm)
            clear hZ2 hq2 hq3 HQ2 HQ3 HLF HF2;go_wp2_with fail
            rw[HE.out];go_ret
            exact⟨rfl,HA6.more (by have:=HMM.out;omega),HO6.out⟩
        . have hq2:l.row.any (mbit mk k)=true:=by
           have:=HQ2.out;rw[show (Z2==0)=false from beq_eq_false_iff_ne.2 hZ2] at this;simpa using this.symm
          have HF3:Hid (Qx mk k l.row=F):=q9 (by have:=HLF.out;rw[QcX,hq2] at this;simpa using this)
          have hRel:Hid (QkZ w b V S T p gb cap m g mk F k (I ((j+1:Nat):Int)) (I (lc:Int)) w6):=q9 ⟨j+1,l,hjl,rfl,by rw[HELC.out],HLl.out,by have:=HSZn.out;omega,HN1.out,HF3.out,HT6.out,by rw[show m+4*(j+1)=M+1+1+1+1 by rw[<-HMM.out];omega];exact HA6.more (by omega),HO6⟩
          clear hq2 HQ2 HQ3 HLF;go_wp2_with fail
          go_roundw
          case rel=>exact hRel.out
          case measure=>simp [intOf];omega
   . have HE:=q9 (HFIN.out t (by omega) hF)
     have hjI:¬ (j:Int)<(nN V S:Int):=by omega
     clear hLo hsz hnn hF;go_wp2_with fail
     rw[HE.out];go_ret
     exact⟨rfl,HA0.more (by omega),HO0⟩
end
theorem QiO:(Tryz.prog.info? 191).map (fun i=>(i.zero,i.size,i.bytes))=some (some (.agg #[I 0,I 0]),2,16):=by kernel_rfl
def sd (rt:Bool):Nat:=if rt then 4 else 3
def flF (f:Fr):List Value:=[I (f.x:Int),I (sd f.rt:Int)]
def QdI (l:List Fr):List Value:=l.flatMap flF
theorem QfC:∀ (l:List Fr) {k:Nat} {f:Fr},l[k]?=some f->(QdI l)[k*2]?=some (I (f.x:Int))/\(QdI l)[k*2+1]?=some (I (sd f.rt:Int))
 |[],k,f,h=>by simp at h
 |e :: l,0,f,h=>by simp at h;subst h;exact⟨rfl,rfl⟩
 |e :: l,k+1,f,h=>by
  have ih:=QfC l (k:=k) (f:=f) (by simpa using h)
  have e1:QdI (e :: l)=flF e++QdI l:=by simp [QdI]
  rw[e1];have l2:(flF e).length=2:=rfl
  rw[List.getElem?_append_right (by omega),List.getElem?_append_right (by omega),l2,show (k+1)*2-2=k*2 by omega,show (k+1)*2+1-2=k*2+1 by omega]
  exact ih
theorem QhA (l:List Fr)(f:Fr):QdI (l++[f])=QdI l++flF f:=by simp [QdI]
def RowW (w:World)(base:Nat)(v:Value)(l:List Fr):Prop:=w.ownsRow base 191 2 v l.length (QdI l)
section
variable {w w':World}{base:Nat}{v:Value}{l:List Fr}
theorem RowW.nil (w:World)(base:Nat):RowW w base (.slice none 0 0) []:=World.ownsRow_nil _ _ _ _
theorem RowW.kept_of (h:RowW w base v l)(hb:∀ i,v.ownBlock=some i->w'.heap[i]?=w.heap[i]?):RowW w' base v l:=by
 refine⟨h.1,?_⟩
 rcases h.2 with hn|⟨g,cap,cur,rfl,hg,hgg,rest⟩
 . exact .inl hn
 . exact .inr ⟨g,cap,cur,rfl,hg,(hb g rfl).trans hgg,rest⟩
theorem RowW.lt (h:RowW w base v l):∀ k,v.ownBlock=some k->base<=k/\k<w.heap.size:=World.ownsRow.lt h
theorem RowW.drew (h:RowW w base v l):RowW w.drew base v l:=h
theorem RowW.alloc (h:RowW w base v l)(o:Obj):RowW (w.alloc o) base v l:=World.ownsRow.alloc h o
theorem RowW.below (h:RowW w base v l)(hb:Below w.heap.size w w'):RowW w' base v l:=h.kept_of fun i hi=>hb.block i (h.lt i hi).2
theorem RowW.shape (h:RowW w base v l):(v=.slice none 0 0/\l=[])\/∃ g cap cs,v=I3 (I1 g 0) l.length cap/\base<=g/\Blk w g 191 cs/\l.length<=cap/\cap<=maxLen/\
 ∀ (k:Nat) (f:Fr),l[k]?=some f->cs[k*2]?=some (I (f.x:Int))/\cs[k*2+1]?=some (I (sd f.rt:Int)):=by
 rcases h.2 with ⟨rfl,h0⟩|⟨g,cap,cur,rfl,hg,hgg,h1,h2,h3,h4⟩
 . exact .inl ⟨rfl,List.eq_nil_of_length_eq_zero h0⟩
 . refine .inr ⟨g,cap,cur,rfl,hg,hgg,h1,h2,fun k x hx=>?_⟩
   have hf:=QfC l hx;have hk:=(List.getElem?_eq_some_iff.1 hx).1
   have he:∀ j,j<l.length*2->cur[j]?=(QdI l)[j]?:=fun j hj=>by
    rw[<-h4,List.getElem?_take_of_lt hj,Array.getElem?_toList]
   rw[he _ (by omega),he _ (by omega)]
   exact hf
theorem RowW.slice (h:RowW w base v l):∃ a cap,v=.slice a l.length cap:=by
 rcases h.shape with ⟨rfl,rfl⟩|⟨g,cap,cs,rfl,_⟩
 . exact⟨none,0,rfl⟩
 . exact⟨_,cap,rfl⟩
theorem RowW.ne_blk (h:RowW w base v l){i:Nat}{ty:TypeId}{cs:Array Value}(hi:Blk w i ty cs)(hty:191≠ty):v.ownBlock≠some i:=by
 intro e
 rcases h.shape with ⟨rfl,_⟩|⟨g,cap,zs,rfl,_,hz,_⟩
 . cases e
 . cases e;exact hz.ne_ hi hty rfl
theorem RowW.onlyT {V S T:Int}{p gb cap m:Nat}{g:Mg9}(h:RowW w base v l)(A:TM w V S T p gb cap m g)(ho:Only p gb w w'):RowW w' base v l:=by
 obtain⟨⟨_,h3⟩,⟨_,h4⟩⟩:=A.blk
 exact h.kept_of fun i hi=>ho.block i (h.lt i hi).2 (fun e=>h.ne_blk h3 (by decide) (e ▸ hi)) (fun e=>h.ne_blk h4 (by decide) (e ▸ hi))
theorem RowW.ne_t {V S T:Int}{p gb cap m:Nat}{g:Mg9}(h:RowW w base v l)(A:TM w V S T p gb cap m g):v.ownBlock≠some p/\v.ownBlock≠some gb:=by
 obtain⟨⟨_,h3⟩,⟨_,h4⟩⟩:=A.blk
 exact⟨h.ne_blk h3 (by decide),h.ne_blk h4 (by decide)⟩
theorem QU (w:World){ops:Array Oper}{rest:List Oper}{o:Oper}{a:Act}{Q:Exit->Act->World->Prop}(hgd:o.guard=none)(s x:Operand)
 (ho:o.op=.call { callee:=.builtin .append,args:=#[s,x],argTypes:=#[184,184]})
 {v:Value} {l:List Fr} {base:Nat} (hs:a.eval s=v) (h:RowW w base v l) (f:Fr) (ad:Addr) (c:Nat) (hx:a.eval x=.slice (some ad) 1 c) (hc0:w.cell? (ad.add 0)=some (I (f.x:Int))) (hc1:w.cell? (ad.add 1)=some (I (sd f.rt:Int))) (hl:l.length<=100000) (hb:base<=w.heap.size)
 (hK:∀ v' w',RowW w' base v' (l++[f])->w.grownBy w' v.ownBlock->wpList Tryz.prog ops Q rest (a.put o.dst v') w'):wpList Tryz.prog ops Q (o :: rest) a w:=by
 obtain⟨i0,hi0,hz0,hz1,hz2⟩:=info_parts QiO
 refine wpList_append_own_at w hgd s x 184 ho base 191 i0 _ 2 16 Tryz.underlying184 hi0 hz0 hz1 hz2 rfl (by omega) v l.length (QdI l) hs h ad 1 c (flF f) hx rfl ?_ ?_ (by simp only[maxLen];omega) (by omega) hb ?_
 . intro j u hj
   match j,hj with
   |0,hj=>simp [flF] at hj;subst hj;exact hc0
   |1,hj=>simp [flF] at hj;subst hj;exact hc1
   |j+2,hj=>simp [flF] at hj
 . intro u hu;simp [flF] at hu;rcases hu with rfl|rfl<;>rfl
 . intro v' w' h1 h2 _ _
   refine hK v' w' ?_ h2;unfold RowW;rw[List.length_append,List.length_singleton,QhA];exact h1
end
theorem Qka (w:World)(a b:Value)(t:TypeId){k:Nat}(hk:k=w.heap.size):(w.alloc (.cells #[a,b] t)).cell? (((I1 k 0):Addr).add 0)=some a:=by
 subst hk;rw[Addr.add_lit];exact(Blk.new w t #[a,b]).cell 0
theorem Qj9 (w:World)(a b:Value)(t:TypeId){k:Nat}(hk:k=w.heap.size):(w.alloc (.cells #[a,b] t)).cell? (((I1 k 0):Addr).add 1)=some b:=by
 subst hk;rw[Addr.add_lit];exact(Blk.new w t #[a,b]).cell 1
section
variable {V S T:Int}{g:Mg9}{w w' w0:World}{p gb cap m:Nat}
def QkT (w0:World)(b:Nat)(V S T:Int)(p gb cap m:Nat)(g:Mg9)(mk:Nat->Nat)(L:List Fr)(v i k:Value)(W:World):Prop:=
 ∃ done t kk,L=done++wayT kk t/\i=I ((t.root:Nat):Int)/\k=I kk/\-9223372036854775808<=kk/\kk<=9223372036854775807/\RowW W w0.heap.size v done/\Qe (vxN V) mk g t/\done.length+t.size<=nN V S/\(∀ y∈t.row,y≠0/\y<=nN V S)/\TB W b V S T p/\TM W V S T p gb cap (m+3*done.length) g/\Only p gb w0 W
def Qn9 (V S T:Int)(p gb cap m:Nat)(g:Mg9)(L:List Fr)(w:World)(e:Ending)(w':World):Prop:=
 ∃ v,e=.returned v/\RowW w' w.heap.size v L/\TM w' V S T p gb cap m g/\Only p gb w w'
set_option maxHeartbeats 4000000 in
theorem QmD (A:TM w V S T p gb cap m g){t0:Tp}{mk:Nat->Nat}{k0:Int}(hmk:∀ x,mk x<4)(hk1:-9223372036854775808<=k0)(hk2:k0<=9223372036854775807)(hL:Qe (vxN V) mk g t0)(hz:t0.size<=nN V S)(hn:∀ y∈t0.row,y≠0/\y<=nN V S)(hm:m<=99980000):
 Calls Tryz.prog 150 #[vTr V S T p,I (t0.root:Int),I k0] w (Qn9 V S T p gb cap (m+3*nN V S) g (wayT k0 t0) w):=by
 have hn560:=Ql A.hR;have HX:=q9 (Qbp hn);have HA:=q9 A;have HR:=q9 A.hR;have HNI:=q9 (Q0 A.hR);have HMK:=q9 hmk;have HZ0:=q9 A.z;have HP0:Hid (Qe (vxN V) mk g t0/\t0.size<=nN V S/\(∀ y∈t0.row,y≠0/\y<=nN V S)):=q9 ⟨hL,hz,hn⟩;obtain⟨L,hLL⟩:∃ L,wayT k0 t0=L:=⟨_,rfl⟩;rw[hLL];have HLL:=q9 hLL;clear hL hz hn A hmk hLL
 go_enter Tryz.func150,Tryz.ntmps150
 go_wp2_with fail
 have HT:Hid (TB (w.alloc (I5 V S T p)) w.heap.size V S T p):=q9 (TB.new _ _ _ _ _);have HA0:=q9 (HA.alloc (I5 V S T p));have HO0:=q9 ((Only.refl p gb w).alloc (I5 V S T p))
 have HBL:Hid (w.heap.size<(w.alloc (I5 V S T p)).heap.size):=q9 (by simp)
 generalize hwb:w.heap.size=b at HT HBL |-;generalize hW:w.alloc (I5 V S T p)=W at HT HA0 HO0 HBL |-;clear hW;have htb:=Qm b V S T p;obtain⟨y0,y1,y2,y3,y4,y5⟩:=HT.cells;have hlt:=HT.lt;refine(Qar HR HX p _).mono ?_;rintro e w1 ⟨rfl,hb1⟩
 have HRel:Hid (QkT w b V S T p gb cap m g mk L (.slice none 0 0) (I (t0.root:Int)) (I k0) w1):=q9 ⟨[],t0,k0,HLL.symm,rfl,rfl,hk1,hk2,RowW.nil _ _,HP0.1,by simpa using HP0.2.1,HP0.2.2,HT.below hb1,HA0.below hb1,HO0.trans (Only.of_below hb1)⟩
 clear hb1 HT HA0 HO0 y0 y1 y2 y3 y4 y5 hlt HP0 HLL HX hk1 hk2;go_wp2_with fail
 go_loopw [7,8,2] (fun v i k wr=>QkT w b V S T p gb cap m g mk L v i k wr) (fun v _ _ _=>1000-lenV v)
 case atStart=>exact HRel.out
 case round=>
  clear HRel;obtain⟨done,t,kk,hLd,rfl,rfl,hk1,hk2,hrow,hLo,hsz,hnn,hT,hA,hO⟩:=hrel;have HT:=q9 hT;have HA0:=q9 hA;have HO0:=q9 hO;have HRW:=q9 hrow;obtain⟨y0,y1,y2,y3,y4,y5⟩:=hT.cells;have hlt:=hT.lt;clear hT hA hO;obtain⟨av,vc,rfl⟩:=hrow.slice;clear hrow
  cases t with
  |nil=>
   have HE:Hid (L=done):=q9 (by rw[hLd];simp [wayT])
   have HSZ:Hid (done.length<=nN V S):=q9 (by omega)
   have hr0:((Tp.nil.root:Nat):Int)=0:=rfl;clear hLd hLo hsz hnn;rw[hr0];go_wp2_with fail
   go_ret;rw[HE.out]
   exact⟨_,rfl,HRW.out,HA0.more (by have:=HSZ.out;omega),HO0.out⟩
  |node l x r=>
   have hxn:=hnn x (by simp [Tp.row])
   have hsz':done.length+(l.size+1+r.size)<=nN V S:=by rw[Tp.size_node] at hsz;exact hsz
   obtain⟨q3,q4,_,_,_,hLl,hLr⟩:=hLo
   have hxI:¬ (x:Int)=0:=by omega
   have hd1:(done.length:Int)<nd V S:=by have:=HNI.out;omega
   have hd5:done.length<=100000:=by omega
   have hsl:nS (g l.root 6)=l.size:=by rw[hLl.sum HZ0.out];exact(Qal HMK l (by omega)).1
   have HXN:=q9 hxn.2;have HQ3:=q9 q3;have HQ4:=q9 q4;have HSL:=q9 hsl
   have HLN:Hid (l.root<=nN V S):=q9 (Qbp fun y hy=>hnn y (by simp [Tp.row,hy]))
   have HN1:Hid (∀ y∈l.row,y≠0/\y<=nN V S):=q9 fun y hy=>hnn y (by simp [Tp.row,hy])
   have HN2:Hid (∀ y∈r.row,y≠0/\y<=nN V S):=q9 fun y hy=>hnn y (by simp [Tp.row,hy])
   have HLl:=q9 hLl;have HLr:=q9 hLr;have HLd:=q9 hLd;obtain⟨M,hM⟩:∃ M,m+3*done.length=M:=⟨_,rfl⟩;have HMM:=q9 hM;rw[hM] at HA0
   have hM1:M<=99990000:=by omega
   have HM1:Hid (M<=100000000):=q9 (by omega)
   have HM2:Hid (M+1<=100000000):=q9 (by omega)
   obtain⟨z,hz⟩:∃ z,l.size=z:=⟨_,rfl⟩;have HZZ:=q9 hz;rw[hz] at hsz' HSL
   have hzI:(z:Int)<=560:=by omega
   have hxr:(((Tp.node l x r).root:Nat):Int)=(x:Int):=rfl;rw[hxr];clear hLd hnn hxn q3 q4 hLl hLr hsl hM hz hsz hxr;go_wp2_with fail
   refine(Q3 V S T HR _).mono ?_;rintro e w2 ⟨rfl,hb2⟩;have HT2:=q9 (HT.below hb2);have HA2:=q9 (HA0.below hb2);have HO2:=q9 (HO0.trans (Only.of_below hb2));have HRW2:=q9 (HRW.below hb2);clear hb2 HT HA0 HO0 HRW y0 y1 y2 y3 y4 y5 hlt;have hlt:=HT2.lt;obtain⟨y0,y1,y2,y3,y4,y5⟩:=HT2.cells;go_wp2_with fail
   have HTU:Hid (TU (w2.alloc (.cells #[I (x:Int),I 3] 191)) b w2.heap.size V S T p x 3):=q9 ⟨HT2.alloc _,Blk.new _ _ _⟩;have HA3:=q9 (HA2.alloc (.cells #[I (x:Int),I 3] 191));have HO3:=q9 (HO2.alloc (.cells #[I (x:Int),I 3] 191));have HRW3:=q9 (HRW2.alloc (.cells #[I (x:Int),I 3] 191));have HCB:Hid (w.heap.size<=w2.heap.size):=q9 HO2.size
   have HNC:Hid ((Value.slice av done.length vc).ownBlock≠some w2.heap.size):=q9 fun e=>by have:=(HRW2.lt _ e).2;omega
   clear HT2 HA2 HO2 HRW2 y0 y1 y2 y3 y4 y5;generalize hc9:w2.heap.size=c9 at HTU HCB HNC |-;generalize w2.alloc (.cells #[I (x:Int),I 3] 191)=W3 at HTU HA3 HO3 HRW3 |-;have htu:=QhT b c9 V S T p x 3;have HTd:=q9 HTU.drew;have HAd:=q9 HA3.drew;have HOd:=q9 HO3.drew;have HRd:=q9 HRW3.drew
   go_region_held3 (fun W=>TU W b c9 V S T p x ((3:Nat))) (first|(with_reducible assumption)|(with_reducible exact TU.below (by assumption) hb1)|(with_reducible exact TU.only (by assumption) (Hid.out (by assumption:Hid (TM _ V S T p gb cap (M) g))) O2)|(with_reducible exact TU.only (by assumption) (Hid.out (by assumption:Hid (TM _ V S T p gb cap (M+1) g))) O2)|(with_reducible exact HTd.out))
    (first
     |(go_at_call 98;((with_reducible refine(QbW (Hid.out (by assumption:Hid (TM _ V S T p gb cap (M) g))) HXN.out HM1.out).mono ?_);rintro e w2 ⟨rfl,A2,O2⟩;have HA4:=q9 A2;have HO4:=q9 (Only.trans (Hid.out (by assumption:Hid (Only p gb w _))) O2);rw[HQ3.out];have HR4:=q9 (RowW.onlyT HRd.out (Hid.out (by assumption:Hid (TM _ V S T p gb cap (M) g))) O2)))
     |(go_at_call 149;((with_reducible refine(Qlq (Hid.out (by assumption:Hid (TM _ V S T p gb cap (M+1) g))) HLN.out HM2.out).mono ?_);rintro e w2 ⟨rfl,A2,O2⟩;have HA5:=q9 A2;have HO5:=q9 (Only.trans (Hid.out (by assumption:Hid (Only p gb w _))) O2);rw[HSL.out];have HR5:=q9 (RowW.onlyT HR4.out (Hid.out (by assumption:Hid (TM _ V S T p gb cap (M+1) g))) O2);have HTU5:=q9 (TU.only (by assumption) (Hid.out (by assumption:Hid (TM _ V S T p gb cap (M+1) g))) O2))))
   all_goals
    clear htu htb HTU HA3 HO3 HRW3 HTd HAd HOd HRd HA4 HO4 HR4;have hws:w.heap.size<=w2.heap.size:=HO5.size
    have hneb:b≠c9:=Blk.ne_ HTU5.t HTU5.r (by decide)
    obtain⟨y0,y1,y2,y3,y4,y5⟩:=HTU5.t.cells;have hlt5:=HTU5.t.lt;have u0:=HTU5.r.cell 0;have u1:=HTU5.r.cell 1;have uf:=HTU5.r.frozen;have ult:=HTU5.r.lt
    by_cases hkz:(z:Int)<kk
    . have HW:Hid (L=(done++[⟨x,true,l⟩])++wayT (kk-(z+1)) r):=q9 (by
       rw[HLd.out]
       have:wayT kk (.node l x r)=⟨x,true,l⟩ :: wayT (kk-(l.size+1)) r:=by
        rw[wayT];exact if_pos (by rw[HZZ.out];exact hkz)
       rw[this,HZZ.out];simp)
      have HT6:Hid (TB (w2.setCell (I1 c9 1) (I 4)) b V S T p):=q9 (Blk.far HTU5.t hneb _);have HU6:Hid (Blk (w2.setCell (I1 c9 1) (I 4)) c9 191 #[I (x:Int),I 4]):=q9 (HTU5.r.set_ 1 (I 4))
      have HA6:Hid (TM (w2.setCell (I1 c9 1) (I 4)) V S T p gb cap (M+1+1) g):=q9 (HA5.far HTU5.r (by decide) (by decide) _)
      have HO6:Hid (Only p gb w (w2.setCell (I1 c9 1) (I 4))):=q9 (HO5.set_new HCB.out _)
      have HR6:Hid (RowW (w2.setCell (I1 c9 1) (I 4)) w.heap.size (.slice av done.length vc) done):=q9 (HR5.kept_of fun i hi=>Below.heap_setCell w2 (I1 c9 1) _ i (fun e=>HNC.out (by rw[hi,e])))
      have HNU:Hid ((Value.slice av done.length vc).ownBlock≠some c9):=HNC
      go_wp2_with (at_builtin;go_loud (refine QU _ rfl _ _ rfl rfl (HR6.alloc _) ⟨x,true,l⟩ (I1 w2.heap.size 0) 1 rfl (Qka _ _ _ _ (by simp)) (Qj9 _ _ _ _ (by simp)) hd5 (Nat.le_trans hws (by simp)) ?_))
      intro v' w7 hrw7 hg7;have HRa:=HR6.alloc (.cells #[I (x:Int),I 4] 191);have HAa:=HA6.alloc (.cells #[I (x:Int),I 4] 191);have HA7:=q9 (HAa.grown hg7 (HRa.ne_t HAa).1 (HRa.ne_t HAa).2)
      have HT7:Hid (TB w7 b V S T p):=q9 (Blk.grown (Blk.alloc HT6.out _) hg7 (HRa.ne_blk (Blk.alloc HT6.out (.cells #[I (x:Int),I 4] 191)) (by decide)))
      have HU7:=q9 (Blk.grown (HU6.alloc _) hg7 HNU.out)
      have HO7:=q9 ((HO6.alloc (.cells #[I (x:Int),I 4] 191)).grown hg7 fun i hi=>(HRa.lt i hi).1)
      have HR7:=q9 hrw7
      have hlen7:lenV v'=done.length+1:=by
       obtain⟨a',cap',e⟩:=hrw7.slice;rw[e];simp [lenV]
      clear hrw7 hg7 HRa HAa HT6 HU6 HA6 HO6 HR6 HTU5 HA5 HO5 HR5 y0 y1 y2 y3 y4 y5 u0 u1 uf ult hlt5;obtain⟨y0,y1,y2,y3,y4,y5⟩:=HT7.cells;have hlt7:=HT7.lt;have u1:w7.cell? (I1 c9 1)=some (I 4):=HU7.cell 1;have ult:=HU7.lt;go_wp2_with fail
      refine(Qdw HA7 HXN (by omega)).mono ?_;rintro e w8 ⟨rfl,A8,O8⟩;rw[HQ4.out]
      have hRel:Hid (QkT w b V S T p gb cap m g mk L v' (I (r.root:Int)) (I (kk-((z:Int)+1))) w8):=
       q9 ⟨done++[⟨x,true,l⟩],r,kk-((z:Int)+1),HW.out,rfl,rfl,by omega,by omega,(by rw[hwb];exact HR7.onlyT HA7.out O8),HLr.out,by rw[List.length_append,List.length_singleton];have:=HZZ.out;omega,HN2.out,HT7.only HA7.out O8,by rw[List.length_append,List.length_singleton,show m+3*(done.length+1)=M+1+1+1 by rw[<-HMM.out];omega];exact A8,HO7.trans O8⟩
      clear A8 O8;go_wp2_with fail
      go_roundw
      case rel=>exact hRel.out
      case measure=>rw[hlen7];simp only[lenV];omega
    . have HW:Hid (L=(done++[⟨x,false,r⟩])++wayT kk l):=q9 (by
       rw[HLd.out]
       have:wayT kk (.node l x r)=⟨x,false,r⟩ :: wayT kk l:=by
        rw[wayT];exact if_neg (by rw[HZZ.out];exact hkz)
       rw[this];simp)
      have HT6:Hid (TB (w2) b V S T p):=q9 (HTU5.t);have HU6:Hid (Blk (w2) c9 191 #[I (x:Int),I 3]):=q9 (HTU5.r);have HA6:Hid (TM (w2) V S T p gb cap (M+1+1) g):=q9 (HA5.out);have HO6:Hid (Only p gb w (w2)):=q9 (HO5.out);have HR6:Hid (RowW (w2) w.heap.size (.slice av done.length vc) done):=q9 (HR5.out);have HNU:Hid ((Value.slice av done.length vc).ownBlock≠some c9):=HNC
      go_wp2_with (at_builtin;go_loud (refine QU _ rfl _ _ rfl rfl (HR6.alloc _) ⟨x,false,r⟩ (I1 w2.heap.size 0) 1 rfl (Qka _ _ _ _ (by simp)) (Qj9 _ _ _ _ (by simp)) hd5 (Nat.le_trans hws (by simp)) ?_))
      intro v' w7 hrw7 hg7;have HRa:=HR6.alloc (.cells #[I (x:Int),I 3] 191);have HAa:=HA6.alloc (.cells #[I (x:Int),I 3] 191);have HA7:=q9 (HAa.grown hg7 (HRa.ne_t HAa).1 (HRa.ne_t HAa).2)
      have HT7:Hid (TB w7 b V S T p):=q9 (Blk.grown (Blk.alloc HT6.out _) hg7 (HRa.ne_blk (Blk.alloc HT6.out (.cells #[I (x:Int),I 3] 191)) (by decide)))
      have HU7:=q9 (Blk.grown (HU6.alloc _) hg7 HNU.out)
      have HO7:=q9 ((HO6.alloc (.cells #[I (x:Int),I 3] 191)).grown hg7 fun i hi=>(HRa.lt i hi).1)
      have HR7:=q9 hrw7
      have hlen7:lenV v'=done.length+1:=by
       obtain⟨a',cap',e⟩:=hrw7.slice;rw[e];simp [lenV]
      clear hrw7 hg7 HRa HAa HT6 HU6 HA6 HO6 HR6 HTU5 HA5 HO5 HR5 y0 y1 y2 y3 y4 y5 u0 u1 uf ult hlt5;obtain⟨y0,y1,y2,y3,y4,y5⟩:=HT7.cells;have hlt7:=HT7.lt;have u1:w7.cell? (I1 c9 1)=some (I 3):=HU7.cell 1;have ult:=HU7.lt;go_wp2_with fail
      refine(QbW HA7 HXN (by omega)).mono ?_;rintro e w8 ⟨rfl,A8,O8⟩;rw[HQ3.out]
      have hRel:Hid (QkT w b V S T p gb cap m g mk L v' (I (l.root:Int)) (I (kk)) w8):=
       q9 ⟨done++[⟨x,false,r⟩],l,kk,HW.out,rfl,rfl,by omega,by omega,(by rw[hwb];exact HR7.onlyT HA7.out O8),HLl.out,by rw[List.length_append,List.length_singleton];have:=HZZ.out;omega,HN1.out,HT7.only HA7.out O8,by rw[List.length_append,List.length_singleton,show m+3*(done.length+1)=M+1+1+1 by rw[<-HMM.out];omega];exact A8,HO7.trans O8⟩
      clear A8 O8;go_wp2_with fail
      go_roundw
      case rel=>exact hRel.out
      case measure=>rw[hlen7];simp only[lenV];omega
end
def or2 (a b:Nat):Nat:=if a=0 then b else a
def Qmt (a b:Nat)(w0:World)(k:Value)(W:World):Prop:=W=w0/\(k=I 0\/(k=I 1/\a=0)\/(k=I 2/\a=0/\b=0))
theorem Qld (w:World)(q a b:Nat)(h0:w.cell? (I1 q 0)=some (I (a:Int)))(h1:w.cell? (I1 q 1)=some (I (b:Int))):
 Calls Tryz.prog 159 #[I3 (I1 q 0) 2 2] w fun e w'=>e=.returned (I (or2 a b:Int))/\w=w':=by
 by_cases ha:a=0
 . by_cases hb:b=0
   . have HE:Hid (or2 a b=0):=q9 (by unfold or2;rw[if_pos ha,hb])
     rw[HE.out]
     have haI:(a:Int)=0:=by omega
     have hbI:(b:Int)=0:=by omega
     rw[haI] at h0;rw[hbI] at h1;clear haI hbI
     go_enter Tryz.func159,Tryz.ntmps159
     go_wp2_with fail
     go_loopw [8] (fun k wr=>Qmt a b w k wr) (fun k _=>2-(intOf k).toNat)
     case atStart=>exact⟨rfl,.inl rfl⟩
     case round=>
      obtain⟨hW,hk⟩:=hrel;subst hW
      rcases hk with rfl|⟨rfl,_⟩|⟨rfl,_⟩
      . go_wp2_with fail
        go_roundw
        case rel=>exact⟨rfl,.inr (.inl ⟨rfl,ha⟩)⟩
        case measure=>simp [intOf]
      . go_wp2_with fail
        go_roundw
        case rel=>exact⟨rfl,.inr (.inr ⟨rfl,ha,hb⟩)⟩
        case measure=>simp [intOf]
      . go_wp2_with fail
        go_ret;exact⟨rfl,rfl⟩
   . have HE:Hid (or2 a b=b):=q9 (by unfold or2;rw[if_pos ha])
     rw[HE.out]
     have haI:(a:Int)=0:=by omega
     have hbI:((b:Int)==0)=false:=beq_eq_false_iff_ne.2 (by omega)
     have hbJ:¬ (b:Int)=0:=by omega
     rw[haI] at h0;clear haI
     go_enter Tryz.func159,Tryz.ntmps159
     go_wp2_with fail
     go_loopw [8] (fun k wr=>Qmt a b w k wr) (fun k _=>2-(intOf k).toNat)
     case atStart=>exact⟨rfl,.inl rfl⟩
     case round=>
      obtain⟨hW,hk⟩:=hrel;subst hW
      rcases hk with rfl|⟨rfl,_⟩|⟨rfl,_,h⟩
      . go_wp2_with fail
        go_roundw
        case rel=>exact⟨rfl,.inr (.inl ⟨rfl,ha⟩)⟩
        case measure=>simp [intOf]
      . go_wp2_with fail
        go_ret;exact⟨rfl,rfl⟩
      . exact absurd h hb
 . have HE:Hid (or2 a b=a):=q9 (by unfold or2;rw[if_neg ha])
   rw[HE.out]
   have haI:((a:Int)==0)=false:=beq_eq_false_iff_ne.2 (by omega)
   have haJ:¬ (a:Int)=0:=by omega
   go_enter Tryz.func159,Tryz.ntmps159
   go_wp2_with fail
   go_loopw [8] (fun k wr=>Qmt a b w k wr) (fun k _=>2-(intOf k).toNat)
   case atStart=>exact⟨rfl,.inl rfl⟩
   case round=>
    obtain⟨hW,hk⟩:=hrel;subst hW
    rcases hk with rfl|⟨rfl,h⟩|⟨rfl,h,_⟩
    . go_wp2_with fail
      go_ret;exact⟨rfl,rfl⟩
    . exact absurd h ha
    . exact absurd h ha
section
variable {V S T:Int}{g:Mg9}{w w' w0:World}{p gb cap m:Nat}
def QkU (w0:World)(b:Nat)(V S T:Int)(p gb cap m:Nat)(g:Mg9)(mk:Nat->Nat)(ta0 tb0:Tp)(v i k:Value)(W:World):Prop:=
 ∃ done ta tb,(∀ fs t,Mrg (fun z=>g z 5) ta tb fs t->Mrg (fun z=>g z 5) ta0 tb0 (done++fs) t)/\i=I ((ta.root:Nat):Int)/\k=I ((tb.root:Nat):Int)/\RowW W w0.heap.size v done/\Qe (vxN V) mk g ta/\Qe (vxN V) mk g tb/\done.length+ta.size+tb.size<=nN V S/\(∀ y∈ta.row,y≠0/\y<=nN V S)/\(∀ y∈tb.row,y≠0/\y<=nN V S)/\TB W b V S T p/\TM W V S T p gb cap (m+3*done.length) g/\Only p gb w0 W
def Qoa (V S T:Int)(p gb cap m:Nat)(g:Mg9)(ta tb:Tp)(w:World)(e:Ending)(w':World):Prop:=
 ∃ v fs t,e=.returned (.tuple #[v,I ((t.root:Nat):Int)])/\Mrg (fun z=>g z 5) ta tb fs t/\RowW w' w.heap.size v fs/\TM w' V S T p gb cap m g/\Only p gb w w'
set_option maxHeartbeats 4000000 in
theorem QnP (A:TM w V S T p gb cap m g){ta0 tb0:Tp}{mk:Nat->Nat}(hLa:Qe (vxN V) mk g ta0)(hLb:Qe (vxN V) mk g tb0)(hz:ta0.size+tb0.size<=nN V S)(hna:∀ y∈ta0.row,y≠0/\y<=nN V S)(hnb:∀ y∈tb0.row,y≠0/\y<=nN V S)(hm:m<=99980000):
 Calls Tryz.prog 145 #[vTr V S T p,I (ta0.root:Int),I (tb0.root:Int)] w (Qoa V S T p gb cap (m+3*nN V S) g ta0 tb0 w):=by
 have hn560:=Ql A.hR;have HXA:=q9 (Qbp hna);have HXB:=q9 (Qbp hnb);have HA:=q9 A;have HR:=q9 A.hR;have HNI:=q9 (Q0 A.hR);have HZ0:=q9 A.z;have HP0:Hid (Qe (vxN V) mk g ta0/\Qe (vxN V) mk g tb0/\ta0.size+tb0.size<=nN V S/\(∀ y∈ta0.row,y≠0/\y<=nN V S)/\(∀ y∈tb0.row,y≠0/\y<=nN V S)):=q9 ⟨hLa,hLb,hz,hna,hnb⟩;clear hLa hLb hz hna hnb A
 go_enter Tryz.func145,Tryz.ntmps145
 go_wp2_with fail
 have HT:Hid (TB (w.alloc (I5 V S T p)) w.heap.size V S T p):=q9 (TB.new _ _ _ _ _);have HA0:=q9 (HA.alloc (I5 V S T p));have HO0:=q9 ((Only.refl p gb w).alloc (I5 V S T p))
 have HBL:Hid (w.heap.size<(w.alloc (I5 V S T p)).heap.size):=q9 (by simp)
 generalize hwb:w.heap.size=b at HT HBL |-;generalize hW:w.alloc (I5 V S T p)=W at HT HA0 HO0 HBL |-;clear hW;have htb:=Qm b V S T p;obtain⟨y0,y1,y2,y3,y4,y5⟩:=HT.cells;have hlt:=HT.lt;have HTd:=q9 HT.drew;have HAd:=q9 HA0.drew;have HOd:=q9 HO0.drew
 go_region_held3 (fun W=>TB W b V S T p) (first|(with_reducible assumption)|(with_reducible exact TB.below (by assumption) hb1)|(with_reducible exact HTd.out))
  (first
   |(go_at_call 97;((with_reducible refine(Qar HR.out HXA.out p _).mono ?_);rintro e w' ⟨rfl,hb1⟩;have HA0:=q9 (TM.below (Hid.out (by assumption:Hid (TM _ V S T p gb cap (m) g))) hb1);have HO0:=q9 (Only.trans (Hid.out (by assumption:Hid (Only p gb w _))) (Only.of_below hb1));have HT1:=q9 (TB.below (by assumption) hb1)))
   |(go_at_call 97;((with_reducible refine(Qar HR.out HXB.out p _).mono ?_);rintro e w' ⟨rfl,hb1⟩;have HA0:=q9 (TM.below (Hid.out (by assumption:Hid (TM _ V S T p gb cap (m) g))) hb1);have HO0:=q9 (Only.trans (Hid.out (by assumption:Hid (Only p gb w _))) (Only.of_below hb1));have HT1:=q9 (TB.below (by assumption) hb1))))
 all_goals
  have HRel:Hid (QkU w b V S T p gb cap m g mk ta0 tb0 (.slice none 0 0) (I (ta0.root:Int)) (I (tb0.root:Int)) _):=q9 ⟨[],ta0,tb0,fun _ _ h=>h,rfl,rfl,RowW.nil _ _,HP0.1,HP0.2.1,by have:=HP0.2.2.1;simpa using this,HP0.2.2.2.1,HP0.2.2.2.2,HT1.out,HA0.out,HO0.out⟩
  clear HT HA0 HO0 HTd HAd HOd HT1 y0 y1 y2 y3 y4 y5 hlt HP0 HXA HXB;go_wp2_with fail
  go_loopw [6,1,2] (fun v i k wr=>QkU w b V S T p gb cap m g mk ta0 tb0 v i k wr) (fun v _ _ _=>1000-lenV v)
  case atStart=>exact HRel.out
  case round=>
   clear HRel;obtain⟨done,ta,tb,hM0,rfl,rfl,hrow,hLa,hLb,hsz,hna,hnb,hT,hA,hO⟩:=hrel;have HT:=q9 hT;have HA0:=q9 hA;have HO0:=q9 hO;have HRW:=q9 hrow;obtain⟨y0,y1,y2,y3,y4,y5⟩:=hT.cells;have hlt:=hT.lt;obtain⟨av,vc,rfl⟩:=hrow.slice;clear hrow hT hA hO;obtain⟨M,hM⟩:∃ M,m+3*done.length=M:=⟨_,rfl⟩;have HMM:=q9 hM;rw[hM] at HA0
   have hM1:M<=99990000:=by omega
   clear hM
   cases ta with
   |nil=>
    have HMR:Hid (Mrg (fun z=>g z 5) ta0 tb0 done tb):=q9 (by have:=hM0 [] tb (.nl tb);simpa using this)
    have HD:Hid (done.length<=nN V S):=q9 (by omega)
    have hr0:((Tp.nil.root:Nat):Int)=0:=rfl;have HE:Hid (or2 0 tb.root=tb.root):=q9 rfl;rw[hr0];obtain⟨B,hB⟩:∃ B,tb.root=B:=⟨_,rfl⟩;have HB:=q9 hB;rw[hB] at HE;rw[hB];clear hM0 hLa hLb hna hnb hr0 hsz hB;go_wp2_with fail
    refine(Qld _ wr.heap.size 0 B ((Blk.new wr 3 #[I 0,I (B:Int)]).cell 0) ((Blk.new wr 3 #[I 0,I (B:Int)]).cell 1)).mono ?_;rintro e w2 ⟨rfl,rfl⟩;rw[HE.out];go_wp2_with fail
    exact bodyPost_ret (v:=.tuple #[.slice av done.length vc,I (B:Int)]) (by simp [results,Tryz.results145,go_sem]) rfl ⟨_,done,tb,by rw[HB.out],HMR.out,HRW.alloc _,(HA0.alloc _).more (by have:=HMM.out;have:=HD.out;omega),HO0.alloc _⟩
   |node al x ar=>
    have hxI:¬ (x:Int)=0:=by have:=(hna x (by simp [Tp.row])).1;omega
    have hx0:x≠0:=(hna x (by simp [Tp.row])).1
    have hxr:(((Tp.node al x ar).root:Nat):Int)=(x:Int):=rfl
    cases tb with
    |nil=>
     have HMR:Hid (Mrg (fun z=>g z 5) ta0 tb0 done (.node al x ar)):=q9 (by have:=hM0 [] _ (.nr _);simpa using this)
     have HD:Hid (done.length<=nN V S):=q9 (by omega)
     have hr0:((Tp.nil.root:Nat):Int)=0:=rfl;have HE:Hid (or2 x 0=x):=q9 (if_neg hx0);rw[hr0,hxr];clear hM0 hLa hLb hna hnb hr0 hxr hsz;go_wp2_with fail
     refine(Qld _ wr.heap.size x 0 ((Blk.new wr 3 #[I (x:Int),I 0]).cell 0) ((Blk.new wr 3 #[I (x:Int),I 0]).cell 1)).mono ?_;rintro e w2 ⟨rfl,rfl⟩;rw[HE.out];go_wp2_with fail
     exact bodyPost_ret (v:=.tuple #[.slice av done.length vc,I (x:Int)]) (by simp [results,Tryz.results145,go_sem]) rfl ⟨_,done,.node al x ar,rfl,HMR.out,HRW.alloc _,(HA0.alloc _).more (by have:=HMM.out;have:=HD.out;omega),HO0.alloc _⟩
    |node bl y br=>
     have hyI:¬ (y:Int)=0:=by have:=(hnb y (by simp [Tp.row])).1;omega
     have hyr:(((Tp.node bl y br).root:Nat):Int)=(y:Int):=rfl
     have HSZ:Hid (done.length+(al.size+1+ar.size)+(bl.size+1+br.size)<=nN V S):=q9 (by rw[Tp.size_node,Tp.size_node] at hsz;exact hsz)
     have hd1:(done.length:Int)<nd V S:=by have h1:=HNI.out;have h2:=HSZ.out;omega
     have hd6:done.length<=560:=by have h2:=HSZ.out;omega
     have hd5:done.length<=100000:=by omega
     have hxB:((x:Int) !=0)=true:=bne_iff_ne.2 hxI;have hyB:((y:Int) !=0)=true:=bne_iff_ne.2 hyI
     have HXN:=q9 (hna x (by simp [Tp.row])).2
     have HYN:=q9 (hnb y (by simp [Tp.row])).2
     have HNA:=q9 hna;have HNB:=q9 hnb;have HLA:=q9 hLa;have HLB:=q9 hLb;have HM0:=q9 hM0;have HQ4:Hid (g x 4=ar.root):=q9 hLa.2.1;have HQ3:Hid (g y 3=bl.root):=q9 hLb.1;rw[hxr,hyr];clear hM0 hLa hLb hna hnb hsz hxr hyr;go_wp2_with fail
     refine(Q3 V S T HR _).mono ?_;rintro e w2 ⟨rfl,hb2⟩;have HT2:=q9 (HT.below hb2);have HA2:=q9 (HA0.below hb2);have HO2:=q9 (HO0.trans (Only.of_below hb2));have HRW2:=q9 (HRW.below hb2);clear hb2 HT HA0 HO0 HRW y0 y1 y2 y3 y4 y5 hlt;obtain⟨y0,y1,y2,y3,y4,y5⟩:=HT2.cells;have hlt:=HT2.lt;go_wp2_with fail
     refine(QmU HA2 HXN HYN (by omega)).mono ?_;rintro e w3 ⟨rfl,A3,O3⟩
     have HT3:=q9 (HT2.only HA2.out O3);have HRW3:=q9 (HRW2.onlyT HA2.out O3);have HA3:=q9 A3;have HO3:=q9 (HO2.trans O3);clear A3 O3 HT2 HA2 HO2 HRW2 y0 y1 y2 y3 y4 y5 hlt;obtain⟨y0,y1,y2,y3,y4,y5⟩:=HT3.cells;have hlt:=HT3.lt;have hws:w.heap.size<=w3.heap.size:=HO3.size
     by_cases hab:ab (fun z=>g z 5) x y=true
     . rw[hab]
       have HMR:Hid (∀ fs t,Mrg (fun z=>g z 5) ar (.node bl y br) fs t->Mrg (fun z=>g z 5) ta0 tb0 ((done++[⟨x,true,al⟩])++fs) t):=q9 fun fs t h=>by have:=HM0.out _ t (.a hab h);simpa using this
       clear hab
       go_wp2_with (at_builtin;go_loud (refine QU _ rfl _ _ rfl rfl (HRW3.alloc _) ⟨x,true,al⟩ (I1 w3.heap.size 0) 1 rfl (Qka _ _ _ _ (by simp)) (Qj9 _ _ _ _ (by simp)) hd5 (Nat.le_trans hws (by simp)) ?_))
       intro v' w7 hrw7 hg7;have HRa:=HRW3.alloc (.cells #[I (x:Int),I 4] 191);have HAa:=HA3.alloc (.cells #[I (x:Int),I 4] 191);have HA7:=q9 (HAa.grown hg7 (HRa.ne_t HAa).1 (HRa.ne_t HAa).2)
       have HT7:Hid (TB w7 b V S T p):=q9 (Blk.grown (Blk.alloc HT3.out _) hg7 (HRa.ne_blk (Blk.alloc HT3.out (.cells #[I (x:Int),I 4] 191)) (by decide)))
       have HO7:=q9 ((HO3.alloc (.cells #[I (x:Int),I 4] 191)).grown hg7 fun i hi=>(HRa.lt i hi).1)
       have HR7:=q9 hrw7
       have hlen7:lenV v'=done.length+1:=by
        obtain⟨a',cap',e⟩:=hrw7.slice;rw[e];simp [lenV]
       clear hrw7 hg7 HRa HAa HT3 HA3 HO3 HRW3 y0 y1 y2 y3 y4 y5 hlt;obtain⟨y0,y1,y2,y3,y4,y5⟩:=HT7.cells;have hlt7:=HT7.lt;go_wp2_with fail
       refine(Qdw HA7 HXN (by omega)).mono ?_;rintro e w8 ⟨rfl,A8,O8⟩;rw[HQ4.out]
       have hRel:Hid (QkU w b V S T p gb cap m g mk ta0 tb0 v' (I (ar.root:Int)) (I (y:Int)) w8):=
        q9 ⟨done++[⟨x,true,al⟩],ar,.node bl y br,HMR.out,rfl,rfl,(by rw[hwb];exact HR7.onlyT HA7.out O8),HLA.2.2.2.2.2.2,HLB.out,by rw[List.length_append,List.length_singleton];have:=HSZ.out;rw[Tp.size_node];omega,fun z hz=>HNA.out z (by simp [Tp.row,hz]),HNB.out,HT7.only HA7.out O8,by rw[List.length_append,List.length_singleton,show m+3*(done.length+1)=M+2+1 by rw[<-HMM.out];omega];exact A8,HO7.trans O8⟩
       clear A8 O8;go_wp2_with fail
       go_roundw
       case rel=>exact hRel.out
       case measure=>rw[hlen7];simp only[lenV];omega
     . have hab':ab (fun z=>g z 5) x y=false:=by simpa using hab
       rw[hab']
       have HMR:Hid (∀ fs t,Mrg (fun z=>g z 5) (.node al x ar) bl fs t->Mrg (fun z=>g z 5) ta0 tb0 ((done++[⟨y,false,br⟩])++fs) t):=q9 fun fs t h=>by have:=HM0.out _ t (.b hab' h);simpa using this
       clear hab hab'
       go_wp2_with (at_builtin;go_loud (refine QU _ rfl _ _ rfl rfl (HRW3.alloc _) ⟨y,false,br⟩ (I1 w3.heap.size 0) 1 rfl (Qka _ _ _ _ (by simp)) (Qj9 _ _ _ _ (by simp)) hd5 (Nat.le_trans hws (by simp)) ?_))
       intro v' w7 hrw7 hg7;have HRa:=HRW3.alloc (.cells #[I (y:Int),I 3] 191);have HAa:=HA3.alloc (.cells #[I (y:Int),I 3] 191);have HA7:=q9 (HAa.grown hg7 (HRa.ne_t HAa).1 (HRa.ne_t HAa).2)
       have HT7:Hid (TB w7 b V S T p):=q9 (Blk.grown (Blk.alloc HT3.out _) hg7 (HRa.ne_blk (Blk.alloc HT3.out (.cells #[I (y:Int),I 3] 191)) (by decide)))
       have HO7:=q9 ((HO3.alloc (.cells #[I (y:Int),I 3] 191)).grown hg7 fun i hi=>(HRa.lt i hi).1)
       have HR7:=q9 hrw7
       have hlen7:lenV v'=done.length+1:=by
        obtain⟨a',cap',e⟩:=hrw7.slice;rw[e];simp [lenV]
       clear hrw7 hg7 HRa HAa HT3 HA3 HO3 HRW3 y0 y1 y2 y3 y4 y5 hlt;obtain⟨y0,y1,y2,y3,y4,y5⟩:=HT7.cells;have hlt7:=HT7.lt;go_wp2_with fail
       refine(QbW HA7 HYN (by omega)).mono ?_;rintro e w8 ⟨rfl,A8,O8⟩;rw[HQ3.out]
       have hRel:Hid (QkU w b V S T p gb cap m g mk ta0 tb0 v' (I (x:Int)) (I (bl.root:Int)) w8):=
        q9 ⟨done++[⟨y,false,br⟩],.node al x ar,bl,HMR.out,rfl,rfl,(by rw[hwb];exact HR7.onlyT HA7.out O8),HLA.out,HLB.2.2.2.2.2.1,by rw[List.length_append,List.length_singleton];have:=HSZ.out;rw[Tp.size_node];omega,HNA.out,fun z hz=>HNB.out z (by simp [Tp.row,hz]),HT7.only HA7.out O8,by rw[List.length_append,List.length_singleton,show m+3*(done.length+1)=M+2+1 by rw[<-HMM.out];omega];exact A8,HO7.trans O8⟩
       clear A8 O8;go_wp2_with fail
       go_roundw
       case rel=>exact hRel.out
       case measure=>rw[hlen7];simp only[lenV];omega
end
open Go.RowKit Go.Shelf
attribute [local go_sem] Oper.semAt_some
def bkF (L:List Fr)(j:Nat):Nat × Fr:=(L.length-1-j,L[L.length-1-j]?.getD ⟨1,false,.nil⟩)
def KpB (b q:Nat)(W W':World):Prop:=W'.heap[b]?=W.heap[b]?/\W'.heap[q]?=W.heap[q]?
theorem KpB.refl (b q:Nat)(W:World):KpB b q W W:=⟨rfl,rfl⟩
theorem KpB.trans {b q:Nat}{A B C:World}(h:KpB b q A B)(k:KpB b q B C):KpB b q A C:=⟨k.1.trans h.1,k.2.trans h.2⟩
abbrev encB (x:Nat × Fr):Array Value:=#[I (x.1:Int),vTn x.2.x (sd x.2.rt)]
set_option maxHeartbeats 2000000 in
theorem Qmn (F:Fence)(n:Nat)(hf:F.fn 160)(hro:F.round=none)(hn:1<=n)(l Bs g cap:Nat)(cs:Array Value)(L:List Fr)(hL:L.length<=100000)(J Jx:List Nat->World->Prop)
 (hc:∀ (k:Nat) (f:Fr),L[k]?=some f->cs[k*2]?=some (I (f.x:Int))/\cs[k*2+1]?=some (I (sd f.rt:Int)))
 (hY:∀ pre x W,J pre W->pre.length<L.length->YieldAt F (n-1) Tryz.prog l (encB (bkF L x)) W fun e W'=>
  (e=.returned (.bool true)/\J (pre++[x]) W'/\KpB Bs g W W')\/(e=.returned (.bool false)/\Jx (pre++[x]) W'))
 (W:World) (hBs:Blk W Bs 184 #[I3 (I1 g 0) L.length cap]) (hg:Blk W g 191 cs) (h0:J [] W):
 CallsIn F n Tryz.prog 160 #[.func (.yield l) #[] #[],.pointer (some (I1 Bs 0))] W fun e W'=>(∃ v,e=.returned v)/\
  ((∃ ys,ys=List.range L.length/\J ys W')\/(∃ pre,(∃ k,k<=L.length/\pre=List.range k)/\Jx pre W')):=by
 have HBs:=q9 hBs;have HG:=q9 hg;have HC:=q9 hc;have c0:=hBs.cell 0;have clt:=hBs.lt;clear hBs hg hc;refine callsIn_of_wp Tryz.func160 rfl hf ?_ hro;simp only[Tryz.ntmps160,List.size_toArray,List.length_cons,List.length_nil,Nat.reduceAdd,Nat.reduceSub,Array.replicate_succ,Array.replicate_zero,List.push_toArray,List.append_toArray,List.nil_append,List.cons_append]
 gi_wp2
 clear c0 clt
 gi_loopw [3] (fun i wr=>∃ k:Nat,k<=L.length/\i=I ((L.length:Int)-1-(k:Int))/\J (List.range k) wr/\KpB Bs g W wr)
  (fun i _=>(intOf i+1).toNat)
 case atStart=>exact⟨0,Nat.zero_le _,by simp,h0,KpB.refl _ _ _⟩
 case round=>
  obtain⟨k,hk,rfl,hJs,hkp⟩:=hrel;have HB1:Hid (Blk wr Bs 184 #[I3 (I1 g 0) L.length cap]):=q9 (hkp.1.trans HBs.out);have HG1:Hid (Blk wr g 191 cs):=q9 (hkp.2.trans HG.out);have c0:wr.cell? (I1 Bs 0)=some (I3 (I1 g 0) L.length cap):=HB1.cell 0;have clt:=HB1.lt
  by_cases hlt:k<L.length
  . obtain⟨j,hj⟩:∃ j,L.length-1-k=j:=⟨_,rfl⟩
    have hjl:j<L.length:=by omega
    have hjI:(L.length:Int)-1-(k:Int)=(j:Int):=by omega
    have hget:=List.getElem?_eq_getElem hjl
    have hx:bkF L k=(j,L[j]):=by unfold bkF;rw[hj,hget];rfl
    obtain⟨e0,e1⟩:=HC.out j _ hget
    obtain⟨fn,tmps,assign,body,hy,hR⟩:=hY _ k wr hJs (by rw[List.length_range];exact hlt)
    rw[hx] at hy;rw[hjI];have d0:wr.cell? (I1 g (j*2))=some (I (L[j].x:Int)):=(HG1.cell _).trans e0;have d1:wr.cell? (I1 g (j*2+1))=some (I (sd L[j].rt:Int)):=(HG1.cell _).trans e1;have dlt:=HG1.lt;have HJI:=q9 hjI;generalize hq:L[j]=q at hy d0 d1;dsimp only[encB] at hy;clear hjI e0 e1 hget hx hq
    gi_wp2
    refine hR.mono ?_
    rintro e W3 (⟨rfl,hJ3,hk3⟩|⟨rfl,hJx3⟩)
    . gi_wp2
      go_roundw
      case rel=>exact⟨k+1,by omega,by congr 1;have:=HJI.out;omega,by rw[List.range_succ];exact hJ3,hkp.trans hk3⟩
      case measure=>simp [intOf]
    . gi_wp2
      refine bodyPost_ret (results_none rfl _ _ _) rfl ?_
      exact⟨⟨_,rfl⟩,.inr ⟨_,⟨k+1,by omega,by rw[List.range_succ]⟩,hJx3⟩⟩
  . obtain rfl:k=L.length:=by omega
    have hI:(L.length:Int)-1-(L.length:Int)=-1:=by omega
    rw[hI]
    gi_wp2
    go_end0
    exact⟨⟨_,rfl⟩,.inl ⟨_,rfl,hJs⟩⟩
set_option maxHeartbeats 2000000 in
theorem Qgr (F:Fence)(n:Nat)(hf:F.fn 160)(hro:F.round=none)(l Bs:Nat)(J:List Nat->World->Prop)(W:World)(hBs:Blk W Bs 184 #[.slice none 0 0])(h0:J [] W):
 CallsIn F n Tryz.prog 160 #[.func (.yield l) #[] #[],.pointer (some (I1 Bs 0))] W fun e W'=>(∃ v,e=.returned v)/\J [] W':=by
 have c0:W.cell? (I1 Bs 0)=some (.slice none 0 0):=hBs.cell 0;have clt:=hBs.lt;refine callsIn_of_wp Tryz.func160 rfl hf ?_ hro;simp only[Tryz.ntmps160,List.size_toArray,List.length_cons,List.length_nil,Nat.reduceAdd,Nat.reduceSub,Array.replicate_succ,Array.replicate_zero,List.push_toArray,List.append_toArray,List.nil_append,List.cons_append]
 gi_wp2
 gi_loopw [3] (fun i wr=>i=I (-1)/\J [] wr) (fun _ _=>0)
 case atStart=>exact⟨rfl,h0⟩
 case round=>
  obtain⟨rfl,hJs⟩:=hrel
  gi_wp2
  go_end0
  exact⟨⟨_,rfl⟩,hJs⟩
def Qe6 (v:Value)(b:Nat):Nat:=(v.ownBlock).getD b
theorem Qer (F:Fence)(n:Nat)(hf:F.fn 160)(hro:F.round=none)(hn:1<=n)(Bs base:Nat)(v:Value)(L:List Fr)(hL:L.length<=100000)(w:World)(hBs:Blk w Bs 184 #[v])(hR:RowW w base v L):
 SeqStopsK F n Tryz.prog 160 #[.pointer (some (I1 Bs 0))] (fun k=>encB (bkF L k)) (KpB Bs (Qe6 v Bs)) (fun ys=>ys=List.range L.length) (fun pre=>∃ k,k<=L.length/\pre=List.range k) L.length w:=fun l J Jx W hW _ _ hY h0=>by
 have hBs':=hBs.below hW hBs.lt
 rcases hR.shape with ⟨rfl,rfl⟩|⟨g,cap,cs,rfl,_,hg,_,_,hc⟩
 . exact(Qgr F n hf hro l Bs J W hBs' h0).mono fun e W' ⟨he,hj⟩=>⟨he,.inl ⟨_,rfl,hj⟩⟩
 . exact Qmn F n hf hro hn l Bs g cap cs L hL J Jx hc hY W hBs' (hg.below hW hg.lt) h0
set_option maxHeartbeats 1000000 in
theorem QdS (F:Fence)(n:Nat)(hf:F.fn 146)(hro:F.round=none)(a:Option Addr)(len cap:Nat)(w:World):
 CallsIn F n Tryz.prog 146 #[.slice a len cap] w fun e w'=>e=.returned (.func (.func 160) #[] #[.pointer (some (I1 w.heap.size 0))])/\w'=w.alloc (.cells #[.slice a len cap] 184):=by
 refine callsIn_of_wp Tryz.func146 rfl hf ?_ hro;simp only[Tryz.ntmps146,List.size_toArray,List.length_cons,List.length_nil,Nat.reduceAdd,Nat.reduceSub,Array.replicate_succ,Array.replicate_zero,List.push_toArray,List.append_toArray,List.nil_append,List.cons_append]
 gi_wp2
 go_ret;exact⟨rfl,rfl⟩
end Go.Proofs.YtaooglagddphnaaGreat
