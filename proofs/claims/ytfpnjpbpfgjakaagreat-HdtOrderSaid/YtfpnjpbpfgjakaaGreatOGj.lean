/- Gj -/
import Derived.Test.YtfpnjpbpfgjakaaGreatOGi
import Derived.Test.YtfpnjpbpfgjakaaGreatOGe
namespace Go.Proofs.YtfpnjpbpfgjakaaGreat
open Go.RowKit Go.Proofs.Tryz
set_option maxRecDepth 100000
set_option maxHeartbeats 16000000
def GJ (w:World)(v:Value)(gr:List (Option (Nat × Nat))):Prop:=
 ∃ a cap,v=.slice a gr.length cap/\∀ (k:Nat) (e:Option (Nat × Nat)),gr[k]?=some e->∃ b off zs,a=some (I1 b off)/\Blk w b 107 zs/\zs[off+k*2]?=some (I (end1 e))/\zs[off+k*2+1]?=some (I (end2 e))
section
variable {w:World}{v:Value}{gr:List (Option (Nat × Nat))}{E:List (Nat × Nat × Nat)}{V x y:Nat}
theorem QiJ (h:GJ w v gr)(hl:gr.length<=1000)(hE:Lnk gr E)(hx:x<V)(hV:V<=1000)(hlt:∀ s a b,(s,a,b)∈E->a<V/\b<V):
 I0 44 #[v,I (x:Int),I (y:Int)] w fun e w'=>∃ r,e=.returned (.bool r)/\(r=true↔Way E x y)/\Below w.heap.size w w':=by
 obtain⟨a0,c0,rfl,hg⟩:=h;have HG:=q9 hg;have HE:=q9 hE;have HLT:=q9 hlt;have HX:=q9 hx;obtain⟨n,hn⟩:∃ n,gr.length=n:=⟨_,rfl⟩;have HN:=q9 hn;rw[hn] at hl;rw[hn]
 have nI:(n:Int)<=1000:=by omega
 clear hg hE hx hn
 go_enter func44,ntmps44
 go_wp2_with fail
 have HRel:Hid (QkX w gr E V x (I3 (I1 w.heap.size 0) 1 1) (I 0) (w.alloc (.cells #[I (x:Int)] 3))):=q9 ⟨Ja.alloc Jb _,[x],0,rfl,Nat.zero_le _,⟨rfl,.inr ⟨_,1,#[I (x:Int)],rfl,Nat.le_refl _,Blk.new w _ _,Nat.le_refl _,by simp [maxLen],rfl,rfl⟩⟩,Sn.one HX.out⟩
 go_loopw [7,8,9,10,11] (fun s i _ _ _ wr=>QkX w gr E V x s i wr) (fun _ i _ _ _ _=>V+1-(intOf i).toNat)
 case atStart=>exact HRel.out
 case round=>
  clear HRel;obtain⟨hb,S,j,rfl,hj,hs,hsn⟩:=hrel;have HB:=q9 hb;have HS:=q9 hs;have HSN:=q9 hsn;have hlen:=hsn.len;obtain⟨a1,k1,rfl,_⟩:=HS.li.shape;obtain⟨m,hm⟩:∃ m,S.length=m:=⟨_,rfl⟩;have HM:=q9 hm;rw[hm] at HS hj hlen;rw[hm];clear hb hs hsn hm
  by_cases hjm:j<m
  . have kI:(j:Int)<(m:Int):=by omega
    obtain⟨c,hc⟩:∃ c,S[j]?=some c:=⟨_,Jh (by have:=HM.out;omega)⟩
    have HC:=q9 hc;clear hc;go_wp2_with fail
    have HIn:Hid (QkY w gr E V x j c (.slice a1 m k1) (I 0) wr):=q9 ⟨HB.out,S,0,rfl,Nat.zero_le _,HC.out,HS.out,HSN.out,Clo.zero⟩;clear HB HS HSN HC HM kI hjm hj hlen
    go_loopw [7,9,10,11] (fun s k _ _ wr2=>QkY w gr E V x j c s k wr2) (fun _ k _ _ _=>n-(intOf k).toNat)
    case atStart=>exact HIn.out
    case round=>
     clear HIn;obtain⟨hb,S,q,rfl,hq,hc,hs,hsn,hcl⟩:=hrel;have HB:=q9 hb;have HS:=q9 hs;have HSN:=q9 hsn;have HC:=q9 hc;have HCL:=q9 hcl;have hlen:=hsn.len;have hjl:=(Jd hc).1;obtain⟨a1,k1,rfl,_⟩:=HS.li.shape;obtain⟨m,hm⟩:∃ m,S.length=m:=⟨_,rfl⟩;have HM:=q9 hm;rw[hm] at HS hlen hjl;rw[hm];rw[HN.out] at hq;clear hb hs hsn hc hcl hm
     by_cases hqn:q<n
     . have kI:(q:Int)<(n:Int):=by omega
       have q0:(0:Int)<=(q:Int):=by omega
       have jI:(j:Int)<(m:Int):=by omega
       have j0:(0:Int)<=(j:Int):=by omega
       obtain⟨e,he⟩:∃ e,gr[q]?=some e:=⟨_,Jh (by have:=HN.out;omega)⟩
       obtain⟨b1,o1,rfl,c3⟩:=HS.li.at HC.out;have HEE:=q9 he;obtain⟨b0,o0,zs,ea0,hz0,d1,d2⟩:=HG.out q e he;subst ea0;have BZ:Blk wr b0 107 zs:=(HB.block b0 hz0.lt).trans hz0;have c1:wr.cell? (I1 b0 (o0+q*2))=some (I (end1 e)):=(BZ.cell _).trans d1;have c2:wr.cell? (I1 b0 (o0+q*2+1))=some (I (end2 e)):=(BZ.cell _).trans d2;clear hz0;clear he BZ
       rcases e with _|⟨a,b⟩
       . have hn1:(-1:Int)<0:=by decide
         have HCL2:=q9 (HCL.none HEE.out);change wr.cell? _=some (I (-1)) at c1 c2;go_upto_region 8 with fail
         go_quiet (fail)
         have HB2:=q9 (HB.trans ((QS wr nq).mono HB.size));have HS2:=q9 (RI.below HS.out (QS wr nq));generalize wr.drewN nq=W2 at HB2 HS2 |-;clear HB HS;obtain⟨b2,o2,ee,c3⟩:=HS2.li.at HC.out;injection ee with ee;injection ee with ee1 ee2;subst ee1 ee2;go_wp2_with fail
         go_roundw
         case rel=>exact⟨HB2.out,S,q+1,by simp,by have:=HN.out;omega,HC.out,HS2.out,HSN.out,HCL2.out⟩
         case measure=>simp [intOf];omega
       . have ha:¬ (a:Int)<0:=by omega
         change wr.cell? _=some (I (a:Int)) at c1;change wr.cell? _=some (I (b:Int)) at c2;have HED:Hid ((q,a,b)∈E):=q9 ((HE.out q a b).2 HEE.out);have HCS:Hid (c∈S):=q9 (Je HC.out);go_upto_region 8 with fail
         go_quiet (fail)
         have HB2:=q9 (HB.trans ((QS wr nq).mono HB.size));have HS2:=q9 (RI.below HS.out (QS wr nq));generalize wr.drewN nq=W2 at HB2 HS2 |-;clear HB HS;obtain⟨b2,o2,ee,c3⟩:=HS2.li.at HC.out;injection ee with ee;injection ee with ee1 ee2;subst ee1 ee2
         by_cases e1:a=c
         . subst e1
           have eb1:((a:Int)==(a:Int))=true:=beq_self_eq_true _
           by_cases hbS:b∈S
           . have HCL2:=q9 (HCL.some HEE.out (fun _=>hbS) (fun _=>HCS.out))
             have HBS:=q9 hbS;clear hbS
             by_cases e2:b=a
             . subst e2
               go_wp2_with fail
               refine(Qai HS2.li (by have:=HM.out;omega)).mono ?_
               rintro e w1 ⟨rfl,rfl⟩;rw[decide_eq_true HBS.out];go_wp2_with fail
               refine(Qai HS2.li (by have:=HM.out;omega)).mono ?_
               rintro e w1 ⟨rfl,rfl⟩;rw[decide_eq_true HBS.out];go_wp2_with fail
               go_roundw
               case rel=>exact⟨HB2.out,S,q+1,by simp,by have:=HN.out;omega,HC.out,HS2.out,HSN.out,HCL2.out⟩
               case measure=>simp [intOf];omega
             . have eb2:((b:Int)==(a:Int))=false:=Jf (by omega)
               clear e2;go_wp2_with fail
               refine(Qai HS2.li (by have:=HM.out;omega)).mono ?_
               rintro e w1 ⟨rfl,rfl⟩;rw[decide_eq_true HBS.out];go_wp2_with fail
               go_roundw
               case rel=>exact⟨HB2.out,S,q+1,by simp,by have:=HN.out;omega,HC.out,HS2.out,HSN.out,HCL2.out⟩
               case measure=>simp [intOf];omega
           . have hba:b≠a:=fun e=>hbS (e ▸ HCS.out)
             have eb2:((b:Int)==(a:Int))=false:=Jf (by omega)
             have hup:∀ z∈S,z∈S++[b]:=fun z hz=>Ka _ hz
             have HCL2:=q9 ((HCL.mono hup).some HEE.out (fun _=>by simp) (fun _=>hup _ HCS.out))
             have HBS:=q9 hbS
             have HC2:Hid ((S++[b])[j]?=some a):=q9 (by rw[List.getElem?_append_left (by rw[HM.out];exact hjl)];exact HC)
             have HSN2:=q9 (HSN.add (by rw[HM.out];omega) hbS (HLT.out _ _ _ HED.out).2 ((HSN.way a HCS.out).fore HED.out))
             clear hbS hba hup;go_wp2_with fail
             refine(Qai HS2.li (by have:=HM.out;omega)).mono ?_
             rintro e w1 ⟨rfl,rfl⟩;rw[decide_eq_false HBS.out]
             go_wp2_with (at_builtin;refine QV (c:=b) W2 rfl _ _ rfl rfl HS2.out rfl (by have:=HM.out;omega) HB2.size ?_)
             intro v3 w3 hR3 hb3 _;have HB3:=q9 (HB2.trans hb3);have HR3:=q9 hR3;clear hb3 hR3 HB2 HS2;obtain⟨a3,k3,rfl,_⟩:=HR3.li.shape
             have HM3:Hid ((S++[b]).length=m+1):=q9 (by rw[List.length_append,HM.out];rfl)
             rw[HM3.out] at HR3;rw[HM3.out];obtain⟨b4,o4,rfl,c4⟩:=HR3.li.at HC2.out
             have jI4:(j:Int)<((m+1:Nat):Int):=by omega
             go_wp2_with fail
             go_roundw
             case rel=>exact⟨HB3.out,S++[b],q+1,by simp,by have:=HN.out;omega,HC2.out,HR3.out,HSN2.out,HCL2.out⟩
             case measure=>simp [intOf];omega
         . have eb1:((a:Int)==(c:Int))=false:=Jf (by omega)
           have HE1:=q9 e1;clear e1
           by_cases e2:b=c
           . subst e2
             have eb2:((b:Int)==(b:Int))=true:=beq_self_eq_true _
             by_cases haS:a∈S
             . have HCL2:=q9 (HCL.some HEE.out (fun e=>absurd e HE1.out) (fun _=>haS))
               have HAS:=q9 haS;clear haS;go_wp2_with fail
               refine(Qai HS2.li (by have:=HM.out;omega)).mono ?_
               rintro e w1 ⟨rfl,rfl⟩;rw[decide_eq_true HAS.out];go_wp2_with fail
               go_roundw
               case rel=>exact⟨HB2.out,S,q+1,by simp,by have:=HN.out;omega,HC.out,HS2.out,HSN.out,HCL2.out⟩
               case measure=>simp [intOf];omega
             . have hup:∀ z∈S,z∈S++[a]:=fun z hz=>Ka _ hz
               have HCL2:=q9 ((HCL.mono hup).some HEE.out (fun e=>absurd e HE1.out) (fun _=>by simp))
               have HAS:=q9 haS
               have HC2:Hid ((S++[a])[j]?=some b):=q9 (by rw[List.getElem?_append_left (by rw[HM.out];exact hjl)];exact HC)
               have HSN2:=q9 (HSN.add (by rw[HM.out];omega) haS (HLT.out _ _ _ HED.out).1 ((HSN.way b HCS.out).back HED.out))
               clear haS hup;go_wp2_with fail
               refine(Qai HS2.li (by have:=HM.out;omega)).mono ?_
               rintro e w1 ⟨rfl,rfl⟩;rw[decide_eq_false HAS.out]
               go_wp2_with (at_builtin;refine QV (c:=a) W2 rfl _ _ rfl rfl HS2.out rfl (by have:=HM.out;omega) HB2.size ?_)
               intro v3 w3 hR3 hb3 _;have HB3:=q9 (HB2.trans hb3);have HR3:=q9 hR3;clear hb3 hR3 HB2 HS2;obtain⟨a3,k3,rfl,_⟩:=HR3.li.shape
               have HM3:Hid ((S++[a]).length=m+1):=q9 (by rw[List.length_append,HM.out];rfl)
               rw[HM3.out] at HR3;rw[HM3.out];go_wp2_with fail
               go_roundw
               case rel=>exact⟨HB3.out,S++[a],q+1,by simp,by have:=HN.out;omega,HC2.out,HR3.out,HSN2.out,HCL2.out⟩
               case measure=>simp [intOf];omega
           . have eb2:((b:Int)==(c:Int))=false:=Jf (by omega)
             have HCL2:=q9 (HCL.some HEE.out (fun e=>absurd e HE1.out) (fun e=>absurd e e2))
             clear e2;go_wp2_with fail
             go_roundw
             case rel=>exact⟨HB2.out,S,q+1,by simp,by have:=HN.out;omega,HC.out,HS2.out,HSN.out,HCL2.out⟩
             case measure=>simp [intOf];omega
     . have ek:q=n:=by omega
       subst ek
       have kI:¬ (q:Int)<(q:Int):=by omega
       clear hq hqn;go_wp2_with fail
       go_roundw
       case rel=>
        refine⟨HB.out,S,j+1,by simp,by have:=HM.out;omega,HS.out,HSN.next HC.out ?_⟩
        rw[HN.out];exact HCL
       case measure=>simp [intOf];omega
  . have ek:j=m:=by omega
    subst ek
    have kI:¬ (j:Int)<(j:Int):=by omega
    clear hj hjm;go_wp2_with fail
    refine(Qai HS.li (by have:=HM.out;omega)).mono ?_
    rintro e w1 ⟨rfl,rfl⟩;go_wp2_with fail
    go_ret;refine⟨_,rfl,?_,HB⟩;rw[decide_eq_true_iff];have h1:=HSN.out;rw[<-HM.out] at h1;exact h1.done HE y
end
section
variable {w0:World}{i n:Nat}
def Qe5 (w0:World)(n:Nat)(i:Value)(W:World):Prop:=Below w0.heap.size w0 W/\∃ k,k<=n/\i=I ((k:Nat):Int)
end
section
variable {w w':World}{base p gb cap m:Nat}{V S T:Int}{f:Nat->Int}{mk:Nat->Nat}{ts:List Tp}{vl:Value}{ls:List E1}{u:Nat}
theorem EW.own {w:World}(h:EW w base vl ls):∀ i,vl.ownBlock=some i->base<=i/\∃ cs,Blk w i 67 cs:=by
 rcases h.shape with ⟨rfl,_⟩|⟨g,c,cs,rfl,hg,hz,_⟩
 . intro i hi;cases hi
 . intro i hi
   have e:g=i:=by injection hi
   subst e;exact⟨hg,cs,hz⟩
theorem EW.ta {base:Nat}(h:EW w base vl ls)(A:TA w V S T p gb cap m f mk ts)(ho:Only p gb w w'):EW w' base vl ls:=by
 rcases h.shape with ⟨rfl,rfl⟩|⟨g,c,cs,rfl,hg,hz,_⟩
 . exact EW.nil _ _
 . refine h.kept_of fun i hi=>?_
   have e:g=i:=by injection hi
   subst e
   exact(Blk.ta hz A ho (by decide) (by decide)).trans hz.symm
theorem QhB (l:List E1)(i:Nat):Qu (l.take i)=(Qu l).take (i*5):=by
 induction l generalizing i with
 |nil=>simp [Qu]
 |cons x l ih=>
  cases i with
  |zero=>simp [Qu]
  |succ i=>simp only[List.take_succ_cons,Qu,ih,E1.cells,List.cons_append,List.nil_append,Nat.succ_mul]
theorem QhC (l:List E1)(i:Nat):Qu (l.drop i)=(Qu l).drop (i*5):=by
 induction l generalizing i with
 |nil=>simp [Qu]
 |cons x l ih=>
  cases i with
  |zero=>simp [Qu]
  |succ i=>simp only[List.drop_succ_cons,Qu,ih,E1.cells,List.cons_append,List.nil_append,Nat.succ_mul]
theorem EW.src {w:World}{g n c:Nat}(h:EW w base (I3 (I1 g 0) n c) ls):∀ (j:Nat) (u:Value),(Qu ls)[j]?=some u->w.cell? (I1 g j)=some u:=by
 intro j u hj
 rcases h.shape with ⟨e,_⟩|⟨g',c',cs,e,hg,hz,h1,h2,⟨h3,h4⟩,_⟩
 . cases e
 . injection e with e1 e2 e3
   injection e1 with e1;injection e1 with e1;subst e1;rw[hz.cell,<-Array.getElem?_toList];rw[<-h4] at hj
   have hjl:j<ls.length*5:=by
    have:=(Jd hj).1;rw[List.length_take] at this;omega
   rwa [List.getElem?_take_of_lt hjl] at hj
theorem EW.src_take {w:World}{g n c:Nat}(h:EW w base (I3 (I1 g 0) n c) ls)(i:Nat):∀ (j:Nat) (u:Value),(Qu (ls.take i))[j]?=some u->w.cell? (((I1 g 0):Addr).add j)=some u:=by
 intro j u hj;rw[Addr.add_lit,Nat.zero_add];rw[QhB] at hj;refine h.src j u ?_;have hjl:=(Jd hj).1;rw[List.length_take] at hjl
 rwa [List.getElem?_take_of_lt (by omega)] at hj
theorem EW.src_drop {w:World}{g n c:Nat}(h:EW w base (I3 (I1 g 0) n c) ls)(i:Nat):∀ (j:Nat) (u:Value),(Qu (ls.drop i))[j]?=some u->w.cell? (((I1 g (i*5)):Addr).add j)=some u:=by
 intro j u hj;rw[Addr.add_lit];rw[QhC,List.getElem?_drop] at hj;exact h.src _ u hj
theorem Qbj (l:List E1)(i:Nat):l.take i++l.drop (i+1)=l.eraseIdx i:=(List.eraseIdx_eq_take_drop_succ l i).symm
end
def QaO (gr:List (Option (Nat × Nat))):List Value:=gr.flatMap fun e=>[I (end1 e),I (end2 e)]
theorem Qfy (gr:List (Option (Nat × Nat))):(QaO gr).length=gr.length*2:=by
 unfold QaO
 induction gr with
 |nil=>rfl
 |cons x l ih=>rw[List.flatMap_cons,List.length_append,ih];simp;omega
theorem Qdk:∀ (gr:List (Option (Nat × Nat))) (k:Nat) (e:Option (Nat × Nat)),gr[k]?=some e->(QaO gr)[k*2]?=some (I (end1 e))/\(QaO gr)[k*2+1]?=some (I (end2 e))
 |[],_,_,h=>by simp at h
 |x :: l,0,e,h=>by
  simp at h;subst h;exact⟨rfl,rfl⟩
 |x :: l,k+1,e,h=>by
  have:=Qdk l k e (by simpa using h)
  have e2:(k+1)*2=k*2+2:=by omega
  rw[e2,show k*2+2+1=(k*2+1)+2 by omega]
  show (I (end1 x) :: I (end2 x) :: QaO l)[k*2+2]?=_/\(I (end1 x) :: I (end2 x) :: QaO l)[k*2+1+2]?=_;simp only[List.getElem?_cons_succ];exact this
theorem Qhy (gr:List (Option (Nat × Nat))):∀ u∈QaO gr,u.oneCell'=true:=by
 intro u hu;unfold QaO at hu;obtain⟨e,_,h⟩:=List.mem_flatMap.1 hu;simp only[List.mem_cons,List.not_mem_nil,or_false] at h
 rcases h with rfl|rfl<;>rfl
theorem Qhx (gr:List (Option (Nat × Nat)))(e:Option (Nat × Nat)):QaO (gr++[e])=QaO gr++[I (end1 e),I (end2 e)]:=by unfold QaO;rw[List.flatMap_append];rfl
def GOW (w:World)(base:Nat)(v:Value)(gr:List (Option (Nat × Nat))):Prop:=w.ownsRow base 107 2 v gr.length (QaO gr)
section
variable {w w':World}{base:Nat}{v:Value}{gr:List (Option (Nat × Nat))}{e:Option (Nat × Nat)}
theorem GOW.nil (w:World)(base:Nat):GOW w base (.slice none 0 0) []:=World.ownsRow_nil _ _ _ _
theorem GOW.alloc (h:GOW w base v gr)(o:Obj):GOW (w.alloc o) base v gr:=World.ownsRow.alloc h o
theorem GOW.slice (h:GOW w base v gr):∃ a cap,v=.slice a gr.length cap:=by
 rcases h.2 with ⟨rfl,h0⟩|⟨g,cap,cur,rfl,_⟩
 . exact⟨none,0,by rw[h0]⟩
 . exact⟨_,cap,rfl⟩
theorem GOW.lt (h:GOW w base v gr):∀ k,v.ownBlock=some k->base<=k/\k<w.heap.size:=World.ownsRow.lt h
theorem GOW.gj (h:GOW w base v gr):GJ w v gr:=by
 rcases h.2 with ⟨rfl,h0⟩|⟨g,cap,cur,rfl,hg,hgg,h1,h2,h3,h4⟩
 . exact⟨none,0,by rw[h0],fun k e he=>by rw[List.eq_nil_of_length_eq_zero h0] at he;simp at he⟩
 . refine⟨_,cap,rfl,fun k e he=>⟨g,0,cur,rfl,hgg,?_⟩⟩
   have hf:=Qdk gr k e he;have hk:=(Jd he).1
   have hc:∀ j,j<gr.length*2->cur[j]?=(QaO gr)[j]?:=fun j hj=>by
    rw[<-h4,List.getElem?_take_of_lt hj,Array.getElem?_toList]
   rw[Nat.zero_add,hc _ (by omega),hc _ (by omega)]
   exact hf
theorem Qd3 (h:GOW w base v gr)(ad:Addr)(c:Nat)(hc:∀ (j:Nat) (u:Value),([I (end1 e),I (end2 e)]:List Value)[j]?=some u->w.cell? (ad.add j)=some u)(hl:gr.length<=10000)(hb:base<=w.heap.size)(ty:TypeId):
 ∃ v' w',(Builtin.append_ #[102,102] ty #[v,.slice (some ad) 1 c]).run prog w=.ok v' w'/\GOW w' base v' (gr++[e])/\w.grownBy w' v.ownBlock:=by
 obtain⟨i0,hi0,hz0,hz1,hz2⟩:=info_parts QeR
 obtain⟨v',w',hrun,h1,h2,_⟩:=run_append_own_at (P:=prog) w base 102 ty 107 i0 _ 2 16 underlying102 hi0 hz0 hz1 hz2 rfl (by omega) v gr.length (QaO gr) h ad 1 c [I (end1 e),I (end2 e)] rfl hc (by intro u hu;simp at hu;rcases hu with rfl|rfl<;>rfl) (by simp only[maxLen];omega) (by omega) hb
 refine⟨v',w',hrun,?_,h2⟩;unfold GOW;rw[List.length_append,Qhx];exact h1
end
theorem Qj8 {w:World}{r:Nat}{ty:TypeId}(hr:r=w.heap.size)(a b:Value):∀ (j:Nat) (u:Value),([a,b]:List Value)[j]?=some u->(w.alloc (.cells #[a,b] ty)).cell? (((I1 r 0):Addr).add j)=some u:=by
 subst hr;intro j u hj;rw[Addr.add_lit,Nat.zero_add,(Blk.new w _ _).cell];rw[<-hj,<-Array.getElem?_toList]
def posE:List (Nat × Nat)->Nat->List (Nat × Nat × Nat)
 |[],_=>[]
 |p :: l,s=>(s,p.1,p.2) :: posE l (s+1)
theorem Qcr:∀ {l:List (Nat × Nat)} {s s' a b:Nat},(s',a,b)∈posE l s↔s<=s'/\l[s'-s]?=some (a,b)
 |[],s,s',a,b=>by simp [posE]
 |p :: l,s,s',a,b=>by
  unfold posE;rw[List.mem_cons,Qcr (l:=l) (s:=s+1)]
  by_cases e:s'=s
  . subst e
    rw[Nat.sub_self];simp only[Prod.mk.injEq,true_and,List.getElem?_cons_zero,Option.some.injEq,Nat.le_refl]
    constructor
    . rintro(⟨h1,h2⟩|⟨h,_⟩)
      . exact Prod.ext h1.symm h2.symm
      . omega
    . intro h;rw[h];exact .inl ⟨rfl,rfl⟩
  . constructor
    . rintro(h|⟨h1,h2⟩)
      . simp only[Prod.mk.injEq] at h;exact absurd h.1 e
      . refine⟨by omega,?_⟩
        rw[show s'-s=(s'-(s+1))+1 by omega,List.getElem?_cons_succ];exact h2
    . rintro⟨h1,h2⟩
      refine .inr ⟨by omega,?_⟩
      rw[show s'-s=(s'-(s+1))+1 by omega,List.getElem?_cons_succ] at h2;exact h2
theorem Way.pairs {E F:List (Nat × Nat × Nat)}{u v:Nat}(h:∀ s a b,(s,a,b)∈E->∃ s',(s',a,b)∈F)(hw:Way E u v):Way F u v:=by
 induction hw with
 |refl=>exact .refl _
 |fore _ he ih=>obtain⟨_,h'⟩:=h _ _ _ he;exact ih.fore h'
 |back _ he ih=>obtain⟨_,h'⟩:=h _ _ _ he;exact ih.back h'
end Go.Proofs.YtfpnjpbpfgjakaaGreat
