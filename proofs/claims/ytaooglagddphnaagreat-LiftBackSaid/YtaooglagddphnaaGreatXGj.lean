/- Gj -/
import Derived.Test.YtaooglagddphnaaGreatXGi
import Derived.Test.YtaooglagddphnaaGreatXGd
import Derived.Test.YtaooglagddphnaaGreatXGe
import Derived.Test.YtaooglagddphnaaGreatXGt
import Derived.Test.YtaooglagddphnaaGreatXU
import Derived.Test.YtaooglagddphnaaGreatXW
namespace Go.Proofs.YtaooglagddphnaaGreat
open Go.RowKit
set_option maxRecDepth 100000
def GJ (w:World)(v:Value)(gr:List (Option (Nat × Nat))):Prop:=
 ∃ a cap,v=.slice a gr.length cap/\∀ (k:Nat) (e:Option (Nat × Nat)),gr[k]?=some e->∃ b off zs,a=some (I1 b off)/\Blk w b 72 zs/\zs[off+k*2]?=some (I (end1 e))/\zs[off+k*2+1]?=some (I (end2 e))
section
variable {w:World}{v:Value}{gr:List (Option (Nat × Nat))}{E:List (Nat × Nat × Nat)}{V x y:Nat}
set_option maxHeartbeats 2000000 in
theorem QiJ (h:GJ w v gr)(hl:gr.length<=1000)(hE:Lnk gr E)(hx:x<V)(hV:V<=1000)(hlt:∀ s a b,(s,a,b)∈E->a<V/\b<V):
 Calls Tryz.prog 43 #[v,I (x:Int),I (y:Int)] w fun e w'=>∃ r,e=.returned (.bool r)/\(r=true↔Way E x y)/\Below w.heap.size w w':=by
 obtain⟨a0,c0,rfl,hg⟩:=h;have HG:=q9 hg;have HE:=q9 hE;have HLT:=q9 hlt;have HX:=q9 hx;obtain⟨n,hn⟩:∃ n,gr.length=n:=⟨_,rfl⟩;have HN:=q9 hn;rw[hn] at hl;rw[hn]
 have nI:(n:Int)<=1000:=by omega
 clear hg hE hlt hx hn
 go_enter Tryz.func43,Tryz.ntmps43
 go_wp2_with fail
 have HRel:Hid (QkX w gr E V x (I3 (I1 w.heap.size 0) 1 1) (I 0) (w.alloc (.cells #[I (x:Int)] 3))):=q9 ⟨(Below.refl _ _).alloc (Nat.le_refl _) _,[x],0,rfl,Nat.zero_le _,⟨rfl,.inr ⟨_,1,#[I (x:Int)],rfl,Nat.le_refl _,Blk.new w _ _,Nat.le_refl _,by simp [maxLen],rfl,rfl⟩⟩,Sn.one HX.out⟩
 go_loopw [7,8,9,10,11] (fun s i _ _ _ wr=>QkX w gr E V x s i wr) (fun _ i _ _ _ _=>V+1-(intOf i).toNat)
 case atStart=>exact HRel.out
 case round=>
  clear HRel;obtain⟨hb,S,j,rfl,hj,hs,hsn⟩:=hrel;have HB:=q9 hb;have HS:=q9 hs;have HSN:=q9 hsn;have hlen:=hsn.len;obtain⟨a1,k1,rfl,_⟩:=HS.li.shape;obtain⟨m,hm⟩:∃ m,S.length=m:=⟨_,rfl⟩;have HM:=q9 hm;rw[hm] at HS hj hlen;rw[hm];clear hb hs hsn hm
  by_cases hjm:j<m
  . have kI:(j:Int)<(m:Int):=by omega
    obtain⟨c,hc⟩:∃ c,S[j]?=some c:=⟨_,List.getElem?_eq_getElem (by have:=HM.out;omega)⟩
    have HC:=q9 hc;clear hc;go_wp2_with fail
    have HIn:Hid (QkY w gr E V x j c (.slice a1 m k1) (I 0) wr):=q9 ⟨HB.out,S,0,rfl,Nat.zero_le _,HC.out,HS.out,HSN.out,Clo.zero⟩;clear HB HS HSN HC HM kI hjm hj hlen
    go_loopw [7,9,10,11] (fun s k _ _ wr2=>QkY w gr E V x j c s k wr2) (fun _ k _ _ _=>n-(intOf k).toNat)
    case atStart=>exact HIn.out
    case round=>
     clear HIn;obtain⟨hb,S,q,rfl,hq,hc,hs,hsn,hcl⟩:=hrel;have HB:=q9 hb;have HS:=q9 hs;have HSN:=q9 hsn;have HC:=q9 hc;have HCL:=q9 hcl;have hlen:=hsn.len;have hjl:=(List.getElem?_eq_some_iff.1 hc).1;obtain⟨a1,k1,rfl,_⟩:=HS.li.shape;obtain⟨m,hm⟩:∃ m,S.length=m:=⟨_,rfl⟩;have HM:=q9 hm;rw[hm] at HS hlen hjl;rw[hm];rw[HN.out] at hq;clear hb hs hsn hc hcl hm
     by_cases hqn:q<n
     . have kI:(q:Int)<(n:Int):=by omega
       have q0:(0:Int)<=(q:Int):=by omega
       have jI:(j:Int)<(m:Int):=by omega
       have j0:(0:Int)<=(j:Int):=by omega
       obtain⟨e,he⟩:∃ e,gr[q]?=some e:=⟨_,List.getElem?_eq_getElem (by have:=HN.out;omega)⟩
       obtain⟨b1,o1,rfl,c3⟩:=HS.li.at HC.out;have HEE:=q9 he;obtain⟨b0,o0,zs,ea0,hz0,d1,d2⟩:=HG.out q e he;subst ea0;have BZ:Blk wr b0 72 zs:=(HB.block b0 hz0.lt).trans hz0;have c1:wr.cell? (I1 b0 (o0+q*2))=some (I (end1 e)):=(BZ.cell _).trans d1;have c2:wr.cell? (I1 b0 (o0+q*2+1))=some (I (end2 e)):=(BZ.cell _).trans d2;clear hz0 d1 d2;clear he BZ
       rcases e with _|⟨a,b⟩
       . have hn1:(-1:Int)<0:=by decide
         have HCL2:=q9 (HCL.none HEE.out);change wr.cell? _=some (I (-1)) at c1 c2;go_upto_region 8 with fail
         go_quiet (fail)
         have HB2:=q9 (HB.trans ((QS wr nq).mono HB.size));have HS2:=q9 (RI.below HS.out (QS wr nq));generalize wr.drewN nq=W2 at HB2 HS2 |-;clear c1 c2 c3 HB HS;obtain⟨b2,o2,ee,c3⟩:=HS2.li.at HC.out;injection ee with ee;injection ee with ee1 ee2;subst ee1 ee2;go_wp2_with fail
         go_roundw
         case rel=>exact⟨HB2.out,S,q+1,by simp,by have:=HN.out;omega,HC.out,HS2.out,HSN.out,HCL2.out⟩
         case measure=>simp [intOf];omega
       . have ha:¬ (a:Int)<0:=by omega
         change wr.cell? _=some (I (a:Int)) at c1;change wr.cell? _=some (I (b:Int)) at c2;have HED:Hid ((q,a,b)∈E):=q9 ((HE.out q a b).2 HEE.out);have HCS:Hid (c∈S):=q9 (List.mem_of_getElem? HC.out);go_upto_region 8 with fail
         go_quiet (fail)
         have HB2:=q9 (HB.trans ((QS wr nq).mono HB.size));have HS2:=q9 (RI.below HS.out (QS wr nq));generalize wr.drewN nq=W2 at HB2 HS2 |-;clear c1 c2 c3 HB HS;obtain⟨b2,o2,ee,c3⟩:=HS2.li.at HC.out;injection ee with ee;injection ee with ee1 ee2;subst ee1 ee2
         by_cases e1:a=c
         . subst e1
           have eb1:((a:Int)==(a:Int))=true:=beq_self_eq_true _
           by_cases hbS:b∈S
           . have HCL2:=q9 (HCL.some HEE.out (fun _=>hbS) (fun _=>HCS.out))
             have HBS:=q9 hbS;clear hbS
             by_cases e2:b=a
             . subst e2
               go_wp2_with fail
               refine(Qai HS2.li (by have:=HM.out;omega)).mono ?_
               rintro e w1 ⟨rfl,rfl⟩;rw[decide_eq_true HBS.out];go_wp2_with fail
               refine(Qai HS2.li (by have:=HM.out;omega)).mono ?_
               rintro e w1 ⟨rfl,rfl⟩;rw[decide_eq_true HBS.out];go_wp2_with fail
               go_roundw
               case rel=>exact⟨HB2.out,S,q+1,by simp,by have:=HN.out;omega,HC.out,HS2.out,HSN.out,HCL2.out⟩
               case measure=>simp [intOf];omega
             . have eb2:((b:Int)==(a:Int))=false:=beq_eq_false_iff_ne.2 (by omega)
               clear e2;go_wp2_with fail
               refine(Qai HS2.li (by have:=HM.out;omega)).mono ?_
               rintro e w1 ⟨rfl,rfl⟩;rw[decide_eq_true HBS.out];go_wp2_with fail
               go_roundw
               case rel=>exact⟨HB2.out,S,q+1,by simp,by have:=HN.out;omega,HC.out,HS2.out,HSN.out,HCL2.out⟩
               case measure=>simp [intOf];omega
           . have hba:b≠a:=fun e=>hbS (e ▸ HCS.out)
             have eb2:((b:Int)==(a:Int))=false:=beq_eq_false_iff_ne.2 (by omega)
             have hup:∀ z∈S,z∈S++[b]:=fun z hz=>List.mem_append_left _ hz
             have HCL2:=q9 ((HCL.mono hup).some HEE.out (fun _=>by simp) (fun _=>hup _ HCS.out))
             have HBS:=q9 hbS
             have HC2:Hid ((S++[b])[j]?=some a):=q9 (by rw[List.getElem?_append_left (by rw[HM.out];exact hjl)];exact HC)
             have HSN2:=q9 (HSN.add (by rw[HM.out];omega) hbS (HLT.out _ _ _ HED.out).2 ((HSN.way a HCS.out).fore HED.out))
             clear hbS hba hup;go_wp2_with fail
             refine(Qai HS2.li (by have:=HM.out;omega)).mono ?_
             rintro e w1 ⟨rfl,rfl⟩;rw[decide_eq_false HBS.out]
             go_wp2_with (at_builtin;refine QV (c:=b) W2 rfl _ _ rfl rfl HS2.out rfl (by have:=HM.out;omega) HB2.size ?_)
             intro v3 w3 hR3 hb3 _;have HB3:=q9 (HB2.trans hb3);have HR3:=q9 hR3;clear hb3 hR3 HB2 HS2 c3;obtain⟨a3,k3,rfl,_⟩:=HR3.li.shape
             have HM3:Hid ((S++[b]).length=m+1):=q9 (by rw[List.length_append,HM.out];rfl)
             rw[HM3.out] at HR3;rw[HM3.out];obtain⟨b4,o4,rfl,c4⟩:=HR3.li.at HC2.out
             have jI4:(j:Int)<((m+1:Nat):Int):=by omega
             go_wp2_with fail
             go_roundw
             case rel=>exact⟨HB3.out,S++[b],q+1,by simp,by have:=HN.out;omega,HC2.out,HR3.out,HSN2.out,HCL2.out⟩
             case measure=>simp [intOf];omega
         . have eb1:((a:Int)==(c:Int))=false:=beq_eq_false_iff_ne.2 (by omega)
           have HE1:=q9 e1;clear e1
           by_cases e2:b=c
           . subst e2
             have eb2:((b:Int)==(b:Int))=true:=beq_self_eq_true _
             by_cases haS:a∈S
             . have HCL2:=q9 (HCL.some HEE.out (fun e=>absurd e HE1.out) (fun _=>haS))
               have HAS:=q9 haS;clear haS;go_wp2_with fail
               refine(Qai HS2.li (by have:=HM.out;omega)).mono ?_
               rintro e w1 ⟨rfl,rfl⟩;rw[decide_eq_true HAS.out];go_wp2_with fail
               go_roundw
               case rel=>exact⟨HB2.out,S,q+1,by simp,by have:=HN.out;omega,HC.out,HS2.out,HSN.out,HCL2.out⟩
               case measure=>simp [intOf];omega
             . have hup:∀ z∈S,z∈S++[a]:=fun z hz=>List.mem_append_left _ hz
               have HCL2:=q9 ((HCL.mono hup).some HEE.out (fun e=>absurd e HE1.out) (fun _=>by simp))
               have HAS:=q9 haS
               have HC2:Hid ((S++[a])[j]?=some b):=q9 (by rw[List.getElem?_append_left (by rw[HM.out];exact hjl)];exact HC)
               have HSN2:=q9 (HSN.add (by rw[HM.out];omega) haS (HLT.out _ _ _ HED.out).1 ((HSN.way b HCS.out).back HED.out))
               clear haS hup;go_wp2_with fail
               refine(Qai HS2.li (by have:=HM.out;omega)).mono ?_
               rintro e w1 ⟨rfl,rfl⟩;rw[decide_eq_false HAS.out]
               go_wp2_with (at_builtin;refine QV (c:=a) W2 rfl _ _ rfl rfl HS2.out rfl (by have:=HM.out;omega) HB2.size ?_)
               intro v3 w3 hR3 hb3 _;have HB3:=q9 (HB2.trans hb3);have HR3:=q9 hR3;clear hb3 hR3 HB2 HS2 c3;obtain⟨a3,k3,rfl,_⟩:=HR3.li.shape
               have HM3:Hid ((S++[a]).length=m+1):=q9 (by rw[List.length_append,HM.out];rfl)
               rw[HM3.out] at HR3;rw[HM3.out];go_wp2_with fail
               go_roundw
               case rel=>exact⟨HB3.out,S++[a],q+1,by simp,by have:=HN.out;omega,HC2.out,HR3.out,HSN2.out,HCL2.out⟩
               case measure=>simp [intOf];omega
           . have eb2:((b:Int)==(c:Int))=false:=beq_eq_false_iff_ne.2 (by omega)
             have HCL2:=q9 (HCL.some HEE.out (fun e=>absurd e HE1.out) (fun e=>absurd e e2))
             clear e2;go_wp2_with fail
             go_roundw
             case rel=>exact⟨HB2.out,S,q+1,by simp,by have:=HN.out;omega,HC.out,HS2.out,HSN.out,HCL2.out⟩
             case measure=>simp [intOf];omega
     . have ek:q=n:=by omega
       subst ek
       have kI:¬ (q:Int)<(q:Int):=by omega
       clear hq hqn;go_wp2_with fail
       go_roundw
       case rel=>
        refine⟨HB.out,S,j+1,by simp,by have:=HM.out;omega,HS.out,HSN.next HC.out ?_⟩
        rw[HN.out];exact HCL
       case measure=>simp [intOf];omega
  . have ek:j=m:=by omega
    subst ek
    have kI:¬ (j:Int)<(j:Int):=by omega
    clear hj hjm;go_wp2_with fail
    refine(Qai HS.li (by have:=HM.out;omega)).mono ?_
    rintro e w1 ⟨rfl,rfl⟩;go_wp2_with fail
    go_ret;refine⟨_,rfl,?_,HB⟩;rw[decide_eq_true_iff];have h1:=HSN.out;rw[<-HM.out] at h1;exact h1.done HE y
end
def PB13 (w:World)(q:Nat)(V S T:Int)(p:Nat)(v:Value):Prop:=Blk w q 54 #[I V,I S,I T,.pointer (some (I1 p 0)),I V,I S,I T,I4 p,I 1,I 0,I V,I S,I T,I4 p,v]
section
variable {w w' w0:World}{V S T:Int}{q p gb cap m base s u v9 i n:Nat}{f:Nat->Int}{mk:Nat->Nat}{ts:List Tp}{v:Value}{l:List E1}{x:E1}
theorem PB13.cells (h:PB13 w q V S T p v):w.cell? (I1 q 0)=some (I V)/\w.cell? (I1 q 1)=some (I S)/\w.cell? (I1 q 2)=some (I T)/\w.cell? (I1 q 3)=some (.pointer (some (I1 p 0)))/\w.cell? (I1 q 4)=some (I V)/\w.cell? (I1 q 5)=some (I S)/\w.cell? (I1 q 6)=some (I T)/\w.cell? (I1 q 7)=some (I4 p)/\w.cell? (I1 q 8)=some (I 1)/\w.cell? (I1 q 9)=some (I 0)/\w.cell? (I1 q 10)=some (I V)/\w.cell? (I1 q 11)=some (I S)/\w.cell? (I1 q 12)=some (I T)/\w.cell? (I1 q 13)=some (I4 p)/\w.cell? (I1 q 14)=some (v):=
 ⟨Blk.cell h 0,Blk.cell h 1,Blk.cell h 2,Blk.cell h 3,Blk.cell h 4,Blk.cell h 5,Blk.cell h 6,Blk.cell h 7,Blk.cell h 8,Blk.cell h 9,Blk.cell h 10,Blk.cell h 11,Blk.cell h 12,Blk.cell h 13,Blk.cell h 14⟩
theorem PB13.lt (h:PB13 w q V S T p v):q<w.heap.size:=Blk.lt h
theorem PB13.below (h:PB13 w q V S T p v)(hb:Below w.heap.size w w'):PB13 w' q V S T p v:=Blk.below h hb (Blk.lt h)
def Qe5 (w0:World)(n:Nat)(i:Value)(W:World):Prop:=Below w0.heap.size w0 W/\∃ k,k<=n/\i=I ((k:Nat):Int)
theorem Qh6 (hq:PB13 w q V S T p v)(hO:EW w base v l)(hl:l.length<=1000)(hno:∀ x∈l,x.s≠s):
 Calls Tryz.prog 19 #[.pointer (some (I1 q 0)),I (s:Int)] w fun e w'=>e=.returned (I (-1))/\Below w.heap.size w w':=by
 obtain⟨av,ac,rfl⟩:=hO.slice;obtain⟨n,hn⟩:∃ n,l.length=n:=⟨_,rfl⟩;have HN:=q9 hn;have HQ:=q9 hq;have HO:=q9 hO;have HS:=q9 hno;clear hno;rw[hn] at HQ HO hl
 have nI:(n:Int)<=1000:=by omega
 have HRel:Hid (Qe5 w n (I 0) w):=q9 ⟨Below.refl _ _,0,Nat.zero_le _,rfl⟩;clear hq hO hn;obtain⟨c0,c1,c2,c3,c4,c5,c6,c7,c8,c9,c10,c11,c12,c13,c14⟩:=HQ.cells;have qlt:=HQ.lt
 go_enter Tryz.func19,Tryz.ntmps19
 go_wp2_with fail
 clear c0 c1 c2 c3 c4 c5 c6 c7 c8 c9 c10 c11 c12 c13 c14 qlt
 go_loopw [12] (fun i9 wr=>Qe5 w n i9 wr) (fun i9 _=>n-(intOf i9).toNat)
 case atStart=>exact HRel.out
 case round=>
  clear HRel;obtain⟨hb,k,hk,rfl⟩:=hrel;have HB:=q9 hb;clear hb
  by_cases hkn:k<n
  . obtain⟨x,hx⟩:∃ x,l[k]?=some x:=⟨_,List.getElem?_eq_getElem (by have:=HN.out;omega)⟩
    obtain⟨g,cp9,e,_,glt,_,y0,y1,y2,y3,y4⟩:=(HO.below HB.out).at hx;injection e with e1 e2 e3;subst e1 e3
    have kI:(k:Int)<(n:Int):=by omega
    have k0:(0:Int)<=(k:Int):=by omega
    have hne:((x.s:Int)==(s:Int))=false:=beq_eq_false_iff_ne.2 fun e=>HS.out x (List.mem_of_getElem? hx) (by omega)
    clear hx e2;go_wp2_with fail
    exact⟨⟨HB.alloc HB.size _,k+1,by omega,by simp⟩,by simp [intOf];omega⟩
  . have ek:k=n:=by omega
    subst ek
    have kI:¬ (k:Int)<(k:Int):=by omega
    clear hk hkn;go_wp2_with fail
    go_ret;exact⟨rfl,HB⟩
theorem Qef (hq:PB13 w q V S T p v)(hO:EW w base v l)(hl:l.length<=1000)(hi:l[i]?=some x)(hx:x.s=s)(hu:∀ j y,l[j]?=some y->y.s=s->j=i):
 Calls Tryz.prog 19 #[.pointer (some (I1 q 0)),I (s:Int)] w fun e w'=>e=.returned (I (i:Int))/\Below w.heap.size w w':=by
 obtain⟨av,ac,rfl⟩:=hO.slice;obtain⟨n,hn⟩:∃ n,l.length=n:=⟨_,rfl⟩;have HN:=q9 hn;have HQ:=q9 hq;have HO:=q9 hO
 have HI:Hid (i<n/\l[i]?=some x/\x.s=s/\∀ j y,l[j]?=some y->y.s=s->j=i):=q9 ⟨by rw[<-hn];exact(List.getElem?_eq_some_iff.1 hi).1,hi,hx,hu⟩
 clear hi hx hu;rw[hn] at HQ HO hl
 have nI:(n:Int)<=1000:=by omega
 have HRel:Hid (Qe5 w i (I 0) w):=q9 ⟨Below.refl _ _,0,Nat.zero_le _,rfl⟩;clear hq hO hn;obtain⟨c0,c1,c2,c3,c4,c5,c6,c7,c8,c9,c10,c11,c12,c13,c14⟩:=HQ.cells;have qlt:=HQ.lt
 go_enter Tryz.func19,Tryz.ntmps19
 go_wp2_with fail
 clear c0 c1 c2 c3 c4 c5 c6 c7 c8 c9 c10 c11 c12 c13 c14 qlt
 go_loopw [12] (fun i9 wr=>Qe5 w i i9 wr) (fun i9 _=>n-(intOf i9).toNat)
 case atStart=>exact HRel.out
 case round=>
  clear HRel;obtain⟨hb,k,hk,rfl⟩:=hrel;have HB:=q9 hb;clear hb
  by_cases hki:k<i
  . obtain⟨x,hx⟩:∃ x,l[k]?=some x:=⟨_,List.getElem?_eq_getElem (by have:=HN.out;have:=HI.1;omega)⟩
    have hkn:k<n:=by have:=HI.1;omega
    obtain⟨g,cp9,e,_,glt,_,y0,y1,y2,y3,y4⟩:=(HO.below HB.out).at hx;injection e with e1 e2 e3;subst e1 e3
    have kI:(k:Int)<(n:Int):=by omega
    have k0:(0:Int)<=(k:Int):=by omega
    have hne:((x.s:Int)==(s:Int))=false:=beq_eq_false_iff_ne.2 fun e=>by have:=HI.2.2.2 k x hx (by omega);omega
    clear hx e2;go_wp2_with fail
    exact⟨⟨HB.alloc HB.size _,k+1,by omega,by simp⟩,by simp [intOf];omega⟩
  . have ek:k=i:=by omega
    subst ek;have hkn:k<n:=HI.1;have hx:=HI.2.1;obtain⟨g,cp9,e,_,glt,_,y0,y1,y2,y3,y4⟩:=(HO.below HB.out).at hx;injection e with e1 e2 e3;subst e1 e3
    have kI:(k:Int)<(n:Int):=by omega
    have k0:(0:Int)<=(k:Int):=by omega
    have hne:((x.s:Int)==(s:Int))=true:=by rw[HI.2.2.1];exact beq_self_eq_true _
    clear hk hki hx e2;go_wp2_with fail
    go_ret;exact⟨rfl,HB.alloc HB.size _⟩
end
def SlI (ls:List E1)(s:Nat)(r:Int):Prop:=(r=-1/\∀ x∈ls,x.s≠s)\/∃ (i:Nat) (x:E1),r=(i:Int)/\ls[i]?=some x/\x.s=s
section
variable {w w':World}{base q p gb cap m:Nat}{V S T r:Int}{f:Nat->Int}{mk:Nat->Nat}{ts:List Tp}{vl:Value}{ls:List E1}{s u v:Nat}
theorem QmW (ls:List E1)(s:Nat):∃ r,SlI ls s r:=by
 by_cases h:∃ x∈ls,x.s=s
 . obtain⟨x,hx,e⟩:=h
   obtain⟨i,hi⟩:=List.mem_iff_getElem?.1 hx;exact⟨i,.inr ⟨i,x,rfl,hi,e⟩⟩
 . exact⟨-1,.inl ⟨rfl,fun x hx e=>h ⟨x,hx,e⟩⟩⟩
theorem SlI.bd (h:SlI ls s r)(hl:ls.length<=1000):-1<=r/\r<1000:=by
 rcases h with ⟨rfl,_⟩|⟨i,x,rfl,hi,_⟩
 . omega
 . have:=(List.getElem?_eq_some_iff.1 hi).1;omega
theorem SlI.neg (h:SlI ls s r)(hr:¬ 0<=r):∀ x∈ls,x.s≠s:=by
 rcases h with ⟨_,h⟩|⟨i,x,rfl,_,_⟩
 . exact h
 . omega
theorem SlI.pos (h:SlI ls s r)(hr:0<=r):∃ (i:Nat) (x:E1),r=(i:Int)/\ls[i]?=some x/\x.s=s:=by
 rcases h with ⟨rfl,_⟩|h
 . omega
 . exact h
theorem Qhc (hq:PB13 w q V S T p vl)(hO:EW w base vl ls)(hE:ER V S T f ls)(hl:ls.length<=1000)(h:SlI ls s r):
 Calls Tryz.prog 19 #[.pointer (some (I1 q 0)),I (s:Int)] w fun e w'=>e=.returned (I r)/\Below w.heap.size w w':=by
 rcases h with ⟨rfl,h⟩|⟨i,x,rfl,hi,hx⟩
 . exact Qh6 hq hO hl h
 . exact Qef hq hO hl hi hx fun j y hj hy=>hE.slot1 hj hi (hy.trans hx.symm)
theorem EW.own {w:World}(h:EW w base vl ls):∀ i,vl.ownBlock=some i->base<=i/\∃ cs,Blk w i 56 cs:=by
 rcases h.shape with ⟨rfl,_⟩|⟨g,c,cs,rfl,hg,hz,_⟩
 . intro i hi;cases hi
 . intro i hi
   have e:g=i:=by injection hi
   subst e;exact⟨hg,cs,hz⟩
theorem EW.ta {base:Nat}(h:EW w base vl ls)(A:TA w V S T p gb cap m f mk ts)(ho:Only p gb w w'):EW w' base vl ls:=by
 rcases h.shape with ⟨rfl,rfl⟩|⟨g,c,cs,rfl,hg,hz,_⟩
 . exact EW.nil _ _
 . refine h.kept_of fun i hi=>?_
   have e:g=i:=by injection hi
   subst e
   exact(Blk.ta hz A ho (by decide) (by decide)).trans hz.symm
theorem QhB (l:List E1)(i:Nat):Qu (l.take i)=(Qu l).take (i*5):=by
 induction l generalizing i with
 |nil=>simp [Qu]
 |cons x l ih=>
  cases i with
  |zero=>simp [Qu]
  |succ i=>simp only[List.take_succ_cons,Qu,ih,E1.cells,List.cons_append,List.nil_append,Nat.succ_mul]
theorem QhC (l:List E1)(i:Nat):Qu (l.drop i)=(Qu l).drop (i*5):=by
 induction l generalizing i with
 |nil=>simp [Qu]
 |cons x l ih=>
  cases i with
  |zero=>simp [Qu]
  |succ i=>simp only[List.drop_succ_cons,Qu,ih,E1.cells,List.cons_append,List.nil_append,Nat.succ_mul]
theorem EW.src {w:World}{g n c:Nat}(h:EW w base (I3 (I1 g 0) n c) ls):∀ (j:Nat) (u:Value),(Qu ls)[j]?=some u->w.cell? (I1 g j)=some u:=by
 intro j u hj
 rcases h.shape with ⟨e,_⟩|⟨g',c',cs,e,hg,hz,h1,h2,⟨h3,h4⟩,_⟩
 . cases e
 . injection e with e1 e2 e3
   injection e1 with e1;injection e1 with e1;subst e1;rw[hz.cell,<-Array.getElem?_toList];rw[<-h4] at hj
   have hjl:j<ls.length*5:=by
    have:=(List.getElem?_eq_some_iff.1 hj).1;rw[List.length_take] at this;omega
   rwa [List.getElem?_take_of_lt hjl] at hj
theorem EW.src_take {w:World}{g n c:Nat}(h:EW w base (I3 (I1 g 0) n c) ls)(i:Nat):∀ (j:Nat) (u:Value),(Qu (ls.take i))[j]?=some u->w.cell? (((I1 g 0):Addr).add j)=some u:=by
 intro j u hj;rw[Addr.add_lit,Nat.zero_add];rw[QhB] at hj;refine h.src j u ?_;have hjl:=(List.getElem?_eq_some_iff.1 hj).1;rw[List.length_take] at hjl
 rwa [List.getElem?_take_of_lt (by omega)] at hj
theorem EW.src_drop {w:World}{g n c:Nat}(h:EW w base (I3 (I1 g 0) n c) ls)(i:Nat):∀ (j:Nat) (u:Value),(Qu (ls.drop i))[j]?=some u->w.cell? (((I1 g (i*5)):Addr).add j)=some u:=by
 intro j u hj;rw[Addr.add_lit];rw[QhC,List.getElem?_drop] at hj;exact h.src _ u hj
theorem Qbj (l:List E1)(i:Nat):l.take i++l.drop (i+1)=l.eraseIdx i:=(List.eraseIdx_eq_take_drop_succ l i).symm
end
section
variable {w w' w0:World}{base q p gb cap m m' ob lo:Nat}{V S T kd s u v l:Int}{t:Bool}{f f':Nat->Int}{vl vl':Value}{ls ls':List E1}
theorem EW.turned {g c i j:Nat}{x y:E1}{uv:Value}(h:EW w base (I3 (I1 g 0) ls.length c) ls)(hi:ls[i]?=some x)(hj:j<5)(hy:y.cells=x.cells.set j uv):EW (w.setCell (I1 g (i*5+j)) uv) base (I3 (I1 g 0) ls.length c) (ls.set i y):=by
 have hil:=(List.getElem?_eq_some_iff.1 hi).1
 rcases h.shape with ⟨e,_⟩|⟨g',c',cs,e,hg,hz,h1,h2,⟨h3,h4⟩,_⟩
 . cases e
 . injection e with e1 e2 e3
   injection e1 with e1;injection e1 with e1;subst e1 e3
   have key:∀ (L:List E1) (k:Nat),L[k]?=some x->Qu (L.set k y)=(Qu L).set (k*5+j) uv:=by
    intro L
    induction L with
    |nil=>intro k hk;simp at hk
    |cons a L ih=>
     intro k hk
     cases k with
     |zero=>
      simp at hk;subst hk;simp only[List.set_cons_zero,Qu,hy,Nat.zero_mul,Nat.zero_add]
      rw[List.set_append_left _ _ (by simp [E1.cells];omega)]
     |succ k=>
      have:=ih k (by simpa using hk)
      simp only[List.set_cons_succ,Qu,this]
      rw[List.set_append_right _ _ (by simp [E1.cells];omega),show (k+1)*5+j-a.cells.length=k*5+j by simp [E1.cells];omega]
   have hlen:(ls.set i y).length=ls.length:=List.length_set ..
   refine⟨by rw[Qc6],.inr ⟨g,c,cs.setIfInBounds (i*5+j) uv,by rw[hlen],hg,hz.set_ _ _,by rw[hlen];exact h1,h2,by rw[Array.size_setIfInBounds];exact h3,?_⟩⟩
   rw[hlen,key ls i hi,<-h4,Array.toList_setIfInBounds,List.take_set]
end
def QaO (gr:List (Option (Nat × Nat))):List Value:=gr.flatMap fun e=>[I (end1 e),I (end2 e)]
theorem Qfy (gr:List (Option (Nat × Nat))):(QaO gr).length=gr.length*2:=by
 unfold QaO
 induction gr with
 |nil=>rfl
 |cons x l ih=>rw[List.flatMap_cons,List.length_append,ih];simp;omega
theorem Qdk:∀ (gr:List (Option (Nat × Nat))) (k:Nat) (e:Option (Nat × Nat)),gr[k]?=some e->(QaO gr)[k*2]?=some (I (end1 e))/\(QaO gr)[k*2+1]?=some (I (end2 e))
 |[],_,_,h=>by simp at h
 |x :: l,0,e,h=>by
  simp at h;subst h;exact⟨rfl,rfl⟩
 |x :: l,k+1,e,h=>by
  have:=Qdk l k e (by simpa using h)
  have e2:(k+1)*2=k*2+2:=by omega
  rw[e2,show k*2+2+1=(k*2+1)+2 by omega]
  show (I (end1 x) :: I (end2 x) :: QaO l)[k*2+2]?=_/\(I (end1 x) :: I (end2 x) :: QaO l)[k*2+1+2]?=_;simp only[List.getElem?_cons_succ];exact this
theorem Qhy (gr:List (Option (Nat × Nat))):∀ u∈QaO gr,u.oneCell'=true:=by
 intro u hu;unfold QaO at hu;obtain⟨e,_,h⟩:=List.mem_flatMap.1 hu;simp only[List.mem_cons,List.not_mem_nil,or_false] at h
 rcases h with rfl|rfl<;>rfl
theorem Qhx (gr:List (Option (Nat × Nat)))(e:Option (Nat × Nat)):QaO (gr++[e])=QaO gr++[I (end1 e),I (end2 e)]:=by unfold QaO;rw[List.flatMap_append];rfl
def GOW (w:World)(base:Nat)(v:Value)(gr:List (Option (Nat × Nat))):Prop:=w.ownsRow base 72 2 v gr.length (QaO gr)
section
variable {w w':World}{base:Nat}{v:Value}{gr:List (Option (Nat × Nat))}{e:Option (Nat × Nat)}
theorem GOW.nil (w:World)(base:Nat):GOW w base (.slice none 0 0) []:=World.ownsRow_nil _ _ _ _
theorem GOW.alloc (h:GOW w base v gr)(o:Obj):GOW (w.alloc o) base v gr:=World.ownsRow.alloc h o
theorem GOW.slice (h:GOW w base v gr):∃ a cap,v=.slice a gr.length cap:=by
 rcases h.2 with ⟨rfl,h0⟩|⟨g,cap,cur,rfl,_⟩
 . exact⟨none,0,by rw[h0]⟩
 . exact⟨_,cap,rfl⟩
theorem GOW.lt (h:GOW w base v gr):∀ k,v.ownBlock=some k->base<=k/\k<w.heap.size:=World.ownsRow.lt h
theorem GOW.gj (h:GOW w base v gr):GJ w v gr:=by
 rcases h.2 with ⟨rfl,h0⟩|⟨g,cap,cur,rfl,hg,hgg,h1,h2,h3,h4⟩
 . exact⟨none,0,by rw[h0],fun k e he=>by rw[List.eq_nil_of_length_eq_zero h0] at he;simp at he⟩
 . refine⟨_,cap,rfl,fun k e he=>⟨g,0,cur,rfl,hgg,?_⟩⟩
   have hf:=Qdk gr k e he;have hk:=(List.getElem?_eq_some_iff.1 he).1
   have hc:∀ j,j<gr.length*2->cur[j]?=(QaO gr)[j]?:=fun j hj=>by
    rw[<-h4,List.getElem?_take_of_lt hj,Array.getElem?_toList]
   rw[Nat.zero_add,hc _ (by omega),hc _ (by omega)]
   exact hf
theorem Qd3 (h:GOW w base v gr)(ad:Addr)(c:Nat)(hc:∀ (j:Nat) (u:Value),([I (end1 e),I (end2 e)]:List Value)[j]?=some u->w.cell? (ad.add j)=some u)(hl:gr.length<=10000)(hb:base<=w.heap.size)(ty:TypeId):
 ∃ v' w',(Builtin.append_ #[92,92] ty #[v,.slice (some ad) 1 c]).run Tryz.prog w=.ok v' w'/\GOW w' base v' (gr++[e])/\w.grownBy w' v.ownBlock:=by
 obtain⟨i0,hi0,hz0,hz1,hz2⟩:=info_parts QeR
 obtain⟨v',w',hrun,h1,h2,_⟩:=run_append_own_at (P:=Tryz.prog) w base 92 ty 72 i0 _ 2 16 Tryz.underlying92 hi0 hz0 hz1 hz2 rfl (by omega) v gr.length (QaO gr) h ad 1 c [I (end1 e),I (end2 e)] rfl hc (by intro u hu;simp at hu;rcases hu with rfl|rfl<;>rfl) (by simp only[maxLen];omega) (by omega) hb
 refine⟨v',w',hrun,?_,h2⟩;unfold GOW;rw[List.length_append,Qhx];exact h1
theorem QcN {ops:Array Oper}{rest:List Oper}{o:Oper}{a:Act}{Q:Exit->Act->World->Prop}(hgd:o.guard=none)(s x:Operand)
 (ho:o.op=.call { callee:=.builtin .append,args:=#[s,x],argTypes:=#[92,92]})
 (hs:a.eval s=v) (h:GOW w base v gr) (ad:Addr) (n c:Nat) (hn:n=1) (hv:a.eval x=.slice (some ad) n c) (hc:∀ (j:Nat) (u:Value),([I (end1 e),I (end2 e)]:List Value)[j]?=some u->w.cell? (ad.add j)=some u) (hl:gr.length<=10000) (hb:base<=w.heap.size)
 (hK:∀ v' w',GOW w' base v' (gr++[e])->w.grownBy w' v.ownBlock->wpList Tryz.prog ops Q rest (a.put o.dst v') w'):wpList Tryz.prog ops Q (o :: rest) a w:=by
 subst hn
 refine wpList_plain hgd fun _ hK'=>?_
 obtain⟨v',w',hrun,h2,h3⟩:=Qd3 h ad c hc hl hb o.type;unfold Oper.wp execOp;simp only[ho,resolve,invoke,builtin,Sem.run_bind,Sem.run_pure,Result.andThen_ok,List.map_toArray,List.map_cons,List.map_nil,hs,hv,hrun];exact hK' _ _ (hK v' w' h2 h3)
end
theorem Qj8 {w:World}{r:Nat}{ty:TypeId}(hr:r=w.heap.size)(a b:Value):∀ (j:Nat) (u:Value),([a,b]:List Value)[j]?=some u->(w.alloc (.cells #[a,b] ty)).cell? (((I1 r 0):Addr).add j)=some u:=by
 subst hr;intro j u hj;rw[Addr.add_lit,Nat.zero_add,(Blk.new w _ _).cell];rw[<-hj,<-Array.getElem?_toList]
def posE:List (Nat × Nat)->Nat->List (Nat × Nat × Nat)
 |[],_=>[]
 |p :: l,s=>(s,p.1,p.2) :: posE l (s+1)
theorem Qcr:∀ {l:List (Nat × Nat)} {s s' a b:Nat},(s',a,b)∈posE l s↔s<=s'/\l[s'-s]?=some (a,b)
 |[],s,s',a,b=>by simp [posE]
 |p :: l,s,s',a,b=>by
  unfold posE;rw[List.mem_cons,Qcr (l:=l) (s:=s+1)]
  by_cases e:s'=s
  . subst e
    rw[Nat.sub_self];simp only[Prod.mk.injEq,true_and,List.getElem?_cons_zero,Option.some.injEq,Nat.le_refl]
    constructor
    . rintro(⟨h1,h2⟩|⟨h,_⟩)
      . exact Prod.ext h1.symm h2.symm
      . omega
    . intro h;rw[h];exact .inl ⟨rfl,rfl⟩
  . constructor
    . rintro(h|⟨h1,h2⟩)
      . simp only[Prod.mk.injEq] at h;exact absurd h.1 e
      . refine⟨by omega,?_⟩
        rw[show s'-s=(s'-(s+1))+1 by omega,List.getElem?_cons_succ];exact h2
    . rintro⟨h1,h2⟩
      refine .inr ⟨by omega,?_⟩
      rw[show s'-s=(s'-(s+1))+1 by omega,List.getElem?_cons_succ] at h2;exact h2
theorem Way.pairs {E F:List (Nat × Nat × Nat)}{u v:Nat}(h:∀ s a b,(s,a,b)∈E->∃ s',(s',a,b)∈F)(hw:Way E u v):Way F u v:=by
 induction hw with
 |refl=>exact .refl _
 |fore _ he ih=>obtain⟨_,h'⟩:=h _ _ _ he;exact ih.fore h'
 |back _ he ih=>obtain⟨_,h'⟩:=h _ _ _ he;exact ih.back h'
def gF (bs:List E1)(L:Nat):List (Option (Nat × Nat)):=(tE bs L).map fun e=>some e.2
theorem Qno (bs:List E1)(L:Nat):Lnk (gF bs L) (posE ((tE bs L).map Prod.snd) 0):=fun s a b=>by
 rw[Qcr];unfold gF;simp only[Nat.zero_le,true_and,Nat.sub_zero,List.getElem?_map]
 cases (tE bs L)[s]?<;>simp
theorem Qnn {bs:List E1}{L u v:Nat}:Way (posE ((tE bs L).map Prod.snd) 0) u v↔Way (tE bs L) u v:=by
 constructor
 . refine Way.pairs fun s a b h=>?_
   obtain⟨_,h⟩:=Qcr.1 h;obtain⟨⟨s',c⟩,hm,e⟩:=List.mem_map.1 (List.mem_of_getElem? h);have e':c=(a,b):=e;subst e';exact⟨s',hm⟩
 . refine Way.pairs fun s a b h=>?_
   have:(a,b)∈(tE bs L).map Prod.snd:=List.mem_map.2 ⟨(s,a,b),h,rfl⟩;obtain⟨k,hk⟩:=List.mem_iff_getElem?.1 this
   exact⟨k,Qcr.2 ⟨Nat.zero_le _,by simpa using hk⟩⟩
theorem Qlx (bs:List E1)(x:E1)(L:Nat):tE (bs++[x]) L=if x.t && decide (L<=x.l) then tE bs L++[(x.s,x.u,x.v)] else tE bs L:=by
 unfold tE;rw[List.filter_append,List.map_append]
 cases h:(x.t && decide (L<=x.l))<;>simp [h]
theorem Ql5 (bs:List E1)(x:E1)(L:Nat):gF (bs++[x]) L=if x.t && decide (L<=x.l) then gF bs L++[some (x.u,x.v)] else gF bs L:=by
 unfold gF;rw[Qlx]
 split<;>simp
section
variable {w w' w0:World}{V S T:Int}{q p gb cap m base u v9 i n L:Nat}{f:Nat->Int}{mk:Nat->Nat}{ts:List Tp}{v:Value}{l:List E1}{x:E1}
def Qjx (w0:World)(l:List E1)(L:Nat)(g i:Value)(W:World):Prop:=Below w0.heap.size w0 W/\∃ k,k<=l.length/\i=I ((k:Nat):Int)/\GOW W w0.heap.size g (gF (l.take k) L)
theorem Qkv (hq:PB13 w q V S T p v)(hO:EW w base v l)(hl:l.length<=1000)(hE:∀ x∈l,x.u<x.v/\(x.v:Int)<V)(hV:V<=100)(hu:(u:Int)<V):
 Calls Tryz.prog 14 #[.pointer (some (I1 q 0)),I (L:Int),I (u:Int),I (v9:Int)] w fun e w'=>∃ r,e=.returned (.bool r)/\(r=true↔Way (tE l L) u v9)/\Below w.heap.size w w':=by
 obtain⟨av,ac,rfl⟩:=hO.slice;obtain⟨n,hn⟩:∃ n,l.length=n:=⟨_,rfl⟩;have HN:=q9 hn;have HQ:=q9 hq;have HO:=q9 hO;have HE:=q9 hE;rw[hn] at HQ HO hl
 have nI:(n:Int)<=1000:=by omega
 have HRel:Hid (Qjx w l L (.slice none 0 0) (I 0) w):=q9 ⟨Below.refl _ _,0,Nat.zero_le _,rfl,by exact GOW.nil _ _⟩
 clear hq hO hn hE;obtain⟨c0,c1,c2,c3,c4,c5,c6,c7,c8,c9,c10,c11,c12,c13,c14⟩:=HQ.cells;have qlt:=HQ.lt
 go_enter Tryz.func14,Tryz.ntmps14
 go_wp2_with fail
 clear c0 c1 c2 c3 c4 c5 c6 c7 c8 c9 c10 c11 c12 c13 c14 qlt
 go_loopw [9,17] (fun g i9 wr=>Qjx w l L g i9 wr) (fun _ i9 _=>n-(intOf i9).toNat)
 case atStart=>exact HRel.out
 case round=>
  clear HRel;obtain⟨hb,k,hk,rfl,hg⟩:=hrel;have HB:=q9 hb;have HG:=q9 hg;obtain⟨ag,cg,hsg⟩:=hg.slice;obtain⟨ng,hng⟩:∃ ng,(gF (l.take k) L).length=ng:=⟨_,rfl⟩;have HNG:=q9 hng;rw[hng] at hsg;subst hsg;rw[HN.out] at hk
  have hngl:ng<=k:=by
   rw[<-HNG.out];unfold gF tE;rw[List.length_map,List.length_map]
   exact Nat.le_trans (List.length_filter_le _ _) (by rw[List.length_take];omega)
  clear hb hg hng
  by_cases hkn:k<n
  . obtain⟨x,hx⟩:∃ x,l[k]?=some x:=⟨_,List.getElem?_eq_getElem (by have:=HN.out;omega)⟩
    have HXK:=q9 hx;obtain⟨g,cp9,e,_,glt,_,y0,y1,y2,y3,y4⟩:=(HO.below HB.out).at hx;injection e with e1 e2 e3;subst e1 e3
    have kI:(k:Int)<(n:Int):=by omega
    have k0:(0:Int)<=(k:Int):=by omega
    clear hx e2
    have HTK:Hid (gF (l.take (k+1)) L=if x.t && decide (L<=x.l) then gF (l.take k) L++[some (x.u,x.v)] else gF (l.take k) L):=q9 (by
     rw[List.take_add_one,HXK.out];exact Ql5 _ _ _)
    have HGA:=q9 (HG.alloc (.cells #[I (x.s:Int),I (x.u:Int),I (x.v:Int),I (x.l:Int),.bool x.t] 56));have HBA:=q9 (HB.alloc HB.size (.cells #[I (x.s:Int),I (x.u:Int),I (x.v:Int),I (x.l:Int),.bool x.t] 56));obtain⟨xt,hxt⟩:∃ xt,x.t=xt:=⟨_,rfl⟩;have HXT:=q9 hxt;rw[hxt] at y4 HGA HBA;rw[HXT.out] at HTK;clear hxt
    cases xt
    . as_aux_lemma=>
      go_wp2_with fail
      go_roundw
      case rel=>exact⟨HBA.out,k+1,by have:=HN.out;omega,by simp,by rw[HTK.out];exact HGA⟩
      case measure=>simp [intOf];omega
    . by_cases hLl:L<=x.l
      . as_aux_lemma=>
        have hLI:(L:Int)<=(x.l:Int):=by omega
        have HTK2:Hid (gF (l.take (k+1)) L=gF (l.take k) L++[some (x.u,x.v)]):=q9 (by rw[HTK.out,decide_eq_true hLl];rfl)
        clear HTK;have HGB:=q9 (HGA.alloc (.cells #[I (x.u:Int),I (x.v:Int)] 72));have HBB:=q9 (HBA.alloc HBA.size (.cells #[I (x.u:Int),I (x.v:Int)] 72))
        have hn9:(gF (l.take k) L).length<=10000:=by have:=HNG.out;omega
        go_wp2_with (at_builtin;refine QcN (e:=some (x.u,x.v)) rfl _ _ rfl rfl HGB.out ⟨wr.heap.size+1,0,none⟩ 1 1 rfl rfl (Qj8 (by simp) _ _) hn9 (by have:=HB.size;simp;omega) ?_)
        intro v5 w5 hG5 hg5
        have HB5:=q9 (HBB.grown hg5 HBB.size (fun r hr=>(HG.lt r hr).1))
        have HG5:=q9 hG5;clear HGA HBA HGB HBB HB HG hG5 hg5 y0 y1 y2 y3 y4;go_wp2_with fail
        go_roundw
        case rel=>exact⟨HB5.out,k+1,by have:=HN.out;omega,by simp,by rw[HTK2.out];exact HG5⟩
        case measure=>simp [intOf];omega
      . as_aux_lemma=>
        have hLI:¬ (L:Int)<=(x.l:Int):=by omega
        have HTK2:Hid (gF (l.take (k+1)) L=gF (l.take k) L):=q9 (by rw[HTK.out,decide_eq_false hLl];rfl)
        clear HTK;go_wp2_with fail
        go_roundw
        case rel=>exact⟨HBA.out,k+1,by have:=HN.out;omega,by simp,by rw[HTK2.out];exact HGA⟩
        case measure=>simp [intOf];omega
  . have ek:k=n:=by omega
    subst ek
    have kI:¬ (k:Int)<(k:Int):=by omega
    have HGJ:Hid (GJ wr (.slice ag ng cg) (gF l L)):=q9 (by
     have h1:=HG.gj
     rwa [List.take_of_length_le (by have:=HN.out;omega)] at h1)
    have hgl:(gF l L).length<=1000:=by
     have:=HNG.out
     rw[List.take_of_length_le (by have:=HN.out;omega)] at this
     omega
    have HLT:Hid (∀ s a b,(s,a,b)∈posE ((tE l L).map Prod.snd) 0->a<V.toNat/\b<V.toNat):=q9 fun s a b h=>by
     obtain⟨_,h⟩:=Qcr.1 h;obtain⟨⟨s',c⟩,hm,e⟩:=List.mem_map.1 (List.mem_of_getElem? h);have e':c=(a,b):=e;subst e';obtain⟨y,hy,_,_,_,rfl,rfl⟩:=QG.1 hm;have:=HE.out y hy;omega
    clear hk hkn;go_wp2_with fail
    refine(QiJ (V:=V.toNat) HGJ hgl (Qno l L) (by omega) (by omega) HLT).mono ?_;rintro e w3 ⟨r,rfl,hr,hb3⟩
    go_wp2_with fail
    go_ret;exact⟨r,rfl,hr.trans Qnn,HB.trans (hb3.mono HB.size)⟩
end
structure PW13 (w:World)(base q:Nat)(V S T:Int)(p gb cap m:Nat)(f:Nat->Int)(mk:Nat->Nat)(ts:List Tp)(v:Value)(l:List E1):Prop where
 pq:PB13 w q V S T p v
 ta:TA w V S T p gb cap m f mk ts
 ew:EW w base v l
 bq:base<=q
 bp:base<=p
 bg:base<=gb
def Kty (ty:TypeId):Prop:=ty≠127/\ty≠88/\ty≠54/\ty≠56
def Kbs (w w':World):Prop:=∀ (i:Nat) (ty:TypeId) (cs:Array Value),Blk w i ty cs->Kty ty->Blk w' i ty cs
abbrev vO13 (kd s u v:Int):Value:=.agg #[I kd,I s,I u,I v]
section
variable {w w' w0 w1:World}{base q p gb cap m m' ob lo:Nat}{V S T kd s u v:Int}{f f':Nat->Int}{mk mk':Nat->Nat}{ts ts':List Tp}{vl vl':Value}{ls ls':List E1}
theorem Kbs.refl (w:World):Kbs w w:=fun _ _ _ h _=>h
theorem Kbs.trans (h:Kbs w w')(h2:Kbs w' w1):Kbs w w1:=fun i ty cs hz hk=>h2 i ty cs (h i ty cs hz hk) hk
theorem Kbs.below (hb:Below w.heap.size w w'):Kbs w w':=fun _ _ _ h _=>h.below hb h.lt
theorem Kbs.ta (A:TA w V S T p gb cap m f mk ts)(ho:Only p gb w w'):Kbs w w':=fun _ _ _ h hk=>Blk.ta h A ho hk.1 hk.2.1
theorem Kbs.set {r j:Nat}{ty:TypeId}{cs:Array Value}(hr:Blk w r ty cs)(hk:¬ Kty ty)(v:Value):Kbs w (w.setCell (I1 r j) v):=fun _ _ _ h hk'=>Blk.far (p:=(I1 r j)) h (Blk.ne_ h hr (fun e=>hk (e ▸ hk'))) v
theorem QiH:Kty 33:=by unfold Kty;decide
theorem Ql0:Kty 23:=by unfold Kty;decide
theorem QgM:¬ Kty 54:=fun h=>h.2.2.1 rfl
theorem Qkq:¬ Kty 56:=fun h=>h.2.2.2 rfl
theorem PW13.below (h:PW13 w base q V S T p gb cap m f mk ts vl ls)(hb:Below w.heap.size w w'):PW13 w' base q V S T p gb cap m f mk ts vl ls:=⟨h.pq.below hb,h.ta.below hb,h.ew.below hb,h.bq,h.bp,h.bg⟩
theorem PW13.next (h:PW13 w base q V S T p gb cap m f mk ts vl ls)(hm:TA w' V S T p gb cap m' f' mk' ts')(ho:Only p gb w w'):PW13 w' base q V S T p gb cap m' f' mk' ts' vl ls:=⟨Blk.ta h.pq h.ta ho (by decide) (by decide),hm,h.ew.ta h.ta ho,h.bq,h.bp,h.bg⟩
theorem PW13.more (h:PW13 w base q V S T p gb cap m f mk ts vl ls)(hm:m<=m'):PW13 w base q V S T p gb cap m' f mk ts vl ls:=⟨h.pq,h.ta.more hm,h.ew,h.bq,h.bp,h.bg⟩
theorem PW13.size (h:PW13 w base q V S T p gb cap m f mk ts vl ls):base<=w.heap.size:=Nat.le_of_lt (Nat.lt_of_le_of_lt h.bq h.pq.lt)
theorem PW13.list (h:PW13 w base q V S T p gb cap m f mk ts vl ls)(hO:EW w base vl' ls'):PW13 (w.setCell (I1 q 14) vl') base q V S T p gb cap m f mk ts vl' ls':=by
 refine⟨?_,h.ta.far h.pq (by decide) (by decide) _,?_,h.bq,h.bp,h.bg⟩
 . exact Blk.set_ h.pq 14 vl'
 . refine hO.kept_of fun i hi=>?_
   rcases hO.shape with ⟨rfl,rfl⟩|⟨g,c,cs,rfl,hg,hz,_⟩
   . cases hi
   . have e:g=i:=by injection hi
     subst e
     exact(hz.far (p:=(I1 q 14)) (Blk.ne_ hz h.pq (by decide)) _).trans hz.symm
structure PX13 (w0 W:World)(base q:Nat)(V S T:Int)(p gb cap m:Nat)(f:Nat->Int)(mk:Nat->Nat)(ts:List Tp)(vl:Value)(ls:List E1):Prop where
 pw:PW13 W base q V S T p gb cap m f mk ts vl ls
 be:Below base w0 W
 kb:Kbs w0 W
theorem PX13.start (h:PW13 w base q V S T p gb cap m f mk ts vl ls):PX13 w w base q V S T p gb cap m f mk ts vl ls:=⟨h,Below.refl _ _,Kbs.refl _⟩
theorem PX13.below (h:PX13 w0 w base q V S T p gb cap m f mk ts vl ls)(hb:Below w.heap.size w w'):PX13 w0 w' base q V S T p gb cap m f mk ts vl ls:=⟨h.pw.below hb,h.be.trans (hb.mono h.pw.size),h.kb.trans (.below hb)⟩
theorem PX13.drew (h:PX13 w0 w base q V S T p gb cap m f mk ts vl ls):PX13 w0 w.drew base q V S T p gb cap m f mk ts vl ls:=h.below (Below.refl _ _).drew
theorem PX13.alloc (h:PX13 w0 w base q V S T p gb cap m f mk ts vl ls)(o:Obj):PX13 w0 (w.alloc o) base q V S T p gb cap m f mk ts vl ls:=h.below ((Below.refl _ _).alloc (Nat.le_refl _) o)
theorem PX13.next (h:PX13 w0 w base q V S T p gb cap m f mk ts vl ls)(hm:TA w' V S T p gb cap m' f' mk' ts')(ho:Only p gb w w'):PX13 w0 w' base q V S T p gb cap m' f' mk' ts' vl ls:=
 ⟨h.pw.next hm ho,Only.below h.be ho h.pw.size h.pw.bp h.pw.bg,h.kb.trans (.ta h.pw.ta ho)⟩
theorem PX13.more (h:PX13 w0 w base q V S T p gb cap m f mk ts vl ls)(hm:m<=m'):PX13 w0 w base q V S T p gb cap m' f mk ts vl ls:=⟨h.pw.more hm,h.be,h.kb⟩
theorem PX13.list (h:PX13 w0 w base q V S T p gb cap m f mk ts vl ls)(hO:EW w base vl' ls'):PX13 w0 (w.setCell (I1 q 14) vl') base q V S T p gb cap m f mk ts vl' ls':=⟨h.pw.list hO,h.be.setCell h.pw.bq _,h.kb.trans (.set h.pw.pq QgM _)⟩
theorem PX13.over (h:PX13 w0 w base q V S T p gb cap m f mk ts vl ls)(h2:PX13 w w' base q V S T p gb cap m' f' mk' ts' vl' ls'):PX13 w0 w' base q V S T p gb cap m' f' mk' ts' vl' ls':=⟨h2.pw,h.be.trans h2.be,h.kb.trans h2.kb⟩
theorem PX13.appended {v5:Value}{ls5:List E1}(h:PX13 w0 w base q V S T p gb cap m f mk ts vl ls)(hg:w.grownBy w' vl.ownBlock)(hO:EW w' base v5 ls5):
 PB13 w' q V S T p vl/\PX13 w0 (w'.setCell (I1 q 14) v5) base q V S T p gb cap m f mk ts v5 ls5/\Kbs w0 w':=by
 have hr:=h.pw.ew.own
 have kp:∀ {i:Nat} {ty:TypeId} {cs:Array Value},Blk w i ty cs->ty≠56->Blk w' i ty cs:=fun {i ty cs} hz ht=>(hg.block i hz.lt fun e=>by
  obtain⟨_,cs',hz'⟩:=hr i e.symm;exact Blk.ne_ hz hz' ht rfl).trans hz
 have no:∀ {i:Nat} {ty:TypeId} {cs:Array Value},Blk w i ty cs->ty≠56->vl.ownBlock≠some i:=fun {i ty cs} hz ht e=>by
  obtain⟨_,cs',hz'⟩:=hr i e;exact Blk.ne_ hz hz' ht rfl
 have pq:=kp h.pw.pq (by decide)
 obtain⟨f9,hR,c,A,C⟩:=h.pw.ta.em;obtain⟨zs,hz,he⟩:=A.cells
 have ta:=h.pw.ta.grown hg (no A.own (by decide)) (no hz (by decide))
 have kb1:Kbs w0 w':=h.kb.trans fun i ty cs hz hk=>kp hz hk.2.2.2
 refine⟨pq,⟨⟨Blk.set_ pq 14 v5,ta.far pq (by decide) (by decide) _,?_,h.pw.bq,h.pw.bp,h.pw.bg⟩,(h.be.grown hg h.pw.size fun i hi=>(hr i hi).1).setCell h.pw.bq _,kb1.trans (.set pq QgM _)⟩,kb1⟩
 refine hO.kept_of fun i hi=>?_
 obtain⟨_,cs,hz⟩:=hO.own i hi
 exact(hz.far (p:=(I1 q 14)) (Blk.ne_ hz pq (by decide)) _).trans hz.symm
theorem PX13.turned {g c i j:Nat}{x y:E1}{uv:Value}(h:PX13 w0 w base q V S T p gb cap m f mk ts (I3 (I1 g 0) ls.length c) ls)(hi:ls[i]?=some x)(hj:j<5)(hy:y.cells=x.cells.set j uv):
 PX13 w0 (w.setCell (I1 g (i*5+j)) uv) base q V S T p gb cap m f mk ts (I3 (I1 g 0) ls.length c) (ls.set i y):=by
 obtain⟨hb,cs,hz⟩:=h.pw.ew.own g rfl;have hO:=h.pw.ew.turned hi hj hy
 exact⟨⟨Blk.far (p:=(I1 g (i*5+j))) h.pw.pq (Blk.ne_ h.pw.pq hz (by decide)) uv,h.pw.ta.far hz (by decide) (by decide) _,hO,h.pw.bq,h.pw.bp,h.pw.bg⟩,h.be.setCell hb _,h.kb.trans (.set hz Qkq _)⟩
def QhM (w:World)(ob:Nat)(kd s u v:Int):Prop:=Blk w ob 33 #[I kd,I s,I u,I v]
structure SQ13 (W:World)(ob q p:Nat)(V S T:Int)(vl:Value)(kd s u v:Int):Prop where
 fo:QhM W ob kd s u v
 fq:PB13 W q V S T p vl
theorem PX13.sq (h:PX13 w0 w base q V S T p gb cap m f mk ts vl ls)(ho:QhM w0 ob kd s u v):SQ13 w ob q p V S T vl kd s u v:=⟨h.kb _ _ _ ho QiH,h.pw.pq⟩
theorem SQ13.rule (ob q p:Nat)(V S T:Int)(vl:Value)(kd s u v:Int):∀ W:World,SQ13 W ob q p V S T vl kd s u v->
 (W.cell? (I1 ob 0)=some (I kd)/\W.cell? (I1 ob 1)=some (I s)/\W.cell? (I1 ob 2)=some (I u)/\W.cell? (I1 ob 3)=some (I v))/\(W.cell? (I1 q 0)=some (I V)/\W.cell? (I1 q 1)=some (I S)/\W.cell? (I1 q 2)=some (I T)/\W.cell? (I1 q 3)=some (.pointer (some (I1 p 0)))/\W.cell? (I1 q 4)=some (I V)/\W.cell? (I1 q 5)=some (I S)/\W.cell? (I1 q 6)=some (I T)/\W.cell? (I1 q 7)=some (I4 p)/\W.cell? (I1 q 8)=some (I 1)/\W.cell? (I1 q 9)=some (I 0)/\W.cell? (I1 q 10)=some (I V)/\W.cell? (I1 q 11)=some (I S)/\W.cell? (I1 q 12)=some (I T)/\W.cell? (I1 q 13)=some (I4 p)/\W.cell? (I1 q 14)=some (vl)):=
 fun _ h=>⟨⟨Blk.cell h.fo 0,Blk.cell h.fo 1,Blk.cell h.fo 2,Blk.cell h.fo 3⟩,h.fq.cells⟩
theorem SQ13.lt {W:World}(h:SQ13 W ob q p V S T vl kd s u v):ob<W.heap.size/\q<W.heap.size:=⟨Blk.lt h.fo,h.fq.lt⟩
def QkV (w:World)(base q:Nat)(V S T:Int)(p gb cap m:Nat)(K:List E1->Prop)(e:Ending)(w':World):Prop:=
 e=.returned (.tuple #[])/\∃ f' mk' ts' vl' ls' qq',PX13 w w' base q V S T p gb cap m f' mk' ts' vl' ls'/\LG V S T f' mk' ts' ls' qq'/\K ls'
def PutR (ls:List E1)(s u v:Nat)(ls':List E1):Prop:=
 ((∃ x∈ls,x.u=min u v/\x.v=max u v)/\ls'=ls)\/((∀ x∈ls,¬ (x.u=min u v/\x.v=max u v))/\∃ t:Bool,(t=true↔¬ Way (tE ls 0) (min u v) (max u v))/\ls'=ls++[⟨s,min u v,max u v,0,t⟩])
end
section
variable {w:World}{s a b l:Int}{t:Bool}
abbrev Qea (s a b l:Int)(t:Bool):Value:=.agg #[I s,I a,I b,I l,.bool t]
theorem QlC:(Instr.build 56 #[(0,I s),(1,I a),(2,I b),(4,.bool t)]).run Tryz.prog w=.ok (Qea s a b 0 t) w:=by kernel_rfl
theorem QjS:(Instr.buildSlice 52 1 #[(0,Qea s a b l t)]).run Tryz.prog w=.ok (I3 (I1 w.heap.size 0) 1 1) (w.alloc (.cells #[I s,I a,I b,I l,.bool t] 56)):=by kernel_rfl
theorem QgQ {ρ:Operand->Value}{oi:Oper}{x y z u:Operand}(hop:oi.op=.build 56 #[(0,x),(1,y),(2,z),(4,u)])(hx:ρ x=I s)(hy:ρ y=I a)(hz:ρ z=I b)(hu:ρ u=.bool t):(execOp ρ oi).run Tryz.prog w=.ok (.value (Qea s a b 0 t)) w:=by
 unfold execOp;rw[hop];simp only[List.map_toArray,List.map_cons,List.map_nil,hx,hy,hz,hu,Sem.run_bind,Sem.run_pure,QlC,Result.andThen_ok]
theorem Qfb {ops:Array Oper}{o:Oper}{a9:Act}{K:Act->World->Prop}{Q:Exit->Act->World->Prop}{E:Prop}{x:Operand}(hgd:o.guard=none)
 (ho:o.op=.buildSlice 52 1 #[(0,x)]) (hx:a9.eval x=Qea s a b l t)
 (hK:K (a9.put o.dst (I3 (I1 w.heap.size 0) 1 1)) (w.alloc (.cells #[I s,I a,I b,I l,.bool t] 56))):
 if Region.wanted o (yielded ops a9.tmps)=true then Oper.wp Tryz.prog o a9 w K Q else E:=by
 have hw:Region.wanted o (yielded ops a9.tmps)=true:=by simp [Region.wanted,hgd]
 rw[if_pos hw];unfold Oper.wp execOp;simp only[ho,List.map_toArray,List.map_cons,List.map_nil,hx,Sem.run_bind,Sem.run_pure,QjS,Result.andThen_ok];exact hK
end
section
variable {w:World}{base q p gb cap m s u v:Nat}{V S T kd:Int}{f:Nat->Int}{mk:Nat->Nat}{ts:List Tp}{vl:Value}{ls:List E1}{qq:Nat->Nat->List Nat}
theorem Qlv (A:TA w V S T p gb cap m f mk ts)(hu:(u:Int)<V)(hv:(v:Int)<V)(hne:u≠v)(hs:(s:Int)<S)(hm:m<=99900000):
 Calls Tryz.prog 82 #[vE V S T p,I (s:Int),I (u:Int),I (v:Int),I 0,.bool false] w (Dta V S T p gb cap (m+3) (putF V S T f ⟨s,min u v,max u v,0,false⟩) mk ts (.tuple #[]) w):=
 QmV (l:=0) (t:=false) A hu hv hne hs (by have:=(QF V).1;show ((0:Nat):Int)<lv V;omega) hm
def Qjt (w0 W:World)(base q:Nat)(V S T:Int)(p gb cap m:Nat)(f:Nat->Int)(mk:Nat->Nat)(ts:List Tp)(vl:Value)(ls:List E1)(a b:Nat)(i:Value):Prop:=
 PX13 w0 W base q V S T p gb cap m f mk ts vl ls/\∃ k,k<=ls.length/\i=I ((k:Nat):Int)/\∀ (j:Nat) (x:E1),j<k->ls[j]?=some x->¬ (x.u=a/\x.v=b)
set_option maxHeartbeats 8000000 in
theorem Qne (h:PW13 w base q V S T p gb cap m f mk ts vl ls)(hG:LG V S T f mk ts ls qq)(hl:ls.length<=1000)(hm:m+100+5*(100*nN V S+30)<=99780000)(hne:u≠v)(hu:(u:Int)<V)(hv:(v:Int)<V)(hs:(s:Int)<S)(hns:∀ x∈ls,x.s≠s):
 Calls Tryz.prog 37 #[.pointer (some (I1 q 0)),vO13 kd (s:Int) (u:Int) (v:Int)] w (QkV w base q V S T p gb cap (m+110+114*nN V S) (PutR ls s u v)):=by
 have hR:=h.ta.hR;have hn:=Ql hR;obtain⟨av,ac,rfl⟩:=h.ew.slice;obtain⟨n,hn9⟩:∃ n,ls.length=n:=⟨_,rfl⟩;have HN:=q9 hn9;rw[hn9] at h hl;have HG:=q9 hG;have HR:=q9 hR;have HP:Hid (u≠v/\(u:Int)<V/\(v:Int)<V/\(s:Int)<S):=q9 ⟨hne,hu,hv,hs⟩;have HNS:=q9 hns;have HLN:=q9 hl
 have HV:Hid (V<=100):=q9 (by have:=hR.v2;omega)
 have HOP0:Hid (QhM (w.alloc (.cells #[I kd,I (s:Int),I (u:Int),I (v:Int)] 33)) w.heap.size kd (s:Int) (u:Int) (v:Int)):=q9 (Blk.new _ _ _);have HX0:=q9 ((PX13.start h).alloc (.cells #[I kd,I (s:Int),I (u:Int),I (v:Int)] 33));have HOPA:Hid (PX13 (w.alloc (.cells #[I kd,I (s:Int),I (u:Int),I (v:Int)] 33)) (w.alloc (.cells #[I kd,I (s:Int),I (u:Int),I (v:Int)] 33)) base q V S T p gb cap m f mk ts (.slice av n ac) ls):=q9 (PX13.start HX0.pw);obtain⟨a,ha⟩:∃ a,min u v=a:=⟨_,rfl⟩;obtain⟨b,hb9⟩:∃ a,max u v=a:=⟨_,rfl⟩;have HAE:=q9 (And.intro ha hb9)
 have mI:(if v<u then (v:Int) else (u:Int))=(a:Int):=by split<;>omega
 have xI:(if u<v then (v:Int) else (u:Int))=(b:Int):=by split<;>omega
 have HAB:Hid (a<b/\(b:Int)<V/\(a:Int)<V):=q9 (by omega)
 have nI:(n:Int)<=1000:=by omega
 have HEE:Hid (∀ x∈ls,x.u<x.v/\(x.v:Int)<V):=q9 fun x hx=>⟨(HG.er.ok x hx).1,(HG.er.ok x hx).2.1⟩
 clear h hG hne hu hv hs hns hl hR ha hb9 hn9
 go_enter Tryz.func37,Tryz.ntmps37
 go_wp2_with fail
 generalize w.heap.size=ob at HOP0 |-;generalize w.alloc (.cells #[I kd,I (s:Int),I (u:Int),I (v:Int)] 33)=W1 at HOP0 HX0 HOPA |-;have HB0:Hid (PX13 w W1 base q V S T p gb cap m f mk ts (.slice av n ac) ls):=HX0;have HOP:=HOP0;have H1:=HOPA;clear HX0 HOP0 HOPA;have hrule:=SQ13.rule ob q p V S T (.slice av n ac) kd (s:Int) (u:Int) (v:Int);have Hd:=q9 H1.drew;obtain⟨⟨o0,o1,o2,o3⟩,c0,c1,c2,c3,c4,c5,c6,c7,c8,c9,c10,c11,c12,c13,c14⟩:=hrule _ (Hd.sq HOP.out);obtain⟨olt,qlt⟩:=(Hd.sq HOP.out).lt
 refine wp_region_held_drew (S:=(fun W=>SQ13 W ob q p V S T (.slice av n ac) kd (s:Int) (u:Int) (v:Int))) (by kernel_rfl) ?_ (fun hHeld=>?_)
 . exact Hd.sq HOP
 refine q9N 0 rfl ?_
 refine q9N 1 rfl ?_
 refine q9N 2 rfl ?_
 refine q9N 3 rfl ?_
 refine q9N 4 rfl ?_
 refine q9N 5 rfl ?_
 refine q9N 6 rfl ?_
 refine q9N 7 rfl ?_
 refine q9N 8 rfl ?_
 refine q9N 9 rfl ?_
 refine q9N 10 rfl ?_
 refine q9N 11 rfl ?_
 refine wpAnyH_done (by kernel_rfl) ?_ _
 clear o0 o1 o2 o3 c0 c1 c2 c3 c4 c5 c6 c7 c8 c9 c10 c11 c12 c13 c14 olt qlt H1
 have HRel:Hid (Qjt W1 (W1.drew) base q V S T p gb cap m f mk ts (.slice av n ac) ls a b (I 0)):=q9 ⟨Hd.out,0,Nat.zero_le _,rfl,fun j x hj=>absurd hj (Nat.not_lt_zero _)⟩
 obtain⟨⟨o0,o1,o2,o3⟩,c0,c1,c2,c3,c4,c5,c6,c7,c8,c9,c10,c11,c12,c13,c14⟩:=hrule _ (Hd.sq HOP.out);obtain⟨olt,qlt⟩:=(Hd.sq HOP.out).lt;go_wp2_with fail
 clear Hd o0 o1 o2 o3 c0 c1 c2 c3 c4 c5 c6 c7 c8 c9 c10 c11 c12 c13 c14 olt qlt
 go_loopw [24] (fun i wr=>Qjt W1 wr base q V S T p gb cap m f mk ts (.slice av n ac) ls a b i) (fun i _=>n-(intOf i).toNat)
 case atStart=>exact HRel.out
 case round=>
  clear HRel;obtain⟨hX,k,hk,rfl,hno⟩:=hrel;have HX:=q9 hX;have HNO:=q9 hno;rw[HN.out] at hk;clear hX hno
  have k0:(0:Int)<=(k:Int):=by omega
  by_cases hkn:k<n
  . have kI:(k:Int)<(n:Int):=by omega
    obtain⟨x,hx⟩:∃ x,ls[k]?=some x:=⟨_,List.getElem?_eq_getElem (by have:=HN.out;omega)⟩
    have HXK:=q9 hx;obtain⟨g,cp9,e,_,glt,_,z0,z1,z2,z3,z4⟩:=HX.pw.ew.at hx;injection e with e1 e2 e3;subst e1 e3;clear hx e2;have HXA:=q9 (HX.alloc (.cells #[I (x.s:Int),I (x.u:Int),I (x.v:Int),I (x.l:Int),.bool x.t] 56));obtain⟨⟨o0,o1,o2,o3⟩,c0,c1,c2,c3,c4,c5,c6,c7,c8,c9,c10,c11,c12,c13,c14⟩:=hrule _ (HX.sq HOP.out);obtain⟨olt,qlt⟩:=(HX.sq HOP.out).lt
    by_cases eu:x.u=a
    . have eu1:((x.u:Int)==(a:Int))=true:=beq_iff_eq.2 (by omega)
      by_cases ev:x.v=b
      . as_aux_lemma=>
        have ev1:((x.v:Int)==(b:Int))=true:=beq_iff_eq.2 (by omega)
        have HM:Hid (∃ x∈ls,x.u=min u v/\x.v=max u v):=q9 ⟨x,List.mem_of_getElem? HXK.out,by rw[HAE.1];exact eu,by rw[HAE.2];exact ev⟩
        clear eu ev;go_wp2_with fail
        (try simp only[Exit.inBlock,Exit.then]);refine bodyPost_ret (results_none rfl _ _ _) rfl ?_
        exact⟨rfl,f,mk,ts,_,ls,qq,HB0.over (HXA.more (by omega)),HG,.inl ⟨HM,rfl⟩⟩
      . as_aux_lemma=>
        have ev1:((x.v:Int)==(b:Int))=false:=beq_eq_false_iff_ne.2 (by omega)
        have HEV:=q9 ev;clear ev eu;go_wp2_with fail
        go_roundw
        case rel=>
         refine⟨HXA.out,k+1,by have:=HN.out;omega,by simp,fun j y hj hy=>?_⟩
         by_cases e:j=k
         . subst e
           rw[HXK.out] at hy;injection hy with hy;subst hy
           exact fun h=>HEV.out h.2
         . exact HNO j y (by omega) hy
        case measure=>simp [intOf];omega
    . as_aux_lemma=>
      have eu1:((x.u:Int)==(a:Int))=false:=beq_eq_false_iff_ne.2 (by omega)
      have HEU:=q9 eu;clear eu;go_wp2_with fail
      go_roundw
      case rel=>
       refine⟨HXA.out,k+1,by have:=HN.out;omega,by simp,fun j y hj hy=>?_⟩
       by_cases e:j=k
       . subst e
         rw[HXK.out] at hy;injection hy with hy;subst hy
         exact fun h=>HEU.out h.1
       . exact HNO j y (by omega) hy
      case measure=>simp [intOf];omega
  . as_aux_lemma=>
    have ek:k=n:=by omega
    subst ek
    have kI:¬ (k:Int)<(k:Int):=by omega
    have HNP:Hid (∀ x∈ls,¬ (x.u=a/\x.v=b)):=q9 fun x hx=>by
     obtain⟨j,hj⟩:=List.mem_iff_getElem?.1 hx
     exact HNO.out j x (by have:=(List.getElem?_eq_some_iff.1 hj).1;have:=HN.out;omega) hj
    clear hk hkn HNO;go_wp2_with fail
    refine(Qkv (L:=0) HX.pw.pq HX.pw.ew (by have:=HN.out;omega) HEE.out HV.out HAB.2.2).mono ?_;rintro e w3 ⟨r,rfl,hr,B3⟩
    have H3:=q9 (HX.below B3);have HRW:=q9 hr;clear HX B3 hr;go_wp2_with fail
    have H4:=q9 H3.drew;clear H3;have hrule:=SQ13.rule ob q p V S T (.slice av k ac) kd (s:Int) (u:Int) (v:Int);obtain⟨⟨o0,o1,o2,o3⟩,c0,c1,c2,c3,c4,c5,c6,c7,c8,c9,c10,c11,c12,c13,c14⟩:=hrule _ (H4.sq HOP.out);obtain⟨olt,qlt⟩:=(H4.sq HOP.out).lt
    have HER:=q9 (HG.put (x:=⟨s,a,b,0,false⟩) HR.out HAB.1 HAB.2.1 HP.2.2.2 (by have:=(QF V).1;show ((0:Nat):Int)<lv V;omega) HNS.out HNP.out)
    go_region_held3 (fun W=>SQ13 W ob q p V S T (.slice av k ac) kd (s:Int) (u:Int) (v:Int)) (first|(with_reducible assumption)|(with_reducible exact H5.out.sq HOP.out)|(with_reducible exact H4.out.sq HOP.out))
     (first
      |(go_at_call 82;((with_reducible refine(Qlv H4.out.pw.ta HP.out.2.1 HP.out.2.2.1 HP.out.1 HP.out.2.2.2 (by omega)).mono ?_);rintro e w5 ⟨rfl,A5,O5⟩;have H5:=q9 (H4.out.next A5 O5))))
    clear o0 o1 o2 o3 c0 c1 c2 c3 c4 c5 c6 c7 c8 c9 c10 c11 c12 c13 c14 olt qlt H4 hrule;have HA5:=H5;rw[HAE.1,HAE.2] at HA5;clear H5 A5 O5;have hrule:=SQ13.rule ob q p V S T (.slice av k ac) kd (s:Int) (u:Int) (v:Int);obtain⟨⟨o0,o1,o2,o3⟩,c0,c1,c2,c3,c4,c5,c6,c7,c8,c9,c10,c11,c12,c13,c14⟩:=hrule _ (HA5.sq HOP.out);obtain⟨olt,qlt⟩:=(HA5.sq HOP.out).lt
    cases r
    . as_aux_lemma=>
      go_wp2_with fail
      have H6:=q9 HA5.drew;clear HA5 o0 o1 o2 o3 c0 c1 c2 c3 c4 c5 c6 c7 c8 c9 c10 c11 c12 c13 c14 olt qlt;obtain⟨⟨o0,o1,o2,o3⟩,c0,c1,c2,c3,c4,c5,c6,c7,c8,c9,c10,c11,c12,c13,c14⟩:=hrule _ (H6.sq HOP.out);obtain⟨olt,qlt⟩:=(H6.sq HOP.out).lt
      have HWN:Hid (¬ Way (tE ls 0) a b):=q9 fun h=>by have:=HRW.2 h;cases this
      have HPL:=q9 (Qkk (bs:=ls++[⟨s,a,b,0,false⟩]) (i:=k) (x:=⟨s,a,b,0,false⟩) H6.pw.ta HER.2 HER.1 (by rw[List.getElem?_append_right (by have:=HN.out;omega),HN.out,Nat.sub_self];rfl) (fun e=>by rw[List.mem_append,List.mem_singleton];exact⟨fun h=>⟨.inl h,fun es=>HNS.out e h es⟩,fun h=>h.1.elim id fun e9=>absurd (by rw[e9]) h.2⟩) HG.er.un (fun L hL=>by have:L=0:=Nat.le_zero.1 hL;subst this;exact HWN) (by omega))
      go_region_held3 (fun W=>SQ13 W ob q p V S T (.slice av k ac) kd (s:Int) (u:Int) (v:Int)) (first|(with_reducible assumption)|(with_reducible exact H7.out.sq HOP.out)|(with_reducible exact H6.out.sq HOP.out))
       (first
        |(go_at_call 27;((with_reducible refine HPL.out.mono ?_);rintro e w7 ⟨f7,mk7,ts7,rfl,A7,G7,_,O7⟩;have H7:=q9 (H6.out.next A7 O7);have HG7:=q9 G7)))
      clear HPL o0 o1 o2 o3 c0 c1 c2 c3 c4 c5 c6 c7 c8 c9 c10 c11 c12 c13 c14 olt qlt H6 hrule;have hrule:=SQ13.rule ob q p V S T (.slice av k ac) kd (s:Int) (u:Int) (v:Int);go_wp2_with fail
      have H8:=q9 H7.drew;obtain⟨⟨o0,o1,o2,o3⟩,c0,c1,c2,c3,c4,c5,c6,c7,c8,c9,c10,c11,c12,c13,c14⟩:=hrule _ (H8.sq HOP.out);obtain⟨olt,qlt⟩:=(H8.sq HOP.out).lt
      refine QcL (fun W=>SQ13 W ob q p V S T (.slice av k ac) kd (s:Int) (u:Int) (v:Int)) (fun j=>decide (15<=j)) (by kernel_rfl) ?_ (fun hHeld=>?_)
      . exact H8.sq HOP
      refine q9P 0 rfl ?_
      refine q9P 1 rfl ?_
      refine q9P 2 rfl ?_
      refine q9P 3 rfl ?_
      refine q9L 4 rfl ?_
      refine q9P 5 rfl ?_
      refine q9L 6 rfl ?_
      refine q9P 7 rfl ?_
      refine q9P 8 rfl ?_
      refine q9P 9 rfl ?_
      refine Till.plain (i:=10) (v:=Qea (s:Int) (a:Int) (b:Int) 0 true) rfl (by kernel_rfl) (by kernel_rfl) (by kernel_rfl) (fun _ _ _ h=>h) (Or.inl ⟨by rfl,?_⟩) ?_
      . exact fun w _=>QgQ (s:=(s:Int)) (a:=(a:Int)) (b:=(b:Int)) (t:=true) (by rfl) (by rfl) (by rfl) (by rfl) (by rfl)
      try simp only[Act.put,q98]
      refine q9T 11 rfl fun K hK=>?_
      refine Qfb (s:=(s:Int)) (a:=(a:Int)) (b:=(b:Int)) (l:=0) (t:=true) (by rfl) (by rfl) (by rfl) ?_
      refine hK.out _ _ ?_ (fun hHeld=>?_)
      . (try dsimp only);exact(H8.alloc _).sq HOP
      clear hK K;try simp only[Act.put,q98]
      refine q9T 12 rfl fun K hK=>?_
      refine QL (l2:=[⟨s,a,b,0,true⟩]) (by rfl) _ _ (by rfl) rfl (H8.alloc (.cells #[I (s:Int),I (a:Int),I (b:Int),I 0,.bool true] 56)).pw.ew (I1 w7.drew.heap.size 0) 1 1 rfl rfl (Qiq w7.drew ⟨s,a,b,0,true⟩) (by have:=HN.out;have:=HLN.out;simp;omega) (H8.alloc (.cells #[I (s:Int),I (a:Int),I (b:Int),I 0,.bool true] 56)).pw.size ?_
      intro v5 w5 hO5 hg5;have HB8:=q9 ((H8.alloc (.cells #[I (s:Int),I (a:Int),I (b:Int),I 0,.bool true] 56)).appended hg5 hO5);have z7:=Blk.cell HB8.1 14;have z8:=Blk.frozen HB8.1 14;have z9:=HB8.1.lt;obtain⟨av5,ac5,hv5⟩:=hO5.slice;obtain⟨n6,hn6⟩:∃ N,(ls++[(⟨s,a,b,0,true⟩:E1)]).length=N:=⟨_,rfl⟩;rw[hn6] at hv5;subst hv5;clear hg5 hO5 hn6
      refine hK.out _ _ ?_ (fun hHeld=>?_)
      . (try dsimp only);exact⟨HB8.2.2 _ _ _ HOP QiH,HB8.1⟩
      clear hK K;try simp only[Act.put,q98]
      refine q9P 13 rfl ?_
      refine q9P 14 rfl ?_
      refine Till.ready (rs:=[15]) (by kernel_rfl) (by simp) ?_
      refine Qc.last rfl (by rfl) (fun K hK=>?_) ?_
      rotate_left
      . exact Qc.nil
      go_simp
      refine hK.out _ _ ?_;clear hK K;try simp only[Act.put,q98]
      refine Till.done (by kernel_rfl) ?_ _
      clear hrule o0 o1 o2 o3 c0 c1 c2 c3 c4 c5 c6 c7 c8 c9 c10 c11 c12 c13 c14 olt qlt;have H9:=q9 HB8.2.1;clear z7 z8 z9;go_wp2_with fail
      go_end0
      have HGF:=HG7.out
      rw[show (ls++[(⟨s,a,b,0,false⟩:E1)]).set k ⟨s,a,b,0,true⟩=ls++[⟨s,a,b,0,true⟩] from by rw[<-HN.out];simp] at HGF
      exact⟨rfl,f7,mk7,ts7,_,_,_,(HB0.over H9.out).more (by show _<=_;omega),HGF,.inr ⟨by rw[HAE.1,HAE.2];exact HNP.out,true,by rw[HAE.1,HAE.2];exact⟨fun _=>HWN.out,fun _=>rfl⟩,by rw[HAE.1,HAE.2]⟩⟩
    . as_aux_lemma=>
      go_wp2_with fail
      have H6:=q9 HA5.drew;clear HA5 o0 o1 o2 o3 c0 c1 c2 c3 c4 c5 c6 c7 c8 c9 c10 c11 c12 c13 c14 olt qlt;obtain⟨⟨o0,o1,o2,o3⟩,c0,c1,c2,c3,c4,c5,c6,c7,c8,c9,c10,c11,c12,c13,c14⟩:=hrule _ (H6.sq HOP.out);obtain⟨olt,qlt⟩:=(H6.sq HOP.out).lt
      have HWN:Hid (Way (tE ls 0) a b):=q9 (HRW.1 (by trivial))
      have HPL:=q9 (Qng (bs:=ls) (x:=⟨s,a,b,0,false⟩) H6.pw.ta HER.2 HER.1 rfl HNS.out (by omega))
      go_region_held3 (fun W=>SQ13 W ob q p V S T (.slice av k ac) kd (s:Int) (u:Int) (v:Int)) (first|(with_reducible assumption)|(with_reducible exact H7.out.sq HOP.out)|(with_reducible exact H6.out.sq HOP.out))
       (first
        |(go_at_call 83;((with_reducible refine HPL.out.mono ?_);rintro e w7 ⟨f7,mk7,ts7,rfl,A7,G7,_,O7⟩;have H7:=q9 (H6.out.next A7 O7);have HG7:=q9 G7)))
      clear HPL o0 o1 o2 o3 c0 c1 c2 c3 c4 c5 c6 c7 c8 c9 c10 c11 c12 c13 c14 olt qlt H6 hrule;have hrule:=SQ13.rule ob q p V S T (.slice av k ac) kd (s:Int) (u:Int) (v:Int);go_wp2_with fail
      have H8:=q9 H7.drew;obtain⟨⟨o0,o1,o2,o3⟩,c0,c1,c2,c3,c4,c5,c6,c7,c8,c9,c10,c11,c12,c13,c14⟩:=hrule _ (H8.sq HOP.out);obtain⟨olt,qlt⟩:=(H8.sq HOP.out).lt
      refine QcL (fun W=>SQ13 W ob q p V S T (.slice av k ac) kd (s:Int) (u:Int) (v:Int)) (fun j=>decide (15<=j)) (by kernel_rfl) ?_ (fun hHeld=>?_)
      . exact H8.sq HOP
      refine q9P 0 rfl ?_
      refine q9P 1 rfl ?_
      refine q9P 2 rfl ?_
      refine q9P 3 rfl ?_
      refine q9L 4 rfl ?_
      refine q9P 5 rfl ?_
      refine q9L 6 rfl ?_
      refine q9P 7 rfl ?_
      refine q9P 8 rfl ?_
      refine q9P 9 rfl ?_
      refine Till.plain (i:=10) (v:=Qea (s:Int) (a:Int) (b:Int) 0 false) rfl (by kernel_rfl) (by kernel_rfl) (by kernel_rfl) (fun _ _ _ h=>h) (Or.inl ⟨by rfl,?_⟩) ?_
      . exact fun w _=>QgQ (s:=(s:Int)) (a:=(a:Int)) (b:=(b:Int)) (t:=false) (by rfl) (by rfl) (by rfl) (by rfl) (by rfl)
      try simp only[Act.put,q98]
      refine q9T 11 rfl fun K hK=>?_
      refine Qfb (s:=(s:Int)) (a:=(a:Int)) (b:=(b:Int)) (l:=0) (t:=false) (by rfl) (by rfl) (by rfl) ?_
      refine hK.out _ _ ?_ (fun hHeld=>?_)
      . (try dsimp only);exact(H8.alloc _).sq HOP
      clear hK K;try simp only[Act.put,q98]
      refine q9T 12 rfl fun K hK=>?_
      refine QL (l2:=[⟨s,a,b,0,false⟩]) (by rfl) _ _ (by rfl) rfl (H8.alloc (.cells #[I (s:Int),I (a:Int),I (b:Int),I 0,.bool false] 56)).pw.ew (I1 w7.drew.heap.size 0) 1 1 rfl rfl (Qiq w7.drew ⟨s,a,b,0,false⟩) (by have:=HN.out;have:=HLN.out;simp;omega) (H8.alloc (.cells #[I (s:Int),I (a:Int),I (b:Int),I 0,.bool false] 56)).pw.size ?_
      intro v5 w5 hO5 hg5;have HB8:=q9 ((H8.alloc (.cells #[I (s:Int),I (a:Int),I (b:Int),I 0,.bool false] 56)).appended hg5 hO5);have z7:=Blk.cell HB8.1 14;have z8:=Blk.frozen HB8.1 14;have z9:=HB8.1.lt;obtain⟨av5,ac5,hv5⟩:=hO5.slice;obtain⟨n6,hn6⟩:∃ N,(ls++[(⟨s,a,b,0,false⟩:E1)]).length=N:=⟨_,rfl⟩;rw[hn6] at hv5;subst hv5;clear hg5 hO5 hn6
      refine hK.out _ _ ?_ (fun hHeld=>?_)
      . (try dsimp only);exact⟨HB8.2.2 _ _ _ HOP QiH,HB8.1⟩
      clear hK K;try simp only[Act.put,q98]
      refine q9P 13 rfl ?_
      refine q9P 14 rfl ?_
      refine Till.ready (rs:=[15]) (by kernel_rfl) (by simp) ?_
      refine Qc.last rfl (by rfl) (fun K hK=>?_) ?_
      rotate_left
      . exact Qc.nil
      go_simp
      refine hK.out _ _ ?_;clear hK K;try simp only[Act.put,q98]
      refine Till.done (by kernel_rfl) ?_ _
      clear hrule o0 o1 o2 o3 c0 c1 c2 c3 c4 c5 c6 c7 c8 c9 c10 c11 c12 c13 c14 olt qlt;have H9:=q9 HB8.2.1;clear z7 z8 z9;go_wp2_with fail
      go_end0
      have HGF:=HG7.out
      exact⟨rfl,f7,mk7,ts7,_,_,_,(HB0.over H9.out).more (by show _<=_;omega),HGF,.inr ⟨by rw[HAE.1,HAE.2];exact HNP.out,false,by rw[HAE.1,HAE.2];exact⟨fun h=>(by cases h),fun h=>absurd HWN.out h⟩,by rw[HAE.1,HAE.2]⟩⟩
end
end Go.Proofs.YtaooglagddphnaaGreat
