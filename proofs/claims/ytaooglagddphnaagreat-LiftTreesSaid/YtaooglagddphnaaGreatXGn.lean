/- Gn -/
import Derived.Test.YtaooglagddphnaaGreatXGm
import Derived.Test.YtaooglagddphnaaGreatXGe
import Derived.Deep.AppendLies
namespace Go.Proofs.YtaooglagddphnaaGreat
open Go.RowKit
set_option maxRecDepth 100000
section
variable {w w':World}{sb n y base:Nat}{F:Nat->Nat}{vs:List Value}{ts:List Tp}{v:Value}{xs:List Value}{l:List Nat}
theorem QT.set (h:QT w sb vs ts)(y:Nat)(u:Value):QT (w.setCell (I1 sb y) u) sb vs ts:=h.keep fun _ _ _ _ h1 h2=>h1.keep fun b hb=>Below.heap_setCell w (I1 sb y) u b (fun e=>h2 (by rw[hb,e]))
theorem RowV.set13 (h:RowV w base v xs)(hz:Cn13 w sb n F)(y:Nat)(u:Value):RowV (w.setCell (I1 sb y) u) base v xs:=by
 obtain⟨zs,hz,_⟩:=hz
 exact h.kept_of fun i hi=>Below.heap_setCell w (I1 sb y) u i (fun e=>h.ne_blk hz (by decide) (by rw[hi,e]))
theorem LI.set13 (h:LI w v l)(hb:∀ b,bk v=some b->b≠sb)(y:Nat)(u:Value):LI (w.setCell (I1 sb y) u) v l:=h.keep fun b h1=>Below.heap_setCell w (I1 sb y) u b (hb b h1)
theorem LI.blk13 (h:LI w v l){b:Nat}(hb:bk v=some b):∃ zs,Blk w b 3 zs:=by
 obtain⟨a,cap,rfl,_,_,_,h2⟩:=h
 cases a with
 |none=>cases hb
 |some x=>
  cases cap with
  |zero=>cases hb
  |succ n=>
   obtain⟨b',off,zs,e,hz,_⟩:=h2 (Nat.succ_pos n);injection e with e;subst e;change some b'=some b at hb;injection hb with hb;subst hb;exact⟨zs,hz⟩
theorem QT.grown13 (h:QT w sb vs ts)(hR:RowV w base v xs)(hg:w.grownBy w' v.ownBlock):QT w' sb vs ts:=h.keep fun _ _ _ _ h1 _=>h1.keep fun b hb=>by
 obtain⟨zs,hz⟩:=h1.blk13 hb
 exact hg.block b hz.lt fun e=>hR.ne_blk hz (by decide) e.symm
theorem Cn13.grown (h:Cn13 w sb n F)(hR:RowV w base v xs)(hg:w.grownBy w' v.ownBlock):Cn13 w' sb n F:=by
 obtain⟨zs,hz,he⟩:=h
 exact⟨zs,(hg.block sb hz.lt fun e=>hR.ne_blk hz (by decide) e.symm).trans hz,he⟩
theorem LI.grown13 (h1:LI w v l){vr:Value}(hR:RowV w base vr xs)(hg:w.grownBy w' vr.ownBlock):LI w' v l:=h1.keep fun b hb=>by
 obtain⟨zs,hz⟩:=h1.blk13 hb
 exact hg.block b hz.lt fun e=>hR.ne_blk hz (by decide) e.symm
theorem QT.snoc13 (h:QT w sb vs ts){t:Tp}(hl:LI w v t.row)(hb:bk v≠some sb):QT w sb (vs++[v]) (ts++[t]):=by
 refine⟨by rw[List.length_append,List.length_append,h.1];rfl,fun i u s hu hs=>?_⟩
 by_cases hi:i<vs.length
 . rw[List.getElem?_append_left hi] at hu
   rw[List.getElem?_append_left (by rw[<-h.1];exact hi)] at hs
   exact h.2 i u s hu hs
 . rw[List.getElem?_append_right (by omega)] at hu
   rw[List.getElem?_append_right (by rw[<-h.1];omega),<-h.1] at hs
   have h0:i-vs.length=0:=by
    have:=(List.getElem?_eq_some_iff.1 hu).1;simp at this;omega
   rw[h0] at hu hs;simp at hu hs;subst hu hs;exact⟨hl,hb⟩
end
def KF13 (w1:World)(V:Int)(L:Nat)(ts:List Tp)(sb na:Nat)(rv i:Value)(W:World):Prop:=
 ∃ k vs,k<=na/\i=I ((k:Nat):Int)/\RowV W w1.heap.size rv vs/\QT W sb vs (TLv V L ts k)/\Cn13 W sb (na+1) (fun y=>((TLv V L ts k).flatMap Tp.row).count y)/\Below w1.heap.size w1 W/\∀ v∈vs,∀ i,bk v=some i->w1.heap.size<=i
def KI13 (w1:World)(V:Int)(L:Nat)(ts:List Tp)(sb na:Nat)(rv:Value)(vs:List Value)(k:Nat)(r:List Nat)(v i:Value)(W:World):Prop:=
 ∃ j,j<=r.length/\i=I ((j:Nat):Int)/\RowV W w1.heap.size rv vs/\QT W sb vs (TLv V L ts k)/\Cn13 W sb (na+1) (fun y=>((TLv V L ts k).flatMap Tp.row++r.take j).count y)/\LI W v r/\Below w1.heap.size w1 W
section
variable {w:World}{b:BkV}{cv:Nat->Int}{g:Mg9}{mk:Nat->Nat}{ts:List Tp}{L:Nat}
set_option maxHeartbeats 16000000 in
theorem Qhz (B:Bk w b cv)(hT:BT b cv g mk ts)(hL:(L:Int)<lv b.V):
 Calls Tryz.prog 55 #[vB b,I (L:Int)] w fun e w'=>∃ rv vs,e=.returned (.tuple #[rv,.bool true])/\RowV w' w.heap.size rv vs/\vs.length=(TLv b.V L ts b.na).length/\(∀ (i:Nat) (v:Value) (t:Tp),vs[i]?=some v->(TLv b.V L ts b.na)[i]?=some t->LI w' v t.row)/\(∀ v∈vs,∀ i,bk v=some i->w.heap.size<=i)/\Below w.heap.size w w':=by
 have HR:=q9 B.hR;have HT:=q9 hT;have HLV:=q9 hL;obtain⟨na,hna⟩:∃ k,b.na=k:=⟨_,rfl⟩;have HNA:=q9 hna
 have na560:na<=560:=by rw[<-hna,B.ha];have:=(sizes B.hR).nd2;omega
 have HNN:Hid (((na:Nat):Int)=nd b.V b.S):=q9 (by rw[<-hna,B.ha];have:=(sizes B.hR).nd1;omega)
 have HFL:Hid (∀ k,((TLv b.V L ts k).flatMap Tp.row).length<=na):=q9 fun k=>by rw[<-hna];exact hT.flat_len B k
 have HRL:Hid (∀ t∈ts,t.row.length<=na/\∀ y∈t.row,1<=y/\y<=na):=q9 fun t ht=>by rw[<-hna];exact⟨hT.row_len B ht,fun y hy=>hT.node B ht hy⟩
 have lev5:(L:Int)<=5:=by have:=QF b.V;omega
 have L0:(0:Int)<=(L:Int):=by omega
 have naI:(na:Int)<=560:=by omega
 have HBk:=q9 (B.alloc (bB b));have HX:=q9 (BB.new w b);have HW:Hid (Below w.heap.size w (w.alloc (bB b))):=q9 ((Below.refl _ _).alloc (Nat.le_refl _) _)
 have hmk:=run_make_row' (P:=Tryz.prog) 36 3 (I 0) 8 Tryz.underlying36 Qel rfl .i64 .i64 (na+1) (by omega) (by omega)
 have hna2:((na:Int)+1)=((na+1:Nat):Int):=by omega
 obtain⟨c0,c1,c2,c3,c4,c5,c6⟩:=(BB.new w b).cells;rw[hna] at c6;rw[<-hna2] at hmk;clear hna2;clear B hT hL hna
 go_enter Tryz.func55,Tryz.ntmps55
 go_wp2_with fail
 clear c0 c1 c2 c3 c4 c5 c6 hmk
 have hms:(w.alloc (bB b)).heap.size=w.heap.size+1:=by simp
 have HC:Hid (Cn13 ((w.alloc (bB b)).alloc (.cells (madeCells #[I 0] (na+1)) 3)) (w.heap.size+1) (na+1) (fun _=>0)):=q9 (by have h:=Cn13.made (w.alloc (bB b)) (na+1);rw[hms] at h;exact h)
 have hb9:Below (w.alloc (bB b)).heap.size (w.alloc (bB b)) ((w.alloc (bB b)).alloc (.cells (madeCells #[I 0] (na+1)) 3)):=(Below.refl _ _).alloc (Nat.le_refl _) _;have HSZ:Hid (w.heap.size<=w.heap.size+1):=q9 (Nat.le_succ _)
 have HREL:Hid (KF13 (w.alloc (bB b)) b.V L ts (w.heap.size+1) na (.slice none 0 0) (I 0) ((w.alloc (bB b)).alloc (.cells (madeCells #[I 0] (na+1)) 3))):=q9 ⟨0,[],Nat.zero_le _,rfl,RowV.nil _ _,⟨rfl,fun i v t h=>by simp at h⟩,HC.out,hb9,fun v hv=>by cases hv⟩
 generalize (w.alloc (bB b)).alloc (.cells (madeCells #[I 0] (na+1)) 3)=w2 at HREL |-;clear HC hb9;have HMB:=q9 hms;clear hms;generalize w.alloc (bB b)=w1 at HBk HX HW HREL HMB |-;generalize w.heap.size+1=sb at HSZ HREL HMB |-;obtain⟨xb,hxb⟩:∃ k,w.heap.size=k:=⟨_,rfl⟩;have HXB:=q9 hxb;rw[hxb] at HX |-;clear hxb
 go_loopw [8,9] (fun rv i wr=>KF13 w1 b.V L ts sb na rv i wr) (fun _ i _=>na-(intOf i).toNat)
 case atStart=>exact HREL.out
 case round=>
  clear HREL;obtain⟨k,vs,hk,rfl,hrv,hro,hcn,hb,hbk⟩:=hrel;have HRO:=q9 hro;have HCN:=q9 hcn;have HB:=q9 hb;have HBV:=q9 hbk;have HBkK:=q9 (HBk.below hb);have HXK:=q9 (HX.below hb);obtain⟨nv9,hnv9⟩:∃ n,vs.length=n:=⟨_,rfl⟩;obtain⟨av9,ac9,e9⟩:=hrv.slice;rw[hnv9] at e9;subst e9;have HRV:=q9 hrv;have HVL:Hid (vs.length=nv9):=q9 hnv9;clear hrv hro hcn hb hbk hnv9
  by_cases hkn:k<na
  . as_aux_lemma=>
    obtain⟨m,hm0⟩:=HBkK.al k (by rw[HNA.out];exact hkn)
    have HMN:=q9 hm0.2;obtain⟨n0,n1,n2,n3⟩:=hm0.1.cells;have HOF:Hid (lvN b.V (k+1)=ofF m):=q9 (Qfu HR.out hm0.2);have galt:=HBkK.lt.2
    have kI:(k:Int)<(na:Int):=by omega
    have k0:(0:Int)<=(k:Int):=by omega
    obtain⟨c0,c1,c2,c3,c4,c5,c6⟩:=HXK.cells;have xlt:=HXK.lt;clear hm0;go_wp2_with fail
    refine(Qp1 m _).mono ?_;rintro e w3 ⟨rfl,b3⟩;have HB3:=q9 (HB.trans (b3.mono HB.size));have HRV3:=q9 (HRV.below b3);have HRO3:=q9 (HRO.below b3);have HCN3:=q9 (HCN.below b3);have HBk3:=q9 (HBkK.below b3);have HX3:=q9 (HXK.below b3);clear n0 n1 n2 n3 galt HB HRV HRO HCN HBkK HXK b3 c0 c1 c2 c3 c4 c5 c6 xlt;obtain⟨c0,c1,c2,c3,c4,c5,c6⟩:=HX3.cells;have xlt:=HX3.lt
    by_cases hlv:ofF m=(L:Int)
    rotate_left
    . as_aux_lemma=>
      have HTN:Hid (TLv b.V L ts (k+1)=TLv b.V L ts k):=q9 (by
       rw[Qdp]
       cases h:QbR b.V L ts (k+1) with
       |none=>simp
       |some t=>exact absurd (HOF.symm.trans (Qak h).2.2) hlv)
      have HN5:Hid (KF13 w1 b.V L ts sb na (.slice av9 nv9 ac9) (I ((k:Int)+1)) w3):=q9 ⟨k+1,vs,hkn,by simp,HRV3.out,by rw[HTN.out];exact HRO3.out,by rw[HTN.out];exact HCN3,HB3,HBV⟩
      have hne:(ofF m !=(L:Int))=true:=by simpa using hlv
      clear HRV3 HRO3 HCN3 HBk3 HX3 HB3;go_wp2_with fail
      exact⟨HN5.out,by simp [intOf];omega⟩
    . rw[hlv]
      have hne:((L:Int) !=(L:Int))=false:=by simp
      have HPA:=q9 (Qij (x:=k+1) (L:=L) (w:=w3) HT.out HBk3.out (by omega) (by rw[HNA.out];omega) (HOF.trans hlv) (xI:=(k:Int)+1) (by omega) rfl)
      go_wp2_with fail
      refine HPA.mono ?_;rintro e w4 ⟨rfl,b4⟩;have HB4:=q9 (HB3.trans (b4.mono HB3.size));have HRV4:=q9 (HRV3.below b4);have HRO4:=q9 (HRO3.below b4);have HCN4:=q9 (HCN3.below b4);have HBk4:=q9 (HBk3.below b4);have HX4:=q9 (HX3.below b4);have HLK:Hid (lvN b.V (k+1)=(L:Int)):=q9 (HOF.trans hlv);clear HPA HB3 HRV3 HRO3 HCN3 HBk3 HX3 b4 c0 c1 c2 c3 c4 c5 c6 xlt hne
      obtain⟨t,ht,htx⟩:=(HT.fi.al (k+1)).1 ⟨by omega,by have h2:b.na=nN b.V b.S:=HBk4.ha;have:=HNA.out;omega⟩
      by_cases hg:g (k+1) 2=0
      rotate_left
      . as_aux_lemma=>
        have HTN:Hid (TLv b.V L ts (k+1)=TLv b.V L ts k):=q9 (by
         rw[Qdp]
         cases h:QbR b.V L ts (k+1) with
         |none=>simp
         |some s=>
          obtain⟨h1,h2,_⟩:=Qak h
          exact absurd (by have:=(HT.fi.st s h1).1.2;rw[h2] at this;exact this (by omega)) hg)
        have HN5:Hid (KF13 w1 b.V L ts sb na (.slice av9 nv9 ac9) (I ((k:Int)+1)) w4):=q9 ⟨k+1,vs,hkn,by simp,HRV4.out,by rw[HTN.out];exact HRO4.out,by rw[HTN.out];exact HCN4,HB4,HBV⟩
        have hg2:((g (k+1) 2:Int) !=0)=true:=by simp;exact hg
        have hg3:¬ (g (k+1) 2:Int)=0:=by omega
        generalize g (k+1) 2=gv at hg hg2 hg3 |-;clear HRV4 HRO4 HCN4 HBk4 HX4 HB4;go_wp2_with fail
        exact⟨HN5.out,by simp [intOf];omega⟩
      . rw[hg]
        have hroot:t.root=k+1:=by
         by_cases e:k+1=t.root
         . exact e.symm
         . have:=QgF (HT.fi.st t ht).1.1 (fun z hz=>((HT.fi.al z).2 ⟨t,ht,hz⟩).1) _ htx e
           exact absurd hg this.1
        have HTA:Hid (QbR b.V L ts (k+1)=some t):=q9 (by rw[<-hroot];exact Qds HT.fi ht (by rw[hroot];exact HLK))
        have HTN:Hid (TLv b.V L ts (k+1)=TLv b.V L ts k++[t]):=q9 (by rw[Qdp,HTA.out];rfl)
        have hrr:=QlF (w:=w4) (d:=0) t HBk4.out (HT.rw_ HBk4.out (HT.fi.st t ht).1.1 (fun y hy=>HT.node HBk4.out ht hy)) (by have:=(HRL.out t ht).1;have:=HNA.out;omega)
        rw[hroot,show (((k+1:Nat)):Int)=(k:Int)+1 by omega] at hrr
        have HRR:=q9 hrr;have HTT:=q9 ht;obtain⟨rn,hrn⟩:∃ n,t.row.length=n:=⟨_,rfl⟩;have HRN:=q9 hrn
        have rnI:(rn:Int)<=560:=by have:=(HRL.out t ht).1;omega
        obtain⟨c0,c1,c2,c3,c4,c5,c6⟩:=HX4.cells;have xlt:=HX4.lt;clear hrr hg htx ht hroot hrn hlv;go_wp2_with fail
        refine HRR.mono ?_;rintro e w5 ⟨v5,rfl,hl5,hk5,b5⟩;have HB5:=q9 (HB4.trans (b5.mono HB4.size));have HRV5:=q9 (HRV4.below b5);have HRO5:=q9 (HRO4.below b5);have HCN5:=q9 (HCN4.below b5)
        have HK5:Hid (∀ i,bk v5=some i->w1.heap.size<=i/\i≠sb):=q9 fun i hi=>by
         have h1:=hk5 i hi;have h2:=HB4.size;have h3:=HCN4.lt
         exact⟨by omega,by omega⟩
        obtain⟨a5,ac5,e5,hl5⟩:=Qad hl5 HRN.out;subst e5;have HL5:=q9 hl5;clear HRR HB4 HRV4 HRO4 HCN4 HBk4 HX4 b5 hl5 hk5 c0 c1 c2 c3 c4 c5 c6 xlt;go_wp2_with fail
        obtain⟨wA,rfl⟩:∃ w9:World,w9=wr:=⟨_,rfl⟩
        have HRELI:Hid (KI13 w1 b.V L ts sb na (.slice av9 nv9 ac9) vs k t.row (.slice a5 rn ac5) (I 0) w5):=q9 ⟨0,Nat.zero_le _,rfl,HRV5.out,HRO5.out,by rw[List.take_zero,List.append_nil];exact HCN5,HL5,HB5⟩
        clear HRV5 HRO5 HCN5 HL5 HB5
        go_loopw [12] (fun i wr=>KI13 w1 b.V L ts sb na (.slice av9 nv9 ac9) vs k t.row (.slice a5 rn ac5) i wr) (fun i _=>rn-(intOf i).toNat)
        case atStart=>exact HRELI.out
        case round=>
         clear HRELI;obtain⟨j,hj,rfl,hrv,hro,hcn,hli,hb⟩:=hrel;have HRV:=q9 hrv;have HRO:=q9 hro;have HCN:=q9 hcn;have HLI:=q9 hli;have HB:=q9 hb;have HBkK:=q9 (HBk.below hb);have HXK:=q9 (HX.below hb);rw[HRN.out] at hj;clear hrv hro hcn hli hb
         by_cases hjr:j<rn
         . as_aux_lemma=>
           obtain⟨y,hy⟩:∃ y,t.row[j]?=some y:=⟨_,List.getElem?_eq_getElem (by have:=HRN.out;omega)⟩
           have HY:=q9 hy;obtain⟨b1,o1,e1,p1⟩:=HLI.at hy;subst e1;have b1lt:b1<wr.heap.size:=World.block_lt_of_cell? _ _ p1;have hyn:=(HRL.out t HTT.out).2 y (List.mem_of_getElem? hy)
           have HLY:Hid (lvN b.V y=(L:Int)):=q9 (by
            rw[HT.lv t HTT.out y (List.mem_of_getElem? hy) t.root (HT.fi.root_in HTT.out).1];have:=Qak HTA.out;rw[this.2.1];exact this.2.2)
           obtain⟨z,rfl⟩:∃ z,y=z+1:=⟨y-1,by omega⟩
           obtain⟨m,hm0⟩:=HBkK.al z (by rw[HNA.out];omega)
           have HOF:Hid (ofF m=(L:Int)):=q9 ((Qfu HR.out hm0.2).symm.trans HLY.out);have HM0:=q9 hm0.1
           have hce:=HCN.cell (k:=z+1) (by omega)
           have hfz:=HCN.frozen (z+1);have slt:=HCN.lt
           have hcc:((TLv b.V L ts k).flatMap Tp.row++t.row.take j).count (z+1)<=560:=by
            have h1:=HFL.out (k+1);rw[HTN.out,List.flatMap_append,List.length_append] at h1
            have h2:((TLv b.V L ts k).flatMap Tp.row++t.row.take j).length<=na:=by
             rw[List.length_append,List.length_take]
             have h4:([t].flatMap Tp.row)=t.row:=by simp
             rw[h4] at h1;omega
            have h3:=List.count_le_length (a:=z+1) (l:=(TLv b.V L ts k).flatMap Tp.row++t.row.take j);omega
           have HNX:Hid (∀ i,((TLv b.V L ts k).flatMap Tp.row++t.row.take (j+1)).count i=((TLv b.V L ts k).flatMap Tp.row++t.row.take j).count i+if i=z+1 then 1 else 0):=q9 fun i=>by
            rw[Qa5 HY.out,<-List.append_assoc,List.count_append (l₁:=(TLv b.V L ts k).flatMap Tp.row++t.row.take j),List.count_singleton]
            congr 1
            by_cases e:i=z+1
            . simp [e]
            . simp [e,Ne.symm e]
           obtain⟨cc,hcce⟩:∃ c,((TLv b.V L ts k).flatMap Tp.row++t.row.take j).count (z+1)=c:=⟨_,rfl⟩;have HCE:=q9 hcce;rw[hcce] at hce hcc
           have cI:(cc:Int)<=560:=by omega
           have c0':(0:Int)<=(cc:Int):=by omega
           have zI:(z:Int)<(na:Int):=by omega
           have z0:(0:Int)<=(z:Int):=by omega
           have zI2:(z:Int)+1<(na:Int)+1:=by omega
           have z600:(z:Int)<=600:=by omega
           have jI:(j:Int)<(rn:Int):=by omega
           have j0:(0:Int)<=(j:Int):=by omega
           clear hcce hy hm0
           have HCN2:Hid (Cn13 (wr.setCell (I1 sb (z+1)) (I ((cc:Int)+1))) sb (na+1) (fun y=>((TLv b.V L ts k).flatMap Tp.row++t.row.take (j+1)).count y)):=q9 (HCN.set_ (k:=z+1) (by omega) (by (try dsimp only);rw[HNX.out,HCE.out,if_pos rfl];omega) (fun i hi=>by (try dsimp only);rw[HNX.out,if_neg hi,Nat.add_zero]))
           have HRV2:=q9 (HRV.set13 HCN.out (z+1) (I ((cc:Int)+1)));have HRO2:=q9 (HRO.set (z+1) (I ((cc:Int)+1)))
           have HLI2:=q9 (HLI.set13 (sb:=sb) (fun i hi=>(HK5.out i hi).2) (z+1) (I ((cc:Int)+1)))
           have HB2:=q9 (HB.setCell (p:=(I1 sb (z+1))) (by rw[HMB.out];exact Nat.le_refl _) (I ((cc:Int)+1)))
           clear HCN HRV HRO HLI;go_upto_region 15 with fail
           generalize hw9:wr.setCell (I1 sb (z+1)) (I ((cc:Int)+1))=w9 at HCN2 HRV2 HRO2 HLI2 HB2 |-;clear hw9 p1 b1lt hce hfz slt;obtain⟨b2,o2,e2,p1⟩:=HLI2.at HY.out;injection e2 with e2;injection e2 with e3 e4 _;subst e3 e4;have b1lt:b1<w9.heap.size:=World.block_lt_of_cell? _ _ p1;have HBk9:=q9 (HBk.below HB2.out)
           obtain⟨m',hm'⟩:=HBk9.al z (by rw[HNA.out];omega)
           have HOF':Hid (ofF m'=(L:Int)):=q9 ((Qfu HR.out hm'.2).symm.trans HLY.out);obtain⟨n0,n1,n2,n3⟩:=hm'.1.cells;have galt:=HBk9.lt.2;clear hm' HBkK HXK HB;go_wp2_with fail
           refine(Qp1 m' _).mono ?_;rintro e w8 ⟨rfl,b8⟩;have HB8:=q9 (HB2.trans (b8.mono HB2.size));have HRV8:=q9 (HRV2.below b8);have HRO8:=q9 (HRO2.below b8);have HCN8:=q9 (HCN2.below b8);have HLI8:=q9 (HLI2.below b8);clear HB2 HRV2 HRO2 HCN2 HLI2 b8 n0 n1 n2 n3 p1 b1lt galt HBk9;rw[HOF'.out]
           have hne:((L:Int) !=(L:Int))=false:=by simp
           go_wp2_with fail
           go_roundw
           case rel=>exact⟨j+1,by have:=HRN.out;omega,by simp,HRV8.out,HRO8.out,HCN8.out,HLI8.out,HB8.out⟩
           case measure=>simp [intOf];omega
         . as_aux_lemma=>
           have ej:rn=j:=by omega
           subst ej
           have jN:¬ (rn:Int)<(rn:Int):=by omega
           have htk:t.row.take rn=t.row:=by rw[<-HRN.out,List.take_length]
           rw[htk] at HCN;have HBS:Hid (w1.heap.size<=wr.heap.size):=q9 HB.size
           have hcl:nv9<=100000:=by
            have h1:=HRO.1
            have h2:(TLv b.V L ts k).length<=k:=by
             unfold TLv
             exact Nat.le_trans (List.length_filterMap_le _ _) (by rw[List.length_range'];exact Nat.le_refl _)
            have:=HVL.out;omega
           clear htk HBkK HXK
           go_wp2_with (at_builtin;go_loud (refine QcM _ rfl _ _ rfl rfl (HRV.alloc _) (.slice a5 rn ac5) rfl (I1 wr.heap.size 0) 1 rfl (Q5 _ _ _) (by rw[HVL.out];exact hcl) (Nat.le_trans HBS.out (by simp)) ?_))
           intro v' w3 hR3 hg3
           have HRO3:=q9 (((HRO.below ((Below.refl _ _).alloc (Nat.le_refl _) (.cells #[.slice a5 rn ac5] 36))).grown13 (HRV.alloc _) hg3).snoc13 (((HLI.below ((Below.refl _ _).alloc (Nat.le_refl _) (.cells #[.slice a5 rn ac5] 36)))).grown13 (HRV.alloc _) hg3) (fun e=>(HK5.out sb e).2 rfl))
           have HCN3:=q9 ((HCN.below ((Below.refl _ _).alloc (Nat.le_refl _) (.cells #[.slice a5 rn ac5] 36))).grown (HRV.alloc _) hg3)
           have HB3:=q9 ((HB.alloc HB.size (.cells #[.slice a5 rn ac5] 36)).grown hg3 (by simp;have:=HBS.out;omega) (fun r hr=>((HRV.alloc (.cells #[.slice a5 rn ac5] 36)).lt r hr).1))
           have HN5:Hid (KF13 w1 b.V L ts sb na v' (I ((k:Int)+1)) w3):=q9 ⟨k+1,vs++[.slice a5 rn ac5],hkn,by simp,hR3,by rw[HTN.out];exact HRO3.out,by rw[HTN.out,List.flatMap_append];have:=HCN3.out;simpa using this,HB3.out,fun v hv i hi=>by
            rcases List.mem_append.1 hv with h|h
            . exact HBV v h i hi
            . simp at h;subst h;exact(HK5 i hi).1⟩
           clear hR3 hg3 HRO3 HCN3 HB3 HRV HRO HCN HLI HB;go_wp2_with fail
           exact⟨HN5.out,by simp [intOf];omega⟩
  . as_aux_lemma=>
    have ek:na=k:=by omega
    subst ek
    have kN:¬ (na:Int)<(na:Int):=by omega
    have HWK:=q9 (HW.trans (HB.mono HW.size));clear HBkK HXK hk hkn;go_wp2_with fail
    obtain⟨wA,rfl⟩:∃ w9:World,w9=wr:=⟨_,rfl⟩;have HRELC:Hid (∃ y:Nat,y<=na/\(I 0:Value)=I ((y:Nat):Int)/\Below wA.heap.size wA wA):=q9 ⟨0,Nat.zero_le _,rfl,Below.refl _ _⟩
    go_loopw [13] (fun i wz=>∃ y:Nat,y<=na/\i=I ((y:Nat):Int)/\Below wA.heap.size wA wz) (fun i _=>na-(intOf i).toNat)
    case atStart=>exact HRELC.out
    case round=>
     clear HRELC;obtain⟨y,hy,rfl,hb⟩:=hrel;have HBQ:=q9 hb;have HBkQ:=q9 ((HBk.below HB.out).below hb);have HCNQ:=q9 (HCN.below hb);clear hb
     by_cases hyn:y<na
     . as_aux_lemma=>
       obtain⟨m,hm0⟩:=HBkQ.al y (by rw[HNA.out];exact hyn)
       have HOF:Hid (lvN b.V (y+1)=ofF m):=q9 (Qfu HR.out hm0.2);obtain⟨n0,n1,n2,n3⟩:=hm0.1.cells;have galt:=HBkQ.lt.2
       have yI:(y:Int)<(na:Int):=by omega
       have y0:(0:Int)<=(y:Int):=by omega
       have y560:(y:Int)<=560:=by omega
       clear hm0;go_wp2_with fail
       refine(Qp1 m _).mono ?_;rintro e w3 ⟨rfl,b3⟩;have HB3:=q9 (HBQ.trans (b3.mono HBQ.size));have HCN3:=q9 (HCNQ.below b3);clear n0 n1 n2 n3 galt HBQ HCNQ HBkQ b3
       by_cases hlv:ofF m=(L:Int)
       . have hcount:((TLv b.V L ts na).flatMap Tp.row).count (y+1)=1:=by
          refine Qi7 (QbA HT.fi na) ?_
          have h2:b.na=nN b.V b.S:=by have h3:=(HBk.out).ha;exact h3
          obtain⟨t,ht,hx⟩:=(HT.fi.al (y+1)).1 ⟨by omega,by have:=HNA.out;omega⟩
          refine List.mem_flatMap.2 ⟨t,(Qcd HT.fi).2 ⟨ht,?_,?_⟩,hx⟩
          . exact((HRL t ht).2 _ (HT.fi.root_in ht).1).2
          . rw[HT.lv t ht _ (HT.fi.root_in ht).1 _ hx];exact HOF.trans hlv
         have hce:=HCN3.cell (k:=y+1) (by omega)
         try dsimp only at hce
         rw[hcount] at hce;have slt:=HCN3.lt;rw[hlv]
         have hee:((L:Int)==(L:Int))=true:=by simp
         have yI2:(y:Int)+1<(na:Int)+1:=by omega
         clear hcount HCN3;go_wp2_with fail
         go_roundw
         case rel=>exact⟨y+1,by omega,by simp,HB3.out⟩
         case measure=>simp [intOf];omega
       . have hee:((ofF m:Int)==(L:Int))=false:=by simpa using hlv
         clear HCN3;go_wp2_with fail
         go_roundw
         case rel=>exact⟨y+1,by omega,by simp,HB3.out⟩
         case measure=>simp [intOf];omega
     . as_aux_lemma=>
       have ey:na=y:=by omega
       subst ey
       have yN:¬ (na:Int)<(na:Int):=by omega
       have HWE:=q9 (HWK.trans (HBQ.mono HWK.size))
       have HRVE:=q9 ((HRV.below HBQ.out).mono (base':=w.heap.size) (by have:=HW.size;omega))
       have HROE:=q9 (HRO.below HBQ.out);clear HBkQ HCNQ;go_wp2_with fail
       go_ret2
       exact⟨_,rfl,vs,HRVE.out,by rw[HNA.out];exact HROE.1,by rw[HNA.out];exact fun i v t h1 h2=>(HROE.2 i v t h1 h2).1,fun v hv i hi=>Nat.le_trans HW.size (HBV v hv i hi),HWE⟩
end
section
variable {w w' W:World}{base n:Nat}{v:Value}
theorem Qg9 {T9 E9:TypeId}{zv:Value}{by9:Nat}(hT:Tryz.prog.underlying T9=some (.slice E9))(hE:(Tryz.prog.info? E9).map (fun i=>(i.zero,i.size,i.bytes))=some (some zv,1,by9))(hzv:zv.cells.size=1)(hby:by9<=64)
 {ops:Array Oper} {o:Oper} {a:Act} {K:Act->World->Prop} {Q:Exit->Act->World->Prop} {F:Prop} (hgd:o.guard=none) (s x:Operand)
 (ho:o.op=.call { callee:=.builtin .append,args:=#[s,x],argTypes:=#[T9,T9]})
 {v:Value} {xs:List Value} (hs:a.eval s=v) (h:w.ownsRow base E9 1 v xs.length xs) (u:Value) (hu:u.oneCell'=true) (ad:Addr) (c:Nat) (hx:a.eval x=.slice (some ad) 1 c) (hc:w.cell? (ad.add 0)=some u) (hl:xs.length<=1000) (hb:base<=w.heap.size)
 (hK:∀ g cap w',w'.ownsRow base E9 1 (I3 (I1 g 0) (xs.length+1) cap) (xs++[u]).length (xs++[u])->w.grownBy w' v.ownBlock->g<w'.heap.size->K (a.put o.dst (I3 (I1 g 0) (xs.length+1) cap)) w'):
 if Region.wanted o (yielded ops a.tmps)=true then Oper.wp Tryz.prog o a w K Q else F:=by
 obtain⟨i0,hi0,hz0,hz1,hz2⟩:=info_parts hE
 have hm:(xs.length+1)*by9<=1001*64:=Nat.mul_le_mul (by omega) hby
 refine step_append_lies w hgd s x T9 ho base E9 i0 _ 1 by9 hT hi0 hz0 hz1 hz2 hzv (by omega) v xs.length xs hs h ad 1 c [u] hx rfl ?_ ?_ (by omega) (by simp only[maxLen];omega) (by omega) hb w.heap.size rfl ?_
 . intro j u' hj
   match j,hj with
   |0,hj=>simp at hj;subst hj;exact hc
   |j+1,hj=>simp at hj
 . intro u' hu';simp at hu';subst hu';exact hu
 . intro g cap w' h1 h2 _ h4
   refine hK g cap w' ?_ h2 h4;rw[List.length_append,List.length_singleton];exact h1
theorem Qbh {T9 E9:TypeId}{zv:Value}{by9:Nat}(hT:Tryz.prog.underlying T9=some (.slice E9))(hE:(Tryz.prog.info? E9).map (fun i=>(i.zero,i.size,i.bytes))=some (some zv,1,by9))(hzv:zv.cells.size=1)(hby:by9<=64)
 {ops:Array Oper} {rest:List Oper} {o:Oper} {a:Act} {Q:Exit->Act->World->Prop} (hgd:o.guard=none) (s x:Operand)
 (ho:o.op=.call { callee:=.builtin .append,args:=#[s,x],argTypes:=#[T9,T9]})
 {v:Value} {xs:List Value} (hs:a.eval s=v) (h:w.ownsRow base E9 1 v xs.length xs) (u:Value) (hu:u.oneCell'=true) (ad:Addr) (c:Nat) (hx:a.eval x=.slice (some ad) 1 c) (hc:w.cell? (ad.add 0)=some u) (hl:xs.length<=10000) (hb:base<=w.heap.size)
 (hK:∀ v' w',w'.ownsRow base E9 1 v' (xs++[u]).length (xs++[u])->w.grownBy w' v.ownBlock->wpList Tryz.prog ops Q rest (a.put o.dst v') w'):wpList Tryz.prog ops Q (o :: rest) a w:=by
 obtain⟨i0,hi0,hz0,hz1,hz2⟩:=info_parts hE
 have hm:(xs.length+1)*by9<=10001*64:=Nat.mul_le_mul (by omega) hby
 refine wpList_append_own_at w hgd s x T9 ho base E9 i0 _ 1 by9 hT hi0 hz0 hz1 hz2 hzv (by omega) v xs.length xs hs h ad 1 c [u] hx rfl ?_ ?_ (by simp only[maxLen];omega) (by omega) hb ?_
 . intro j u' hj
   match j,hj with
   |0,hj=>simp at hj;subst hj;exact hc
   |j+1,hj=>simp at hj
 . intro u' hu';simp at hu';subst hu';exact hu
 . intro v' w' h1 h2 _ _
   refine hK v' w' ?_ h2;rw[List.length_append,List.length_singleton];exact h1
theorem QbD {E9:TypeId}{xs:List Value}(h:w.ownsRow base E9 1 v xs.length xs)(hn:0<xs.length):∃ g cap zs,v=I3 (I1 g 0) xs.length cap/\base<=g/\Blk w g E9 zs/\∀ (k:Nat) (x:Value),xs[k]?=some x->zs[k]?=some x:=by
 rcases h.2 with ⟨rfl,h0⟩|⟨g,cap,cur,rfl,hg,hgg,h1,h2,h3,h4⟩
 . omega
 . refine⟨g,cap,cur,rfl,hg,hgg,fun k x hx=>?_⟩
   have hk:=(List.getElem?_eq_some_iff.1 hx).1
   have hc:cur[k]?=xs[k]?:=by
    rw[<-h4,List.getElem?_take_of_lt (by omega),Array.getElem?_toList]
   rw[hc];exact hx
theorem Qf9 {E9:TypeId}{xs:List Value}{n:Nat}(h:w.ownsRow base E9 1 v n xs):∃ a c,v=.slice a n c:=by
 rcases h.2 with ⟨rfl,rfl⟩|⟨g,cap,cur,rfl,_⟩
 . exact⟨_,_,rfl⟩
 . exact⟨_,_,rfl⟩
theorem QaJ {E9 ty:TypeId}{xs:List Value}{n fb:Nat}{cs:Array Value}(h:w.ownsRow base E9 1 v n xs)(hf:Blk w fb ty cs)(hne:E9≠ty)(j:Nat)(u:Value):(w.setCell (I1 fb j) u).ownsRow base E9 1 v n xs:=by
 rcases h.2 with ⟨e,h0⟩|⟨g,cap,cur,e,hg,hgg,h1,h2,h3,h4⟩
 . exact⟨h.1,.inl ⟨e,h0⟩⟩
 . subst e
   refine⟨h.1,.inr ⟨g,cap,cur,rfl,hg,?_,h1,h2,h3,h4⟩⟩;exact Blk.far (p:=(I1 fb j)) (show Blk w g E9 cur from hgg) (Blk.ne_ (show Blk w g E9 cur from hgg) hf hne) u
theorem QbE {E9:TypeId}{xs:List Value}{n:Nat}(h:w.ownsRow base E9 1 v n xs)(hb:∀ i,v.ownBlock=some i->w'.heap[i]?=w.heap[i]?):w'.ownsRow base E9 1 v n xs:=by
 rcases h.2 with ⟨e,h0⟩|⟨g,cap,cur,e,hg,hgg,h1,h2,h3,h4⟩
 . exact⟨h.1,.inl ⟨e,h0⟩⟩
 . subst e
   refine⟨h.1,.inr ⟨g,cap,cur,rfl,hg,?_,h1,h2,h3,h4⟩⟩
   by_cases hc:cap=0
   . subst hc
     first
      |exact(hb g rfl).trans hgg
      |(simp at h1;exact absurd h1 (by omega))
   . obtain⟨c,rfl⟩:∃ c,cap=c+1:=⟨cap-1,by omega⟩
     exact(hb g rfl).trans hgg
end
section
variable {vx vx':Nat->Bool}{mk:Nat->Nat}{g:Mg9}{t:Tp}{pri pri':Nat->Nat}
theorem Hp.congr13:∀ {t:Tp},Hp pri t->(∀ x∈t.row,pri' x=pri x)->Hp pri' t
 |.nil,_,_=>trivial
 |.node l x r,h,he=>by
  obtain⟨h1,h2,h3,h4⟩:=h
  have hx:pri' x=pri x:=he x (by simp [Tp.row])
  have hl:∀ y∈l.row,pri' y=pri y:=fun y hy=>he y (by rw[Tp.row_node];exact List.mem_append_left _ hy)
  have hr:∀ y∈r.row,pri' y=pri y:=fun y hy=>he y (by rw[Tp.row_node];exact List.mem_append_right _ (List.mem_cons_of_mem _ hy))
  refine⟨fun y hy=>?_,fun y hy=>?_,h3.congr13 hl,h4.congr13 hr⟩
  . have:=h1 y hy
    rw[QdV] at this |-;rw[hx,hl y hy];exact this
  . have:=h2 y hy
    rw[QdV] at this |-;rw[hx,hr y hy];exact this
end
end Go.Proofs.YtaooglagddphnaaGreat
