/- Gm -/
import Derived.Test.YtaooglagddphnaaGreatXGe
import Derived.Test.YtaooglagddphnaaGreatXGh
import Derived.Test.YtaooglagddphnaaGreatXGj
import Derived.Test.YtaooglagddphnaaGreatXGd
import Derived.Deep.DeepCutAuto
import Derived.Deep.RegionHeld3
namespace Go.Proofs.YtaooglagddphnaaGreat
open Go.RowKit
set_option maxRecDepth 100000
def SN13 (W:World)(eb nb e0 e1:Nat)(a v c:Int):Prop:=Blk W eb 72 #[I (e0:Int),I (e1:Int)]/\Blk W nb 114 #[I 1,I a,I v,I c]
section
variable {w w':World}{eb nb e0 e1:Nat}{a v c:Int}
theorem SN13.below (h:SN13 w eb nb e0 e1 a v c)(hb:Below w.heap.size w w'):SN13 w' eb nb e0 e1 a v c:=⟨Blk.below h.1 hb (Blk.lt h.1),Blk.below h.2 hb (Blk.lt h.2)⟩
theorem SN13.lt (h:SN13 w eb nb e0 e1 a v c):eb<w.heap.size/\nb<w.heap.size:=⟨Blk.lt h.1,Blk.lt h.2⟩
theorem SN13.cells (h:SN13 w eb nb e0 e1 a v c):w.cell? (I1 eb 0)=some (I (e0:Int))/\w.cell? (I1 eb 1)=some (I (e1:Int))/\w.cell? (I1 nb 0)=some (I 1)/\w.cell? (I1 nb 1)=some (I a)/\w.cell? (I1 nb 2)=some (I v)/\w.cell? (I1 nb 3)=some (I c):=
 ⟨Blk.cell h.1 0,Blk.cell h.1 1,Blk.cell h.2 0,Blk.cell h.2 1,Blk.cell h.2 2,Blk.cell h.2 3⟩
theorem SN13.rule (eb nb e0 e1:Nat)(a v c:Int):∀ W:World,SN13 W eb nb e0 e1 a v c->W.cell? (I1 eb 0)=some (I (e0:Int))/\W.cell? (I1 eb 1)=some (I (e1:Int))/\W.cell? (I1 nb 0)=some (I 1)/\W.cell? (I1 nb 1)=some (I a)/\W.cell? (I1 nb 2)=some (I v)/\W.cell? (I1 nb 3)=some (I c):=fun _ h=>h.cells
end
def KS13 (w1:World)(V S:Int)(l:List Nat)(d:Nat)(o i:Value)(W:World):Prop:=
 ∃ k r,k<=l.length/\i=I ((k:Nat):Int)/\o=I r/\(r=-1\/r=(d:Int))/\((∃ x∈l.take k,∃ m,Qn V S m (x-1)/\m.k=1)->r=(d:Int))/\Below w1.heap.size w1 W
section
variable {w:World}{b:BkV}{cv:Nat->Int}{l:List Nat}{d e0 e1 n:Nat}{vp vg:Value}{gr:List (Option (Nat × Nat))}{E:List (Nat × Nat × Nat)}
theorem QaC {x y V:Nat}{t:Bool}(h:GI w vg gr)(hl:gr.length<=1000)(hE:Lnk gr E)(hx:x<V)(hV:V<=1000)(hlt:∀ s a b,(s,a,b)∈E->a<V/\b<V)(ht:t=true↔Way E x y):
 Calls Tryz.prog 43 #[vg,I (x:Int),I (y:Int)] w fun e w'=>e=.returned (.bool t)/\Below w.heap.size w w':=by
 refine(Qhv h hl hE hx hV hlt).mono ?_;rintro e w' ⟨r,rfl,h1,h2⟩
 exact⟨by rw[show r=t from Bool.eq_iff_iff.2 (h1.trans ht.symm)],h2⟩
set_option maxHeartbeats 8000000 in
theorem QjQ (B:Bk w b cv)(hp:LI w vp l)(hl:l.length<=100000)(hg:GI w vg gr)(hgl:gr.length<=1000)(hE:Lnk gr E)(hlt:∀ s a b,(s,a,b)∈E->a<n/\b<n)(hn:n<=1000)(hd:d=0\/d=1)
 (hx:∀ x∈l,∃ m,Qn b.V b.S m (x-1)/\1<=x/\x-1<b.na/\(m.k=1->∃ v:Nat,m.b=v/\v<n/\(d=0->Way E v e0)/\(d=1->¬ Way E v e0/\Way E v e1))):
 Calls Tryz.prog 144 #[vB b,vp,vg,.agg #[I (e0:Int),I (e1:Int)]] w fun e w'=>∃ r:Int,e=.returned (I r)/\(r=-1\/r=(d:Int))/\((∃ x∈l,∃ m,Qn b.V b.S m (x-1)/\m.k=1)->r=(d:Int))/\Below w.heap.size w w':=by
 obtain⟨pa,pn,pc,hpe⟩:∃ a n c,vp=.slice a n c:=by obtain⟨a,c,e,_⟩:=hp.shape;exact⟨a,_,c,e⟩
 subst hpe
 have hpn:l.length=pn:=by obtain⟨a,c,e,_⟩:=hp.shape;injection e with _ e _;exact e.symm
 have HPN:=q9 hpn
 have pnI:(pn:Int)<=100000:=by omega
 have HR:=q9 B.hR;have HD:=q9 hd;have HXS:=q9 hx;have HE:=q9 hE;have HGL:=q9 hgl;have HLT:=q9 hlt;have HN:=q9 hn
 have hb1:Below w.heap.size w ((w.alloc (bB b)).alloc (.cells #[I (e0:Int),I (e1:Int)] 72)):=((Below.refl _ _).alloc (Nat.le_refl _) _).alloc (by simp) _
 have HBk:=q9 (B.below hb1);have HG:=q9 (hg.below hb1);have HP:=q9 (hp.below hb1);have HEB:Hid (Blk ((w.alloc (bB b)).alloc (.cells #[I (e0:Int),I (e1:Int)] 72)) (w.heap.size+1) 72 #[I (e0:Int),I (e1:Int)]):=q9 (Q8 _ _ _ _ _);have HW:=q9 hb1;have hX:BB ((w.alloc (bB b)).alloc (.cells #[I (e0:Int),I (e1:Int)] 72)) w.heap.size b:=(BB.new w b).below ((Below.refl _ _).alloc (Nat.le_refl _) _);have HX:=q9 hX;obtain⟨c0,c1,c2,c3,c4,c5,c6⟩:=hX.cells;have xlt:=hX.lt;clear hb1 B hg hp hx hE hgl hlt hd hX hpn hl hn
 go_enter Tryz.func144,Tryz.ntmps144
 go_wp2_with fail
 clear c0 c1 c2 c3 c4 c5 c6 xlt HX;generalize (w.alloc (bB b)).alloc (.cells #[I (e0:Int),I (e1:Int)] 72)=w1 at HBk HG HP HEB HW |-;generalize w.heap.size+1=eb at HEB |-
 have HRELA:Hid (KS13 w1 b.V b.S l d (I (-1)) (I 0) w1):=q9 ⟨0,-1,Nat.zero_le _,rfl,rfl,.inl rfl,(fun h=>by simp at h),Below.refl _ _⟩
 go_loopw [10,11] (fun o i wr=>KS13 w1 b.V b.S l d o i wr) (fun _ i _=>pn-(intOf i).toNat)
 case atStart=>exact HRELA.out
 case round=>
  clear HRELA;obtain⟨k,r,hk,rfl,rfl,hr,hall,hb⟩:=hrel;have HB:=q9 hb;have HAL:=q9 hall;have HEBK:=q9 (HEB.below hb HEB.lt);have HGK:=q9 (HG.below hb);have HPK:=q9 (HP.below hb);have HBkK:=q9 (HBk.below hb);rw[HPN.out] at hk;clear hb hall
  by_cases hkn:k<pn
  rotate_left
  . as_aux_lemma=>
    have ek:k=pn:=by omega
    subst ek
    have kN:¬ (k:Int)<(k:Int):=by omega
    have HBE:=q9 (HW.trans (HB.mono HW.size));have HRR:=q9 hr
    have HAE:Hid ((∃ x∈l,∃ m,Qn b.V b.S m (x-1)/\m.k=1)->r=(d:Int)):=q9 (by have h:=HAL.out;rw[<-HPN.out,List.take_length] at h;exact h)
    clear hr;go_wp2_with fail
    go_ret
    exact⟨r,rfl,HRR,fun x h1 m h2 h3=>HAE.out ⟨x,h1,m,h2,h3⟩,HBE⟩
  obtain⟨x,he⟩:∃ x,l[k]?=some x:=⟨_,List.getElem?_eq_getElem (by have:=HPN.out;omega)⟩
  obtain⟨m,hm,hx1,hx2,hxv⟩:=HXS.out x (List.mem_of_getElem? he);have HXV:Hid (m.k=1->∃ v:Nat,m.b=v/\v<n/\(d=0->Way E v e0)/\(d=1->¬ Way E v e0/\Way E v e1)):=q9 hxv;clear hxv;obtain⟨b1,o1,rfl,p1⟩:=HPK.at he;have b1lt:b1<wr.heap.size:=World.block_lt_of_cell? _ _ p1
  obtain⟨z,rfl⟩:∃ z,x=z+1:=⟨x-1,by omega⟩
  have hm2:Qn b.V b.S m z:=hm
  have zn:z<b.na:=by omega
  have hnm:=HBkK.name hm2 zn;obtain⟨n0,n1,n2,n3⟩:=hnm.cells;have galt:=HBkK.lt.2
  have HNX:Hid (∀ r':Int,(m.k=1->r'=(d:Int))->(m.k≠1->r'=r)->(∃ x∈l.take (k+1),∃ m,Qn b.V b.S m (x-1)/\m.k=1)->r'=(d:Int)):=q9 fun r' h1 h2 ⟨x,hx,m',hn',hk'⟩=>by
   by_cases e:m.k=1
   . exact h1 e
   . rw[h2 e]
     refine HAL ⟨x,?_,m',hn',hk'⟩;rw[List.take_add_one,he] at hx
     rcases List.mem_append.1 hx with hx|hx
     . exact hx
     . simp at hx
       subst hx
       exact absurd (by rw[Qb3 hm2 hn' HR.v1];exact hk') e
  have hkd:m.k=1\/m.k=2:=by rcases hm2 with h|h<;>omega
  have HKN:Hid (k+1<=l.length):=q9 (by have:=HPN.out;omega)
  have HBD:Hid (in64 m.k/\in64 m.a/\in64 m.b/\in64 m.c):=q9 (by
   have h1:=HR.v2;have h2:=HR.s2;have h4:=QF b.V;unfold in64
   rcases hm2 with h|h<;>omega)
  have kI:(k:Int)<(pn:Int):=by omega
  have k0:(0:Int)<=(k:Int):=by omega
  have z600:(z:Int)<=600:=by have:=HBkK.ha;have:=(sizes HR.out).nd2;omega
  have zI:(z:Int)<(b.na:Int):=by omega
  have z0:(0:Int)<=(z:Int):=by omega
  have HRR:=q9 hr;obtain⟨mk,ma,mb9,mc⟩:=m;dsimp only at n0 n1 n2 n3 hkd;clear hm hm2 hx1 hx2 he hnm hr HXS HAL
  rcases hkd with rfl|rfl
  rotate_left
  . as_aux_lemma=>
    have HN2:Hid (KS13 w1 b.V b.S l d (I r) (I ((k:Int)+1)) (wr.alloc (.cells #[I 2,I ma,I mb9,I mc] 114))):=q9 ⟨k+1,r,HKN.out,by simp,rfl,HRR.out,HNX.out r (fun h=>absurd (show (2:Int)=1 from h) (by decide)) (fun _=>rfl),HB.alloc HB.size _⟩
    clear HNX HRR HB;go_wp2_with fail
    exact⟨HN2.out,by simp [intOf];omega⟩
  obtain⟨v,hv9,hvn,hw0,hw1⟩:=HXV.out rfl;dsimp only at hv9;subst hv9;have HW0:=q9 hw0;have HW1:=q9 hw1;have HVN:=q9 hvn;clear hw0 hw1 HXV
  have vI:(v:Int)<=1000:=by have:=HN.out;omega
  have hdd:=HD.out;have hrr:=HRR.out
  rcases hdd with rfl|rfl
  . rcases hrr with hr1|rfl
    . as_aux_lemma=>
      have rN:¬ (0:Int)<=r:=by omega
      have rD:decide ((0:Int)<=r)=false:=decide_eq_false rN;clear hr1;have hba:=(Below.refl wr.heap.size wr).alloc (Nat.le_refl _) (.cells #[I 1,I ma,I (v:Int),I mc] 114);have HB4:=q9 (HB.trans (hba.mono HB.size));have HG4:=q9 (HGK.below hba);have HS4:Hid (SN13 (wr.alloc (.cells #[I 1,I ma,I (v:Int),I mc] 114)) eb wr.heap.size e0 e1 ma (v:Int) mc):=q9 ⟨HEBK.below hba HEBK.lt,Blk.new _ _ _⟩;clear hba;have x0:wr.cell? (I1 eb 0)=some (I (e0:Int)):=HEBK.cell 0;have x1:wr.cell? (I1 eb 1)=some (I (e1:Int)):=HEBK.cell 1;have elt:=HEBK.lt;go_wp2_with fail
      refine(QaC (t:=true) (x:=v) (y:=e0) HG4 HGL HE HVN HN HLT ⟨fun _=>HW0.out (by trivial),fun _=>rfl⟩).mono ?_;rintro e w5 ⟨rfl,b5⟩
      have HB5:=q9 (HB4.trans (b5.mono HB4.size));have HG5:=q9 (HG4.below b5);have HS5:=q9 (HS4.below b5);generalize wr.heap.size=nb at HS5 HS4 |-;clear b5 HB4 HG4 HS4 x0 x1 elt n0 n1 n2 n3 p1 b1lt galt HB HGK HEBK HPK HBkK;obtain⟨x0,x1,y0,y1,y2,y3⟩:=HS5.cells;have elt:=HS5.lt;go_wp2_with fail
      clear x0 x1 y0 y1 y2 y3 elt;have HSd:=q9 (HS5.below (Below.refl _ _).drew);have HGd:=q9 (HG5.below (Below.refl _ _).drew);obtain⟨x0,x1,y0,y1,y2,y3⟩:=HSd.cells;have elt:=HSd.lt;have hrule:=SN13.rule eb nb e0 e1 ma (v:Int) mc
      refine wp_region_held_drew (S:=(fun W=>SN13 W eb nb e0 e1 ma (v:Int) mc)) (by kernel_rfl) ?_ (fun hHeld=>?_)
      . exact HSd
      refine q9N 0 rfl ?_
      refine q9N 1 rfl ?_
      refine q9N 2 rfl ?_
      refine q9N 3 rfl ?_
      refine q9N 4 rfl ?_
      refine q9N 5 rfl ?_
      refine q9R 6 rfl fun K hK=>?_
      go_simp
      (with_reducible refine(QaC (t:=true) (x:=v) (y:=e0) HGd.out HGL.out HE.out HVN.out HN.out HLT.out ⟨fun _=>HW0.out (by trivial),fun _=>rfl⟩).mono ?_);rintro e w6 ⟨rfl,b6⟩;have HS6:=q9 (HSd.out.below b6);have HW6:=q9 b6
      go_wp2_with fail
      refine hK.out _ _ ?_ (fun hHeld=>?_)
      . (try dsimp only);(first|(with_reducible assumption)|(with_reducible exact HS6.out)|(with_reducible exact HSd.out))
      clear hK K;try simp only[Act.put,q98]
      refine q9N 7 rfl ?_
      refine q9N 8 rfl ?_
      refine q9N 9 rfl ?_
      refine q9N 10 rfl ?_
      refine q9N 11 rfl ?_
      refine q9F 12 rfl ?_
      refine q9F 13 rfl ?_
      refine q9F 14 rfl ?_
      refine q9N 15 rfl ?_
      refine q9N 16 rfl ?_
      refine wpAnyH_done (by kernel_rfl) ?_ _
      clear hrule HSd HGd x0 x1 y0 y1 y2 y3 elt;have b06:=(Below.refl w5.heap.size w5).drew.trans HW6.out;have HB6:=q9 (HB5.trans (b06.mono HB5.size))
      have HN2:Hid (KS13 w1 b.V b.S l 0 (I 0) (I ((k:Int)+1)) w6):=q9 ⟨k+1,0,HKN.out,by simp,rfl,.inr rfl,fun _=>rfl,HB6.out⟩
      clear b06 HB5 HB6 HS5 HS6 HG5 HW6 HNX HRR;go_wp2_with fail
      exact⟨HN2.out,by simp [intOf];omega⟩
    . as_aux_lemma=>
      have hba:=(Below.refl wr.heap.size wr).alloc (Nat.le_refl _) (.cells #[I 1,I ma,I (v:Int),I mc] 114);have HB4:=q9 (HB.trans (hba.mono HB.size));have HG4:=q9 (HGK.below hba);have HS4:Hid (SN13 (wr.alloc (.cells #[I 1,I ma,I (v:Int),I mc] 114)) eb wr.heap.size e0 e1 ma (v:Int) mc):=q9 ⟨HEBK.below hba HEBK.lt,Blk.new _ _ _⟩;clear hba;have x0:wr.cell? (I1 eb 0)=some (I (e0:Int)):=HEBK.cell 0;have x1:wr.cell? (I1 eb 1)=some (I (e1:Int)):=HEBK.cell 1;have elt:=HEBK.lt;go_wp2_with fail
      refine(QaC (t:=true) (x:=v) (y:=e0) HG4 HGL HE HVN HN HLT ⟨fun _=>HW0.out (by trivial),fun _=>rfl⟩).mono ?_;rintro e w5 ⟨rfl,b5⟩
      have HB5:=q9 (HB4.trans (b5.mono HB4.size));have HG5:=q9 (HG4.below b5);have HS5:=q9 (HS4.below b5);generalize wr.heap.size=nb at HS5 HS4 |-;clear b5 HB4 HG4 HS4 x0 x1 elt n0 n1 n2 n3 p1 b1lt galt HB HGK HEBK HPK HBkK;obtain⟨x0,x1,y0,y1,y2,y3⟩:=HS5.cells;have elt:=HS5.lt;go_wp2_with fail
      clear x0 x1 y0 y1 y2 y3 elt;have HSd:=q9 (HS5.below (Below.refl _ _).drew);have HGd:=q9 (HG5.below (Below.refl _ _).drew);obtain⟨x0,x1,y0,y1,y2,y3⟩:=HSd.cells;have elt:=HSd.lt;have hrule:=SN13.rule eb nb e0 e1 ma (v:Int) mc
      go_region_held3 (fun W=>SN13 W eb nb e0 e1 ma (v:Int) mc) (first|(with_reducible assumption)|(with_reducible exact HS6.out)|(with_reducible exact HSd.out))
       (first
        |(go_at_call 43;((with_reducible refine(QaC (t:=true) (x:=v) (y:=e0) HGd.out HGL.out HE.out HVN.out HN.out HLT.out ⟨fun _=>HW0.out (by trivial),fun _=>rfl⟩).mono ?_);rintro e w6 ⟨rfl,b6⟩;have HS6:=q9 (HSd.out.below b6);have HW6:=q9 b6))
        |fail)
      clear hrule HSd HGd x0 x1 y0 y1 y2 y3 elt;have b06:=(Below.refl w5.heap.size w5).drew.trans HW6.out;have HB6:=q9 (HB5.trans (b06.mono HB5.size))
      have HN2:Hid (KS13 w1 b.V b.S l 0 (I 0) (I ((k:Int)+1)) w6):=q9 ⟨k+1,0,HKN.out,by simp,rfl,.inr rfl,fun _=>rfl,HB6.out⟩
      clear b06 HB5 HB6 HS5 HS6 HG5 HW6 HNX HRR;go_wp2_with fail
      exact⟨HN2.out,by simp [intOf];omega⟩
  . rcases hrr with hr1|rfl
    . as_aux_lemma=>
      have rN:¬ (0:Int)<=r:=by omega
      have rD:decide ((0:Int)<=r)=false:=decide_eq_false rN;clear hr1;have hba:=(Below.refl wr.heap.size wr).alloc (Nat.le_refl _) (.cells #[I 1,I ma,I (v:Int),I mc] 114);have HB4:=q9 (HB.trans (hba.mono HB.size));have HG4:=q9 (HGK.below hba);have HS4:Hid (SN13 (wr.alloc (.cells #[I 1,I ma,I (v:Int),I mc] 114)) eb wr.heap.size e0 e1 ma (v:Int) mc):=q9 ⟨HEBK.below hba HEBK.lt,Blk.new _ _ _⟩;clear hba;have x0:wr.cell? (I1 eb 0)=some (I (e0:Int)):=HEBK.cell 0;have x1:wr.cell? (I1 eb 1)=some (I (e1:Int)):=HEBK.cell 1;have elt:=HEBK.lt;go_wp2_with fail
      refine(QaC (t:=false) (x:=v) (y:=e0) HG4 HGL HE HVN HN HLT ⟨fun h=>absurd h (by decide),fun h=>absurd h (HW1 (by trivial)).1⟩).mono ?_;rintro e w5 ⟨rfl,b5⟩
      have HB5:=q9 (HB4.trans (b5.mono HB4.size));have HG5:=q9 (HG4.below b5);have HS5:=q9 (HS4.below b5);generalize wr.heap.size=nb at HS5 HS4 |-;clear b5 HB4 HG4 HS4 x0 x1 elt n0 n1 n2 n3 p1 b1lt galt HB HGK HEBK HPK HBkK;obtain⟨x0,x1,y0,y1,y2,y3⟩:=HS5.cells;have elt:=HS5.lt;go_wp2_with fail
      clear x0 x1 y0 y1 y2 y3 elt;have HSd:=q9 (HS5.below (Below.refl _ _).drew);have HGd:=q9 (HG5.below (Below.refl _ _).drew);obtain⟨x0,x1,y0,y1,y2,y3⟩:=HSd.cells;have elt:=HSd.lt;have hrule:=SN13.rule eb nb e0 e1 ma (v:Int) mc
      refine wp_region_held_drew (S:=(fun W=>SN13 W eb nb e0 e1 ma (v:Int) mc)) (by kernel_rfl) ?_ (fun hHeld=>?_)
      . exact HSd
      refine q9N 0 rfl ?_
      refine q9N 1 rfl ?_
      refine q9N 2 rfl ?_
      refine q9N 3 rfl ?_
      refine q9N 4 rfl ?_
      refine q9N 5 rfl ?_
      refine q9R 6 rfl fun K hK=>?_
      go_simp
      (with_reducible refine(QaC (t:=true) (x:=v) (y:=e1) HGd.out HGL.out HE.out HVN.out HN.out HLT.out ⟨fun _=>(HW1.out (by trivial)).2,fun _=>rfl⟩).mono ?_);rintro e w6 ⟨rfl,b6⟩;have HS6:=q9 (HSd.out.below b6);have HW6:=q9 b6
      go_wp2_with fail
      refine hK.out _ _ ?_ (fun hHeld=>?_)
      . (try dsimp only);(first|(with_reducible assumption)|(with_reducible exact HS6.out)|(with_reducible exact HSd.out))
      clear hK K;try simp only[Act.put,q98]
      refine q9N 7 rfl ?_
      refine q9N 8 rfl ?_
      refine q9N 9 rfl ?_
      refine q9N 10 rfl ?_
      refine q9N 11 rfl ?_
      refine q9F 12 rfl ?_
      refine q9F 13 rfl ?_
      refine q9F 14 rfl ?_
      refine q9N 15 rfl ?_
      refine q9N 16 rfl ?_
      refine wpAnyH_done (by kernel_rfl) ?_ _
      clear hrule HSd HGd x0 x1 y0 y1 y2 y3 elt;have b06:=(Below.refl w5.heap.size w5).drew.trans HW6.out;have HB6:=q9 (HB5.trans (b06.mono HB5.size))
      have HN2:Hid (KS13 w1 b.V b.S l 1 (I 1) (I ((k:Int)+1)) w6):=q9 ⟨k+1,1,HKN.out,by simp,rfl,.inr rfl,fun _=>rfl,HB6.out⟩
      clear b06 HB5 HB6 HS5 HS6 HG5 HW6 HNX HRR;go_wp2_with fail
      exact⟨HN2.out,by simp [intOf];omega⟩
    . as_aux_lemma=>
      have hba:=(Below.refl wr.heap.size wr).alloc (Nat.le_refl _) (.cells #[I 1,I ma,I (v:Int),I mc] 114);have HB4:=q9 (HB.trans (hba.mono HB.size));have HG4:=q9 (HGK.below hba);have HS4:Hid (SN13 (wr.alloc (.cells #[I 1,I ma,I (v:Int),I mc] 114)) eb wr.heap.size e0 e1 ma (v:Int) mc):=q9 ⟨HEBK.below hba HEBK.lt,Blk.new _ _ _⟩;clear hba;have x0:wr.cell? (I1 eb 0)=some (I (e0:Int)):=HEBK.cell 0;have x1:wr.cell? (I1 eb 1)=some (I (e1:Int)):=HEBK.cell 1;have elt:=HEBK.lt;go_wp2_with fail
      refine(QaC (t:=false) (x:=v) (y:=e0) HG4 HGL HE HVN HN HLT ⟨fun h=>absurd h (by decide),fun h=>absurd h (HW1 (by trivial)).1⟩).mono ?_;rintro e w5 ⟨rfl,b5⟩
      have HB5:=q9 (HB4.trans (b5.mono HB4.size));have HG5:=q9 (HG4.below b5);have HS5:=q9 (HS4.below b5);generalize wr.heap.size=nb at HS5 HS4 |-;clear b5 HB4 HG4 HS4 x0 x1 elt n0 n1 n2 n3 p1 b1lt galt HB HGK HEBK HPK HBkK;obtain⟨x0,x1,y0,y1,y2,y3⟩:=HS5.cells;have elt:=HS5.lt;go_wp2_with fail
      clear x0 x1 y0 y1 y2 y3 elt;have HSd:=q9 (HS5.below (Below.refl _ _).drew);have HGd:=q9 (HG5.below (Below.refl _ _).drew);obtain⟨x0,x1,y0,y1,y2,y3⟩:=HSd.cells;have elt:=HSd.lt;have hrule:=SN13.rule eb nb e0 e1 ma (v:Int) mc
      go_region_held3 (fun W=>SN13 W eb nb e0 e1 ma (v:Int) mc) (first|(with_reducible assumption)|(with_reducible exact HS6.out)|(with_reducible exact HSd.out))
       (first
        |(go_at_call 43;((with_reducible refine(QaC (t:=true) (x:=v) (y:=e1) HGd.out HGL.out HE.out HVN.out HN.out HLT.out ⟨fun _=>(HW1.out (by trivial)).2,fun _=>rfl⟩).mono ?_);rintro e w6 ⟨rfl,b6⟩;have HS6:=q9 (HSd.out.below b6);have HW6:=q9 b6))
        |fail)
      clear hrule HSd HGd x0 x1 y0 y1 y2 y3 elt;have b06:=(Below.refl w5.heap.size w5).drew.trans HW6.out;have HB6:=q9 (HB5.trans (b06.mono HB5.size))
      have HN2:Hid (KS13 w1 b.V b.S l 1 (I 1) (I ((k:Int)+1)) w6):=q9 ⟨k+1,1,HKN.out,by simp,rfl,.inr rfl,fun _=>rfl,HB6.out⟩
      clear b06 HB5 HB6 HS5 HS6 HG5 HW6 HNX HRR;go_wp2_with fail
      exact⟨HN2.out,by simp [intOf];omega⟩
end
section
variable {V S T:Int}{L s u v:Nat}{g:Mg9}{mk:Nat->Nat}{ts:List Tp}{rows:List (List Nat)}{gr:List (Option (Nat × Nat))}
def QcF (V:Int)(L:Nat)(E:List (Nat × Nat × Nat))(u v d:Nat)(l:List Nat):Prop:=(d=0\/d=1)/\(∃ w:Nat,(w:Int)<V/\Xn V L w∈l)/\∀ w:Nat,Xn V L w∈l->(d=0->Way E w u)/\(d=1->¬ Way E w u/\Way E w v)
theorem Lv.parted (h:Lv V S L ts rows gr)(hR:Rt V S T)(hL:(L:Int)<lv V)(hF:FI V S g mk ts)(hg:gr[s]?=some (some (u,v))):∃ r∈rows,∃ c d pp qq rr,Arcs (An V S L) s c d/\r=pp++c :: (qq++d :: rr)/\r.Nodup/\
 ∃ E,Lnk (gr.set s none) E/\(∀ s a b,(s,a,b)∈E->a<V.toNat/\b<V.toNat)/\((QcF V L E u v 0 qq/\QcF V L E u v 1 (pp++rr))\/(QcF V L E u v 1 qq/\QcF V L E u v 0 (pp++rr))):=by
 obtain⟨r,hr,c,d,pp,qq,rr,ha,er,hnd,hq0,ho0⟩:=h.parts hR hL hF hg;obtain⟨i,hi⟩:=List.mem_iff_getElem?.1 hr;have hp:rows.Perm (r :: wo i i 0 rows):=QW (Nat.zero_le _) hi;obtain⟨t,ht,et⟩:=h.has r hr
 have hc:=h.cut (ts':=anyT qq :: anyT (pp++rr) :: anyT [c] :: anyT [d] :: ts) hR hL hF hg ha (er ▸ hp) (et.trans er) (ti:=anyT qq) (tu:=anyT (pp++rr)) (ct:=anyT [c]) (dt:=anyT [d]) (by simp) (by simp) (QaD _) (QaD _) (by simp) (QaD _) (by simp) (QaD _) (fun z hz _=>by simp [hz])
 obtain⟨hc,hends⟩:=hc;obtain⟨P,p1,p2,p3⟩:=hc.tour;have hnq:=hc.nd;rw[List.flatten_cons,List.flatten_cons,List.nodup_append] at hnq
 have apart:∀ {y:Nat},y∈qq->y∉pp++rr:=fun h1 h2=>hnq.2.2 _ h1 _ (List.mem_append_left _ h2) rfl
 have hsub:∀ y∈qq,y∈r:=fun y hy=>by rw[er];simp [hy]
 have hq:qq∈qq :: (pp++rr) :: wo i i 0 rows:=List.mem_cons_self ..
 have bound:∀ s' a b,(s',a,b)∈P.flatMap Prod.snd->a<V.toNat/\b<V.toNat:=fun s' a b hm=>by
  have h1:=(p3 s' a b).1 hm
  by_cases e:s'=s
  . subst e
    rw[List.getElem?_set] at h1
    split at h1
    . split at h1<;>cases h1
    . rename_i hne;exact absurd rfl hne
  . rw[List.getElem?_set_ne (Ne.symm e)] at h1
    have:=h.ends hR hF h1;omega
 have hq2:pp++rr∈qq :: (pp++rr) :: wo i i 0 rows:=List.mem_cons_of_mem _ (List.mem_cons_self ..)
 have hsub2:∀ y∈pp++rr,y∈r:=fun y hy=>by
  rw[er]
  rcases List.mem_append.1 hy with h1|h1
  . exact List.mem_append_left _ h1
  . exact List.mem_append_right _ (List.mem_cons_of_mem _ (List.mem_append_right _ (List.mem_cons_of_mem _ h1)))
 have one:∀ {R:List Nat},R∈qq :: (pp++rr) :: wo i i 0 rows->∀ {s a b w:Nat},(s,a,b)∈P.flatMap Prod.snd->(w=a\/w=b)->Xn V L w∈R->Xn V L a∈R/\Xn V L b∈R:=by
  intro R hRm s a b w hm hw hx;obtain⟨p,hp,hm⟩:=List.mem_flatMap.1 hm;obtain⟨_,_,ma,mb⟩:=(p2 p hp).mem hm;have hr2:=p1.mem_iff.1 (List.mem_map_of_mem hp);obtain⟨i2,hi2⟩:=List.mem_iff_getElem?.1 hRm;obtain⟨j2,hj2⟩:=List.mem_iff_getElem?.1 hr2
  have hwp:Xn V L w∈p.1:=by rcases hw with rfl|rfl;exact ma;exact mb
  have:=Qdi hc.nd hi2 hj2 hx hwp;subst this;rw[hi2] at hj2;injection hj2 with hj2;rw[hj2];exact⟨ma,mb⟩
 have clo:∀ {R:List Nat},R∈qq :: (pp++rr) :: wo i i 0 rows->∀ {w y:Nat},Way (P.flatMap Prod.snd) w y->Xn V L w∈R->Xn V L y∈R:=by
  intro R hRm w y hway;clear hR hF p1 p2 p3 bound hends
  induction hway with
  |refl=>exact fun hw=>hw
  |fore _ he ih=>exact fun hw=>(one hRm he (.inl rfl) (ih hw)).2
  |back _ he ih=>exact fun hw=>(one hRm he (.inr rfl) (ih hw)).1
 have way:∀ {R:List Nat},R∈qq :: (pp++rr) :: wo i i 0 rows->∀ {w y:Nat},Xn V L w∈R->Xn V L y∈R->Way (P.flatMap Prod.snd) w y:=by
  intro R hRm w y hw hy;obtain⟨p,hp1,e⟩:=List.mem_map.1 (p1.mem_iff.2 hRm)
  exact((p2 p hp1).joined (Qeu hR hL) (Qd8 hR hL) (by rw[e];exact hw) (by rw[e];exact hy)).mono fun e he=>List.mem_flatMap.2 ⟨p,hp1,he⟩
 have has:∀ {R:List Nat},R∈qq :: (pp++rr) :: wo i i 0 rows->(∀ y∈R,y∈r)->∃ w:Nat,(w:Int)<V/\Xn V L w∈R:=by
  intro R hRm hs;obtain⟨p,hp1,e⟩:=List.mem_map.1 (p1.mem_iff.2 hRm);obtain⟨w,hw⟩:=(p2 p hp1).has;rw[e] at hw;exact⟨w,Qcc hR (h.node_le hF hr (hs _ hw)).2,hw⟩
 refine⟨r,hr,c,d,pp,qq,rr,ha,er,hnd,P.flatMap Prod.snd,p3,bound,?_⟩
 rcases hends with ⟨h1,h2⟩|⟨h1,h2⟩
 . refine .inl ⟨⟨.inl rfl,has hq hsub,fun w hw=>⟨fun _=>way hq hw h1,fun h=>by cases h⟩⟩,⟨.inr rfl,has hq2 hsub2,fun w hw=>⟨(fun h=>by cases h),fun _=>⟨fun hway=>apart h1 (clo hq2 hway hw),way hq2 hw h2⟩⟩⟩⟩
 . refine .inr ⟨⟨.inr rfl,has hq hsub,fun w hw=>⟨(fun h=>by cases h),fun _=>⟨fun hway=>apart (clo hq hway hw) h2,way hq hw h1⟩⟩⟩,⟨.inl rfl,has hq2 hsub2,fun w hw=>⟨fun _=>way hq2 hw h2,fun h=>by cases h⟩⟩⟩
end
section
variable {w w':World}{base k mb:Nat}{v:Value}{gr g2:List (Option (Nat × Nat))}
theorem GB13.src (h:GB13 w mb gr):∀ (j:Nat) (u:Value),(QaO gr)[j]?=some u->w.cell? (((I1 mb 0):Addr).add j)=some u:=fun j u hj=>by
 obtain⟨zs,hz,h1,h2⟩:=h;rw[Addr.add_lit,Nat.zero_add,hz.cell]
 have hl:j<gr.length*2:=by rw[<-Qfy];exact(List.getElem?_eq_some_iff.1 hj).1
 have hk:=List.getElem?_eq_getElem (l:=gr) (i:=j / 2) (by omega)
 have h3:=h2 _ _ hk;have h4:=Qdk gr _ _ hk
 have:j=j / 2*2\/j=j / 2*2+1:=by omega
 rcases this with e|e
 . rw[e] at hj |-
   rw[h4.1] at hj;rw[h3.1];exact hj
 . rw[e] at hj |-
   rw[h4.2] at hj;rw[h3.2];exact hj
theorem Qce {ops:Array Oper}{rest:List Oper}{o:Oper}{a:Act}{Q:Exit->Act->World->Prop}(hgd:o.guard=none)(s x:Operand)
 (ho:o.op=.call { callee:=.builtin .append,args:=#[s,x],argTypes:=#[92,92]})
 (hs:a.eval s=v) (h:GOW w base v g2) (n c:Nat) (hn:gr.length=n) (hv:a.eval x=I3 (I1 mb 0) n c) (hG:GB13 w mb gr) (hl:g2.length+n<=10000) (hb:base<=w.heap.size)
 (hK:∀ v' w',GOW w' base v' (g2++gr)->w.grownBy w' v.ownBlock->wpList Tryz.prog ops Q rest (a.put o.dst v') w'):wpList Tryz.prog ops Q (o :: rest) a w:=by
 subst hn
 refine wpList_plain hgd fun _ hK'=>?_
 obtain⟨i0,hi0,hz0,hz1,hz2⟩:=info_parts QeR
 obtain⟨v',w',hrun,h1,h2,_⟩:=run_append_own_at (P:=Tryz.prog) w base 92 o.type 72 i0 _ 2 16 Tryz.underlying92 hi0 hz0 hz1 hz2 rfl (by omega) v g2.length (QaO g2) h (I1 mb 0) gr.length c (QaO gr) (Qfy gr) hG.src (Qhy gr) (by simp only[maxLen];omega) (by omega) hb
 have h3:GOW w' base v' (g2++gr):=by
  unfold GOW
  rw[List.length_append,show QaO (g2++gr)=QaO g2++QaO gr by unfold QaO;rw[List.flatMap_append]]
  exact h1
 unfold Oper.wp execOp;simp only[ho,resolve,invoke,builtin,Sem.run_bind,Sem.run_pure,Result.andThen_ok,List.map_toArray,List.map_cons,List.map_nil,hs,hv,hrun];exact hK' _ _ (hK v' w' h3 h2)
theorem GOW.open_ (h:GOW w base v gr)(hk:k<gr.length):∃ g cap zs,v=I3 (I1 g 0) gr.length cap/\base<=g/\gr.length<=cap/\Blk w g 72 zs/\gr.length*2<=zs.size/\∀ k e,gr[k]?=some e->zs[k*2]?=some (I (end1 e))/\zs[k*2+1]?=some (I (end2 e)):=by
 rcases h.2 with ⟨rfl,h0⟩|⟨g,cap,cur,rfl,hg,hgg,h1,h2,h3,h4⟩
 . omega
 . have hc:∀ j,j<gr.length*2->cur[j]?=(QaO gr)[j]?:=fun j hj=>by
    rw[<-h4,List.getElem?_take_of_lt hj,Array.getElem?_toList]
   have hk2:∀ (k:Nat) e,gr[k]?=some e->cur[k*2]?=some (I (end1 e))/\cur[k*2+1]?=some (I (end2 e)):=fun k e he=>by
    have hf:=Qdk gr k e he;have hk:=(List.getElem?_eq_some_iff.1 he).1
    rw[hc _ (by omega),hc _ (by omega)]
    exact hf
   refine⟨g,cap,cur,rfl,hg,?_,hgg,?_,hk2⟩
   . omega
   . have h5:=(hk2 (gr.length-1) _ (List.getElem?_eq_getElem (by omega))).2
     have h6:=(Array.getElem?_eq_some_iff.1 h5).1;omega
theorem Qnm {g cap:Nat}{zs:Array Value}(hz:Blk w g 72 zs)(hs:gr.length*2<=zs.size)(h:∀ (k:Nat) e,gr[k]?=some e->zs[k*2]?=some (I (end1 e))/\zs[k*2+1]?=some (I (end2 e)))(hk:k<gr.length)(o:Option (Nat × Nat)):
 GI ((w.setCell (I1 g (k*2)) (I (end1 o))).setCell (I1 g (k*2+1)) (I (end2 o))) (I3 (I1 g 0) gr.length cap) (gr.set k o):=by
 refine⟨g,0,cap,_,by rw[List.length_set],(hz.set_ (k*2) _).set_ (k*2+1) _,fun y e he=>?_⟩
 rw[Nat.zero_add]
 by_cases ey:y=k
 . subst ey
   rw[List.getElem?_set_self hk] at he;injection he with he;subst he
   constructor
   . rw[Array.getElem?_setIfInBounds_ne (by omega),Array.getElem?_setIfInBounds_self_of_lt (by omega)]
   . rw[Array.getElem?_setIfInBounds_self_of_lt (by rw[Array.size_setIfInBounds];omega)]
 . rw[List.getElem?_set_ne (Ne.symm ey)] at he
   rw[Array.getElem?_setIfInBounds_ne (by omega),Array.getElem?_setIfInBounds_ne (by omega),Array.getElem?_setIfInBounds_ne (by omega),Array.getElem?_setIfInBounds_ne (by omega)]
   exact h y e he
end
section
variable {V S T:Int}{L s u v x d:Nat}
theorem Qjz (hR:Rt V S T)(hL:(L:Int)<lv V)(hs:(s:Int)<S)(hd:d<2):Qn V S ⟨2,(s:Int),(L:Int),(d:Int)⟩ (An V S L s d-1)/\1<=An V S L s d/\(An V S L s d:Int)<=nd V S:=by
 have h1:=Qa4 hR hL hs hd;have h2:=QeZ hR hL hs hd;rw[QcI hs hd]
 refine⟨.inr ⟨rfl,?_⟩,h1.1,by have:=Q0 hR;omega⟩
 dsimp only
 refine⟨by omega,hs,by omega,hL,by omega,?_⟩
 have:=h1.1;generalize (s:Int)*sn V=y at h2 |-;omega
theorem Qmq (hR:Rt V S T)(hL:(L:Int)<lv V)(hu:(u:Int)<V):Qn V S ⟨1,(L:Int),(u:Int),0⟩ (Xn V L u-1)/\1<=Xn V L u/\(Xn V L u:Int)<=nd V S:=by
 have h1:=QaG hR hL hu;have h2:=QaV hR hL hu;rw[QbP hu]
 refine⟨.inl ⟨rfl,rfl,?_⟩,h1.1,by have:=Q0 hR;omega⟩
 dsimp only
 refine⟨by omega,hL,by omega,hu,?_⟩
 have:=h1.1;generalize (L:Int)*V=y at h2 |-;omega
end
theorem QdO {W:World}{b o:Nat}{v:Value}(h:W.cell? (I1 b o)=some v):b<W.heap.size:=by
 rcases Nat.lt_or_ge b W.heap.size with h1|h1
 . exact h1
 . exfalso
   unfold World.cell? at h;rw[Array.getElem?_eq_none h1] at h
   cases h
def Qc3 (V S:Int)(L:Nat)(l:List Nat):Prop:=∀ x∈l,(∃ u:Nat,(u:Int)<V/\x=Xn V L u)\/∃ s d:Nat,(s:Int)<S/\d<2/\x=An V S L s d
section
variable {w:World}{b:BkV}{cv:Nat->Int}{l inn out9:List Nat}{L s u v n mb:Nat}{vp:Value}{gr:List (Option (Nat × Nat))}{E:List (Nat × Nat × Nat)}
theorem Qla {d:Nat}{vg:Value}(B:Bk w b cv)(hp:LI w vp inn)(hl:inn.length<=100000)(hg:GI w vg gr)(hgl:gr.length<=1000)(hE:Lnk gr E)(hlt:∀ s a b',(s,a,b')∈E->a<b.V.toNat/\b'<b.V.toNat)(hL:(L:Int)<lv b.V)(hx:Qc3 b.V b.S L inn)(hS:QcF b.V L E u v d inn):
 Calls Tryz.prog 144 #[vB b,vp,vg,.agg #[I (u:Int),I (v:Int)]] w fun e w'=>e=.returned (I (d:Int))/\Below w.heap.size w w':=by
 have hR:=B.hR;have ha:=B.ha;obtain⟨hd,⟨x0,hx0,hm0⟩,hw⟩:=hS
 refine(QjQ (d:=d) (n:=b.V.toNat) B hp hl hg hgl hE hlt (by have:=hR.v2;omega) hd fun x hx1=>?_).mono ?_
 . rcases hx x hx1 with ⟨u9,hu9,rfl⟩|⟨s9,d9,hs9,hd9,rfl⟩
   . obtain⟨h1,h2,h3⟩:=Qmq hR hL hu9
     refine⟨_,h1,h2,by omega,fun _=>⟨u9,rfl,by omega,hw u9 hx1⟩⟩
   . obtain⟨h1,h2,h3⟩:=Qjz hR hL hs9 hd9
     exact⟨_,h1,h2,by omega,fun h=>absurd (show (2:Int)=1 from h) (by decide)⟩
 . rintro e w' ⟨r,rfl,_,h,hb⟩
   obtain⟨h1,h2,h3⟩:=Qmq hR hL hx0
   exact⟨by rw[h ⟨_,hm0,_,h1,rfl⟩],hb⟩
set_option maxHeartbeats 8000000 in
theorem Qhl (B:Bk w b cv)(hp:LI w vp l)(hl:l.length<=1000)(hg:GB13 w mb gr)(hn:gr.length=n)(hgl:n<=1000)(hL:(L:Int)<lv b.V)(hs:(s:Int)<b.S)(hgs:gr[s]?=some (some (u,v)))
 (hx:Qc3 b.V b.S L l) (hth:An b.V b.S L s 0∈l) (hbk:An b.V b.S L s 1∈l) {k9 d:Nat} (hcut:Qb8 (An b.V b.S L s 0) (An b.V b.S L s 1) l=(k9,inn,out9)) (hi:∀ x∈inn,x∈l) (ho:∀ x∈out9,x∈l)
 (hE:Lnk (gr.set s none) E) (hlt:∀ s a b',(s,a,b')∈E->a<b.V.toNat/\b'<b.V.toNat) (hS1:QcF b.V L E u v d inn) {d':Nat} (hdd:d≠d') (hS2:QcF b.V L E u v d' out9):
 Calls Tryz.prog 111 #[vB b,vp,I3 (I1 mb 0) n n,I (L:Int),I (s:Int)] w fun e w'=>e=.returned (.bool true)/\Below w.heap.size w w':=by
 have HR:=q9 B.hR
 have sn9:s<n:=by rw[<-hn];exact(List.getElem?_eq_some_iff.1 hgs).1
 obtain⟨zs,hz,hzs,hzc⟩:=id hg;have hc0:=hzc _ _ hgs
 have HTH:=q9 (Qjz B.hR hL hs (by decide:0<2))
 have HBK:=q9 (Qjz B.hR hL hs (by decide:1<2))
 have HNA:Hid ((b.na:Int)=nd b.V b.S):=q9 (by have:=B.ha;have:=Q0 B.hR;have h2:nN b.V b.S=(nd b.V b.S).toNat:=rfl;omega)
 have HM:=q9 (And.intro hth hbk);have HCUT:=q9 hcut
 have HIO:Hid (Qc3 b.V b.S L inn/\Qc3 b.V b.S L out9):=q9 ⟨fun x h=>hx x (hi x h),fun x h=>hx x (ho x h)⟩
 have HE:=q9 (And.intro hE hlt);have HS12:=q9 (And.intro hS1 hS2)
 have HD:Hid (d<2/\d'<2/\d≠d'):=q9 ⟨by rcases hS1.1 with h|h<;>omega,by rcases hS2.1 with h|h<;>omega,hdd⟩
 have HLL:=q9 (And.intro hl hL);have HGN:=q9 hn;have HGS0:=q9 hgs
 have HILEN:Hid (inn.length<=1000/\out9.length<=1000):=q9 (by
  have:=QfK (An b.V b.S L s 0) (An b.V b.S L s 1) l;rw[hcut] at this;exact⟨Nat.le_trans this.2.1 hl,Nat.le_trans this.2.2 hl⟩)
 have lev5:(L:Int)<=5:=by have:=QF b.V;omega
 have s48:(s:Int)<=48:=by have:=B.hR.s2;omega
 have s0:(0:Int)<=(s:Int):=by omega
 have L0:(0:Int)<=(L:Int):=by omega
 have snI:(s:Int)<(n:Int):=by omega
 have hua:Below w.heap.size w (w.alloc (bB b)):=(Below.refl _ _).alloc (Nat.le_refl _) _;have HW:=q9 hua;have HX:=q9 (BB.new w b);have HB0:=q9 (B.below hua);have HG0:=q9 (hg.below hua);have HP0:=q9 (hp.below hua);have g0:(w.alloc (bB b)).cell? (I1 mb (s*2))=some (I (u:Int)):=((hz.below hua hz.lt).cell _).trans hc0.1;have glt:mb<(w.alloc (bB b)).heap.size:=(hz.below hua hz.lt).lt
 have uN:¬ (u:Int)<0:=by omega
 have HSN:=q9 sn9;clear B hp hg hz hzs hzc hc0 hL hs hgs hx hth hbk hcut hi ho hE hlt hS1 hdd hS2 hl hua hn sn9
 go_enter Tryz.func111,Tryz.ntmps111
 go_wp2_with fail
 generalize w.alloc (bB b)=w1 at HW HX HB0 HG0 HP0 g0 glt |-;generalize w.heap.size=xb at HX |-;go_upto_region 3 with fail
 clear g0 glt;have HXd:=q9 (HX.below (Below.refl _ _).drew);have HBd:=q9 HB0.drew;obtain⟨c0,c1,c2,c3,c4,c5,c6⟩:=HXd.cells;have xlt:=HXd.lt;have hrule:=BB.rule xb b
 go_region_held3 (fun W=>BB W xb b) (first|(with_reducible assumption)|(with_reducible exact HX3.out)|(with_reducible exact HX2.out)|(with_reducible exact HXd.out))
  (first
   |(go_at_call 105;((with_reducible refine(Qco (m:=⟨2,(s:Int),(L:Int),0⟩) HBd.out HTH.out.1 (by have:=HTH.out.2;have:=HNA.out;omega)).mono ?_);rintro e w2 ⟨rfl,b2⟩;have HX2:=q9 (HXd.out.below b2);have HB2:=q9 (HBd.out.below b2);have HW2:=q9 b2))
   |(go_at_call 105;((with_reducible refine(Qco (m:=⟨2,(s:Int),(L:Int),1⟩) HB2.out HBK.out.1 (by have:=HBK.out.2;have:=HNA.out;omega)).mono ?_);rintro e w3 ⟨rfl,b3⟩;have HX3:=q9 (HX2.out.below b3);have HW3:=q9 b3))
   |fail)
 clear hrule HXd HBd c0 c1 c2 c3 c4 c5 c6 xlt;have b03:=((Below.refl w1.heap.size w1).drew.trans HW2.out).trans (HW3.mono HW2.size);have HB3:=q9 (HB0.below b03);have HG3:=q9 (HG0.below b03);have HP3:=q9 (HP0.below b03);have HW03:=q9 (HW.trans (b03.mono HW.size));clear b03 HB0 HG0 HP0 HX HX2 HB2 HW2 HW3 HW
 have eth:((An b.V b.S L s 0-1:Nat):Int)+1=(An b.V b.S L s 0:Int):=by have:=HTH.2.1;omega
 have ebk:((An b.V b.S L s 1-1:Nat):Int)+1=(An b.V b.S L s 1:Int):=by have:=HBK.2.1;omega
 rw[eth,ebk];clear eth ebk;go_wp2_with fail
 refine(Qcv (x:=An b.V b.S L s 0) HP3.out (by have:=HLL.1;omega)).mono ?_;rintro e w4 ⟨rfl,rfl⟩
 rw[decide_eq_true HM.1];go_wp2_with fail
 refine(Qcv (x:=An b.V b.S L s 1) HP3.out (by have:=HLL.1;omega)).mono ?_;rintro e w4 ⟨rfl,rfl⟩
 rw[decide_eq_true HM.2];go_wp2_with fail
 refine(Qmf (th:=An b.V b.S L s 0) (bk:=An b.V b.S L s 1) HP3.out (by have:=HLL.1;omega)).mono ?_;rintro e w5 ⟨ri,ro,rfl,hri,hro,hb5⟩
 rw[HCUT.out] at hri hro;have HI5:=q9 hri.li;have HO5:=q9 hro.li;have HX5:=q9 (HX3.below hb5);have HB5:=q9 (HB3.below hb5);have HG5:=q9 (HG3.below hb5);have HW5:=q9 (HW03.trans (hb5.mono HW03.size))
 have HRB:Hid (∀ i,bk ri=some i->i<w5.heap.size):=q9 fun i hi=>hri.li.lt i hi
 clear hri hro hb5 HX3 HB3 HG3 HW03 HP3
 go_wp2_with (at_builtin;refine Qce (base:=w5.heap.size) (n:=n) (c:=n) rfl _ _ rfl rfl (GOW.nil _ _) HGN.out rfl HG5.out (by simp;omega) (Nat.le_refl _) ?_;intro vg w6 hg6 hgr6)
 rw[List.nil_append] at hg6
 obtain⟨g,cap,zs,rfl,hgb,hcap,hz6,hzs6,hzc6⟩:=hg6.open_ (by rw[HGN.out];exact HSN)
 rw[HGN.out] at hcap |-
 have b56:Below w5.heap.size w5 w6:=(Below.refl _ _).grown hgr6 (Nat.le_refl _) (fun i hi=>by cases hi)
 have HX6:=q9 (HX5.below b56);have HB6:=q9 (HB5.below b56);have HG6:=q9 (HG5.below b56);have HI6:=q9 (HI5.below b56);have HO6:=q9 (HO5.below b56);have HW6:=q9 (HW5.trans (b56.mono HW5.size))
 have HSET:=q9 (Qnm (k:=s) (cap:=cap) hz6 hzs6 hzc6 (by rw[HGN.out];exact HSN) none)
 have hsz:=HSN.out;rw[HGN.out] at hzs6
 have z0:w6.cell? (I1 g (s*2))=some (zs[s*2]'(by omega)):=(hz6.cell _).trans (Array.getElem?_eq_getElem _)
 have z1:w6.cell? (I1 g (s*2+1))=some (zs[s*2+1]'(by omega)):=(hz6.cell _).trans (Array.getElem?_eq_getElem _)
 have f0:=hz6.frozen (s*2);have f1:=hz6.frozen (s*2+1);have hglt:=hz6.lt;have B67:Below w5.heap.size w6 ((w6.setCell (I1 g (s*2)) (I (-1))).setCell (I1 g (s*2+1)) (I (-1))):=((Below.refl _ _).setCell (p:=(I1 g (s*2))) hgb _).setCell (p:=(I1 g (s*2+1))) hgb _;have B57:=q9 (b56.trans B67);have HX7:=q9 (HX5.below B57.out);have HB7:=q9 (HB5.below B57.out);have HG7:=q9 (HG5.below B57.out);have HI7:=q9 (HI5.below B57.out);have HO7:=q9 (HO5.below B57.out);have HW7:=q9 (HW5.trans (B57.out.mono HW5.size));generalize zs[s*2]=y1 at z0;generalize zs[s*2+1]=y2 at z1;clear B67 b56 hgr6 hg6 hz6 hzc6 hzs6 hsz HX5 HB5 HG5 HI5 HO5 HW5 HX6 HB6 HG6 HI6 HO6 HW6 B57
 have HGI7:Hid (GI ((w6.setCell (I1 g (s*2)) (I (-1))).setCell (I1 g (s*2+1)) (I (-1))) (I3 (I1 g 0) n cap) (gr.set s none)):=q9 (by have:=HSET.out;rw[HGN.out] at this;exact this)
 clear HSET
 have hxx:∀ W:World,(Instr.indexAt 92 (I3 (I1 g 0) n cap) (I (s:Int))).run Tryz.prog W=.ok (.pointer (some (I1 g (s*2)))) W:=by
  intro W
  go_simp
 go_wp2_with fail
 rw[hxx];go_wp2_with fail
 clear hxx;clear z0 z1 f0 f1 hglt;generalize hw7:(w6.setCell (I1 g (s*2)) (I (-1))).setCell (I1 g (s*2+1)) (I (-1))=w7 at HX7 HB7 HG7 HI7 HO7 HW7 HGI7 |-;clear hw7;have HGS:=q9 HGS0.out;have hd7:Below w7.heap.size w7 w7.drew:=(Below.refl _ _).drew;have HXd:=q9 (HX7.below hd7);have HBd:=q9 (HB7.below hd7);have HGd:=q9 (HG7.below hd7);have HId:=q9 (HI7.below hd7);have HOd:=q9 (HO7.below hd7);have HGId:=q9 (HGI7.below hd7);have HWd:=q9 (HW7.trans (hd7.mono HW7.size));clear hd7 HX7 HB7 HG7 HI7 HO7 HW7 HGI7
 have key:∀ W:World,GB13 W mb gr->W.cell? (I1 mb (s*2))=some (I (u:Int))/\W.cell? (I1 mb (s*2+1))=some (I (v:Int)):=fun W hg=>by
  obtain⟨zs,hz,_,h2⟩:=hg;have h3:=h2 _ _ HGS.out;exact⟨(hz.cell _).trans h3.1,(hz.cell _).trans h3.2⟩
 obtain⟨c0,c1,c2,c3,c4,c5,c6⟩:=HXd.cells;have xlt:=HXd.lt;obtain⟨g0,g1⟩:=key _ HGd.out;have glt:=QdO g0
 have hrule:∀ W:World,(BB W xb b/\GB13 W mb gr)->_:=fun W h=>And.intro (BB.rule xb b W h.1) (key W h.2)
 go_region_held3 (fun W=>BB W xb b/\GB13 W mb gr) (first|(with_reducible assumption)|(with_reducible exact⟨HX9.out,HG9.out⟩)|(with_reducible exact⟨HX8.out,HG8.out⟩)|(with_reducible exact⟨HXd.out,HGd.out⟩))
  (first
   |(go_at_call 144;((with_reducible refine(Qla (L:=L) (d:=d) HBd.out HId.out (by have:=HILEN.out;omega) HGId.out (by rw[List.length_set,HGN.out];exact hgl) HE.out.1 HE.out.2 HLL.out.2 HIO.out.1 HS12.out.1).mono ?_);rintro e w8 ⟨rfl,b8⟩;have HX8:=q9 (HXd.out.below b8);have HB8:=q9 (HBd.out.below b8);have HG8:=q9 (HGd.out.below b8);have HO8:=q9 (HOd.out.below b8);have HGI8:=q9 (HGId.out.below b8);have HW8:=q9 (HWd.out.trans (b8.mono HWd.out.size))))
   |(go_at_call 144;((with_reducible refine(Qla (L:=L) (d:=d') HB8.out HO8.out (by have:=HILEN.out;omega) HGI8.out (by rw[List.length_set,HGN.out];exact hgl) HE.out.1 HE.out.2 HLL.out.2 HIO.out.2 HS12.out.2).mono ?_);rintro e w9 ⟨rfl,b9⟩;have HX9:=q9 (HX8.out.below b9);have HG9:=q9 (HG8.out.below b9);have HW9:=q9 (HW8.out.trans (b9.mono HW8.out.size))))
   |fail)
 clear hrule key HXd HBd HGd HId HOd HGId HWd c0 c1 c2 c3 c4 c5 c6 xlt g0 g1 glt HX8 HB8 HG8 HO8 HGI8 HW8 HX9 HG9
 have hd1:(0:Int)<=(d:Int):=by omega
 have hd2:(0:Int)<=(d':Int):=by omega
 have hd3:decide ((d:Int)=(d':Int))=false:=decide_eq_false (by have:=HD.out;omega)
 have hd4:((d:Int) !=(d':Int))=true:=by have:=HD.out;simp;omega
 go_wp2_with fail
 go_ret;exact⟨rfl,HW9⟩
end
def vL13 (V:Int)(L:Nat)(l:List Nat):List Nat:=(l.filter (vxN V)).map fun x=>x-1-L*V.toNat
def Pt13 (V S:Int)(L:Nat)(gr:List (Option (Nat × Nat)))(l:List Nat)(s:Nat):Prop:=∃ u v k9 inn out9 d d' E,gr[s]?=some (some (u,v))/\An V S L s 1∈l/\Qb8 (An V S L s 0) (An V S L s 1) l=(k9,inn,out9)/\(∀ x∈inn,x∈l)/\(∀ x∈out9,x∈l)/\Lnk (gr.set s none) E/\(∀ s a b',(s,a,b')∈E->a<V.toNat/\b'<V.toNat)/\QcF V L E u v d inn/\d≠d'/\QcF V L E u v d' out9
def Ar13 (V S:Int)(L:Nat)(gr:List (Option (Nat × Nat)))(l:List Nat):Prop:=(∃ s d:Nat,(s:Int)<S/\d<2/\l=[An V S L s d]/\gr[s]?=some none)\/
 (∃ E,Lnk gr E/\(∀ s a b',(s,a,b')∈E->a<V.toNat/\b'<V.toNat)/\vL13 V L l≠[]/\l.length+2=3*(vL13 V L l).length/\(∀ u∈vL13 V L l,∀ v∈vL13 V L l,Way E u v)/\∀ s:Nat,(s:Int)<S->An V S L s 0∈l->Pt13 V S L gr l s)
section
variable {V S T:Int}{L s u v x d:Nat}{l:List Nat}
theorem vL_X (hR:Rt V S T)(hL:(L:Int)<lv V)(hu:(u:Int)<V):vL13 V L (l++[Xn V L u])=vL13 V L l++[u]:=by
 unfold vL13;rw[List.filter_append,List.map_append,List.filter_cons_of_pos (QjC hR hL hu)];have h1:=QaV hR hL hu;have h2:=hR.v1
 have h3:((L*V.toNat:Nat):Int)=(L:Int)*V:=by rw[Int.natCast_mul,Int.toNat_of_nonneg (by omega)]
 simp only[List.filter_nil,List.map_cons,List.map_nil]
 rw[QbP hu,show vxI V L u-1-L*V.toNat=u by omega]
theorem vL_A (hR:Rt V S T)(hL:(L:Int)<lv V)(hs:(s:Int)<S)(hd:d<2):vL13 V L (l++[An V S L s d])=vL13 V L l:=by
 unfold vL13
 rw[List.filter_append,List.filter_cons_of_neg (by rw[QjD hR hL hs hd];decide),List.filter_nil,List.append_nil]
theorem Qgw (hR:Rt V S T)(hL:(L:Int)<lv V)(hx:Qc3 V S L l):u∈vL13 V L l↔(u:Int)<V/\Xn V L u∈l:=by
 have h2:=hR.v1
 have h3:((L*V.toNat:Nat):Int)=(L:Int)*V:=by rw[Int.natCast_mul,Int.toNat_of_nonneg (by omega)]
 have key:∀ {y:Nat},(y:Int)<V->Xn V L y-1-L*V.toNat=y:=fun {y} hy=>by
  have h1:=QaV hR hL hy;rw[QbP hy];omega
 unfold vL13;rw[List.mem_map]
 constructor
 . rintro⟨x,hm,e⟩
   obtain⟨h4,h5⟩:=List.mem_filter.1 hm
   rcases hx x h4 with ⟨y,hy,rfl⟩|⟨s,d,hs,hd,rfl⟩
   . rw[key hy] at e
     subst e;exact⟨hy,h4⟩
   . rw[QjD hR hL hs hd] at h5;cases h5
 . rintro⟨hu,hm⟩
   exact⟨_,List.mem_filter.2 ⟨hm,QjC hR hL hu⟩,key hu⟩
theorem QeM (hR:Rt V S T)(hL:(L:Int)<lv V)(h:(∃ u:Nat,(u:Int)<V/\x=Xn V L u)\/∃ s d:Nat,(s:Int)<S/\d<2/\x=An V S L s d):∃ z m,x=z+1/\Qn V S m z/\(z:Int)<nd V S/\
 ((∃ u:Nat,m=⟨1,(L:Int),(u:Int),0⟩/\(u:Int)<V/\z+1=Xn V L u)\/(∃ s:Nat,m=⟨2,(s:Int),(L:Int),0⟩/\(s:Int)<S/\z+1=An V S L s 0)\/∃ s:Nat,m=⟨2,(s:Int),(L:Int),1⟩/\(s:Int)<S/\z+1=An V S L s 1):=by
 rcases h with ⟨u,hu,rfl⟩|⟨s,d,hs,hd,rfl⟩
 . obtain⟨h1,h2,h3⟩:=Qmq hR hL hu
   exact⟨Xn V L u-1,_,by omega,h1,by omega,.inl ⟨u,rfl,hu,by omega⟩⟩
 . obtain⟨h1,h2,h3⟩:=Qjz hR hL hs hd
   refine⟨An V S L s d-1,_,by omega,h1,by omega,.inr ?_⟩
   have:d=0\/d=1:=by omega
   rcases this with rfl|rfl
   . exact .inl ⟨s,rfl,hs,by omega⟩
   . exact .inr ⟨s,rfl,hs,by omega⟩
end
def KR13 (w1:World)(V:Int)(L:Nat)(l:List Nat)(a vv i:Value)(W:World):Prop:=
 ∃ k a9,k<=l.length/\i=I ((k:Nat):Int)/\a=I ((a9:Nat):Int)/\a9+(vL13 V L (l.take k)).length=k/\RI W w1.heap.size vv (vL13 V L (l.take k))/\Below w1.heap.size w1 W
theorem Qa5 {l:List Nat}{k x:Nat}(h:l[k]?=some x):l.take (k+1)=l.take k++[x]:=by rw[List.take_add_one,h];rfl
section
variable {w:World}{b:BkV}{cv:Nat->Int}{l:List Nat}{L n mb:Nat}{vp:Value}{gr:List (Option (Nat × Nat))}
set_option maxHeartbeats 16000000 in
theorem QhH (B:Bk w b cv)(hp:LI w vp l)(hl:l.length<=1000)(hg:GB13 w mb gr)(hn:gr.length=n)(hgl:n<=1000)(hL:(L:Int)<lv b.V)(hx:Qc3 b.V b.S L l)(hA:Ar13 b.V b.S L gr l):
 Calls Tryz.prog 58 #[vB b,vp,I3 (I1 mb 0) n n,I (L:Int)] w fun e w'=>e=.returned (.bool true)/\Below w.heap.size w w':=by
 obtain⟨pa,pn,pc,hpe⟩:∃ a n c,vp=.slice a n c:=by obtain⟨a,c,e,_⟩:=hp.shape;exact⟨a,_,c,e⟩
 subst hpe
 have hpn:l.length=pn:=by obtain⟨a,c,e,_⟩:=hp.shape;injection e with _ e _;exact e.symm
 have HPN:=q9 hpn
 have pnI:(pn:Int)<=1000:=by omega
 have HR:=q9 B.hR;have HLV:=q9 hL;have HXS:=q9 hx;have HAR:=q9 hA;have HGN:=q9 (And.intro hn hgl)
 have HNA:Hid ((b.na:Int)=nd b.V b.S):=q9 (by have:=B.ha;have:=Q0 B.hR;have h2:nN b.V b.S=(nd b.V b.S).toNat:=rfl;omega)
 have lev5:(L:Int)<=5:=by have:=QF b.V;omega
 have L0:(0:Int)<=(L:Int):=by omega
 have hua:Below w.heap.size w (w.alloc (bB b)):=(Below.refl _ _).alloc (Nat.le_refl _) _;have HW:=q9 hua;have HX:=q9 (BB.new w b);have HBk:=q9 (B.below hua);have HG:=q9 (hg.below hua);have HP:=q9 (hp.below hua);obtain⟨c0,c1,c2,c3,c4,c5,c6⟩:=(BB.new w b).cells;have xlt:=(BB.new w b).lt;clear B hp hg hL hx hA hpn hua hn
 go_enter Tryz.func58,Tryz.ntmps58
 go_wp2_with fail
 clear c0 c1 c2 c3 c4 c5 c6 xlt;generalize w.alloc (bB b)=w1 at HW HX HBk HG HP |-;generalize w.heap.size=xb at HX |-;have HREL:Hid (KR13 w1 b.V L l (I 0) (.slice none 0 0) (I 0) w1):=q9 ⟨0,0,Nat.zero_le _,rfl,rfl,rfl,RI.nil _ _,Below.refl _ _⟩
 go_loopw [10,11,12] (fun a vv i wr=>KR13 w1 b.V L l a vv i wr) (fun _ _ i _=>pn-(intOf i).toNat)
 case atStart=>exact HREL.out
 case round=>
  clear HREL;obtain⟨k,a9,hk,rfl,rfl,hak,hvv,hb⟩:=hrel;have HB:=q9 hb;have HVV:=q9 hvv;have HAK:=q9 hak;have HPK:=q9 (HP.below hb);have HBkK:=q9 (HBk.below hb);rw[HPN.out] at hk
  have a9I:(a9:Int)<=1000:=by omega
  have a90:(0:Int)<=(a9:Int):=by omega
  obtain⟨nv9,hnv9⟩:∃ n,(vL13 b.V L (l.take k)).length=n:=⟨_,rfl⟩;obtain⟨av9,ac9,rfl,_⟩:=Qad hvv.li hnv9;clear hb hvv hak hnv9
  by_cases hkn:k<pn
  . as_aux_lemma=>
    obtain⟨x,he⟩:∃ x,l[k]?=some x:=⟨_,List.getElem?_eq_getElem (by have:=HPN.out;omega)⟩
    obtain⟨z,m,rfl,hN,hzn,hkd⟩:=QeM HR.out HLV.out (HXS.out x (List.mem_of_getElem? he));have HE0:=q9 he;obtain⟨b1,o1,rfl,p1⟩:=HPK.at he;have b1lt:b1<wr.heap.size:=World.block_lt_of_cell? _ _ p1
    have zn:z<b.na:=by have:=HNA.out;omega
    obtain⟨n0,n1,n2,n3⟩:=(HBkK.name hN zn).cells;have galt:=HBkK.lt.2
    have kI:(k:Int)<(pn:Int):=by omega
    have k0:(0:Int)<=(k:Int):=by omega
    have z600:(z:Int)<=600:=by have:=HBkK.ha;have:=(sizes HR.out).nd2;omega
    have zI:(z:Int)<(b.na:Int):=by omega
    have z0:(0:Int)<=(z:Int):=by omega
    have hkn1:k+1<=l.length:=by have:=HPN.out;omega
    have HK1:=q9 hkn1;clear hN hkn1 he
    rcases hkd with ⟨u,rfl,hu,ex⟩|⟨s,rfl,hs,ex⟩|⟨s,rfl,hs,ex⟩
    all_goals
     have HEX:=q9 ex;clear ex;dsimp only at n0 n1 n2 n3
    . have HB4:=q9 (HB.alloc HB.size (.cells #[I 1,I (L:Int),I (u:Int),I 0] 114))
      have HVV4:Hid (RI (wr.alloc (.cells #[I 1,I (L:Int),I (u:Int),I 0] 114)) w1.heap.size (.slice av9 nv9 ac9) (vL13 b.V L (l.take k))):=q9 (World.ownsRow.alloc HVV.out _)
      have HTK:Hid (vL13 b.V L (l.take (k+1))=vL13 b.V L (l.take k)++[u]):=q9 (by rw[Qa5 HE0.out,HEX.out];exact vL_X HR HLV hu)
      have HVL:Hid ((vL13 b.V L (l.take k)).length<=1000):=q9 (by have:=HAK.out;omega)
      have HNB:Hid (Blk (wr.alloc (.cells #[I 1,I (L:Int),I (u:Int),I 0] 114)) wr.heap.size 114 #[I 1,I (L:Int),I (u:Int),I 0]):=q9 (Blk.new _ _ _);clear HVV HB HPK HBkK;go_upto_region 8 with fail
      generalize hwa:wr.alloc (.cells #[I 1,I (L:Int),I (u:Int),I 0] 114)=wa at HB4 HVV4 HNB |-;generalize wr.heap.size=nb at HNB |-;clear n0 n1 n2 n3 p1 b1lt galt hwa;have y0:=HNB.cell 0;have y2:=HNB.cell 2;have nlt:=HNB.lt
      go_wp2_with (at_builtin;refine QfS (c:=u) wa rfl _ _ rfl rfl HVV4.out rfl (by have:=HVL.out;omega) HB4.size ?_)
      intro v5 w5 hR5 hb5 _
      have HN5:Hid (KR13 w1 b.V L l (I (a9:Int)) v5 (I ((k:Int)+1)) w5):=q9 ⟨k+1,a9,HK1.out,by simp,rfl,by rw[HTK.out,List.length_append];have:=HAK.out;simp;omega,by rw[HTK.out];exact hR5,HB4.trans hb5⟩
      clear hR5 hb5 HVV4 HB4;go_wp2_with fail
      go_roundw
      case rel=>exact HN5.out
      case measure=>simp [intOf];omega
    . have HTK:Hid (vL13 b.V L (l.take (k+1))=vL13 b.V L (l.take k)):=q9 (by rw[Qa5 HE0.out,HEX.out];exact vL_A HR HLV hs (by decide))
      have HB4:=q9 (HB.alloc HB.size (.cells #[I 2,I (s:Int),I (L:Int),I 0] 114))
      have HN5:Hid (KR13 w1 b.V L l (I ((a9:Int)+1)) (.slice av9 nv9 ac9) (I ((k:Int)+1)) (wr.alloc (.cells #[I 2,I (s:Int),I (L:Int),I 0] 114))):=q9 ⟨k+1,a9+1,HK1.out,by simp,by simp,by rw[HTK.out];have:=HAK.out;omega,by rw[HTK.out];exact World.ownsRow.alloc HVV _,HB4⟩
      clear HVV HB HPK HBkK HB4;go_wp2_with fail
      go_roundw
      case rel=>exact HN5.out
      case measure=>simp [intOf];omega
    . have HTK:Hid (vL13 b.V L (l.take (k+1))=vL13 b.V L (l.take k)):=q9 (by rw[Qa5 HE0.out,HEX.out];exact vL_A HR HLV hs (by decide))
      have HB4:=q9 (HB.alloc HB.size (.cells #[I 2,I (s:Int),I (L:Int),I 1] 114))
      have HN5:Hid (KR13 w1 b.V L l (I ((a9:Int)+1)) (.slice av9 nv9 ac9) (I ((k:Int)+1)) (wr.alloc (.cells #[I 2,I (s:Int),I (L:Int),I 1] 114))):=q9 ⟨k+1,a9+1,HK1.out,by simp,by simp,by rw[HTK.out];have:=HAK.out;omega,by rw[HTK.out];exact World.ownsRow.alloc HVV _,HB4⟩
      clear HVV HB HPK HBkK HB4;go_wp2_with fail
      go_roundw
      case rel=>exact HN5.out
      case measure=>simp [intOf];omega
  . as_aux_lemma=>
    have ek:k=pn:=by omega
    subst ek
    have kN:¬ (k:Int)<(k:Int):=by omega
    rw[show l.take k=l by rw[<-HPN.out,List.take_length]] at HVV HAK
    have HXK:=q9 (HX.below HB.out);have HGK:=q9 (HG.below HB.out);have HWK:=q9 (HW.trans (HB.mono HW.size));obtain⟨nv,hnv⟩:∃ n,(vL13 b.V L l).length=n:=⟨_,rfl⟩;have HNV:=q9 hnv;obtain⟨av,cv9,e99,hvli⟩:=Qad HVV.li hnv;rw[e99] at HVV |-;clear e99;have HVLI:=q9 hvli;have hak:=HAK.out;rw[hnv] at hak
    have nvI:(nv:Int)<=1000:=by omega
    have nv0:(0:Int)<=(nv:Int):=by omega
    clear hvli hnv HVV HAK HB HW HX HBk HG
    rcases HAR.out with ⟨s,d,hs,hd,rfl,hgs⟩|⟨E,hE,hlt,hne,hlen,hway,hpt⟩
    . have hk1:k=1:=by have:=HPN.out;simp at this;omega
      subst hk1
      have hv0:nv=0:=by have:=HNV.out;have h:=vL_A (l:=[]) HR.out HLV.out hs hd;rw[List.nil_append] at h;rw[h] at this;rw[<-this];rfl
      subst hv0;obtain⟨h1,h2,h3⟩:=Qjz HR.out HLV.out hs hd
      obtain⟨z,hz⟩:∃ z,An b.V b.S L s d=z+1:=⟨An b.V b.S L s d-1,by omega⟩
      rw[hz] at h1 h3
      have zn:z<b.na:=by have:=HNA.out;omega
      obtain⟨n0,n1,n2,n3⟩:=(HBkK.name (show Qn b.V b.S _ z from h1) zn).cells;have galt:=HBkK.lt.2
      have he0:[An b.V b.S L s d][0]?=some (z+1):=by rw[hz];rfl
      obtain⟨b1,o1,rfl,p1⟩:=HPK.at he0;clear he0;dsimp only at n0 n1 n2 n3;rw[Nat.add_zero] at p1;have b1lt:b1<wr.heap.size:=World.block_lt_of_cell? _ _ p1
      have z600:(z:Int)<=600:=by have:=(sizes HR.out).nd2;omega
      have zI:(z:Int)<(b.na:Int):=by omega
      have z0:(0:Int)<=(z:Int):=by omega
      have sn9:s<n:=by rw[<-HGN.1];exact(List.getElem?_eq_some_iff.1 hgs).1
      have snI:(s:Int)<(n:Int):=by omega
      have s0:(0:Int)<=(s:Int):=by omega
      have s48:(s:Int)<=48:=by have:=HR.s2;omega
      obtain⟨zs,hzb,_,hzc⟩:=HGK.out;have g0:wr.cell? (I1 mb (s*2))=some (I (-1)):=(hzb.cell _).trans (hzc _ _ hgs).1;have glt:=hzb.lt;clear h1 h2 h3 hz hzc hzb hgs;go_wp2_with fail
      go_ret;exact⟨rfl,HWK⟩
    . have HE:=q9 (And.intro hE hlt)
      have HWAY:=q9 hway;have HPT:=q9 hpt
      have hnv1:1<=nv:=by have:=HNV.out;rcases Nat.eq_zero_or_pos nv with e|e;exact absurd (List.eq_nil_of_length_eq_zero (this.trans e)) hne;exact e
      have hN0:¬ (nv:Int)=0:=by omega
      have hN0':¬ nv=0:=by omega
      have harc:(a9:Int)=2*(nv:Int)-2:=by have:=HNV.out;have:=HPN.out;omega
      have hw1:IntKind.i64.wrap (2*(nv:Int))=2*(nv:Int):=IntWalk.i64_in _ (by omega)
      have hw2:IntKind.i64.wrap (2*(nv:Int)-2)=2*(nv:Int)-2:=IntWalk.i64_in _ (by omega)
      clear hE hlt hway hpt hne hlen hak;go_wp2_with fail
      obtain⟨wA,rfl⟩:∃ w9:World,w9=wr:=⟨_,rfl⟩;have HRELB:Hid (∃ j:Nat,j<=nv/\(I 0:Value)=I ((j:Nat):Int)/\Below wA.heap.size wA wA):=q9 ⟨0,Nat.zero_le _,rfl,Below.refl _ _⟩
      go_loopw [14] (fun i wr=>∃ j:Nat,j<=nv/\i=I ((j:Nat):Int)/\Below wA.heap.size wA wr) (fun i _=>nv-(intOf i).toNat)
      case atStart=>exact HRELB.out
      case round=>
       clear HRELB;obtain⟨j,hj,rfl,hb⟩:=hrel;have HB:=q9 hb;have HVQ:=q9 (HVLI.below hb);have HGQ:=q9 (HGK.below hb);clear hb
       by_cases hjn:j<nv
       . as_aux_lemma=>
         obtain⟨u0,hu0⟩:∃ u,(vL13 b.V L l)[0]?=some u:=⟨_,List.getElem?_eq_getElem (by have:=HNV.out;omega)⟩
         obtain⟨u1,hu1⟩:∃ u,(vL13 b.V L l)[j]?=some u:=⟨_,List.getElem?_eq_getElem (by have:=HNV.out;omega)⟩
         obtain⟨b2,o2,e2,q0⟩:=HVQ.at hu0;subst e2;obtain⟨b3,o3,e3,q1⟩:=HVQ.at hu1;injection e3 with e3;injection e3 with e3 e4 _;subst e3 e4;rw[Nat.add_zero] at q0;have m0:=List.mem_of_getElem? hu0;have m1:=List.mem_of_getElem? hu1;have HJW:Hid (Way E u0 u1):=q9 (HWAY.out _ m0 _ m1)
         have HUV:Hid (u0<b.V.toNat):=q9 (by have:=((Qgw HR.out HLV.out HXS.out).1 m0).1;omega)
         have HV1:Hid (b.V.toNat<=1000):=q9 (by have:=HR.v2;omega)
         have jI:(j:Int)<(nv:Int):=by omega
         have j0:(0:Int)<=(j:Int):=by omega
         have nvP:(0:Int)<(nv:Int):=by omega
         have nvP2:0<nv:=by omega
         have hxx:∀ W:World,(Instr.indexAt 36 (I3 (I1 b2 o2) nv cv9) (I 0)).run Tryz.prog W=.ok (.pointer (some (I1 b2 o2))) W:=by
          intro W
          go_simp
         clear hu0 hu1 m0 m1;go_upto_region 18 with fail
         have hd:Below wr.heap.size wr wr.drew:=(Below.refl _ _).drew;have q0d:=Qi hd q0;have q1d:=Qi hd q1;have HGd:=q9 (HGQ.below hd);have HBd:=q9 (HB.trans (hd.mono HB.size));clear q0 q1 hd HGQ HVQ HB;have qlt:=QdO q0d;have HQd:=q9 (And.intro q0d q1d)
         have hrule:∀ W:World,(W.cell? (I1 b2 o2)=some (I (u0:Int))/\W.cell? (I1 b2 (o2+j))=some (I (u1:Int)))->W.cell? (I1 b2 o2)=some (I (u0:Int))/\W.cell? (I1 b2 (o2+j))=some (I (u1:Int)):=fun _ h=>h
         go_region_held3 (fun W=>W.cell? (I1 b2 o2)=some (I (u0:Int))/\W.cell? (I1 b2 (o2+j))=some (I (u1:Int))) (first|(with_reducible assumption)|(with_reducible exact HQ6.out)|(with_reducible exact HQd.out))
          (first
           |(go_at_call 43;((with_reducible refine(QaC (t:=true) (x:=u0) (y:=u1) (HGd.out.gi HGN.out.1) (by rw[HGN.out.1];exact HGN.out.2) HE.out.1 HUV.out HV1.out HE.out.2 ⟨fun _=>HJW.out,fun _=>rfl⟩).mono ?_);rintro e w6 ⟨rfl,b6⟩;have HQ6:=q9 (And.intro (Qi b6 q0d) (Qi b6 q1d));have HB6:=q9 (HBd.out.trans (b6.mono HBd.out.size))))
           |fail)
         clear hrule HQd HQ6 q0d q1d qlt HGd HBd;go_wp2_with fail
         go_roundw
         case rel=>exact⟨j+1,by omega,by simp,HB6.out⟩
         case measure=>simp [intOf];omega
       . as_aux_lemma=>
         have ej:nv=j:=by omega
         subst ej
         have jN:¬ (nv:Int)<(nv:Int):=by omega
         have HPQ:=q9 (HPK.below HB.out);have HBQ:=q9 (HBkK.below HB.out);have HXQ:=q9 (HXK.below HB.out);have HWQ:=q9 (HWK.trans (HB.mono HWK.size));clear HVLI HGK HPK HBkK HXK HWK HB HVQ hjn hj;go_wp2_with fail
         obtain⟨wB,rfl⟩:∃ w9:World,w9=wr:=⟨_,rfl⟩;have HRELC:Hid (∃ y:Nat,y<=k/\(I 0:Value)=I ((y:Nat):Int)/\Below wB.heap.size wB wB):=q9 ⟨0,Nat.zero_le _,rfl,Below.refl _ _⟩
         go_loopw [15] (fun i wr=>∃ y:Nat,y<=k/\i=I ((y:Nat):Int)/\Below wB.heap.size wB wr) (fun i _=>k-(intOf i).toNat)
         case atStart=>exact HRELC.out
         case round=>
          clear HRELC;obtain⟨y,hy,rfl,hb⟩:=hrel;have HB:=q9 hb;have HPZ:=q9 (HPQ.below hb);have HBZ:=q9 (HBQ.below hb);have HXZ:=q9 (HXQ.below hb);have HGZ:=q9 (HGQ.below hb);clear hb
          by_cases hyk:y<k
          . as_aux_lemma=>
            obtain⟨x,he⟩:∃ x,l[y]?=some x:=⟨_,List.getElem?_eq_getElem (by have:=HPN.out;omega)⟩
            obtain⟨z,m,rfl,hN,hzn,hkd⟩:=QeM HR.out HLV.out (HXS.out x (List.mem_of_getElem? he));have HE0:=q9 he;obtain⟨b1,o1,rfl,p1⟩:=HPZ.at he;have b1lt:b1<wr.heap.size:=World.block_lt_of_cell? _ _ p1
            have zn:z<b.na:=by have:=HNA.out;omega
            obtain⟨n0,n1,n2,n3⟩:=(HBZ.name hN zn).cells;have galt:=HBZ.lt.2
            have kI:(y:Int)<(k:Int):=by omega
            have k0:(0:Int)<=(y:Int):=by omega
            have z600:(z:Int)<=600:=by have:=HBZ.ha;have:=(sizes HR.out).nd2;omega
            have zI:(z:Int)<(b.na:Int):=by omega
            have z0:(0:Int)<=(z:Int):=by omega
            have hkn1:y+1<=l.length:=by have:=HPN.out;omega
            have HK1:=q9 hkn1;clear hN hkn1 he
            rcases hkd with ⟨u,rfl,hu,ex⟩|⟨s,rfl,hs,ex⟩|⟨s,rfl,hs,ex⟩
            all_goals
             have HEX:=q9 ex;clear ex;dsimp only at n0 n1 n2 n3
            . have HB4:=q9 (HB.alloc HB.size (.cells #[I 1,I (L:Int),I (u:Int),I 0] 114))
              clear HB HPZ HBZ HXZ HGZ;go_wp2_with fail
              go_roundw
              case rel=>exact⟨y+1,by omega,by simp,HB4.out⟩
              case measure=>simp [intOf];omega
            . have hba:Below wr.heap.size wr (wr.alloc (.cells #[I 2,I (s:Int),I (L:Int),I 0] 114)):=(Below.refl _ _).alloc (Nat.le_refl _) _
              have HB4:=q9 (HB.trans (hba.mono HB.size));have HP4:=q9 (HPZ.below hba);have HBk4:=q9 (HBZ.below hba);have HG4:=q9 (HGZ.below hba);obtain⟨c0,c1,c2,c3,c4,c5,c6⟩:=HXZ.cells;have xlt:=HXZ.lt
              have hin:An b.V b.S L s 0∈l:=by rw[<-HEX.out];exact List.mem_of_getElem? HE0
              obtain⟨u,v,k9,inn,out9,d,d',E',hgs,hbk,hcut,hi,ho,hE',hlt',hs1,hdd,hs2⟩:=HPT.out s hs hin;have HPA:=q9 (Qhl (L:=L) (s:=s) HBk4.out HP4.out hl HG4.out HGN.1 HGN.2 HLV.out hs hgs HXS.out hin hbk hcut hi ho hE' hlt' hs1 hdd hs2);clear HB HPZ HBZ HXZ HGZ hba hgs hbk hcut hi ho hE' hlt' hs1 hdd hs2 hin HP4 HBk4 HG4;go_wp2_with fail
              refine HPA.mono ?_;rintro e w6 ⟨rfl,b6⟩;have HB6:=q9 (HB4.trans (b6.mono HB4.size));clear HPA b6 HB4 n0 n1 n2 n3 p1 b1lt galt c0 c1 c2 c3 c4 c5 c6 xlt;go_wp2_with fail
              go_roundw
              case rel=>exact⟨y+1,by omega,by simp,HB6.out⟩
              case measure=>simp [intOf];omega
            . have HB4:=q9 (HB.alloc HB.size (.cells #[I 2,I (s:Int),I (L:Int),I 1] 114))
              clear HB HPZ HBZ HXZ HGZ;go_wp2_with fail
              go_roundw
              case rel=>exact⟨y+1,by omega,by simp,HB4.out⟩
              case measure=>simp [intOf];omega
          . as_aux_lemma=>
            have ey:k=y:=by omega
            subst ey
            have yN:¬ (k:Int)<(k:Int):=by omega
            have HWE:=q9 (HWQ.trans (HB.mono HWQ.size));clear HPZ HBZ HXZ HGZ HB;go_wp2_with fail
            go_ret;exact⟨rfl,HWE⟩
end
section
variable {w:World}{b:BkV}{cv:Nat->Int}{x:Nat}{L:Int}
theorem Qf7 (B:Bk w b cv)(h1:1<=x)(h2:x<=b.na):
 Calls Tryz.prog 107 #[vB b,I (x:Int),I 0] w fun e w'=>e=.returned (I (cv (cN b.V b.S b.T x 2) % 65536))/\Below w.heap.size w w':=by
 have HBk:=q9 (B.alloc (bB b));have HW:Hid (Below w.heap.size w (w.alloc (bB b))):=q9 ((Below.refl _ _).alloc (Nat.le_refl _) _)
 have HC:Hid (Qf b.V b.S b.T ⟨10,(x:Int),2,0⟩ (cN b.V b.S b.T x 2)/\cN b.V b.S b.T x 2<b.cl):=q9 (Qeq B (k:=2) h1 h2 (by decide))
 have HRG:=q9 (B.rg (cN b.V b.S b.T x 2));obtain⟨c0,c1,c2,c3,c4,c5,c6⟩:=(BB.new w b).cells;clear B h1 h2
 go_enter Tryz.func107,Tryz.ntmps107
 go_wp2_with fail
 refine(Qaj HBk HC.1 HC.2).mono ?_;rintro e w2 ⟨rfl,b2⟩;have HB2:=q9 (HW.trans (b2.mono HW.size));clear c0 c1 c2 c3 c4 c5 c6 b2;obtain⟨X,hX⟩:∃ X,cv (cN b.V b.S b.T x 2)=X:=⟨_,rfl⟩;have HXX:=q9 hX;rw[hX] at HRG |-
 have fl:∀ W,(Instr.field 178 (vW (X / 65536 % 65536) (X % 65536) (X / 4294967296 % 256) (X / 1099511627776)) 1).run Tryz.prog W=.ok (I (X % 65536)) W:=fun W=>by kernel_rfl
 clear hX;go_wp2_with fail
 refine(Qhf X _ HRG.1 HRG.2).mono ?_;rintro e w3 ⟨rfl,b3⟩;have HB3:=q9 (HB2.trans (b3.mono HB2.size));go_wp2_with fail
 go_ret
 exact⟨by rw[HXX.out];rfl,HB3.out⟩
theorem Qf8 (B:Bk w b cv)(h1:1<=x)(h2:x<=b.na)(hL:L≠0)(hx:cv (cN b.V b.S b.T x 2)<=560):
 Calls Tryz.prog 107 #[vB b,I (x:Int),I L] w fun e w'=>e=.returned (I (cv (cN b.V b.S b.T x 2)))/\Below w.heap.size w w':=by
 have HBk:=q9 (B.alloc (bB b));have HW:Hid (Below w.heap.size w (w.alloc (bB b))):=q9 ((Below.refl _ _).alloc (Nat.le_refl _) _)
 have HC:Hid (Qf b.V b.S b.T ⟨10,(x:Int),2,0⟩ (cN b.V b.S b.T x 2)/\cN b.V b.S b.T x 2<b.cl):=q9 (Qeq B (k:=2) h1 h2 (by decide))
 have HRG:=q9 (B.rg (cN b.V b.S b.T x 2));have e0:(L==0)=false:=beq_eq_false_iff_ne.2 hL;obtain⟨c0,c1,c2,c3,c4,c5,c6⟩:=(BB.new w b).cells;clear B h1 h2 hL
 go_enter Tryz.func107,Tryz.ntmps107
 go_wp2_with fail
 refine(Qaj HBk HC.1 HC.2).mono ?_;rintro e w2 ⟨rfl,b2⟩;have HB2:=q9 (HW.trans (b2.mono HW.size));clear c0 c1 c2 c3 c4 c5 c6 b2;obtain⟨X,hX⟩:∃ X,cv (cN b.V b.S b.T x 2)=X:=⟨_,rfl⟩;have HXX:=q9 hX;rw[hX] at HRG hx |-
 have wX:IntKind.i64.wrap X=X:=IntWalk.i64_in _ (by have:=HRG.out;omega)
 clear hX;go_wp2_with fail
 go_ret
 exact⟨by rw[HXX.out];rfl,HB2.out⟩
end
def QbR (V:Int)(L:Nat)(ts:List Tp)(x:Nat):Option Tp:=ts.find? fun t=>decide (t.root=x) && decide (lvN V x=(L:Int))
def TLv (V:Int)(L:Nat)(ts:List Tp)(k:Nat):List Tp:=(List.range' 1 k).filterMap (QbR V L ts)
structure BT (b:BkV)(cv:Nat->Int)(g:Mg9)(mk:Nat->Nat)(ts:List Tp):Prop where
 fi:FI b.V b.S g mk ts
 cl:∀ x k,1<=x->x<=b.na->3<=k->k<7->cv (cN b.V b.S b.T x k)=(g x k:Int)
 pl:∀ x,1<=x->x<=b.na->(lvN b.V x=0->cv (cN b.V b.S b.T x 2) % 65536=(g x 2:Int))/\(lvN b.V x≠0->cv (cN b.V b.S b.T x 2)=(g x 2:Int))
 lv:∀ t∈ts,∀ y∈t.row,∀ z∈t.row,lvN b.V y=lvN b.V z
section
variable {V S T:Int}{L k x y s d u z:Nat}{g:Mg9}{mk:Nat->Nat}{ts:List Tp}{t:Tp}{vx:Nat->Bool}{m:Nm}
theorem Qak (h:QbR V L ts x=some t):t∈ts/\t.root=x/\lvN V x=(L:Int):=by
 have h1:=List.mem_of_find?_eq_some h;have h2:=List.find?_some h;rw[Bool.and_eq_true,decide_eq_true_eq,decide_eq_true_eq] at h2;exact⟨h1,h2.1,h2.2⟩
theorem Qds (hF:FI V S g mk ts)(ht:t∈ts)(hl:lvN V t.root=(L:Int)):QbR V L ts t.root=some t:=by
 unfold QbR
 cases h:ts.find? fun s=>decide (s.root=t.root) && decide (lvN V t.root=(L:Int)) with
 |none=>
  have:=List.find?_eq_none.1 h t ht;rw[Bool.and_eq_true,decide_eq_true_eq,decide_eq_true_eq] at this;exact absurd ⟨rfl,hl⟩ this
 |some s=>
  obtain⟨h1,h2,_⟩:=Qak (V:=V) (L:=L) h;have hs:=(hF.root_in h1).1;rw[h2] at hs;rw[hF.uniq h1 ht hs (hF.root_in ht).1]
theorem Qdp (V:Int)(L:Nat)(ts:List Tp)(k:Nat):TLv V L ts (k+1)=TLv V L ts k++(QbR V L ts (k+1)).toList:=by
 unfold TLv;rw[List.range'_1_concat,List.filterMap_append,Nat.add_comm 1 k]
 cases h:QbR V L ts (k+1)<;>simp [h]
theorem Qcd (hF:FI V S g mk ts):t∈TLv V L ts k↔t∈ts/\t.root<=k/\lvN V t.root=(L:Int):=by
 unfold TLv;rw[List.mem_filterMap]
 constructor
 . rintro⟨x,hx,h⟩
   obtain⟨h1,h2,h3⟩:=Qak h;rw[h2];have:=List.mem_range'_1.1 hx
   exact⟨h1,by omega,h3⟩
 . rintro⟨h1,h2,h3⟩
   have:=(hF.root_in h1).2
   exact⟨t.root,List.mem_range'_1.2 ⟨by omega,by omega⟩,Qds hF h1 h3⟩
theorem FI.row_nd (hF:FI V S g mk ts)(ht:t∈ts):t.row.Nodup:=by
 obtain⟨a,c,e⟩:=List.append_of_mem ht;have h:=hF.nd;rw[e,List.flatMap_append,List.flatMap_cons] at h;exact(List.nodup_append.1 (List.nodup_append.1 h).2.1).1
theorem QbA (hF:FI V S g mk ts):∀ k,((TLv V L ts k).flatMap Tp.row).Nodup
 |0=>by simp [TLv]
 |k+1=>by
  rw[Qdp]
  cases h:QbR V L ts (k+1) with
  |none=>simpa using QbA hF k
  |some t=>
   obtain⟨h1,h2,h3⟩:=Qak h;rw[Option.toList,List.flatMap_append,List.nodup_append]
   refine⟨QbA hF k,by simpa using hF.row_nd h1,fun a ha b hb e=>?_⟩
   subst e;obtain⟨s,hs,hsa⟩:=List.mem_flatMap.1 ha;obtain⟨h4,h5,_⟩:=(Qcd hF).1 hs
   have hb:a∈t.row:=by simpa using hb
   have:=hF.uniq h4 h1 hsa hb;subst this;omega
theorem Qi7 {l:List Nat}(hn:l.Nodup)(hy:y∈l):l.count y=1:=by
 have h1:=List.count_pos_iff.2 hy;have h2:=List.nodup_iff_count.1 hn y;omega
theorem QgF:∀ {t:Tp},Qe vx mk g t->(∀ z∈t.row,z≠0)->∀ y∈t.row,y≠t.root->g y 2≠0/\g y 2∈t.row
 |.nil,_,_,_,hy,_=>by simp [Tp.row] at hy
 |.node l x r,h,h0,y,hy,hne=>by
  obtain⟨_,_,_,h1,h2,hl,hr⟩:=h
  have hx:x≠0:=h0 x (by simp [Tp.row])
  have hne':y≠x:=hne;rw[Tp.row_node] at hy |-
  rcases List.mem_append.1 hy with hy|hy
  . by_cases e:y=l.root
    . subst e
      have hr0:l.root≠0:=h0 _ (by rw[Tp.row_node];exact List.mem_append_left _ hy)
      rw[h1 hr0]
      exact⟨hx,by simp⟩
    . obtain⟨a,c⟩:=QgF hl (fun z hz=>h0 z (by rw[Tp.row_node];exact List.mem_append_left _ hz)) y hy e
      exact⟨a,List.mem_append_left _ c⟩
  . rcases List.mem_cons.1 hy with e|hy
    . exact absurd e hne'
    . by_cases e:y=r.root
      . subst e
        have hr0:r.root≠0:=h0 _ (by rw[Tp.row_node];exact List.mem_append_right _ (List.mem_cons_of_mem _ hy))
        rw[h2 hr0]
        exact⟨hx,by simp⟩
      . obtain⟨a,c⟩:=QgF hr (fun z hz=>h0 z (by rw[Tp.row_node];exact List.mem_append_right _ (List.mem_cons_of_mem _ hz))) y hy e
        exact⟨a,List.mem_append_right _ (List.mem_cons_of_mem _ c)⟩
theorem Qfu (hR:Rt V S T)(h:Qn V S m z):lvN V (z+1)=ofF m:=by
 have hv:=hR.v1;have h4:=QF V;unfold lvN ofF
 rcases h with ⟨h1,h2,h3,h5,h6,h7,h8⟩|⟨h1,h2,h3,h5,h6,h7,h8⟩
 . have h9:m.a*V+V<=lv V*V:=by
    have:=Int.mul_le_mul_of_nonneg_right (show m.a+1<=lv V by omega) (show 0<=V by omega)
    rw[Int.add_mul,Int.one_mul] at this;exact this
   have hvn:vn V=lv V*V:=rfl
   rw[if_neg (by omega),if_pos h1,show ((z+1:Nat):Int)-1=m.b+m.a*V by omega,Int.add_mul_ediv_right _ _ (by omega),Int.ediv_eq_zero_of_lt h6 h7,Int.zero_add]
 . have h9:0<=m.a*sn V:=Int.mul_nonneg h2 (by unfold sn;omega)
   have hsn:sn V=lv V*2:=rfl
   rw[if_pos (by omega),if_neg (by omega),show ((z+1:Nat):Int)-1-vn V=(2*m.b+m.c)+m.a*sn V by omega,Int.add_mul_emod_self_right,Int.emod_eq_of_lt (by omega) (by omega)]
   omega
end
section
variable {w:World}{b:BkV}{cv:Nat->Int}{g:Mg9}{mk:Nat->Nat}{ts:List Tp}{x L:Nat}{t:Tp}
theorem BT.node (hT:BT b cv g mk ts)(B:Bk w b cv)(ht:t∈ts)(hx:x∈t.row):1<=x/\x<=b.na:=by
 have:=(hT.fi.al x).2 ⟨t,ht,hx⟩;have h2:b.na=nN b.V b.S:=B.ha;omega
theorem Qij (hT:BT b cv g mk ts)(B:Bk w b cv)(h1:1<=x)(h2:x<=b.na)(hlx:lvN b.V x=(L:Int)){xI LI:Int}(ex:xI=(x:Int))(eL:LI=(L:Int)):
 Calls Tryz.prog 107 #[vB b,I xI,I LI] w fun e w'=>e=.returned (I (g x 2:Int))/\Below w.heap.size w w':=by
 subst ex eL;have hc:=hT.pl x h1 h2
 have hg:g x 2<=560:=by
  have ha:b.na=nN b.V b.S:=B.ha
  obtain⟨t,ht,hx⟩:=(hT.fi.al x).1 ⟨by omega,by omega⟩
  have hn:=Ql B.hR
  by_cases e:x=t.root
  . have:=(hT.fi.st t ht).1.2 (by omega)
    rw[e,this];omega
  . have h3:=QgF (hT.fi.st t ht).1.1 (fun z hz=>((hT.fi.al z).2 ⟨t,ht,hz⟩).1) x hx e
    have:=(hT.fi.al _).2 ⟨t,ht,h3.2⟩;omega
 by_cases e:L=0
 . subst e
   refine(Qf7 B h1 h2).mono ?_;rintro e w' ⟨rfl,hb⟩;refine⟨?_,hb⟩;rw[hc.1 hlx]
 . have hc2:=hc.2 (by omega)
   refine(Qf8 B h1 h2 (by omega) (by rw[hc2];omega)).mono ?_
   rintro e w' ⟨rfl,hb⟩
   exact⟨by rw[hc2],hb⟩
theorem BT.rw_ (hT:BT b cv g mk ts)(B:Bk w b cv):∀ {t:Tp},Qe (vxN b.V) mk g t->(∀ y∈t.row,1<=y/\y<=b.na)->RW b cv t
 |.nil,_,_=>trivial
 |.node l x r,h,hy=>by
  obtain⟨h1,h2,_,_,_,hl,hr⟩:=h
  have hx:=hy x (by simp [Tp.row])
  refine⟨hx.1,hx.2,?_,?_,hT.rw_ B hl fun y h=>hy y (by rw[Tp.row_node];exact List.mem_append_left _ h),hT.rw_ B hr fun y h=>hy y (by rw[Tp.row_node];exact List.mem_append_right _ (List.mem_cons_of_mem _ h))⟩
  . rw[hT.cl x 3 hx.1 hx.2 (by omega) (by omega),h1]
  . rw[hT.cl x 4 hx.1 hx.2 (by omega) (by omega),h2]
theorem BT.row_len (hT:BT b cv g mk ts)(B:Bk w b cv)(ht:t∈ts):t.row.length<=b.na:=by
 have h1:t.row ⊆ List.range' 1 b.na:=fun x hx=>by
  have:=hT.node B ht hx
  exact List.mem_range'_1.2 ⟨by omega,by omega⟩
 have:=(hT.fi.row_nd ht).length_le_of_subset h1;simpa using this
theorem BT.flat_len (hT:BT b cv g mk ts)(B:Bk w b cv)(k:Nat):((TLv b.V L ts k).flatMap Tp.row).length<=b.na:=by
 have h1:((TLv b.V L ts k).flatMap Tp.row) ⊆ List.range' 1 b.na:=fun x hx=>by
  obtain⟨t,ht,hx⟩:=List.mem_flatMap.1 hx;have:=hT.node B ((Qcd hT.fi).1 ht).1 hx
  exact List.mem_range'_1.2 ⟨by omega,by omega⟩
 have:=(QbA hT.fi k).length_le_of_subset h1;simpa using this
end
def edAt (bs:List E1)(u v:Nat):List E1:=bs.filter fun e=>decide (e.u=u/\e.v=v)
def QbO (bs:List E1)(u n:Nat):List E1:=(List.range n).flatMap fun v=>if u<v then edAt bs u v else []
def Qbb (bs:List E1)(V n:Nat):List E1:=(List.range n).flatMap fun u=>QbO bs u V
section
variable {bs:List E1}{u v n V:Nat}{e:E1}
theorem Qn7 {V S T:Int}(hR:Rt V S T)(huv:u<v)(hv:(v:Int)<V):Qf V S T ⟨9,(u:Int),(v:Int),0⟩ (eC V S T u v)/\eC V S T u v<Qv V S T:=by
 have h1:=(QdM (S:=S) (T:=T) (V:=V) (u:=u) (v:=v) (by omega) hv (by omega)).1
 have h2:=QcA hR (u:=u) (v:=v) (by omega) hv (by omega)
 have e1:min (u:Int) v=u:=by omega
 have e2:max (u:Int) v=v:=by omega
 rw[h2,e1,e2] at h1
 exact⟨QgV (by omega) (by omega) hv (by omega),QkC hR (by omega) hv (by omega)⟩
theorem Qnv {V S T:Int}{s:Nat}(hR:Rt V S T)(hs:(s:Int)<S):Qf V S T ⟨4,(s:Int),0,0⟩ (sC S T s 1)/\Qf V S T ⟨5,(s:Int),0,0⟩ (sC S T s 2)/\sC S T s 1<Qv V S T/\sC S T s 2<Qv V S T:=by
 have h1:=Qac hR hs (k:=1) (by decide)
 have h2:=Qac hR hs (k:=2) (by decide)
 have h3:=Qav (T:=T) hs (k:=1) (by decide)
 have h4:=Qav (T:=T) hs (k:=2) (by decide)
 exact⟨QgY (by omega) hs (by omega),QgX (by omega) hs (by omega),QeC hR hs (by decide),QeC hR hs (by decide)⟩
theorem QbM:QbO bs u (v+1)=QbO bs u v++if u<v then edAt bs u v else []:=by
 unfold QbO;rw[List.range_succ,List.flatMap_append];simp
theorem QcY:Qbb bs V (u+1)=Qbb bs V u++QbO bs u V:=by
 unfold Qbb;rw[List.range_succ,List.flatMap_append];simp
theorem Qgl:QbO bs u (u+1)=[]:=by
 unfold QbO;rw[List.flatMap_eq_nil_iff];intro v hv
 rw[if_neg (by have:=List.mem_range.1 hv;omega)]
theorem QfI (h:∀ e∈bs,¬ (e.u=u/\e.v=v)):edAt bs u v=[]:=by
 unfold edAt;rw[List.filter_eq_nil_iff];intro e he;simpa using h e he
theorem QgS (hs:bs.Pairwise fun a b=>a.s≠b.s/\¬ (a.u=b.u/\a.v=b.v))(he:e∈bs)(h1:e.u=u)(h2:e.v=v):edAt bs u v=[e]:=by
 induction bs with
 |nil=>cases he
 |cons a l ih=>
  obtain⟨p1,p2⟩:=List.pairwise_cons.1 hs;unfold edAt
  rcases List.mem_cons.1 he with rfl|he
  . rw[List.filter_cons_of_pos (by simp [h1,h2])]
    congr 1
    rw[List.filter_eq_nil_iff];intro y hy;have:=(p1 y hy).2;simp only[decide_eq_true_eq];omega
  . have:=(p1 e he).2
    rw[List.filter_cons_of_neg (by simp only[decide_eq_true_eq];omega)]
    exact ih p2 he
theorem QgT (hs:bs.Pairwise fun a b=>a.s≠b.s/\¬ (a.u=b.u/\a.v=b.v)):(edAt bs u v).length<=1:=by
 by_cases h:∃ e∈bs,e.u=u/\e.v=v
 . obtain⟨e,he,h1,h2⟩:=h
   rw[QgS hs he h1 h2];simp
 . rw[QfI fun e h1 h2=>h ⟨e,h1,h2⟩];simp
theorem QfH (hs:bs.Pairwise fun a b=>a.s≠b.s/\¬ (a.u=b.u/\a.v=b.v)):(QbO bs u n).length<=n:=by
 induction n with
 |zero=>simp [QbO]
 |succ n ih=>
  rw[QbM,List.length_append]
  split
  . have:=QgT (u:=u) (v:=n) hs;omega
  . simp;omega
theorem Qi4 (hs:bs.Pairwise fun a b=>a.s≠b.s/\¬ (a.u=b.u/\a.v=b.v)):(Qbb bs V n).length<=n*V:=by
 induction n with
 |zero=>simp [Qbb]
 |succ n ih=>
  rw[QcY,List.length_append,Nat.add_mul];have:=QfH (u:=n) (n:=V) hs;omega
end
def EgA (w0:World)(bs:List E1)(nv:Nat)(o i:Value)(W:World):Prop:=
 ∃ (u:Nat) (av:Option Addr) (ln ac:Nat),u<=nv/\i=I ((u:Nat):Int)/\o=.slice av ln ac/\EW W w0.heap.size (.slice av ln ac) (Qbb bs nv u)/\Below w0.heap.size w0 W
def EgB (w0:World)(bs:List E1)(nv u:Nat)(o i:Value)(W:World):Prop:=
 ∃ (v:Nat) (av:Option Addr) (ln ac:Nat),u<v/\v<=nv/\u<nv/\i=I ((v:Nat):Int)/\o=.slice av ln ac/\EW W w0.heap.size (.slice av ln ac) (Qbb bs nv u++QbO bs u v)/\Below w0.heap.size w0 W
section
variable {w:World}{b:BkV}{cv:Nat->Int}{bs:List E1}
set_option maxHeartbeats 8000000 in
theorem QfG (B:Bk w b cv)(hE:ER b.V b.S b.T cv bs):
 Calls Tryz.prog 18 #[vB b] w fun e w'=>∃ v,e=.returned (.tuple #[v,.bool true])/\EW w' w.heap.size v (Qbb bs b.V.toNat b.V.toNat)/\Below w.heap.size w w':=by
 have HBk:=q9 (B.alloc (bB b));have HX:=q9 (BB.new w b);have HW:Hid (Below w.heap.size w (w.alloc (bB b))):=q9 ((Below.refl _ _).alloc (Nat.le_refl _) _);have HE:=q9 hE;have HR:=q9 B.hR
 obtain⟨nv,hnv⟩:∃ k:Nat,b.V=(k:Int):=⟨b.V.toNat,by have:=B.hR.v1;omega⟩
 have HNV:=q9 hnv
 have nv16:nv<=16:=by have:=B.hR.v2;omega
 clear hnv;have hcl:=B.hc;have HCL:=q9 B.hc;obtain⟨c0,c1,c2,c3,c4,c5,c6⟩:=(BB.new w b).cells;clear B hE hcl
 go_enter Tryz.func18,Tryz.ntmps18
 go_wp2_with fail
 clear c0 c1 c2 c3 c4 c5 c6;generalize w.alloc (bB b)=w1 at HBk HX HW |-;generalize w.heap.size=x at HX |-;have HREL:Hid (EgA w1 bs nv (.slice none 0 0) (I 0) w1):=q9 ⟨0,none,0,0,Nat.zero_le _,rfl,rfl,EW.nil _ _,Below.refl _ _⟩
 go_loopw [4,5] (fun o i wr=>EgA w1 bs nv o i wr) (fun _ i _=>nv-(intOf i).toNat)
 case atStart=>exact HREL.out
 case round=>
  clear HREL;obtain⟨u,av9,ln9,ac9,hu,rfl,rfl,ho,hb⟩:=hrel;have HO:=q9 ho;have HB:=q9 hb;have HX2:=q9 (HX.below hb);clear ho hb
  by_cases hun:u<nv
  . have uI:(u:Int)<(nv:Int):=by omega
    have uV:(u:Int)<b.V:=by have:=HNV.out;omega
    have u0:(0:Int)<=(u:Int):=by omega
    obtain⟨c0,c1,c2,c3,c4,c5,c6⟩:=HX2.cells;have xlt:=HX2.lt;go_wp2_with fail
    clear c0 c1 c2 c3 c4 c5 c6 xlt
    have HREL2:Hid (EgB w1 bs nv u (.slice av9 ln9 ac9) (I ((u:Int)+1)) wr):=q9 ⟨u+1,av9,ln9,ac9,by omega,by omega,hun,by simp,rfl,by rw[Qgl,List.append_nil];exact HO,HB⟩
    clear HO HB HX2
    go_loopw [4,6] (fun o i wr=>EgB w1 bs nv u o i wr) (fun _ i _=>nv-(intOf i).toNat)
    case atStart=>exact HREL2.out
    case round=>
     clear HREL2;obtain⟨v,av,ln,ac,huv,hvle,hvn,rfl,rfl,ho,hb⟩:=hrel;have HO:=q9 ho;have HB:=q9 hb;have HX2:=q9 (HX.below hb);have HBk2:=q9 (HBk.below hb);clear ho hb
     by_cases hvV:v<nv
     . have vI:(v:Int)<(nv:Int):=by omega
       have vV:(v:Int)<b.V:=by have:=HNV.out;omega
       have v0:(0:Int)<=(v:Int):=by omega
       obtain⟨c0,c1,c2,c3,c4,c5,c6⟩:=HX2.cells;have xlt:=HX2.lt
       have HCA:=q9 (Qn7 HR.out (u:=u) (v:=v) (by omega) vV)
       by_cases hx:∃ e∈bs,e.u=u/\e.v=v
       rotate_left
       . as_aux_lemma=>
         have hn:∀ e∈bs,¬ (e.u=u/\e.v=v):=fun e h1 h2=>hx ⟨e,h1,h2⟩
         have hz:=HE.no u v (by omega) (by have:=HNV.out;omega) hn
         have HN:=q9 hn;clear hx hn;go_wp2_with fail
         refine(Qaj HBk2.out HCA.1 (by have h1:=HCA.2;have h2:=QY HR.out;have:=HCL.out;omega)).mono ?_;rintro e w2 ⟨rfl,b2⟩
         rw[hz];have HB2:=q9 (HB.trans (b2.mono HB.size));have HO2:=q9 (HO.below b2);have HX3:=q9 (HX2.below b2);clear hz b2 HB HO HX2 c0 c1 c2 c3 c4 c5 c6 xlt;obtain⟨c0,c1,c2,c3,c4,c5,c6⟩:=HX3.cells;have xlt:=HX3.lt;go_wp2_with fail
         go_roundw
         case rel=>exact⟨v+1,av,ln,ac,by omega,by omega,by omega,by simp,rfl,by rw[QbM,QfI HN.out,ite_self,List.append_nil];exact HO2,HB2⟩
         case measure=>simp [intOf];omega
       . as_aux_lemma=>
         obtain⟨e,he,hu9,hv9⟩:=hx;obtain⟨o1,o2,o3,o4⟩:=HE.ok e he;obtain⟨i1,i2,i3⟩:=HE.is e he;have HAT:Hid (edAt bs u v=[e]):=q9 (QgS HE.un he hu9 hv9);obtain⟨es,eu,ev,el,et⟩:=e;dsimp only at *;subst hu9 hv9;obtain⟨bt,hbt⟩:∃ k,bN et=k:=⟨_,rfl⟩
         have hbt1:bt<=1:=by rw[<-hbt];exact Qjg et
         have HBT:Hid (((bt:Int)==1)=et):=q9 (by rw[<-hbt];cases et<;>rfl)
         obtain⟨X,hX⟩:∃ X,eV es et=X:=⟨_,rfl⟩
         have hXe:X=((es:Int)+1)*2+(bt:Int):=by rw[<-hX,<-hbt];unfold eV;omega
         rw[hX] at i1;have s48:=HR.s2;have lv5:=(QF b.V).2;have lv1:=(QF b.V).1
         have q1:X / 2=(es:Int)+1:=by omega
         have q2:X % 2=(bt:Int):=by omega
         have t1:X.tdiv 2=(es:Int)+1:=(Int.tdiv_eq_ediv_of_nonneg (by omega)).trans q1
         have t2:X.tmod 2=(bt:Int):=(Int.tmod_eq_emod_of_nonneg (by omega)).trans q2
         have X0:((X:Int)==0)=false:=beq_eq_false_iff_ne.2 (by omega)
         have X1:(0:Int)<=X:=by omega
         have X2:X<=1000:=by omega
         have s0:(0:Int)<=(es:Int):=by omega
         have g1:¬ (es:Int)<0:=by omega
         have gd1:=decide_eq_false g1
         have g2:¬ b.S<=(es:Int):=by omega
         have gd2:=decide_eq_false g2
         have g3:¬ lv b.V<=(el:Int):=by omega
         have gd3:=decide_eq_false g3
         have w1x:IntKind.i64.wrap ((es:Int)+1)=(es:Int)+1:=IntWalk.i64_in _ (by omega)
         have wbt:IntKind.u64.wrap (bt:Int)=(bt:Int):=IntWalk.u64_in _ (by omega)
         have wl1:IntKind.i64.wrap (el:Int)=(el:Int):=IntWalk.i64_in _ (by omega)
         have wlv:IntKind.u64.wrap (lv b.V)=lv b.V:=IntWalk.u64_in _ (by omega)
         obtain⟨N,hN⟩:∃ N:Int,(eu:Int)*256+(ev:Int)=N:=⟨_,rfl⟩
         have hN2:nV eu ev=N:=by rw[<-hN];unfold nV;omega
         rw[hN2] at i2
         have wN:IntKind.i64.wrap N=N:=IntWalk.i64_in _ (by omega)
         have wN2:IntKind.u64.wrap N=N:=IntWalk.u64_in _ (by omega)
         have wN3:IntKind.i64.wrap ((eu:Int)*256)=(eu:Int)*256:=IntWalk.i64_in _ (by omega)
         have nNN:(N !=N)=false:=bne_self_eq_false _;have hc45:=Qnv HR.out (s:=es) o3;have hce:=QY HR.out
         have HC4:Hid (Qf b.V b.S b.T ⟨4,(es:Int),0,0⟩ (sC b.S b.T es 1)/\Qf b.V b.S b.T ⟨5,(es:Int),0,0⟩ (sC b.S b.T es 2)/\sC b.S b.T es 1<b.cl/\sC b.S b.T es 2<b.cl):=q9 ⟨hc45.1,hc45.2.1,by have:=HCL.out;have:=hc45.2.2.1;omega,by have:=HCL.out;have:=hc45.2.2.2;omega⟩
         have HI2:=q9 i2;have HI3:=q9 i3;clear he i2 i3 hX hXe hbt q1 q2 hN2 hc45 hce;go_wp2_with fail
         refine(Qaj HBk2.out HCA.1 (by have h1:=HCA.2;have h2:=QY HR.out;have:=HCL.out;omega)).mono ?_;rintro e w2 ⟨rfl,b2⟩
         rw[i1];have HB2:=q9 (HB.trans (b2.mono HB.size));have HO2:=q9 (HO.below b2);have HX3:=q9 (HX2.below b2);have HBk3:=q9 (HBk2.below b2);clear i1 b2 HB HO HX2 c0 c1 c2 c3 c4 c5 c6 xlt;obtain⟨c0,c1,c2,c3,c4,c5,c6⟩:=HX3.cells;have xlt:=HX3.lt;go_upto_region 11 with fail
         clear c0 c1 c2 c3 c4 c5 c6 xlt;have HXd:=q9 (HX3.below (Below.refl _ _).drew);have HBd:=q9 HBk3.drew;obtain⟨c0,c1,c2,c3,c4,c5,c6⟩:=HXd.cells;have xlt:=HXd.lt;have hrule:=BB.rule x b
         go_region_held3 (fun W=>BB W x b) (first|(with_reducible assumption)|(with_reducible exact HX6.out)|(with_reducible exact HX5.out)|(with_reducible exact HX4.out)|(with_reducible exact HXd.out))
          (first
           |(go_at_call 51;((with_reducible refine(Qaj HBd.out HC4.out.1 HC4.out.2.2.1).mono ?_);rintro e w4 ⟨rfl,b4⟩;rw[HI2.out];have HX4:=q9 (HXd.out.below b4);have HB4:=q9 (HBd.out.below b4);have HW4:=q9 b4))
           |(go_at_call 51;((with_reducible refine(Qaj HB4.out HC4.out.2.1 HC4.out.2.2.2).mono ?_);rintro e w5 ⟨rfl,b5⟩;rw[HI3.out];have HX5:=q9 (HX4.out.below b5);have HB5:=q9 (HB4.out.below b5);have HW5:=q9 b5))
           |(go_at_call 52;((with_reducible refine(QH _ _ _ HR.out _).mono ?_);rintro e w6 ⟨rfl,b6⟩;have HX6:=q9 (HX5.out.below b6);have HB6:=q9 (HB5.out.below b6);have HW6:=q9 b6))
           |fail)
         clear hrule c0 c1 c2 c3 c4 c5 c6 xlt;obtain⟨c0,c1,c2,c3,c4,c5,c6⟩:=HX6.cells;have xlt:=HX6.lt;go_wp2_with fail
         have hbt:=HBT.out;refine(Qaj HB6 HC4.2.1 HC4.2.2.2).mono ?_;rintro e w7 ⟨rfl,b7⟩;rw[HI3.out];have HS:=q9 (((((Below.refl _ _).drew.trans HW4.out).trans (HW5.mono (HW4.size))).trans (HW6.mono (Nat.le_trans HW4.size HW5.size))).trans (b7.mono (Nat.le_trans (Nat.le_trans HW4.size HW5.size) HW6.size)));have HO7:=q9 (HO2.below HS.out);have HB7:=q9 (HB2.trans (HS.mono HB2.size))
         have HLEN:Hid ((Qbb bs nv eu++QbO bs eu ev).length+[E1.mk es eu ev el et].length<=100000):=q9 (by
          have h1:=QfH (n:=ev) (u:=eu) HE.un;have h2:=Qi4 (n:=eu) (V:=nv) HE.un
          have h3:eu*nv<=16*16:=Nat.mul_le_mul (by omega) (by omega)
          simp only[List.length_append,List.length_cons,List.length_nil];omega)
         clear b7 HO2 HB2 HX3 HX4 HX5 HX6 HB4 HB5 HB6 HW4 HW5 HW6 HS HXd HBd c0 c1 c2 c3 c4 c5 c6 xlt
         go_wp2_with (at_builtin;go_loud (refine Qc8 (l2:=[⟨es,eu,ev,el,et⟩]) rfl _ _ rfl rfl (HO7.alloc _) (I1 w7.heap.size 0) 1 1 rfl rfl (Qiq w7 ⟨es,eu,ev,el,et⟩) HLEN.out (Nat.le_trans HB7.size (by simp)) ?_))
         intro v' w8 hO8 hg8
         have hsl:∃ a n c,v'=.slice a n c/\EW w8 w1.heap.size (.slice a n c) (Qbb bs nv eu++(QbO bs eu ev++[E1.mk es eu ev el et])):=by
          exact QbI hO8
         clear hO8;obtain⟨av',ln',ac',rfl,hO8⟩:=hsl;have HO8:=q9 hO8
         have HB8:=q9 ((HB7.trans ((Below.refl _ _).alloc HB7.size (.cells #[I (es:Int),I (eu:Int),I (ev:Int),I (el:Int),.bool et] 56))).grown hg8 (by simp;exact Nat.le_succ_of_le HB7.size) fun k hk=>(HO7.lt k hk).1)
         clear hO8 hg8 HO7 HB7;go_wp2_with fail
         go_roundw
         case rel=>exact⟨ev+1,av',ln',ac',by omega,by omega,by omega,by simp,rfl,by rw[QbM,if_pos (by omega),HAT.out];exact HO8,HB8⟩
         case measure=>simp [intOf];omega
     . as_aux_lemma=>
       obtain⟨c0,c1,c2,c3,c4,c5,c6⟩:=HX2.cells;have xlt:=HX2.lt
       have vN:¬ (v:Int)<b.V:=by have:=HNV.out;omega
       have HO9:=q9 HO.out
       have ek:v=nv:=by omega
       subst ek;go_wp2_with fail
       exact⟨⟨u+1,av,ln,ac,by omega,by simp,rfl,by rw[QcY];exact HO9.out,HB.out⟩,by simp [intOf];omega⟩
  . as_aux_lemma=>
    obtain⟨c0,c1,c2,c3,c4,c5,c6⟩:=HX2.cells;have xlt:=HX2.lt
    have ek:u=nv:=by omega
    subst ek
    have uN:¬ (u:Int)<b.V:=by have:=HNV.out;omega
    have HBE:=q9 (HW.trans (HB.mono HW.size));go_wp2_with fail
    go_ret2
    exact⟨_,rfl,by rw[show b.V.toNat=u by have:=HNV.out;omega];exact HO.less HW.size,HBE⟩
end
section
variable {bs:List E1}{u v n V:Nat}{e:E1}
theorem QeS:e∈edAt bs u v↔e∈bs/\e.u=u/\e.v=v:=by
 unfold edAt;rw[List.mem_filter];simp
theorem Qcz:e∈QbO bs u n↔e∈bs/\e.u=u/\u<e.v/\e.v<n:=by
 unfold QbO;rw[List.mem_flatMap]
 constructor
 . rintro⟨v,hv,he⟩
   have hv:=List.mem_range.1 hv
   split at he
   . obtain⟨h1,h2,h3⟩:=QeS.1 he
     exact⟨h1,h2,by omega,by omega⟩
   . cases he
 . rintro⟨h1,h2,h3,h4⟩
   exact⟨e.v,List.mem_range.2 h4,by rw[if_pos h3];exact QeS.2 ⟨h1,h2,rfl⟩⟩
theorem QfJ:e∈Qbb bs V n↔e∈bs/\e.u<n/\e.u<e.v/\e.v<V:=by
 unfold Qbb;rw[List.mem_flatMap]
 constructor
 . rintro⟨u,hu,he⟩
   have hu:=List.mem_range.1 hu;obtain⟨h1,h2,h3,h4⟩:=Qcz.1 he
   exact⟨h1,by omega,by omega,h4⟩
 . rintro⟨h1,h2,h3,h4⟩
   exact⟨e.u,List.mem_range.2 h2,Qcz.2 ⟨h1,rfl,h3,h4⟩⟩
theorem Qf1 {l:List E1}(h:l.length<=1):l.Nodup:=by
 match l,h with
 |[],_=>exact List.nodup_nil
 |[a],_=>simp
theorem Qgm (hs:bs.Pairwise fun a b=>a.s≠b.s/\¬ (a.u=b.u/\a.v=b.v)):(QbO bs u n).Nodup:=by
 induction n with
 |zero=>simp [QbO]
 |succ n ih=>
  rw[QbM]
  refine List.nodup_append.2 ⟨ih,?_,fun a ha b hb=>?_⟩
  . split
    . exact Qf1 (QgT hs)
    . exact List.nodup_nil
  . have h1:=Qcz.1 ha
    split at hb
    . have h2:=QeS.1 hb
      rintro rfl;omega
    . cases hb
theorem Qgn (hs:bs.Pairwise fun a b=>a.s≠b.s/\¬ (a.u=b.u/\a.v=b.v)):(Qbb bs V n).Nodup:=by
 induction n with
 |zero=>simp [Qbb]
 |succ n ih=>
  rw[QcY]
  refine List.nodup_append.2 ⟨ih,Qgm hs,fun a ha b hb=>?_⟩
  have h1:=QfJ.1 ha;have h2:=Qcz.1 hb;rintro rfl;omega
theorem QhE (hs:bs.Pairwise fun a b=>a.s≠b.s/\¬ (a.u=b.u/\a.v=b.v))(h:∀ e∈bs,e.u<e.v/\e.v<V):(Qbb bs V V).Perm bs:=by
 have hb:bs.Nodup:=hs.imp fun hab e=>hab.1 (by rw[e])
 refine(List.perm_ext_iff_of_nodup (Qgn hs) hb).2 fun e=>?_
 rw[QfJ]
 exact⟨fun h=>h.1,fun he=>⟨he,by have:=h e he;omega,(h e he).1,(h e he).2⟩⟩
end
end Go.Proofs.YtaooglagddphnaaGreat
