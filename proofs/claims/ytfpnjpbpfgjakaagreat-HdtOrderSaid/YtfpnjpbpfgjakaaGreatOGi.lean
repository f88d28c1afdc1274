/- Gi -/
import Derived.Test.YtfpnjpbpfgjakaaGreatOGh
namespace Go.Proofs.YtfpnjpbpfgjakaaGreat
open Go.RowKit Go.Proofs.Tryz
set_option maxRecDepth 100000
set_option maxHeartbeats 16000000
section
variable {w w' w0 W:World}{V S T:Int}{b p gb cap m L s u v i l:Nat}{f f':Nat->Int}{mk mk':Nat->Nat}{ts ts':List Tp}{bs bs':List E1}{q:Nat->Nat->List Nat}{x e x':E1}
theorem Qfr {r:Nat}{x0 x1 x2 x3 x4 y0 y1 y2 y3 y4:Value}(h:LX w0 w b V S T p gb cap m f mk ts)(hr:Blk w r 167 #[x0,x1,x2,x3,x4])(hb:w0.heap.size<=r):
 LX w0 (((((w.setCell (I1 r 0) y0).setCell (I1 r 1) y1).setCell (I1 r 2) y2).setCell (I1 r 3) y3).setCell (I1 r 4) y4) b V S T p gb cap m f mk ts/\Blk (((((w.setCell (I1 r 0) y0).setCell (I1 r 1) y1).setCell (I1 r 2) y2).setCell (I1 r 3) y3).setCell (I1 r 4) y4) r 167 #[y0,y1,y2,y3,y4]:=by
 have k0:=hr.set_ 0 y0;have k1:=k0.set_ 1 y1;have k2:=k1.set_ 2 y2;have k3:=k2.set_ 3 y3;have k4:=k3.set_ 4 y4
 exact⟨((((h.set hr hb (by decide) (by decide) (by decide) 0 y0).set k0 hb (by decide) (by decide) (by decide) 1 y1).set k1 hb (by decide) (by decide) (by decide) 2 y2).set k2 hb (by decide) (by decide) (by decide) 3 y3).set k3 hb (by decide) (by decide) (by decide) 4 y4,k4⟩
theorem LG.end_in (h:LG V S T f mk ts bs q)(hF:FJ V S mk ts){t:Tp}(hL:(L:Int)<lv V)(ht:t∈ts)(hx:x∈bs)(hxt:x.t=true)(hl:L<=x.l)(ha:An V S L x.s 0∈t.row):Xn V L x.u∈t.row:=by
 obtain⟨gr,hV,hg⟩:=h.lf.fo;obtain⟨rows,hr⟩:=hV L hL;obtain⟨r,E,hr1,hT,hE⟩:=hr.edge ((hg L hL _ _ _).1 (QG.2 ⟨x,hx,hxt,hl,rfl,rfl,rfl⟩));obtain⟨z,hz,ez⟩:=hr.has r hr1;have hm:=hT.mem hE;rw[<-ez] at hm;rw[<-hF.uniq hz ht hm.1 ha];exact hm.2.2.1
def PT13 (bs:List E1)(L v:Nat)(x:E1):Prop:=x.t=true/\x.l=L/\Way (tE bs L) x.u v
theorem LG.first_arc (h:LG V S T f mk ts bs' q)(hR:Rt V S T)(hF:FJ V S mk ts){t:Tp}(hL:(L:Int)<lv V)(hv:(v:Int)<V)(ht:t∈ts)(hx:Xn V L v∈t.row)(hU:Up bs bs' (PT13 bs L v)):
 (Qx mk 1 t.row=0/\∀ x∈bs',¬ PT13 bs L v x)\/∃ (i:Nat) (x:E1),bs'[i]?=some x/\bs[i]?=some x/\PT13 bs L v x/\Qx mk 1 t.row=An V S L x.s 0:=by
 have hP:∀ x,PT13 bs L v x->L<=x.l:=fun x hx=>by have:=hx.2.1;omega
 have hw:∀ {u:Nat},(u:Int)<V->(Way (tE bs L) u v↔Xn V L u∈t.row):=fun {u} hu=>by
  rw[<-hU.way hP]
  exact⟨fun hw=>(h.way hR hF hL ht hx hv u).1 hw.symm,fun hm=>((h.way hR hF hL ht hx hv u).2 hm).symm⟩
 by_cases e:Qx mk 1 t.row=0
 . refine .inl ⟨e,fun x hx' hp=>?_⟩
   have hok:=h.er.ok x hx'
   have ha:=h.arc_in hF hL ht hx' hp.1 (hP x hp) ((hw (by omega)).1 hp.2.2)
   have:=QdJ e (fun y hy=>(hF.nodes ht y hy).1) _ ha
   rw[(h.lf.pa L x.s 0 hL hok.2.2.1 (by decide)).1.2 ⟨rfl,x,hx',rfl,hp.1,hp.2.1⟩] at this
   cases this
 . obtain⟨hm,hb⟩:=QdK (x:=Qx mk 1 t.row) rfl e
   rcases(h.lvl_t hR hF hL hv ht hx).2 _ hm with ⟨u,hu,e1⟩|⟨s,d,hs,hd,e1⟩
   . rw[e1,h.lf.px L u hL hu] at hb;cases hb
   . rw[e1] at hb hm
     obtain⟨rfl,x,hx',rfl,hxt,hxl⟩:=(h.lf.pa L s d hL hs hd).1.1 hb;obtain⟨i,hi⟩:=Kc hx';have hok:=h.er.ok x hx'
     have hu:=h.end_in hF hL ht hx' hxt (by omega) hm
     have hp:PT13 bs L v x:=⟨hxt,hxl,(hw (by omega)).2 hu⟩
     refine .inr ⟨i,x,hi,?_,hp,e1⟩
     have hil:i<bs.length:=by rw[<-hU.len];exact(Jd hi).1
     rcases hU.st i _ (Jh hil) with h1|⟨h1,h2⟩
     . rw[h1] at hi;injection hi with hi
       rw[<-hi];exact Jh hil
     . rw[h2] at hi;injection hi with hi
       have e3:x.l=bs[i].l+1:=by rw[<-hi]
       have:=h1.2.1;omega
open Classical in
noncomputable def pB13 (bs:List E1)(L v:Nat)(x:E1):Bool:=decide (PT13 bs L v x)
open Classical in
theorem QoW (h:PT13 bs L v x):pB13 bs L v x=true:=by unfold pB13;exact decide_eq_true h
open Classical in
theorem Qpq (h:¬ PT13 bs L v x):pB13 bs L v x=false:=by unfold pB13;exact decide_eq_false h
def Qoy (w0:World)(b:Nat)(V S T:Int)(p gb cap m:Nat)(bs:List E1)(q:Nat->Nat->List Nat)(t:Tp)(L v:Nat)(i:Value)(W:World):Prop:=
 ∃ (k:Nat) (f:Nat->Int) (mk:Nat->Nat) (ts:List Tp) (bs':List E1),(k:Int)<=S/\i=I ((k:Nat):Int)/\LX w0 W b V S T p gb cap (m+k*(118*nN V S+52)) f mk ts/\LG V S T f mk ts bs' q/\Up bs bs' (PT13 bs L v)/\t∈ts/\k+lft bs' (pB13 bs L v)<=S.toNat
theorem Qph (A:TA w V S T p gb cap m f mk ts)(h:LG V S T f mk ts bs q)(hL:((L+1:Nat):Int)<lv V)(hv:(v:Int)<V)(hm:m+nN V S+S.toNat*(118*nN V S+52)<=99780000):
 I0 101 #[vA V S T p,I (L:Int),I (v:Int)] w fun e w'=>∃ f' mk' ts' bs',e=.returned (.tuple #[])/\TA w' V S T p gb cap (m+nN V S+(S.toNat+1)*(118*nN V S+52)) f' mk' ts'/\LG V S T f' mk' ts' bs' q/\Up bs bs' (PT13 bs L v)/\(∀ x∈bs',¬ PT13 bs L v x)/\Only p gb w w':=by
 have hn:=Ql A.hR;have hR:=A.hR
 have hL0:(L:Int)<lv V:=by omega
 obtain⟨gr,hV,hg⟩:=h.lf.fo;obtain⟨t,ht,hx,hjt⟩:=hV.row hR hL0 A.fi hv;have HVX:=q9 hx
 have HLT:Hid (∃ y∈t.row,lvN V y≠((L+1:Nat):Int)):=q9 ⟨_,hx,by rw[(h.lvl_t hR A.fi hL0 hv ht hx).1 _ hx];omega⟩
 have HP:=q9 (And.intro ht hx);have H0:=q9 (LX.new A);have HR:=q9 A.hR;have HL0:=q9 hL0;have HL1:=q9 hL;have HH:=q9 h;have hlen:=h.er.len_le;have s0:=hR.s1;have s48:=hR.s2;have hlf:lft bs (pB13 bs L v)<=bs.length:=List.length_filter_le _ _;clear A h hV hg ht hx hjt hL0 gr hR
 go_enter func101,ntmps101
 go_wp2_with fail
 generalize w.heap.size=b at H0 |-;generalize w.alloc (I8 V S T p)=W at H0 |-;obtain⟨y0,y1,y2,y3,y4,y5,y6,y7,y8,y9⟩:=H0.cells;have hlt:=H0.lt
 refine(Qni H0.a HL0 hv HP.1 HP.2 (by omega)).mono ?_;rintro e w1 ⟨rfl,A1,O1⟩
 have H1:=q9 (H0.next A1 O1)
 have HRel:Hid (Qoy w b V S T p gb cap (m+nN V S) bs q t L v (I 0) w1):=q9 ⟨0,f,mk,ts,bs,by omega,rfl,by simpa using H1.out,HH.out,Up.refl _ _,HP.1,by omega⟩
 clear H0 A1 O1 HH HP hlf hlen;obtain⟨y0,y1,y2,y3,y4,y5,y6,y7,y8,y9⟩:=H1.cells;have hlt:=H1.lt;generalize hrt:t.root=rt;have HRT:=q9 hrt;clear hrt;go_wp2_with fail
 clear H1
 go_loopw [19] (fun i wr=>Qoy w b V S T p gb cap (m+nN V S) bs q t L v i wr) (fun i _=>S.toNat-(intOf i).toNat)
 case atStart=>exact HRel.out
 case round=>
  clear HRel;obtain⟨k,f1,mk1,ts1,bs1,hk,rfl,hX,hV,hU,hts,hlf⟩:=hrel;have HX:=q9 hX;have HV:=q9 hV;have HU:=q9 hU;have HTS:=q9 hts;have HLF:=q9 hlf
  have k0:(0:Int)<=(k:Int):=by omega
  have HKC:Hid (k*(118*nN V S+52)<=S.toNat*(118*nN V S+52)):=q9 (Nat.mul_le_mul_right _ (by omega))
  have hex:(S.toNat+1)*(118*nN V S+52)=S.toNat*(118*nN V S+52)+(118*nN V S+52):=by rw[Nat.add_mul];omega
  have hke:(k+1)*(118*nN V S+52)=k*(118*nN V S+52)+(118*nN V S+52):=by rw[Nat.add_mul];omega
  obtain⟨M,hM⟩:∃ M,m+nN V S+k*(118*nN V S+52)=M:=⟨_,rfl⟩
  have HM2:Hid (m+nN V S+(k+1)*(118*nN V S+52)=M+118*nN V S+52):=q9 (by omega)
  have HS9:Hid (M<=99780000/\M+118*nN V S+52<=m+nN V S+(S.toNat+1)*(118*nN V S+52)):=q9 (by have:=HKC.out;omega)
  have hm9:M<=99980000:=by have:=HS9.out;omega
  rw[hM] at HX;clear hX hV hU hts hlf hM hex hke HKC hm
  by_cases hkS:(k:Int)<S
  . have hfa:=HV.first_arc HR.out HX.a.fi HL0.out hv HTS.out HVX.out HU.out
    obtain⟨aB,lI,vI,sI,dI,ok,x8,hfr,hnd,hcf,hct⟩:∃ (aB:Bool) (lI vI sI dI:Int) (ok:Bool) (x8:Nat),Qx mk1 1 t.row=x8/\(∀ W:World,I0 106 #[vL V S T,I ((x8:Nat):Int)] W fun e w'=>e=.returned (.tuple #[vT aB lI vI sI dI,.bool ok])/\Below W.heap.size W w')/\(aB=false->∀ x∈bs1,¬ PT13 bs L v x)/\(aB=true->∃ (i:Nat) (x:E1),bs1[i]?=some x/\bs[i]?=some x/\PT13 bs L v x/\sI=(x.s:Int)):=by
     rcases hfa with ⟨h1,h2⟩|⟨i,x,h1,h2,h3,h4⟩
     . exact⟨false,0,0,0,0,false,0,h1,fun W=>QeL V S T 0 (by decide) W,fun _=>h2,fun h=>by cases h⟩
     . exact⟨true,L,0,x.s,0,true,_,h4,fun W=>Qpf HR HL0 (HV.er.ok x (Je h1)).2.2.1 (d:=0) (by decide) W,(fun h=>by cases h),fun _=>⟨i,x,h1,h2,h3,rfl⟩⟩
    have HFR:=q9 hfr;have HND:=q9 hnd;have HCF:=q9 hcf;have HCT:=q9 hct;clear hfa hfr hnd hcf hct;obtain⟨y0,y1,y2,y3,y4,y5,y6,y7,y8,y9⟩:=HX.cells;have hlt:=HX.lt;go_wp2_with fail
    have Hd:=q9 HX.drew;have hrule:=LX.rule b V S T p
    refine wp_region_held_drew (S:=(fun W=>LtB W b V S T p)) (by kernel_rfl) ?_ (fun hHeld=>?_)
    . exact Hd.q
    refine q9N 0 rfl ?_
    refine q9N 1 rfl ?_
    refine q9N 2 rfl ?_
    refine q9N 3 rfl ?_
    refine q9N 4 rfl ?_
    refine q9N 5 rfl ?_
    refine q9N 6 rfl ?_
    refine q9N 7 rfl ?_
    refine q9N 8 rfl ?_
    refine q9N 9 rfl ?_
    refine wpAnyH_ready (rs:=[10,15]) (by kernel_rfl) (by simp) ?_
    refine AllReadyH.cons rfl (fun K hK=>?_) ?_
    rotate_left
    . refine AllReadyH.cons rfl (fun K hK=>?_) ?_
      rotate_left
      . exact AllReadyH.nil
      go_simp
      refine hK.out _ _ ?_ (fun hHeld=>?_)
      . (try dsimp only);exact(HX.below (Ja.alloc Jb (.cells #[.bool false,I 0,I 0,I 0,I 0] 167))).drew.q
      clear hK K;try simp only[Act.put,q98]
      refine q9R 10 rfl fun K hK=>?_
      go_simp
      (refine(QgA (xI:=((rt:Nat):Int)) (HX.below (Ja.alloc Jb (.cells #[.bool false,I 0,I 0,I 0,I 0] 167))).drew.a HTS.out (k:=1) (kI:=1) (by decide) hm9 (by rw[HRT.out]) rfl).mono ?_;rintro e w10 ⟨rfl,A10,O10⟩;rw[HFR.out];have H10:=q9 ((HX.below (Ja.alloc Jb (.cells #[.bool false,I 0,I 0,I 0,I 0] 167))).drew.next A10 O10);have HR10:Hid (Blk w10 wr.heap.size 167 #[.bool false,I 0,I 0,I 0,I 0]):=q9 (Blk.ta (Blk.new wr 167 #[.bool false,I 0,I 0,I 0,I 0]).drew (HX.below (Ja.alloc Jb (.cells #[.bool false,I 0,I 0,I 0,I 0] 167))).drew.a O10 (by decide) (by decide));clear A10 O10)
      go_wp2_with fail
      refine hK.out _ _ ?_ (fun hHeld=>?_)
      . (try dsimp only);exact H10.q
      clear hK K;try simp only[Act.put,q98]
      refine q9R 11 rfl fun K hK=>?_
      go_simp
      (refine(HND.out _).mono ?_;rintro e w11 ⟨rfl,B11⟩;have H11:=q9 (H10.below B11);have HR11:=q9 (Blk.below HR10.out B11 (Blk.lt HR10.out));clear B11)
      go_wp2_with fail
      refine hK.out _ _ ?_ (fun hHeld=>?_)
      . (try dsimp only);exact H11.q
      clear hK K;try simp only[Act.put,q98]
      refine q9N 12 rfl ?_
      refine q9N 13 rfl ?_
      refine q9N 14 rfl ?_
      refine q9R 16 rfl fun K hK=>?_
      have hge:w.heap.size<=wr.heap.size:=HX.o.size;have HF9:=q9 (Qfr (y0:=.bool aB) (y1:=I lI) (y2:=I vI) (y3:=I sI) (y4:=I dI) H11.out HR11.out hge);have k0:=HR11.cell 0;have k1:=HR11.cell 1;have k2:=HR11.cell 2;have k3:=HR11.cell 3;have k4:=HR11.cell 4;have f0:=HR11.frozen 0;have f1:=HR11.frozen 1;have f2:=HR11.frozen 2;have f3:=HR11.frozen 3;have f4:=HR11.frozen 4;have klt:=HR11.lt
      go_simp
      refine hK.out _ _ ?_ (fun hHeld=>?_)
      . (try dsimp only);exact HF9.1.q
      clear hK K;try simp only[Act.put,q98]
      refine q9N 17 rfl ?_
      refine wpAnyH_done (by kernel_rfl) ?_ _
      clear k0 k1 k2 k3 k4 f0 f1 f2 f3 f4 klt hge HR11 HR10;generalize h9:World.setCell (World.setCell (World.setCell (World.setCell (World.setCell _ _ _) _ _) _ _) _ _) _ _=W9 at HF9 |-;clear h9;generalize hb9:wr.heap.size=r9 at HF9 |-;clear Hd H10 H11 hrule hb9;have HX9:=q9 HF9.1;have HN9:=q9 HF9.2;clear HF9;obtain⟨y0,y1,y2,y3,y4,y5,y6,y7,y8,y9⟩:=HX9.cells;have hlt:=HX9.lt;have n0:=HN9.cell 0;have n3:=HN9.cell 3;have nlt:=HN9.lt
      cases aB
      . go_wp2_with fail
        (try simp only[Exit.inBlock,Exit.then]);refine bodyPost_ret (results_none rfl _ _ _) rfl ?_
        exact⟨rfl,f1,mk1,ts1,HX9.a.more (by have:=HS9.out;omega),bs1,HV.out,HU.out,HCF.out (by trivial),HX9.o⟩
      . obtain⟨i9,x9,hi9,h09,hp9,e9⟩:=HCT.out (by trivial)
        subst e9;have HI9:=q9 (And.intro hi9 (And.intro h09 hp9));clear hi9 h09 hp9;go_wp2_with fail
        refine(Qiy HX9.a HV.out HI9.1 HI9.2.2.1 (by rw[HI9.2.2.2.1];exact HL1.out) (by have:=HS9.out;omega)).mono ?_;rintro e w12 ⟨f2,mk2,ts2,rfl,A12,V12,K12,O12⟩
        have HX12:=q9 (HX9.next A12 O12)
        have HRel:Hid (Qoy w b V S T p gb cap (m+nN V S) bs q t L v (I ((k:Int)+1)) w12):=q9 ⟨k+1,f2,mk2,ts2,_,by omega,by simp,by rw[HM2.out];exact HX12.more (by omega),V12,HU.set HI9.1 HI9.2.1 HI9.2.2,K12 t HTS.out (by rw[HI9.2.2.2.1];exact HLT),by
         have h1:=Qow (x':={ x9 with l:=x9.l+1 }) (p:=pB13 bs L v) HI9.1 (QoW HI9.2.2) (Qpq (fun h:PT13 bs L v { x9 with l:=x9.l+1 }=>by have h2:x9.l+1=L:=h.2.1;have h3:=HI9.2.2.2.1;omega))
         have h2:=HLF.out;omega⟩
        clear HX9 HN9 HX12 A12 V12 K12 O12 HV HU HI9 HTS n0 n3 nlt HCT HCF HND;go_wp2_with fail
        go_roundw
        case rel=>exact HRel.out
        case measure=>simp [intOf];omega
    go_simp
    (refine(QgA (xI:=((rt:Nat):Int)) Hd.a HTS.out (k:=1) (kI:=1) (by decide) hm9 (by rw[HRT.out]) rfl).mono ?_;rintro e w10 ⟨rfl,A10,O10⟩;rw[HFR.out];have H10:=q9 (Hd.next A10 O10);clear A10 O10)
    go_wp2_with fail
    refine hK.out _ _ ?_ (fun hHeld=>?_)
    . (try dsimp only);exact H10.q
    clear hK K;try simp only[Act.put,q98]
    refine wpAnyH_ready (rs:=[11,15]) (by kernel_rfl) (by simp) ?_
    refine AllReadyH.cons rfl (fun K hK=>?_) ?_
    rotate_left
    . refine AllReadyH.cons rfl (fun K hK=>?_) ?_
      rotate_left
      . exact AllReadyH.nil
      go_simp
      refine hK.out _ _ ?_ (fun hHeld=>?_)
      . (try dsimp only);exact(H10.below (Ja.alloc Jb (.cells #[.bool false,I 0,I 0,I 0,I 0] 167))).q
      clear hK K;try simp only[Act.put,q98]
      refine q9R 11 rfl fun K hK=>?_
      go_simp
      (refine(HND.out _).mono ?_;rintro e w11 ⟨rfl,B11⟩;have H11:=q9 ((H10.below (Ja.alloc Jb (.cells #[.bool false,I 0,I 0,I 0,I 0] 167))).below B11);have HR11:Hid (Blk w11 w10.heap.size 167 #[.bool false,I 0,I 0,I 0,I 0]):=q9 (Blk.below (Blk.new w10 167 #[.bool false,I 0,I 0,I 0,I 0]) B11 (Blk.lt (Blk.new w10 167 #[.bool false,I 0,I 0,I 0,I 0])));clear B11)
      go_wp2_with fail
      refine hK.out _ _ ?_ (fun hHeld=>?_)
      . (try dsimp only);exact H11.q
      clear hK K;try simp only[Act.put,q98]
      refine q9N 12 rfl ?_
      refine q9N 13 rfl ?_
      refine q9N 14 rfl ?_
      refine q9R 16 rfl fun K hK=>?_
      have hge:w.heap.size<=w10.heap.size:=H10.o.size;have HF9:=q9 (Qfr (y0:=.bool aB) (y1:=I lI) (y2:=I vI) (y3:=I sI) (y4:=I dI) H11.out HR11.out hge);have k0:=HR11.cell 0;have k1:=HR11.cell 1;have k2:=HR11.cell 2;have k3:=HR11.cell 3;have k4:=HR11.cell 4;have f0:=HR11.frozen 0;have f1:=HR11.frozen 1;have f2:=HR11.frozen 2;have f3:=HR11.frozen 3;have f4:=HR11.frozen 4;have klt:=HR11.lt
      go_simp
      refine hK.out _ _ ?_ (fun hHeld=>?_)
      . (try dsimp only);exact HF9.1.q
      clear hK K;try simp only[Act.put,q98]
      refine q9N 17 rfl ?_
      refine wpAnyH_done (by kernel_rfl) ?_ _
      clear k0 k1 k2 k3 k4 f0 f1 f2 f3 f4 klt hge HR11;generalize h9:World.setCell (World.setCell (World.setCell (World.setCell (World.setCell _ _ _) _ _) _ _) _ _) _ _=W9 at HF9 |-;clear h9;generalize hb9:w10.heap.size=r9 at HF9 |-;clear Hd H10 H11 hrule hb9;have HX9:=q9 HF9.1;have HN9:=q9 HF9.2;clear HF9;obtain⟨y0,y1,y2,y3,y4,y5,y6,y7,y8,y9⟩:=HX9.cells;have hlt:=HX9.lt;have n0:=HN9.cell 0;have n3:=HN9.cell 3;have nlt:=HN9.lt
      cases aB
      . go_wp2_with fail
        (try simp only[Exit.inBlock,Exit.then]);refine bodyPost_ret (results_none rfl _ _ _) rfl ?_
        exact⟨rfl,f1,mk1,ts1,HX9.a.more (by have:=HS9.out;omega),bs1,HV.out,HU.out,HCF.out (by trivial),HX9.o⟩
      . obtain⟨i9,x9,hi9,h09,hp9,e9⟩:=HCT.out (by trivial)
        subst e9;have HI9:=q9 (And.intro hi9 (And.intro h09 hp9));clear hi9 h09 hp9;go_wp2_with fail
        refine(Qiy HX9.a HV.out HI9.1 HI9.2.2.1 (by rw[HI9.2.2.2.1];exact HL1.out) (by have:=HS9.out;omega)).mono ?_;rintro e w12 ⟨f2,mk2,ts2,rfl,A12,V12,K12,O12⟩
        have HX12:=q9 (HX9.next A12 O12)
        have HRel:Hid (Qoy w b V S T p gb cap (m+nN V S) bs q t L v (I ((k:Int)+1)) w12):=q9 ⟨k+1,f2,mk2,ts2,_,by omega,by simp,by rw[HM2.out];exact HX12.more (by omega),V12,HU.set HI9.1 HI9.2.1 HI9.2.2,K12 t HTS.out (by rw[HI9.2.2.2.1];exact HLT),by
         have h1:=Qow (x':={ x9 with l:=x9.l+1 }) (p:=pB13 bs L v) HI9.1 (QoW HI9.2.2) (Qpq (fun h:PT13 bs L v { x9 with l:=x9.l+1 }=>by have h2:x9.l+1=L:=h.2.1;have h3:=HI9.2.2.2.1;omega))
         have h2:=HLF.out;omega⟩
        clear HX9 HN9 HX12 A12 V12 K12 O12 HV HU HI9 HTS n0 n3 nlt HCT HCF HND;go_wp2_with fail
        go_roundw
        case rel=>exact HRel.out
        case measure=>simp [intOf];omega
    go_simp
    (refine(HND.out _).mono ?_;rintro e w11 ⟨rfl,B11⟩;have H11:=q9 (H10.below B11);clear B11)
    go_wp2_with fail
    refine hK.out _ _ ?_ (fun hHeld=>?_)
    . (try dsimp only);exact H11.q
    clear hK K;try simp only[Act.put,q98]
    refine q9N 12 rfl ?_
    refine q9N 13 rfl ?_
    refine q9N 14 rfl ?_
    refine q9R 15 rfl fun K hK=>?_
    go_simp
    refine hK.out _ _ ?_ (fun hHeld=>?_)
    . (try dsimp only);exact(H11.below (Ja.alloc Jb (.cells #[.bool false,I 0,I 0,I 0,I 0] 167))).q
    clear hK K;try simp only[Act.put,q98]
    refine q9R 16 rfl fun K hK=>?_
    have HF9:=q9 (And.intro (H11.below (Ja.alloc Jb (.cells #[.bool aB,I lI,I vI,I sI,I dI] 167))) (Blk.new w11 167 #[.bool aB,I lI,I vI,I sI,I dI]));have klt:w11.heap.size<w11.heap.size+1:=Nat.lt_succ_self _
    go_simp
    refine hK.out _ _ ?_ (fun hHeld=>?_)
    . (try dsimp only);exact HF9.1.q
    clear hK K;try simp only[Act.put,q98]
    refine q9N 17 rfl ?_
    refine wpAnyH_done (by kernel_rfl) ?_ _
    clear klt;generalize hb9:w11.heap.size=r9 at HF9 |-;generalize w11.alloc (.cells #[.bool aB,I lI,I vI,I sI,I dI] 167)=W9 at HF9 |-;clear Hd H10 H11 hrule hb9;have HX9:=q9 HF9.1;have HN9:=q9 HF9.2;clear HF9;obtain⟨y0,y1,y2,y3,y4,y5,y6,y7,y8,y9⟩:=HX9.cells;have hlt:=HX9.lt;have n0:=HN9.cell 0;have n3:=HN9.cell 3;have nlt:=HN9.lt
    cases aB
    . go_wp2_with fail
      (try simp only[Exit.inBlock,Exit.then]);refine bodyPost_ret (results_none rfl _ _ _) rfl ?_
      exact⟨rfl,f1,mk1,ts1,HX9.a.more (by have:=HS9.out;omega),bs1,HV.out,HU.out,HCF.out (by trivial),HX9.o⟩
    . obtain⟨i9,x9,hi9,h09,hp9,e9⟩:=HCT.out (by trivial)
      subst e9;have HI9:=q9 (And.intro hi9 (And.intro h09 hp9));clear hi9 h09 hp9;go_wp2_with fail
      refine(Qiy HX9.a HV.out HI9.1 HI9.2.2.1 (by rw[HI9.2.2.2.1];exact HL1.out) (by have:=HS9.out;omega)).mono ?_;rintro e w12 ⟨f2,mk2,ts2,rfl,A12,V12,K12,O12⟩
      have HX12:=q9 (HX9.next A12 O12)
      have HRel:Hid (Qoy w b V S T p gb cap (m+nN V S) bs q t L v (I ((k:Int)+1)) w12):=q9 ⟨k+1,f2,mk2,ts2,_,by omega,by simp,by rw[HM2.out];exact HX12.more (by omega),V12,HU.set HI9.1 HI9.2.1 HI9.2.2,K12 t HTS.out (by rw[HI9.2.2.2.1];exact HLT),by
       have h1:=Qow (x':={ x9 with l:=x9.l+1 }) (p:=pB13 bs L v) HI9.1 (QoW HI9.2.2) (Qpq (fun h:PT13 bs L v { x9 with l:=x9.l+1 }=>by have h2:x9.l+1=L:=h.2.1;have h3:=HI9.2.2.2.1;omega))
       have h2:=HLF.out;omega⟩
      clear HX9 HN9 HX12 A12 V12 K12 O12 HV HU HI9 HTS n0 n3 nlt HCT HCF HND;go_wp2_with fail
      go_roundw
      case rel=>exact HRel.out
      case measure=>simp [intOf];omega
  . have ek:(k:Int)=S:=by omega
    go_wp2_with fail
    go_end0
    exact⟨rfl,f1,mk1,ts1,HX.a.more (by have:=HS9.out;omega),bs1,HV.out,HU.out,(fun x hx hp=>by
     have h0:=HLF.out
     have h1:=QoX (p:=pB13 bs L v) (by omega) hx
     rw[QoW hp] at h1;cases h1),HX.o⟩
end
section
variable {w w' w0 W:World}{V S T:Int}{b p gb cap m L s u v i l:Nat}{f f':Nat->Int}{mk mk':Nat->Nat}{ts:List Tp}{bs bs':List E1}{q q':Nat->Nat->List Nat}{x e x':E1}
def BS13 (bs:List E1)(L v:Nat)(x:E1):Prop:=x.t=false/\x.l=L/\(Way (tE bs L) x.u v\/Way (tE bs L) x.v v)
theorem LG.first_vertex (h:LG V S T f mk ts bs q)(hR:Rt V S T)(hF:FJ V S mk ts){t:Tp}(hL:(L:Int)<lv V)(hv:(v:Int)<V)(ht:t∈ts)(hx:Xn V L v∈t.row):
 (Qx mk 0 t.row=0/\∀ x∈bs,¬ BS13 bs L v x)\/∃ (a:Nat) (i:Nat) (x:E1) (l:List Nat),(a:Int)<V/\Qx mk 0 t.row=Xn V L a/\bs[i]?=some x/\BS13 bs L v x/\dl q a L=x.s :: l:=by
 have hw:∀ {u:Nat},(u:Int)<V->(Way (tE bs L) u v↔Xn V L u∈t.row):=fun {u} hu=>⟨fun hw=>(h.way hR hF hL ht hx hv u).1 hw.symm,fun hm=>((h.way hR hF hL ht hx hv u).2 hm).symm⟩
 by_cases e:Qx mk 0 t.row=0
 . refine .inl ⟨e,fun x hx' hp=>?_⟩
   have hok:=h.er.ok x hx'
   have hz:=QdJ e (fun y hy=>(hF.nodes ht y hy).1)
   have hxF:x∈bs.filter fun e=>!e.t:=List.mem_filter.2 ⟨hx',by rw[hp.1];rfl⟩
   rcases hp.2.2 with hw1|hw1
   . have h1:=hz _ ((hw (by omega)).1 hw1)
     rw[<-Qbr hR (by omega) hL,h.lf.mq _ _ (by omega) hL] at h1
     have h2:2*x.s+1∈q x.u L:=(h.lf.lk _ _ _).2 ⟨x,hxF,hp.2.1,.inl ⟨rfl,rfl⟩⟩
     exact of_decide_eq_false h1 (fun e3=>by rw[e3] at h2;simp at h2)
   . have h1:=hz _ ((hw hok.2.1).1 hw1)
     rw[<-Qbr hR hok.2.1 hL,h.lf.mq _ _ hok.2.1 hL] at h1;have h2:2*x.s+2∈q x.v L:=(h.lf.lk _ _ _).2 ⟨x,hxF,hp.2.1,.inr ⟨rfl,rfl⟩⟩
     exact of_decide_eq_false h1 (fun e3=>by rw[e3] at h2;simp at h2)
 . obtain⟨hm,hb⟩:=QdK (x:=Qx mk 0 t.row) rfl e
   rcases(h.lvl_t hR hF hL hv ht hx).2 _ hm with ⟨a,ha,e1⟩|⟨s,d,hs,hd,e1⟩
   . rw[e1] at hb hm
     rw[<-Qbr hR ha hL,h.lf.mq _ _ ha hL] at hb;have hne:=of_decide_eq_true hb;obtain⟨y,l0,hq⟩:=List.exists_cons_of_ne_nil hne
     obtain⟨x,hxF,hxl,hy⟩:=(h.lf.lk a L y).1 (by rw[hq];simp)
     obtain⟨hx',hxt⟩:=List.mem_filter.1 hxF;obtain⟨i,hi⟩:=Kc hx';have hwa:=(hw ha).2 hm
     refine .inr ⟨a,i,x,l0.map fun x=>(x-1) / 2,ha,e1,hi,⟨by simpa using hxt,hxl,?_⟩,?_⟩
     . rcases hy with ⟨_,rfl⟩|⟨_,rfl⟩
       . exact .inl hwa
       . exact .inr hwa
     . unfold dl
       rw[hq,List.map_cons]
       congr 1
       rcases hy with ⟨rfl,_⟩|⟨rfl,_⟩<;>omega
   . rw[e1,(h.lf.pa L s d hL hs hd).2] at hb;cases hb
def PS13 (bs:List E1)(L v:Nat)(x:E1):Prop:=x.t=false/\x.l=L/\Way (tE bs L) x.u v/\Way (tE bs L) x.v v
def pQ13 (L:Nat)(x:E1):Bool:=!x.t && decide (x.l=L)
def Qog (V S T:Int)(p gb cap m:Nat)(f:Nat->Int)(mk:Nat->Nat)(ts:List Tp)(bs:List E1)(L v:Nat)(w:World)(e:Ending)(w':World):Prop:=
 ∃ (r:Int) (ok:Bool),e=.returned (.tuple #[I r,.bool ok])/\((ok=false/\∀ x∈bs,¬ BS13 bs L v x)\/(ok=true/\∃ (i:Nat) (x:E1),bs[i]?=some x/\BS13 bs L v x/\r=(x.s:Int)))/\TA w' V S T p gb cap m f mk ts/\Only p gb w w'
theorem Qo6 (A:TA w V S T p gb cap m f mk ts)(h:LG V S T f mk ts bs q){t:Tp}(hL:(L:Int)<lv V)(hv:(v:Int)<V)(ht:t∈ts)(hx:Xn V L v∈t.row)(hm:m<=99790000){rI:Int}(hr:(t.root:Int)=rI):
 I0 142 #[vA V S T p,I rI] w (Qog V S T p gb cap (m+4*nN V S+1) f mk ts bs L v w):=by
 have hn:=Ql A.hR;obtain⟨rt,hrt⟩:∃ rt:Nat,t.root=rt:=⟨_,rfl⟩;have HRT:=q9 hrt
 have hr2:rI=(rt:Int):=by rw[<-hrt];exact hr.symm
 subst hr2;clear hr hrt;have hfa:=h.first_vertex A.hR A.fi hL hv ht hx;have HTS:=q9 ht;have H0:=q9 (LX.new A);have HR:=q9 A.hR;have HL0:=q9 hL;have HH:=q9 h
 have hm9:m<=99980000:=by omega
 obtain⟨aB,lI,vI,sI,dI,ok,x8,hfr,hnd,hcf,hct⟩:∃ (aB:Bool) (lI vI sI dI:Int) (ok:Bool) (x8:Nat),Qx mk 0 t.row=x8/\(∀ W:World,I0 106 #[vL V S T,I ((x8:Nat):Int)] W fun e w'=>e=.returned (.tuple #[vT aB lI vI sI dI,.bool ok])/\Below W.heap.size W w')/\(ok=false->∀ x∈bs,¬ BS13 bs L v x)/\(ok=true->∃ (a:Nat) (i:Nat) (x:E1) (l:List Nat),(a:Int)<V/\bs[i]?=some x/\BS13 bs L v x/\dl q a L=x.s :: l/\vI=(a:Int)/\lI=(L:Int)):=by
  rcases hfa with ⟨h1,h2⟩|⟨a,i,x,l,h0,h1,h2,h3,h4⟩
  . exact⟨false,0,0,0,0,false,0,h1,fun W=>QeL V S T 0 (by decide) W,fun _=>h2,fun h=>by cases h⟩
  . exact⟨false,L,a,0,0,true,_,h1,fun W=>Qnd HR hL h0 W,(fun h=>by cases h),fun _=>⟨a,i,x,l,h0,h2,h3,h4,rfl,rfl⟩⟩
 have HFR:=q9 hfr;have HND:=q9 hnd;have HCF:=q9 hcf;have HCT:=q9 hct;clear A h hfa hfr hnd hcf hct ht hx hL
 go_enter func142,ntmps142
 go_wp2_with fail
 generalize hb0:w.heap.size=b at H0 |-;generalize hW0:w.alloc (I8 V S T p)=W at H0 |-;obtain⟨y0,y1,y2,y3,y4,y5,y6,y7,y8,y9⟩:=H0.cells;have hlt:=H0.lt;have Hd:=q9 H0.drew;have hrule:=LX.rule b V S T p
 refine wp_region_held_drew (S:=(fun W=>LtB W b V S T p)) (by kernel_rfl) ?_ (fun hHeld=>?_)
 . exact Hd.q
 refine q9N 0 rfl ?_
 refine q9N 1 rfl ?_
 refine q9N 2 rfl ?_
 refine q9N 3 rfl ?_
 refine q9N 4 rfl ?_
 refine q9N 5 rfl ?_
 refine q9N 6 rfl ?_
 refine q9N 7 rfl ?_
 refine q9N 8 rfl ?_
 refine q9N 9 rfl ?_
 refine wpAnyH_ready (rs:=[10,15]) (by kernel_rfl) (by simp) ?_
 refine AllReadyH.cons rfl (fun K hK=>?_) ?_
 rotate_left
 . refine AllReadyH.cons rfl (fun K hK=>?_) ?_
   rotate_left
   . exact AllReadyH.nil
   go_simp
   refine hK.out _ _ ?_ (fun hHeld=>?_)
   . (try dsimp only);exact(H0.below (Ja.alloc Jb (.cells #[.bool false,I 0,I 0,I 0,I 0] 167))).drew.q
   clear hK K;try simp only[Act.put,q98]
   refine q9R 10 rfl fun K hK=>?_
   go_simp
   (refine(QgA (xI:=((rt:Nat):Int)) (H0.below (Ja.alloc Jb (.cells #[.bool false,I 0,I 0,I 0,I 0] 167))).drew.a HTS.out (k:=0) (kI:=0) (by decide) hm9 (by rw[HRT.out]) rfl).mono ?_;rintro e w10 ⟨rfl,A10,O10⟩;rw[HFR.out];have H10:=q9 ((H0.below (Ja.alloc Jb (.cells #[.bool false,I 0,I 0,I 0,I 0] 167))).drew.next A10 O10);have HR10:Hid (Blk w10 W.heap.size 167 #[.bool false,I 0,I 0,I 0,I 0]):=q9 (Blk.ta (Blk.new W 167 #[.bool false,I 0,I 0,I 0,I 0]).drew (H0.below (Ja.alloc Jb (.cells #[.bool false,I 0,I 0,I 0,I 0] 167))).drew.a O10 (by decide) (by decide));clear A10 O10)
   go_wp2_with fail
   refine hK.out _ _ ?_ (fun hHeld=>?_)
   . (try dsimp only);exact H10.q
   clear hK K;try simp only[Act.put,q98]
   refine q9R 11 rfl fun K hK=>?_
   go_simp
   (refine(HND.out _).mono ?_;rintro e w11 ⟨rfl,B11⟩;have H11:=q9 (H10.below B11);have HR11:=q9 (Blk.below HR10.out B11 (Blk.lt HR10.out));clear B11)
   go_wp2_with fail
   refine hK.out _ _ ?_ (fun hHeld=>?_)
   . (try dsimp only);exact H11.q
   clear hK K;try simp only[Act.put,q98]
   refine q9N 12 rfl ?_
   refine q9N 13 rfl ?_
   refine q9N 14 rfl ?_
   refine q9R 16 rfl fun K hK=>?_
   have hge:w.heap.size<=W.heap.size:=H0.o.size;have HF9:=q9 (Qfr (y0:=.bool aB) (y1:=I lI) (y2:=I vI) (y3:=I sI) (y4:=I dI) H11.out HR11.out hge);have k0:=HR11.cell 0;have k1:=HR11.cell 1;have k2:=HR11.cell 2;have k3:=HR11.cell 3;have k4:=HR11.cell 4;have f0:=HR11.frozen 0;have f1:=HR11.frozen 1;have f2:=HR11.frozen 2;have f3:=HR11.frozen 3;have f4:=HR11.frozen 4;have klt:=HR11.lt
   go_simp
   refine hK.out _ _ ?_ (fun hHeld=>?_)
   . (try dsimp only);exact HF9.1.q
   clear hK K;try simp only[Act.put,q98]
   refine q9N 17 rfl ?_
   refine wpAnyH_done (by kernel_rfl) ?_ _
   clear k0 k1 k2 k3 k4 f0 f1 f2 f3 f4 klt hge HR11 HR10;generalize h9:World.setCell (World.setCell (World.setCell (World.setCell (World.setCell _ _ _) _ _) _ _) _ _) _ _=W9 at HF9 |-;clear h9;generalize hb9:W.heap.size=r9 at HF9 |-;clear Hd H10 H11 hrule hb9;have HX9:=q9 HF9.1;have HN9:=q9 HF9.2;clear HF9;obtain⟨y0,y1,y2,y3,y4,y5,y6,y7,y8,y9⟩:=HX9.cells;have hlt:=HX9.lt;have n1:=HN9.cell 1;have n2:=HN9.cell 2;have nlt:=HN9.lt
   cases ok
   . go_wp2_with fail
     go_ret2
     exact⟨_,_,rfl,.inl ⟨rfl,HCF (by trivial)⟩,HX9.a.more (by omega),HX9.o⟩
   . obtain⟨a9,i9,x9,l9,ha9,hi9,h09,hd9,e9,e8⟩:=HCT.out (by trivial)
     subst e9 e8;have HI9:=q9 (And.intro hi9 (And.intro h09 hd9));clear hi9 h09 hd9;go_wp2_with fail
     refine(Qb6 HX9.a HH.lf.lq ha9 HL0 (by omega) rfl rfl).mono ?_;rintro e w12 ⟨rfl,A12,O12⟩;rw[HI9.2.2]
     have HX12:=q9 (HX9.next A12 O12);clear HX9 HN9 A12 O12 n1 n2 nlt;show _;simp only[fsV];go_wp2_with fail
     go_ret2
     exact⟨_,_,rfl,.inr ⟨rfl,i9,x9,HI9.1,HI9.2.1,rfl⟩,HX12.a.more (by omega),HX12.o⟩
 go_simp
 (refine(QgA (xI:=((rt:Nat):Int)) Hd.a HTS.out (k:=0) (kI:=0) (by decide) hm9 (by rw[HRT.out]) rfl).mono ?_;rintro e w10 ⟨rfl,A10,O10⟩;rw[HFR.out];have H10:=q9 (Hd.next A10 O10);clear A10 O10)
 go_wp2_with fail
 refine hK.out _ _ ?_ (fun hHeld=>?_)
 . (try dsimp only);exact H10.q
 clear hK K;try simp only[Act.put,q98]
 refine wpAnyH_ready (rs:=[11,15]) (by kernel_rfl) (by simp) ?_
 refine AllReadyH.cons rfl (fun K hK=>?_) ?_
 rotate_left
 . refine AllReadyH.cons rfl (fun K hK=>?_) ?_
   rotate_left
   . exact AllReadyH.nil
   go_simp
   refine hK.out _ _ ?_ (fun hHeld=>?_)
   . (try dsimp only);exact(H10.below (Ja.alloc Jb (.cells #[.bool false,I 0,I 0,I 0,I 0] 167))).q
   clear hK K;try simp only[Act.put,q98]
   refine q9R 11 rfl fun K hK=>?_
   go_simp
   (refine(HND.out _).mono ?_;rintro e w11 ⟨rfl,B11⟩;have H11:=q9 ((H10.below (Ja.alloc Jb (.cells #[.bool false,I 0,I 0,I 0,I 0] 167))).below B11);have HR11:Hid (Blk w11 w10.heap.size 167 #[.bool false,I 0,I 0,I 0,I 0]):=q9 (Blk.below (Blk.new w10 167 #[.bool false,I 0,I 0,I 0,I 0]) B11 (Blk.lt (Blk.new w10 167 #[.bool false,I 0,I 0,I 0,I 0])));clear B11)
   go_wp2_with fail
   refine hK.out _ _ ?_ (fun hHeld=>?_)
   . (try dsimp only);exact H11.q
   clear hK K;try simp only[Act.put,q98]
   refine q9N 12 rfl ?_
   refine q9N 13 rfl ?_
   refine q9N 14 rfl ?_
   refine q9R 16 rfl fun K hK=>?_
   have hge:w.heap.size<=w10.heap.size:=H10.o.size;have HF9:=q9 (Qfr (y0:=.bool aB) (y1:=I lI) (y2:=I vI) (y3:=I sI) (y4:=I dI) H11.out HR11.out hge);have k0:=HR11.cell 0;have k1:=HR11.cell 1;have k2:=HR11.cell 2;have k3:=HR11.cell 3;have k4:=HR11.cell 4;have f0:=HR11.frozen 0;have f1:=HR11.frozen 1;have f2:=HR11.frozen 2;have f3:=HR11.frozen 3;have f4:=HR11.frozen 4;have klt:=HR11.lt
   go_simp
   refine hK.out _ _ ?_ (fun hHeld=>?_)
   . (try dsimp only);exact HF9.1.q
   clear hK K;try simp only[Act.put,q98]
   refine q9N 17 rfl ?_
   refine wpAnyH_done (by kernel_rfl) ?_ _
   clear k0 k1 k2 k3 k4 f0 f1 f2 f3 f4 klt hge HR11;generalize h9:World.setCell (World.setCell (World.setCell (World.setCell (World.setCell _ _ _) _ _) _ _) _ _) _ _=W9 at HF9 |-;clear h9;generalize hb9:w10.heap.size=r9 at HF9 |-;clear Hd H10 H11 hrule hb9;have HX9:=q9 HF9.1;have HN9:=q9 HF9.2;clear HF9;obtain⟨y0,y1,y2,y3,y4,y5,y6,y7,y8,y9⟩:=HX9.cells;have hlt:=HX9.lt;have n1:=HN9.cell 1;have n2:=HN9.cell 2;have nlt:=HN9.lt
   cases ok
   . go_wp2_with fail
     go_ret2
     exact⟨_,_,rfl,.inl ⟨rfl,HCF (by trivial)⟩,HX9.a.more (by omega),HX9.o⟩
   . obtain⟨a9,i9,x9,l9,ha9,hi9,h09,hd9,e9,e8⟩:=HCT.out (by trivial)
     subst e9 e8;have HI9:=q9 (And.intro hi9 (And.intro h09 hd9));clear hi9 h09 hd9;go_wp2_with fail
     refine(Qb6 HX9.a HH.lf.lq ha9 HL0 (by omega) rfl rfl).mono ?_;rintro e w12 ⟨rfl,A12,O12⟩;rw[HI9.2.2]
     have HX12:=q9 (HX9.next A12 O12);clear HX9 HN9 A12 O12 n1 n2 nlt;show _;simp only[fsV];go_wp2_with fail
     go_ret2
     exact⟨_,_,rfl,.inr ⟨rfl,i9,x9,HI9.1,HI9.2.1,rfl⟩,HX12.a.more (by omega),HX12.o⟩
 go_simp
 (refine(HND.out _).mono ?_;rintro e w11 ⟨rfl,B11⟩;have H11:=q9 (H10.below B11);clear B11)
 go_wp2_with fail
 refine hK.out _ _ ?_ (fun hHeld=>?_)
 . (try dsimp only);exact H11.q
 clear hK K;try simp only[Act.put,q98]
 refine q9N 12 rfl ?_
 refine q9N 13 rfl ?_
 refine q9N 14 rfl ?_
 refine q9R 15 rfl fun K hK=>?_
 go_simp
 refine hK.out _ _ ?_ (fun hHeld=>?_)
 . (try dsimp only);exact(H11.below (Ja.alloc Jb (.cells #[.bool false,I 0,I 0,I 0,I 0] 167))).q
 clear hK K;try simp only[Act.put,q98]
 refine q9R 16 rfl fun K hK=>?_
 have HF9:=q9 (And.intro (H11.below (Ja.alloc Jb (.cells #[.bool aB,I lI,I vI,I sI,I dI] 167))) (Blk.new w11 167 #[.bool aB,I lI,I vI,I sI,I dI]));have klt:w11.heap.size<w11.heap.size+1:=Nat.lt_succ_self _
 go_simp
 refine hK.out _ _ ?_ (fun hHeld=>?_)
 . (try dsimp only);exact HF9.1.q
 clear hK K;try simp only[Act.put,q98]
 refine q9N 17 rfl ?_
 refine wpAnyH_done (by kernel_rfl) ?_ _
 clear klt;generalize hb9:w11.heap.size=r9 at HF9 |-;generalize w11.alloc (.cells #[.bool aB,I lI,I vI,I sI,I dI] 167)=W9 at HF9 |-;clear Hd H10 H11 hrule hb9;have HX9:=q9 HF9.1;have HN9:=q9 HF9.2;clear HF9;obtain⟨y0,y1,y2,y3,y4,y5,y6,y7,y8,y9⟩:=HX9.cells;have hlt:=HX9.lt;have n1:=HN9.cell 1;have n2:=HN9.cell 2;have nlt:=HN9.lt
 cases ok
 . go_wp2_with fail
   go_ret2
   exact⟨_,_,rfl,.inl ⟨rfl,HCF (by trivial)⟩,HX9.a.more (by omega),HX9.o⟩
 . obtain⟨a9,i9,x9,l9,ha9,hi9,h09,hd9,e9,e8⟩:=HCT.out (by trivial)
   subst e9 e8;have HI9:=q9 (And.intro hi9 (And.intro h09 hd9));clear hi9 h09 hd9;go_wp2_with fail
   refine(Qb6 HX9.a HH.lf.lq ha9 HL0 (by omega) rfl rfl).mono ?_;rintro e w12 ⟨rfl,A12,O12⟩;rw[HI9.2.2]
   have HX12:=q9 (HX9.next A12 O12);clear HX9 HN9 A12 O12 n1 n2 nlt;show _;simp only[fsV];go_wp2_with fail
   go_ret2
   exact⟨_,_,rfl,.inr ⟨rfl,i9,x9,HI9.1,HI9.2.1,rfl⟩,HX12.a.more (by omega),HX12.o⟩
def QoT (w0:World)(b:Nat)(V S T:Int)(p gb cap m:Nat)(ts:List Tp)(bs:List E1)(L v:Nat)(i:Value)(W:World):Prop:=
 ∃ (k:Nat) (f:Nat->Int) (mk:Nat->Nat) (bs':List E1) (q:Nat->Nat->List Nat),(k:Int)<=S/\i=I ((k:Nat):Int)/\LX w0 W b V S T p gb cap (m+k*(38*nN V S+140)) f mk ts/\LG V S T f mk ts bs' q/\Up bs bs' (PS13 bs L v)/\k+lft bs' (pQ13 L)<=S.toNat
def QpZ (V S T:Int)(p gb cap m:Nat)(ts:List Tp)(bs:List E1)(L v:Nat)(w:World)(e:Ending)(w':World):Prop:=
 ∃ (r:Int) (ok:Bool) (f':Nat->Int) (mk':Nat->Nat) (bs':List E1) (q':Nat->Nat->List Nat),e=.returned (.tuple #[I r,.bool ok])/\TA w' V S T p gb cap m f' mk' ts/\LG V S T f' mk' ts bs' q'/\Up bs bs' (PS13 bs L v)/\
  ((ok=false/\r=0/\∀ x∈bs',¬ BS13 bs L v x)\/(ok=true/\∃ x∈bs',r=(x.s:Int)/\x.t=false/\x.l=L/\(Way (tE bs L) x.u v↔¬ Way (tE bs L) x.v v)))/\Only p gb w w'
theorem Qpv (A:TA w V S T p gb cap m f mk ts)(h:LG V S T f mk ts bs q)(hL:((L+1:Nat):Int)<lv V)(hv:(v:Int)<V)(hm:m+nN V S+S.toNat*(38*nN V S+140)<=99780000):
 I0 102 #[vA V S T p,I (L:Int),I (v:Int)] w (QpZ V S T p gb cap (m+nN V S+(S.toNat+1)*(38*nN V S+140)) ts bs L v w):=by
 have hn:=Ql A.hR;have hR:=A.hR
 have hL0:(L:Int)<lv V:=by omega
 obtain⟨gr,hV,hg⟩:=h.lf.fo;obtain⟨t,ht,hx,hjt⟩:=hV.row hR hL0 A.fi hv;have HVX:=q9 hx;have HTS:=q9 ht;have H0:=q9 (LX.new A);have HR:=q9 A.hR;have HL0:=q9 hL0;have HL1:=q9 hL;have HH:=q9 h;have hlen:=h.er.len_le;have s0:=hR.s1;have s48:=hR.s2;have hlf:lft bs (pQ13 L)<=bs.length:=List.length_filter_le _ _;clear A h hV hg ht hx hjt hL0 gr hR
 go_enter func102,ntmps102
 go_wp2_with fail
 generalize w.heap.size=b at H0 |-;generalize w.alloc (I8 V S T p)=W at H0 |-;obtain⟨y0,y1,y2,y3,y4,y5,y6,y7,y8,y9⟩:=H0.cells;have hlt:=H0.lt
 refine(Qni H0.a HL0 hv HTS HVX (by omega)).mono ?_;rintro e w1 ⟨rfl,A1,O1⟩
 have H1:=q9 (H0.next A1 O1)
 have HRel:Hid (QoT w b V S T p gb cap (m+nN V S) ts bs L v (I 0) w1):=q9 ⟨0,f,mk,bs,q,by omega,rfl,by simpa using H1.out,HH.out,Up.refl _ _,by omega⟩
 clear H0 A1 O1 HH hlf hlen;obtain⟨y0,y1,y2,y3,y4,y5,y6,y7,y8,y9⟩:=H1.cells;have hlt:=H1.lt;generalize hrt:t.root=rt;have HRT:=q9 hrt;clear hrt;go_wp2_with fail
 clear H1
 go_loopw [22] (fun i wr=>QoT w b V S T p gb cap (m+nN V S) ts bs L v i wr) (fun i _=>S.toNat-(intOf i).toNat)
 case atStart=>exact HRel.out
 case round=>
  clear HRel;obtain⟨k,f1,mk1,bs1,q1,hk,rfl,hX,hV,hU,hlf⟩:=hrel;have HX:=q9 hX;have HV:=q9 hV;have HU:=q9 hU;have HLF:=q9 hlf
  have HW:Hid (∀ a c:Nat,Way (tE bs1 L) a c↔Way (tE bs L) a c):=q9 fun a c=>hU.way (fun x hp=>by have:=hp.2.1;omega)
  have k0:(0:Int)<=(k:Int):=by omega
  have HKC:Hid (k*(38*nN V S+140)<=S.toNat*(38*nN V S+140)):=q9 (Nat.mul_le_mul_right _ (by omega))
  have hex:(S.toNat+1)*(38*nN V S+140)=S.toNat*(38*nN V S+140)+(38*nN V S+140):=by rw[Nat.add_mul];omega
  have hke:(k+1)*(38*nN V S+140)=k*(38*nN V S+140)+(38*nN V S+140):=by rw[Nat.add_mul];omega
  obtain⟨M,hM⟩:∃ M,m+nN V S+k*(38*nN V S+140)=M:=⟨_,rfl⟩
  have HM2:Hid (m+nN V S+(k+1)*(38*nN V S+140)=M+38*nN V S+140):=q9 (by omega)
  have HS9:Hid (M<=99780000/\M+38*nN V S+140<=m+nN V S+(S.toNat+1)*(38*nN V S+140)):=q9 (by have:=HKC.out;omega)
  have hm9:M<=99780000:=HS9.1;rw[hM] at HX;clear hX hV hU hlf hM hex hke HKC hm
  by_cases hkS:(k:Int)<S
  . obtain⟨y0,y1,y2,y3,y4,y5,y6,y7,y8,y9⟩:=HX.cells
    have hlt:=HX.lt;go_wp2_with fail
    refine(Qo6 HX.a HV.out HL0.out hv HTS.out HVX.out (by omega) (by rw[HRT.out])).mono ?_;rintro e w2 ⟨r9,ok,rfl,hbe,A2,O2⟩
    have HX2:=q9 (HX.next A2 O2);have HBE:=q9 hbe;clear HX A2 O2 hbe;obtain⟨y0,y1,y2,y3,y4,y5,y6,y7,y8,y9⟩:=HX2.cells;have hlt:=HX2.lt
    cases ok
    . have HB1:Hid (∀ x∈bs1,¬ BS13 bs1 L v x):=q9 (by
       rcases HBE.out with ⟨_,h1⟩|⟨h1,_⟩
       . exact h1
       . cases h1)
      go_wp2_with fail
      go_ret2
      refine⟨_,_,f1,mk1,bs1,q1,rfl,HX2.a.more (by have:=HS9.out;omega),HV.out,HU.out,.inl ⟨rfl,rfl,fun x hx hp=>HB1.out x hx ⟨hp.1,hp.2.1,?_⟩⟩,HX2.o⟩
      rw[HW.out,HW.out];exact hp.2.2
    . obtain⟨i9,x9,hi9,hb9,e9⟩:∃ (i:Nat) (x:E1),bs1[i]?=some x/\BS13 bs1 L v x/\r9=(x.s:Int):=by
       rcases HBE.out with ⟨h1,_⟩|⟨_,h1⟩
       . cases h1
       . exact h1
      subst e9;have HI9:=q9 (And.intro hi9 hb9);have HXI:Hid (x9∈bs1):=q9 (Je hi9);have hok9:=HV.er.ok x9 (Je hi9)
      have HU9:Hid ((x9.u:Int)<V/\(x9.v:Int)<V):=q9 ⟨by omega,hok9.2.1⟩
      clear HBE hi9 hb9 hok9;go_wp2_with fail
      refine(Qe9 HX2.a HV.er HXI (by omega)).mono ?_;rintro e w3 ⟨rfl,A3,O3⟩
      have HX3:=q9 (HX2.next A3 O3);clear HX2 A3 O3;obtain⟨y0,y1,y2,y3,y4,y5,y6,y7,y8,y9⟩:=HX3.cells;have hlt:=HX3.lt;have HY0:=q9 (HX3.made x9);go_wp2_with fail
      generalize w3.heap.size=r at HY0 |-;generalize w3.alloc (.cells #[I (x9.u:Int),I (x9.v:Int),I (x9.l:Int),.bool x9.t] 76)=W9 at HY0 |-;clear HX3;obtain⟨gr,hV9,hg9⟩:=HV.lf.fo;have HGW:Hid (Jn (gr L) x9.u x9.v↔Way (tE bs1 L) x9.u x9.v):=q9 (Jn.way (hg9 L HL0.out));have HV9:=q9 hV9;clear hV9 hg9;obtain⟨y0,y1,y2,y3,y4,y5,y6,y7,y8,y9⟩:=HY0.y.cells;have hlt:=HY0.y.lt;obtain⟨x0,x1,x2⟩:=HY0.r.cells;have hrl:=HY0.rlt
      refine(QhV HY0.y.a HV9 HL0 HU9.1 HU9.2 (by omega)).mono ?_;rintro e w4 ⟨sm,rfl,hsm,A4,O4⟩
      have HY4:=q9 (HY0.next A4 O4);have HSM:Hid (sm=true↔Way (tE bs1 L) x9.u x9.v):=q9 (hsm.trans HGW.out);clear HY0 A4 O4 hsm HV9 HGW;obtain⟨y0,y1,y2,y3,y4,y5,y6,y7,y8,y9⟩:=HY4.y.cells;have hlt:=HY4.y.lt;obtain⟨x0,x1,x2⟩:=HY4.r.cells;have hrl:=HY4.rlt
      cases sm
      . have HNW:Hid (¬ Way (tE bs1 L) x9.u x9.v):=q9 fun hw=>by have:=HSM.2 hw;cases this
        go_wp2_with fail
        go_ret2
        refine⟨_,_,f1,mk1,bs1,q1,rfl,HY4.y.a.more (by have:=HS9.out;omega),HV.out,HU.out,.inr ⟨rfl,x9,HXI.out,rfl,HI9.2.1,HI9.2.2.1,?_⟩,HY4.y.o⟩
        rw[<-HW.out,<-HW.out]
        constructor
        . intro h1 h2;exact HNW (h1.trans h2.symm)
        . intro h1
          rcases HI9.2.2.2 with h2|h2
          . exact h2
          . exact absurd h2 h1
      . have HYW:Hid (Way (tE bs1 L) x9.u x9.v):=q9 (HSM.1 rfl)
        go_wp2_with fail
        refine(Qkl HY4.y.a HV.out HI9.1 HI9.2.1 (by rw[HI9.2.2.1];exact HL1) (by omega)).mono ?_;rintro e w5 ⟨f2,mk2,ts2,rfl,A5,V5,rfl,O5⟩
        have HY5:=q9 (HY4.next A5 O5)
        have HPS:Hid (PS13 bs L v x9):=q9 (by
         have hb:=HI9.2;refine⟨hb.1,hb.2.1,?_⟩;rw[<-HW.out,<-HW.out]
         rcases hb.2.2 with h1|h1
         . exact⟨h1,HYW.symm.trans h1⟩
         . exact⟨HYW.trans h1,h1⟩)
        have H0I:Hid (bs[i9]?=some x9):=q9 (by
         have hil:i9<bs.length:=by rw[<-HU.len];exact(Jd HI9.1).1
         rcases HU.st i9 _ (Jh hil) with h1|⟨h1,h2⟩
         . have h3:=HI9.1
           rw[h1] at h3;injection h3 with h3;rw[<-h3];exact Jh hil
         . have h3:=HI9.1
           rw[h2] at h3;injection h3 with h3
           have e3:x9.l=bs[i9].l+1:=by rw[<-h3]
           have h4:=h1.2.1;have h5:=HPS.2.1;omega)
        have HRel:Hid (QoT w b V S T p gb cap (m+nN V S) ts2 bs L v (I ((k:Int)+1)) w5):=q9 ⟨k+1,f2,mk2,_,_,by omega,by simp,by rw[HM2.out];exact HY5.y.more (by omega),V5,HU.set HI9.1 H0I HPS,by
         have h1:=Qow (x':={ x9 with l:=x9.l+1 }) (p:=pQ13 L) HI9.1 (by unfold pQ13;rw[HI9.2.1,HI9.2.2.1];simp) (by unfold pQ13;have:=HI9.2.2.1;simp;omega)
         have h2:=HLF.out;omega⟩
        clear HY4 HY5 A5 V5 O5 HV HU HI9 HXI HSM HYW HPS H0I;go_wp2_with fail
        go_roundw
        case rel=>exact HRel.out
        case measure=>simp [intOf];omega
  . have ek:(k:Int)=S:=by omega
    go_wp2_with fail
    go_ret2
    refine⟨_,_,f1,mk1,bs1,q1,rfl,HX.a.more (by have:=HS9.out;omega),HV.out,HU.out,.inl ⟨rfl,rfl,fun x hx hp=>?_⟩,HX.o⟩
    have h0:=HLF.out
    have h1:=QoX (p:=pQ13 L) (by omega) hx
    unfold pQ13 at h1;rw[hp.1,hp.2.1] at h1;simp at h1
end
end Go.Proofs.YtfpnjpbpfgjakaaGreat
