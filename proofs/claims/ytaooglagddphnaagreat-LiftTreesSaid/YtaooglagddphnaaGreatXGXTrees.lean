/- GXTrees -/
import Derived.Test.YtaooglagddphnaaGreatXGr
import Derived.Carry
import Derived.Test.YtaooglagddphnaaGreatXW
namespace Go.Proofs.YtaooglagddphnaaGreat
open Go.RowKit
set_option maxRecDepth 100000
section
variable {V S T:Int}{w w' w0:World}{p gb cap m s u v l b lb:Nat}{f:Nat->Int}{mk:Nat->Nat}{ts:List Tp}{q:Nat->Nat->List Nat}{bs:List E1}{r:Option Nat}
theorem LI.ta {vs:Value}{L:List Nat}(h:LI w vs L)(A:TA w V S T p gb cap m f mk ts)(ho:Only p gb w w'):LI w' vs L:=h.only ho (h.ne_ta A).1 (h.ne_ta A).2
end
section
variable {w w' w0 W:World}{V S T:Int}{b p gb cap m m' L L' s u v i l:Nat}{f f':Nat->Int}{mk mk':Nat->Nat}{ts ts':List Tp}{bs bs':List E1}{q q':Nat->Nat->List Nat}{x e x':E1}{gr:List (Option (Nat × Nat))}{rows:List (List Nat)}{g:Mg9}
theorem Qpf (hR:Rt V S T)(hL:(L:Int)<lv V)(hs:(s:Int)<S){d:Nat}(hd:d<2)(w:World):
 Calls Tryz.prog 45 #[vL V S T,I (An V S L s d:Int)] w fun e w'=>e=.returned (.tuple #[vT true L 0 s d,.bool true])/\Below w.heap.size w w':=by
 have h1:=Qa4 hR hL hs hd;have h2:=QeZ hR hL hs hd;have h3:=QeA hR hs;have h5:=Q0 hR;have z:=sizes hR;have h6:=z.sn1;rw[QcI hs hd]
 have h:=Qj6 V S T (arI V L s d:Int) hR (by omega) (by omega) w
 have e1:(((arI V L s d:Nat):Int)-1-vn V)=(2*(L:Int)+d)+(s:Int)*sn V:=by omega
 have e2:sn V=2*lv V:=by unfold sn;omega
 rw[e1] at h
 have e3:(2*(L:Int)+d+(s:Int)*sn V) % sn V=2*L+d:=by rw[Int.add_mul_emod_self_right,Int.emod_eq_of_lt (by omega) (by omega)]
 have e4:(2*(L:Int)+d+(s:Int)*sn V) / sn V=s:=by rw[Int.add_mul_ediv_right _ _ (by omega),Int.ediv_eq_zero_of_lt (by omega) (by omega),Int.zero_add]
 have e5:(2*(L:Int)+d+(s:Int)*sn V) % 2=d:=by
  have:=h1.2.2.2.2.2;rw[e1] at this;exact this
 rw[e3,e4,e5,show (2*(L:Int)+d) / 2=L by omega] at h
 exact h
theorem LG.arc_in (h:LG V S T f mk ts bs q)(hF:FJ V S mk ts){t:Tp}(hL:(L:Int)<lv V)(ht:t∈ts)(hx:x∈bs)(hxt:x.t=true)(hl:L<=x.l)(hu:Xn V L x.u∈t.row):An V S L x.s 0∈t.row:=by
 obtain⟨gr,hV,hg⟩:=h.lf.fo;obtain⟨rows,hr⟩:=hV L hL;obtain⟨r,E,hr1,hT,hE⟩:=hr.edge ((hg L hL _ _ _).1 (QG.2 ⟨x,hx,hxt,hl,rfl,rfl,rfl⟩));obtain⟨z,hz,ez⟩:=hr.has r hr1;have hm:=hT.mem hE;rw[<-ez] at hm;rw[<-hF.uniq hz ht hm.2.2.1 hu];exact hm.1
theorem LG.lvl_t (h:LG V S T f mk ts bs q)(hR:Rt V S T)(hF:FJ V S mk ts){t:Tp}(hL:(L:Int)<lv V)(hv:(v:Int)<V)(ht:t∈ts)(hx:Xn V L v∈t.row):(∀ y∈t.row,lvN V y=(L:Int))/\∀ y∈t.row,(∃ u:Nat,(u:Int)<V/\y=Xn V L u)\/∃ s d:Nat,(s:Int)<S/\d<2/\y=An V S L s d:=by
 obtain⟨gr,hV,hg⟩:=h.lf.fo;obtain⟨rows,hr⟩:=hV L hL;obtain⟨r,hr1,hx1⟩:=hr.cov v hv;obtain⟨z,hz,ez⟩:=hr.has r hr1
 have e:=hF.uniq hz ht (by rw[ez];exact hx1) hx
 subst e;obtain⟨_,hF⟩:=hF;rw[ez]
 exact⟨fun y hy=>hr.lvl hR hL hF hr1 hy,fun y hy=>hr.kind hR hF hr1 hy⟩
theorem LG.way (h:LG V S T f mk ts bs q)(hR:Rt V S T)(hF:FJ V S mk ts){t:Tp}(hL:(L:Int)<lv V)(ht:t∈ts)(hx:Xn V L u∈t.row)(hu:(u:Int)<V)(v:Nat):Way (tE bs L) u v↔Xn V L v∈t.row:=by
 obtain⟨gr,hV,hg⟩:=h.lf.fo;obtain⟨z,hz,hx1,hj⟩:=hV.row hR hL hF hu;have e:=hF.uniq hz ht hx1 hx;subst e;rw[<-Jn.way (hg L hL)];exact hj v
structure Up (bs bs':List E1)(P:E1->Prop):Prop where
 len:bs'.length=bs.length
 st:∀ (i:Nat) (x:E1),bs[i]?=some x->bs'[i]?=some x\/(P x/\bs'[i]?=some { x with l:=x.l+1 })
theorem Up.refl (bs:List E1)(P:E1->Prop):Up bs bs P:=⟨rfl,fun _ _ h=>.inl h⟩
theorem Up.set {P:E1->Prop}(h:Up bs bs' P)(hi:bs'[i]?=some x)(h0:bs[i]?=some x)(hp:P x):Up bs (bs'.set i { x with l:=x.l+1 }) P:=by
 refine⟨by rw[List.length_set];exact h.len,fun j y hj=>?_⟩
 by_cases e:i=j
 . subst e
   rw[h0] at hj;injection hj with hj;subst hj;exact .inr ⟨hp,List.getElem?_set_self (List.getElem?_eq_some_iff.1 hi).1⟩
 . rw[List.getElem?_set_ne e];exact h.st j y hj
theorem Up.tE_iff {P:E1->Prop}(h:Up bs bs' P)(hP:∀ x,P x->L<=x.l)(e:Nat × Nat × Nat):e∈tE bs' L↔e∈tE bs L:=by
 obtain⟨s,a,b⟩:=e;rw[QG,QG]
 constructor
 . rintro⟨y,hy,h1,h2,h3⟩
   obtain⟨j,hj⟩:=List.mem_iff_getElem?.1 hy;have hjl:=(List.getElem?_eq_some_iff.1 hj).1;rw[h.len] at hjl;have hx:=List.getElem?_eq_getElem hjl
   rcases h.st j _ hx with h4|⟨h5,h4⟩
   . rw[h4] at hj;injection hj with hj
     subst hj;exact⟨_,List.mem_of_getElem? hx,h1,h2,h3⟩
   . rw[h4] at hj;injection hj with hj
     subst hj;exact⟨_,List.mem_of_getElem? hx,h1,hP _ h5,h3⟩
 . rintro⟨y,hy,h1,h2,h3⟩
   obtain⟨j,hj⟩:=List.mem_iff_getElem?.1 hy
   rcases h.st j _ hj with h4|⟨h5,h4⟩
   . exact⟨_,List.mem_of_getElem? h4,h1,h2,h3⟩
   . exact⟨_,List.mem_of_getElem? h4,h1,by show L<=y.l+1;omega,h3⟩
theorem Up.way {P:E1->Prop}(h:Up bs bs' P)(hP:∀ x,P x->L<=x.l):Way (tE bs' L) u v↔Way (tE bs L) u v:=⟨fun hw=>hw.mono fun e he=>(h.tE_iff hP e).1 he,fun hw=>hw.mono fun e he=>(h.tE_iff hP e).2 he⟩
def lft (bs:List E1)(p:E1->Bool):Nat:=(bs.filter p).length
theorem Qow {p:E1->Bool}:∀ {bs:List E1} {i:Nat},bs[i]?=some x->p x=true->p x'=false->lft (bs.set i x') p+1=lft bs p
 |[],_,h,_,_=>by simp at h
 |y :: bs,0,h,h1,h2=>by
  simp only[List.getElem?_cons_zero,Option.some.injEq] at h;subst h;show ((x' :: bs).filter p).length+1=((y :: bs).filter p).length
  rw[List.filter_cons_of_neg (by rw[h2];decide),List.filter_cons_of_pos h1];rfl
 |y :: bs,i+1,h,h1,h2=>by
  simp only[List.getElem?_cons_succ] at h;have:=Qow h h1 h2;unfold lft at this |-;rw[List.set_cons_succ,List.filter_cons,List.filter_cons]
  cases p y
  . simpa using this
  . simp only[if_true,List.length_cons];omega
theorem QoX {p:E1->Bool}(h:lft bs p=0)(hx:x∈bs):p x=false:=by
 cases hp:p x
 . rfl
 . have:x∈bs.filter p:=List.mem_filter.2 ⟨hx,hp⟩
   unfold lft at h;rw[List.length_eq_zero_iff.1 h] at this;simp at this
end
section
variable {w w' w0 W:World}{V S T:Int}{b p gb cap m L s u v i l:Nat}{f f':Nat->Int}{mk mk':Nat->Nat}{ts ts':List Tp}{bs bs':List E1}{q q':Nat->Nat->List Nat}{x e x':E1}
theorem LG.end_in (h:LG V S T f mk ts bs q)(hF:FJ V S mk ts){t:Tp}(hL:(L:Int)<lv V)(ht:t∈ts)(hx:x∈bs)(hxt:x.t=true)(hl:L<=x.l)(ha:An V S L x.s 0∈t.row):Xn V L x.u∈t.row:=by
 obtain⟨gr,hV,hg⟩:=h.lf.fo;obtain⟨rows,hr⟩:=hV L hL;obtain⟨r,E,hr1,hT,hE⟩:=hr.edge ((hg L hL _ _ _).1 (QG.2 ⟨x,hx,hxt,hl,rfl,rfl,rfl⟩));obtain⟨z,hz,ez⟩:=hr.has r hr1;have hm:=hT.mem hE;rw[<-ez] at hm;rw[<-hF.uniq hz ht hm.1 ha];exact hm.2.2.1
def PT13 (bs:List E1)(L v:Nat)(x:E1):Prop:=x.t=true/\x.l=L/\Way (tE bs L) x.u v
theorem LG.first_arc (h:LG V S T f mk ts bs' q)(hR:Rt V S T)(hF:FJ V S mk ts){t:Tp}(hL:(L:Int)<lv V)(hv:(v:Int)<V)(ht:t∈ts)(hx:Xn V L v∈t.row)(hU:Up bs bs' (PT13 bs L v)):
 (Qx mk 1 t.row=0/\∀ x∈bs',¬ PT13 bs L v x)\/∃ (i:Nat) (x:E1),bs'[i]?=some x/\bs[i]?=some x/\PT13 bs L v x/\Qx mk 1 t.row=An V S L x.s 0:=by
 have hP:∀ x,PT13 bs L v x->L<=x.l:=fun x hx=>by have:=hx.2.1;omega
 have hw:∀ {u:Nat},(u:Int)<V->(Way (tE bs L) u v↔Xn V L u∈t.row):=fun {u} hu=>by
  rw[<-hU.way hP]
  exact⟨fun hw=>(h.way hR hF hL ht hx hv u).1 hw.symm,fun hm=>((h.way hR hF hL ht hx hv u).2 hm).symm⟩
 by_cases e:Qx mk 1 t.row=0
 . refine .inl ⟨e,fun x hx' hp=>?_⟩
   have hok:=h.er.ok x hx'
   have ha:=h.arc_in hF hL ht hx' hp.1 (hP x hp) ((hw (by omega)).1 hp.2.2)
   have:=QdJ e (fun y hy=>(hF.nodes ht y hy).1) _ ha
   rw[(h.lf.pa L x.s 0 hL hok.2.2.1 (by decide)).1.2 ⟨rfl,x,hx',rfl,hp.1,hp.2.1⟩] at this
   cases this
 . obtain⟨hm,hb⟩:=QdK (x:=Qx mk 1 t.row) rfl e
   rcases(h.lvl_t hR hF hL hv ht hx).2 _ hm with ⟨u,hu,e1⟩|⟨s,d,hs,hd,e1⟩
   . rw[e1,h.lf.px L u hL hu] at hb;cases hb
   . rw[e1] at hb hm
     obtain⟨rfl,x,hx',rfl,hxt,hxl⟩:=(h.lf.pa L s d hL hs hd).1.1 hb;obtain⟨i,hi⟩:=List.mem_iff_getElem?.1 hx';have hok:=h.er.ok x hx'
     have hu:=h.end_in hF hL ht hx' hxt (by omega) hm
     have hp:PT13 bs L v x:=⟨hxt,hxl,(hw (by omega)).2 hu⟩
     refine .inr ⟨i,x,hi,?_,hp,e1⟩
     have hil:i<bs.length:=by rw[<-hU.len];exact(List.getElem?_eq_some_iff.1 hi).1
     rcases hU.st i _ (List.getElem?_eq_getElem hil) with h1|⟨h1,h2⟩
     . rw[h1] at hi;injection hi with hi
       rw[<-hi];exact List.getElem?_eq_getElem hil
     . rw[h2] at hi;injection hi with hi
       have e3:x.l=bs[i].l+1:=by rw[<-hi]
       have:=h1.2.1;omega
open Classical in
noncomputable def pB13 (bs:List E1)(L v:Nat)(x:E1):Bool:=decide (PT13 bs L v x)
open Classical in
theorem QoW (h:PT13 bs L v x):pB13 bs L v x=true:=by unfold pB13;exact decide_eq_true h
open Classical in
theorem Qpq (h:¬ PT13 bs L v x):pB13 bs L v x=false:=by unfold pB13;exact decide_eq_false h
def Qoy (w0:World)(b:Nat)(V S T:Int)(p gb cap m:Nat)(bs:List E1)(q:Nat->Nat->List Nat)(t:Tp)(L v:Nat)(i:Value)(W:World):Prop:=
 ∃ (k:Nat) (f:Nat->Int) (mk:Nat->Nat) (ts:List Tp) (bs':List E1),(k:Int)<=S/\i=I ((k:Nat):Int)/\LX w0 W b V S T p gb cap (m+k*(118*nN V S+52)) f mk ts/\LG V S T f mk ts bs' q/\Up bs bs' (PT13 bs L v)/\t∈ts/\k+lft bs' (pB13 bs L v)<=S.toNat
set_option maxHeartbeats 2000000 in
theorem Qph (A:TA w V S T p gb cap m f mk ts)(h:LG V S T f mk ts bs q)(hL:((L+1:Nat):Int)<lv V)(hv:(v:Int)<V)(hm:m+nN V S+S.toNat*(118*nN V S+52)<=99780000):
 Calls Tryz.prog 15 #[vA V S T p,I (L:Int),I (v:Int)] w fun e w'=>∃ f' mk' ts' bs',e=.returned (.tuple #[])/\TA w' V S T p gb cap (m+nN V S+(S.toNat+1)*(118*nN V S+52)) f' mk' ts'/\LG V S T f' mk' ts' bs' q/\Up bs bs' (PT13 bs L v)/\(∀ x∈bs',¬ PT13 bs L v x)/\Only p gb w w':=by
 have hn:=Ql A.hR;have hR:=A.hR
 have hL0:(L:Int)<lv V:=by omega
 obtain⟨gr,hV,hg⟩:=h.lf.fo;obtain⟨t,ht,hx,hjt⟩:=hV.row hR hL0 A.fi hv;have HVX:=q9 hx
 have HLT:Hid (∃ y∈t.row,lvN V y≠((L+1:Nat):Int)):=q9 ⟨_,hx,by rw[(h.lvl_t hR A.fi hL0 hv ht hx).1 _ hx];omega⟩
 have HP:=q9 (And.intro ht hx);have H0:=q9 (LX.new A);have HR:=q9 A.hR;have HL0:=q9 hL0;have HL1:=q9 hL;have HH:=q9 h;have hlen:=h.er.len_le;have s0:=hR.s1;have s48:=hR.s2;have hlf:lft bs (pB13 bs L v)<=bs.length:=List.length_filter_le _ _;clear A h hV hg ht hx hjt hL0 gr hR
 go_enter Tryz.func15,Tryz.ntmps15
 go_wp2_with fail
 generalize w.heap.size=b at H0 |-;generalize w.alloc (I8 V S T p)=W at H0 |-;obtain⟨y0,y1,y2,y3,y4,y5,y6,y7,y8,y9⟩:=H0.cells;have hlt:=H0.lt
 refine(Qni H0.a HL0 hv HP.1 HP.2 (by omega)).mono ?_;rintro e w1 ⟨rfl,A1,O1⟩
 have H1:=q9 (H0.next A1 O1)
 have HRel:Hid (Qoy w b V S T p gb cap (m+nN V S) bs q t L v (I 0) w1):=q9 ⟨0,f,mk,ts,bs,by omega,rfl,by simpa using H1.out,HH.out,Up.refl _ _,HP.1,by omega⟩
 clear H0 A1 O1 HH HP hlf hlen y0 y1 y2 y3 y4 y5 y6 y7 y8 y9 hlt;obtain⟨y0,y1,y2,y3,y4,y5,y6,y7,y8,y9⟩:=H1.cells;have hlt:=H1.lt;generalize hrt:t.root=rt;have HRT:=q9 hrt;clear hrt;go_wp2_with fail
 clear H1 y0 y1 y2 y3 y4 y5 y6 y7 y8 y9 hlt
 go_loopw [19] (fun i wr=>Qoy w b V S T p gb cap (m+nN V S) bs q t L v i wr) (fun i _=>S.toNat-(intOf i).toNat)
 case atStart=>exact HRel.out
 case round=>
  clear HRel;obtain⟨k,f1,mk1,ts1,bs1,hk,rfl,hX,hV,hU,hts,hlf⟩:=hrel;have HX:=q9 hX;have HV:=q9 hV;have HU:=q9 hU;have HTS:=q9 hts;have HLF:=q9 hlf
  have k0:(0:Int)<=(k:Int):=by omega
  have HKC:Hid (k*(118*nN V S+52)<=S.toNat*(118*nN V S+52)):=q9 (Nat.mul_le_mul_right _ (by omega))
  have hex:(S.toNat+1)*(118*nN V S+52)=S.toNat*(118*nN V S+52)+(118*nN V S+52):=by rw[Nat.add_mul];omega
  have hke:(k+1)*(118*nN V S+52)=k*(118*nN V S+52)+(118*nN V S+52):=by rw[Nat.add_mul];omega
  obtain⟨M,hM⟩:∃ M,m+nN V S+k*(118*nN V S+52)=M:=⟨_,rfl⟩
  have HM2:Hid (m+nN V S+(k+1)*(118*nN V S+52)=M+118*nN V S+52):=q9 (by omega)
  have HS9:Hid (M<=99780000/\M+118*nN V S+52<=m+nN V S+(S.toNat+1)*(118*nN V S+52)):=q9 (by have:=HKC.out;omega)
  have hm9:M<=99980000:=by have:=HS9.out;omega
  rw[hM] at HX;clear hX hV hU hts hlf hM hex hke HKC hm
  by_cases hkS:(k:Int)<S
  . have hfa:=HV.first_arc HR.out HX.a.fi HL0.out hv HTS.out HVX.out HU.out
    obtain⟨aB,lI,vI,sI,dI,ok,x8,hfr,hnd,hcf,hct⟩:∃ (aB:Bool) (lI vI sI dI:Int) (ok:Bool) (x8:Nat),Qx mk1 1 t.row=x8/\(∀ W:World,Calls Tryz.prog 45 #[vL V S T,I ((x8:Nat):Int)] W fun e w'=>e=.returned (.tuple #[vT aB lI vI sI dI,.bool ok])/\Below W.heap.size W w')/\(aB=false->∀ x∈bs1,¬ PT13 bs L v x)/\(aB=true->∃ (i:Nat) (x:E1),bs1[i]?=some x/\bs[i]?=some x/\PT13 bs L v x/\sI=(x.s:Int)):=by
     rcases hfa with ⟨h1,h2⟩|⟨i,x,h1,h2,h3,h4⟩
     . exact⟨false,0,0,0,0,false,0,h1,fun W=>QeL V S T 0 (by decide) W,fun _=>h2,fun h=>by cases h⟩
     . exact⟨true,L,0,x.s,0,true,_,h4,fun W=>Qpf HR HL0 (HV.er.ok x (List.mem_of_getElem? h1)).2.2.1 (d:=0) (by decide) W,(fun h=>by cases h),fun _=>⟨i,x,h1,h2,h3,rfl⟩⟩
    have HFR:=q9 hfr;have HND:=q9 hnd;have HCF:=q9 hcf;have HCT:=q9 hct;clear hfa hfr hnd hcf hct;obtain⟨y0,y1,y2,y3,y4,y5,y6,y7,y8,y9⟩:=HX.cells;have hlt:=HX.lt;go_wp2_with fail
    have Hd:=q9 HX.drew;have hrule:=LX.rule b V S T p
    refine wp_region_held_drew (S:=(fun W=>LtB W b V S T p)) (by kernel_rfl) ?_ (fun hHeld=>?_)
    . exact Hd.q
    refine q9N 0 rfl ?_
    refine q9N 1 rfl ?_
    refine q9N 2 rfl ?_
    refine q9N 3 rfl ?_
    refine q9N 4 rfl ?_
    refine q9N 5 rfl ?_
    refine q9N 6 rfl ?_
    refine q9N 7 rfl ?_
    refine q9N 8 rfl ?_
    refine q9N 9 rfl ?_
    refine wpAnyH_ready (rs:=[10,15]) (by kernel_rfl) (by simp) ?_
    refine AllReadyH.cons rfl (fun K hK=>?_) ?_
    rotate_left
    . refine AllReadyH.cons rfl (fun K hK=>?_) ?_
      rotate_left
      . exact AllReadyH.nil
      go_simp
      refine hK.out _ _ ?_ (fun hHeld=>?_)
      . (try dsimp only);exact(HX.below ((Below.refl _ _).alloc (Nat.le_refl _) (.cells #[.bool false,I 0,I 0,I 0,I 0] 94))).drew.q
      clear hK K;try simp only[Act.put,q98]
      refine q9R 10 rfl fun K hK=>?_
      go_simp
      (refine(QgA (xI:=((rt:Nat):Int)) (HX.below ((Below.refl _ _).alloc (Nat.le_refl _) (.cells #[.bool false,I 0,I 0,I 0,I 0] 94))).drew.a HTS.out (k:=1) (kI:=1) (by decide) hm9 (by rw[HRT.out]) rfl).mono ?_;rintro e w10 ⟨rfl,A10,O10⟩;rw[HFR.out];have H10:=q9 ((HX.below ((Below.refl _ _).alloc (Nat.le_refl _) (.cells #[.bool false,I 0,I 0,I 0,I 0] 94))).drew.next A10 O10);have HR10:Hid (Blk w10 wr.heap.size 94 #[.bool false,I 0,I 0,I 0,I 0]):=q9 (Blk.ta (Blk.new wr 94 #[.bool false,I 0,I 0,I 0,I 0]).drew (HX.below ((Below.refl _ _).alloc (Nat.le_refl _) (.cells #[.bool false,I 0,I 0,I 0,I 0] 94))).drew.a O10 (by decide) (by decide));clear A10 O10)
      go_wp2_with fail
      refine hK.out _ _ ?_ (fun hHeld=>?_)
      . (try dsimp only);exact H10.q
      clear hK K;try simp only[Act.put,q98]
      refine q9R 11 rfl fun K hK=>?_
      go_simp
      (refine(HND.out _).mono ?_;rintro e w11 ⟨rfl,B11⟩;have H11:=q9 (H10.below B11);have HR11:=q9 (Blk.below HR10.out B11 (Blk.lt HR10.out));clear B11)
      go_wp2_with fail
      refine hK.out _ _ ?_ (fun hHeld=>?_)
      . (try dsimp only);exact H11.q
      clear hK K;try simp only[Act.put,q98]
      refine q9N 12 rfl ?_
      refine q9N 13 rfl ?_
      refine q9N 14 rfl ?_
      refine q9R 16 rfl fun K hK=>?_
      have hge:w.heap.size<=wr.heap.size:=HX.o.size;have HF9:=q9 (Qfr (y0:=.bool aB) (y1:=I lI) (y2:=I vI) (y3:=I sI) (y4:=I dI) H11.out HR11.out hge);have k0:=HR11.cell 0;have k1:=HR11.cell 1;have k2:=HR11.cell 2;have k3:=HR11.cell 3;have k4:=HR11.cell 4;have f0:=HR11.frozen 0;have f1:=HR11.frozen 1;have f2:=HR11.frozen 2;have f3:=HR11.frozen 3;have f4:=HR11.frozen 4;have klt:=HR11.lt
      go_simp
      refine hK.out _ _ ?_ (fun hHeld=>?_)
      . (try dsimp only);exact HF9.1.q
      clear hK K;try simp only[Act.put,q98]
      refine q9N 17 rfl ?_
      refine wpAnyH_done (by kernel_rfl) ?_ _
      clear k0 k1 k2 k3 k4 f0 f1 f2 f3 f4 klt hge HR11 HR10;generalize h9:World.setCell (World.setCell (World.setCell (World.setCell (World.setCell _ _ _) _ _) _ _) _ _) _ _=W9 at HF9 |-;clear h9;generalize hb9:wr.heap.size=r9 at HF9 |-;clear Hd H10 H11 y0 y1 y2 y3 y4 y5 y6 y7 y8 y9 hlt hrule hb9;have HX9:=q9 HF9.1;have HN9:=q9 HF9.2;clear HF9;obtain⟨y0,y1,y2,y3,y4,y5,y6,y7,y8,y9⟩:=HX9.cells;have hlt:=HX9.lt;have n0:=HN9.cell 0;have n3:=HN9.cell 3;have nlt:=HN9.lt
      cases aB
      . go_wp2_with fail
        (try simp only[Exit.inBlock,Exit.then]);refine bodyPost_ret (results_none rfl _ _ _) rfl ?_
        exact⟨rfl,f1,mk1,ts1,HX9.a.more (by have:=HS9.out;omega),bs1,HV.out,HU.out,HCF.out (by trivial),HX9.o⟩
      . obtain⟨i9,x9,hi9,h09,hp9,e9⟩:=HCT.out (by trivial)
        subst e9;have HI9:=q9 (And.intro hi9 (And.intro h09 hp9));clear hi9 h09 hp9;go_wp2_with fail
        refine(Qiy HX9.a HV.out HI9.1 HI9.2.2.1 (by rw[HI9.2.2.2.1];exact HL1.out) (by have:=HS9.out;omega)).mono ?_;rintro e w12 ⟨f2,mk2,ts2,rfl,A12,V12,K12,O12⟩
        have HX12:=q9 (HX9.next A12 O12)
        have HRel:Hid (Qoy w b V S T p gb cap (m+nN V S) bs q t L v (I ((k:Int)+1)) w12):=q9 ⟨k+1,f2,mk2,ts2,_,by omega,by simp,by rw[HM2.out];exact HX12.more (by omega),V12,HU.set HI9.1 HI9.2.1 HI9.2.2,K12 t HTS.out (by rw[HI9.2.2.2.1];exact HLT),by
         have h1:=Qow (x':={ x9 with l:=x9.l+1 }) (p:=pB13 bs L v) HI9.1 (QoW HI9.2.2) (Qpq (fun h:PT13 bs L v { x9 with l:=x9.l+1 }=>by have h2:x9.l+1=L:=h.2.1;have h3:=HI9.2.2.2.1;omega))
         have h2:=HLF.out;omega⟩
        clear HX9 HN9 HX12 A12 V12 K12 O12 HV HU HI9 HTS n0 n3 nlt y0 y1 y2 y3 y4 y5 y6 y7 y8 y9 hlt HCT HCF HND;go_wp2_with fail
        go_roundw
        case rel=>exact HRel.out
        case measure=>simp [intOf];omega
    go_simp
    (refine(QgA (xI:=((rt:Nat):Int)) Hd.a HTS.out (k:=1) (kI:=1) (by decide) hm9 (by rw[HRT.out]) rfl).mono ?_;rintro e w10 ⟨rfl,A10,O10⟩;rw[HFR.out];have H10:=q9 (Hd.next A10 O10);clear A10 O10)
    go_wp2_with fail
    refine hK.out _ _ ?_ (fun hHeld=>?_)
    . (try dsimp only);exact H10.q
    clear hK K;try simp only[Act.put,q98]
    refine wpAnyH_ready (rs:=[11,15]) (by kernel_rfl) (by simp) ?_
    refine AllReadyH.cons rfl (fun K hK=>?_) ?_
    rotate_left
    . refine AllReadyH.cons rfl (fun K hK=>?_) ?_
      rotate_left
      . exact AllReadyH.nil
      go_simp
      refine hK.out _ _ ?_ (fun hHeld=>?_)
      . (try dsimp only);exact(H10.below ((Below.refl _ _).alloc (Nat.le_refl _) (.cells #[.bool false,I 0,I 0,I 0,I 0] 94))).q
      clear hK K;try simp only[Act.put,q98]
      refine q9R 11 rfl fun K hK=>?_
      go_simp
      (refine(HND.out _).mono ?_;rintro e w11 ⟨rfl,B11⟩;have H11:=q9 ((H10.below ((Below.refl _ _).alloc (Nat.le_refl _) (.cells #[.bool false,I 0,I 0,I 0,I 0] 94))).below B11);have HR11:Hid (Blk w11 w10.heap.size 94 #[.bool false,I 0,I 0,I 0,I 0]):=q9 (Blk.below (Blk.new w10 94 #[.bool false,I 0,I 0,I 0,I 0]) B11 (Blk.lt (Blk.new w10 94 #[.bool false,I 0,I 0,I 0,I 0])));clear B11)
      go_wp2_with fail
      refine hK.out _ _ ?_ (fun hHeld=>?_)
      . (try dsimp only);exact H11.q
      clear hK K;try simp only[Act.put,q98]
      refine q9N 12 rfl ?_
      refine q9N 13 rfl ?_
      refine q9N 14 rfl ?_
      refine q9R 16 rfl fun K hK=>?_
      have hge:w.heap.size<=w10.heap.size:=H10.o.size;have HF9:=q9 (Qfr (y0:=.bool aB) (y1:=I lI) (y2:=I vI) (y3:=I sI) (y4:=I dI) H11.out HR11.out hge);have k0:=HR11.cell 0;have k1:=HR11.cell 1;have k2:=HR11.cell 2;have k3:=HR11.cell 3;have k4:=HR11.cell 4;have f0:=HR11.frozen 0;have f1:=HR11.frozen 1;have f2:=HR11.frozen 2;have f3:=HR11.frozen 3;have f4:=HR11.frozen 4;have klt:=HR11.lt
      go_simp
      refine hK.out _ _ ?_ (fun hHeld=>?_)
      . (try dsimp only);exact HF9.1.q
      clear hK K;try simp only[Act.put,q98]
      refine q9N 17 rfl ?_
      refine wpAnyH_done (by kernel_rfl) ?_ _
      clear k0 k1 k2 k3 k4 f0 f1 f2 f3 f4 klt hge HR11;generalize h9:World.setCell (World.setCell (World.setCell (World.setCell (World.setCell _ _ _) _ _) _ _) _ _) _ _=W9 at HF9 |-;clear h9;generalize hb9:w10.heap.size=r9 at HF9 |-;clear Hd H10 H11 y0 y1 y2 y3 y4 y5 y6 y7 y8 y9 hlt hrule hb9;have HX9:=q9 HF9.1;have HN9:=q9 HF9.2;clear HF9;obtain⟨y0,y1,y2,y3,y4,y5,y6,y7,y8,y9⟩:=HX9.cells;have hlt:=HX9.lt;have n0:=HN9.cell 0;have n3:=HN9.cell 3;have nlt:=HN9.lt
      cases aB
      . go_wp2_with fail
        (try simp only[Exit.inBlock,Exit.then]);refine bodyPost_ret (results_none rfl _ _ _) rfl ?_
        exact⟨rfl,f1,mk1,ts1,HX9.a.more (by have:=HS9.out;omega),bs1,HV.out,HU.out,HCF.out (by trivial),HX9.o⟩
      . obtain⟨i9,x9,hi9,h09,hp9,e9⟩:=HCT.out (by trivial)
        subst e9;have HI9:=q9 (And.intro hi9 (And.intro h09 hp9));clear hi9 h09 hp9;go_wp2_with fail
        refine(Qiy HX9.a HV.out HI9.1 HI9.2.2.1 (by rw[HI9.2.2.2.1];exact HL1.out) (by have:=HS9.out;omega)).mono ?_;rintro e w12 ⟨f2,mk2,ts2,rfl,A12,V12,K12,O12⟩
        have HX12:=q9 (HX9.next A12 O12)
        have HRel:Hid (Qoy w b V S T p gb cap (m+nN V S) bs q t L v (I ((k:Int)+1)) w12):=q9 ⟨k+1,f2,mk2,ts2,_,by omega,by simp,by rw[HM2.out];exact HX12.more (by omega),V12,HU.set HI9.1 HI9.2.1 HI9.2.2,K12 t HTS.out (by rw[HI9.2.2.2.1];exact HLT),by
         have h1:=Qow (x':={ x9 with l:=x9.l+1 }) (p:=pB13 bs L v) HI9.1 (QoW HI9.2.2) (Qpq (fun h:PT13 bs L v { x9 with l:=x9.l+1 }=>by have h2:x9.l+1=L:=h.2.1;have h3:=HI9.2.2.2.1;omega))
         have h2:=HLF.out;omega⟩
        clear HX9 HN9 HX12 A12 V12 K12 O12 HV HU HI9 HTS n0 n3 nlt y0 y1 y2 y3 y4 y5 y6 y7 y8 y9 hlt HCT HCF HND;go_wp2_with fail
        go_roundw
        case rel=>exact HRel.out
        case measure=>simp [intOf];omega
    go_simp
    (refine(HND.out _).mono ?_;rintro e w11 ⟨rfl,B11⟩;have H11:=q9 (H10.below B11);clear B11)
    go_wp2_with fail
    refine hK.out _ _ ?_ (fun hHeld=>?_)
    . (try dsimp only);exact H11.q
    clear hK K;try simp only[Act.put,q98]
    refine q9N 12 rfl ?_
    refine q9N 13 rfl ?_
    refine q9N 14 rfl ?_
    refine q9R 15 rfl fun K hK=>?_
    go_simp
    refine hK.out _ _ ?_ (fun hHeld=>?_)
    . (try dsimp only);exact(H11.below ((Below.refl _ _).alloc (Nat.le_refl _) (.cells #[.bool false,I 0,I 0,I 0,I 0] 94))).q
    clear hK K;try simp only[Act.put,q98]
    refine q9R 16 rfl fun K hK=>?_
    have HF9:=q9 (And.intro (H11.below ((Below.refl _ _).alloc (Nat.le_refl _) (.cells #[.bool aB,I lI,I vI,I sI,I dI] 94))) (Blk.new w11 94 #[.bool aB,I lI,I vI,I sI,I dI]));have klt:w11.heap.size<w11.heap.size+1:=Nat.lt_succ_self _
    go_simp
    refine hK.out _ _ ?_ (fun hHeld=>?_)
    . (try dsimp only);exact HF9.1.q
    clear hK K;try simp only[Act.put,q98]
    refine q9N 17 rfl ?_
    refine wpAnyH_done (by kernel_rfl) ?_ _
    clear klt;generalize hb9:w11.heap.size=r9 at HF9 |-;generalize w11.alloc (.cells #[.bool aB,I lI,I vI,I sI,I dI] 94)=W9 at HF9 |-;clear Hd H10 H11 y0 y1 y2 y3 y4 y5 y6 y7 y8 y9 hlt hrule hb9;have HX9:=q9 HF9.1;have HN9:=q9 HF9.2;clear HF9;obtain⟨y0,y1,y2,y3,y4,y5,y6,y7,y8,y9⟩:=HX9.cells;have hlt:=HX9.lt;have n0:=HN9.cell 0;have n3:=HN9.cell 3;have nlt:=HN9.lt
    cases aB
    . go_wp2_with fail
      (try simp only[Exit.inBlock,Exit.then]);refine bodyPost_ret (results_none rfl _ _ _) rfl ?_
      exact⟨rfl,f1,mk1,ts1,HX9.a.more (by have:=HS9.out;omega),bs1,HV.out,HU.out,HCF.out (by trivial),HX9.o⟩
    . obtain⟨i9,x9,hi9,h09,hp9,e9⟩:=HCT.out (by trivial)
      subst e9;have HI9:=q9 (And.intro hi9 (And.intro h09 hp9));clear hi9 h09 hp9;go_wp2_with fail
      refine(Qiy HX9.a HV.out HI9.1 HI9.2.2.1 (by rw[HI9.2.2.2.1];exact HL1.out) (by have:=HS9.out;omega)).mono ?_;rintro e w12 ⟨f2,mk2,ts2,rfl,A12,V12,K12,O12⟩
      have HX12:=q9 (HX9.next A12 O12)
      have HRel:Hid (Qoy w b V S T p gb cap (m+nN V S) bs q t L v (I ((k:Int)+1)) w12):=q9 ⟨k+1,f2,mk2,ts2,_,by omega,by simp,by rw[HM2.out];exact HX12.more (by omega),V12,HU.set HI9.1 HI9.2.1 HI9.2.2,K12 t HTS.out (by rw[HI9.2.2.2.1];exact HLT),by
       have h1:=Qow (x':={ x9 with l:=x9.l+1 }) (p:=pB13 bs L v) HI9.1 (QoW HI9.2.2) (Qpq (fun h:PT13 bs L v { x9 with l:=x9.l+1 }=>by have h2:x9.l+1=L:=h.2.1;have h3:=HI9.2.2.2.1;omega))
       have h2:=HLF.out;omega⟩
      clear HX9 HN9 HX12 A12 V12 K12 O12 HV HU HI9 HTS n0 n3 nlt y0 y1 y2 y3 y4 y5 y6 y7 y8 y9 hlt HCT HCF HND;go_wp2_with fail
      go_roundw
      case rel=>exact HRel.out
      case measure=>simp [intOf];omega
  . have ek:(k:Int)=S:=by omega
    go_wp2_with fail
    go_end0
    exact⟨rfl,f1,mk1,ts1,HX.a.more (by have:=HS9.out;omega),bs1,HV.out,HU.out,(fun x hx hp=>by
     have h0:=HLF.out
     have h1:=QoX (p:=pB13 bs L v) (by omega) hx
     rw[QoW hp] at h1;cases h1),HX.o⟩
end
section
variable {w w' w0 w1 W:World}{zb base q p gb cap m m':Nat}{V S T kd s u v:Int}{da oa:Option Addr}{dl dc ol oc:Nat}{f f':Nat->Int}{mk mk':Nat->Nat}{ts ts':List Tp}{vl vl':Value}{ls ls':List E1}{qq qq':Nat->Nat->List Nat}{fd:Nat->Nat}
def Lp13 (w:World)(zb:Nat)(V S T:Int)(da:Option Addr)(dl dc:Nat)(oa:Option Addr)(ol oc:Nat)(base q p gb cap:Nat)(i:Value)(W:World):Prop:=
 ∃ k f mk ts vl ls qq,k<=ol/\i=I ((k:Nat):Int)/\LwX w W zb V S T da dl dc oa ol oc base q p gb cap (660+14680*k) f mk ts vl ls qq
end
section
variable {w w' w0 W:World}{zb base q p gb cap m m' i g c:Nat}{V S T:Int}{da oa:Option Addr}{dl dc ol oc:Nat}{f f':Nat->Int}{mk mk':Nat->Nat}{ts ts':List Tp}{vl:Value}{ls ls':List E1}{qq qq':Nat->Nat->List Nat}{x:E1}
theorem PW13.turned (h:PW13 w base q V S T p gb cap m f mk ts (I3 (I1 g 0) ls.length c) ls)(hi:ls[i]?=some x)(k:Nat):PW13 (w.setCell (I1 g (i*5+3)) (I ((k:Nat):Int))) base q V S T p gb cap m f mk ts (I3 (I1 g 0) ls.length c) (ls.set i { x with l:=k }):=by
 obtain⟨g9,c9,e,hg,zs,hz⟩:∃ g9 c9,(Value.slice (some (I1 g 0)) ls.length c)=I3 (I1 g9 0) ls.length c9/\base<=g9/\∃ zs,Blk w g9 56 zs:=by
  rcases h.ew.shape with ⟨e,_⟩|⟨g',c',cs,e,hg,hz,_⟩
  . cases e
  . exact⟨g',c',e,hg,cs,hz⟩
 injection e with e _ _;injection e with e;injection e with e _ _;subst e
 exact⟨Blk.far (p:=(I1 g (i*5+3))) h.pq (Blk.ne_ h.pq hz (by decide)) _,h.ta.far hz (by decide) (by decide) _,h.ew.turned hi (by decide) rfl,h.bq,h.bp,h.bg⟩
theorem PW13.gbase (h:PW13 w base q V S T p gb cap m f mk ts (I3 (I1 g 0) ls.length c) ls):base<=g/\∃ zs,Blk w g 56 zs:=by
 rcases h.ew.shape with ⟨e,_⟩|⟨g',c',cs,e,hg,hz,_⟩
 . cases e
 . injection e with e _ _
   injection e with e;injection e with e _ _;subst e;exact⟨hg,cs,hz⟩
structure LwY (w W:World)(zb:Nat)(V S T:Int)(da:Option Addr)(dl dc:Nat)(oa:Option Addr)(ol oc:Nat)(base q p gb cap m:Nat)(f:Nat->Int)(mk:Nat->Nat)(ts:List Tp)(vl:Value)(ls ls':List E1)(qq:Nat->Nat->List Nat):Prop where
 z:Blk W zb 27 #[I V,I S,I T,.slice da dl dc,.slice oa ol oc]
 be:Below w.heap.size w W
 pw:PW13 W base q V S T p gb cap m f mk ts vl ls
 lg:LG V S T f mk ts ls' qq
 bs:w.heap.size<=base
theorem LwX.y (h:LwX w W zb V S T da dl dc oa ol oc base q p gb cap m f mk ts vl ls qq):LwY w W zb V S T da dl dc oa ol oc base q p gb cap m f mk ts vl ls ls qq:=⟨h.z,h.be,h.pw,h.lg,h.bs⟩
theorem LwY.done (h:LwY w W zb V S T da dl dc oa ol oc base q p gb cap m f mk ts vl ls ls qq):LwX w W zb V S T da dl dc oa ol oc base q p gb cap m f mk ts vl ls qq:=⟨h.z,h.be,h.pw,h.lg,h.bs⟩
theorem LwY.next {ls2:List E1}(h:LwY w W zb V S T da dl dc oa ol oc base q p gb cap m f mk ts vl ls ls' qq)(A:TA w' V S T p gb cap m' f' mk' ts')(O:Only p gb W w')(hG:LG V S T f' mk' ts' ls2 qq'):LwY w w' zb V S T da dl dc oa ol oc base q p gb cap m' f' mk' ts' vl ls ls2 qq':=by
 have hX:=(PX13.start h.pw).next A O;exact⟨hX.kb _ _ _ h.z Qkp,h.be.trans (hX.be.mono h.bs),hX.pw,hG,h.bs⟩
theorem LwY.more (h:LwY w W zb V S T da dl dc oa ol oc base q p gb cap m f mk ts vl ls ls' qq)(hm:m<=m'):LwY w W zb V S T da dl dc oa ol oc base q p gb cap m' f mk ts vl ls ls' qq:=⟨h.z,h.be,h.pw.more hm,h.lg,h.bs⟩
theorem LwY.up (h:LwY w W zb V S T da dl dc oa ol oc base q p gb cap m f mk ts (I3 (I1 g 0) ls.length c) ls ls' qq)(hi:ls[i]?=some x)(k:Nat):LwY w (W.setCell (I1 g (i*5+3)) (I ((k:Nat):Int))) zb V S T da dl dc oa ol oc base q p gb cap m f mk ts (I3 (I1 g 0) (ls.set i { x with l:=k }).length c) (ls.set i { x with l:=k }) ls' qq:=by
 obtain⟨hg,zs,hz⟩:=h.pw.gbase;have hp:=h.pw.turned hi k;rw[List.length_set]
 exact⟨Blk.far (p:=(I1 g (i*5+3))) h.z (Blk.ne_ h.z hz (by decide)) _,h.be.setCell (p:=(I1 g (i*5+3))) (Nat.le_trans h.bs hg) _,hp,h.lg,h.bs⟩
theorem LwY.far {n:Nat}{tl:List Nat}{v:Value}{u:Value}(h:LwY w W zb V S T da dl dc oa ol oc base q p gb cap m f mk ts (I3 (I1 g 0) ls.length c) ls ls' qq)(hL:LI W v tl)(hb:∀ b,bk v=some b->∃ cs,Blk W b 3 cs):LI (W.setCell (I1 g n) u) v tl:=by
 obtain⟨_,zs,hz⟩:=h.pw.gbase
 exact hL.set13 (fun b hb'=>by obtain⟨cs,hc⟩:=hb b hb';exact Blk.ne_ hc hz (by decide)) n u
end
def T1 (x:E1):E1:={ x with l:=x.l+1 }
section
variable {bs bs' ls:List E1}{P:E1->Prop}{i k:Nat}{x:E1}{l:List Nat}
open Classical in
noncomputable def upL (bs:List E1)(P:E1->Prop)(k:Nat):List Nat:=(List.range k).filter fun i=>decide (∃ x,bs[i]?=some x/\P x)
theorem upL_yes (h:bs[k]?=some x)(hp:P x):upL bs P (k+1)=upL bs P k++[k]:=by
 classical
 unfold upL
 rw[List.range_succ,List.filter_append,List.filter_cons_of_pos (by simpa using ⟨x,h,hp⟩)]
 rfl
theorem upL_no (h:bs[k]?=some x)(hp:¬ P x):upL bs P (k+1)=upL bs P k:=by
 classical
 unfold upL
 rw[List.range_succ,List.filter_append,List.filter_cons_of_neg (by
  rw[decide_eq_true_eq];rintro⟨y,hy,hq⟩;rw[h] at hy;injection hy with hy;exact hp (hy ▸ hq)),List.filter_nil,List.append_nil]
theorem upL_len:(upL bs P k).length<=k:=by
 classical
 unfold upL
 exact Nat.le_trans (List.length_filter_le _ _) (by rw[List.length_range];exact Nat.le_refl _)
theorem upL_mem:i∈upL bs P k↔i<k/\∃ x,bs[i]?=some x/\P x:=by
 classical
 unfold upL;rw[List.mem_filter,List.mem_range,decide_eq_true_eq]
theorem upL_nodup:(upL bs P k).Nodup:=by
 classical
 unfold upL;exact List.nodup_range.filter _
def upped (l:List Nat)(bs:List E1):List E1:=bs.mapIdx fun i x=>if i∈l then T1 x else x
theorem upped_at (h:bs[i]?=some x):(upped l bs)[i]?=some (if i∈l then T1 x else x):=by
 unfold upped;rw[List.getElem?_mapIdx,h];rfl
theorem upped_len:(upped l bs).length=bs.length:=by unfold upped;rw[List.length_mapIdx]
theorem upped_nil:upped [] bs=bs:=by
 refine List.ext_getElem? fun i=>?_
 cases h:bs[i]? with
 |none=>exact List.getElem?_eq_none_iff.2 (by rw[upped_len];exact List.getElem?_eq_none_iff.1 h)
 |some x=>rw[upped_at h];simp
theorem upped_next (h:bs[i]?=some x):(upped l bs).set i (T1 x)=upped (l++[i]) bs:=by
 refine List.ext_getElem? fun j=>?_
 rw[List.getElem?_set]
 cases hj:bs[j]? with
 |none=>
  have h1:=List.getElem?_eq_none_iff.1 hj;have h2:=(List.getElem?_eq_some_iff.1 h).1
  rw[if_neg (by omega),List.getElem?_eq_none_iff.2 (by rw[upped_len];exact h1),List.getElem?_eq_none_iff.2 (by rw[upped_len];exact h1)]
 |some y=>
  by_cases e:i=j
  . subst e
    rw[h] at hj;injection hj with hj;subst hj
    rw[if_pos rfl,if_pos (by rw[upped_len];exact(List.getElem?_eq_some_iff.1 h).1),upped_at h,if_pos (by simp)]
  . rw[if_neg e,upped_at hj,upped_at hj]
    simp [Ne.symm e]
theorem upped_is (hU:Up bs bs' P)(hn:∀ x∈bs',¬ P x):upped (upL bs P bs.length) bs=bs':=by
 refine List.ext_getElem? fun i=>?_
 cases h:bs[i]? with
 |none=>rw[List.getElem?_eq_none_iff.2 (by rw[upped_len];exact List.getElem?_eq_none_iff.1 h),List.getElem?_eq_none_iff.2 (by rw[hU.len];exact List.getElem?_eq_none_iff.1 h)]
 |some x=>
  rw[upped_at h];have hi:=(List.getElem?_eq_some_iff.1 h).1
  by_cases hp:P x
  . rw[if_pos (upL_mem.2 ⟨hi,x,h,hp⟩)]
    rcases hU.st i x h with h1|⟨_,h1⟩
    . exact absurd hp (hn x (List.mem_of_getElem? h1))
    . exact h1.symm
  . rw[if_neg fun hm=>by
     obtain⟨_,y,hy,hq⟩:=upL_mem.1 hm;rw[h] at hy;injection hy with hy;exact hp (hy ▸ hq)]
    rcases hU.st i x h with h1|⟨h1,_⟩
    . exact h1.symm
    . exact absurd h1 hp
end
section
variable {V S T v li:Int}{da oa:Option Addr}{dl dc ol oc:Nat}{fd:Nat->Nat}{fo:Nat->O13}
def KT9 (w1:World)(ls:List E1)(P:E1->Prop)(a i:Value)(W:World):Prop:=∃ k,k<=ls.length/\i=I ((k:Nat):Int)/\RI W w1.heap.size a (upL ls P k)/\Below w1.heap.size w1 W
theorem nodup_take {U:List Nat}{i j:Nat}(h:U.Nodup)(hi:U[j]?=some i):i∉U.take j:=fun hm=>by
 obtain⟨j',hj⟩:=List.mem_iff_getElem?.1 hm;rw[List.getElem?_take] at hj
 split at hj
 . have:=(List.getElem?_inj (List.getElem?_eq_some_iff.1 hj).1 h).1 (hj.trans hi.symm)
   omega
 . cases hj
def KU9 (w:World)(zb:Nat)(V S T:Int)(da:Option Addr)(dl dc:Nat)(oa:Option Addr)(ol oc base q p gb cap m:Nat)(f:Nat->Int)(mk:Nat->Nat)(ts:List Tp)(vl:Value)(ls ls':List E1)(qq:Nat->Nat->List Nat)(U:List Nat)(u i:Value)(W:World):Prop:=
 ∃ j,j<=U.length/\i=I ((j:Nat):Int)/\LwY w W zb V S T da dl dc oa ol oc base q p gb cap m f mk ts vl (upped (U.take j) ls) ls' qq/\LI W u U
set_option maxHeartbeats 16000000 in
theorem ltrees13 (w:World)(hD:QfW w da dl fd)(hO:Qmx w oa ol fo):
 Calls Tryz.prog 4 #[vC13 V S T da dl dc oa ol oc,I li,I v] w fun e w'=>e=.returned (.bool true)/\Below w.heap.size w w':=by
 have HO:=q9 hO;have HD:=q9 hD;clear hO hD;have HB1:Hid (Below w.heap.size w (w.alloc (.cells #[I V,I S,I T,.slice da dl dc,.slice oa ol oc] 27))):=q9 ((Below.refl _ _).alloc (Nat.le_refl _) _);have HZ1:Hid (Blk (w.alloc (.cells #[I V,I S,I T,.slice da dl dc,.slice oa ol oc] 27)) w.heap.size 27 #[I V,I S,I T,.slice da dl dc,.slice oa ol oc]):=q9 (Blk.new _ _ _)
 go_enter Tryz.func4,Tryz.ntmps4
 go_upto_region 1 with fail
 generalize (w.alloc (.cells #[I V,I S,I T,.slice da dl dc,.slice oa ol oc] 27))=W1 at HB1 HZ1 |-;generalize w.heap.size=zb at HZ1 |-;have z0:=HZ1.cell 0;have z1:=HZ1.cell 1;have z2:=HZ1.cell 2;have z3:=HZ1.cell 3;have z4:=HZ1.cell 4;have zlt:=HZ1.lt;go_wp2_with fail
 refine(Qf3 V S T da dl dc oa ol oc _).mono ?_;rintro e w2 ⟨rfl,hb2⟩;have HB2:=q9 (HB1.trans (hb2.mono HB1.size));have HZ2:=q9 (HZ1.below hb2 HZ1.lt);clear HB1 HZ1 hb2 z0 z1 z2 z3 z4 zlt
 cases hr:Qd4 V S T dl ol
 . go_wp2_with fail
   refine(QdT _).mono ?_;rintro e w3 ⟨rfl,hb3⟩;have HB3:=q9 (HB2.trans (hb3.mono HB2.size));go_wp2_with fail
   go_ret;exact⟨rfl,HB3⟩
 have HG:=q9 (Qif hr);clear hr;have z0:=HZ2.cell 0;have z1:=HZ2.cell 1;have z2:=HZ2.cell 2;have z3:=HZ2.cell 3;have z4:=HZ2.cell 4;have zlt:=HZ2.lt
 by_cases b0:v<0
 . go_wp2_with fail
   refine(QdT _).mono ?_;rintro e w3 ⟨rfl,hb3⟩;have HB3:=q9 (HB2.trans (hb3.mono HB2.size));go_wp2_with fail
   go_ret;exact⟨rfl,HB3⟩
 by_cases b1:V<=v
 . go_wp2_with fail
   refine(QdT _).mono ?_;rintro e w3 ⟨rfl,hb3⟩;have HB3:=q9 (HB2.trans (hb3.mono HB2.size));go_wp2_with fail
   go_ret;exact⟨rfl,HB3⟩
 obtain⟨v,rfl⟩:∃ n:Nat,v=(n:Int):=⟨v.toNat,by omega⟩
 have HVV:Hid ((v:Int)<V):=q9 (by omega)
 go_wp2_with fail
 refine(QjB HG HD HZ2 HB2).mono ?_;rintro e w3 ⟨base,q,p,gb,cap,f0,mk0,ts0,vl0,rfl,_,hL⟩;have HRel:Hid (Lp13 w zb V S T da dl dc oa ol oc base q p gb cap (I 0) w3):=q9 ⟨0,_,_,_,_,_,_,Nat.zero_le _,rfl,hL⟩;clear z0 z1 z2 z3 z4 zlt HZ2 HB2;have z4:=hL.z.cell 4;have zlt:=hL.z.lt;clear hL
 have holI:(ol:Int)<=40:=by have:=HG.o;omega
 go_wp2_with fail
 go_loopw [37] (fun i wr=>Lp13 w zb V S T da dl dc oa ol oc base q p gb cap i wr) (fun i _=>ol-(intOf i).toNat)
 case atStart=>exact HRel.out
 case round=>
  clear HRel z4 zlt;obtain⟨k,f,mk,ts,vl,ls,qq,hk,rfl,hL⟩:=hrel;have HL:=q9 hL;clear hL
  by_cases hkl:k<ol
  . as_aux_lemma=>
    obtain⟨ob,off,rfl,hcell⟩:=HO.out (by omega)
    have hc:=hcell k hkl;obtain⟨o,ho⟩:∃ o,fo k=o:=⟨_,rfl⟩;rw[ho] at hc;obtain⟨kd,s9,u9,v9⟩:=o;have c0:=Qi HL.be hc.1;have c1:=Qi HL.be hc.2.1;have c2:=Qi HL.be hc.2.2.1;have c3:=Qi HL.be hc.2.2.2
    have hkI:(k:Int)<(ol:Int):=by omega
    have hk0:(0:Int)<=(k:Int):=by omega
    have HLa:=q9 (HL.alloc (.cells #[I kd,I s9,I u9,I v9] 33));clear hc ho hcell HL;go_wp2_with fail
    refine(Qln HLa HG (by omega)).mono ?_
    rintro e w5 ⟨rfl,f',mk',ts',vl',ls',qq',hL5⟩
    have HL5:=q9 (hL5.more (m':=660+14680*(k+1)) (by omega))
    clear hL5 HLa c0 c1 c2 c3;go_wp2_with fail
    go_roundw
    case rel=>exact⟨k+1,f',mk',ts',vl',ls',qq',hkl,by simp,HL5.out⟩
    case measure=>simp [intOf];omega
  . have ek:ol=k:=by omega
    subst ek
    have hkI:¬ (ol:Int)<(ol:Int):=by omega
    clear hk hkl
    as_aux_lemma=>
    obtain⟨M9,hM9⟩:∃ M,660+14680*ol=M:=⟨_,rfl⟩
    have HM9:Hid (M9<=587860):=q9 (by have:=HG.o;omega)
    rw[hM9] at HL;clear hM9
    by_cases b4:li<0
    . go_wp2_with fail
      refine(QdT _).mono ?_;rintro e w3 ⟨rfl,hb3⟩;have HB3:=q9 (HL.be.trans (hb3.mono HL.be.size));go_wp2_with fail
      go_ret;exact⟨rfl,HB3⟩
    have z0:=HL.z.cell 0;have z1:=HL.z.cell 1;have z2:=HL.z.cell 2;have zlt:=HL.z.lt;have lb9:=QF V;go_wp2_with fail
    refine(QM V S T HG.r _).mono ?_;rintro e w9 ⟨rfl,hb9⟩;have HL9:=q9 (HL.below hb9);clear HL hb9 z0 z1 z2 zlt
    by_cases b5:lv V-1<=li
    . go_wp2_with fail
      refine(QdT _).mono ?_;rintro e w3 ⟨rfl,hb3⟩;have HB3:=q9 (HL9.be.trans (hb3.mono HL9.be.size));go_wp2_with fail
      go_ret;exact⟨rfl,HB3⟩
    obtain⟨L,rfl⟩:∃ n:Nat,li=(n:Int):=⟨li.toNat,by omega⟩
    have HLV:Hid (((L+1:Nat):Int)<lv V):=q9 (by omega)
    have L5:(L:Int)<=5:=by omega
    have L0:(0:Int)<=(L:Int):=by omega
    obtain⟨ga,gc,hge⟩:=HL9.pw.ew.slice;obtain⟨n,hn⟩:∃ n,ls.length=n:=⟨_,rfl⟩;have HN:=q9 hn;rw[hn] at hge;subst hge
    have n48:n<=1000:=by have:=HL9.len.2;omega
    have nI:(n:Int)<=1000:=by omega
    clear hn;obtain⟨y0,y1,y2,y3,y4,y5,y6,y7,y8,y9,y10,y11,y12,y13,y14⟩:=HL9.pw.pq.cells;have qlt:=HL9.pw.pq.lt;go_wp2_with fail
    clear y0 y1 y2 y3 y4 y5 y6 y7 y8 y9 y10 y11 y12 y13 y14 qlt b4 b5 lb9;have HREL:Hid (KT9 w9 ls (PT13 ls L v) (.slice none 0 0) (I 0) w9):=q9 ⟨0,Nat.zero_le _,rfl,RI.nil _ _,Below.refl _ _⟩
    go_loopw [10,61] (fun a i wr=>KT9 w9 ls (PT13 ls L v) a i wr) (fun _ i _=>n-(intOf i).toNat)
    case atStart=>exact HREL.out
    case round=>
     clear HREL;obtain⟨k,hk,rfl,hri,hb⟩:=hrel;have HB:=q9 hb;have HRI:=q9 hri;rw[HN.out] at hk;obtain⟨nv9,hnv9⟩:∃ n,(upL ls (PT13 ls L v) k).length=n:=⟨_,rfl⟩;obtain⟨av9,ac9,rfl,_⟩:=Qad hri.li hnv9
     have hnv:nv9<=k:=by rw[<-hnv9];exact upL_len
     have HNV:=q9 hnv9;clear hri hb hnv9
     by_cases hkn:k<n
     . as_aux_lemma=>
       obtain⟨x,hx⟩:∃ x,ls[k]?=some x:=⟨_,List.getElem?_eq_getElem (by have:=HN.out;omega)⟩
       have HXX:=q9 hx;obtain⟨gb9,cap9,e1,_,glt,gfr,g0,g1,g2,g3,g4⟩:=(HL9.pw.ew.below HB.out).at hx;injection e1 with e1 e2 e3;subst e1;have xk:=HL9.lg.er.ok x (List.mem_of_getElem? hx);have XL:=q9 xk
       have kI:(k:Int)<(n:Int):=by omega
       have k0:(0:Int)<=(k:Int):=by omega
       have HK1:Hid (k+1<=ls.length):=q9 (by have:=HN.out;omega)
       clear e2 e3 hx xk hk;go_upto_region 17 with fail
       have HXE:Hid (Blk (wr.alloc (.cells #[I (x.s:Int),I (x.u:Int),I (x.v:Int),I (x.l:Int),.bool x.t] 56)) wr.heap.size 56 #[I (x.s:Int),I (x.u:Int),I (x.v:Int),I (x.l:Int),.bool x.t]):=q9 (Blk.new _ _ _);have HBa:=q9 (HB.alloc HB.size (.cells #[I (x.s:Int),I (x.u:Int),I (x.v:Int),I (x.l:Int),.bool x.t] 56));have HRa:Hid (RI (wr.alloc (.cells #[I (x.s:Int),I (x.u:Int),I (x.v:Int),I (x.l:Int),.bool x.t] 56)) w9.heap.size (.slice av9 nv9 ac9) (upL ls (PT13 ls L v) k)):=q9 (World.ownsRow.alloc HRI.out _);have HLa:=q9 (HL9.below HBa.out);clear HB HRI g0 g1 g2 g3 g4 glt gfr;generalize wr.alloc (.cells #[I (x.s:Int),I (x.u:Int),I (x.v:Int),I (x.l:Int),.bool x.t] 56)=w6 at HXE HBa HRa HLa |-;generalize wr.heap.size=eb at HXE |-;have c1:=HXE.cell 1;have c3:=HXE.cell 3;have c4:=HXE.cell 4;have elt:=HXE.lt
       cases hxt:x.t
       . have HN5:Hid (KT9 w9 ls (PT13 ls L v) (.slice av9 nv9 ac9) (I ((k:Int)+1)) w6):=q9 ⟨k+1,HK1.out,by simp,by rw[upL_no HXX.out fun h=>by have h1:=h.1;rw[hxt] at h1;cases h1];exact HRa,HBa⟩
         rw[hxt] at c4;clear hxt;go_wp2_with fail
         go_roundw
         case rel=>exact HN5.out
         case measure=>simp [intOf];omega
       by_cases hxl:x.l=L
       rotate_left
       . have HN5:Hid (KT9 w9 ls (PT13 ls L v) (.slice av9 nv9 ac9) (I ((k:Int)+1)) w6):=q9 ⟨k+1,HK1.out,by simp,by rw[upL_no HXX.out fun h=>hxl h.2.1];exact HRa,HBa⟩
         have hne:((x.l:Int)==(L:Int))=false:=beq_eq_false_iff_ne.2 (by omega)
         rw[hxt] at c4;clear hxt hxl;go_wp2_with fail
         go_roundw
         case rel=>exact HN5.out
         case measure=>simp [intOf];omega
       have HXT:=q9 (And.intro hxt hxl);rw[hxt] at c4;rw[hxl] at c3;clear hxt hxl;obtain⟨y0,y1,y2,y3,y4,y5,y6,y7,y8,y9,y10,y11,y12,y13,y14⟩:=HLa.pw.pq.cells;have qlt:=HLa.pw.pq.lt;go_wp2_with fail
       refine(Qkv (L:=L) (u:=x.u) (v9:=v) HLa.pw.pq HLa.pw.ew HLa.len.2 (fun x hx=>⟨(HLa.lg.er.ok x hx).1,(HLa.lg.er.ok x hx).2.1⟩) (by have:=HG.v;omega) (by have:=XL.out;omega)).mono ?_
       rintro e w7 ⟨r,rfl,hr,b7⟩;have HR7:=q9 hr;have HB7:=q9 (HBa.trans (b7.mono HBa.size));have HRI7:=q9 (HRa.below b7);clear hr b7 y0 y1 y2 y3 y4 y5 y6 y7 y8 y9 y10 y11 y12 y13 y14 qlt c1 c3 c4 elt HXE HBa HRa HLa
       cases r
       . have HN5:Hid (KT9 w9 ls (PT13 ls L v) (.slice av9 nv9 ac9) (I ((k:Int)+1)) w7):=q9 ⟨k+1,HK1.out,by simp,by rw[upL_no HXX.out fun h=>by have:=HR7.2 h.2.2;cases this];exact HRI7,HB7⟩
         go_wp2_with fail
         go_roundw
         case rel=>exact HN5.out
         case measure=>simp [intOf];omega
       . have HU1:Hid (upL ls (PT13 ls L v) (k+1)=upL ls (PT13 ls L v) k++[k]):=q9 (upL_yes HXX.out ⟨HXT.1,HXT.2,HR7.1 rfl⟩)
         go_wp2_with (at_builtin;refine QfS (c:=k) w7 rfl _ _ rfl rfl HRI7.out rfl (by have:=HNV.out;omega) HB7.size ?_)
         intro v8 w8 hR8 hb8 _
         have HN5:Hid (KT9 w9 ls (PT13 ls L v) v8 (I ((k:Int)+1)) w8):=q9 ⟨k+1,HK1.out,by simp,by rw[HU1.out];exact hR8,HB7.trans hb8⟩
         clear hR8 hb8 HRI7 HB7;go_wp2_with fail
         go_roundw
         case rel=>exact HN5.out
         case measure=>simp [intOf];omega
     . as_aux_lemma=>
       have ek:n=k:=by omega
       subst ek
       have kN:¬ (n:Int)<(n:Int):=by omega
       have HLf:=q9 (HL9.below HB.out);clear hk hkn;obtain⟨y0,y1,y2,y3,y4,y5,y6,y7,y8,y9,y10,y11,y12,y13,y14⟩:=HLf.pw.pq.cells;have qlt:=HLf.pw.pq.lt;have n66:=nN66 HG.r HG.v HG.s
       have s8:S.toNat<=8:=by have:=HG.s;omega
       have HMU:Hid (S.toNat*(118*nN V S+52)<=62720/\(S.toNat+1)*(118*nN V S+52)<=70560/\nN V S<=66):=q9 ⟨Nat.mul_le_mul s8 (show 118*nN V S+52<=7840 by omega),Nat.mul_le_mul (show S.toNat+1<=9 by omega) (show 118*nN V S+52<=7840 by omega),n66⟩
       clear n66 s8;go_wp2_with fail
       refine(Qph (L:=L) (v:=v) HLf.pw.ta HLf.lg HLV.out HVV.out (by have:=HMU.out;have:=HM9.out;omega)).mono ?_
       rintro e w7 ⟨f',mk',ts',bs',rfl,A7,hG7,hU,hno,hO⟩;have HUI:=q9 (upped_is hU hno);have HLI:=q9 (HRI.li.ta HLf.pw.ta hO)
       have HY:=q9 ((HLf.y.next A7 hO hG7).more (m':=700000) (by have:=HMU.out;have:=HM9.out;omega))
       have HUm:Hid (∀ i∈upL ls (PT13 ls L v) n,i<n/\∃ x,ls[i]?=some x/\PT13 ls L v x):=q9 fun i hi=>upL_mem.1 hi
       have HUd:Hid (upL ls (PT13 ls L v) n).Nodup:=q9 upL_nodup;rw[HN.out] at HUI;clear A7 hG7 hU hno hO HRI HB HLf y0 y1 y2 y3 y4 y5 y6 y7 y8 y9 y10 y11 y12 y13 y14 qlt kN;generalize upL ls (PT13 ls L v) n=U at HUI HLI HUm HUd HNV
       have HREL:Hid (KU9 w zb V S T da dl dc oa ol oc base q p gb cap 700000 f' mk' ts' (.slice ga n gc) ls bs' qq U (.slice av9 nv9 ac9) (I 0) w7):=q9 ⟨0,Nat.zero_le _,rfl,by rw[List.take_zero,upped_nil];exact HY,HLI⟩
       clear HY HLI;go_wp2_with fail
       go_loopw [96] (fun i wr=>KU9 w zb V S T da dl dc oa ol oc base q p gb cap 700000 f' mk' ts' (.slice ga n gc) ls bs' qq U (.slice av9 nv9 ac9) i wr) (fun i _=>nv9-(intOf i).toNat)
       case atStart=>exact HREL.out
       case round=>
        clear HREL;obtain⟨j,hj,rfl,hy,hli⟩:=hrel;rw[HNV.out] at hj
        by_cases hjn:j<nv9
        . as_aux_lemma=>
          obtain⟨i,hi⟩:∃ i,U[j]?=some i:=⟨_,List.getElem?_eq_getElem (by have:=HNV.out;omega)⟩
          obtain⟨hin,x,hx,hp⟩:=HUm.out i (List.mem_of_getElem? hi)
          have hxu:(upped (U.take j) ls)[i]?=some x:=by rw[upped_at hx,if_neg (nodup_take HUd.out hi)]
          have hl:(upped (U.take j) ls).length=n:=by rw[upped_len];exact HN
          obtain⟨ub,off,e0,hc⟩:=hli.at hi;subst e0;obtain⟨gb9,cap9,e1,_,glt,gfr,g0,g1,g2,g3,g4⟩:=hy.pw.ew.at hxu;injection e1 with e1 e2 e3;subst e1;clear e2 e3;rw[hp.2.1] at g3
          have HN5:Hid (KU9 w zb V S T da dl dc oa ol oc base q p gb cap 700000 f' mk' ts' (I3 (I1 gb9 0) n gc) ls bs' qq U (I3 (I1 ub off) nv9 ac9) (I ((j:Int)+1)) (wr.setCell (I1 gb9 (i*5+3)) (I ((L:Int)+1)))):=q9 (by
           have hs:(upped (U.take j) ls).set i { x with l:=x.l+1 }=upped (U.take (j+1)) ls:=by rw[Qa5 hi];exact upped_next hx
           rw[<-hl] at hy;have h2:=hy.up hxu (x.l+1)
           have h3:=hy.far (n:=i*5+3) (u:=I ((x.l+1:Nat):Int)) hli fun b hb=>hli.blk13 hb
           rw[List.length_set,hl,hs] at h2;rw[hp.2.1] at h2 h3
           exact⟨j+1,by have:=HNV.out;omega,by simp,h2,h3⟩)
          obtain⟨y0,y1,y2,y3,y4,y5,y6,y7,y8,y9,y10,y11,y12,y13,y14⟩:=hy.pw.pq.cells;have qlt:=hy.pw.pq.lt
          have iI:(i:Int)<(n:Int):=by omega
          have i0:(0:Int)<=(i:Int):=by omega
          have jI:(j:Int)<(nv9:Int):=by omega
          have j0:(0:Int)<=(j:Int):=by omega
          clear hxu hl hx hp hi hy hli hin g0 g1 g2 g4 HUI HUm HUd HNV;go_wp2_with fail
          go_roundw
          case rel=>exact HN5.out
          case measure=>simp [intOf];omega
        . as_aux_lemma=>
          have ej:nv9=j:=by omega
          subst ej
          have jN:¬ (nv9:Int)<(nv9:Int):=by omega
          rw[List.take_of_length_le (by have:=HNV.out;omega),HUI.out] at hy
          have HD9:=q9 hy.done;clear hy hli hjn hj HUI HUm HUd HNV;go_wp2_with fail
          refine(QnO HD9 HG (by omega)).mono ?_
          rintro e w8 ⟨rfl,hL8⟩;have HB8:=q9 hL8.be;clear hL8 HD9;go_wp2_with fail
          refine(QdT _).mono ?_;rintro e w10 ⟨rfl,hb10⟩;have HB9:=q9 (HB8.trans (hb10.mono HB8.size));go_wp2_with fail
          go_ret;exact⟨rfl,HB9⟩
end
end Go.Proofs.YtaooglagddphnaaGreat
