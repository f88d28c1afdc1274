/- GXSeeks -/
import Derived.Test.YtaooglagddphnaaGreatXGr
import Derived.Carry
import Derived.Test.YtaooglagddphnaaGreatXW
namespace Go.Proofs.YtaooglagddphnaaGreat
open Go.RowKit
set_option maxRecDepth 100000
section
variable {w w' w0 W:World}{V S T:Int}{b p gb cap m m' L L' s u v i l:Nat}{f f':Nat->Int}{mk mk':Nat->Nat}{ts ts':List Tp}{bs bs':List E1}{q q':Nat->Nat->List Nat}{x e x':E1}{gr:List (Option (Nat × Nat))}{rows:List (List Nat)}{g:Mg9}
theorem LG.lvl_t (h:LG V S T f mk ts bs q)(hR:Rt V S T)(hF:FJ V S mk ts){t:Tp}(hL:(L:Int)<lv V)(hv:(v:Int)<V)(ht:t∈ts)(hx:Xn V L v∈t.row):(∀ y∈t.row,lvN V y=(L:Int))/\∀ y∈t.row,(∃ u:Nat,(u:Int)<V/\y=Xn V L u)\/∃ s d:Nat,(s:Int)<S/\d<2/\y=An V S L s d:=by
 obtain⟨gr,hV,hg⟩:=h.lf.fo;obtain⟨rows,hr⟩:=hV L hL;obtain⟨r,hr1,hx1⟩:=hr.cov v hv;obtain⟨z,hz,ez⟩:=hr.has r hr1
 have e:=hF.uniq hz ht (by rw[ez];exact hx1) hx
 subst e;obtain⟨_,hF⟩:=hF;rw[ez]
 exact⟨fun y hy=>hr.lvl hR hL hF hr1 hy,fun y hy=>hr.kind hR hF hr1 hy⟩
theorem LG.way (h:LG V S T f mk ts bs q)(hR:Rt V S T)(hF:FJ V S mk ts){t:Tp}(hL:(L:Int)<lv V)(ht:t∈ts)(hx:Xn V L u∈t.row)(hu:(u:Int)<V)(v:Nat):Way (tE bs L) u v↔Xn V L v∈t.row:=by
 obtain⟨gr,hV,hg⟩:=h.lf.fo;obtain⟨z,hz,hx1,hj⟩:=hV.row hR hL hF hu;have e:=hF.uniq hz ht hx1 hx;subst e;rw[<-Jn.way (hg L hL)];exact hj v
structure Up (bs bs':List E1)(P:E1->Prop):Prop where
 len:bs'.length=bs.length
 st:∀ (i:Nat) (x:E1),bs[i]?=some x->bs'[i]?=some x\/(P x/\bs'[i]?=some { x with l:=x.l+1 })
theorem Up.refl (bs:List E1)(P:E1->Prop):Up bs bs P:=⟨rfl,fun _ _ h=>.inl h⟩
theorem Up.set {P:E1->Prop}(h:Up bs bs' P)(hi:bs'[i]?=some x)(h0:bs[i]?=some x)(hp:P x):Up bs (bs'.set i { x with l:=x.l+1 }) P:=by
 refine⟨by rw[List.length_set];exact h.len,fun j y hj=>?_⟩
 by_cases e:i=j
 . subst e
   rw[h0] at hj;injection hj with hj;subst hj;exact .inr ⟨hp,List.getElem?_set_self (List.getElem?_eq_some_iff.1 hi).1⟩
 . rw[List.getElem?_set_ne e];exact h.st j y hj
theorem Up.tE_iff {P:E1->Prop}(h:Up bs bs' P)(hP:∀ x,P x->L<=x.l)(e:Nat × Nat × Nat):e∈tE bs' L↔e∈tE bs L:=by
 obtain⟨s,a,b⟩:=e;rw[QG,QG]
 constructor
 . rintro⟨y,hy,h1,h2,h3⟩
   obtain⟨j,hj⟩:=List.mem_iff_getElem?.1 hy;have hjl:=(List.getElem?_eq_some_iff.1 hj).1;rw[h.len] at hjl;have hx:=List.getElem?_eq_getElem hjl
   rcases h.st j _ hx with h4|⟨h5,h4⟩
   . rw[h4] at hj;injection hj with hj
     subst hj;exact⟨_,List.mem_of_getElem? hx,h1,h2,h3⟩
   . rw[h4] at hj;injection hj with hj
     subst hj;exact⟨_,List.mem_of_getElem? hx,h1,hP _ h5,h3⟩
 . rintro⟨y,hy,h1,h2,h3⟩
   obtain⟨j,hj⟩:=List.mem_iff_getElem?.1 hy
   rcases h.st j _ hj with h4|⟨h5,h4⟩
   . exact⟨_,List.mem_of_getElem? h4,h1,h2,h3⟩
   . exact⟨_,List.mem_of_getElem? h4,h1,by show L<=y.l+1;omega,h3⟩
theorem Up.way {P:E1->Prop}(h:Up bs bs' P)(hP:∀ x,P x->L<=x.l):Way (tE bs' L) u v↔Way (tE bs L) u v:=⟨fun hw=>hw.mono fun e he=>(h.tE_iff hP e).1 he,fun hw=>hw.mono fun e he=>(h.tE_iff hP e).2 he⟩
def lft (bs:List E1)(p:E1->Bool):Nat:=(bs.filter p).length
theorem Qow {p:E1->Bool}:∀ {bs:List E1} {i:Nat},bs[i]?=some x->p x=true->p x'=false->lft (bs.set i x') p+1=lft bs p
 |[],_,h,_,_=>by simp at h
 |y :: bs,0,h,h1,h2=>by
  simp only[List.getElem?_cons_zero,Option.some.injEq] at h;subst h;show ((x' :: bs).filter p).length+1=((y :: bs).filter p).length
  rw[List.filter_cons_of_neg (by rw[h2];decide),List.filter_cons_of_pos h1];rfl
 |y :: bs,i+1,h,h1,h2=>by
  simp only[List.getElem?_cons_succ] at h;have:=Qow h h1 h2;unfold lft at this |-;rw[List.set_cons_succ,List.filter_cons,List.filter_cons]
  cases p y
  . simpa using this
  . simp only[if_true,List.length_cons];omega
theorem QoX {p:E1->Bool}(h:lft bs p=0)(hx:x∈bs):p x=false:=by
 cases hp:p x
 . rfl
 . have:x∈bs.filter p:=List.mem_filter.2 ⟨hx,hp⟩
   unfold lft at h;rw[List.length_eq_zero_iff.1 h] at this;simp at this
end
section
variable {w w' w0 W:World}{V S T:Int}{b p gb cap m L s u v i l:Nat}{f f':Nat->Int}{mk mk':Nat->Nat}{ts ts':List Tp}{bs bs':List E1}{q q':Nat->Nat->List Nat}{x e x':E1}
theorem LG.first_vertex (h:LG V S T f mk ts bs q)(hR:Rt V S T)(hF:FJ V S mk ts){t:Tp}(hL:(L:Int)<lv V)(hv:(v:Int)<V)(ht:t∈ts)(hx:Xn V L v∈t.row):
 (Qx mk 0 t.row=0/\∀ x∈bs,¬ BS13 bs L v x)\/∃ (a:Nat) (i:Nat) (x:E1) (l:List Nat),(a:Int)<V/\Qx mk 0 t.row=Xn V L a/\bs[i]?=some x/\BS13 bs L v x/\dl q a L=x.s :: l:=by
 have hw:∀ {u:Nat},(u:Int)<V->(Way (tE bs L) u v↔Xn V L u∈t.row):=fun {u} hu=>⟨fun hw=>(h.way hR hF hL ht hx hv u).1 hw.symm,fun hm=>((h.way hR hF hL ht hx hv u).2 hm).symm⟩
 by_cases e:Qx mk 0 t.row=0
 . refine .inl ⟨e,fun x hx' hp=>?_⟩
   have hok:=h.er.ok x hx'
   have hz:=QdJ e (fun y hy=>(hF.nodes ht y hy).1)
   have hxF:x∈bs.filter fun e=>!e.t:=List.mem_filter.2 ⟨hx',by rw[hp.1];rfl⟩
   rcases hp.2.2 with hw1|hw1
   . have h1:=hz _ ((hw (by omega)).1 hw1)
     rw[<-Qbr hR (by omega) hL,h.lf.mq _ _ (by omega) hL] at h1
     have h2:2*x.s+1∈q x.u L:=(h.lf.lk _ _ _).2 ⟨x,hxF,hp.2.1,.inl ⟨rfl,rfl⟩⟩
     exact of_decide_eq_false h1 (fun e3=>by rw[e3] at h2;simp at h2)
   . have h1:=hz _ ((hw hok.2.1).1 hw1)
     rw[<-Qbr hR hok.2.1 hL,h.lf.mq _ _ hok.2.1 hL] at h1;have h2:2*x.s+2∈q x.v L:=(h.lf.lk _ _ _).2 ⟨x,hxF,hp.2.1,.inr ⟨rfl,rfl⟩⟩
     exact of_decide_eq_false h1 (fun e3=>by rw[e3] at h2;simp at h2)
 . obtain⟨hm,hb⟩:=QdK (x:=Qx mk 0 t.row) rfl e
   rcases(h.lvl_t hR hF hL hv ht hx).2 _ hm with ⟨a,ha,e1⟩|⟨s,d,hs,hd,e1⟩
   . rw[e1] at hb hm
     rw[<-Qbr hR ha hL,h.lf.mq _ _ ha hL] at hb;have hne:=of_decide_eq_true hb;obtain⟨y,l0,hq⟩:=List.exists_cons_of_ne_nil hne
     obtain⟨x,hxF,hxl,hy⟩:=(h.lf.lk a L y).1 (by rw[hq];simp)
     obtain⟨hx',hxt⟩:=List.mem_filter.1 hxF;obtain⟨i,hi⟩:=List.mem_iff_getElem?.1 hx';have hwa:=(hw ha).2 hm
     refine .inr ⟨a,i,x,l0.map fun x=>(x-1) / 2,ha,e1,hi,⟨by simpa using hxt,hxl,?_⟩,?_⟩
     . rcases hy with ⟨_,rfl⟩|⟨_,rfl⟩
       . exact .inl hwa
       . exact .inr hwa
     . unfold dl
       rw[hq,List.map_cons]
       congr 1
       rcases hy with ⟨rfl,_⟩|⟨rfl,_⟩<;>omega
   . rw[e1,(h.lf.pa L s d hL hs hd).2] at hb;cases hb
def PS13 (bs:List E1)(L v:Nat)(x:E1):Prop:=x.t=false/\x.l=L/\Way (tE bs L) x.u v/\Way (tE bs L) x.v v
def pQ13 (L:Nat)(x:E1):Bool:=!x.t && decide (x.l=L)
set_option maxHeartbeats 2000000 in
theorem Qo6 (A:TA w V S T p gb cap m f mk ts)(h:LG V S T f mk ts bs q){t:Tp}(hL:(L:Int)<lv V)(hv:(v:Int)<V)(ht:t∈ts)(hx:Xn V L v∈t.row)(hm:m<=99790000){rI:Int}(hr:(t.root:Int)=rI):
 Calls Tryz.prog 47 #[vA V S T p,I rI] w (Qog V S T p gb cap (m+4*nN V S+1) f mk ts bs L v w):=by
 have hn:=Ql A.hR;obtain⟨rt,hrt⟩:∃ rt:Nat,t.root=rt:=⟨_,rfl⟩;have HRT:=q9 hrt
 have hr2:rI=(rt:Int):=by rw[<-hrt];exact hr.symm
 subst hr2;clear hr hrt;have hfa:=h.first_vertex A.hR A.fi hL hv ht hx;have HTS:=q9 ht;have H0:=q9 (LX.new A);have HR:=q9 A.hR;have HL0:=q9 hL;have HH:=q9 h
 have hm9:m<=99980000:=by omega
 obtain⟨aB,lI,vI,sI,dI,ok,x8,hfr,hnd,hcf,hct⟩:∃ (aB:Bool) (lI vI sI dI:Int) (ok:Bool) (x8:Nat),Qx mk 0 t.row=x8/\(∀ W:World,Calls Tryz.prog 45 #[vL V S T,I ((x8:Nat):Int)] W fun e w'=>e=.returned (.tuple #[vT aB lI vI sI dI,.bool ok])/\Below W.heap.size W w')/\(ok=false->∀ x∈bs,¬ BS13 bs L v x)/\(ok=true->∃ (a:Nat) (i:Nat) (x:E1) (l:List Nat),(a:Int)<V/\bs[i]?=some x/\BS13 bs L v x/\dl q a L=x.s :: l/\vI=(a:Int)/\lI=(L:Int)):=by
  rcases hfa with ⟨h1,h2⟩|⟨a,i,x,l,h0,h1,h2,h3,h4⟩
  . exact⟨false,0,0,0,0,false,0,h1,fun W=>QeL V S T 0 (by decide) W,fun _=>h2,fun h=>by cases h⟩
  . exact⟨false,L,a,0,0,true,_,h1,fun W=>Qnd HR hL h0 W,(fun h=>by cases h),fun _=>⟨a,i,x,l,h0,h2,h3,h4,rfl,rfl⟩⟩
 have HFR:=q9 hfr;have HND:=q9 hnd;have HCF:=q9 hcf;have HCT:=q9 hct;clear A h hfa hfr hnd hcf hct ht hx hL
 go_enter Tryz.func47,Tryz.ntmps47
 go_wp2_with fail
 generalize hb0:w.heap.size=b at H0 |-;generalize hW0:w.alloc (I8 V S T p)=W at H0 |-;obtain⟨y0,y1,y2,y3,y4,y5,y6,y7,y8,y9⟩:=H0.cells;have hlt:=H0.lt;have Hd:=q9 H0.drew;have hrule:=LX.rule b V S T p
 refine wp_region_held_drew (S:=(fun W=>LtB W b V S T p)) (by kernel_rfl) ?_ (fun hHeld=>?_)
 . exact Hd.q
 refine q9N 0 rfl ?_
 refine q9N 1 rfl ?_
 refine q9N 2 rfl ?_
 refine q9N 3 rfl ?_
 refine q9N 4 rfl ?_
 refine q9N 5 rfl ?_
 refine q9N 6 rfl ?_
 refine q9N 7 rfl ?_
 refine q9N 8 rfl ?_
 refine q9N 9 rfl ?_
 refine wpAnyH_ready (rs:=[10,15]) (by kernel_rfl) (by simp) ?_
 refine AllReadyH.cons rfl (fun K hK=>?_) ?_
 rotate_left
 . refine AllReadyH.cons rfl (fun K hK=>?_) ?_
   rotate_left
   . exact AllReadyH.nil
   go_simp
   refine hK.out _ _ ?_ (fun hHeld=>?_)
   . (try dsimp only);exact(H0.below ((Below.refl _ _).alloc (Nat.le_refl _) (.cells #[.bool false,I 0,I 0,I 0,I 0] 94))).drew.q
   clear hK K;try simp only[Act.put,q98]
   refine q9R 10 rfl fun K hK=>?_
   go_simp
   (refine(QgA (xI:=((rt:Nat):Int)) (H0.below ((Below.refl _ _).alloc (Nat.le_refl _) (.cells #[.bool false,I 0,I 0,I 0,I 0] 94))).drew.a HTS.out (k:=0) (kI:=0) (by decide) hm9 (by rw[HRT.out]) rfl).mono ?_;rintro e w10 ⟨rfl,A10,O10⟩;rw[HFR.out];have H10:=q9 ((H0.below ((Below.refl _ _).alloc (Nat.le_refl _) (.cells #[.bool false,I 0,I 0,I 0,I 0] 94))).drew.next A10 O10);have HR10:Hid (Blk w10 W.heap.size 94 #[.bool false,I 0,I 0,I 0,I 0]):=q9 (Blk.ta (Blk.new W 94 #[.bool false,I 0,I 0,I 0,I 0]).drew (H0.below ((Below.refl _ _).alloc (Nat.le_refl _) (.cells #[.bool false,I 0,I 0,I 0,I 0] 94))).drew.a O10 (by decide) (by decide));clear A10 O10)
   go_wp2_with fail
   refine hK.out _ _ ?_ (fun hHeld=>?_)
   . (try dsimp only);exact H10.q
   clear hK K;try simp only[Act.put,q98]
   refine q9R 11 rfl fun K hK=>?_
   go_simp
   (refine(HND.out _).mono ?_;rintro e w11 ⟨rfl,B11⟩;have H11:=q9 (H10.below B11);have HR11:=q9 (Blk.below HR10.out B11 (Blk.lt HR10.out));clear B11)
   go_wp2_with fail
   refine hK.out _ _ ?_ (fun hHeld=>?_)
   . (try dsimp only);exact H11.q
   clear hK K;try simp only[Act.put,q98]
   refine q9N 12 rfl ?_
   refine q9N 13 rfl ?_
   refine q9N 14 rfl ?_
   refine q9R 16 rfl fun K hK=>?_
   have hge:w.heap.size<=W.heap.size:=H0.o.size;have HF9:=q9 (Qfr (y0:=.bool aB) (y1:=I lI) (y2:=I vI) (y3:=I sI) (y4:=I dI) H11.out HR11.out hge);have k0:=HR11.cell 0;have k1:=HR11.cell 1;have k2:=HR11.cell 2;have k3:=HR11.cell 3;have k4:=HR11.cell 4;have f0:=HR11.frozen 0;have f1:=HR11.frozen 1;have f2:=HR11.frozen 2;have f3:=HR11.frozen 3;have f4:=HR11.frozen 4;have klt:=HR11.lt
   go_simp
   refine hK.out _ _ ?_ (fun hHeld=>?_)
   . (try dsimp only);exact HF9.1.q
   clear hK K;try simp only[Act.put,q98]
   refine q9N 17 rfl ?_
   refine wpAnyH_done (by kernel_rfl) ?_ _
   clear k0 k1 k2 k3 k4 f0 f1 f2 f3 f4 klt hge HR11 HR10;generalize h9:World.setCell (World.setCell (World.setCell (World.setCell (World.setCell _ _ _) _ _) _ _) _ _) _ _=W9 at HF9 |-;clear h9;generalize hb9:W.heap.size=r9 at HF9 |-;clear Hd H10 H11 y0 y1 y2 y3 y4 y5 y6 y7 y8 y9 hlt hrule hb9;have HX9:=q9 HF9.1;have HN9:=q9 HF9.2;clear HF9;obtain⟨y0,y1,y2,y3,y4,y5,y6,y7,y8,y9⟩:=HX9.cells;have hlt:=HX9.lt;have n1:=HN9.cell 1;have n2:=HN9.cell 2;have nlt:=HN9.lt
   cases ok
   . go_wp2_with fail
     go_ret2
     exact⟨_,_,rfl,.inl ⟨rfl,HCF (by trivial)⟩,HX9.a.more (by omega),HX9.o⟩
   . obtain⟨a9,i9,x9,l9,ha9,hi9,h09,hd9,e9,e8⟩:=HCT.out (by trivial)
     subst e9 e8;have HI9:=q9 (And.intro hi9 (And.intro h09 hd9));clear hi9 h09 hd9;go_wp2_with fail
     refine(Qb6 HX9.a HH.lf.lq ha9 HL0 (by omega) rfl rfl).mono ?_;rintro e w12 ⟨rfl,A12,O12⟩;rw[HI9.2.2]
     have HX12:=q9 (HX9.next A12 O12);clear HX9 HN9 A12 O12 n1 n2 nlt y0 y1 y2 y3 y4 y5 y6 y7 y8 y9 hlt;show _;simp only[fsV];go_wp2_with fail
     go_ret2
     exact⟨_,_,rfl,.inr ⟨rfl,i9,x9,HI9.1,HI9.2.1,rfl⟩,HX12.a.more (by omega),HX12.o⟩
 go_simp
 (refine(QgA (xI:=((rt:Nat):Int)) Hd.a HTS.out (k:=0) (kI:=0) (by decide) hm9 (by rw[HRT.out]) rfl).mono ?_;rintro e w10 ⟨rfl,A10,O10⟩;rw[HFR.out];have H10:=q9 (Hd.next A10 O10);clear A10 O10)
 go_wp2_with fail
 refine hK.out _ _ ?_ (fun hHeld=>?_)
 . (try dsimp only);exact H10.q
 clear hK K;try simp only[Act.put,q98]
 refine wpAnyH_ready (rs:=[11,15]) (by kernel_rfl) (by simp) ?_
 refine AllReadyH.cons rfl (fun K hK=>?_) ?_
 rotate_left
 . refine AllReadyH.cons rfl (fun K hK=>?_) ?_
   rotate_left
   . exact AllReadyH.nil
   go_simp
   refine hK.out _ _ ?_ (fun hHeld=>?_)
   . (try dsimp only);exact(H10.below ((Below.refl _ _).alloc (Nat.le_refl _) (.cells #[.bool false,I 0,I 0,I 0,I 0] 94))).q
   clear hK K;try simp only[Act.put,q98]
   refine q9R 11 rfl fun K hK=>?_
   go_simp
   (refine(HND.out _).mono ?_;rintro e w11 ⟨rfl,B11⟩;have H11:=q9 ((H10.below ((Below.refl _ _).alloc (Nat.le_refl _) (.cells #[.bool false,I 0,I 0,I 0,I 0] 94))).below B11);have HR11:Hid (Blk w11 w10.heap.size 94 #[.bool false,I 0,I 0,I 0,I 0]):=q9 (Blk.below (Blk.new w10 94 #[.bool false,I 0,I 0,I 0,I 0]) B11 (Blk.lt (Blk.new w10 94 #[.bool false,I 0,I 0,I 0,I 0])));clear B11)
   go_wp2_with fail
   refine hK.out _ _ ?_ (fun hHeld=>?_)
   . (try dsimp only);exact H11.q
   clear hK K;try simp only[Act.put,q98]
   refine q9N 12 rfl ?_
   refine q9N 13 rfl ?_
   refine q9N 14 rfl ?_
   refine q9R 16 rfl fun K hK=>?_
   have hge:w.heap.size<=w10.heap.size:=H10.o.size;have HF9:=q9 (Qfr (y0:=.bool aB) (y1:=I lI) (y2:=I vI) (y3:=I sI) (y4:=I dI) H11.out HR11.out hge);have k0:=HR11.cell 0;have k1:=HR11.cell 1;have k2:=HR11.cell 2;have k3:=HR11.cell 3;have k4:=HR11.cell 4;have f0:=HR11.frozen 0;have f1:=HR11.frozen 1;have f2:=HR11.frozen 2;have f3:=HR11.frozen 3;have f4:=HR11.frozen 4;have klt:=HR11.lt
   go_simp
   refine hK.out _ _ ?_ (fun hHeld=>?_)
   . (try dsimp only);exact HF9.1.q
   clear hK K;try simp only[Act.put,q98]
   refine q9N 17 rfl ?_
   refine wpAnyH_done (by kernel_rfl) ?_ _
   clear k0 k1 k2 k3 k4 f0 f1 f2 f3 f4 klt hge HR11;generalize h9:World.setCell (World.setCell (World.setCell (World.setCell (World.setCell _ _ _) _ _) _ _) _ _) _ _=W9 at HF9 |-;clear h9;generalize hb9:w10.heap.size=r9 at HF9 |-;clear Hd H10 H11 y0 y1 y2 y3 y4 y5 y6 y7 y8 y9 hlt hrule hb9;have HX9:=q9 HF9.1;have HN9:=q9 HF9.2;clear HF9;obtain⟨y0,y1,y2,y3,y4,y5,y6,y7,y8,y9⟩:=HX9.cells;have hlt:=HX9.lt;have n1:=HN9.cell 1;have n2:=HN9.cell 2;have nlt:=HN9.lt
   cases ok
   . go_wp2_with fail
     go_ret2
     exact⟨_,_,rfl,.inl ⟨rfl,HCF (by trivial)⟩,HX9.a.more (by omega),HX9.o⟩
   . obtain⟨a9,i9,x9,l9,ha9,hi9,h09,hd9,e9,e8⟩:=HCT.out (by trivial)
     subst e9 e8;have HI9:=q9 (And.intro hi9 (And.intro h09 hd9));clear hi9 h09 hd9;go_wp2_with fail
     refine(Qb6 HX9.a HH.lf.lq ha9 HL0 (by omega) rfl rfl).mono ?_;rintro e w12 ⟨rfl,A12,O12⟩;rw[HI9.2.2]
     have HX12:=q9 (HX9.next A12 O12);clear HX9 HN9 A12 O12 n1 n2 nlt y0 y1 y2 y3 y4 y5 y6 y7 y8 y9 hlt;show _;simp only[fsV];go_wp2_with fail
     go_ret2
     exact⟨_,_,rfl,.inr ⟨rfl,i9,x9,HI9.1,HI9.2.1,rfl⟩,HX12.a.more (by omega),HX12.o⟩
 go_simp
 (refine(HND.out _).mono ?_;rintro e w11 ⟨rfl,B11⟩;have H11:=q9 (H10.below B11);clear B11)
 go_wp2_with fail
 refine hK.out _ _ ?_ (fun hHeld=>?_)
 . (try dsimp only);exact H11.q
 clear hK K;try simp only[Act.put,q98]
 refine q9N 12 rfl ?_
 refine q9N 13 rfl ?_
 refine q9N 14 rfl ?_
 refine q9R 15 rfl fun K hK=>?_
 go_simp
 refine hK.out _ _ ?_ (fun hHeld=>?_)
 . (try dsimp only);exact(H11.below ((Below.refl _ _).alloc (Nat.le_refl _) (.cells #[.bool false,I 0,I 0,I 0,I 0] 94))).q
 clear hK K;try simp only[Act.put,q98]
 refine q9R 16 rfl fun K hK=>?_
 have HF9:=q9 (And.intro (H11.below ((Below.refl _ _).alloc (Nat.le_refl _) (.cells #[.bool aB,I lI,I vI,I sI,I dI] 94))) (Blk.new w11 94 #[.bool aB,I lI,I vI,I sI,I dI]));have klt:w11.heap.size<w11.heap.size+1:=Nat.lt_succ_self _
 go_simp
 refine hK.out _ _ ?_ (fun hHeld=>?_)
 . (try dsimp only);exact HF9.1.q
 clear hK K;try simp only[Act.put,q98]
 refine q9N 17 rfl ?_
 refine wpAnyH_done (by kernel_rfl) ?_ _
 clear klt;generalize hb9:w11.heap.size=r9 at HF9 |-;generalize w11.alloc (.cells #[.bool aB,I lI,I vI,I sI,I dI] 94)=W9 at HF9 |-;clear Hd H10 H11 y0 y1 y2 y3 y4 y5 y6 y7 y8 y9 hlt hrule hb9;have HX9:=q9 HF9.1;have HN9:=q9 HF9.2;clear HF9;obtain⟨y0,y1,y2,y3,y4,y5,y6,y7,y8,y9⟩:=HX9.cells;have hlt:=HX9.lt;have n1:=HN9.cell 1;have n2:=HN9.cell 2;have nlt:=HN9.lt
 cases ok
 . go_wp2_with fail
   go_ret2
   exact⟨_,_,rfl,.inl ⟨rfl,HCF (by trivial)⟩,HX9.a.more (by omega),HX9.o⟩
 . obtain⟨a9,i9,x9,l9,ha9,hi9,h09,hd9,e9,e8⟩:=HCT.out (by trivial)
   subst e9 e8;have HI9:=q9 (And.intro hi9 (And.intro h09 hd9));clear hi9 h09 hd9;go_wp2_with fail
   refine(Qb6 HX9.a HH.lf.lq ha9 HL0 (by omega) rfl rfl).mono ?_;rintro e w12 ⟨rfl,A12,O12⟩;rw[HI9.2.2]
   have HX12:=q9 (HX9.next A12 O12);clear HX9 HN9 A12 O12 n1 n2 nlt y0 y1 y2 y3 y4 y5 y6 y7 y8 y9 hlt;show _;simp only[fsV];go_wp2_with fail
   go_ret2
   exact⟨_,_,rfl,.inr ⟨rfl,i9,x9,HI9.1,HI9.2.1,rfl⟩,HX12.a.more (by omega),HX12.o⟩
def QoT (w0:World)(b:Nat)(V S T:Int)(p gb cap m:Nat)(ts:List Tp)(bs:List E1)(L v:Nat)(i:Value)(W:World):Prop:=
 ∃ (k:Nat) (f:Nat->Int) (mk:Nat->Nat) (bs':List E1) (q:Nat->Nat->List Nat),(k:Int)<=S/\i=I ((k:Nat):Int)/\LX w0 W b V S T p gb cap (m+k*(38*nN V S+140)) f mk ts/\LG V S T f mk ts bs' q/\Up bs bs' (PS13 bs L v)/\k+lft bs' (pQ13 L)<=S.toNat
def QpZ (V S T:Int)(p gb cap m:Nat)(ts:List Tp)(bs:List E1)(L v:Nat)(w:World)(e:Ending)(w':World):Prop:=
 ∃ (r:Int) (ok:Bool) (f':Nat->Int) (mk':Nat->Nat) (bs':List E1) (q':Nat->Nat->List Nat),e=.returned (.tuple #[I r,.bool ok])/\TA w' V S T p gb cap m f' mk' ts/\LG V S T f' mk' ts bs' q'/\Up bs bs' (PS13 bs L v)/\
  ((ok=false/\r=0/\∀ x∈bs',¬ BS13 bs L v x)\/(ok=true/\∃ x∈bs',r=(x.s:Int)/\x.t=false/\x.l=L/\(Way (tE bs L) x.u v↔¬ Way (tE bs L) x.v v)))/\Only p gb w w'
set_option maxHeartbeats 2000000 in
theorem Qpv (A:TA w V S T p gb cap m f mk ts)(h:LG V S T f mk ts bs q)(hL:((L+1:Nat):Int)<lv V)(hv:(v:Int)<V)(hm:m+nN V S+S.toNat*(38*nN V S+140)<=99780000):
 Calls Tryz.prog 16 #[vA V S T p,I (L:Int),I (v:Int)] w (QpZ V S T p gb cap (m+nN V S+(S.toNat+1)*(38*nN V S+140)) ts bs L v w):=by
 have hn:=Ql A.hR;have hR:=A.hR
 have hL0:(L:Int)<lv V:=by omega
 obtain⟨gr,hV,hg⟩:=h.lf.fo;obtain⟨t,ht,hx,hjt⟩:=hV.row hR hL0 A.fi hv;have HVX:=q9 hx;have HTS:=q9 ht;have H0:=q9 (LX.new A);have HR:=q9 A.hR;have HL0:=q9 hL0;have HL1:=q9 hL;have HH:=q9 h;have hlen:=h.er.len_le;have s0:=hR.s1;have s48:=hR.s2;have hlf:lft bs (pQ13 L)<=bs.length:=List.length_filter_le _ _;clear A h hV hg ht hx hjt hL0 gr hR
 go_enter Tryz.func16,Tryz.ntmps16
 go_wp2_with fail
 generalize w.heap.size=b at H0 |-;generalize w.alloc (I8 V S T p)=W at H0 |-;obtain⟨y0,y1,y2,y3,y4,y5,y6,y7,y8,y9⟩:=H0.cells;have hlt:=H0.lt
 refine(Qni H0.a HL0 hv HTS HVX (by omega)).mono ?_;rintro e w1 ⟨rfl,A1,O1⟩
 have H1:=q9 (H0.next A1 O1)
 have HRel:Hid (QoT w b V S T p gb cap (m+nN V S) ts bs L v (I 0) w1):=q9 ⟨0,f,mk,bs,q,by omega,rfl,by simpa using H1.out,HH.out,Up.refl _ _,by omega⟩
 clear H0 A1 O1 HH hlf hlen y0 y1 y2 y3 y4 y5 y6 y7 y8 y9 hlt;obtain⟨y0,y1,y2,y3,y4,y5,y6,y7,y8,y9⟩:=H1.cells;have hlt:=H1.lt;generalize hrt:t.root=rt;have HRT:=q9 hrt;clear hrt;go_wp2_with fail
 clear H1 y0 y1 y2 y3 y4 y5 y6 y7 y8 y9 hlt
 go_loopw [22] (fun i wr=>QoT w b V S T p gb cap (m+nN V S) ts bs L v i wr) (fun i _=>S.toNat-(intOf i).toNat)
 case atStart=>exact HRel.out
 case round=>
  clear HRel;obtain⟨k,f1,mk1,bs1,q1,hk,rfl,hX,hV,hU,hlf⟩:=hrel;have HX:=q9 hX;have HV:=q9 hV;have HU:=q9 hU;have HLF:=q9 hlf
  have HW:Hid (∀ a c:Nat,Way (tE bs1 L) a c↔Way (tE bs L) a c):=q9 fun a c=>hU.way (fun x hp=>by have:=hp.2.1;omega)
  have k0:(0:Int)<=(k:Int):=by omega
  have HKC:Hid (k*(38*nN V S+140)<=S.toNat*(38*nN V S+140)):=q9 (Nat.mul_le_mul_right _ (by omega))
  have hex:(S.toNat+1)*(38*nN V S+140)=S.toNat*(38*nN V S+140)+(38*nN V S+140):=by rw[Nat.add_mul];omega
  have hke:(k+1)*(38*nN V S+140)=k*(38*nN V S+140)+(38*nN V S+140):=by rw[Nat.add_mul];omega
  obtain⟨M,hM⟩:∃ M,m+nN V S+k*(38*nN V S+140)=M:=⟨_,rfl⟩
  have HM2:Hid (m+nN V S+(k+1)*(38*nN V S+140)=M+38*nN V S+140):=q9 (by omega)
  have HS9:Hid (M<=99780000/\M+38*nN V S+140<=m+nN V S+(S.toNat+1)*(38*nN V S+140)):=q9 (by have:=HKC.out;omega)
  have hm9:M<=99780000:=HS9.1;rw[hM] at HX;clear hX hV hU hlf hM hex hke HKC hm
  by_cases hkS:(k:Int)<S
  . obtain⟨y0,y1,y2,y3,y4,y5,y6,y7,y8,y9⟩:=HX.cells
    have hlt:=HX.lt;go_wp2_with fail
    refine(Qo6 HX.a HV.out HL0.out hv HTS.out HVX.out (by omega) (by rw[HRT.out])).mono ?_;rintro e w2 ⟨r9,ok,rfl,hbe,A2,O2⟩
    have HX2:=q9 (HX.next A2 O2);have HBE:=q9 hbe;clear HX A2 O2 hbe y0 y1 y2 y3 y4 y5 y6 y7 y8 y9 hlt;obtain⟨y0,y1,y2,y3,y4,y5,y6,y7,y8,y9⟩:=HX2.cells;have hlt:=HX2.lt
    cases ok
    . have HB1:Hid (∀ x∈bs1,¬ BS13 bs1 L v x):=q9 (by
       rcases HBE.out with ⟨_,h1⟩|⟨h1,_⟩
       . exact h1
       . cases h1)
      go_wp2_with fail
      go_ret2
      refine⟨_,_,f1,mk1,bs1,q1,rfl,HX2.a.more (by have:=HS9.out;omega),HV.out,HU.out,.inl ⟨rfl,rfl,fun x hx hp=>HB1.out x hx ⟨hp.1,hp.2.1,?_⟩⟩,HX2.o⟩
      rw[HW.out,HW.out];exact hp.2.2
    . obtain⟨i9,x9,hi9,hb9,e9⟩:∃ (i:Nat) (x:E1),bs1[i]?=some x/\BS13 bs1 L v x/\r9=(x.s:Int):=by
       rcases HBE.out with ⟨h1,_⟩|⟨_,h1⟩
       . cases h1
       . exact h1
      subst e9;have HI9:=q9 (And.intro hi9 hb9);have HXI:Hid (x9∈bs1):=q9 (List.mem_of_getElem? hi9);have hok9:=HV.er.ok x9 (List.mem_of_getElem? hi9)
      have HU9:Hid ((x9.u:Int)<V/\(x9.v:Int)<V):=q9 ⟨by omega,hok9.2.1⟩
      clear HBE hi9 hb9 hok9;go_wp2_with fail
      refine(Qe9 HX2.a HV.er HXI (by omega)).mono ?_;rintro e w3 ⟨rfl,A3,O3⟩
      have HX3:=q9 (HX2.next A3 O3);clear HX2 A3 O3 y0 y1 y2 y3 y4 y5 y6 y7 y8 y9 hlt;obtain⟨y0,y1,y2,y3,y4,y5,y6,y7,y8,y9⟩:=HX3.cells;have hlt:=HX3.lt;have HY0:=q9 (HX3.made x9);go_wp2_with fail
      generalize w3.heap.size=r at HY0 |-;generalize w3.alloc (.cells #[I (x9.u:Int),I (x9.v:Int),I (x9.l:Int),.bool x9.t] 99)=W9 at HY0 |-;clear HX3 y0 y1 y2 y3 y4 y5 y6 y7 y8 y9 hlt;obtain⟨gr,hV9,hg9⟩:=HV.lf.fo;have HGW:Hid (Jn (gr L) x9.u x9.v↔Way (tE bs1 L) x9.u x9.v):=q9 (Jn.way (hg9 L HL0.out));have HV9:=q9 hV9;clear hV9 hg9;obtain⟨y0,y1,y2,y3,y4,y5,y6,y7,y8,y9⟩:=HY0.y.cells;have hlt:=HY0.y.lt;obtain⟨x0,x1,x2⟩:=HY0.r.cells;have hrl:=HY0.rlt
      refine(QhV HY0.y.a HV9 HL0 HU9.1 HU9.2 (by omega)).mono ?_;rintro e w4 ⟨sm,rfl,hsm,A4,O4⟩
      have HY4:=q9 (HY0.next A4 O4);have HSM:Hid (sm=true↔Way (tE bs1 L) x9.u x9.v):=q9 (hsm.trans HGW.out);clear HY0 A4 O4 hsm HV9 HGW y0 y1 y2 y3 y4 y5 y6 y7 y8 y9 hlt x0 x1 x2 hrl;obtain⟨y0,y1,y2,y3,y4,y5,y6,y7,y8,y9⟩:=HY4.y.cells;have hlt:=HY4.y.lt;obtain⟨x0,x1,x2⟩:=HY4.r.cells;have hrl:=HY4.rlt
      cases sm
      . have HNW:Hid (¬ Way (tE bs1 L) x9.u x9.v):=q9 fun hw=>by have:=HSM.2 hw;cases this
        go_wp2_with fail
        go_ret2
        refine⟨_,_,f1,mk1,bs1,q1,rfl,HY4.y.a.more (by have:=HS9.out;omega),HV.out,HU.out,.inr ⟨rfl,x9,HXI.out,rfl,HI9.2.1,HI9.2.2.1,?_⟩,HY4.y.o⟩
        rw[<-HW.out,<-HW.out]
        constructor
        . intro h1 h2;exact HNW (h1.trans h2.symm)
        . intro h1
          rcases HI9.2.2.2 with h2|h2
          . exact h2
          . exact absurd h2 h1
      . have HYW:Hid (Way (tE bs1 L) x9.u x9.v):=q9 (HSM.1 rfl)
        go_wp2_with fail
        refine(Qkl HY4.y.a HV.out HI9.1 HI9.2.1 (by rw[HI9.2.2.1];exact HL1) (by omega)).mono ?_;rintro e w5 ⟨f2,mk2,ts2,rfl,A5,V5,rfl,O5⟩
        have HY5:=q9 (HY4.next A5 O5)
        have HPS:Hid (PS13 bs L v x9):=q9 (by
         have hb:=HI9.2;refine⟨hb.1,hb.2.1,?_⟩;rw[<-HW.out,<-HW.out]
         rcases hb.2.2 with h1|h1
         . exact⟨h1,HYW.symm.trans h1⟩
         . exact⟨HYW.trans h1,h1⟩)
        have H0I:Hid (bs[i9]?=some x9):=q9 (by
         have hil:i9<bs.length:=by rw[<-HU.len];exact(List.getElem?_eq_some_iff.1 HI9.1).1
         rcases HU.st i9 _ (List.getElem?_eq_getElem hil) with h1|⟨h1,h2⟩
         . have h3:=HI9.1
           rw[h1] at h3;injection h3 with h3;rw[<-h3];exact List.getElem?_eq_getElem hil
         . have h3:=HI9.1
           rw[h2] at h3;injection h3 with h3
           have e3:x9.l=bs[i9].l+1:=by rw[<-h3]
           have h4:=h1.2.1;have h5:=HPS.2.1;omega)
        have HRel:Hid (QoT w b V S T p gb cap (m+nN V S) ts2 bs L v (I ((k:Int)+1)) w5):=q9 ⟨k+1,f2,mk2,_,_,by omega,by simp,by rw[HM2.out];exact HY5.y.more (by omega),V5,HU.set HI9.1 H0I HPS,by
         have h1:=Qow (x':={ x9 with l:=x9.l+1 }) (p:=pQ13 L) HI9.1 (by unfold pQ13;rw[HI9.2.1,HI9.2.2.1];simp) (by unfold pQ13;have:=HI9.2.2.1;simp;omega)
         have h2:=HLF.out;omega⟩
        clear HY4 HY5 A5 V5 O5 HV HU HI9 HXI HSM HYW HPS H0I y0 y1 y2 y3 y4 y5 y6 y7 y8 y9 hlt x0 x1 x2 hrl;go_wp2_with fail
        go_roundw
        case rel=>exact HRel.out
        case measure=>simp [intOf];omega
  . have ek:(k:Int)=S:=by omega
    go_wp2_with fail
    go_ret2
    refine⟨_,_,f1,mk1,bs1,q1,rfl,HX.a.more (by have:=HS9.out;omega),HV.out,HU.out,.inl ⟨rfl,rfl,fun x hx hp=>?_⟩,HX.o⟩
    have h0:=HLF.out
    have h1:=QoX (p:=pQ13 L) (by omega) hx
    unfold pQ13 at h1;rw[hp.1,hp.2.1] at h1;simp at h1
end
section
variable {w w' w0 w1 W:World}{zb base q p gb cap m m':Nat}{V S T kd s u v:Int}{da oa:Option Addr}{dl dc ol oc:Nat}{f f':Nat->Int}{mk mk':Nat->Nat}{ts ts':List Tp}{vl vl':Value}{ls ls':List E1}{qq qq':Nat->Nat->List Nat}{fd:Nat->Nat}
def Lp13 (w:World)(zb:Nat)(V S T:Int)(da:Option Addr)(dl dc:Nat)(oa:Option Addr)(ol oc:Nat)(base q p gb cap:Nat)(i:Value)(W:World):Prop:=
 ∃ k f mk ts vl ls qq,k<=ol/\i=I ((k:Nat):Int)/\LwX w W zb V S T da dl dc oa ol oc base q p gb cap (660+14680*k) f mk ts vl ls qq
end
section
variable {w w' w0 W:World}{zb base q p gb cap m m' i g c:Nat}{V S T:Int}{da oa:Option Addr}{dl dc ol oc:Nat}{f f':Nat->Int}{mk mk':Nat->Nat}{ts ts':List Tp}{vl:Value}{ls ls':List E1}{qq qq':Nat->Nat->List Nat}{x:E1}
structure LwY (w W:World)(zb:Nat)(V S T:Int)(da:Option Addr)(dl dc:Nat)(oa:Option Addr)(ol oc:Nat)(base q p gb cap m:Nat)(f:Nat->Int)(mk:Nat->Nat)(ts:List Tp)(vl:Value)(ls ls':List E1)(qq:Nat->Nat->List Nat):Prop where
 z:Blk W zb 27 #[I V,I S,I T,.slice da dl dc,.slice oa ol oc]
 be:Below w.heap.size w W
 pw:PW13 W base q V S T p gb cap m f mk ts vl ls
 lg:LG V S T f mk ts ls' qq
 bs:w.heap.size<=base
theorem LwX.y (h:LwX w W zb V S T da dl dc oa ol oc base q p gb cap m f mk ts vl ls qq):LwY w W zb V S T da dl dc oa ol oc base q p gb cap m f mk ts vl ls ls qq:=⟨h.z,h.be,h.pw,h.lg,h.bs⟩
theorem LwY.next {ls2:List E1}(h:LwY w W zb V S T da dl dc oa ol oc base q p gb cap m f mk ts vl ls ls' qq)(A:TA w' V S T p gb cap m' f' mk' ts')(O:Only p gb W w')(hG:LG V S T f' mk' ts' ls2 qq'):LwY w w' zb V S T da dl dc oa ol oc base q p gb cap m' f' mk' ts' vl ls ls2 qq':=by
 have hX:=(PX13.start h.pw).next A O;exact⟨hX.kb _ _ _ h.z Qkp,h.be.trans (hX.be.mono h.bs),hX.pw,hG,h.bs⟩
theorem LwY.below (h:LwY w W zb V S T da dl dc oa ol oc base q p gb cap m f mk ts vl ls ls' qq)(hb:Below W.heap.size W w'):LwY w w' zb V S T da dl dc oa ol oc base q p gb cap m f mk ts vl ls ls' qq:=⟨h.z.below hb h.z.lt,h.be.trans (hb.mono h.be.size),h.pw.below hb,h.lg,h.bs⟩
theorem LwY.more (h:LwY w W zb V S T da dl dc oa ol oc base q p gb cap m f mk ts vl ls ls' qq)(hm:m<=m'):LwY w W zb V S T da dl dc oa ol oc base q p gb cap m' f mk ts vl ls ls' qq:=⟨h.z,h.be,h.pw.more hm,h.lg,h.bs⟩
end
section
variable {w w' w0:World}{V S T:Int}{q p gb cap m base s u v9 i n:Nat}{f:Nat->Int}{mk:Nat->Nat}{ts:List Tp}{v:Value}{l:List E1}{x:E1}
theorem slot_noI13 (hq:PB13 w q V S T p v)(hO:EW w base v l)(hl:l.length<=1000){si:Int}(hno:∀ x∈l,(x.s:Int)≠si):
 Calls Tryz.prog 19 #[.pointer (some (I1 q 0)),I si] w fun e w'=>e=.returned (I (-1))/\Below w.heap.size w w':=by
 obtain⟨av,ac,rfl⟩:=hO.slice;obtain⟨n,hn⟩:∃ n,l.length=n:=⟨_,rfl⟩;have HN:=q9 hn;have HQ:=q9 hq;have HO:=q9 hO;have HS:=q9 hno;clear hno;rw[hn] at HQ HO hl
 have nI:(n:Int)<=1000:=by omega
 have HRel:Hid (Qe5 w n (I 0) w):=q9 ⟨Below.refl _ _,0,Nat.zero_le _,rfl⟩;clear hq hO hn;obtain⟨c0,c1,c2,c3,c4,c5,c6,c7,c8,c9,c10,c11,c12,c13,c14⟩:=HQ.cells;have qlt:=HQ.lt
 go_enter Tryz.func19,Tryz.ntmps19
 go_wp2_with fail
 clear c0 c1 c2 c3 c4 c5 c6 c7 c8 c9 c10 c11 c12 c13 c14 qlt
 go_loopw [12] (fun i9 wr=>Qe5 w n i9 wr) (fun i9 _=>n-(intOf i9).toNat)
 case atStart=>exact HRel.out
 case round=>
  clear HRel;obtain⟨hb,k,hk,rfl⟩:=hrel;have HB:=q9 hb;clear hb
  by_cases hkn:k<n
  . obtain⟨x,hx⟩:∃ x,l[k]?=some x:=⟨_,List.getElem?_eq_getElem (by have:=HN.out;omega)⟩
    obtain⟨g,cp9,e,_,glt,_,y0,y1,y2,y3,y4⟩:=(HO.below HB.out).at hx;injection e with e1 e2 e3;subst e1 e3
    have kI:(k:Int)<(n:Int):=by omega
    have k0:(0:Int)<=(k:Int):=by omega
    have hne:((x.s:Int)==si)=false:=beq_eq_false_iff_ne.2 fun e=>HS.out x (List.mem_of_getElem? hx) (by omega)
    clear hx e2;go_wp2_with fail
    exact⟨⟨HB.alloc HB.size _,k+1,by omega,by simp⟩,by simp [intOf];omega⟩
  . have ek:k=n:=by omega
    subst ek
    have kI:¬ (k:Int)<(k:Int):=by omega
    clear hk hkn;go_wp2_with fail
    go_ret;exact⟨rfl,HB⟩
theorem slot_int13 (hq:PB13 w q V S T p v)(hO:EW w base v l)(hl:l.length<=1000)(hE:ER V S T f l)(si:Int):
 Calls Tryz.prog 19 #[.pointer (some (I1 q 0)),I si] w fun e w'=>∃ r,e=.returned (I r)/\(r=-1\/∃ (i:Nat) (x:E1),r=(i:Int)/\l[i]?=some x/\si=(x.s:Int))/\Below w.heap.size w w':=by
 by_cases h:∃ x∈l,(x.s:Int)=si
 . obtain⟨x,hx,rfl⟩:=h
   obtain⟨i,hi⟩:=List.mem_iff_getElem?.1 hx
   exact(Qef hq hO hl hi rfl fun j y hj hy=>hE.slot1 hj hi hy).mono fun e w' ⟨h1,h2⟩=>⟨_,h1,.inr ⟨i,x,rfl,hi,rfl⟩,h2⟩
 . exact(slot_noI13 hq hO hl fun x hx e=>h ⟨x,hx,e⟩).mono fun e w' ⟨h1,h2⟩=>⟨_,h1,.inl rfl,h2⟩
end
section
variable {w w' w0 W:World}{zb base q p gb cap m m' i g c s u v L:Nat}{V S T:Int}{da oa:Option Addr}{dl dc ol oc:Nat}{f f':Nat->Int}{mk mk':Nat->Nat}{ts ts':List Tp}{vl v2:Value}{ls ls' bs es:List E1}{qq qq':Nat->Nat->List Nat}{x:E1}
theorem ER.perm13 (h:ER V S T f bs)(hp:bs.Perm es):ER V S T f es:=
 ⟨fun e he=>h.ok e (hp.mem_iff.2 he),(hp.pairwise_iff (fun hab=>⟨Ne.symm hab.1,fun c=>hab.2 ⟨c.1.symm,c.2.symm⟩⟩)).1 h.un,fun e he=>h.is e (hp.mem_iff.2 he),fun u v h1 h2 h3=>h.no u v h1 h2 fun e he=>h3 e (hp.mem_iff.1 he)⟩
theorem LwX.seek13 (h:LwX w W zb V S T da dl dc oa ol oc base q p gb cap m f mk ts vl ls qq)(hG:RH13 V S T dl ol)(hL:((L+1:Nat):Int)<lv V)(hv:(v:Int)<V)(hm:m<=99740000):
 Calls Tryz.prog 16 #[vA V S T p,I (L:Int),I (v:Int)] W fun e w'=>∃ (r:Int) (ok:Bool) (f':Nat->Int) (mk':Nat->Nat) (bs:List E1) (q':Nat->Nat->List Nat),e=.returned (.tuple #[I r,.bool ok])/\LwY w w' zb V S T da dl dc oa ol oc base q p gb cap (m+24000) f' mk' ts vl ls bs q'/\Up ls bs (PS13 ls L v)/\
  ((ok=false/\r=0/\∀ x∈bs,¬ BS13 ls L v x)\/(ok=true/\∃ x∈bs,r=(x.s:Int)/\x.t=false/\x.l=L/\(Way (tE ls L) x.u v↔¬ Way (tE ls L) x.v v))):=by
 have h66:=nN66 hG.r hG.v hG.s
 have s8:S.toNat<=8:=by have:=hG.s;omega
 have hmul:S.toNat*(38*nN V S+140)<=8*2648:=Nat.mul_le_mul s8 (by omega)
 have hmul2:(S.toNat+1)*(38*nN V S+140)<=9*2648:=Nat.mul_le_mul (by omega) (by omega)
 refine(Qpv h.pw.ta h.lg hL hv (by omega)).mono ?_
 rintro e w' ⟨r,ok,f',mk',bs,q',rfl,A,hG',hU,hc,O⟩
 exact⟨r,ok,f',mk',bs,q',rfl,(h.y.next A O hG').more (by omega),hU,hc⟩
def Bo13 (b:BkV)(mk:Nat->Nat)(ts:List Tp)(bs:List E1)(qq:Nat->Nat->List Nat)(W:World):Prop:=∃ cv g,Bk W b cv/\Sd13 b cv g mk ts bs qq
theorem LwY.book (h:LwY w W zb V S T da dl dc oa ol oc base q p gb cap m f mk ts vl ls ls' qq)(hG:RH13 V S T dl ol)(hm:m<=99900000):
 Calls Tryz.prog 17 #[.pointer (some (I1 q 0))] W fun e w'=>∃ b:BkV,e=.returned (vB b)/\Bo13 b mk ts ls' qq w'/\b.V=V/\LwY w w' zb V S T da dl dc oa ol oc base q p gb cap (m+600) f mk ts vl ls ls' qq:=by
 have h6:=QkH hG.r hG.v hG.s;obtain⟨g,hTM,hFI,hrs⟩:=h.pw.ta;obtain⟨f9,hE,r⟩:=hTM.em
 refine(QkM h.pw.pq hE (by omega) (by omega)).mono ?_
 rintro e w' ⟨b,rfl,hB,hV,hS,hT,hE2,hO⟩
 exact⟨b,rfl,⟨_,g,hB,QnX h.lg hE.hR hFI r hrs hB hV hS hT⟩,hV,(h.next ⟨g,TM.of_em hE2 r,hFI,hrs⟩ hO h.lg).more (by omega)⟩
theorem LwY.list (h:LwY w W zb V S T da dl dc oa ol oc base q p gb cap m f mk ts vl ls ls' qq)(hE:EW W base v2 es):LwY w (W.setCell (I1 q 14) v2) zb V S T da dl dc oa ol oc base q p gb cap m f mk ts v2 es ls' qq:=
 ⟨Blk.far (p:=(I1 q 14)) h.z (Blk.ne_ h.z h.pw.pq (by decide)) _,h.be.setCell (p:=(I1 q 14)) (Nat.le_trans h.bs h.pw.bq) _,h.pw.list hE,h.lg,h.bs⟩
theorem Bo13.edges {b:BkV}(h:Bo13 b mk ts bs qq W)(hb:base<=W.heap.size):
 Calls Tryz.prog 18 #[vB b] W fun e w'=>∃ v es,e=.returned (.tuple #[v,.bool true])/\es.Perm bs/\EW w' base v es/\Below W.heap.size W w':=by
 obtain⟨cv,g,hB,hS⟩:=h;refine(QfG hB hS.er).mono ?_;rintro e w' ⟨v,rfl,hE,hb'⟩;exact⟨v,_,rfl,hS.er.all_perm,hE.less hb,hb'⟩
theorem Bo13.sound {b:BkV}(h:Bo13 b mk ts bs qq W):
 Calls Tryz.prog 20 #[vB b,.bool false] W fun e w'=>e=.returned (.bool true)/\Below W.heap.size W w':=by
 obtain⟨cv,g,hB,hS⟩:=h;exact Qh1 hB hS
end
section
variable {V S T v li:Int}{da oa:Option Addr}{dl dc ol oc:Nat}{fd:Nat->Nat}{fo:Nat->O13}
structure SY13 (W:World)(q p base:Nat)(V S T:Int)(vl:Value)(ls:List E1)(xb yb:Nat)(x y:E1):Prop where
 pq:PB13 W q V S T p vl
 ew:EW W base vl ls
 bx:Blk W xb 56 #[I (x.s:Int),I (x.u:Int),I (x.v:Int),I (x.l:Int),.bool x.t]
 by_:Blk W yb 56 #[I (y.s:Int),I (y.u:Int),I (y.v:Int),I (y.l:Int),.bool y.t]
theorem SY13.below {W W':World}{q p base:Nat}{V S T:Int}{vl:Value}{ls:List E1}{xb yb:Nat}{x y:E1}(h:SY13 W q p base V S T vl ls xb yb x y)(hb:Below W.heap.size W W'):SY13 W' q p base V S T vl ls xb yb x y:=⟨h.pq.below hb,h.ew.below hb,h.bx.below hb h.bx.lt,h.by_.below hb h.by_.lt⟩
theorem SY13.rule {q p base:Nat}{V S T:Int}{vl:Value}{ls:List E1}{xb yb:Nat}{x y:E1}:∀ W:World,SY13 W q p base V S T vl ls xb yb x y->W.cell? (I1 yb 1)=some (I (y.u:Int))/\W.cell? (I1 yb 2)=some (I (y.v:Int)):=fun _ h=>⟨h.by_.cell 1,h.by_.cell 2⟩
set_option maxHeartbeats 16000000 in
theorem lseeks13 (w:World)(hD:QfW w da dl fd)(hO:Qmx w oa ol fo):
 Calls Tryz.prog 5 #[vC13 V S T da dl dc oa ol oc,I li,I v] w fun e w'=>e=.returned (.bool true)/\Below w.heap.size w w':=by
 have HO:=q9 hO;have HD:=q9 hD;clear hO hD;have HB1:Hid (Below w.heap.size w (w.alloc (.cells #[I V,I S,I T,.slice da dl dc,.slice oa ol oc] 27))):=q9 ((Below.refl _ _).alloc (Nat.le_refl _) _);have HZ1:Hid (Blk (w.alloc (.cells #[I V,I S,I T,.slice da dl dc,.slice oa ol oc] 27)) w.heap.size 27 #[I V,I S,I T,.slice da dl dc,.slice oa ol oc]):=q9 (Blk.new _ _ _)
 go_enter Tryz.func5,Tryz.ntmps5
 go_upto_region 1 with fail
 generalize (w.alloc (.cells #[I V,I S,I T,.slice da dl dc,.slice oa ol oc] 27))=W1 at HB1 HZ1 |-;generalize w.heap.size=zb at HZ1 |-;have z0:=HZ1.cell 0;have z1:=HZ1.cell 1;have z2:=HZ1.cell 2;have z3:=HZ1.cell 3;have z4:=HZ1.cell 4;have zlt:=HZ1.lt;go_wp2_with fail
 refine(Qf3 V S T da dl dc oa ol oc _).mono ?_;rintro e w2 ⟨rfl,hb2⟩;have HB2:=q9 (HB1.trans (hb2.mono HB1.size));have HZ2:=q9 (HZ1.below hb2 HZ1.lt);clear HB1 HZ1 hb2 z0 z1 z2 z3 z4 zlt
 cases hr:Qd4 V S T dl ol
 . go_wp2_with fail
   refine(QdT _).mono ?_;rintro e w3 ⟨rfl,hb3⟩;have HB3:=q9 (HB2.trans (hb3.mono HB2.size));go_wp2_with fail
   go_ret;exact⟨rfl,HB3⟩
 have HG:=q9 (Qif hr);clear hr;have z0:=HZ2.cell 0;have z1:=HZ2.cell 1;have z2:=HZ2.cell 2;have z3:=HZ2.cell 3;have z4:=HZ2.cell 4;have zlt:=HZ2.lt
 by_cases b0:v<0
 . go_wp2_with fail
   refine(QdT _).mono ?_;rintro e w3 ⟨rfl,hb3⟩;have HB3:=q9 (HB2.trans (hb3.mono HB2.size));go_wp2_with fail
   go_ret;exact⟨rfl,HB3⟩
 by_cases b1:V<=v
 . go_wp2_with fail
   refine(QdT _).mono ?_;rintro e w3 ⟨rfl,hb3⟩;have HB3:=q9 (HB2.trans (hb3.mono HB2.size));go_wp2_with fail
   go_ret;exact⟨rfl,HB3⟩
 obtain⟨v,rfl⟩:∃ n:Nat,v=(n:Int):=⟨v.toNat,by omega⟩
 have HVV:Hid ((v:Int)<V):=q9 (by omega)
 go_wp2_with fail
 refine(QjB HG HD HZ2 HB2).mono ?_;rintro e w3 ⟨base,q,p,gb,cap,f0,mk0,ts0,vl0,rfl,_,hL⟩;have HRel:Hid (Lp13 w zb V S T da dl dc oa ol oc base q p gb cap (I 0) w3):=q9 ⟨0,_,_,_,_,_,_,Nat.zero_le _,rfl,hL⟩;clear z0 z1 z2 z3 z4 zlt HZ2 HB2;have z4:=hL.z.cell 4;have zlt:=hL.z.lt;clear hL
 have holI:(ol:Int)<=40:=by have:=HG.o;omega
 go_wp2_with fail
 go_loopw [43] (fun i wr=>Lp13 w zb V S T da dl dc oa ol oc base q p gb cap i wr) (fun i _=>ol-(intOf i).toNat)
 case atStart=>exact HRel.out
 case round=>
  clear HRel z4 zlt;obtain⟨k,f,mk,ts,vl,ls,qq,hk,rfl,hL⟩:=hrel;have HL:=q9 hL;clear hL
  by_cases hkl:k<ol
  . as_aux_lemma=>
    obtain⟨ob,off,rfl,hcell⟩:=HO.out (by omega)
    have hc:=hcell k hkl;obtain⟨o,ho⟩:∃ o,fo k=o:=⟨_,rfl⟩;rw[ho] at hc;obtain⟨kd,s9,u9,v9⟩:=o;have c0:=Qi HL.be hc.1;have c1:=Qi HL.be hc.2.1;have c2:=Qi HL.be hc.2.2.1;have c3:=Qi HL.be hc.2.2.2
    have hkI:(k:Int)<(ol:Int):=by omega
    have hk0:(0:Int)<=(k:Int):=by omega
    have HLa:=q9 (HL.alloc (.cells #[I kd,I s9,I u9,I v9] 33));clear hc ho hcell HL;go_wp2_with fail
    refine(Qln HLa HG (by omega)).mono ?_
    rintro e w5 ⟨rfl,f',mk',ts',vl',ls',qq',hL5⟩
    have HL5:=q9 (hL5.more (m':=660+14680*(k+1)) (by omega))
    clear hL5 HLa c0 c1 c2 c3;go_wp2_with fail
    go_roundw
    case rel=>exact⟨k+1,f',mk',ts',vl',ls',qq',hkl,by simp,HL5.out⟩
    case measure=>simp [intOf];omega
  . have ek:ol=k:=by omega
    subst ek
    have hkI:¬ (ol:Int)<(ol:Int):=by omega
    clear hk hkl
    as_aux_lemma=>
    obtain⟨M9,hM9⟩:∃ M,660+14680*ol=M:=⟨_,rfl⟩
    have HM9:Hid (M9<=587860):=q9 (by have:=HG.o;omega)
    rw[hM9] at HL;clear hM9
    by_cases b4:li<0
    . go_wp2_with fail
      refine(QdT _).mono ?_;rintro e w3 ⟨rfl,hb3⟩;have HB3:=q9 (HL.be.trans (hb3.mono HL.be.size));go_wp2_with fail
      go_ret;exact⟨rfl,HB3⟩
    have z0:=HL.z.cell 0;have z1:=HL.z.cell 1;have z2:=HL.z.cell 2;have zlt:=HL.z.lt;have lb9:=QF V;go_wp2_with fail
    refine(QM V S T HG.r _).mono ?_;rintro e w9 ⟨rfl,hb9⟩;have HL9:=q9 (HL.below hb9);clear HL hb9 z0 z1 z2 zlt
    by_cases b5:lv V-1<=li
    . go_wp2_with fail
      refine(QdT _).mono ?_;rintro e w3 ⟨rfl,hb3⟩;have HB3:=q9 (HL9.be.trans (hb3.mono HL9.be.size));go_wp2_with fail
      go_ret;exact⟨rfl,HB3⟩
    obtain⟨L,rfl⟩:∃ n:Nat,li=(n:Int):=⟨li.toNat,by omega⟩
    have HLV:Hid (((L+1:Nat):Int)<lv V):=q9 (by omega)
    have L5:(L:Int)<=5:=by omega
    have L0:(0:Int)<=(L:Int):=by omega
    obtain⟨ga,gc,hge⟩:=HL9.pw.ew.slice;obtain⟨n,hn⟩:∃ n,ls.length=n:=⟨_,rfl⟩;have HN:=q9 hn;rw[hn] at hge;subst hge
    have n48:n<=1000:=by have:=HL9.len.2;omega
    have nI:(n:Int)<=1000:=by omega
    clear hn;obtain⟨y0,y1,y2,y3,y4,y5,y6,y7,y8,y9,y10,y11,y12,y13,y14⟩:=HL9.pw.pq.cells;have qlt:=HL9.pw.pq.lt;go_wp2_with fail
    refine(HL9.seek13 HG.out HLV.out HVV.out (by have:=HM9.out;omega)).mono ?_
    rintro e w10 ⟨r,ok,f1,mk1,bs,q1,rfl,hY,hU,hC⟩
    have HY:=q9 (hY.more (m':=620000) (by have:=HM9.out;omega))
    have HU:=q9 hU;have HC:=q9 hC
    have HEO:Hid (∀ x∈ls,x.u<x.v/\(x.v:Int)<V):=q9 fun x hx=>⟨(HL9.lg.er.ok x hx).1,(HL9.lg.er.ok x hx).2.1⟩
    have HUN:Hid (∀ (i:Nat) (x:E1),ls[i]?=some x->∀ j y,ls[j]?=some y->y.s=x.s->j=i):=q9 fun i x hi j y hj e=>HL9.lg.er.slot1 hj hi e
    have HLL:Hid (ls.length<=1000):=q9 HL9.len.2
    have HV6:Hid (V<=100):=q9 (by have:=HG.v;omega)
    clear hY hU hC HL9 y0 y1 y2 y3 y4 y5 y6 y7 y8 y9 y10 y11 y12 y13 y14 qlt b4 b5 lb9;go_wp2_with fail
    refine(HY.book HG (by omega)).mono ?_
    rintro e w11 ⟨b,rfl,hB,hV,hY2⟩;have HBo:=q9 hB;have HY2:=q9 hY2;clear hB hV hY2 HY;go_wp2_with fail
    refine(HBo.edges HY2.pw.size).mono ?_;rintro e w12 ⟨v5,es,rfl,hP,hE,hb12⟩;obtain⟨ea,en,ec,rfl,hE⟩:=QbI hE
    have hen:es.length=en:=by
     obtain⟨a,c,e⟩:=hE.slice;injection e with _ e _;exact e.symm
    obtain rfl:n=en:=by rw[<-hen,hP.length_eq,HU.len];exact HN.symm
    have HEN:=q9 hen;have HPM:=q9 hP;have HE:=q9 hE;have HY3:=q9 (HY2.below hb12);clear hP hE hb12 hen HY2 HBo;obtain⟨y0,y1,y2,y3,y4,y5,y6,y7,y8,y9,y10,y11,y12,y13,y14⟩:=HY3.pw.pq.cells;have qlt:=HY3.pw.pq.lt;go_wp2_with fail
    clear y0 y1 y2 y3 y4 y5 y6 y7 y8 y9 y10 y11 y12 y13 y14 qlt;have HREL:Hid (KT13 w12 n (I 0) w12):=q9 ⟨0,Nat.zero_le _,rfl,Below.refl _ _⟩
    go_loopw [92] (fun i wr=>KT13 w12 n i wr) (fun i _=>n-(intOf i).toNat)
    case atStart=>exact HREL.out
    case round=>
     clear HREL;obtain⟨k,hk,rfl,hb⟩:=hrel;have HB:=q9 hb;clear hb
     by_cases hkn:k<n
     . as_aux_lemma=>
       have HEk:=q9 (HE.below HB.out)
       obtain⟨x,hx⟩:∃ x,es[k]?=some x:=⟨_,List.getElem?_eq_getElem (by have:=HEN.out;omega)⟩
       obtain⟨gb9,cap9,e1,_,glt,gfr,g0,g1,g2,g3,g4⟩:=HEk.at hx;injection e1 with e1 e2 e3;subst e1;have hxb:=HPM.mem_iff.1 (List.mem_of_getElem? hx);obtain⟨i,hi⟩:=List.mem_iff_getElem?.1 hxb
       have hil:i<n:=by have:=(List.getElem?_eq_some_iff.1 hi).1;have:=HU.len;have:=HN.out;omega
       obtain⟨y,hy⟩:∃ y,ls[i]?=some y:=⟨_,List.getElem?_eq_getElem (by have:=HN.out;omega)⟩
       have HXB:=q9 hxb;have HYI:=q9 hy
       have HST:Hid (x=y\/(PS13 ls L v y/\x={ y with l:=y.l+1 })):=q9 (by
        rcases HU.st i y hy with h1|⟨h0,h1⟩
        . exact .inl (Option.some.inj (hi.symm.trans h1))
        . exact .inr ⟨h0,Option.some.inj (hi.symm.trans h1)⟩)
       have HSE:Hid (y.s=x.s):=q9 (by rcases HST.out with e|⟨_,e⟩<;>rw[e])
       have kI:(k:Int)<(n:Int):=by omega
       have k0:(0:Int)<=(k:Int):=by omega
       have iI:(i:Int)<(n:Int):=by omega
       have i0:(0:Int)<=(i:Int):=by omega
       have iN:¬ (i:Int)<0:=by omega
       have HK1:Hid (k+1<=n):=q9 hkn;clear e2 e3 hx hxb hi hy hk hkn hil;go_upto_region 20 with fail
       have hba:Below wr.heap.size wr (wr.alloc (.cells #[I (x.s:Int),I (x.u:Int),I (x.v:Int),I (x.l:Int),.bool x.t] 56)):=(Below.refl _ _).alloc (Nat.le_refl _) _;have HXE:Hid (Blk (wr.alloc (.cells #[I (x.s:Int),I (x.u:Int),I (x.v:Int),I (x.l:Int),.bool x.t] 56)) wr.heap.size 56 #[I (x.s:Int),I (x.u:Int),I (x.v:Int),I (x.l:Int),.bool x.t]):=q9 (Blk.new _ _ _);have HBa:=q9 (HB.trans (hba.mono HB.size));have HYa:=q9 (HY3.below HBa.out);clear HB HEk hba g0 g1 g2 g3 g4 glt gfr;generalize wr.alloc (.cells #[I (x.s:Int),I (x.u:Int),I (x.v:Int),I (x.l:Int),.bool x.t] 56)=w13 at HXE HBa HYa |-;generalize wr.heap.size=xb at HXE |-;have y0:=HXE.cell 0;have elt:=HXE.lt;go_wp2_with fail
       refine(Qef HYa.pw.pq HYa.pw.ew HLL HYI HSE (fun j z hj e=>HUN.out i y HYI j z hj (e.trans HSE.symm))).mono ?_;rintro e w14 ⟨rfl,b14⟩
       have HX7:=q9 (HXE.below b14 HXE.lt);have HB7:=q9 (HBa.trans (b14.mono HBa.size));have HY7:=q9 (HYa.below b14);clear HXE HBa HYa b14 y0 elt;obtain⟨gb8,cap8,e1,_,glt,gfr,g0,g1,g2,g3,g4⟩:=HY7.pw.ew.at HYI.out;injection e1 with e1 e2 e3;subst e1;clear e2 e3;obtain⟨y0,y1,y2,y3,y4,y5,y6,y7,y8,y9,y10,y11,y12,y13,y14⟩:=HY7.pw.pq.cells;have qlt:=HY7.pw.pq.lt;go_upto_region 24 with fail
       have hba:Below w14.heap.size w14 (w14.alloc (.cells #[I (y.s:Int),I (y.u:Int),I (y.v:Int),I (y.l:Int),.bool y.t] 56)):=(Below.refl _ _).alloc (Nat.le_refl _) _;have HB8:=q9 (HB7.trans (hba.mono HB7.size));have HXY:Hid (xb≠w14.heap.size):=q9 (Nat.ne_of_lt HX7.lt);have HQ:Hid (SY13 (w14.alloc (.cells #[I (y.s:Int),I (y.u:Int),I (y.v:Int),I (y.l:Int),.bool y.t] 56)) q p base V S T (I3 (I1 gb8 0) n gc) ls xb w14.heap.size x y):=q9 ⟨HY7.pw.pq.below hba,HY7.pw.ew.below hba,HX7.below hba HX7.lt,Blk.new _ _ _⟩
       have HYU:Hid ((y.u:Int)<V/\(y.v:Int)<V):=q9 (by have:=HEO.out y (List.mem_of_getElem? HYI.out);omega)
       have HYB:Hid (w12.heap.size<=w14.heap.size):=q9 HB7.size;clear hba HX7 HB7 HY7 y0 y1 y2 y3 y4 y5 y6 y7 y8 y9 y10 y11 y12 y13 y14 qlt g0 g1 g2 g3 g4 glt gfr;generalize w14.alloc (.cells #[I (y.s:Int),I (y.u:Int),I (y.v:Int),I (y.l:Int),.bool y.t] 56)=w15 at HB8 HQ |-;generalize w14.heap.size=yb at HXY HYB HQ |-;have hd:Below w15.heap.size w15 w15.drew:=(Below.refl _ _).drew;have HQd:=q9 (HQ.below hd);have HB9:=q9 (HB8.trans (hd.mono HB8.size));clear hd HQ HB8;have hrule:=SY13.rule (q:=q) (p:=p) (base:=base) (V:=V) (S:=S) (T:=T) (vl:=(I3 (I1 gb8 0) n gc)) (ls:=ls) (xb:=xb) (yb:=yb) (x:=x) (y:=y);obtain⟨y1,y2⟩:=hrule _ HQd.out;have elt:=HQd.by_.lt
       go_region_held3 (fun W=>SY13 W q p base V S T (I3 (I1 gb8 0) n gc) ls xb yb x y) (first|(with_reducible assumption)|(with_reducible exact H2.out.1)|(with_reducible exact H1.out.1)|(with_reducible exact HQd.out))
        (first
         |(go_at_call 14;((with_reducible refine(Qkv (L:=L) (u:=y.u) (v9:=v) HQd.out.pq HQd.out.ew HLL.out HEO.out HV6.out HYU.out.1).mono ?_);rintro e w16 ⟨r1,rfl,hr1,hb1⟩;have H1:=q9 (And.intro (HQd.out.below hb1) (HB9.out.trans (hb1.mono HB9.out.size)))))
         |(go_at_call 14;((with_reducible refine(Qkv (L:=L) (u:=y.v) (v9:=v) H1.out.1.pq H1.out.1.ew HLL.out HEO.out HV6.out HYU.out.2).mono ?_);rintro e w17 ⟨r2,rfl,hr2,hb2⟩;have H2:=q9 (And.intro (H1.out.1.below hb2) (H1.out.2.trans (hb2.mono H1.out.2.size))))))
       have HR1:=q9 hr1;have HR2:=q9 hr2
       have HN5:Hid (KT13 w12 n (I ((k:Int)+1)) w17):=q9 ⟨k+1,HK1.out,by simp,H2.2⟩
       have HQ2:=q9 H2.1;have HB17:=q9 H2.2;clear hr1 hr2 hb1 hb2 H1 H2 hrule y1 y2 elt HQd HB9;have c0:=HQ2.bx.cell 0;have c1:=HQ2.bx.cell 1;have c2:=HQ2.bx.cell 2;have c3:=HQ2.bx.cell 3;have c4:=HQ2.bx.cell 4;have clt:=HQ2.bx.lt;have d0:=HQ2.by_.cell 0;have d1:=HQ2.by_.cell 1;have d2:=HQ2.by_.cell 2;have d3:=HQ2.by_.cell 3;have d4:=HQ2.by_.cell 4;have dlt:=HQ2.by_.lt
       cases hyt:y.t
       rotate_left
       . as_aux_lemma=>
         have e:x=y:=by
          rcases HST.out with e|⟨h0,_⟩
          . exact e
          . have h1:=h0.1
            rw[hyt] at h1
            cases h1
         subst e;rw[hyt] at c4 d4;clear hyt;go_wp2_with fail
         go_roundw
         case rel=>exact HN5.out
         case measure=>simp [intOf];omega
       by_cases hyl:y.l=L
       rotate_left
       . as_aux_lemma=>
         have e:x=y:=by
          rcases HST.out with e|⟨h0,_⟩
          . exact e
          . exact absurd h0.2.1 hyl
         subst e
         have hne:((x.l:Int) !=(L:Int))=true:=bne_iff_ne.2 (by omega)
         rw[hyt] at c4 d4;clear hyt hyl;go_wp2_with fail
         go_roundw
         case rel=>exact HN5.out
         case measure=>simp [intOf];omega
       have HTL:=q9 (And.intro hyt hyl)
       rcases HST.out with e|⟨h0,e⟩
       . subst e
         rw[hyt] at c4 d4;rw[hyl] at c3 d3;clear hyt hyl
         rcases HC.out with ⟨rfl,rfl,hno⟩|⟨rfl,x0,hx0,rfl,ht0,hl0,hw0⟩
         . as_aux_lemma=>
           have e1:r1=false:=by
            cases r1
            . rfl
            . exact absurd ⟨HTL.1,HTL.2,.inl (HR1.1 rfl)⟩ (hno _ HXB)
           have e2:r2=false:=by
            cases r2
            . rfl
            . exact absurd ⟨HTL.1,HTL.2,.inr (HR2.1 rfl)⟩ (hno _ HXB)
           subst e1 e2;clear hno;go_wp2_with fail
           all_goals
            go_roundw
            case rel=>exact HN5.out
            case measure=>simp [intOf];omega
         . by_cases hs:x.s=x0.s
           . have e0:=HY3.lg.er.uniq HXB.out hx0 hs
             subst e0
             have e1:r1=!r2:=by
              have h1:=HR1.out;have h2:=HR2.out
              cases r1<;>cases r2<;>simp_all
             subst e1;clear hx0 ht0 hl0 hw0 hs
             cases r2
             . as_aux_lemma=>
               go_wp2_with fail
               go_roundw
               case rel=>exact HN5.out
               case measure=>simp [intOf];omega
             . as_aux_lemma=>
               go_wp2_with fail
               go_roundw
               case rel=>exact HN5.out
               case measure=>simp [intOf];omega
           . as_aux_lemma=>
             have hne:((x.s:Int)==(x0.s:Int))=false:=beq_eq_false_iff_ne.2 (by omega)
             clear hx0 ht0 hl0 hw0 hs;go_wp2_with fail
             go_roundw
             case rel=>exact HN5.out
             case measure=>simp [intOf];omega
       . as_aux_lemma=>
         have e1:r1=true:=HR1.2 h0.2.2.1;have e2:r2=true:=HR2.2 h0.2.2.2;subst e1 e2 e
         have HN6:Hid (KT13 w12 n (I ((k:Int)+1)) (w17.setCell (I1 yb 3) (I ((L:Int)+1)))):=q9 ⟨k+1,HK1.out,by simp,HB17.setCell (p:=(I1 yb 3)) HYB.out _⟩
         have c3':w17.cell? (I1 xb 3)=some (I ((L:Int)+1)):=by
          have h9:((y.l+1:Nat):Int)=(L:Int)+1:=by omega
          rw[<-h9];exact c3
         have c4':w17.cell? (I1 xb 4)=some (.bool false):=by rw[<-hyt];exact c4
         rw[hyt] at d4;rw[hyl] at d3;have hxy:=HXY.out;have dfr:=Blk.frozen HQ2.by_ 3
         have hne:(((L:Int)+1)==(L:Int))=false:=beq_eq_false_iff_ne.2 (by omega)
         clear c3 c4 hyt hyl h0;go_wp2_with fail
         go_roundw
         case rel=>exact HN6.out
         case measure=>simp [intOf];omega
     . as_aux_lemma=>
       have ek:n=k:=by omega
       subst ek
       have kN:¬ (n:Int)<(n:Int):=by omega
       have HY4:=q9 (HY3.below HB.out);have HY5:=q9 (HY4.list (HE.below HB.out));have HES:Hid (ER V S T f1 es):=q9 (HY3.lg.er.perm13 HPM.symm)
       have HEL:Hid (es.length<=1000):=q9 (by have:=HEN.out;omega)
       obtain⟨y0,y1,y2,y3,y4,y5,y6,y7,y8,y9,y10,y11,y12,y13,y14⟩:=HY4.pw.pq.cells;have qlt:=HY4.pw.pq.lt;have qfr:=Blk.frozen HY4.pw.pq 14;clear hk hkn HB;go_wp2_with fail
       clear qfr
       rcases HC.out with ⟨rfl,rfl,_⟩|⟨rfl,x0,hx0,rfl,ht0,hl0,_⟩
       . as_aux_lemma=>
         clear HY4 y0 y1 y2 y3 y4 y5 y6 y7 y8 y9 y10 y11 y12 y13 y14 qlt;refine(slot_int13 HY5.pw.pq HY5.pw.ew HEL HES 0).mono ?_;rintro e w18 ⟨r9,rfl,_,b18⟩;have HY6:=q9 (HY5.below b18);clear HY5 b18;go_wp2_with fail
         refine(HY6.book HG (by omega)).mono ?_
         rintro e w19 ⟨b2,rfl,hB2,_,hY7⟩;have HB2:=q9 hB2;have HB7:=q9 hY7.be;clear hB2 hY7 HY6;go_wp2_with fail
         refine HB2.sound.mono ?_;rintro e w20 ⟨rfl,b20⟩;have HB8:=q9 (HB7.trans (b20.mono HB7.size));clear HB2 HB7 b20;go_wp2_with fail
         refine(QdT _).mono ?_;rintro e w3 ⟨rfl,hb3⟩;have HB3:=q9 (HB8.trans (hb3.mono HB8.size));go_wp2_with fail
         go_ret;exact⟨rfl,HB3⟩
       . as_aux_lemma=>
         clear HY4 y0 y1 y2 y3 y4 y5 y6 y7 y8 y9 y10 y11 y12 y13 y14 qlt;obtain⟨j,hj⟩:=List.mem_iff_getElem?.1 (HPM.mem_iff.2 hx0)
         refine(Qef HY5.pw.pq HY5.pw.ew HEL hj rfl (fun j' z hz e=>HES.slot1 hz hj e)).mono ?_
         rintro e w18 ⟨rfl,b18⟩;have HY6:=q9 (HY5.below b18);clear HY5 b18;obtain⟨gb9,cap9,e1,_,glt,gfr,g0,g1,g2,g3,g4⟩:=HY6.pw.ew.at hj;injection e1 with e1 e2 e3;subst e1
         have hjn:j<n:=by have:=HEN.out;have:=(List.getElem?_eq_some_iff.1 hj).1;omega
         have jI:(j:Int)<(n:Int):=by omega
         have j0:(0:Int)<=(j:Int):=by omega
         rw[ht0] at g4;rw[hl0] at g3;clear e2 e3 hj hx0 ht0 hl0 hjn g0 g1 g2;obtain⟨y0,y1,y2,y3,y4,y5,y6,y7,y8,y9,y10,y11,y12,y13,y14⟩:=HY6.pw.pq.cells;have qlt:=HY6.pw.pq.lt;go_wp2_with fail
         refine(HY6.book HG (by omega)).mono ?_
         rintro e w19 ⟨b2,rfl,hB2,_,hY7⟩;have HB2:=q9 hB2;have HB7:=q9 hY7.be;clear hB2 hY7 HY6;go_wp2_with fail
         refine HB2.sound.mono ?_;rintro e w20 ⟨rfl,b20⟩;have HB8:=q9 (HB7.trans (b20.mono HB7.size));clear HB2 HB7 b20;go_wp2_with fail
         refine(QdT _).mono ?_;rintro e w3 ⟨rfl,hb3⟩;have HB3:=q9 (HB8.trans (hb3.mono HB8.size));go_wp2_with fail
         go_ret;exact⟨rfl,HB3⟩
end
end Go.Proofs.YtaooglagddphnaaGreat
