/- Gi -/
import Derived.Test.YtaooglagddphnaaGreatXGh
import Derived.Test.YtaooglagddphnaaGreatXW
namespace Go.Proofs.YtaooglagddphnaaGreat
open Go.RowKit
set_option maxRecDepth 100000
section
variable {w w' w0 W:World}{V S T:Int}{b p gb cap m L s u v i l:Nat}{f f':Nat->Int}{mk mk':Nat->Nat}{ts ts':List Tp}{bs bs':List E1}{q q':Nat->Nat->List Nat}{x e x':E1}
theorem Qfr {r:Nat}{x0 x1 x2 x3 x4 y0 y1 y2 y3 y4:Value}(h:LX w0 w b V S T p gb cap m f mk ts)(hr:Blk w r 94 #[x0,x1,x2,x3,x4])(hb:w0.heap.size<=r):
 LX w0 (((((w.setCell (I1 r 0) y0).setCell (I1 r 1) y1).setCell (I1 r 2) y2).setCell (I1 r 3) y3).setCell (I1 r 4) y4) b V S T p gb cap m f mk ts/\Blk (((((w.setCell (I1 r 0) y0).setCell (I1 r 1) y1).setCell (I1 r 2) y2).setCell (I1 r 3) y3).setCell (I1 r 4) y4) r 94 #[y0,y1,y2,y3,y4]:=by
 have k0:=hr.set_ 0 y0;have k1:=k0.set_ 1 y1;have k2:=k1.set_ 2 y2;have k3:=k2.set_ 3 y3;have k4:=k3.set_ 4 y4
 exact⟨((((h.set hr hb (by decide) (by decide) (by decide) 0 y0).set k0 hb (by decide) (by decide) (by decide) 1 y1).set k1 hb (by decide) (by decide) (by decide) 2 y2).set k2 hb (by decide) (by decide) (by decide) 3 y3).set k3 hb (by decide) (by decide) (by decide) 4 y4,k4⟩
end
section
variable {w w' w0 W:World}{V S T:Int}{b p gb cap m L s u v i l:Nat}{f f':Nat->Int}{mk mk':Nat->Nat}{ts ts':List Tp}{bs bs':List E1}{q q':Nat->Nat->List Nat}{x e x':E1}
def BS13 (bs:List E1)(L v:Nat)(x:E1):Prop:=x.t=false/\x.l=L/\(Way (tE bs L) x.u v\/Way (tE bs L) x.v v)
def Qog (V S T:Int)(p gb cap m:Nat)(f:Nat->Int)(mk:Nat->Nat)(ts:List Tp)(bs:List E1)(L v:Nat)(w:World)(e:Ending)(w':World):Prop:=
 ∃ (r:Int) (ok:Bool),e=.returned (.tuple #[I r,.bool ok])/\((ok=false/\∀ x∈bs,¬ BS13 bs L v x)\/(ok=true/\∃ (i:Nat) (x:E1),bs[i]?=some x/\BS13 bs L v x/\r=(x.s:Int)))/\TA w' V S T p gb cap m f mk ts/\Only p gb w w'
end
section
variable {w w' w0 W:World}{V S T:Int}{b p gb cap m L s u v i l:Nat}{f f':Nat->Int}{mk mk':Nat->Nat}{ts ts':List Tp}{bs bs':List E1}{q q':Nat->Nat->List Nat}{x e x':E1}
theorem LF.lvl_t (h:LF V S T f mk ts bs q)(hR:Rt V S T)(hF:FJ V S mk ts){t:Tp}(hL:(L:Int)<lv V)(hv:(v:Int)<V)(ht:t∈ts)(hx:Xn V L v∈t.row):(∀ y∈t.row,lvN V y=(L:Int))/\∀ y∈t.row,(∃ u:Nat,(u:Int)<V/\y=Xn V L u)\/∃ s d:Nat,(s:Int)<S/\d<2/\y=An V S L s d:=by
 obtain⟨gr,hV,hg⟩:=h.fo;obtain⟨rows,hr⟩:=hV L hL;obtain⟨r,hr1,hx1⟩:=hr.cov v hv;obtain⟨z,hz,ez⟩:=hr.has r hr1
 have e:=hF.uniq hz ht (by rw[ez];exact hx1) hx
 subst e;obtain⟨_,hF⟩:=hF;rw[ez]
 exact⟨fun y hy=>hr.lvl hR hL hF hr1 hy,fun y hy=>hr.kind hR hF hr1 hy⟩
theorem LF.way (h:LF V S T f mk ts bs q)(hR:Rt V S T)(hF:FJ V S mk ts){t:Tp}(hL:(L:Int)<lv V)(ht:t∈ts)(hx:Xn V L u∈t.row)(hu:(u:Int)<V)(v:Nat):Way (tE bs L) u v↔Xn V L v∈t.row:=by
 obtain⟨gr,hV,hg⟩:=h.fo;obtain⟨z,hz,hx1,hj⟩:=hV.row hR hL hF hu;have e:=hF.uniq hz ht hx1 hx;subst e;rw[<-Jn.way (hg L hL)];exact hj v
theorem LF.first_vertex (h:LF V S T f mk ts bs q)(hK:∀ x∈bs,x.u<x.v/\(x.v:Int)<V)(hR:Rt V S T)(hF:FJ V S mk ts){t:Tp}(hL:(L:Int)<lv V)(hv:(v:Int)<V)(ht:t∈ts)(hx:Xn V L v∈t.row):
 (Qx mk 0 t.row=0/\∀ x∈bs,¬ BS13 bs L v x)\/∃ (a:Nat) (i:Nat) (x:E1) (l:List Nat),(a:Int)<V/\Qx mk 0 t.row=Xn V L a/\bs[i]?=some x/\BS13 bs L v x/\dl q a L=x.s :: l:=by
 have hw:∀ {u:Nat},(u:Int)<V->(Way (tE bs L) u v↔Xn V L u∈t.row):=fun {u} hu=>⟨fun hw=>(h.way hR hF hL ht hx hv u).1 hw.symm,fun hm=>((h.way hR hF hL ht hx hv u).2 hm).symm⟩
 by_cases e:Qx mk 0 t.row=0
 . refine .inl ⟨e,fun x hx' hp=>?_⟩
   have hok:=hK x hx'
   have hz:=QdJ e (fun y hy=>(hF.nodes ht y hy).1)
   have hxF:x∈bs.filter fun e=>!e.t:=List.mem_filter.2 ⟨hx',by rw[hp.1];rfl⟩
   rcases hp.2.2 with hw1|hw1
   . have h1:=hz _ ((hw (by omega)).1 hw1)
     rw[<-Qbr hR (by omega) hL,h.mq _ _ (by omega) hL] at h1
     have h2:2*x.s+1∈q x.u L:=(h.lk _ _ _).2 ⟨x,hxF,hp.2.1,.inl ⟨rfl,rfl⟩⟩
     exact of_decide_eq_false h1 (fun e3=>by rw[e3] at h2;simp at h2)
   . have h1:=hz _ ((hw hok.2).1 hw1)
     rw[<-Qbr hR hok.2 hL,h.mq _ _ hok.2 hL] at h1;have h2:2*x.s+2∈q x.v L:=(h.lk _ _ _).2 ⟨x,hxF,hp.2.1,.inr ⟨rfl,rfl⟩⟩
     exact of_decide_eq_false h1 (fun e3=>by rw[e3] at h2;simp at h2)
 . obtain⟨hm,hb⟩:=QdK (x:=Qx mk 0 t.row) rfl e
   rcases(h.lvl_t hR hF hL hv ht hx).2 _ hm with ⟨a,ha,e1⟩|⟨s,d,hs,hd,e1⟩
   . rw[e1] at hb hm
     rw[<-Qbr hR ha hL,h.mq _ _ ha hL] at hb;have hne:=of_decide_eq_true hb;obtain⟨y,l0,hq⟩:=List.exists_cons_of_ne_nil hne
     obtain⟨x,hxF,hxl,hy⟩:=(h.lk a L y).1 (by rw[hq];simp)
     obtain⟨hx',hxt⟩:=List.mem_filter.1 hxF;obtain⟨i,hi⟩:=List.mem_iff_getElem?.1 hx';have hwa:=(hw ha).2 hm
     refine .inr ⟨a,i,x,l0.map fun x=>(x-1) / 2,ha,e1,hi,⟨by simpa using hxt,hxl,?_⟩,?_⟩
     . rcases hy with ⟨_,rfl⟩|⟨_,rfl⟩
       . exact .inl hwa
       . exact .inr hwa
     . unfold dl
       rw[hq,List.map_cons]
       congr 1
       rcases hy with ⟨rfl,_⟩|⟨rfl,_⟩<;>omega
   . rw[e1,(h.pa L s d hL hs hd).2] at hb;cases hb
set_option maxHeartbeats 2000000 in
theorem QiC (A:TA w V S T p gb cap m f mk ts)(h:LF V S T f mk ts bs q)(hK:∀ x∈bs,x.u<x.v/\(x.v:Int)<V){t:Tp}(hL:(L:Int)<lv V)(hv:(v:Int)<V)(ht:t∈ts)(hx:Xn V L v∈t.row)(hm:m<=99790000){rI:Int}(hr:(t.root:Int)=rI):
 Calls Tryz.prog 47 #[vA V S T p,I rI] w (Qog V S T p gb cap (m+4*nN V S+1) f mk ts bs L v w):=by
 have hn:=Ql A.hR;obtain⟨rt,hrt⟩:∃ rt:Nat,t.root=rt:=⟨_,rfl⟩;have HRT:=q9 hrt
 have hr2:rI=(rt:Int):=by rw[<-hrt];exact hr.symm
 subst hr2;clear hr hrt;have hfa:=h.first_vertex hK A.hR A.fi hL hv ht hx;have HTS:=q9 ht;have H0:=q9 (LX.new A);have HR:=q9 A.hR;have HL0:=q9 hL;have HH:=q9 h
 have hm9:m<=99980000:=by omega
 obtain⟨aB,lI,vI,sI,dI,ok,x8,hfr,hnd,hcf,hct⟩:∃ (aB:Bool) (lI vI sI dI:Int) (ok:Bool) (x8:Nat),Qx mk 0 t.row=x8/\(∀ W:World,Calls Tryz.prog 45 #[vL V S T,I ((x8:Nat):Int)] W fun e w'=>e=.returned (.tuple #[vT aB lI vI sI dI,.bool ok])/\Below W.heap.size W w')/\(ok=false->∀ x∈bs,¬ BS13 bs L v x)/\(ok=true->∃ (a:Nat) (i:Nat) (x:E1) (l:List Nat),(a:Int)<V/\bs[i]?=some x/\BS13 bs L v x/\dl q a L=x.s :: l/\vI=(a:Int)/\lI=(L:Int)):=by
  rcases hfa with ⟨h1,h2⟩|⟨a,i,x,l,h0,h1,h2,h3,h4⟩
  . exact⟨false,0,0,0,0,false,0,h1,fun W=>QeL V S T 0 (by decide) W,fun _=>h2,fun h=>by cases h⟩
  . exact⟨false,L,a,0,0,true,_,h1,fun W=>Qnd HR hL h0 W,(fun h=>by cases h),fun _=>⟨a,i,x,l,h0,h2,h3,h4,rfl,rfl⟩⟩
 have HFR:=q9 hfr;have HND:=q9 hnd;have HCF:=q9 hcf;have HCT:=q9 hct;clear A h hfa hfr hnd hcf hct ht hx hL
 go_enter Tryz.func47,Tryz.ntmps47
 go_wp2_with fail
 generalize hb0:w.heap.size=b at H0 |-;generalize hW0:w.alloc (I8 V S T p)=W at H0 |-;obtain⟨y0,y1,y2,y3,y4,y5,y6,y7,y8,y9⟩:=H0.cells;have hlt:=H0.lt;have Hd:=q9 H0.drew;have hrule:=LX.rule b V S T p
 refine wp_region_held_drew (S:=(fun W=>LtB W b V S T p)) (by kernel_rfl) ?_ (fun hHeld=>?_)
 . exact Hd.q
 refine q9N 0 rfl ?_
 refine q9N 1 rfl ?_
 refine q9N 2 rfl ?_
 refine q9N 3 rfl ?_
 refine q9N 4 rfl ?_
 refine q9N 5 rfl ?_
 refine q9N 6 rfl ?_
 refine q9N 7 rfl ?_
 refine q9N 8 rfl ?_
 refine q9N 9 rfl ?_
 refine wpAnyH_ready (rs:=[10,15]) (by kernel_rfl) (by simp) ?_
 refine AllReadyH.cons rfl (fun K hK=>?_) ?_
 rotate_left
 . refine AllReadyH.cons rfl (fun K hK=>?_) ?_
   rotate_left
   . exact AllReadyH.nil
   go_simp
   refine hK.out _ _ ?_ (fun hHeld=>?_)
   . (try dsimp only);exact(H0.below ((Below.refl _ _).alloc (Nat.le_refl _) (.cells #[.bool false,I 0,I 0,I 0,I 0] 94))).drew.q
   clear hK K;try simp only[Act.put,q98]
   refine q9R 10 rfl fun K hK=>?_
   go_simp
   (refine(QgA (xI:=((rt:Nat):Int)) (H0.below ((Below.refl _ _).alloc (Nat.le_refl _) (.cells #[.bool false,I 0,I 0,I 0,I 0] 94))).drew.a HTS.out (k:=0) (kI:=0) (by decide) hm9 (by rw[HRT.out]) rfl).mono ?_;rintro e w10 ⟨rfl,A10,O10⟩;rw[HFR.out];have H10:=q9 ((H0.below ((Below.refl _ _).alloc (Nat.le_refl _) (.cells #[.bool false,I 0,I 0,I 0,I 0] 94))).drew.next A10 O10);have HR10:Hid (Blk w10 W.heap.size 94 #[.bool false,I 0,I 0,I 0,I 0]):=q9 (Blk.ta (Blk.new W 94 #[.bool false,I 0,I 0,I 0,I 0]).drew (H0.below ((Below.refl _ _).alloc (Nat.le_refl _) (.cells #[.bool false,I 0,I 0,I 0,I 0] 94))).drew.a O10 (by decide) (by decide));clear A10 O10)
   go_wp2_with fail
   refine hK.out _ _ ?_ (fun hHeld=>?_)
   . (try dsimp only);exact H10.q
   clear hK K;try simp only[Act.put,q98]
   refine q9R 11 rfl fun K hK=>?_
   go_simp
   (refine(HND.out _).mono ?_;rintro e w11 ⟨rfl,B11⟩;have H11:=q9 (H10.below B11);have HR11:=q9 (Blk.below HR10.out B11 (Blk.lt HR10.out));clear B11)
   go_wp2_with fail
   refine hK.out _ _ ?_ (fun hHeld=>?_)
   . (try dsimp only);exact H11.q
   clear hK K;try simp only[Act.put,q98]
   refine q9N 12 rfl ?_
   refine q9N 13 rfl ?_
   refine q9N 14 rfl ?_
   refine q9R 16 rfl fun K hK=>?_
   have hge:w.heap.size<=W.heap.size:=H0.o.size;have HF9:=q9 (Qfr (y0:=.bool aB) (y1:=I lI) (y2:=I vI) (y3:=I sI) (y4:=I dI) H11.out HR11.out hge);have k0:=HR11.cell 0;have k1:=HR11.cell 1;have k2:=HR11.cell 2;have k3:=HR11.cell 3;have k4:=HR11.cell 4;have f0:=HR11.frozen 0;have f1:=HR11.frozen 1;have f2:=HR11.frozen 2;have f3:=HR11.frozen 3;have f4:=HR11.frozen 4;have klt:=HR11.lt
   go_simp
   refine hK.out _ _ ?_ (fun hHeld=>?_)
   . (try dsimp only);exact HF9.1.q
   clear hK K;try simp only[Act.put,q98]
   refine q9N 17 rfl ?_
   refine wpAnyH_done (by kernel_rfl) ?_ _
   clear k0 k1 k2 k3 k4 f0 f1 f2 f3 f4 klt hge HR11 HR10;generalize h9:World.setCell (World.setCell (World.setCell (World.setCell (World.setCell _ _ _) _ _) _ _) _ _) _ _=W9 at HF9 |-;clear h9;generalize hb9:W.heap.size=r9 at HF9 |-;clear Hd H10 H11 y0 y1 y2 y3 y4 y5 y6 y7 y8 y9 hlt hrule hb9;have HX9:=q9 HF9.1;have HN9:=q9 HF9.2;clear HF9;obtain⟨y0,y1,y2,y3,y4,y5,y6,y7,y8,y9⟩:=HX9.cells;have hlt:=HX9.lt;have n1:=HN9.cell 1;have n2:=HN9.cell 2;have nlt:=HN9.lt
   cases ok
   . go_wp2_with fail
     go_ret2
     exact⟨_,_,rfl,.inl ⟨rfl,HCF (by trivial)⟩,HX9.a.more (by omega),HX9.o⟩
   . obtain⟨a9,i9,x9,l9,ha9,hi9,h09,hd9,e9,e8⟩:=HCT.out (by trivial)
     subst e9 e8;have HI9:=q9 (And.intro hi9 (And.intro h09 hd9));clear hi9 h09 hd9;go_wp2_with fail
     refine(Qb6 HX9.a HH.lq ha9 HL0 (by omega) rfl rfl).mono ?_;rintro e w12 ⟨rfl,A12,O12⟩;rw[HI9.2.2]
     have HX12:=q9 (HX9.next A12 O12);clear HX9 HN9 A12 O12 n1 n2 nlt y0 y1 y2 y3 y4 y5 y6 y7 y8 y9 hlt;show _;simp only[fsV];go_wp2_with fail
     go_ret2
     exact⟨_,_,rfl,.inr ⟨rfl,i9,x9,HI9.1,HI9.2.1,rfl⟩,HX12.a.more (by omega),HX12.o⟩
 go_simp
 (refine(QgA (xI:=((rt:Nat):Int)) Hd.a HTS.out (k:=0) (kI:=0) (by decide) hm9 (by rw[HRT.out]) rfl).mono ?_;rintro e w10 ⟨rfl,A10,O10⟩;rw[HFR.out];have H10:=q9 (Hd.next A10 O10);clear A10 O10)
 go_wp2_with fail
 refine hK.out _ _ ?_ (fun hHeld=>?_)
 . (try dsimp only);exact H10.q
 clear hK K;try simp only[Act.put,q98]
 refine wpAnyH_ready (rs:=[11,15]) (by kernel_rfl) (by simp) ?_
 refine AllReadyH.cons rfl (fun K hK=>?_) ?_
 rotate_left
 . refine AllReadyH.cons rfl (fun K hK=>?_) ?_
   rotate_left
   . exact AllReadyH.nil
   go_simp
   refine hK.out _ _ ?_ (fun hHeld=>?_)
   . (try dsimp only);exact(H10.below ((Below.refl _ _).alloc (Nat.le_refl _) (.cells #[.bool false,I 0,I 0,I 0,I 0] 94))).q
   clear hK K;try simp only[Act.put,q98]
   refine q9R 11 rfl fun K hK=>?_
   go_simp
   (refine(HND.out _).mono ?_;rintro e w11 ⟨rfl,B11⟩;have H11:=q9 ((H10.below ((Below.refl _ _).alloc (Nat.le_refl _) (.cells #[.bool false,I 0,I 0,I 0,I 0] 94))).below B11);have HR11:Hid (Blk w11 w10.heap.size 94 #[.bool false,I 0,I 0,I 0,I 0]):=q9 (Blk.below (Blk.new w10 94 #[.bool false,I 0,I 0,I 0,I 0]) B11 (Blk.lt (Blk.new w10 94 #[.bool false,I 0,I 0,I 0,I 0])));clear B11)
   go_wp2_with fail
   refine hK.out _ _ ?_ (fun hHeld=>?_)
   . (try dsimp only);exact H11.q
   clear hK K;try simp only[Act.put,q98]
   refine q9N 12 rfl ?_
   refine q9N 13 rfl ?_
   refine q9N 14 rfl ?_
   refine q9R 16 rfl fun K hK=>?_
   have hge:w.heap.size<=w10.heap.size:=H10.o.size;have HF9:=q9 (Qfr (y0:=.bool aB) (y1:=I lI) (y2:=I vI) (y3:=I sI) (y4:=I dI) H11.out HR11.out hge);have k0:=HR11.cell 0;have k1:=HR11.cell 1;have k2:=HR11.cell 2;have k3:=HR11.cell 3;have k4:=HR11.cell 4;have f0:=HR11.frozen 0;have f1:=HR11.frozen 1;have f2:=HR11.frozen 2;have f3:=HR11.frozen 3;have f4:=HR11.frozen 4;have klt:=HR11.lt
   go_simp
   refine hK.out _ _ ?_ (fun hHeld=>?_)
   . (try dsimp only);exact HF9.1.q
   clear hK K;try simp only[Act.put,q98]
   refine q9N 17 rfl ?_
   refine wpAnyH_done (by kernel_rfl) ?_ _
   clear k0 k1 k2 k3 k4 f0 f1 f2 f3 f4 klt hge HR11;generalize h9:World.setCell (World.setCell (World.setCell (World.setCell (World.setCell _ _ _) _ _) _ _) _ _) _ _=W9 at HF9 |-;clear h9;generalize hb9:w10.heap.size=r9 at HF9 |-;clear Hd H10 H11 y0 y1 y2 y3 y4 y5 y6 y7 y8 y9 hlt hrule hb9;have HX9:=q9 HF9.1;have HN9:=q9 HF9.2;clear HF9;obtain⟨y0,y1,y2,y3,y4,y5,y6,y7,y8,y9⟩:=HX9.cells;have hlt:=HX9.lt;have n1:=HN9.cell 1;have n2:=HN9.cell 2;have nlt:=HN9.lt
   cases ok
   . go_wp2_with fail
     go_ret2
     exact⟨_,_,rfl,.inl ⟨rfl,HCF (by trivial)⟩,HX9.a.more (by omega),HX9.o⟩
   . obtain⟨a9,i9,x9,l9,ha9,hi9,h09,hd9,e9,e8⟩:=HCT.out (by trivial)
     subst e9 e8;have HI9:=q9 (And.intro hi9 (And.intro h09 hd9));clear hi9 h09 hd9;go_wp2_with fail
     refine(Qb6 HX9.a HH.lq ha9 HL0 (by omega) rfl rfl).mono ?_;rintro e w12 ⟨rfl,A12,O12⟩;rw[HI9.2.2]
     have HX12:=q9 (HX9.next A12 O12);clear HX9 HN9 A12 O12 n1 n2 nlt y0 y1 y2 y3 y4 y5 y6 y7 y8 y9 hlt;show _;simp only[fsV];go_wp2_with fail
     go_ret2
     exact⟨_,_,rfl,.inr ⟨rfl,i9,x9,HI9.1,HI9.2.1,rfl⟩,HX12.a.more (by omega),HX12.o⟩
 go_simp
 (refine(HND.out _).mono ?_;rintro e w11 ⟨rfl,B11⟩;have H11:=q9 (H10.below B11);clear B11)
 go_wp2_with fail
 refine hK.out _ _ ?_ (fun hHeld=>?_)
 . (try dsimp only);exact H11.q
 clear hK K;try simp only[Act.put,q98]
 refine q9N 12 rfl ?_
 refine q9N 13 rfl ?_
 refine q9N 14 rfl ?_
 refine q9R 15 rfl fun K hK=>?_
 go_simp
 refine hK.out _ _ ?_ (fun hHeld=>?_)
 . (try dsimp only);exact(H11.below ((Below.refl _ _).alloc (Nat.le_refl _) (.cells #[.bool false,I 0,I 0,I 0,I 0] 94))).q
 clear hK K;try simp only[Act.put,q98]
 refine q9R 16 rfl fun K hK=>?_
 have HF9:=q9 (And.intro (H11.below ((Below.refl _ _).alloc (Nat.le_refl _) (.cells #[.bool aB,I lI,I vI,I sI,I dI] 94))) (Blk.new w11 94 #[.bool aB,I lI,I vI,I sI,I dI]));have klt:w11.heap.size<w11.heap.size+1:=Nat.lt_succ_self _
 go_simp
 refine hK.out _ _ ?_ (fun hHeld=>?_)
 . (try dsimp only);exact HF9.1.q
 clear hK K;try simp only[Act.put,q98]
 refine q9N 17 rfl ?_
 refine wpAnyH_done (by kernel_rfl) ?_ _
 clear klt;generalize hb9:w11.heap.size=r9 at HF9 |-;generalize w11.alloc (.cells #[.bool aB,I lI,I vI,I sI,I dI] 94)=W9 at HF9 |-;clear Hd H10 H11 y0 y1 y2 y3 y4 y5 y6 y7 y8 y9 hlt hrule hb9;have HX9:=q9 HF9.1;have HN9:=q9 HF9.2;clear HF9;obtain⟨y0,y1,y2,y3,y4,y5,y6,y7,y8,y9⟩:=HX9.cells;have hlt:=HX9.lt;have n1:=HN9.cell 1;have n2:=HN9.cell 2;have nlt:=HN9.lt
 cases ok
 . go_wp2_with fail
   go_ret2
   exact⟨_,_,rfl,.inl ⟨rfl,HCF (by trivial)⟩,HX9.a.more (by omega),HX9.o⟩
 . obtain⟨a9,i9,x9,l9,ha9,hi9,h09,hd9,e9,e8⟩:=HCT.out (by trivial)
   subst e9 e8;have HI9:=q9 (And.intro hi9 (And.intro h09 hd9));clear hi9 h09 hd9;go_wp2_with fail
   refine(Qb6 HX9.a HH.lq ha9 HL0 (by omega) rfl rfl).mono ?_;rintro e w12 ⟨rfl,A12,O12⟩;rw[HI9.2.2]
   have HX12:=q9 (HX9.next A12 O12);clear HX9 HN9 A12 O12 n1 n2 nlt y0 y1 y2 y3 y4 y5 y6 y7 y8 y9 hlt;show _;simp only[fsV];go_wp2_with fail
   go_ret2
   exact⟨_,_,rfl,.inr ⟨rfl,i9,x9,HI9.1,HI9.2.1,rfl⟩,HX12.a.more (by omega),HX12.o⟩
set_option maxHeartbeats 2000000 in
theorem Qkm {bs0:List E1}(A:TA w V S T p gb cap m f mk ts)(h:LF V S T f mk ts bs q)(hE:ER V S T f bs0)(hsub:∀ x∈bs,x∈bs0)(hL:(L:Int)<lv V)(hv:(v:Int)<V)(hno:∀ x∈bs,BS13 bs L v x->¬ Way (tE bs L) x.u x.v)(hex:∃ x∈bs,BS13 bs L v x)(hm:m+10*nN V S<=99780000):
 Calls Tryz.prog 16 #[vA V S T p,I (L:Int),I (v:Int)] w fun e w'=>∃ x∈bs,BS13 bs L v x/\e=.returned (.tuple #[I (x.s:Int),.bool true])/\TA w' V S T p gb cap (m+10*nN V S+10) f mk ts/\Only p gb w w':=by
 have hn:=Ql A.hR;have hR:=A.hR;obtain⟨gr,hV,hg⟩:=h.fo;obtain⟨t,ht,hx,hjt⟩:=hV.row hR hL A.fi hv;have HVX:=q9 hx;have HTS:=q9 ht;have H0:=q9 (LX.new A);have HR:=q9 A.hR;have HL0:=q9 hL;have HH:=q9 h;have HE:=q9 (And.intro hE hsub);have HNX:=q9 (And.intro hno hex)
 have hK:=fun x hx=>(⟨(hE.ok x (hsub x hx)).1,(hE.ok x (hsub x hx)).2.1⟩:x.u<x.v/\(x.v:Int)<V)
 have HK:=q9 hK
 have s0:(0:Int)<S:=by
  obtain⟨x,hx,_⟩:=hex;have:=(hE.ok x (hsub x hx)).2.2.1;omega
 have s48:=hR.s2
 have HGV:=q9 (And.intro hV fun a c=>(Jn.way (u:=a) (v:=c) (hg L hL)))
 clear A h hV hg ht hx hjt hR hE hsub hno hex hK
 go_enter Tryz.func16,Tryz.ntmps16
 go_wp2_with fail
 generalize w.heap.size=b at H0 |-;generalize w.alloc (I8 V S T p)=W at H0 |-;obtain⟨y0,y1,y2,y3,y4,y5,y6,y7,y8,y9⟩:=H0.cells;have hlt:=H0.lt
 refine(Qni H0.a HL0 hv HTS HVX (by omega)).mono ?_;rintro e w1 ⟨rfl,A1,O1⟩
 have H1:=q9 (H0.next A1 O1);clear H0 A1 O1 y0 y1 y2 y3 y4 y5 y6 y7 y8 y9 hlt;obtain⟨y0,y1,y2,y3,y4,y5,y6,y7,y8,y9⟩:=H1.cells;have hlt:=H1.lt;generalize hrt:t.root=rt;have HRT:=q9 hrt;clear hrt;go_wp2_with fail
 clear y0 y1 y2 y3 y4 y5 y6 y7 y8 y9 hlt
 go_loopw [22] (fun i wr=>i=I 0/\LX w wr b V S T p gb cap (m+nN V S) f mk ts) (fun _ _=>0)
 case atStart=>exact⟨rfl,H1.out⟩
 case round=>
  clear H1;obtain⟨rfl,hX⟩:=hrel;have HX:=q9 hX;clear hX
  have kI:(0:Int)<S:=by omega
  obtain⟨y0,y1,y2,y3,y4,y5,y6,y7,y8,y9⟩:=HX.cells;have hlt:=HX.lt;go_wp2_with fail
  refine(QiC HX.a HH.out HK.out HL0.out hv HTS.out HVX.out (by omega) (by rw[HRT.out])).mono ?_;rintro e w2 ⟨r9,ok,rfl,hbe,A2,O2⟩
  have HX2:=q9 (HX.next A2 O2);have HBE:=q9 hbe;clear HX A2 O2 hbe y0 y1 y2 y3 y4 y5 y6 y7 y8 y9 hlt;obtain⟨y0,y1,y2,y3,y4,y5,y6,y7,y8,y9⟩:=HX2.cells;have hlt:=HX2.lt
  cases ok
  . exfalso
    rcases HBE.out with ⟨_,h1⟩|⟨h1,_⟩
    . obtain⟨x,hx,hb⟩:=HNX.2
      exact h1 x hx hb
    . cases h1
  . obtain⟨i9,x9,hi9,hb9,e9⟩:∃ (i:Nat) (x:E1),bs[i]?=some x/\BS13 bs L v x/\r9=(x.s:Int):=by
     rcases HBE.out with ⟨h1,_⟩|⟨_,h1⟩
     . cases h1
     . exact h1
    subst e9;have HI9:=q9 hb9;have HXI:Hid (x9∈bs):=q9 (List.mem_of_getElem? hi9);have hok9:=HK.out x9 HXI.out
    have HU9:Hid ((x9.u:Int)<V/\(x9.v:Int)<V):=q9 ⟨by omega,hok9.2⟩
    clear HBE hi9 hb9 hok9;go_wp2_with fail
    refine(Qe9 HX2.a HE.1 (HE.2 _ HXI) (by omega)).mono ?_;rintro e w3 ⟨rfl,A3,O3⟩
    have HX3:=q9 (HX2.next A3 O3);clear HX2 A3 O3 y0 y1 y2 y3 y4 y5 y6 y7 y8 y9 hlt;obtain⟨y0,y1,y2,y3,y4,y5,y6,y7,y8,y9⟩:=HX3.cells;have hlt:=HX3.lt;have HY0:=q9 (HX3.made x9);go_wp2_with fail
    generalize w3.heap.size=r at HY0 |-;generalize w3.alloc (.cells #[I (x9.u:Int),I (x9.v:Int),I (x9.l:Int),.bool x9.t] 99)=W9 at HY0 |-;clear HX3 y0 y1 y2 y3 y4 y5 y6 y7 y8 y9 hlt;obtain⟨y0,y1,y2,y3,y4,y5,y6,y7,y8,y9⟩:=HY0.y.cells;have hlt:=HY0.y.lt;obtain⟨x0,x1,x2⟩:=HY0.r.cells;have hrl:=HY0.rlt
    refine(QhV HY0.y.a HGV.1 HL0 HU9.1 HU9.2 (by omega)).mono ?_;rintro e w4 ⟨sm,rfl,hsm,A4,O4⟩
    have HY4:=q9 (HY0.next A4 O4);have HSM:Hid (sm=true↔Way (tE bs L) x9.u x9.v):=q9 (hsm.trans (HGV.2 _ _));clear HY0 A4 O4 hsm y0 y1 y2 y3 y4 y5 y6 y7 y8 y9 hlt x0 x1 x2 hrl;obtain⟨y0,y1,y2,y3,y4,y5,y6,y7,y8,y9⟩:=HY4.y.cells;have hlt:=HY4.y.lt;obtain⟨x0,x1,x2⟩:=HY4.r.cells;have hrl:=HY4.rlt
    cases sm
    . go_wp2_with fail
      go_ret2
      exact⟨x9,HXI,HI9,rfl,HY4.y.a.more (by omega),HY4.y.o⟩
    . exact absurd (HSM.1 rfl) (HNX.1 x9 HXI HI9)
end
end Go.Proofs.YtaooglagddphnaaGreat
