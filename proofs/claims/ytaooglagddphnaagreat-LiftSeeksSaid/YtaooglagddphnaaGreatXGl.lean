/- Gl -/
import Derived.Test.YtaooglagddphnaaGreatXGj
import Derived.Deep.DeepCutAuto
import Derived.Lib.SmallJoins
import Derived.Deep.Slices
import Derived.Deep.Fields
import Derived.ChangeSame
import Derived.OpenShut
import Derived.Test.YtaooglagddphnaaGreatXGk
import Derived.Test.YtaooglagddphnaaGreatXGi
import Derived.Test.YtaooglagddphnaaGreatXW
namespace Go.Proofs.YtaooglagddphnaaGreat
open Go.RowKit
set_option maxRecDepth 100000
def Qd4 (V S T:Int)(dl ol:Nat):Bool:=rtB V S T && decide (V<=6) && decide (S<=8) && decide (dl<=60) && decide (ol<=40)
structure RH13 (V S T:Int)(dl ol:Nat):Prop where
 r:Rt V S T
 v:V<=6
 s:S<=8
 d:dl<=60
 o:ol<=40
theorem Qif {V S T:Int}{dl ol:Nat}(h:Qd4 V S T dl ol=true):RH13 V S T dl ol:=by
 unfold Qd4 at h;simp only[Bool.and_eq_true,decide_eq_true_eq] at h;exact⟨QlD h.1.1.1.1,h.1.1.1.2,h.1.1.2,h.1.2,h.2⟩
abbrev vC13 (V S T:Int)(da:Option Addr)(dl dc:Nat)(oa:Option Addr)(ol oc:Nat):Value:=.agg #[I V,I S,I T,.slice da dl dc,.slice oa ol oc]
theorem Qfl (V S T:Int)(w:World):
 Calls Tryz.prog 29 #[vL V S T] w fun e w'=>e=.returned (vL V S T)/\Below w.heap.size w w':=by
 go_enter Tryz.func29,Tryz.ntmps29
 go_wp2_with fail
 exact bodyPost_ret (v:=vL V S T) (by simp [results,Tryz.results29,go_sem]) rfl ⟨rfl,((Below.refl _ _).alloc (Nat.le_refl _) _).alloc (by simp) _⟩
set_option maxHeartbeats 4000000 in
theorem Qf3 (V S T:Int)(da:Option Addr)(dl dc:Nat)(oa:Option Addr)(ol oc:Nat)(w:World):
 Calls Tryz.prog 8 #[vC13 V S T da dl dc oa ol oc] w fun e w'=>e=.returned (.bool (Qd4 V S T dl ol))/\Below w.heap.size w w':=by
 have HB:Hid (Below w.heap.size w (w.alloc (.cells #[I V,I S,I T,.slice da dl dc,.slice oa ol oc] 27))):=q9 ((Below.refl _ _).alloc (Nat.le_refl _) _);have HZ:Hid (Blk (w.alloc (.cells #[I V,I S,I T,.slice da dl dc,.slice oa ol oc] 27)) w.heap.size 27 #[I V,I S,I T,.slice da dl dc,.slice oa ol oc]):=q9 (Blk.new _ _ _)
 go_enter Tryz.func8,Tryz.ntmps8
 go_wp2_with fail
 generalize w.heap.size=zb at HZ |-;generalize w.alloc (.cells #[I V,I S,I T,.slice da dl dc,.slice oa ol oc] 27)=W1 at HZ HB |-;refine(Qfl V S T _).mono ?_;rintro e w1 ⟨rfl,hb1⟩;have HBa:=q9 (HB.trans (hb1.mono HB.size));have HZa:=q9 (HZ.below hb1 HZ.lt);clear HB HZ hb1;go_wp2_with fail
 refine(Qhe V S T _).mono ?_;rintro e w2 ⟨rfl,hb2⟩;have HB2:=q9 (HBa.trans (hb2.mono HBa.size));have HZ2:=HZa.below hb2 HZa.lt;have z0:=HZ2.cell 0;have z1:=HZ2.cell 1;have z3:=HZ2.cell 3;have z4:=HZ2.cell 4;have zlt:=HZ2.lt;clear HZa HBa hb2 HZ2
 cases h1:rtB V S T
 . go_wp2_with fail
   go_ret
   exact⟨by unfold Qd4;rw[h1];rfl,HB2.out⟩
 by_cases h2:V<=6
 . by_cases h3:S<=8
   . by_cases h4:dl<=60
     . have h4i:(dl:Int)<=60:=by omega
       by_cases h5:ol<=40
       . have h5i:(ol:Int)<=40:=by omega
         go_wp2_with fail
         go_ret
         exact⟨by unfold Qd4;rw[h1,decide_eq_true h2,decide_eq_true h3,decide_eq_true h4,decide_eq_true h5];rfl,HB2.out⟩
       . have h5i:¬ (ol:Int)<=40:=by omega
         have h5d:decide ((ol:Int)<=40)=false:=decide_eq_false h5i;go_wp2_with fail
         go_ret
         exact⟨by unfold Qd4;rw[h1,decide_eq_true h2,decide_eq_true h3,decide_eq_true h4,decide_eq_false h5];rfl,HB2.out⟩
     . have h4i:¬ (dl:Int)<=60:=by omega
       go_wp2_with fail
       go_ret
       exact⟨by unfold Qd4;rw[h1,decide_eq_true h2,decide_eq_true h3,decide_eq_false h4];rfl,HB2.out⟩
   . go_wp2_with fail
     go_ret
     exact⟨by unfold Qd4;rw[h1,decide_eq_true h2,decide_eq_false (by omega)];rfl,HB2.out⟩
 . go_wp2_with fail
   go_ret
   exact⟨by unfold Qd4;rw[h1,decide_eq_false (by omega)];rfl,HB2.out⟩
def Qhh (V:Int)(L n:Nat):List (List Nat):=(List.range n).map fun v=>[Xn V L v]
def gr0 (S:Int):List (Option (Nat × Nat)):=List.replicate S.toNat none
section
variable {V S T:Int}{L s u:Nat}
theorem Qh7 {k x:Nat}(h1:1<=x)(h2:x<=k):sgl x∈sing k:=by
 unfold sing
 exact List.mem_map.2 ⟨x,List.mem_range'.2 ⟨x-1,by omega,by omega⟩,rfl⟩
theorem Qhg (V:Int)(L n:Nat):(Qhh V L n).flatten=(List.range n).map (Xn V L):=by
 unfold Qhh
 induction List.range n with
 |nil=>rfl
 |cons x l ih=>simp only[List.map_cons,List.flatten_cons,ih];rfl
theorem QjU {n:Nat}(h:u<n):(Qhh V L n)[u]?=some [Xn V L u]:=by
 unfold Qhh;rw[List.getElem?_map,List.getElem?_range h];rfl
theorem Lv.zero (hR:Rt V S T)(hL:(L:Int)<lv V):Lv V S L (sing (nN V S)) (Qhh V L V.toNat) (gr0 S):=by
 refine⟨⟨(List.range V.toNat).map fun v=>([Xn V L v],[]),by simp [Qhh,Function.comp_def],fun p hp=>?_,fun s a b=>?_⟩,fun r hr=>?_,?_,fun u hu=>?_,fun s hs hg d hd=>?_,by simp [gr0]⟩
 . obtain⟨v,_,rfl⟩:=List.mem_map.1 hp
   exact .one v
 . constructor
   . intro h
     obtain⟨p,hp,hm⟩:=List.mem_flatMap.1 h;obtain⟨v,_,rfl⟩:=List.mem_map.1 hp;simp at hm
   . intro h
     unfold gr0 at h;rw[List.getElem?_replicate] at h
     split at h
     . cases h
     . cases h
 . obtain⟨v,hv,rfl⟩:=List.mem_map.1 hr
   have hv':=List.mem_range.1 hv
   have hvI:(v:Int)<V:=by omega
   have:=QaG hR hL hvI
   exact⟨sgl (Xn V L v),by rw[QbP hvI];exact Qh7 this.1 this.2.1,rfl⟩
 . rw[Qhg]
   have hn:(List.range V.toNat).Nodup:=List.nodup_range;unfold List.Nodup at hn |-;rw[List.pairwise_map]
   exact hn.imp fun hne e=>hne (Qeu hR hL _ _ e)
 . exact⟨[Xn V L u],List.mem_of_getElem? (QjU (u:=u) (by omega)),by simp⟩
 . have:=Qa4 hR hL hs hd
   exact⟨sgl (An V S L s d),by rw[QcI hs hd];exact Qh7 this.1 this.2.1,rfl⟩
end
section
variable {V S T:Int}
theorem LQ.nil (hR:Rt V S T):LQ V S T QcJ fun _ _=>[]:=
 ⟨fun _ _ _=>rfl,fun _ _ _ _=>⟨rfl,0,rfl,rfl⟩,fun _ _=>List.nodup_nil,fun _ _ _ h=>(nomatch h),fun _ _ _ _ _ h=>(nomatch h),fun _ _ _=>⟨0,0,rfl,by have:=hR.s1;omega,rfl,by have:=hR.s1;omega⟩,fun x _ _ _ y hy e=>by
  have e:(0:Int)=(y:Int):=e;omega⟩
theorem MQ.nil:MQ V (fun _=>0) fun _ _=>[]:=fun _ _ _ _=>(show hasB 0 0=false by decide).trans (by simp)
theorem LK.nil:LK (fun _ _=>[]) []:=fun _ _ _=>by simp
theorem Lvs.zero (hR:Rt V S T):Lvs V S (sing (nN V S)) fun _=>gr0 S:=fun _ hL=>⟨_,Lv.zero hR hL⟩
theorem Qnl (k:Nat)(x:Nat × Nat):(gr0 S)[k]?≠some (some x):=by
 unfold gr0;rw[List.getElem?_replicate]
 split<;>simp
theorem LG.zero (hR:Rt V S T):LG V S T QcJ (fun _=>0) (sing (nN V S)) [] fun _ _=>[]:=by
 have h0:hasB 0 0=false:=by decide
 have h1:hasB 0 1=false:=by decide
 refine⟨ER.nil fun _=>rfl,LQ.nil hR,MQ.nil,LK.nil,⟨_,Lvs.zero hR,fun L hL s a b=>?_⟩,fun L s d _ _ _=>⟨?_,h0⟩,fun _ _ _ _=>h1⟩
 . constructor
   . intro h;simp [tE] at h
   . intro h;exact absurd h (Qnl _ _)
 . show hasB 0 1=true↔_
   rw[h1];simp
end
theorem QiG (b:Nat)(V S T:Int):∀ W:World,Blk W b 23 #[I V,I S,I T]->W.cell? (I1 b 0)=some (I V)/\W.cell? (I1 b 1)=some (I S)/\W.cell? (I1 b 2)=some (I T):=fun _ h=>⟨h.cell 0,h.cell 1,h.cell 2⟩
structure B0L (w0 W:World)(zb l3:Nat)(V S T:Int)(p gb m:Nat)(g:Mg9)(vc:Array Value):Prop where
 z:Blk W zb 27 vc
 l:Blk W l3 23 #[I V,I S,I T]
 tm:TM W V S T p gb (QaT V S T) m g
 be:Below w0.heap.size w0 W
 kp:w0.heap.size<=p
 kg:w0.heap.size<=gb
structure BNL (w0 W:World)(zb l3 tb:Nat)(V S T:Int)(p gb m:Nat)(g:Mg9)(vc:Array Value):Prop where
 b:B0L w0 W zb l3 V S T p gb m g vc
 t:Blk W tb 43 #[I V,I S,I T,I4 p,I 1,I 0]
section
variable {w w' W w0:World}{V S T:Int}{zb l3 tb p gb m m':Nat}{g g':Mg9}{vc:Array Value}
theorem B0L.below (h:B0L w0 w zb l3 V S T p gb m g vc)(hb:Below w.heap.size w w'):B0L w0 w' zb l3 V S T p gb m g vc:=⟨h.z.below hb h.z.lt,h.l.below hb h.l.lt,h.tm.below hb,h.be.trans (hb.mono h.be.size),h.kp,h.kg⟩
theorem B0L.drew (h:B0L w0 w zb l3 V S T p gb m g vc):B0L w0 w.drew zb l3 V S T p gb m g vc:=h.below (Below.refl _ _).drew
theorem B0L.alloc (h:B0L w0 w zb l3 V S T p gb m g vc)(o:Obj):B0L w0 (w.alloc o) zb l3 V S T p gb m g vc:=h.below ((Below.refl _ _).alloc (Nat.le_refl _) _)
theorem B0L.made (h:B0L w0 w zb l3 V S T p gb m g vc):BNL w0 (w.alloc (I5 V S T p)) zb l3 w.heap.size V S T p gb m g vc:=⟨h.alloc _,Blk.new _ _ _⟩
theorem B0L.set1 {cs:Array Value}(h:B0L w0 w zb l3 V S T p gb m g vc)(hq:Blk w tb 43 cs)(hb:w0.heap.size<=tb)(i:Nat)(u:Value):B0L w0 (w.setCell (I1 tb i) u) zb l3 V S T p gb m g vc:=
 ⟨Blk.far (p:=(I1 tb i)) h.z (Blk.ne_ h.z hq (by decide)) u,Blk.far (p:=(I1 tb i)) h.l (Blk.ne_ h.l hq (by decide)) u,h.tm.far hq (by decide) (by decide) u,h.be.setCell hb u,h.kp,h.kg⟩
theorem B0L.store {c0 c1 c2 c3 c4 c5:Value}(h:B0L w0 w zb l3 V S T p gb m g vc)(hq:Blk w tb 43 #[c0,c1,c2,c3,c4,c5])(hb:w0.heap.size<=tb):BNL w0 ((((((w.setCell (I1 tb 0) (I V)).setCell (I1 tb 1) (I S)).setCell (I1 tb 2) (I T)).setCell (I1 tb 3) (I4 p)).setCell (I1 tb 4) (I 1)).setCell (I1 tb 5) (I 0)) zb l3 tb V S T p gb m g vc:=by
 have k0:=hq.set_ 0 (I V);have k1:=k0.set_ 1 (I S);have k2:=k1.set_ 2 (I T);have k3:=k2.set_ 3 (I4 p);have k4:=k3.set_ 4 (I 1);have k5:=k4.set_ 5 (I 0);have h0:=h.set1 hq hb 0 (I V);have h1:=h0.set1 k0 hb 1 (I S);have h2:=h1.set1 k1 hb 2 (I T);have h3:=h2.set1 k2 hb 3 (I4 p);have h4:=h3.set1 k3 hb 4 (I 1);exact⟨h4.set1 k4 hb 5 (I 0),k5⟩
theorem BNL.below (h:BNL w0 w zb l3 tb V S T p gb m g vc)(hb:Below w.heap.size w w'):BNL w0 w' zb l3 tb V S T p gb m g vc:=⟨h.b.below hb,h.t.below hb h.t.lt⟩
theorem BNL.drew (h:BNL w0 w zb l3 tb V S T p gb m g vc):BNL w0 w.drew zb l3 tb V S T p gb m g vc:=h.below (Below.refl _ _).drew
theorem BNL.only (h:BNL w0 w zb l3 tb V S T p gb m g vc)(A:TM w' V S T p gb (QaT V S T) m' g')(ho:Only p gb w w'):BNL w0 w' zb l3 tb V S T p gb m' g' vc:=
 ⟨⟨Blk.treap h.b.z h.b.tm ho (by decide) (by decide),h.b.l.treap h.b.tm ho (by decide) (by decide),A,Only.below h.b.be ho h.b.be.size h.b.kp h.b.kg,h.b.kp,h.b.kg⟩,h.t.treap h.b.tm ho (by decide) (by decide)⟩
theorem BNL.more (h:BNL w0 w zb l3 tb V S T p gb m g vc)(hm:m<=m'):BNL w0 w zb l3 tb V S T p gb m' g vc:=⟨⟨h.b.z,h.b.l,h.b.tm.more hm,h.b.be,h.b.kp,h.b.kg⟩,h.t⟩
def QnH (w0:World)(zb l3 tb:Nat)(V S T:Int)(p gb:Nat)(vc:Array Value)(i:Value)(W:World):Prop:=
 ∃ x g,1<=x/\x<=nN V S+1/\i=I ((x:Nat):Int)/\BNL w0 W zb l3 tb V S T p gb (10*(x-1)) g vc/\(∀ y,1<=y->y<x->Q7 (vxN V) (fun _=>0) g (sgl y))/\∀ y k,nN V S<y->g y k=0
end
def QcH (W:World)(lb tb:Nat)(V S T:Int)(p:Nat):Prop:=Blk W lb 23 #[I V,I S,I T]/\Blk W tb 43 #[I V,I S,I T,I4 p,I 1,I 0]
section
variable {w w' w0:World}{lb tb p l3 gb m zb:Nat}{V S T:Int}{g:Mg9}
theorem QcH.below (h:QcH w lb tb V S T p)(hb:Below w.heap.size w w'):QcH w' lb tb V S T p:=⟨h.1.below hb h.1.lt,h.2.below hb h.2.lt⟩
theorem QcH.rule (lb tb:Nat)(V S T:Int)(p:Nat):∀ W:World,QcH W lb tb V S T p->(W.cell? (I1 lb 0)=some (I V)/\W.cell? (I1 lb 1)=some (I S)/\W.cell? (I1 lb 2)=some (I T))/\
 (W.cell? (I1 tb 0)=some (I V)/\W.cell? (I1 tb 1)=some (I S)/\W.cell? (I1 tb 2)=some (I T)/\W.cell? (I1 tb 3)=some (I4 p)/\W.cell? (I1 tb 4)=some (I 1)/\W.cell? (I1 tb 5)=some (I 0)):=fun _ h=>⟨⟨h.1.cell 0,h.1.cell 1,h.1.cell 2⟩,⟨h.2.cell 0,h.2.cell 1,h.2.cell 2,h.2.cell 3,h.2.cell 4,h.2.cell 5⟩⟩
theorem QcH.lt (h:QcH w lb tb V S T p):lb<w.heap.size/\tb<w.heap.size:=⟨h.1.lt,h.2.lt⟩
theorem BNL.bs {vc:Array Value}(h:BNL w0 w zb lb tb V S T p gb m g vc):QcH w lb tb V S T p:=⟨h.b.l,h.t⟩
end
def Qof (V S T:Int)(w:World)(e:Ending)(w':World):Prop:=
 ∃ q p gb,e=.returned (.pointer (some (I1 q 0)))/\PW13 w' w.heap.size q V S T p gb (QaT V S T) (10*nN V S) QcJ (fun _=>0) (sing (nN V S)) (.slice none 0 0) []/\Below w.heap.size w w'
section
variable {w:World}{V S T:Int}{da:Option Addr}{dl dc:Nat}{vo:Value}{f:Nat->Nat}
theorem Qmk {W:World}{b o:Nat}{v:Value}(h:W.cell? (I1 b o)=some v):b<W.heap.size:=by
 rcases Nat.lt_or_ge b W.heap.size with h1|h1
 . exact h1
 . exfalso
   unfold World.cell? at h;rw[Array.getElem?_eq_none h1] at h
   cases h
set_option maxHeartbeats 16000000 in
theorem QdR (hR:Rt V S T)(hD:QfW w da dl f)(hdl:dl<=60)(v8:V<=8)(s8:S<=8):
 Calls Tryz.prog 10 #[.agg #[I V,I S,I T,.slice da dl dc,vo]] w (Qof V S T w):=by
 have HR:=q9 hR;have HD:=q9 hD;have hn560:=Ql hR;have HDL:=q9 hdl;have HV8:=q9 (And.intro v8 s8);have hS0:=hR.s1;have hV0:=hR.v1;clear hR hD
 go_enter Tryz.func10,Tryz.ntmps10
 go_wp2_with fail
 have HZ:Hid (Blk ((w.alloc (.cells #[I V,I S,I T,.slice da dl dc,vo] 27)).alloc (.cells #[I V,I S,I T] 23)) w.heap.size 27 #[I V,I S,I T,.slice da dl dc,vo]):=q9 ((Blk.new _ _ _).alloc _);have HL:Hid (Blk ((w.alloc (.cells #[I V,I S,I T,.slice da dl dc,vo] 27)).alloc (.cells #[I V,I S,I T] 23)) (w.heap.size+1) 23 #[I V,I S,I T]):=q9 (Q8 w _ _ _ _)
 have HB:Hid (Below w.heap.size w ((w.alloc (.cells #[I V,I S,I T,.slice da dl dc,vo] 27)).alloc (.cells #[I V,I S,I T] 23))):=q9 (((Below.refl _ _).alloc (Nat.le_refl _) _).alloc (by simp) _)
 generalize w.heap.size+1=l3 at HL |-;generalize hzb:w.heap.size=zb at HZ |-;generalize (w.alloc (.cells #[I V,I S,I T,.slice da dl dc,vo] 27)).alloc (.cells #[I V,I S,I T] 23)=W1 at HZ HL HB |-;clear hzb;refine(QfN V S T HR _).mono ?_;rintro e w2 ⟨rfl,hb2⟩;have HZ2:=q9 (HZ.below hb2 HZ.lt);have HL2:=q9 (HL.below hb2 HL.lt);have HB2:=q9 (HB.trans (hb2.mono HB.size));clear HZ HL HB hb2;go_wp2_with fail
 refine(lnew HR _).mono ?_;rintro e w3 ⟨rfl,hA,hb3⟩
 have H3:Hid (B0L w w3 zb l3 V S T (w2.heap.size+1) w2.heap.size 0 (fun _ _=>0) #[I V,I S,I T,.slice da dl dc,vo]):=q9 ⟨HZ2.below hb3 HZ2.lt,HL2.below hb3 HL2.lt,TM.new HR.out hA,HB2.trans (hb3.mono HB2.size),Nat.le_trans HB2.size (Nat.le_succ _),HB2.size⟩
 generalize w2.heap.size+1=p at H3 |-;generalize w2.heap.size=gb at H3;clear hA hb3 HZ2 HL2 HB2;have b0:((0:Int) !=0)=false:=rfl;have l0:w3.cell? (I1 l3 0)=some (I V):=H3.l.cell 0;have l1:w3.cell? (I1 l3 1)=some (I S):=H3.l.cell 1;have l2:w3.cell? (I1 l3 2)=some (I T):=H3.l.cell 2;have llt:=H3.l.lt;go_upto_region 5 with fail
 go_cut [6] from 22 to 27 (fun s wx=>∃ tb,s=.pointer (some (I1 tb 0))/\BNL w wx zb l3 tb V S T p gb 0 (fun _ _=>0) #[I V,I S,I T,.slice da dl dc,vo])
 case first=>
  have Hd:=q9 H3.drew;have hrule:=QiG l3 V S T;clear H3
  refine wp_region_held_drew (S:=(fun W=>Blk W l3 23 #[I V,I S,I T])) (by kernel_rfl) ?_ (fun hHeld=>?_)
  . exact Hd.l
  refine q9N 0 rfl ?_
  refine q9N 1 rfl ?_
  refine q9N 4 rfl ?_
  refine wpAnyH_ready (rs:=[2,6]) (by kernel_rfl) (by simp) ?_
  refine AllReadyH.cons rfl (fun K hK=>?_) ?_
  rotate_left
  . refine AllReadyH.cons rfl (fun K hK=>?_) ?_
    rotate_left
    . exact AllReadyH.nil
    go_simp
    refine hK.out _ _ ?_ (fun hHeld=>?_)
    . (try dsimp only);exact(Hd.alloc _).l
    clear hK K;try simp only[Act.put,q98]
    refine q9R 2 rfl fun K hK=>?_
    go_simp
    (refine(QlK p _).mono ?_;rintro e w4 ⟨rfl,hb1⟩;have H4:=q9 ((Hd.alloc (.cells #[I 0,I 0,I 0,.nilIface,I 0,I 0] 43)).below hb1);have HN:Hid (Blk w4 w3.heap.size 43 #[I 0,I 0,I 0,.nilIface,I 0,I 0]):=q9 ((Blk.new w3.drew _ _).below hb1 (by simp));have nlt:=HN.lt;have n0:=HN.frozen 0;have m0:w4.cell? (I1 w3.heap.size 0)=some (I 0):=HN.cell 0;have n1:=HN.frozen 1;have m1:w4.cell? (I1 w3.heap.size 1)=some (I 0):=HN.cell 1;have n2:=HN.frozen 2;have m2:w4.cell? (I1 w3.heap.size 2)=some (I 0):=HN.cell 2;have n3:=HN.frozen 3;have m3:w4.cell? (I1 w3.heap.size 3)=some (.nilIface):=HN.cell 3;have n4:=HN.frozen 4;have m4:w4.cell? (I1 w3.heap.size 4)=some (I 0):=HN.cell 4;have n5:=HN.frozen 5;have m5:w4.cell? (I1 w3.heap.size 5)=some (I 0):=HN.cell 5;have hbs:w.heap.size<=w3.heap.size:=Hd.be.size)
    go_wp2_with fail
    refine hK.out _ _ ?_ (fun hHeld=>?_)
    . (try dsimp only);exact H4.l
    clear hK K;try simp only[Act.put,q98]
    refine q9N 3 rfl ?_
    refine q9N 5 rfl ?_
    refine q9R 7 rfl fun K hK=>?_
    go_simp
    have HBA:=q9 (H4.store HN.out hbs)
    refine hK.out _ _ ?_ (fun hHeld=>?_)
    . (try dsimp only);exact HBA.b.l
    clear hK K;try simp only[Act.put,q98]
    refine wpAnyH_done (by kernel_rfl) ?_ _
    go_wp2_with fail
    go_meet
    exact⟨_,rfl,HBA⟩
  go_simp
  (refine(QlK p _).mono ?_;rintro e w4 ⟨rfl,hb1⟩;have H4:=q9 (Hd.below hb1))
  go_wp2_with fail
  refine hK.out _ _ ?_ (fun hHeld=>?_)
  . (try dsimp only);exact H4.l
  clear hK K;try simp only[Act.put,q98]
  refine q9N 3 rfl ?_
  refine q9N 5 rfl ?_
  refine q9R 6 rfl fun K hK=>?_
  go_simp
  refine hK.out _ _ ?_ (fun hHeld=>?_)
  . (try dsimp only);exact(H4.alloc _).l
  clear hK K;try simp only[Act.put,q98]
  refine q9R 7 rfl fun K hK=>?_
  go_simp
  have HBA:=q9 (H4.made)
  refine hK.out _ _ ?_ (fun hHeld=>?_)
  . (try dsimp only);exact HBA.b.l
  clear hK K;try simp only[Act.put,q98]
  refine wpAnyH_done (by kernel_rfl) ?_ _
  go_wp2_with fail
  go_meet
  exact⟨_,rfl,HBA⟩
 case rest=>
  obtain⟨tb,rfl,hN⟩:=hcut
  have HRel:Hid (QnH w zb l3 tb V S T p gb #[I V,I S,I T,.slice da dl dc,vo] (I 1) wc):=q9 ⟨1,_,Nat.le_refl _,by omega,rfl,hN,fun y h1 h2=>absurd h1 (by omega),fun _ _ _=>rfl⟩
  clear hN H3 l0 l1 l2 llt b0;obtain⟨n9,hn9⟩:∃ n,nN V S=n:=⟨_,rfl⟩;have HN9:=q9 hn9;rw[hn9] at hn560;clear hn9
  have nI:(n9:Int)<=560:=by omega
  go_wp2_with fail
  go_loopw [7] (fun i wr=>QnH w zb l3 tb V S T p gb #[I V,I S,I T,.slice da dl dc,vo] i wr) (fun i _=>n9+1-(intOf i).toNat)
  case atStart=>exact HRel.out
  case round=>
   clear HRel;obtain⟨x,g,hx1,hx2,rfl,hS,hst,hg0⟩:=hrel;have HG0:=q9 hg0;clear hg0;have HS:=q9 hS;have HST:=q9 hst;rw[HN9.out] at hx2;clear hS hst;have z3:=HS.b.z.cell 3;have l0:wr.cell? (I1 l3 0)=some (I V):=HS.b.l.cell 0;have l1:wr.cell? (I1 l3 1)=some (I S):=HS.b.l.cell 1;have l2:wr.cell? (I1 l3 2)=some (I T):=HS.b.l.cell 2;have t0:wr.cell? (I1 tb 0)=some (I V):=HS.t.cell 0;have t1:wr.cell? (I1 tb 1)=some (I S):=HS.t.cell 1;have t2:wr.cell? (I1 tb 2)=some (I T):=HS.t.cell 2;have t3:wr.cell? (I1 tb 3)=some (I4 p):=HS.t.cell 3;have t4:wr.cell? (I1 tb 4)=some (I 1):=HS.t.cell 4;have t5:wr.cell? (I1 tb 5)=some (I 0):=HS.t.cell 5;have zlt:=HS.b.z.lt;have llt:=HS.b.l.lt;have tlt:=HS.t.lt;go_wp2_with fail
   refine(Qnf HR _).mono ?_;rintro e w6 ⟨rfl,hb6⟩;have H6:=q9 (HS.below hb6);rw[HN9.out];clear HS hb6 z3 l0 l1 l2 t0 t1 t2 t3 t4 t5 zlt llt tlt;have z3:=H6.b.z.cell 3;have l0:w6.cell? (I1 l3 0)=some (I V):=H6.b.l.cell 0;have l1:w6.cell? (I1 l3 1)=some (I S):=H6.b.l.cell 1;have l2:w6.cell? (I1 l3 2)=some (I T):=H6.b.l.cell 2;have t0:w6.cell? (I1 tb 0)=some (I V):=H6.t.cell 0;have t1:w6.cell? (I1 tb 1)=some (I S):=H6.t.cell 1;have t2:w6.cell? (I1 tb 2)=some (I T):=H6.t.cell 2;have t3:w6.cell? (I1 tb 3)=some (I4 p):=H6.t.cell 3;have t4:w6.cell? (I1 tb 4)=some (I 1):=H6.t.cell 4;have t5:w6.cell? (I1 tb 5)=some (I 0):=H6.t.cell 5;have zlt:=H6.b.z.lt;have llt:=H6.b.l.lt;have tlt:=H6.t.lt
   by_cases hxn:x<=n9
   . have HXN:Hid (x<=nN V S):=q9 (by have:=HN9.out;omega)
     have hxI:(x:Int)<=(n9:Int):=by omega
     have HZ0:=q9 H6.b.tm.z
     by_cases hk0:dl=0
     . have hdI:¬ (0:Int)<(dl:Int):=by omega
       clear hk0;go_wp2_with fail
       refine(QhY H6.b.tm hx1 HXN (by omega)).mono ?_;rintro e w9 ⟨rfl,A9,O9⟩
       have H9:=q9 (H6.only A9 O9);clear A9 O9 z3 l0 l1 l2 t0 t1 t2 t3 t4 t5 zlt llt tlt;go_wp2_with fail
       go_roundw
       case rel=>
        refine⟨x+1,QaU (vxN V) g x,by omega,by have:=HN9.out;omega,by simp,H9.more (by omega),fun y h1 h2=>?_,fun y k hy=>?_⟩
        rotate_left
        . rw[Qas _ (by have:=HXN.out;omega)];exact HG0 y k hy
        by_cases e:y=x
        . subst e
          exact Qbz (by omega) fun k=>HZ0.out k
        . exact(HST.out y h1 (by omega)).same (by simp [sgl,Tp.row]) fun z hz k=>by
           have hz:z=y:=by simpa [sgl,Tp.row] using hz
           rw[hz,Qas _ e]
       case measure=>simp [intOf];omega
     . obtain⟨db,off,rfl,hcell⟩:=HD.out (by omega)
       obtain⟨j,hj⟩:∃ j,x % dl=j:=⟨_,rfl⟩
       have hjl:j<dl:=by rw[<-hj];exact Nat.mod_lt _ (by omega)
       have D0:=(hcell j hjl).1;obtain⟨P9,hP9⟩:∃ P,f j=P:=⟨_,rfl⟩
       have HP9:Hid (P9<=18446744073709551615):=q9 (by rw[<-hP9];exact(hcell j hjl).2)
       rw[hP9] at D0;have HD0:=q9 D0;have dcell:=Qi H6.b.be D0;clear D0
       have hdI:(0:Int)<(dl:Int):=by omega
       have hd0:¬ (dl:Int)=0:=by omega
       have hd1:¬ dl=0:=by omega
       have htm:(x:Int).tmod (dl:Int)=(j:Int):=by rw[<-hj];exact Int.ofNat_tmod x dl
       have hjw:IntKind.i64.wrap (j:Int)=(j:Int):=IntWalk.i64_in _ (by have:=HDL.out;omega)
       have hj1:(j:Int)<(dl:Int):=by omega
       have hj0:(0:Int)<=(j:Int):=by omega
       clear hP9 hcell;go_upto_region 10 with fail
       have Hd:=q9 H6.drew;have dcd:w6.drew.cell? (I1 db (off+j))=some (I2 (P9:Int)):=dcell
       have hrule:∀ W:World,(Blk W l3 23 #[I V,I S,I T]/\Blk W zb 27 #[I V,I S,I T,I3 (I1 db off) dl dc,vo]/\W.cell? (I1 db (off+j))=some (I2 (P9:Int)))->W.cell? (I1 l3 0)=some (I V)/\W.cell? (I1 l3 1)=some (I S)/\W.cell? (I1 l3 2)=some (I T)/\W.cell? (I1 zb 3)=some (I3 (I1 db off) dl dc)/\W.cell? (I1 db (off+j))=some (I2 (P9:Int)):=fun W h=>⟨h.1.cell 0,h.1.cell 1,h.1.cell 2,h.2.1.cell 3,h.2.2⟩
       clear H6 z3 l0 l1 l2 t0 t1 t2 t3 t4 t5 zlt llt tlt dcell;have z3:=Hd.b.z.cell 3;have l0:w6.drew.cell? (I1 l3 0)=some (I V):=Hd.b.l.cell 0;have l1:w6.drew.cell? (I1 l3 1)=some (I S):=Hd.b.l.cell 1;have l2:w6.drew.cell? (I1 l3 2)=some (I T):=Hd.b.l.cell 2;have t0:w6.drew.cell? (I1 tb 0)=some (I V):=Hd.t.cell 0;have t1:w6.drew.cell? (I1 tb 1)=some (I S):=Hd.t.cell 1;have t2:w6.drew.cell? (I1 tb 2)=some (I T):=Hd.t.cell 2;have t3:w6.drew.cell? (I1 tb 3)=some (I4 p):=Hd.t.cell 3;have t4:w6.drew.cell? (I1 tb 4)=some (I 1):=Hd.t.cell 4;have t5:w6.drew.cell? (I1 tb 5)=some (I 0):=Hd.t.cell 5;have zlt:=Hd.b.z.lt;have llt:=Hd.b.l.lt;have tlt:=Hd.t.lt;have dlt:db<w6.drew.heap.size:=(Qmk dcd)
       go_region_held3 (fun W=>Blk W l3 23 #[I V,I S,I T]/\Blk W zb 27 #[I V,I S,I T,I3 (I1 db off) dl dc,vo]/\W.cell? (I1 db (off+j))=some (I2 (P9:Int))) (first|(with_reducible assumption)|(with_reducible exact HK8.out)|(with_reducible exact HK7.out)|(with_reducible exact⟨Hd.out.b.l,Hd.out.b.z,dcd⟩))
        (first
         |(go_at_call 35;((with_reducible refine(QlX HR.out hx1 HXN.out _).mono ?_);rintro e w7 ⟨rfl,hb7⟩;have H7:=q9 (Hd.out.below hb7);have HK7:=q9 (And.intro H7.out.b.l (And.intro H7.out.b.z (Qi hb7 dcd)))))
         |(go_at_call 34;((with_reducible refine(QlW H7.out.b.tm hx1 HXN.out HP9.out (by omega)).mono ?_);rintro e w8 ⟨rfl,A8,O8⟩;have H8:=q9 (H7.out.only A8 O8);have HK8:=q9 (And.intro H8.out.b.l (And.intro H8.out.b.z (Qi H8.out.b.be HD0.out))))))
       clear hrule Hd H7 HK7 HK8 HD0 dcd dlt htm hjw hj1 hj0 z3 l0 l1 l2 t0 t1 t2 t3 t4 t5 zlt llt tlt;have z3:=H8.b.z.cell 3;have l0:w8.cell? (I1 l3 0)=some (I V):=H8.b.l.cell 0;have l1:w8.cell? (I1 l3 1)=some (I S):=H8.b.l.cell 1;have l2:w8.cell? (I1 l3 2)=some (I T):=H8.b.l.cell 2;have t0:w8.cell? (I1 tb 0)=some (I V):=H8.t.cell 0;have t1:w8.cell? (I1 tb 1)=some (I S):=H8.t.cell 1;have t2:w8.cell? (I1 tb 2)=some (I T):=H8.t.cell 2;have t3:w8.cell? (I1 tb 3)=some (I4 p):=H8.t.cell 3;have t4:w8.cell? (I1 tb 4)=some (I 1):=H8.t.cell 4;have t5:w8.cell? (I1 tb 5)=some (I 0):=H8.t.cell 5;have zlt:=H8.b.z.lt;have llt:=H8.b.l.lt;have tlt:=H8.t.lt;go_wp2_with fail
       refine(QhY H8.b.tm hx1 HXN (by omega)).mono ?_;rintro e w9 ⟨rfl,A9,O9⟩
       have H9:=q9 (H8.only A9 O9);clear A9 O9 z3 l0 l1 l2 t0 t1 t2 t3 t4 t5 zlt llt tlt;go_wp2_with fail
       go_roundw
       case rel=>
        refine⟨x+1,QaU (vxN V) (up2 g x 5 P9) x,by omega,by have:=HN9.out;omega,by simp,H9.more (by omega),fun y h1 h2=>?_,fun y k hy=>?_⟩
        rotate_left
        . rw[Qas _ (by have:=HXN.out;omega),Qh _ _ _ _ (by have:=HXN.out;omega)];exact HG0 y k hy
        by_cases e:y=x
        . subst e
          exact Qbz (by omega) fun k=>by rw[Qh _ _ _ _ (by omega)];exact HZ0 k
        . exact(HST.out y h1 (by omega)).same (by simp [sgl,Tp.row]) fun z hz k=>by
           have hz:z=y:=by simpa [sgl,Tp.row] using hz
           rw[hz,Qas _ e,Qh _ _ _ _ e]
       case measure=>simp [intOf];omega
   . have ex:x=n9+1:=by omega
     subst ex
     have hxI:¬ ((n9:Int)+1)<=(n9:Int):=by omega
     have HFI:=q9 (QlB (V:=V) (S:=S) (g:=g) fun y h1 h2=>HST.out y h1 (by have:=HN9.out;omega))
     have HE5:Hid (QcH w6 l3 tb V S T p):=q9 H6.bs;go_upto_region 12 with fail
     clear z3 l0 l1 l2 t0 t1 t2 t3 t4 t5 zlt llt tlt;have HSd:Hid (QcH w6.drew l3 tb V S T p):=q9 (HE5.below (Below.refl _ _).drew);obtain⟨⟨l0,l1,l2⟩,⟨t0,t1,t2,t3,t4,t5⟩⟩:=QcH.rule _ _ _ _ _ _ _ HSd.out;obtain⟨llt,tlt⟩:=HSd.lt;have hrule:=QcH.rule l3 tb V S T p
     go_region_held3 (fun W=>QcH W l3 tb V S T p) (first|(with_reducible assumption)|(with_reducible exact HS5.out)|(with_reducible exact HS4.out)|(with_reducible exact HSd.out))
      (first
       |(go_at_call 32;((with_reducible refine(QlK p _).mono ?_);rintro e w4 ⟨rfl,hb4⟩;have HS4:=q9 (HSd.out.below hb4);have H4:=q9 (H6.out.drew.below hb4);have HS5:Hid (QcH (w4.alloc (.cells #[I V,I S,I T,.pointer (some (I1 p 0)),I V,I S,I T,I4 p,I 1,I 0,I V,I S,I T,I4 p,.slice none 0 0] 54)) l3 tb V S T p):=q9 (HS4.out.below ((Below.refl _ _).alloc (Nat.le_refl _) _))))
       |fail)
     clear l0 l1 l2 t0 t1 t2 t3 t4 t5 llt tlt hrule hb4 HSd HE5;go_wp2_with fail
     go_ret;have hbe:=H4.b.be;have hpw:Blk (w4.alloc (.cells #[I V,I S,I T,.pointer (some (I1 p 0)),I V,I S,I T,I4 p,I 1,I 0,I V,I S,I T,I4 p,.slice none 0 0] 54)) w4.heap.size 54 #[I V,I S,I T,.pointer (some (I1 p 0)),I V,I S,I T,I4 p,I 1,I 0,I V,I S,I T,I4 p,.slice none 0 0]:=Blk.new _ _ _
     refine⟨w4.heap.size,p,gb,rfl,⟨hpw,⟨g,?_,HFI,fun i _=>?_⟩,EW.nil _ _,hbe.size,H4.b.kp,H4.b.kg⟩,hbe.alloc hbe.size _⟩
     . have:=(H4.b.tm.alloc (.cells #[I V,I S,I T,.pointer (some (I1 p 0)),I V,I S,I T,I4 p,I 1,I 0,I V,I S,I T,I4 p,.slice none 0 0] 54)).more (m':=10*nN V S) (by have:=HN9.out;omega)
       exact this
     . unfold rs;rw[HG0.out _ _ (by omega)];rfl
end
open Go.RowKit Go.ChangeShapes Go.WideShapes Go.Deep Go.Joins
section
variable {H:Type}{enc:TypeId × Value->H}{P:Program}{w:World}{base:Nat}{spare:Nat->Bool}{held:Bool}
theorem QeJ {t e:TypeId}{fs:Array Field}{fuel:Nat}{cs:List Value}{x:DataW H × List MemPlace}(ht:P.underlying t=some (.slice e))(he:P.underlying e=some (.struct fs))
 (hone:oneCellFields P fs=true) (hC:P.cellsOf e=fs.size) (h:DataW.trod enc P w base spare held fuel t cs=some x):
 (cs=[.slice none 0 0]/\x=(.nil,[]))\/
 ∃ (a:Addr) (len cap m:Nat) (D:Nat->DataW H) (Pl:Nat->List MemPlace),cs=[.slice (some a) len cap]/\base<=a.block/\len<=cap/\cap<=maxLen/\m=(if spare a.block then cap else len)/\
  x=(.slice ((List.range len).map D) ((List.range (m-len)).map fun j=>D (len+j)),MemPlace.row a (m*fs.size)++(List.range m).flatMap Pl)/\
  ∀ i,i<m->∃ (ys:List (DataW H × List MemPlace)) (n:Nat),D i=.agg (ys.map (·.1))/\Pl i=ys.flatMap (·.2)/\ys.length=fs.size/\
   ∀ (j:Nat) (f:Field),fs[j]?=some f->∃ (v:Value) (y:DataW H × List MemPlace),w.cell? (a.add (i*fs.size+j))=some v/\ys[j]?=some y/\DataW.trod enc P w base spare held n f.type [v]=some y:=by
 rcases open_slice ht h with h0|⟨a,len,cap,m,n,D,Pl,hcs,hb,hl,hm,hmm,hx,hi⟩
 . exact .inl h0
 . refine .inr ⟨a,len,cap,m,D,Pl,hcs,hb,hl,hm,hmm,by rw[hC] at hx;exact hx,fun i him=>?_⟩
   obtain⟨cs',hc,ht'⟩:=hi i him;rw[hC] at hc;obtain⟨ys,n',hn',hy,hlen,hyl,hf⟩:=DataW.trod_struct he ht';obtain⟨_,hcl,hat⟩:=World.cells?_some hc;simp only[Prod.mk.injEq] at hy
   refine⟨ys,n',hy.1,hy.2,hyl,fun j f hj=>?_⟩
   obtain⟨ho,hk⟩:=hone_of hone j f hj;have hjl:j<fs.size:=(Array.getElem?_eq_some_iff.1 hj).1;have hcell:=hat j hjl
   have hv:cs'[j]?=some (cs'[j]'(by omega)):=List.getElem?_eq_getElem (by omega)
   have h1:=hf j f hj;rw[ho,hk] at h1
   have hone':(cs'.drop j).take 1=[cs'[j]'(by omega)]:=by
    rw[List.drop_eq_getElem_cons (by omega)]
    rfl
   rw[hone'] at h1
   have hys:ys[j]?=some (ys[j]'(by omega)):=List.getElem?_eq_getElem (by omega)
   refine⟨_,_,?_,hys,h1.trans hys⟩;rw[<-Go.Deep.add_add,hcell,hv]
end
structure O13 where
 kd:Int
 s:Int
 u:Int
 v:Int
def Qmx (w:World)(a:Option Addr)(len:Nat)(q:Nat->O13):Prop:=0<len->∃ b off,a=some (I1 b off)/\∀ k,k<len->w.cell? (I1 b (off+k*4))=some (I (q k).kd)/\w.cell? (I1 b (off+k*4+1))=some (I (q k).s)/\w.cell? (I1 b (off+k*4+2))=some (I (q k).u)/\w.cell? (I1 b (off+k*4+3))=some (I (q k).v)
def Qmu (w:World)(y:Addr)(k:Nat)(o:O13):Prop:=
 w.cell? (y.add (k*4+0))=some (I o.kd)/\w.cell? (y.add (k*4+1))=some (I o.s)/\w.cell? (y.add (k*4+2))=some (I o.u)/\w.cell? (y.add (k*4+3))=some (I o.v)
def zO13:O13:=⟨0,0,0,0⟩
theorem Qj4 {H:Type}{enc:TypeId × Value->H}{w:World}{base fuel:Nat}{held:Bool}{v:Value}{x:DataW H × List MemPlace}
 (h:DataW.trod enc Tryz.prog w base (fun _=>true) held fuel 25 [v]=some x):∃ a len cap q,v=.slice a len cap/\Qmx w a len q:=by
 rcases QeJ Tryz.underlying25 Tryz.underlying33 (by kernel_rfl) (by kernel_rfl) h with ⟨hcs,_⟩|⟨y,l,c,m,D,Pl,hcs,_,hl,_,hm,_,hi⟩
 . simp at hcs
   subst hcs
   exact⟨none,0,0,fun _=>zO13,rfl,fun h=>absurd h (Nat.lt_irrefl _)⟩
 . simp at hcs
   subst hcs;obtain⟨b,off,spot⟩:=y;simp at hm
   have key:∀ k,k<l->∃ o:O13,Qmu w ⟨b,off,spot⟩ k o:=by
    intro k hk
    obtain⟨ys,n,_,_,_,hf⟩:=hi k (by omega)
    obtain⟨v0,y0,c0,_,t0⟩:=hf 0 _ rfl;obtain⟨v1,y1,c1,_,t1⟩:=hf 1 _ rfl;obtain⟨v2,y2,c2,_,t2⟩:=hf 2 _ rfl;obtain⟨v3,y3,c3,_,t3⟩:=hf 3 _ rfl;obtain⟨x0,z0,_,_⟩:=DataW.trod_int Tryz.underlying3 t0;obtain⟨x1,z1,_,_⟩:=DataW.trod_int Tryz.underlying3 t1;obtain⟨x2,z2,_,_⟩:=DataW.trod_int Tryz.underlying3 t2;obtain⟨x3,z3,_,_⟩:=DataW.trod_int Tryz.underlying3 t3;simp at z0 z1 z2 z3;subst z0 z1 z2 z3;exact⟨⟨x0,x1,x2,x3⟩,c0,c1,c2,c3⟩
   obtain⟨q,hq⟩:∃ q:Nat->O13,∀ k,k<l->Qmu w ⟨b,off,spot⟩ k (q k):=
    ⟨fun k=>if h:k<l then Classical.choose (key k h) else zO13,fun k hk=>by simp only[dif_pos hk];exact Classical.choose_spec (key k hk)⟩
   refine⟨_,l,c,q,rfl,fun h0=>?_⟩
   have hspot:spot=none:=by
    have c0:=(hq 0 h0).1;simpa [Addr.add] using World.cell?_spot c0
   subst hspot
   refine⟨b,off,rfl,fun k hk=>?_⟩
   have:=hq k hk;simp only[Qmu,Addr.add_lit,Nat.add_zero,<-Nat.add_assoc] at this;exact this
theorem Qhm {H:Type}{enc:TypeId × Value->H}{w:World}{base fuel:Nat}{held:Bool}{v:Value}{x:DataW H × List MemPlace}
 (h:DataW.trod enc Tryz.prog w base (fun _=>true) held fuel 24 [v]=some x):∃ a len cap f,v=.slice a len cap/\QfW w a len f:=by
 rcases open_ints Tryz.underlying24 Tryz.underlying88 (by kernel_rfl) h with ⟨hcs,_⟩|⟨y,l,c,zs,hcs,_,hl,hm,hz,_,hcell,hwz⟩
 . simp at hcs
   exact⟨none,0,0,fun _=>0,hcs,fun h=>absurd h (Nat.lt_irrefl _)⟩
 . simp at hcs
   subst hcs
   refine⟨some y,l,c,fun k=>(zs.getD k 0).toNat,rfl,fun h0=>?_⟩
   obtain⟨b,off,spot⟩:=y;simp at hz
   have hc0:=hcell 0 (by omega)
   have hspot:spot=none:=by simpa [Addr.add] using World.cell?_spot hc0
   subst hspot
   refine⟨b,off,rfl,fun k hk=>?_⟩
   have hc:=hcell k (by omega)
   have r:=range_u64 hwz k;rw[Addr.add_lit] at hc
   have r1:0<=zs.getD k 0:=by simpa using r.1
   have r2:zs.getD k 0<=18446744073709551615:=by simpa using r.2
   refine⟨?_,(by show (zs.getD k 0).toNat<=_;omega)⟩
   rw[hc];show _=some (I2 ((zs.getD k 0).toNat:Int));rw[Int.toNat_of_nonneg r1]
theorem Qmo {α:Type}{cs:Array α}(h:cs.size=5):∃ c0 c1 c2 c3 c4,cs=#[c0,c1,c2,c3,c4]:=by
 obtain⟨l⟩:=cs
 match l,h with
 |[c0,c1,c2,c3,c4],_=>exact⟨c0,c1,c2,c3,c4,rfl⟩
theorem Qga {H:Type}{enc:TypeId × Value->H}{w:World}{base:Nat}{held:Bool}{r:Reach}{b0:Nat}{v:Value}{d:DataW H}{p:List MemPlace}
 (hv:Value.okWide Tryz.prog w r b0 27 v) (h:DataW.Trod enc Tryz.prog w base (fun _=>true) held 27 v d p):
 ∃ V S T da dl dc f oa ol oc fo,v=vC13 V S T da dl dc oa ol oc/\QfW w da dl f/\Qmx w oa ol fo:=by
 obtain⟨cs,rfl,hsz⟩:=okWide_struct Tryz.underlying27 hv
 obtain⟨c0,c1,c2,c3,c4,rfl⟩:=Qmo (hsz.trans (by kernel_rfl))
 obtain⟨fuel,hf⟩:=h;obtain⟨y0,y1,y2,n,_,_,g0,g1,g2⟩:=trod_struct3 Tryz.underlying27 hf
 rw[show Tryz.prog.cellsOf _=3 by kernel_rfl] at g0
 rw[show Tryz.prog.cellsOf _=1 by kernel_rfl] at g1
 rw[show Tryz.prog.cellsOf _=1 by kernel_rfl] at g2
 simp [Value.cells] at g0 g1 g2;obtain⟨z0,z1,z2,n2,_,_,k0,k1,k2⟩:=trod_struct3 Tryz.underlying23 g0
 rw[show Tryz.prog.cellsOf _=1 by kernel_rfl] at k0 k1 k2
 simp at k0 k1 k2;obtain⟨V,e0,_,_⟩:=DataW.trod_int Tryz.underlying3 k0;obtain⟨S,e1,_,_⟩:=DataW.trod_int Tryz.underlying3 k1;obtain⟨T,e2,_,_⟩:=DataW.trod_int Tryz.underlying3 k2;simp at e0 e1 e2;obtain⟨da,dl,dc,f,e3,h3⟩:=Qhm g1;obtain⟨oa,ol,oc,fo,e4,h4⟩:=Qj4 g2;subst e0 e1 e2 e3 e4;exact⟨V,S,T,da,dl,dc,f,oa,ol,oc,fo,rfl,h3,h4⟩
section
variable {V:Int}{E:List (Nat × Nat × Nat)}{g:List (Option (Nat × Nat))}{x y u:Nat}{ls:List E1}
theorem Way.closed {P:Nat->Prop}(hc:∀ s a b,(s,a,b)∈E->(P a↔P b))(h:Way E x y):P x↔P y:=by
 induction h with
 |refl _=>exact Iff.rfl
 |fore _ he ih=>exact ih.trans (hc _ _ _ he)
 |back _ he ih=>exact ih.trans (hc _ _ _ he).symm
open Classical in
noncomputable def cW (V:Int)(E:List (Nat × Nat × Nat))(u:Nat):Nat:=((List.range V.toNat).filter fun v=>decide (Way E u v)).length
theorem Qi9 (h:Lnk g E):cntJ V g u=cW V E u:=by
 classical
 unfold cntJ cW
 congr 1
 refine List.filter_congr fun v _=>?_
 have:=Jn.way (u:=u) (v:=v) h
 by_cases hw:Way E u v
 . rw[decide_eq_true hw,decide_eq_true (this.2 hw)]
 . rw[decide_eq_false hw,decide_eq_false (fun h=>hw (this.1 h))]
theorem Qnw {P:Nat->Bool}(h:∀ v,v<V.toNat->(Way E u v↔P v=true)):cW V E u=((List.range V.toNat).filter P).length:=by
 classical
 unfold cW
 congr 1
 refine List.filter_congr fun v hv=>?_
 have:=h v (List.mem_range.1 hv)
 cases hp:P v
 . exact decide_eq_false fun hw=>by rw[this,hp] at hw;cases hw
 . exact decide_eq_true (this.2 hp)
theorem Qn0 (h:PutR [] 0 0 1 ls):ls=[⟨0,0,1,0,true⟩]:=by
 rcases h with ⟨⟨x,hx,_⟩,_⟩|⟨_,t,ht,rfl⟩
 . cases hx
 . have e:t=true:=ht.2 fun hw=>by
    have:=(hw.closed (P:=fun z=>z=0) fun s a b hm=>by simp [tE] at hm).1 (by decide)
    exact absurd this (by decide)
   subst e;rfl
theorem QnZ (h:PutR [⟨0,0,1,0,true⟩] 1 1 2 ls):ls=[⟨0,0,1,0,true⟩,⟨1,1,2,0,true⟩]:=by
 rcases h with ⟨⟨x,hx,hx1,hx2⟩,_⟩|⟨_,t,ht,rfl⟩
 . simp only[List.mem_singleton] at hx
   subst hx
   exact absurd hx1 (by decide)
 . have e:t=true:=ht.2 fun hw=>by
    have:=(hw.closed (P:=fun z=>z=2) fun s a b hm=>by
     simp [tE] at hm;obtain⟨_,rfl,rfl⟩:=hm
     decide).2 (by decide)
    exact absurd this (by decide)
   subst e;rfl
theorem QmB:Way [(0,0,1),(1,1,2)] 0 2:=.fore (.fore (.refl 0) (s:=0) (w:=1) (by simp)) (s:=1) (by simp)
theorem QnY (h:PutR [⟨0,0,1,0,true⟩,⟨1,1,2,0,true⟩] 2 0 2 ls):ls=[⟨0,0,1,0,true⟩,⟨1,1,2,0,true⟩,⟨2,0,2,0,false⟩]:=by
 rcases h with ⟨⟨x,hx,hx1,hx2⟩,_⟩|⟨_,t,ht,rfl⟩
 . simp only[List.mem_cons,List.not_mem_nil,or_false] at hx
   rcases hx with rfl|rfl
   . exact absurd hx2 (by decide)
   . exact absurd hx1 (by decide)
 . have e:t=false:=by
    cases t with
    |false=>rfl
    |true=>exact absurd QmB (ht.1 rfl)
   subst e;rfl
theorem cW_3:cW 4 [(0,0,1),(1,1,2)] 3=1:=by
 rw[Qnw (P:=fun v=>v==3)]
 . decide
 . intro v hv
   constructor
   . intro hw
     have:=(hw.closed (P:=fun z=>z=3) fun s a b hm=>by
      simp at hm
      rcases hm with ⟨_,rfl,rfl⟩|⟨_,rfl,rfl⟩<;>decide).1 rfl
     simp [this]
   . intro e
     have e:v=3:=by simpa using e
     subst e;exact .refl _
theorem cW_0:cW 4 [(0,0,1),(1,1,2)] 0=3:=by
 rw[Qnw (P:=fun v=>decide (v<3))]
 . decide
 . intro v hv
   constructor
   . intro hw
     have:=(hw.closed (P:=fun z=>z<3) fun s a b hm=>by
      simp at hm
      rcases hm with ⟨_,rfl,rfl⟩|⟨_,rfl,rfl⟩<;>decide).1 (by decide)
     exact decide_eq_true this
   . intro e
     have e:v<3:=of_decide_eq_true e
     have:v=0\/v=1\/v=2:=by omega
     rcases this with rfl|rfl|rfl
     . exact .refl _
     . exact .fore (.refl 0) (s:=0) (by simp)
     . exact QmB
theorem QnE:Rt 4 3 1:=by constructor<;>decide
end
set_option maxHeartbeats 8000000 in
theorem QdT (w:World):Calls Tryz.prog 9 #[] w fun e w'=>e=.returned (.bool true)/\Below w.heap.size w w':=by
 have HLB:Hid (Blk (w.alloc (.cells #[I 4,I 3,I 1] 23)) w.heap.size 23 #[I 4,I 3,I 1]):=q9 (Blk.new _ _ _);have HB0:Hid (Below w.heap.size w (w.alloc (.cells #[I 4,I 3,I 1] 23))):=q9 ((Below.refl _ _).alloc (Nat.le_refl _) _)
 have HN30:Hid (nN 4 3=30):=q9 (by decide)
 have HN:Hid (nN 4 3<=66):=q9 (by decide)
 go_enter Tryz.func9,Tryz.ntmps9
 go_wp2_with fail
 generalize w.alloc (.cells #[I 4,I 3,I 1] 23)=v0 at HLB HB0 |-;generalize w.heap.size=lo at HLB |-
 refine(QdR (f:=fun _=>0) QnE (fun h=>absurd h (by decide)) (by decide) (by decide) (by decide)).mono ?_;rintro e w1 ⟨q,p,gb,rfl,hP,hB⟩
 have HP:Hid (Below w.heap.size w w1):=q9 (HB0.trans (hB.mono HB0.size));have HV:Hid (w.heap.size<=v0.heap.size):=q9 HB0.size;generalize v0.heap.size=base at hP HV;have HX1:=q9 (PX13.start hP);have HG1:=q9 (LG.zero (V:=4) (S:=3) (T:=1) QnE);generalize QaT 4 3 1=cap at HX1;clear hP hB HB0 HLB;obtain⟨c0,c1,c2,c3,c4,c5,c6,c7,c8,c9,c10,c11,c12,c13,c14⟩:=HX1.pw.pq.cells;have qlt:=HX1.pw.pq.lt;go_wp2_with fail
 refine(QeQ (kd:=1) (s:=0) (u:=0) (v:=1) HX1.pw HG1.out (by decide) HN.out (by decide) (by have:=HN30.out;omega)).mono ?_;rintro e w2 ⟨rfl,f2,mk2,ts2,vl2,ls2,qq2,hX,hG,hS⟩
 have e2:ls2=[⟨0,0,1,0,true⟩]:=Qn0 (hS rfl 0 0 1 rfl rfl rfl (by decide) (by decide) (by decide) (by decide) (by decide))
 subst e2;have HX2:=q9 (HX1.over hX);have HG2:=q9 hG;clear hX hG hS HX1 HG1 c0 c1 c2 c3 c4 c5 c6 c7 c8 c9 c10 c11 c12 c13 c14 qlt;obtain⟨c0,c1,c2,c3,c4,c5,c6,c7,c8,c9,c10,c11,c12,c13,c14⟩:=HX2.pw.pq.cells;have qlt:=HX2.pw.pq.lt;go_wp2_with fail
 refine(QeQ (kd:=1) (s:=1) (u:=1) (v:=2) HX2.pw HG2.out (by decide) HN.out (by decide) (by have:=HN30.out;omega)).mono ?_;rintro e w3 ⟨rfl,f3,mk3,ts3,vl3,ls3,qq3,hX,hG,hS⟩
 have e3:ls3=[⟨0,0,1,0,true⟩,⟨1,1,2,0,true⟩]:=QnZ (hS rfl 1 1 2 rfl rfl rfl (by decide) (by decide) (by decide) (by decide) (by decide))
 subst e3;have HX3:=q9 (HX2.over hX);have HG3:=q9 hG;clear hX hG hS HX2 HG2 c0 c1 c2 c3 c4 c5 c6 c7 c8 c9 c10 c11 c12 c13 c14 qlt;obtain⟨c0,c1,c2,c3,c4,c5,c6,c7,c8,c9,c10,c11,c12,c13,c14⟩:=HX3.pw.pq.cells;have qlt:=HX3.pw.pq.lt;go_wp2_with fail
 refine(QeQ (kd:=1) (s:=2) (u:=0) (v:=2) HX3.pw HG3.out (by decide) HN.out (by decide) (by have:=HN30.out;omega)).mono ?_;rintro e w4 ⟨rfl,f4,mk4,ts4,vl4,ls4,qq4,hX,hG,hS⟩
 have e4:ls4=[⟨0,0,1,0,true⟩,⟨1,1,2,0,true⟩,⟨2,0,2,0,false⟩]:=QnY (hS rfl 2 0 2 rfl rfl rfl (by decide) (by decide) (by decide) (by decide) (by decide))
 subst e4;have HX4:=q9 (HX3.over hX);have HG4:=q9 hG;clear hX hG hS HX3 HG3 c0 c1 c2 c3 c4 c5 c6 c7 c8 c9 c10 c11 c12 c13 c14 qlt;obtain⟨c0,c1,c2,c3,c4,c5,c6,c7,c8,c9,c10,c11,c12,c13,c14⟩:=HX4.pw.pq.cells;have qlt:=HX4.pw.pq.lt;go_wp2_with fail
 obtain⟨gr,hV,hg⟩:=HG4.lf.fo
 have hw0:Lnk (gr 0) [(0,0,1),(1,1,2)]:=hg 0 (by decide)
 have hsm:=Qhu (L:=0) (u:=0) (v:=3) HX4.pw.ta hV (by decide) (by decide) (by decide) (by have:=HN30.out;omega)
 rw[Qi9 hw0,Qi9 hw0,cW_3,cW_0] at hsm;refine hsm.mono ?_;rintro e w5 ⟨rfl,A5,O5⟩;have HX5:=q9 (HX4.next A5 O5)
 have e5:((if 1<3 then 3 else 0:Nat):Int)=3:=rfl
 rw[e5];clear hsm hw0 hV hg A5 O5 HX4 e5 c0 c1 c2 c3 c4 c5 c6 c7 c8 c9 c10 c11 c12 c13 c14 qlt;obtain⟨c0,c1,c2,c3,c4,c5,c6,c7,c8,c9,c10,c11,c12,c13,c14⟩:=HX5.pw.pq.cells;have qlt:=HX5.pw.pq.lt;go_wp2_with fail
 refine(Qiy (i:=0) (x:=⟨0,0,1,0,true⟩) HX5.pw.ta HG4.out rfl rfl (by decide) (by have:=HN30.out;omega)).mono ?_;rintro e w6 ⟨f6,mk6,ts6,rfl,A6,hG6,_,O6⟩
 have HX6:=q9 (HX5.next A6 O6);have HG6:Hid (LG 4 3 1 f6 mk6 ts6 [⟨0,0,1,1,true⟩,⟨1,1,2,0,true⟩,⟨2,0,2,0,false⟩] qq4):=q9 hG6;clear A6 O6 hG6 HX5 HG4 c0 c1 c2 c3 c4 c5 c6 c7 c8 c9 c10 c11 c12 c13 c14 qlt;obtain⟨c0,c1,c2,c3,c4,c5,c6,c7,c8,c9,c10,c11,c12,c13,c14⟩:=HX6.pw.pq.cells;have qlt:=HX6.pw.pq.lt;go_wp2_with fail
 obtain⟨gr6,hV6,hg6⟩:=HG6.lf.fo
 refine(Qdu (L:=1) (s:=0) HX6.pw.ta hV6 (by decide) (by decide) (by have:=HN30.out;omega)).mono ?_;rintro e w7 ⟨b7,rfl,hb7,A7,O7⟩
 have e7:b7=true:=hb7.2 fun hn=>by
  have h1:=(hg6 1 (by decide) 0 0 1).1 (by decide)
  rw[hn] at h1
  cases h1
 subst e7;have HX7:=q9 (HX6.next A7 O7);clear A7 O7 hb7 hV6 hg6 HX6 c0 c1 c2 c3 c4 c5 c6 c7 c8 c9 c10 c11 c12 c13 c14 qlt;obtain⟨c0,c1,c2,c3,c4,c5,c6,c7,c8,c9,c10,c11,c12,c13,c14⟩:=HX7.pw.pq.cells;have qlt:=HX7.pw.pq.lt;go_wp2_with fail
 refine(QiA (i:=1) (x:=⟨1,1,2,0,true⟩) HX7.pw.ta HG6.out rfl rfl (by have:=HN30.out;omega)).mono ?_;rintro e w8 ⟨f8,mk8,ts8,rfl,A8,F8,K8,O8⟩
 have HX8:=q9 (HX7.next A8 O8);have HF8:Hid (LF 4 3 1 f8 mk8 ts8 [⟨0,0,1,1,true⟩,⟨2,0,2,0,false⟩] qq4):=q9 F8;have HE8:=q9 (K8.er HG6.er);clear A8 O8 F8 K8 HX7 HG6 c0 c1 c2 c3 c4 c5 c6 c7 c8 c9 c10 c11 c12 c13 c14 qlt;obtain⟨c0,c1,c2,c3,c4,c5,c6,c7,c8,c9,c10,c11,c12,c13,c14⟩:=HX8.pw.pq.cells;have qlt:=HX8.pw.pq.lt;go_wp2_with fail
 refine(Qkm (L:=0) (v:=2) HX8.pw.ta HF8 HE8 (fun x hx=>by
  simp only[List.mem_cons,List.not_mem_nil,or_false] at hx |-
  rcases hx with rfl|rfl<;>simp) (by decide) (by decide) (fun x hx hb hw=>?_) ⟨⟨2,0,2,0,false⟩,by simp,rfl,rfl,.inr (.refl _)⟩ (by
  have:=HN30.out
  have h3:(lv 4).toNat=3:=by decide
  rw[h3];omega)).mono ?_
 . simp only[List.mem_cons,List.not_mem_nil,or_false] at hx
   rcases hx with rfl|rfl
   . cases hb.1
   . have:=(hw.closed (P:=fun z=>z=2) fun s a b hm=>by
      simp [tE] at hm;obtain⟨_,rfl,rfl⟩:=hm
      decide).2 rfl
     cases this
 rintro e w9 ⟨x9,hx9,hb9,rfl,A9,O9⟩
 have e9:x9.s=2:=by
  simp only[List.mem_cons,List.not_mem_nil,or_false] at hx9
  rcases hx9 with rfl|rfl
  . cases hb9.1
  . rfl
 rw[e9];have HX9:=q9 (HX8.next A9 O9);clear A9 O9 hb9 hx9 e9 HX8 HE8 c0 c1 c2 c3 c4 c5 c6 c7 c8 c9 c10 c11 c12 c13 c14 qlt;obtain⟨c0,c1,c2,c3,c4,c5,c6,c7,c8,c9,c10,c11,c12,c13,c14⟩:=HX9.pw.pq.cells;have qlt:=HX9.pw.pq.lt;have i2:((2:Nat):Int)=2:=rfl;rw[i2];clear i2;obtain⟨gr9,hV9,hg9⟩:=HF8.fo;have HV9:=q9 (And.intro hV9 hg9);clear hV9 hg9 HF8;go_wp2_with fail
 refine(Qdu (L:=0) (s:=1) HX9.pw.ta HV9.1 (by decide) (by decide) (by
  have:=HN30.out
  have h3:(lv 4).toNat=3:=by decide
  rw[h3];omega)).mono ?_;rintro e wa ⟨ba,rfl,hba,Aa,Oa⟩
 have ea:ba=false:=by
  cases ba with
  |false=>rfl
  |true=>
   refine absurd ((HV9.2 0 (by decide)).slot_none (by rw[HV9.1.len (by decide)];decide) fun a b hm=>?_) (hba.1 rfl)
   simp [tE] at hm
 subst ea;have HXa:=q9 (HX9.next Aa Oa);clear Aa Oa hba HX9 c0 c1 c2 c3 c4 c5 c6 c7 c8 c9 c10 c11 c12 c13 c14 qlt;obtain⟨c0,c1,c2,c3,c4,c5,c6,c7,c8,c9,c10,c11,c12,c13,c14⟩:=HXa.pw.pq.cells;have qlt:=HXa.pw.pq.lt;go_wp2_with fail
 refine(QhV (L:=1) (u:=0) (v:=1) HXa.pw.ta HV9.1 (by decide) (by decide) (by decide) (by
  have:=HN30.out
  have h3:(lv 4).toNat=3:=by decide
  rw[h3];omega)).mono ?_;rintro e wb ⟨bb,rfl,hbb,Ab,Ob⟩
 have eb:bb=true:=hbb.2 ((Jn.way (HV9.2 1 (by decide))).2 (.fore (.refl 0) (s:=0) (by simp [tE])))
 subst eb;have HXb:=q9 (HXa.next Ab Ob);clear Ab Ob hbb HXa c0 c1 c2 c3 c4 c5 c6 c7 c8 c9 c10 c11 c12 c13 c14 qlt;go_wp2_with fail
 go_ret;exact⟨rfl,HP.trans (HXb.be.mono HV)⟩
theorem Qkp:Kty 27:=by unfold Kty;decide
theorem lv6i {V:Int}(v6:V<=6):lv V<=3:=by unfold lv;split<;>(try split)<;>(try split)<;>(try split)<;>omega
theorem nN66 {V S T:Int}(hR:Rt V S T)(v6:V<=6)(s8:S<=8):nN V S<=66:=by
 have h1:=Q0 hR;have h2:=lv6i v6;have h3:=(QF V).1
 have h4:lv V*V<=3*V:=Int.mul_le_mul_of_nonneg_right h2 (by have:=hR.v1;omega)
 have h5:S*(lv V*2)<=8*(lv V*2):=Int.mul_le_mul_of_nonneg_right s8 (by omega)
 have h6:nd V S=lv V*V+S*(lv V*2):=rfl;omega
structure LwX (w W:World)(zb:Nat)(V S T:Int)(da:Option Addr)(dl dc:Nat)(oa:Option Addr)(ol oc:Nat)(base q p gb cap m:Nat)(f:Nat->Int)(mk:Nat->Nat)(ts:List Tp)(vl:Value)(ls:List E1)(qq:Nat->Nat->List Nat):Prop where
 z:Blk W zb 27 #[I V,I S,I T,.slice da dl dc,.slice oa ol oc]
 be:Below w.heap.size w W
 pw:PW13 W base q V S T p gb cap m f mk ts vl ls
 lg:LG V S T f mk ts ls qq
 bs:w.heap.size<=base
section
variable {w w' w0 w1 W:World}{zb base q p gb cap m m':Nat}{V S T kd s u v:Int}{da oa:Option Addr}{dl dc ol oc:Nat}{f f':Nat->Int}{mk mk':Nat->Nat}{ts ts':List Tp}{vl vl':Value}{ls ls':List E1}{qq qq':Nat->Nat->List Nat}{fd:Nat->Nat}
theorem LwX.below (h:LwX w W zb V S T da dl dc oa ol oc base q p gb cap m f mk ts vl ls qq)(hb:Below W.heap.size W w'):LwX w w' zb V S T da dl dc oa ol oc base q p gb cap m f mk ts vl ls qq:=⟨h.z.below hb h.z.lt,h.be.trans (hb.mono h.be.size),h.pw.below hb,h.lg,h.bs⟩
theorem LwX.alloc (h:LwX w W zb V S T da dl dc oa ol oc base q p gb cap m f mk ts vl ls qq)(o:Obj):LwX w (W.alloc o) zb V S T da dl dc oa ol oc base q p gb cap m f mk ts vl ls qq:=h.below ((Below.refl _ _).alloc (Nat.le_refl _) o)
theorem LwX.more (h:LwX w W zb V S T da dl dc oa ol oc base q p gb cap m f mk ts vl ls qq)(hm:m<=m'):LwX w W zb V S T da dl dc oa ol oc base q p gb cap m' f mk ts vl ls qq:=⟨h.z,h.be,h.pw.more hm,h.lg,h.bs⟩
theorem LwX.over (h:LwX w W zb V S T da dl dc oa ol oc base q p gb cap m f mk ts vl ls qq)(hX:PX13 W w' base q V S T p gb cap m' f' mk' ts' vl' ls')(hG:LG V S T f' mk' ts' ls' qq'):LwX w w' zb V S T da dl dc oa ol oc base q p gb cap m' f' mk' ts' vl' ls' qq':=⟨hX.kb _ _ _ h.z Qkp,h.be.trans (hX.be.mono h.bs),hX.pw,hG,h.bs⟩
theorem LwX.next (h:LwX w W zb V S T da dl dc oa ol oc base q p gb cap m f mk ts vl ls qq)(A:TA w' V S T p gb cap m' f' mk' ts')(O:Only p gb W w')(hG:LG V S T f' mk' ts' ls qq'):LwX w w' zb V S T da dl dc oa ol oc base q p gb cap m' f' mk' ts' vl ls qq':=h.over ((PX13.start h.pw).next A O) hG
theorem LwX.len (h:LwX w W zb V S T da dl dc oa ol oc base q p gb cap m f mk ts vl ls qq):(ls.length:Int)<=S/\ls.length<=1000:=by
 have h1:=h.lg.er.len_le;have h2:=h.pw.ta.hR.s1;have h3:=h.pw.ta.hR.s2;omega
theorem QjB (hG:RH13 V S T dl ol)(hD:QfW w da dl fd)(hz:Blk W zb 27 #[I V,I S,I T,.slice da dl dc,.slice oa ol oc])(hb:Below w.heap.size w W):
 Calls Tryz.prog 10 #[vC13 V S T da dl dc oa ol oc] W fun e w'=>∃ base q p gb cap f mk ts vl,e=.returned (.pointer (some (I1 q 0)))/\W.heap.size<=base/\LwX w w' zb V S T da dl dc oa ol oc base q p gb cap 660 f mk ts vl [] fun _ _=>[]:=by
 refine(QdR (vo:=.slice oa ol oc) hG.r (hD.below hb) hG.d (by have:=hG.v;omega) hG.s).mono ?_
 rintro e w' ⟨q,p,gb,rfl,hP,hB⟩;have h66:=nN66 hG.r hG.v hG.s
 exact⟨_,q,p,gb,_,_,_,_,_,rfl,Nat.le_refl _,hz.below hB hz.lt,hb.trans (hB.mono hb.size),hP.more (by omega),LG.zero hG.r,hb.size⟩
theorem Qln (h:LwX w W zb V S T da dl dc oa ol oc base q p gb cap m f mk ts vl ls qq)(hG:RH13 V S T dl ol)(hm:m<=99740000):
 Calls Tryz.prog 11 #[.pointer (some (I1 q 0)),vO13 kd s u v] W fun e w'=>e=.returned (.tuple #[])/\∃ f' mk' ts' vl' ls' qq',LwX w w' zb V S T da dl dc oa ol oc base q p gb cap (m+14680) f' mk' ts' vl' ls' qq':=by
 have h66:=nN66 hG.r hG.v hG.s;refine(QeQ h.pw h.lg h.len.2 h66 hG.v hm).mono ?_;rintro e w' ⟨rfl,f',mk',ts',vl',ls',qq',hX,hL,_⟩
 exact⟨rfl,f',mk',ts',vl',ls',qq',(h.over hX hL).more (by omega)⟩
end
end Go.Proofs.YtaooglagddphnaaGreat
