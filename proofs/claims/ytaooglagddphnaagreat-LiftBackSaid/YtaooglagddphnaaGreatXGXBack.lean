/- GXBack -/
import Derived.Test.YtaooglagddphnaaGreatXGr
import Derived.Carry
namespace Go.Proofs.YtaooglagddphnaaGreat
open Go.RowKit
set_option maxRecDepth 100000
section
variable {w w' w0 w1 W:World}{zb base q p gb cap m m':Nat}{V S T kd s u v:Int}{da oa:Option Addr}{dl dc ol oc:Nat}{f f':Nat->Int}{mk mk':Nat->Nat}{ts ts':List Tp}{vl vl':Value}{ls ls':List E1}{qq qq':Nat->Nat->List Nat}{fd:Nat->Nat}
def Lp13 (w:World)(zb:Nat)(V S T:Int)(da:Option Addr)(dl dc:Nat)(oa:Option Addr)(ol oc:Nat)(base q p gb cap:Nat)(i:Value)(W:World):Prop:=
 ∃ k f mk ts vl ls qq,k<=ol/\i=I ((k:Nat):Int)/\LwX w W zb V S T da dl dc oa ol oc base q p gb cap (660+14680*k) f mk ts vl ls qq
end
section
variable {w w' w0 W:World}{zb base q p gb cap m m' i g c:Nat}{V S T:Int}{da oa:Option Addr}{dl dc ol oc:Nat}{f f':Nat->Int}{mk mk':Nat->Nat}{ts ts':List Tp}{vl:Value}{ls ls':List E1}{qq qq':Nat->Nat->List Nat}{x:E1}
theorem PW13.turned (h:PW13 w base q V S T p gb cap m f mk ts (I3 (I1 g 0) ls.length c) ls)(hi:ls[i]?=some x)(k:Nat):PW13 (w.setCell (I1 g (i*5+3)) (I ((k:Nat):Int))) base q V S T p gb cap m f mk ts (I3 (I1 g 0) ls.length c) (ls.set i { x with l:=k }):=by
 obtain⟨g9,c9,e,hg,zs,hz⟩:∃ g9 c9,(Value.slice (some (I1 g 0)) ls.length c)=I3 (I1 g9 0) ls.length c9/\base<=g9/\∃ zs,Blk w g9 56 zs:=by
  rcases h.ew.shape with ⟨e,_⟩|⟨g',c',cs,e,hg,hz,_⟩
  . cases e
  . exact⟨g',c',e,hg,cs,hz⟩
 injection e with e _ _;injection e with e;injection e with e _ _;subst e
 exact⟨Blk.far (p:=(I1 g (i*5+3))) h.pq (Blk.ne_ h.pq hz (by decide)) _,h.ta.far hz (by decide) (by decide) _,h.ew.turned hi (by decide) rfl,h.bq,h.bp,h.bg⟩
theorem PW13.gbase (h:PW13 w base q V S T p gb cap m f mk ts (I3 (I1 g 0) ls.length c) ls):base<=g/\∃ zs,Blk w g 56 zs:=by
 rcases h.ew.shape with ⟨e,_⟩|⟨g',c',cs,e,hg,hz,_⟩
 . cases e
 . injection e with e _ _
   injection e with e;injection e with e _ _;subst e;exact⟨hg,cs,hz⟩
structure LwY (w W:World)(zb:Nat)(V S T:Int)(da:Option Addr)(dl dc:Nat)(oa:Option Addr)(ol oc:Nat)(base q p gb cap m:Nat)(f:Nat->Int)(mk:Nat->Nat)(ts:List Tp)(vl:Value)(ls ls':List E1)(qq:Nat->Nat->List Nat):Prop where
 z:Blk W zb 27 #[I V,I S,I T,.slice da dl dc,.slice oa ol oc]
 be:Below w.heap.size w W
 pw:PW13 W base q V S T p gb cap m f mk ts vl ls
 lg:LG V S T f mk ts ls' qq
 bs:w.heap.size<=base
theorem LwX.y (h:LwX w W zb V S T da dl dc oa ol oc base q p gb cap m f mk ts vl ls qq):LwY w W zb V S T da dl dc oa ol oc base q p gb cap m f mk ts vl ls ls qq:=⟨h.z,h.be,h.pw,h.lg,h.bs⟩
theorem LwY.done (h:LwY w W zb V S T da dl dc oa ol oc base q p gb cap m f mk ts vl ls ls qq):LwX w W zb V S T da dl dc oa ol oc base q p gb cap m f mk ts vl ls qq:=⟨h.z,h.be,h.pw,h.lg,h.bs⟩
theorem LwY.next {ls2:List E1}(h:LwY w W zb V S T da dl dc oa ol oc base q p gb cap m f mk ts vl ls ls' qq)(A:TA w' V S T p gb cap m' f' mk' ts')(O:Only p gb W w')(hG:LG V S T f' mk' ts' ls2 qq'):LwY w w' zb V S T da dl dc oa ol oc base q p gb cap m' f' mk' ts' vl ls ls2 qq':=by
 have hX:=(PX13.start h.pw).next A O;exact⟨hX.kb _ _ _ h.z Qkp,h.be.trans (hX.be.mono h.bs),hX.pw,hG,h.bs⟩
theorem LwY.more (h:LwY w W zb V S T da dl dc oa ol oc base q p gb cap m f mk ts vl ls ls' qq)(hm:m<=m'):LwY w W zb V S T da dl dc oa ol oc base q p gb cap m' f mk ts vl ls ls' qq:=⟨h.z,h.be,h.pw.more hm,h.lg,h.bs⟩
theorem LwY.up (h:LwY w W zb V S T da dl dc oa ol oc base q p gb cap m f mk ts (I3 (I1 g 0) ls.length c) ls ls' qq)(hi:ls[i]?=some x)(k:Nat):LwY w (W.setCell (I1 g (i*5+3)) (I ((k:Nat):Int))) zb V S T da dl dc oa ol oc base q p gb cap m f mk ts (I3 (I1 g 0) (ls.set i { x with l:=k }).length c) (ls.set i { x with l:=k }) ls' qq:=by
 obtain⟨hg,zs,hz⟩:=h.pw.gbase;have hp:=h.pw.turned hi k;rw[List.length_set]
 exact⟨Blk.far (p:=(I1 g (i*5+3))) h.z (Blk.ne_ h.z hz (by decide)) _,h.be.setCell (p:=(I1 g (i*5+3))) (Nat.le_trans h.bs hg) _,hp,h.lg,h.bs⟩
end
section
variable {w w' w0:World}{V S T:Int}{q p gb cap m base s u v9 i n:Nat}{f:Nat->Int}{mk:Nat->Nat}{ts:List Tp}{v:Value}{l:List E1}{x:E1}
theorem slot_noI13 (hq:PB13 w q V S T p v)(hO:EW w base v l)(hl:l.length<=1000){si:Int}(hno:∀ x∈l,(x.s:Int)≠si):
 Calls Tryz.prog 19 #[.pointer (some (I1 q 0)),I si] w fun e w'=>e=.returned (I (-1))/\Below w.heap.size w w':=by
 obtain⟨av,ac,rfl⟩:=hO.slice;obtain⟨n,hn⟩:∃ n,l.length=n:=⟨_,rfl⟩;have HN:=q9 hn;have HQ:=q9 hq;have HO:=q9 hO;have HS:=q9 hno;clear hno;rw[hn] at HQ HO hl
 have nI:(n:Int)<=1000:=by omega
 have HRel:Hid (Qe5 w n (I 0) w):=q9 ⟨Below.refl _ _,0,Nat.zero_le _,rfl⟩;clear hq hO hn;obtain⟨c0,c1,c2,c3,c4,c5,c6,c7,c8,c9,c10,c11,c12,c13,c14⟩:=HQ.cells;have qlt:=HQ.lt
 go_enter Tryz.func19,Tryz.ntmps19
 go_wp2_with fail
 clear c0 c1 c2 c3 c4 c5 c6 c7 c8 c9 c10 c11 c12 c13 c14 qlt
 go_loopw [12] (fun i9 wr=>Qe5 w n i9 wr) (fun i9 _=>n-(intOf i9).toNat)
 case atStart=>exact HRel.out
 case round=>
  clear HRel;obtain⟨hb,k,hk,rfl⟩:=hrel;have HB:=q9 hb;clear hb
  by_cases hkn:k<n
  . obtain⟨x,hx⟩:∃ x,l[k]?=some x:=⟨_,List.getElem?_eq_getElem (by have:=HN.out;omega)⟩
    obtain⟨g,cp9,e,_,glt,_,y0,y1,y2,y3,y4⟩:=(HO.below HB.out).at hx;injection e with e1 e2 e3;subst e1 e3
    have kI:(k:Int)<(n:Int):=by omega
    have k0:(0:Int)<=(k:Int):=by omega
    have hne:((x.s:Int)==si)=false:=beq_eq_false_iff_ne.2 fun e=>HS.out x (List.mem_of_getElem? hx) (by omega)
    clear hx e2;go_wp2_with fail
    exact⟨⟨HB.alloc HB.size _,k+1,by omega,by simp⟩,by simp [intOf];omega⟩
  . have ek:k=n:=by omega
    subst ek
    have kI:¬ (k:Int)<(k:Int):=by omega
    clear hk hkn;go_wp2_with fail
    go_ret;exact⟨rfl,HB⟩
theorem slot_int13 (hq:PB13 w q V S T p v)(hO:EW w base v l)(hl:l.length<=1000)(hE:ER V S T f l)(si:Int):
 Calls Tryz.prog 19 #[.pointer (some (I1 q 0)),I si] w fun e w'=>∃ r,e=.returned (I r)/\(r=-1\/∃ (i:Nat) (x:E1),r=(i:Int)/\l[i]?=some x/\si=(x.s:Int))/\Below w.heap.size w w':=by
 by_cases h:∃ x∈l,(x.s:Int)=si
 . obtain⟨x,hx,rfl⟩:=h
   obtain⟨i,hi⟩:=List.mem_iff_getElem?.1 hx
   exact(Qef hq hO hl hi rfl fun j y hj hy=>hE.slot1 hj hi hy).mono fun e w' ⟨h1,h2⟩=>⟨_,h1,.inr ⟨i,x,rfl,hi,rfl⟩,h2⟩
 . exact(slot_noI13 hq hO hl fun x hx e=>h ⟨x,hx,e⟩).mono fun e w' ⟨h1,h2⟩=>⟨_,h1,.inl rfl,h2⟩
end
section
variable {V S T:Int}{L i:Nat}{f:Nat->Int}{mk:Nat->Nat}{ts:List Tp}{bs:List E1}{q:Nat->Nat->List Nat}{x:E1}
theorem LG.apart13 (h:LG V S T f mk ts bs q)(hR:Rt V S T)(hF:FJ V S mk ts)(hi:bs[i]?=some x)(ht:x.t=true)(hL:(L:Int)<lv V):¬ Way (tE (bs.eraseIdx i) L) x.u x.v:=by
 obtain⟨gr,hV,hg⟩:=h.lf.fo;obtain⟨g,hF'⟩:=hF;have hx:=List.mem_of_getElem? hi;have hok:=h.er.ok x hx
 by_cases hl:L<=x.l
 . obtain⟨rows,hv⟩:=hV L hL
   have hgs:(gr L)[x.s]?=some (some (x.u,x.v)):=(hg L hL x.s x.u x.v).1 (QG.2 ⟨x,hx,ht,hl,rfl,rfl,rfl⟩);obtain⟨r,hr,c,d,pp,qq,rr,ha,er,hnd,E,hE,hb,hs⟩:=hv.parted hR hL hF' hgs
   have hdel:Lnk ((gr L).set x.s none) (tE (bs.eraseIdx i) L):=(hg L hL).del fun s' a b=>by
    rw[QG,QG]
    constructor
    . rintro⟨e,he,h1,h2,h3,h4,h5⟩
      have:=(h.er.mem_erase hi).1 he
      exact⟨⟨e,this.1,h1,h2,h3,h4,h5⟩,by rw[<-h3];exact this.2⟩
    . rintro⟨⟨e,he,h1,h2,h3,h4,h5⟩,hne⟩
      exact⟨e,(h.er.mem_erase hi).2 ⟨he,by rw[h3];exact hne⟩,h1,h2,h3,h4,h5⟩
   intro hw;have hw:=hdel.same hE hw
   have key:∀ l,QcF V L E x.u x.v 1 l->False:=fun l hl=>by
    obtain⟨_,⟨y,_,hy⟩,hs⟩:=hl;have h2:=(hs y hy).2 rfl;exact h2.1 (h2.2.trans hw.symm)
   rcases hs with ⟨_,h1⟩|⟨h1,_⟩
   . exact key _ h1
   . exact key _ h1
 . intro hw
   refine h.free hR ⟨g,hF'⟩ hx ht hok.2.2.2 (hw.mono fun⟨s,a,b⟩ he=>?_)
   obtain⟨e,he,h1,h2,h3,h4,h5⟩:=QG.1 he
   exact QG.2 ⟨e,((h.er.mem_erase hi).1 he).1,h1,by omega,h3,h4,h5⟩
theorem set_same13 {l:List E1}(h:l[i]?=some x):l.set i x=l:=by
 refine List.ext_getElem? fun j=>?_
 rw[List.getElem?_set]
 by_cases e:i=j
 . subst e
   rw[if_pos rfl,if_pos (List.getElem?_eq_some_iff.1 h).1,h]
 . rw[if_neg e]
end
structure LwP (w W:World)(zb:Nat)(V S T:Int)(da:Option Addr)(dl dc:Nat)(oa:Option Addr)(ol oc:Nat)(base q p gb cap m:Nat)(f:Nat->Int)(mk:Nat->Nat)(ts:List Tp)(vl:Value)(ls:List E1):Prop where
 z:Blk W zb 27 #[I V,I S,I T,.slice da dl dc,.slice oa ol oc]
 be:Below w.heap.size w W
 pw:PW13 W base q V S T p gb cap m f mk ts vl ls
 bs:w.heap.size<=base
section
variable {w w' w0 W:World}{zb base q p gb cap m m' i g c s u v L:Nat}{V S T:Int}{da oa:Option Addr}{dl dc ol oc:Nat}{f f':Nat->Int}{mk mk':Nat->Nat}{ts ts':List Tp}{vl:Value}{ls ls' bs:List E1}{qq qq':Nat->Nat->List Nat}{x:E1}
theorem LwX.bare (h:LwX w W zb V S T da dl dc oa ol oc base q p gb cap m f mk ts vl ls qq):LwP w W zb V S T da dl dc oa ol oc base q p gb cap m f mk ts vl ls:=⟨h.z,h.be,h.pw,h.bs⟩
theorem LwP.lw (h:LwP w W zb V S T da dl dc oa ol oc base q p gb cap m f mk ts vl ls)(hG:LG V S T f mk ts ls qq):LwX w W zb V S T da dl dc oa ol oc base q p gb cap m f mk ts vl ls qq:=⟨h.z,h.be,h.pw,hG,h.bs⟩
theorem LwP.next (h:LwP w W zb V S T da dl dc oa ol oc base q p gb cap m f mk ts vl ls)(A:TA w' V S T p gb cap m' f' mk' ts')(O:Only p gb W w'):LwP w w' zb V S T da dl dc oa ol oc base q p gb cap m' f' mk' ts' vl ls:=by
 have hX:=(PX13.start h.pw).next A O;exact⟨hX.kb _ _ _ h.z Qkp,h.be.trans (hX.be.mono h.bs),hX.pw,h.bs⟩
theorem LwP.below (h:LwP w W zb V S T da dl dc oa ol oc base q p gb cap m f mk ts vl ls)(hb:Below W.heap.size W w'):LwP w w' zb V S T da dl dc oa ol oc base q p gb cap m f mk ts vl ls:=⟨h.z.below hb h.z.lt,h.be.trans (hb.mono h.be.size),h.pw.below hb,h.bs⟩
theorem LwP.drew (h:LwP w W zb V S T da dl dc oa ol oc base q p gb cap m f mk ts vl ls):LwP w W.drew zb V S T da dl dc oa ol oc base q p gb cap m f mk ts vl ls:=h.below (Below.refl _ _).drew
theorem LwP.more (h:LwP w W zb V S T da dl dc oa ol oc base q p gb cap m f mk ts vl ls)(hm:m<=m'):LwP w W zb V S T da dl dc oa ol oc base q p gb cap m' f mk ts vl ls:=⟨h.z,h.be,h.pw.more hm,h.bs⟩
theorem LwP.up (h:LwP w W zb V S T da dl dc oa ol oc base q p gb cap m f mk ts (I3 (I1 g 0) ls.length c) ls)(hi:ls[i]?=some x)(k:Nat):LwP w (W.setCell (I1 g (i*5+3)) (I ((k:Nat):Int))) zb V S T da dl dc oa ol oc base q p gb cap m f mk ts (I3 (I1 g 0) (ls.set i { x with l:=k }).length c) (ls.set i { x with l:=k }):=by
 obtain⟨hg,zs,hz⟩:=h.pw.gbase;have hp:=h.pw.turned hi k;rw[List.length_set]
 exact⟨Blk.far (p:=(I1 g (i*5+3))) h.z (Blk.ne_ h.z hz (by decide)) _,h.be.setCell (p:=(I1 g (i*5+3))) (Nat.le_trans h.bs hg) _,hp,h.bs⟩
theorem LwP.hb (h:LwP w W zb V S T da dl dc oa ol oc base q p gb cap m f mk ts vl ls):PB13 W q V S T p vl/\EW W base vl ls:=⟨h.pw.pq,h.pw.ew⟩
theorem EW.ends {k:Nat}(h:EW W base (I3 (I1 g 0) k c) ls)(hi:ls[i]?=some x):W.cell? (I1 g (i*5+1))=some (I (x.u:Int))/\W.cell? (I1 g (i*5+2))=some (I (x.v:Int)):=by
 obtain⟨gb8,cap8,e1,_,_,_,_,g1,g2,_,_⟩:=h.at hi;injection e1 with e1 e2 e3;injection e1 with e1;injection e1 with e1;subst e1;exact⟨g1,g2⟩
theorem LwP.linked (h:LwP w W zb V S T da dl dc oa ol oc base q p gb cap m f mk ts vl ls)(hF:LF V S T f mk ts bs qq)(h66:nN V S<=66)(hno:∀ e∈bs,e.s≠s)(hs:(s:Int)<S)(hL:(L:Int)<lv V)(hm:m<=99900000):
 Calls Tryz.prog 24 #[vTr V S T p,I (L:Int),I (s:Int)] W fun e w'=>e=.returned (.bool false)/\LwP w w' zb V S T da dl dc oa ol oc base q p gb cap (m+132) f mk ts vl ls:=by
 obtain⟨gr,hV,hg⟩:=hF.fo
 refine(Qdu h.pw.ta hV hL hs (by omega)).mono ?_
 rintro e w' ⟨b,rfl,hb,A,O⟩
 have e:b=false:=by
  cases b with
  |false=>rfl
  |true=>exact absurd ((hg L hL).slot_none (by rw[hV.len hL];omega) fun a b hm=>by
   obtain⟨e,he,_,_,h3,_⟩:=QG.1 hm;exact hno e he h3) (hb.1 rfl)
 subst e
 exact⟨rfl,(h.next A O).more (by omega)⟩
theorem LwP.same (h:LwP w W zb V S T da dl dc oa ol oc base q p gb cap m f mk ts vl ls)(hF:LF V S T f mk ts bs qq)(h66:nN V S<=66)(hno:¬ Way (tE bs L) u v)(hu:(u:Int)<V)(hv:(v:Int)<V)(hL:(L:Int)<lv V)(hm:m<=99900000):
 Calls Tryz.prog 25 #[vTr V S T p,I (L:Int),I (u:Int),I (v:Int)] W fun e w'=>e=.returned (.bool false)/\LwP w w' zb V S T da dl dc oa ol oc base q p gb cap (m+132) f mk ts vl ls:=by
 obtain⟨gr,hV,hg⟩:=hF.fo
 refine(QhV h.pw.ta hV hL hu hv (by omega)).mono ?_
 rintro e w' ⟨b,rfl,hb,A,O⟩
 have e:b=false:=by
  cases b with
  |false=>rfl
  |true=>exact absurd ((Jn.way (hg L hL)).1 (hb.1 rfl)) hno
 subst e
 exact⟨rfl,(h.next A O).more (by omega)⟩
theorem LwX.tree13 (h:LwX w W zb V S T da dl dc oa ol oc base q p gb cap m f mk ts vl ls qq)(hG:RH13 V S T dl ol)(hi:ls[i]?=some x)(ht:x.t=true)(hl:((x.l+1:Nat):Int)<lv V)(hm:m<=99780000):
 Calls Tryz.prog 22 #[vA V S T p,I (x.s:Int)] W fun e w'=>e=.returned (.tuple #[])/\∃ f' mk' ts',LwY w w' zb V S T da dl dc oa ol oc base q p gb cap (m+7600) f' mk' ts' vl ls (ls.set i { x with l:=x.l+1 }) qq:=by
 have h66:=nN66 hG.r hG.v hG.s
 refine(Qiy h.pw.ta h.lg hi ht hl (by omega)).mono ?_
 rintro e w' ⟨f',mk',ts',rfl,A,hG',_,O⟩
 exact⟨rfl,f',mk',ts',(h.y.next A O hG').more (by omega)⟩
theorem LwX.fell13 (h:LwX w W zb V S T da dl dc oa ol oc base q p gb cap m f mk ts vl ls qq)(hG:RH13 V S T dl ol)(hi:ls[i]?=some x)(ht:x.t=true)(hm:m<=99770000):
 Calls Tryz.prog 23 #[vA V S T p,I (x.s:Int)] W fun e w'=>e=.returned (.tuple #[])/\∃ f' mk' ts',LwP w w' zb V S T da dl dc oa ol oc base q p gb cap (m+24100) f' mk' ts' vl ls/\LF V S T f' mk' ts' (ls.eraseIdx i) qq/\ER V S T f' ls:=by
 have h66:=nN66 hG.r hG.v hG.s
 have h5:(lv V).toNat<=5:=by have:=(QF V).2;omega
 have hmul:(lv V).toNat*(72*nN V S+50)<=5*4802:=Nat.mul_le_mul h5 (by omega)
 refine(QiA h.pw.ta h.lg hi ht (by omega)).mono ?_
 rintro e w' ⟨f',mk',ts',rfl,A,hF,hK,O⟩
 exact⟨rfl,f',mk',ts',(h.bare.next A O).more (by omega),hF,hK.er h.lg.er⟩
theorem LwP.lift13 (h:LwP w W zb V S T da dl dc oa ol oc base q p gb cap m f mk ts vl ls)(hE:ER V S T f ls)(hF:LF V S T f mk ts bs qq)(hi:ls[i]?=some x)(hm:m<=99890000):
 Calls Tryz.prog 26 #[vE V S T p,I (x.s:Int),I 0] W fun e w'=>e=.returned (.tuple #[])/\∃ f',LwP w w' zb V S T da dl dc oa ol oc base q p gb cap (m+4) f' mk ts vl ls/\ER V S T f' (ls.set i { x with l:=0 })/\LF V S T f' mk ts bs qq:=by
 have h1:((0:Nat):Int)<lv V:=by have:=(QF V).1;omega
 have hR:=h.pw.ta.hR
 refine(QhZ (k:=0) h.pw.ta hE (List.mem_of_getElem? hi) h1 (by omega)).mono ?_
 rintro e w' ⟨rfl,A,O⟩;exact⟨rfl,_,h.next A O,hE.lift hR hi h1,hF.turn (Qix hR (hE.ok x (List.mem_of_getElem? hi)).2.2.1)⟩
theorem LwP.plant13 (h:LwP w W zb V S T da dl dc oa ol oc base q p gb cap m f mk ts vl ls)(hG:RH13 V S T dl ol)(hE:ER V S T f bs)(hF:LF V S T f mk ts (bs.eraseIdx i) qq)(hi:bs[i]?=some x)(ht:x.t=true)(hl:x.l=0)(hno:¬ Way (tE (bs.eraseIdx i) 0) x.u x.v)(hm:m<=99750000):
 Calls Tryz.prog 27 #[vA V S T p,I (x.s:Int)] W fun e w'=>e=.returned (.tuple #[])/\∃ f' mk' ts',LwP w w' zb V S T da dl dc oa ol oc base q p gb cap (m+7200) f' mk' ts' vl ls/\LG V S T f' mk' ts' bs qq:=by
 have h66:=nN66 hG.r hG.v hG.s
 refine(Qkk h.pw.ta hF hE hi (fun e=>hE.mem_erase hi) (hE.un.sublist (List.eraseIdx_sublist _ _)) (fun L hL=>?_) (by omega)).mono ?_
 . have:L=0:=by omega
   subst this;exact hno
 rintro e w' ⟨f',mk',ts',rfl,A,hG',_,O⟩
 have es:bs.set i { x with t:=true }=bs:=by
  refine set_same13 ?_;rw[hi,<-ht]
 rw[es] at hG';rw[hl] at A
 exact⟨rfl,f',mk',ts',(h.next A O).more (by omega),hG'⟩
end
section
variable {V S T si:Int}{da oa:Option Addr}{dl dc ol oc:Nat}{fd:Nat->Nat}{fo:Nat->O13}
def KBk13 (w:World)(zb:Nat)(V S T:Int)(da:Option Addr)(dl dc:Nat)(oa:Option Addr)(ol oc base q p gb cap:Nat)(vl:Value)(ls:List E1)(qq:Nat->Nat->List Nat)(i:Nat)(x:E1)(u:Value)(W:World):Prop:=
 ∃ (k:Nat) (f:Nat->Int) (mk:Nat->Nat) (ts:List Tp),(k:Int)<lv V/\u=I ((k:Nat):Int)/\LwX w W zb V S T da dl dc oa ol oc base q p gb cap (590000+k*7600) f mk ts vl (ls.set i { x with l:=k }) qq
def KCk13 (w:World)(zb:Nat)(V S T:Int)(da:Option Addr)(dl dc:Nat)(oa:Option Addr)(ol oc base q p gb cap:Nat)(f:Nat->Int)(mk:Nat->Nat)(ts:List Tp)(vl:Value)(ls:List E1)(u:Value)(W:World):Prop:=
 ∃ L:Nat,(L:Int)<=lv V/\u=I ((L:Nat):Int)/\LwP w W zb V S T da dl dc oa ol oc base q p gb cap (700000+L*300) f mk ts vl ls
set_option maxHeartbeats 16000000 in
theorem lback13 (w:World)(hD:QfW w da dl fd)(hO:Qmx w oa ol fo):
 Calls Tryz.prog 7 #[vC13 V S T da dl dc oa ol oc,I si] w fun e w'=>e=.returned (.bool true)/\Below w.heap.size w w':=by
 have HO:=q9 hO;have HD:=q9 hD;clear hO hD;have HB1:Hid (Below w.heap.size w (w.alloc (.cells #[I V,I S,I T,.slice da dl dc,.slice oa ol oc] 27))):=q9 ((Below.refl _ _).alloc (Nat.le_refl _) _);have HZ1:Hid (Blk (w.alloc (.cells #[I V,I S,I T,.slice da dl dc,.slice oa ol oc] 27)) w.heap.size 27 #[I V,I S,I T,.slice da dl dc,.slice oa ol oc]):=q9 (Blk.new _ _ _)
 go_enter Tryz.func7,Tryz.ntmps7
 go_upto_region 1 with fail
 generalize (w.alloc (.cells #[I V,I S,I T,.slice da dl dc,.slice oa ol oc] 27))=W1 at HB1 HZ1 |-;generalize w.heap.size=zb at HZ1 |-;have z0:=HZ1.cell 0;have z1:=HZ1.cell 1;have z2:=HZ1.cell 2;have z3:=HZ1.cell 3;have z4:=HZ1.cell 4;have zlt:=HZ1.lt;go_wp2_with fail
 refine(Qf3 V S T da dl dc oa ol oc _).mono ?_;rintro e w2 ⟨rfl,hb2⟩;have HB2:=q9 (HB1.trans (hb2.mono HB1.size));have HZ2:=q9 (HZ1.below hb2 HZ1.lt);clear HB1 HZ1 hb2 z0 z1 z2 z3 z4 zlt
 cases hr:Qd4 V S T dl ol
 . go_wp2_with fail
   refine(QdT _).mono ?_;rintro e w3 ⟨rfl,hb3⟩;have HB3:=q9 (HB2.trans (hb3.mono HB2.size));go_wp2_with fail
   go_ret;exact⟨rfl,HB3⟩
 have HG:=q9 (Qif hr);clear hr;have z0:=HZ2.cell 0;have z1:=HZ2.cell 1;have z2:=HZ2.cell 2;have z3:=HZ2.cell 3;have z4:=HZ2.cell 4;have zlt:=HZ2.lt;go_wp2_with fail
 refine(QjB HG HD HZ2 HB2).mono ?_;rintro e w3 ⟨base,q,p,gb,cap,f0,mk0,ts0,vl0,rfl,_,hL⟩;have HRel:Hid (Lp13 w zb V S T da dl dc oa ol oc base q p gb cap (I 0) w3):=q9 ⟨0,_,_,_,_,_,_,Nat.zero_le _,rfl,hL⟩;clear z0 z1 z2 z3 z4 zlt HZ2 HB2;have z4:=hL.z.cell 4;have zlt:=hL.z.lt;clear hL
 have holI:(ol:Int)<=40:=by have:=HG.o;omega
 go_wp2_with fail
 go_loopw [22] (fun i wr=>Lp13 w zb V S T da dl dc oa ol oc base q p gb cap i wr) (fun i _=>ol-(intOf i).toNat)
 case atStart=>exact HRel.out
 case round=>
  clear HRel z4 zlt;obtain⟨k,f,mk,ts,vl,ls,qq,hk,rfl,hL⟩:=hrel;have HL:=q9 hL;clear hL
  by_cases hkl:k<ol
  . as_aux_lemma=>
    obtain⟨ob,off,rfl,hcell⟩:=HO.out (by omega)
    have hc:=hcell k hkl;obtain⟨o,ho⟩:∃ o,fo k=o:=⟨_,rfl⟩;rw[ho] at hc;obtain⟨kd,s9,u9,v9⟩:=o;have c0:=Qi HL.be hc.1;have c1:=Qi HL.be hc.2.1;have c2:=Qi HL.be hc.2.2.1;have c3:=Qi HL.be hc.2.2.2
    have hkI:(k:Int)<(ol:Int):=by omega
    have hk0:(0:Int)<=(k:Int):=by omega
    have HLa:=q9 (HL.alloc (.cells #[I kd,I s9,I u9,I v9] 33));clear hc ho hcell HL;go_wp2_with fail
    refine(Qln HLa HG (by omega)).mono ?_
    rintro e w5 ⟨rfl,f',mk',ts',vl',ls',qq',hL5⟩
    have HL5:=q9 (hL5.more (m':=660+14680*(k+1)) (by omega))
    clear hL5 HLa c0 c1 c2 c3;go_wp2_with fail
    go_roundw
    case rel=>exact⟨k+1,f',mk',ts',vl',ls',qq',hkl,by simp,HL5.out⟩
    case measure=>simp [intOf];omega
  . have ek:ol=k:=by omega
    subst ek
    have hkI:¬ (ol:Int)<(ol:Int):=by omega
    clear hk hkl
    as_aux_lemma=>
    obtain⟨M9,hM9⟩:∃ M,660+14680*ol=M:=⟨_,rfl⟩
    have HM9:Hid (M9<=587860):=q9 (by have:=HG.o;omega)
    rw[hM9] at HL;clear hM9;go_wp2_with fail
    refine(slot_int13 HL.pw.pq HL.pw.ew HL.len.2 HL.lg.er si).mono ?_;rintro e w9 ⟨r,rfl,hr,hb9⟩;have HL9:=q9 (HL.below hb9);clear HL hb9
    rcases hr with rfl|⟨i,x,rfl,hi,rfl⟩
    . go_wp2_with fail
      refine(QdT _).mono ?_;rintro e w3 ⟨rfl,hb3⟩;have HB3:=q9 (HL9.be.trans (hb3.mono HL9.be.size));go_wp2_with fail
      go_ret;exact⟨rfl,HB3⟩
    obtain⟨gb9,cap9,e1,_,glt,gfr,g0,g1,g2,g3,g4⟩:=HL9.pw.ew.at hi;subst e1;obtain⟨n,hn⟩:∃ n,ls.length=n:=⟨_,rfl⟩
    have hin:i<n:=by rw[<-hn];exact(List.getElem?_eq_some_iff.1 hi).1
    have HN:=q9 hn
    have n48:n<=1000:=by have:=HL9.len.2;omega
    rw[hn] at HL9
    have nI:(n:Int)<=1000:=by omega
    have iI:(i:Int)<(n:Int):=by omega
    have i0:(0:Int)<=(i:Int):=by omega
    have HI:=q9 hi;have HOK:=q9 (HL9.lg.er.ok x (List.mem_of_getElem? hi));clear hn hi;obtain⟨y0,y1,y2,y3,y4,y5,y6,y7,y8,y9,y10,y11,y12,y13,y14⟩:=HL9.pw.pq.cells;have qlt:=HL9.pw.pq.lt
    cases hxt:x.t
    . rw[hxt] at g4
      clear hxt;go_wp2_with fail
      refine(QdT _).mono ?_;rintro e w3 ⟨rfl,hb3⟩;have HB3:=q9 (HL9.be.trans (hb3.mono HL9.be.size));go_wp2_with fail
      go_ret;exact⟨rfl,HB3⟩
    have HXT:=q9 hxt;rw[hxt] at g4;clear hxt;go_wp2_with fail
    have HREL:Hid (KBk13 w zb V S T da dl dc oa ol oc base q p gb cap (I3 (I1 gb9 0) n cap9) ls qq i x (I (x.l:Int)) w9):=q9 ⟨x.l,_,_,_,HOK.2.2.2,rfl,by rw[set_same13 (x:={ x with l:=x.l }) HI.out];exact HL9.more (by have:=HM9.out;omega)⟩
    clear y0 y1 y2 y3 y4 y5 y6 y7 y8 y9 y10 y11 y12 y13 y14 qlt g0 g1 g2 g3 g4 glt gfr HL9
    go_loopw [9] (fun i9 wr=>KBk13 w zb V S T da dl dc oa ol oc base q p gb cap (I3 (I1 gb9 0) n cap9) ls qq i x i9 wr) (fun i9 _=>(lv V).toNat-(intOf i9).toNat)
    case atStart=>exact HREL.out
    case round=>
     clear HREL;obtain⟨k,f1,mk1,ts1,hk,rfl,hL⟩:=hrel;have HLa:=q9 hL;clear hL;have lb9:=QF V
     have HIK:Hid ((ls.set i { x with l:=k })[i]?=some { x with l:=k }):=q9 (by rw[List.getElem?_set,if_pos rfl,if_pos (by have:=HN.out;omega)])
     have HLK:Hid ((ls.set i { x with l:=k }).length=n):=q9 (by rw[List.length_set];exact HN)
     have z0:=HLa.z.cell 0;have z1:=HLa.z.cell 1;have z2:=HLa.z.cell 2;have zlt:=HLa.z.lt;go_wp2_with fail
     refine(QM V S T HG.r _).mono ?_;rintro e w10 ⟨rfl,hb10⟩;have HLb:=q9 (HLa.below hb10);clear HLa hb10 z0 z1 z2 zlt
     by_cases hk1:(k:Int)+1<lv V
     . as_aux_lemma=>
       obtain⟨y0,y1,y2,y3,y4,y5,y6,y7,y8,y9,y10,y11,y12,y13,y14⟩:=HLb.pw.pq.cells;have qlt:=HLb.pw.pq.lt
       have k5:k<=4:=by omega
       have HK5:=q9 k5;go_wp2_with fail
       refine(HLb.tree13 (x:={ x with l:=k }) HG.out HIK.out HXT.out (show ((k+1:Nat):Int)<lv V by omega) (by have:=HK5.out;omega)).mono ?_
       rintro e w11 ⟨rfl,f2,mk2,ts2,hY⟩;have HY:=q9 hY;clear hY HLb y0 y1 y2 y3 y4 y5 y6 y7 y8 y9 y10 y11 y12 y13 y14 qlt;obtain⟨gb8,cap8,e1,_,glt,gfr,g0,g1,g2,g3,g4⟩:=HY.pw.ew.at HIK.out;injection e1 with e1 e2 e3;injection e1 with e1;injection e1 with e1;subst e1
       have HN5:Hid (KBk13 w zb V S T da dl dc oa ol oc base q p gb cap (I3 (I1 gb9 0) n cap9) ls qq i x (I ((k:Int)+1)) (w11.setCell (I1 gb9 (i*5+3)) (I ((k:Int)+1)))):=q9 (by
        have hy:=HY.out;rw[<-HLK.out] at hy;have h2:=(hy.up HIK.out (k+1)).done;rw[List.length_set,HLK.out,List.set_set] at h2
        exact⟨k+1,f2,mk2,ts2,by omega,by simp,h2.more (by omega)⟩)
       obtain⟨y0,y1,y2,y3,y4,y5,y6,y7,y8,y9,y10,y11,y12,y13,y14⟩:=HY.pw.pq.cells;have qlt:=HY.pw.pq.lt;clear HY e2 e3 g0 g1 g2 g4;go_wp2_with fail
       go_roundw
       case rel=>exact HN5.out
       case measure=>simp [intOf];omega
     . as_aux_lemma=>
       have k5:k<=5:=by omega
       have HK5:=q9 k5;go_wp2_with fail
       refine(QnO HLb.out HG.out (by have:=HK5.out;omega)).mono ?_
       rintro e w12 ⟨rfl,hL12⟩
       have HT:=q9 (hL12.more (m':=640000) (by have:=HK5.out;omega))
       clear hL12 HLb hk k5;obtain⟨y0,y1,y2,y3,y4,y5,y6,y7,y8,y9,y10,y11,y12,y13,y14⟩:=HT.pw.pq.cells;have qlt:=HT.pw.pq.lt;go_wp2_with fail
       refine(HT.fell13 (x:={ x with l:=k }) HG HIK HXT (by omega)).mono ?_
       rintro e w13 ⟨rfl,f3,mk3,ts3,hP,hF,hE⟩
       have HP:=q9 (hP.more (m':=700000) (by omega))
       have HF:=q9 hF;have HE:=q9 hE
       have HNW:Hid (∀ L:Nat,(L:Int)<lv V->¬ Way (tE ((ls.set i { x with l:=k }).eraseIdx i) L) x.u x.v):=q9 fun L hL=>HT.lg.apart13 (x:={ x with l:=k }) HG.r HT.pw.ta.fi HIK.out HXT.out hL
       have HNS:Hid (∀ e∈(ls.set i { x with l:=k }).eraseIdx i,e.s≠x.s):=q9 fun e he=>((HT.lg.er.mem_erase HIK.out).1 he).2
       have hre:=HP.z
       have HREL:Hid (KCk13 w zb V S T da dl dc oa ol oc base q p gb cap f3 mk3 ts3 (I3 (I1 gb9 0) n cap9) (ls.set i { x with l:=k }) (I 0) w13):=q9 ⟨0,by omega,rfl,HP.out⟩
       clear hP hF hE HT y0 y1 y2 y3 y4 y5 y6 y7 y8 y9 y10 y11 y12 y13 y14 qlt hre;have z0:=HP.z.cell 0;have z1:=HP.z.cell 1;have z2:=HP.z.cell 2;have zlt:=HP.z.lt;go_wp2_with fail
       refine(QM V S T HG.r _).mono ?_;rintro e w14 ⟨rfl,hb14⟩
       have HREL:Hid (KCk13 w zb V S T da dl dc oa ol oc base q p gb cap f3 mk3 ts3 (I3 (I1 gb9 0) n cap9) (ls.set i { x with l:=k }) (I 0) w14):=q9 ⟨0,by omega,rfl,HP.below hb14⟩
       clear hb14 HP z0 z1 z2 zlt;go_wp2_with fail
       go_loopw [92] (fun i9 wr=>KCk13 w zb V S T da dl dc oa ol oc base q p gb cap f3 mk3 ts3 (I3 (I1 gb9 0) n cap9) (ls.set i { x with l:=k }) i9 wr) (fun i9 _=>(lv V).toNat-(intOf i9).toNat)
       case atStart=>exact HREL.out
       case round=>
        clear HREL;obtain⟨L,hL,rfl,hp⟩:=hrel;have HP:=q9 hp;clear hp
        by_cases hLv:(L:Int)<lv V
        . as_aux_lemma=>
          have L0:(0:Int)<=(L:Int):=by omega
          have L4:L<=4:=by omega
          have HL4:=q9 (And.intro L4 hLv)
          have HUV:Hid ((x.u:Int)<V/\0<=(x.s:Int)):=q9 ⟨by have:=HOK.1;have:=HOK.2.1;omega,by omega⟩
          clear hL;go_wp2_with fail
          have h66:=nN66 HG.r HG.v HG.s;have Hd:=q9 HP.drew
          have hrule:=fun(W:World) (h:PB13 W q V S T p (I3 (I1 gb9 0) n cap9)/\EW W base (I3 (I1 gb9 0) n cap9) (ls.set i { x with l:=k }))=>And.intro h.1.cells (h.2.ends HIK.out)
          obtain⟨⟨y0,y1,y2,y3,y4,y5,y6,y7,y8,y9,y10,y11,y12,y13,y14⟩,d1,d2⟩:=hrule _ Hd.hb;have qlt:=Hd.pw.pq.lt;clear HP
          go_region_held3 (fun W=>PB13 W q V S T p (I3 (I1 gb9 0) n cap9)/\EW W base (I3 (I1 gb9 0) n cap9) (ls.set i { x with l:=k })) (first|(with_reducible assumption)|(with_reducible exact H2.out.hb)|(with_reducible exact H1.out.hb)|(with_reducible exact Hd.out.hb))
           (first
            |(go_at_call 24;((with_reducible refine(Hd.out.linked HF.out h66 HNS.out HOK.out.2.2.1 HL4.out.2 (by have:=HL4.out.1;omega)).mono ?_);rintro e w20 ⟨rfl,hp1⟩;have H1:=q9 hp1))
            |(go_at_call 25;((with_reducible refine(H1.out.same HF.out h66 (HNW.out L HL4.out.2) HUV.out.1 HOK.out.2.1 HL4.out.2 (by have:=HL4.out.1;omega)).mono ?_);rintro e w21 ⟨rfl,hp2⟩;have H2:=q9 hp2)))
          clear y0 y1 y2 y3 y4 y5 y6 y7 y8 y9 y10 y11 y12 y13 y14 qlt d1 d2 hrule Hd H1 hp1
          have HN5:Hid (KCk13 w zb V S T da dl dc oa ol oc base q p gb cap f3 mk3 ts3 (I3 (I1 gb9 0) n cap9) (ls.set i { x with l:=k }) (I ((L:Int)+1)) w21):=q9 ⟨L+1,by omega,by simp,hp2.more (by omega)⟩
          clear hp2 H2;go_wp2_with fail
          go_roundw
          case rel=>exact HN5.out
          case measure=>simp [intOf];omega
        . as_aux_lemma=>
          have lb9:=QF V
          have L5:L<=5:=by omega
          have hm7:700000+L*300<=701500:=by omega
          have HP2:=q9 (HP.more hm7)
          have eL:(L:Int)=lv V:=by omega
          have HER:Hid ((ls.set i { x with l:=0 }).eraseIdx i=(ls.set i { x with l:=k }).eraseIdx i):=q9 (by rw[List.eraseIdx_set_eq,List.eraseIdx_set_eq])
          have HI0:Hid ((ls.set i { x with l:=0 })[i]?=some { x with l:=0 }):=q9 (by rw[List.getElem?_set,if_pos rfl,if_pos (by have:=HN.out;omega)])
          have HNW0:=q9 (HNW.out 0 (by omega))
          clear HP hm7;obtain⟨y0,y1,y2,y3,y4,y5,y6,y7,y8,y9,y10,y11,y12,y13,y14⟩:=HP2.pw.pq.cells;have qlt:=HP2.pw.pq.lt;go_wp2_with fail
          refine(HP2.lift13 (x:={ x with l:=k }) HE HF HIK (by omega)).mono ?_
          rintro e w15 ⟨rfl,f4,hp4,he4,hf4⟩;rw[List.set_set] at he4;rw[<-HER.out] at hf4;have HP4:=q9 hp4;have HE4:=q9 he4;have HF4:=q9 hf4;clear hp4 he4 hf4 HP2 HE HF y0 y1 y2 y3 y4 y5 y6 y7 y8 y9 y10 y11 y12 y13 y14 qlt;obtain⟨y0,y1,y2,y3,y4,y5,y6,y7,y8,y9,y10,y11,y12,y13,y14⟩:=HP4.pw.pq.cells;have qlt:=HP4.pw.pq.lt;go_wp2_with fail
          refine(HP4.plant13 (x:={ x with l:=0 }) HG.out HE4.out HF4.out HI0.out HXT.out rfl (by rw[HER.out];exact HNW0) (by omega)).mono ?_
          rintro e w16 ⟨rfl,f5,mk5,ts5,hp5,hg5⟩;have HP5:=q9 hp5;have HG5:=q9 hg5;clear hp5 hg5 HP4 HE4 HF4 y0 y1 y2 y3 y4 y5 y6 y7 y8 y9 y10 y11 y12 y13 y14 qlt;obtain⟨gb8,cap8,e1,_,glt,gfr,g0,g1,g2,g3,g4⟩:=HP5.pw.ew.at HIK.out;injection e1 with e1 e2 e3;injection e1 with e1;injection e1 with e1;subst e1
          have HX:Hid (LwX w (w16.setCell (I1 gb9 (i*5+3)) (I 0)) zb V S T da dl dc oa ol oc base q p gb cap (701500+4+7200) f5 mk5 ts5 (I3 (I1 gb9 0) n cap9) (ls.set i { x with l:=0 }) qq):=q9 (by
           have hp:=HP5.out;rw[<-HLK.out] at hp;have h2:=hp.up HIK.out 0;rw[List.length_set,HLK.out,List.set_set] at h2;exact h2.lw HG5)
          obtain⟨y0,y1,y2,y3,y4,y5,y6,y7,y8,y9,y10,y11,y12,y13,y14⟩:=HP5.pw.pq.cells;have qlt:=HP5.pw.pq.lt;clear HP5 e2 e3 g0 g1 g2 g4;go_wp2_with fail
          refine(QnO HX HG (by omega)).mono ?_
          rintro e w17 ⟨rfl,hL17⟩;have HB8:=q9 hL17.be;clear hL17 HX y0 y1 y2 y3 y4 y5 y6 y7 y8 y9 y10 y11 y12 y13 y14 qlt g3 glt gfr;go_wp2_with fail
          refine(QdT _).mono ?_;rintro e w3 ⟨rfl,hb3⟩;have HB3:=q9 (HB8.trans (hb3.mono HB8.size));go_wp2_with fail
          go_ret;exact⟨rfl,HB3⟩
end
end Go.Proofs.YtaooglagddphnaaGreat
