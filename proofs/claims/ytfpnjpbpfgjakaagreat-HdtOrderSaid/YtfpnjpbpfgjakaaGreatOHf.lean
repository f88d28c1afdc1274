/- Hf -/
import Derived.Test.YtfpnjpbpfgjakaaGreatOHe
import Derived.Lib.SmallJoins
namespace Go.Proofs.YtfpnjpbpfgjakaaGreat
open Go.RowKit Go.Proofs.Tryz
set_option maxRecDepth 100000
set_option maxHeartbeats 16000000
section
variable {w:World}{base q p gb cap m:Nat}{V S T kd u v:Int}{f:Nat->Int}{mk:Nat->Nat}{ts:List Tp}{vl:Value}{ls bs:List E1}{qq:Nat->Nat->List Nat}
theorem Qpu (h:PW13 w base q V S T p gb cap m f mk ts vl ls)(hG:LG V S T f mk ts bs qq)(hs:Hs V.toNat bs)(hM:Mv ls bs)(v8:V<=8)(s12:S<=12)(hm:m<=98000000):
 I0 12 #[.pointer (some (I1 q 0)),vO13 kd u v] w (QpH w base q V S T p gb cap (m+1460000) kd u v ls bs):=by
 by_cases hb:u=v\/u<0\/V<=u\/v<0\/V<=v
 . exact QoR h hG hs hM hb
 . obtain⟨u9,rfl⟩:∃ u9:Nat,u=(u9:Int):=⟨u.toNat,by omega⟩
   obtain⟨v9,rfl⟩:∃ u9:Nat,v=(u9:Int):=⟨v.toNat,by omega⟩
   exact QoJ h hG hs hM v8 s12 hm (by omega) (by omega) (by omega)
end
theorem Qkp:Kty 27:=by unfold Kty;decide
structure LwH (w W:World)(zb:Nat)(V S T:Int)(da:Option Addr)(dl dc:Nat)(oa:Option Addr)(ol oc:Nat)(base q p gb cap m:Nat)(f:Nat->Int)(mk:Nat->Nat)(ts:List Tp)(vl:Value)(ls bs:List E1)(qq:Nat->Nat->List Nat):Prop where
 z:Blk W zb 27 #[I V,I S,I T,.slice da dl dc,.slice oa ol oc]
 be:Below w.heap.size w W
 pw:PW13 W base q V S T p gb cap m f mk ts vl ls
 lg:LG V S T f mk ts bs qq
 hs:Hs V.toNat bs
 mv:Mv ls bs
 hb:w.heap.size<=base
section
variable {w w' W:World}{zb base q p gb cap m m':Nat}{V S T kd u v:Int}{da oa:Option Addr}{dl dc ol oc:Nat}{f f':Nat->Int}{mk mk':Nat->Nat}{ts ts':List Tp}{vl vl':Value}{ls ls' bs bs':List E1}{qq qq':Nat->Nat->List Nat}
theorem LwH.below (h:LwH w W zb V S T da dl dc oa ol oc base q p gb cap m f mk ts vl ls bs qq)(hb:Below W.heap.size W w'):LwH w w' zb V S T da dl dc oa ol oc base q p gb cap m f mk ts vl ls bs qq:=⟨h.z.below hb h.z.lt,h.be.trans (hb.mono h.be.size),h.pw.below hb,h.lg,h.hs,h.mv,h.hb⟩
theorem LwH.more (h:LwH w W zb V S T da dl dc oa ol oc base q p gb cap m f mk ts vl ls bs qq)(hm:m<=m'):LwH w W zb V S T da dl dc oa ol oc base q p gb cap m' f mk ts vl ls bs qq:=⟨h.z,h.be,h.pw.more hm,h.lg,h.hs,h.mv,h.hb⟩
theorem LwH.over (h:LwH w W zb V S T da dl dc oa ol oc base q p gb cap m f mk ts vl ls bs qq)(hX:PX13 W w' base q V S T p gb cap m' f' mk' ts' vl' ls')(hG:LG V S T f' mk' ts' bs' qq')(hs:Hs V.toNat bs')(hM:Mv ls' bs'):LwH w w' zb V S T da dl dc oa ol oc base q p gb cap m' f' mk' ts' vl' ls' bs' qq':=
 ⟨hX.kb _ _ _ h.z Qkp,h.be.trans (hX.be.mono h.hb),hX.pw,hG,hs,hM,h.hb⟩
theorem LwH.next (h:LwH w W zb V S T da dl dc oa ol oc base q p gb cap m f mk ts vl ls bs qq)(A:TA w' V S T p gb cap m' f' mk' ts')(O:Only p gb W w')(hG:LG V S T f' mk' ts' bs qq'):LwH w w' zb V S T da dl dc oa ol oc base q p gb cap m' f' mk' ts' vl ls bs qq':=
 h.over ((PX13.start h.pw).next A O) hG h.hs h.mv
theorem LwH.len (h:LwH w W zb V S T da dl dc oa ol oc base q p gb cap m f mk ts vl ls bs qq):(ls.length:Int)<=S/\ls.length<=1000:=by
 have h1:=h.mv.few h.lg.er;have h2:=h.pw.ta.hR.s1;have h3:=h.pw.ta.hR.s2;omega
theorem Qpo (h:LwH w W zb V S T da dl dc oa ol oc base q p gb cap m f mk ts vl ls bs qq)(hG:RH13 V S T dl ol)(hm:m<=98000000):
 I0 12 #[.pointer (some (I1 q 0)),vO13 kd u v] W fun e w'=>e=.returned (.bool true)/\∃ f' mk' ts' vl' ls' bs' qq',LwH w w' zb V S T da dl dc oa ol oc base q p gb cap (m+1460000) f' mk' ts' vl' ls' bs' qq'/\QpR V S kd u v ls bs ls' bs'/\KxE W w' q p gb/\KoE W q vl':=by
 refine(Qpu h.pw h.lg h.hs h.mv hG.v hG.s hm).mono ?_;rintro e w' ⟨rfl,f',mk',ts',vl',ls',bs',qq',hX,hL,h1,h2,h3⟩;exact⟨rfl,f',mk',ts',vl',ls',bs',qq',h.over hX hL h1 h2,h3,hX.kx,hX.ko⟩
end
theorem R331:Rt 3 3 1:=by constructor<;>decide
theorem nw_a:¬ Way (tE [] 0) 0 1:=fun h=>absurd (QoP h) (by decide)
theorem nw_b:¬ Way (tE [⟨0,0,1,0,true⟩] 0) 1 2:=fun h=>by
 have h:Way [(0,0,1)] 1 2:=h
 rcases h.more with h|⟨h,_⟩|⟨_,h⟩<;>exact absurd (QoP h) (by decide)
theorem yw_c:Way (tE [⟨0,0,1,0,true⟩,⟨1,1,2,0,true⟩] 0) 0 2:=((Way.refl 0).fore (s:=0) (w:=1) (by show _∈[(0,0,1),(1,1,2)];simp)).fore (s:=1) (w:=2) (by show _∈[(0,0,1),(1,1,2)];simp)
theorem QpX {t:Bool}(h:t=true↔¬ Way (tE [] 0) 0 1):t=true:=h.2 nw_a
theorem QpW {t:Bool}(h:t=true↔¬ Way (tE [⟨0,0,1,0,true⟩] 0) 1 2):t=true:=h.2 nw_b
theorem QpV {t:Bool}(h:t=true↔¬ Way (tE [⟨0,0,1,0,true⟩,⟨1,1,2,0,true⟩] 0) 0 2):t=false:=by
 cases t
 . rfl
 . exact absurd yw_c (h.1 rfl)
theorem QpN:Hs 3 [⟨0,0,1,0,true⟩,⟨1,1,2,0,true⟩,⟨2,0,2,0,false⟩]:=
 ((Hs.nil.inn (s:=0) (u:=0) (v:=1) (t:=true) ⟨fun _=>nw_a,fun _=>rfl⟩).inn (s:=1) (u:=1) (v:=2) (t:=true) ⟨fun _=>nw_b,fun _=>rfl⟩).inn (s:=2) (u:=0) (v:=2) (t:=false) ⟨fun h=>(by cases h),fun h=>absurd yw_c h⟩
theorem QpY {tree ok:Bool}{r:Int}{bs':List E1}(h:DlK 3 [⟨1,1,2,0,true⟩,⟨2,0,2,0,false⟩] ⟨0,0,1,0,true⟩ tree ok r bs'):tree=true/\ok=true/\r=2/\Way (tE bs' 0) 0 1:=by
 have hw:Way (aE [⟨1,1,2,0,true⟩,⟨2,0,2,0,false⟩]) 0 1:=((Way.refl 0).fore (s:=2) (w:=2) (by show _∈[(1,1,2),(2,0,2)];simp)).back (s:=1) (w:=1) (by show _∈[(1,1,2),(2,0,2)];simp)
 have ho:=h.jn.2 ⟨rfl,hw⟩;refine⟨h.tr,ho,?_,?_⟩
 . obtain⟨j,z,z',hz,hzt,hr,_⟩:=h.by_ ho
   match j,hz with
   |0,hz=>simp at hz;subst hz;cases hzt
   |1,hz=>simp at hz;subst hz;exact hr
   |j+2,hz=>simp at hz
 . rw[<-h.hs.all,h.mv.aE_eq];exact hw
def QpJ (p gb cap m:Nat)(bs:List E1)(t:Bool)(W:World)(e:Ending)(w':World):Prop:=
 e=.returned (.bool t)/\∃ f' mk' ts' q',TA w' 3 3 1 p gb cap m f' mk' ts'/\LG 3 3 1 f' mk' ts' bs q'/\Only p gb W w'
theorem Qpy {W:World}{p gb cap m:Nat}{f:Nat->Int}{mk:Nat->Nat}{ts:List Tp}{q:Nat->Nat->List Nat}(A:TA W 3 3 1 p gb cap m f mk ts)(G:LG 3 3 1 f mk ts [] q)(hm:m<=90000000):
 I0 22 #[vA 3 3 1 p,I 0,I 0,I 1] W (QpJ p gb cap (m+20000) [⟨0,0,1,0,true⟩] true W):=by
 have hnn:nN 3 3<=128:=Qoz R331 (by decide) (by decide)
 refine(QoY (s:=0) (u:=0) (v:=1) A G (by decide) (by decide) (by decide) (by decide) (by simp) (by simp) (by generalize nN 3 3=n at hnn |-;omega)).mono ?_
 rintro e w' ⟨t,f',mk',ts',q',rfl,ht,A',G',O'⟩;obtain rfl:=QpX ht
 exact⟨rfl,f',mk',ts',q',A'.more (by generalize nN 3 3=n at hnn |-;omega),G',O'⟩
theorem Qpx {W:World}{p gb cap m:Nat}{f:Nat->Int}{mk:Nat->Nat}{ts:List Tp}{q:Nat->Nat->List Nat}(A:TA W 3 3 1 p gb cap m f mk ts)(G:LG 3 3 1 f mk ts [⟨0,0,1,0,true⟩] q)(hm:m<=90000000):
 I0 22 #[vA 3 3 1 p,I 1,I 1,I 2] W (QpJ p gb cap (m+20000) [⟨0,0,1,0,true⟩,⟨1,1,2,0,true⟩] true W):=by
 have hnn:nN 3 3<=128:=Qoz R331 (by decide) (by decide)
 refine(QoY (s:=1) (u:=1) (v:=2) A G (by decide) (by decide) (by decide) (by decide) (by simp) (by simp) (by generalize nN 3 3=n at hnn |-;omega)).mono ?_
 rintro e w' ⟨t,f',mk',ts',q',rfl,ht,A',G',O'⟩;obtain rfl:=QpW ht
 exact⟨rfl,f',mk',ts',q',A'.more (by generalize nN 3 3=n at hnn |-;omega),G',O'⟩
theorem Qpw {W:World}{p gb cap m:Nat}{f:Nat->Int}{mk:Nat->Nat}{ts:List Tp}{q:Nat->Nat->List Nat}(A:TA W 3 3 1 p gb cap m f mk ts)(G:LG 3 3 1 f mk ts [⟨0,0,1,0,true⟩,⟨1,1,2,0,true⟩] q)(hm:m<=90000000):
 I0 22 #[vA 3 3 1 p,I 2,I 0,I 2] W (QpJ p gb cap (m+20000) [⟨0,0,1,0,true⟩,⟨1,1,2,0,true⟩,⟨2,0,2,0,false⟩] false W):=by
 have hnn:nN 3 3<=128:=Qoz R331 (by decide) (by decide)
 refine(QoY (s:=2) (u:=0) (v:=2) A G (by decide) (by decide) (by decide) (by decide) (by simp) (by simp) (by generalize nN 3 3=n at hnn |-;omega)).mono ?_
 rintro e w' ⟨t,f',mk',ts',q',rfl,ht,A',G',O'⟩;obtain rfl:=QpV ht
 exact⟨rfl,f',mk',ts',q',A'.more (by generalize nN 3 3=n at hnn |-;omega),G',O'⟩
theorem QpD {W:World}{p gb cap m:Nat}{f:Nat->Int}{mk:Nat->Nat}{ts:List Tp}{q:Nat->Nat->List Nat}(A:TA W 3 3 1 p gb cap m f mk ts)(G:LG 3 3 1 f mk ts [⟨0,0,1,0,true⟩,⟨1,1,2,0,true⟩,⟨2,0,2,0,false⟩] q)(hm:m<=90000000):
 I0 23 #[vA 3 3 1 p,I 0] W fun e w'=>∃ (f':Nat->Int) (mk':Nat->Nat) (ts':List Tp) (bs':List E1) (q':Nat->Nat->List Nat),e=.returned (.tuple #[.bool true,I 2,.bool true])/\TA w' 3 3 1 p gb cap (m+2000000) f' mk' ts'/\LG 3 3 1 f' mk' ts' bs' q'/\Hs 3 bs'/\Way (tE bs' 0) 0 1/\Only p gb W w':=by
 have hdc:dC 3 3<=264000:=QpE R331 (by decide) (by decide)
 have hnn:nN 3 3<=128:=Qoz R331 (by decide) (by decide)
 refine(Qpm (x:=⟨0,0,1,0,true⟩) (i:=0) A G QpN rfl (by decide) (by generalize nN 3 3=n at hnn |-;generalize dC 3 3=d at hdc |-;omega)).mono ?_
 rintro e w' ⟨tree,ok,r,f',mk',ts',bs',q',rfl,A',G',D,O'⟩;obtain⟨rfl,rfl,rfl,hw⟩:=QpY D
 exact⟨f',mk',ts',bs',q',rfl,A'.more (by generalize nN 3 3=n at hnn |-;generalize dC 3 3=d at hdc |-;omega),G',D.hs,hw,O'⟩
theorem QpM {W:World}{p gb cap m:Nat}{f f':Nat->Int}{mk:Nat->Nat}{ts:List Tp}{bs:List E1}{q:Nat->Nat->List Nat}(A:TA W 3 3 1 p gb cap m f mk ts)(h:LF 3 3 1 f' mk ts bs q)(hw:Way (tE bs 0) 0 1)(hm:m<=99900000):
 I0 16 #[vA 3 3 1 p,I 0,I 1] W fun e w'=>e=.returned (.bool true)/\TA w' 3 3 1 p gb cap (m+256) f mk ts/\Only p gb W w':=by
 have hnn:nN 3 3<=128:=Qoz R331 (by decide) (by decide)
 refine(Qom (u:=0) (v:=1) A h (by decide) (by decide) hm).mono ?_
 rintro e w' ⟨r,rfl,hr,A',O'⟩;obtain rfl:=hr.2 hw
 exact⟨rfl,A'.more (by generalize nN 3 3=n at hnn |-;omega),O'⟩
theorem Qo9 (w:World):I0 10 #[] w fun e w'=>e=.returned (.bool true)/\Below w.heap.size w w':=by
 have hdc:dC 3 3<=264000:=QpE R331 (by decide) (by decide)
 have hnn:nN 3 3<=128:=Qoz R331 (by decide) (by decide)
 go_enter func10,ntmps10
 go_wp2_with fail
 refine(QdR (f:=fun _=>0) R331 (fun h=>absurd h (by decide)) (by decide) (by decide) (by decide)).mono ?_;rintro e w1 ⟨q,p,gb,rfl,hP,hB⟩
 have HP:=q9 hB;have HV:Hid (w.heap.size<=w.heap.size):=q9 Jb;generalize hbs:w.heap.size=base at hP HV;have HBS:=q9 hbs;have HX1:=q9 (PX13.start hP);have HG1:=q9 (LG.zero (V:=3) (S:=3) (T:=1) R331);generalize QaT 3 3 1=cap at HX1;clear hP hB hbs;obtain⟨c0,c1,c2,c3,c4,c5,c6,c7,c8,c9,c10,c11,c12,c13,c14⟩:=HX1.pw.pq.cells;have qlt:=HX1.pw.pq.lt;go_wp2_with fail
 have HXd:=q9 HX1.drew
 have hrule:∀ W:World,PB13 W q 3 3 1 p (.slice none 0 0)->_:=fun W h=>PB13.cells h
 obtain⟨c0,c1,c2,c3,c4,c5,c6,c7,c8,c9,c10,c11,c12,c13,c14⟩:=HXd.pw.pq.cells;have qlt:=HXd.pw.pq.lt
 go_region_held3 (fun W=>PB13 W q 3 3 1 p (.slice none 0 0)) (first|(with_reducible assumption)|(with_reducible exact H4.out.pw.pq)|(with_reducible exact H3.out.pw.pq)|(with_reducible exact H2.out.pw.pq)|(with_reducible exact HXd.out.pw.pq))
  (first
   |(go_at_call 22;((with_reducible refine(Qpy HXd.out.pw.ta HG1.out (by omega)).mono ?_);rintro e w2 ⟨rfl,f2,mk2,ts2,q2,A9,G9,O9⟩;have H2:=q9 (HXd.out.next A9 O9);have HG2:=q9 G9))
   |(go_at_call 22;((with_reducible refine(Qpx H2.out.pw.ta HG2.out (by omega)).mono ?_);rintro e w3 ⟨rfl,f3,mk3,ts3,q3,A9,G9,O9⟩;have H3:=q9 (H2.out.next A9 O9);have HG3:=q9 G9))
   |(go_at_call 22;((with_reducible refine(Qpw H3.out.pw.ta HG3.out (by omega)).mono ?_);rintro e w4 ⟨rfl,f4,mk4,ts4,q4,A9,G9,O9⟩;have H4:=q9 (H3.out.next A9 O9);have HG4:=q9 G9)))
 clear hrule;obtain⟨c0,c1,c2,c3,c4,c5,c6,c7,c8,c9,c10,c11,c12,c13,c14⟩:=H4.pw.pq.cells;have qlt:=H4.pw.pq.lt;go_wp2_with fail
 refine(QpD H4.pw.ta HG4 (by generalize nN 3 3=n at hnn |-;omega)).mono ?_;rintro e w5 ⟨f5,mk5,ts5,bs5,q5,rfl,A9,G9,S9,W9,O9⟩
 have H5:=q9 (H4.next A9 O9);have HG5:=q9 G9;have HS5:=q9 S9;have HW5:=q9 W9;clear A9 G9 S9 W9 O9 HG4 HG3 HG2 HG1 H4 H3 H2 HXd;obtain⟨c0,c1,c2,c3,c4,c5,c6,c7,c8,c9,c10,c11,c12,c13,c14⟩:=H5.pw.pq.cells;have qlt:=H5.pw.pq.lt;go_wp2_with fail
 refine(QpM H5.pw.ta HG5.lf HW5 (by generalize nN 3 3=n at hnn |-;omega)).mono ?_;rintro e w6 ⟨rfl,A9,O9⟩
 have H6:=q9 (H5.next A9 O9);clear A9 O9 H5;obtain⟨c0,c1,c2,c3,c4,c5,c6,c7,c8,c9,c10,c11,c12,c13,c14⟩:=H6.pw.pq.cells;have qlt:=H6.pw.pq.lt;go_wp2_with fail
 refine(QoN H6.pw HG5 (by decide) (by decide) (by generalize nN 3 3=n at hnn |-;omega)).mono ?_;rintro e w7 ⟨b,rfl,hB,hV,A9,O9⟩
 have H7:=q9 (H6.next A9 O9);clear A9 O9 H6;go_wp2_with fail
 refine(hB.sound (by rw[hV];exact HS5)).mono ?_;rintro e w8 ⟨rfl,B9⟩
 have H8:=q9 (H7.below B9);clear H7;go_wp2_with fail
 go_ret;have HBS9:=HBS.out;subst HBS9;exact⟨rfl,HP.trans (H8.be.mono HV)⟩
open Go.RowKit Go.ChangeShapes Go.WideShapes Go.Deep Go.Joins
section
variable {H:Type}{enc:TypeId × Value->H}{P:Program}{w:World}{base:Nat}{spare:Nat->Bool}{held:Bool}
theorem QeJ {t e:TypeId}{fs:Array Field}{fuel:Nat}{cs:List Value}{x:DataW H × List MemPlace}(ht:P.underlying t=some (.slice e))(he:P.underlying e=some (.struct fs))
 (hone:oneCellFields P fs=true) (hC:P.cellsOf e=fs.size) (h:DataW.trod enc P w base spare held fuel t cs=some x):
 (cs=[.slice none 0 0]/\x=(.nil,[]))\/
 ∃ (a:Addr) (len cap m:Nat) (D:Nat->DataW H) (Pl:Nat->List MemPlace),cs=[.slice (some a) len cap]/\base<=a.block/\len<=cap/\cap<=maxLen/\m=(if spare a.block then cap else len)/\
  x=(.slice ((List.range len).map D) ((List.range (m-len)).map fun j=>D (len+j)),MemPlace.row a (m*fs.size)++(List.range m).flatMap Pl)/\
  ∀ i,i<m->∃ (ys:List (DataW H × List MemPlace)) (n:Nat),D i=.agg (ys.map (·.1))/\Pl i=ys.flatMap (·.2)/\ys.length=fs.size/\
   ∀ (j:Nat) (f:Field),fs[j]?=some f->∃ (v:Value) (y:DataW H × List MemPlace),w.cell? (a.add (i*fs.size+j))=some v/\ys[j]?=some y/\DataW.trod enc P w base spare held n f.type [v]=some y:=by
 rcases open_slice ht h with h0|⟨a,len,cap,m,n,D,Pl,hcs,hb,hl,hm,hmm,hx,hi⟩
 . exact .inl h0
 . refine .inr ⟨a,len,cap,m,D,Pl,hcs,hb,hl,hm,hmm,by rw[hC] at hx;exact hx,fun i him=>?_⟩
   obtain⟨cs',hc,ht'⟩:=hi i him;rw[hC] at hc;obtain⟨ys,n',hn',hy,hlen,hyl,hf⟩:=DataW.trod_struct he ht';obtain⟨_,hcl,hat⟩:=World.cells?_some hc;simp only[Prod.mk.injEq] at hy
   refine⟨ys,n',hy.1,hy.2,hyl,fun j f hj=>?_⟩
   obtain⟨ho,hk⟩:=hone_of hone j f hj;have hjl:j<fs.size:=(Array.getElem?_eq_some_iff.1 hj).1;have hcell:=hat j hjl
   have hv:cs'[j]?=some (cs'[j]'(by omega)):=Jh (by omega)
   have h1:=hf j f hj;rw[ho,hk] at h1
   have hone':(cs'.drop j).take 1=[cs'[j]'(by omega)]:=by
    rw[List.drop_eq_getElem_cons (by omega)]
    rfl
   rw[hone'] at h1
   have hys:ys[j]?=some (ys[j]'(by omega)):=Jh (by omega)
   refine⟨_,_,?_,hys,h1.trans hys⟩;rw[<-Go.Deep.add_add,hcell,hv]
end
structure O13 where
 kd:Int
 u:Int
 v:Int
def Qmx (w:World)(a:Option Addr)(len:Nat)(q:Nat->O13):Prop:=0<len->∃ b off,a=some (I1 b off)/\∀ k,k<len->w.cell? (I1 b (off+k*3))=some (I (q k).kd)/\w.cell? (I1 b (off+k*3+1))=some (I (q k).u)/\w.cell? (I1 b (off+k*3+2))=some (I (q k).v)
def Qmu (w:World)(y:Addr)(k:Nat)(o:O13):Prop:=
 w.cell? (y.add (k*3+0))=some (I o.kd)/\w.cell? (y.add (k*3+1))=some (I o.u)/\w.cell? (y.add (k*3+2))=some (I o.v)
def zO13:O13:=⟨0,0,0⟩
theorem Qj4 {H:Type}{enc:TypeId × Value->H}{w:World}{base fuel:Nat}{held:Bool}{v:Value}{x:DataW H × List MemPlace}
 (h:DataW.trod enc prog w base (fun _=>true) held fuel 25 [v]=some x):∃ a len cap q,v=.slice a len cap/\Qmx w a len q:=by
 rcases QeJ underlying25 underlying33 (by kernel_rfl) (by kernel_rfl) h with ⟨hcs,_⟩|⟨y,l,c,m,D,Pl,hcs,_,hl,_,hm,_,hi⟩
 . simp at hcs
   subst hcs
   exact⟨none,0,0,fun _=>zO13,rfl,fun h=>absurd h (Nat.lt_irrefl _)⟩
 . simp at hcs
   subst hcs;obtain⟨b,off,spot⟩:=y;simp at hm
   have key:∀ k,k<l->∃ o:O13,Qmu w ⟨b,off,spot⟩ k o:=by
    intro k hk
    obtain⟨ys,n,_,_,_,hf⟩:=hi k (by omega)
    obtain⟨v0,y0,c0,_,t0⟩:=hf 0 _ rfl;obtain⟨v1,y1,c1,_,t1⟩:=hf 1 _ rfl;obtain⟨v2,y2,c2,_,t2⟩:=hf 2 _ rfl;obtain⟨x0,z0,_,_⟩:=DataW.trod_int underlying3 t0;obtain⟨x1,z1,_,_⟩:=DataW.trod_int underlying3 t1;obtain⟨x2,z2,_,_⟩:=DataW.trod_int underlying3 t2;simp at z0 z1 z2;subst z0 z1 z2;exact⟨⟨x0,x1,x2⟩,c0,c1,c2⟩
   obtain⟨q,hq⟩:∃ q:Nat->O13,∀ k,k<l->Qmu w ⟨b,off,spot⟩ k (q k):=
    ⟨fun k=>if h:k<l then Classical.choose (key k h) else zO13,fun k hk=>by simp only[dif_pos hk];exact Classical.choose_spec (key k hk)⟩
   refine⟨_,l,c,q,rfl,fun h0=>?_⟩
   have hspot:spot=none:=by
    have c0:=(hq 0 h0).1;simpa [Addr.add] using World.cell?_spot c0
   subst hspot
   refine⟨b,off,rfl,fun k hk=>?_⟩
   have:=hq k hk;simp only[Qmu,Addr.add_lit,Nat.add_zero,<-Nat.add_assoc] at this;exact this
theorem Qhm {H:Type}{enc:TypeId × Value->H}{w:World}{base fuel:Nat}{held:Bool}{v:Value}{x:DataW H × List MemPlace}
 (h:DataW.trod enc prog w base (fun _=>true) held fuel 24 [v]=some x):∃ a len cap f,v=.slice a len cap/\QfW w a len f:=by
 rcases open_ints underlying24 underlying88 (by kernel_rfl) h with ⟨hcs,_⟩|⟨y,l,c,zs,hcs,_,hl,hm,hz,_,hcell,hwz⟩
 . simp at hcs
   exact⟨none,0,0,fun _=>0,hcs,fun h=>absurd h (Nat.lt_irrefl _)⟩
 . simp at hcs
   subst hcs
   refine⟨some y,l,c,fun k=>(zs.getD k 0).toNat,rfl,fun h0=>?_⟩
   obtain⟨b,off,spot⟩:=y;simp at hz
   have hc0:=hcell 0 (by omega)
   have hspot:spot=none:=by simpa [Addr.add] using World.cell?_spot hc0
   subst hspot
   refine⟨b,off,rfl,fun k hk=>?_⟩
   have hc:=hcell k (by omega)
   have r:=range_u64 hwz k;rw[Addr.add_lit] at hc
   have r1:0<=zs.getD k 0:=by simpa using r.1
   have r2:zs.getD k 0<=18446744073709551615:=by simpa using r.2
   refine⟨?_,(by show (zs.getD k 0).toNat<=_;omega)⟩
   rw[hc];show _=some (I2 ((zs.getD k 0).toNat:Int));rw[Int.toNat_of_nonneg r1]
theorem Qmo {α:Type}{cs:Array α}(h:cs.size=5):∃ c0 c1 c2 c3 c4,cs=#[c0,c1,c2,c3,c4]:=by
 obtain⟨l⟩:=cs
 match l,h with
 |[c0,c1,c2,c3,c4],_=>exact⟨c0,c1,c2,c3,c4,rfl⟩
theorem Qga {H:Type}{enc:TypeId × Value->H}{w:World}{base:Nat}{held:Bool}{r:Reach}{b0:Nat}{v:Value}{d:DataW H}{p:List MemPlace}
 (hv:Value.okWide prog w r b0 27 v) (h:DataW.Trod enc prog w base (fun _=>true) held 27 v d p):
 ∃ V S T da dl dc f oa ol oc fo,v=vC13 V S T da dl dc oa ol oc/\QfW w da dl f/\Qmx w oa ol fo:=by
 obtain⟨cs,rfl,hsz⟩:=okWide_struct underlying27 hv
 obtain⟨c0,c1,c2,c3,c4,rfl⟩:=Qmo (hsz.trans (by kernel_rfl))
 obtain⟨fuel,hf⟩:=h;obtain⟨y0,y1,y2,n,_,_,g0,g1,g2⟩:=trod_struct3 underlying27 hf
 rw[show prog.cellsOf _=3 by kernel_rfl] at g0
 rw[show prog.cellsOf _=1 by kernel_rfl] at g1
 rw[show prog.cellsOf _=1 by kernel_rfl] at g2
 simp [Value.cells] at g0 g1 g2;obtain⟨z0,z1,z2,n2,_,_,k0,k1,k2⟩:=trod_struct3 underlying23 g0
 rw[show prog.cellsOf _=1 by kernel_rfl] at k0 k1 k2
 simp at k0 k1 k2;obtain⟨V,e0,_,_⟩:=DataW.trod_int underlying3 k0;obtain⟨S,e1,_,_⟩:=DataW.trod_int underlying3 k1;obtain⟨T,e2,_,_⟩:=DataW.trod_int underlying3 k2;simp at e0 e1 e2;obtain⟨da,dl,dc,f,e3,h3⟩:=Qhm g1;obtain⟨oa,ol,oc,fo,e4,h4⟩:=Qj4 g2;subst e0 e1 e2 e3 e4;exact⟨V,S,T,da,dl,dc,f,oa,ol,oc,fo,rfl,h3,h4⟩
end Go.Proofs.YtfpnjpbpfgjakaaGreat
