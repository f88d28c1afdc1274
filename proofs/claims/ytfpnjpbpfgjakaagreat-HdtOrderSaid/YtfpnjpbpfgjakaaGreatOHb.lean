/- Hb -/
import Derived.Test.YtfpnjpbpfgjakaaGreatOHa
namespace Go.Proofs.YtfpnjpbpfgjakaaGreat
open Go.RowKit Go.Proofs.Tryz
set_option maxRecDepth 100000
set_option maxHeartbeats 16000000
section
variable {w w' w0:World}{V S T:Int}{b p gb cap m m' L s u v i:Nat}{f f':Nat->Int}{mk mk':Nat->Nat}{ts ts':List Tp}{gr:Nat->List (Option (Nat × Nat))}{bs bs' bs2:List E1}{q:Nat->Nat->List Nat}{x y:E1}
def HtB (w:World)(b:Nat)(V S T:Int)(p:Nat):Prop:=Blk w b 58 #[I V,I S,I T,I4 p,I 1,I 0,I V,I S,I T,I4 p]
structure HX (w0 W:World)(b:Nat)(V S T:Int)(p gb cap m:Nat)(f:Nat->Int)(mk:Nat->Nat)(ts:List Tp):Prop where
 q:HtB W b V S T p
 a:TA W V S T p gb cap m f mk ts
 o:Only p gb w0 W
theorem HX.rule (b:Nat)(V S T:Int)(p:Nat):∀ W:World,HtB W b V S T p->W.cell? (I1 b 0)=some (I V)/\W.cell? (I1 b 1)=some (I S)/\W.cell? (I1 b 2)=some (I T)/\W.cell? (I1 b 3)=some (I4 p)/\W.cell? (I1 b 4)=some (I 1)/\W.cell? (I1 b 5)=some (I 0)/\W.cell? (I1 b 6)=some (I V)/\W.cell? (I1 b 7)=some (I S)/\W.cell? (I1 b 8)=some (I T)/\W.cell? (I1 b 9)=some (I4 p):=
 fun _ h=>⟨Blk.cell h 0,Blk.cell h 1,Blk.cell h 2,Blk.cell h 3,Blk.cell h 4,Blk.cell h 5,Blk.cell h 6,Blk.cell h 7,Blk.cell h 8,Blk.cell h 9⟩
theorem HX.new (h:TA w V S T p gb cap m f mk ts):HX w (w.alloc (I9 V S T p)) w.heap.size V S T p gb cap m f mk ts:=⟨Blk.new _ _ _,h.alloc _,(Only.refl _ _ _).alloc _⟩
theorem HX.lt (h:HX w0 w b V S T p gb cap m f mk ts):b<w.heap.size:=Blk.lt h.q
theorem HX.cells (h:HX w0 w b V S T p gb cap m f mk ts):w.cell? (I1 b 0)=some (I V)/\w.cell? (I1 b 1)=some (I S)/\w.cell? (I1 b 2)=some (I T)/\w.cell? (I1 b 3)=some (I4 p)/\w.cell? (I1 b 4)=some (I 1)/\w.cell? (I1 b 5)=some (I 0)/\w.cell? (I1 b 6)=some (I V)/\w.cell? (I1 b 7)=some (I S)/\w.cell? (I1 b 8)=some (I T)/\w.cell? (I1 b 9)=some (I4 p):=HX.rule b V S T p w h.q
theorem HX.below (h:HX w0 w b V S T p gb cap m f mk ts)(hb:Below w.heap.size w w'):HX w0 w' b V S T p gb cap m f mk ts:=⟨Blk.below h.q hb (Blk.lt h.q),h.a.below hb,h.o.trans (Only.of_below hb)⟩
theorem HX.alloc (h:HX w0 w b V S T p gb cap m f mk ts)(o:Obj):HX w0 (w.alloc o) b V S T p gb cap m f mk ts:=h.below (Ja.alloc Jb o)
theorem HX.next (h:HX w0 w b V S T p gb cap m f mk ts)(hm:TA w' V S T p gb cap m' f' mk' ts')(ho:Only p gb w w'):HX w0 w' b V S T p gb cap m' f' mk' ts':=⟨Blk.ta h.q h.a ho (by decide) (by decide),hm,h.o.trans ho⟩
structure HY (w0 W:World)(b r:Nat)(x:E1)(V S T:Int)(p gb cap m:Nat)(f:Nat->Int)(mk:Nat->Nat)(ts:List Tp):Prop where
 y:HX w0 W b V S T p gb cap m f mk ts
 r:XbB W r x
def SH2 (W:World)(b r:Nat)(x:E1)(V S T:Int)(p:Nat):Prop:=HtB W b V S T p/\XbB W r x
theorem HY.sl {r:Nat}{x:E1}(h:HY w0 w b r x V S T p gb cap m f mk ts):SH2 w b r x V S T p:=⟨h.y.q,h.r⟩
theorem SH2.rule (b r:Nat)(x:E1)(V S T:Int)(p:Nat):∀ W:World,SH2 W b r x V S T p->(W.cell? (I1 b 0)=some (I V)/\W.cell? (I1 b 1)=some (I S)/\W.cell? (I1 b 2)=some (I T)/\W.cell? (I1 b 3)=some (I4 p)/\W.cell? (I1 b 4)=some (I 1)/\W.cell? (I1 b 5)=some (I 0)/\W.cell? (I1 b 6)=some (I V)/\W.cell? (I1 b 7)=some (I S)/\W.cell? (I1 b 8)=some (I T)/\W.cell? (I1 b 9)=some (I4 p))/\W.cell? (I1 r 0)=some (I (x.u:Int))/\W.cell? (I1 r 1)=some (I (x.v:Int))/\W.cell? (I1 r 2)=some (I (x.l:Int)):=fun W h=>⟨HX.rule b V S T p W h.1,h.2.cells⟩
theorem HX.made (x:E1)(h:HX w0 w b V S T p gb cap m f mk ts):HY w0 (w.alloc (.cells #[I (x.u:Int),I (x.v:Int),I (x.l:Int),.bool x.t] 76)) b w.heap.size x V S T p gb cap m f mk ts:=⟨h.alloc _,Blk.new _ _ _⟩
theorem HY.below {r:Nat}{x:E1}(h:HY w0 w b r x V S T p gb cap m f mk ts)(hb:Below w.heap.size w w'):HY w0 w' b r x V S T p gb cap m f mk ts:=⟨h.y.below hb,Blk.below h.r hb (Blk.lt h.r)⟩
theorem HY.drew {r:Nat}{x:E1}(h:HY w0 w b r x V S T p gb cap m f mk ts):HY w0 w.drew b r x V S T p gb cap m f mk ts:=h.below Ja.drew
theorem HY.next {r:Nat}{x:E1}(h:HY w0 w b r x V S T p gb cap m f mk ts)(hm:TA w' V S T p gb cap m' f' mk' ts')(ho:Only p gb w w'):HY w0 w' b r x V S T p gb cap m' f' mk' ts':=⟨h.y.next hm ho,Blk.ta h.r h.y.a ho (by decide) (by decide)⟩
theorem HY.rlt {r:Nat}{x:E1}(h:HY w0 w b r x V S T p gb cap m f mk ts):r<w.heap.size:=Blk.lt h.r
structure Mv (a b:List E1):Prop where
 len:b.length=a.length
 st:∀ (i:Nat) (x:E1),a[i]?=some x->∃ y,b[i]?=some y/\y.s=x.s/\y.u=x.u/\y.v=x.v/\x.l<=y.l/\(x.t=true->y.t=true)
structure Mw (a b:List E1):Prop where
 mv:Mv a b
 tr:∀ (i:Nat) (x y:E1),a[i]?=some x->b[i]?=some y->y.t=x.t
theorem Mv.refl (a:List E1):Mv a a:=⟨rfl,fun _ x h=>⟨x,h,rfl,rfl,rfl,Nat.le_refl _,id⟩⟩
theorem Mv.trans (h:Mv bs bs')(h2:Mv bs' bs2):Mv bs bs2:=⟨h2.len.trans h.len,fun i x hx=>by
 obtain⟨y,hy,a1,a2,a3,a4,a5⟩:=h.st i x hx;obtain⟨z,hz,b1,b2,b3,b4,b5⟩:=h2.st i y hy
 exact⟨z,hz,b1.trans a1,b2.trans a2,b3.trans a3,Nat.le_trans a4 b4,fun t=>b5 (a5 t)⟩⟩
theorem Mw.refl (a:List E1):Mw a a:=⟨.refl a,fun _ x y h h2=>by rw[h] at h2;injection h2 with h2;rw[h2]⟩
theorem Mw.trans (h:Mw bs bs')(h2:Mw bs' bs2):Mw bs bs2:=⟨h.mv.trans h2.mv,fun i x z hx hz=>by
 obtain⟨y,hy,_⟩:=h.mv.st i x hx;exact(h2.tr i y z hy hz).trans (h.tr i x y hx hy)⟩
theorem Up.mw {P:E1->Prop}(h:Up bs bs' P):Mw bs bs':=⟨⟨h.len,fun i x hx=>by
 rcases h.st i x hx with h1|⟨_,h1⟩
 . exact⟨x,h1,rfl,rfl,rfl,Nat.le_refl _,id⟩
 . exact⟨_,h1,rfl,rfl,rfl,Nat.le_succ _,id⟩⟩,fun i x y hx hy=>by
 rcases h.st i x hx with h1|⟨_,h1⟩<;>(rw[h1] at hy;injection hy with hy;rw[<-hy])⟩
theorem Mv.set (hi:bs[i]?=some x):Mv bs (bs.set i { x with t:=true }):=⟨List.length_set ..,fun j y hj=>by
 by_cases e:i=j
 . subst e
   rw[hi] at hj;injection hj with hj;subst hj
   exact⟨_,List.getElem?_set_self (Jd hi).1,rfl,rfl,rfl,Nat.le_refl _,fun _=>rfl⟩
 . exact⟨y,by rw[List.getElem?_set_ne e];exact hj,rfl,rfl,rfl,Nat.le_refl _,id⟩⟩
theorem Mv.aE_eq (h:Mv bs bs'):aE bs'=aE bs:=by
 refine List.ext_getElem? fun i=>?_
 unfold aE;rw[List.getElem?_map,List.getElem?_map]
 cases hx:bs[i]? with
 |none=>
  have h1:=Kd hx
  rw[List.getElem?_eq_none_iff.2 (by rw[h.len];exact h1)]
 |some x=>
  obtain⟨y,hy,a1,a2,a3,_⟩:=h.st i x hx;rw[hy];simp only[Option.map_some,a1,a2,a3]
structure DlK (V:Nat)(bs:List E1)(x:E1)(tree ok:Bool)(r:Int)(bs':List E1):Prop where
 tr:tree=x.t
 mv:Mv bs bs'
 hs:Hs V bs'
 no:ok=false->r=0
 jn:ok=true↔x.t=true/\Way (aE bs) x.u x.v
 by_:ok=true->∃ (j:Nat) (z z':E1),bs[j]?=some z/\z.t=false/\r=(z.s:Int)/\bs'[j]?=some z'/\z'.t=true
theorem of14 (w:World):I0 34 #[vL V S T,I4 p,.agg #[I 1,I 0]] w fun e w'=>e=.returned (vA V S T p)/\Below w.heap.size w w':=by
 go_enter func34,ntmps34
 go_wp2_with fail
 refine bodyPost_ret (v:=vA V S T p) ?_ rfl ?_
 . have h:=(Blk.new ((w.alloc (.cells #[I V,I S,I T] 23)).alloc (.cells #[I 1,I 0] 46)) 58 #[I V,I S,I T,I4 p,I 1,I 0,I V,I S,I T,I4 p]).alloc (I6 V S T p)
   rw[World.size_alloc,World.size_alloc] at h
   exact results_cell_row rfl _ _ (w.heap.size+1+1) 58 _ _ _ rfl h underlying58 rfl (by kernel_rfl)
 exact⟨rfl,(((Jc.alloc (by simp) _).alloc (by simp;omega) _).alloc (by simp;omega) _)⟩
theorem Qom (A:TA w V S T p gb cap m f mk ts)(h:LF V S T f' mk ts bs q)(hu:(u:Int)<V)(hv:(v:Int)<V)(hm:m<=99900000):
 I0 16 #[vA V S T p,I (u:Int),I (v:Int)] w fun e w'=>∃ r,e=.returned (.bool r)/\(r=true↔Way (tE bs 0) u v)/\TA w' V S T p gb cap (m+2*nN V S) f mk ts/\Only p gb w w':=by
 have hn:=Ql A.hR;obtain⟨gr,hV,hg⟩:=h.fo
 have L0:((0:Nat):Int)<lv V:=by have:=(QF V).1;omega
 have HP:=q9 hV;have HW:Hid (Jn (gr 0) u v↔Way (tE bs 0) u v):=q9 (Jn.way (hg 0 L0));have HU:Hid (((0:Nat):Int)<lv V/\(u:Int)<V/\(v:Int)<V):=q9 ⟨L0,hu,hv⟩;have H0:=q9 (HX.new A);clear A h hV hg hu hv L0
 go_enter func16,ntmps16
 go_wp2_with fail
 generalize w.heap.size=b at H0 |-;generalize w.alloc (I9 V S T p)=W at H0 |-;obtain⟨y0,y1,y2,y3,y4,y5,y6,y7,y8,y9⟩:=H0.cells;have hlt:=H0.lt
 have hc:=QhV (L:=0) H0.a HP.out HU.1 HU.2.1 HU.2.2 (by omega)
 go_wp2_with fail
 refine hc.mono ?_;rintro e w1 ⟨r,rfl,hr,A1,O1⟩;have H1:=q9 (H0.next A1 O1);have HRR:=q9 (hr.trans HW.out);clear hc H0 A1 O1 hr;go_wp2_with fail
 go_ret;exact⟨r,rfl,HRR,H1.a,H1.o⟩
theorem QpA (A:TA w V S T p gb cap m f mk ts)(hE:ER V S T f bs)(hne:u≠v)(hu:(u:Int)<V)(hv:(v:Int)<V)(hs:(s:Int)<S)(hnp:∀ x∈bs,¬ (x.u=min u v/\x.v=max u v))(hm:m<=99900000):
 I0 47 #[vA V S T p,I (s:Int),I (u:Int),I (v:Int)] w (Dta V S T p gb cap (m+1) f mk ts (.bool true) w):=by
 have H1:Hid (QaH S T (s:Int) 1=((sC S T s 1:Nat):Int)):=q9 (Qac A.hR hs (k:=1) (by decide))
 have HE:=q9 (QcA A.hR (u:=u) (v:=v) hu hv hne);have e0:(0:Int)<=((eC V S T u v:Nat):Int):=Jg _;have d0:(0:Int)<=((sC S T s 1:Nat):Int):=Jg _;have HR:=q9 A.hR;have H0:=q9 (HX.new A)
 have hF:∀ W,TA W V S T p gb cap m f mk ts->I0 81 #[vE V S T p,I (u:Int),I (v:Int)] W (Dta V S T p gb cap (m+1) f mk ts (.tuple #[I 0,.bool false,.bool false]) W):=fun W B=>QoG B hE hu hv hne hnp (by omega)
 generalize eC V S T u v=ec at HE e0;generalize sC S T s 1=sc at H1 d0;clear A hE hne hu hv hs hnp
 go_enter func47,ntmps47
 go_wp2_with fail
 generalize w.heap.size=b at H0 |-;generalize w.alloc (I9 V S T p)=W at H0 |-;obtain⟨y0,y1,y2,y3,y4,y5,y6,y7,y8,y9⟩:=H0.cells;have hlt:=H0.lt;go_wp2_with fail
 refine(QbJ V S T (s:Int) HR _).mono ?_;rintro e w1 ⟨rfl,b1⟩;rw[H1.out];have H2:=q9 (H0.below b1);clear b1 H0;obtain⟨y0,y1,y2,y3,y4,y5,y6,y7,y8,y9⟩:=H2.cells;have hlt:=H2.lt;go_wp2_with fail
 refine(QbL V S T (u:Int) (v:Int) HR _).mono ?_;rintro e w2 ⟨rfl,b2⟩;rw[HE.out];have H3:=q9 (H2.below b2);clear b2 H2;obtain⟨y0,y1,y2,y3,y4,y5,y6,y7,y8,y9⟩:=H3.cells;have hlt:=H3.lt;go_wp2_with fail
 refine(hF _ H3.a).mono ?_;rintro e w3 ⟨rfl,A1,O1⟩;have H4:=q9 (H3.next A1 O1);clear hF H3 A1 O1;go_wp2_with fail
 go_ret;exact⟨rfl,H4.a,H4.o⟩
theorem QoY (A:TA w V S T p gb cap m f mk ts)(hG:LG V S T f mk ts bs q)(hne:u≠v)(hu:(u:Int)<V)(hv:(v:Int)<V)(hs:(s:Int)<S)(hns:∀ x∈bs,x.s≠s)(hnp:∀ x∈bs,¬ (x.u=min u v/\x.v=max u v))(hm:m+2*nN V S+110+5*(100*nN V S+30)<=99780000):
 I0 22 #[vA V S T p,I (s:Int),I (u:Int),I (v:Int)] w fun e w'=>∃ (t:Bool) (f':Nat->Int) (mk':Nat->Nat) (ts':List Tp) (q':Nat->Nat->List Nat),e=.returned (.bool t)/\(t=true↔¬ Way (tE bs 0) u v)/\TA w' V S T p gb cap (m+120+118*nN V S) f' mk' ts'/\LG V S T f' mk' ts' (bs++[⟨s,min u v,max u v,0,t⟩]) q'/\Only p gb w w':=by
 have hR:=A.hR;have hn:=Ql hR;obtain⟨k,hk⟩:∃ k,bs.length=k:=⟨_,rfl⟩;have HN:=q9 hk;have HG:=q9 hG;have HR:=q9 hR;have HP:Hid (u≠v/\(u:Int)<V/\(v:Int)<V/\(s:Int)<S):=q9 ⟨hne,hu,hv,hs⟩;have HNS:=q9 hns;have HNP:=q9 hnp;obtain⟨a,ha⟩:∃ a,min u v=a:=⟨_,rfl⟩;obtain⟨c,hc9⟩:∃ a,max u v=a:=⟨_,rfl⟩;rw[ha,hc9] at hnp;rw[ha,hc9];have HAE:=q9 (And.intro ha hc9)
 have HAB:Hid (a<c/\(c:Int)<V/\(a:Int)<V):=q9 (by omega)
 have HWS:Hid (Way (tE bs 0) u v↔Way (tE bs 0) a c):=q9 (by
  have h1:(a=u/\c=v)\/(a=v/\c=u):=by omega
  rcases h1 with ⟨rfl,rfl⟩|⟨rfl,rfl⟩
  . exact Iff.rfl
  . exact⟨Way.symm,Way.symm⟩)
 have HER:=q9 (hG.put (x:=⟨s,a,c,0,false⟩) hR HAB.1 HAB.2.1 hs (by have:=(QF V).1;show ((0:Nat):Int)<lv V;omega) hns hnp)
 have H0:=q9 (HX.new A);clear A hG hne hu hv hs hns hnp hR ha hc9 hk
 go_enter func22,ntmps22
 go_wp2_with fail
 generalize w.heap.size=b at H0 |-;generalize w.alloc (I9 V S T p)=W at H0 |-;obtain⟨y0,y1,y2,y3,y4,y5,y6,y7,y8,y9⟩:=H0.cells;have hlt:=H0.lt
 have hft:=QpA (s:=s) H0.a HG.er HP.1 HP.2.1 HP.2.2.1 HP.2.2.2 HNP.out (by omega)
 go_wp2_with fail
 refine hft.mono ?_;rintro e w9 ⟨rfl,A1,O1⟩;have H9:=q9 (H0.next A1 O1);clear hft A1 O1;clear H0;obtain⟨y0,y1,y2,y3,y4,y5,y6,y7,y8,y9⟩:=H9.cells;have hlt:=H9.lt
 have hp0:=QmV (l:=0) (t:=false) H9.a HP.2.1 HP.2.2.1 HP.1 HP.2.2.2 (by have:=(QF V).1;show ((0:Nat):Int)<lv V;omega) (by omega)
 rw[HAE.1,HAE.2] at hp0;go_wp2_with fail
 refine hp0.mono ?_;rintro e w1 ⟨rfl,A1,O1⟩;have H1:=q9 (H9.next A1 O1);clear hp0 A1 O1;clear H9;obtain⟨y0,y1,y2,y3,y4,y5,y6,y7,y8,y9⟩:=H1.cells;have hlt:=H1.lt
 have hj:=Qom (u:=u) (v:=v) H1.a HER.2 HP.2.1 HP.2.2.1 (by omega)
 go_wp2_with fail
 refine hj.mono ?_;rintro e w2 ⟨r,rfl,hr,A2,O2⟩;have H2:=q9 (H1.next A2 O2);have HRR:=q9 hr;clear hj A2 O2 hr;clear H1;obtain⟨y0,y1,y2,y3,y4,y5,y6,y7,y8,y9⟩:=H2.cells;have hlt:=H2.lt
 cases r with
 |true=>
  have HWY:=q9 (HRR.1 rfl);clear HRR
  have hadd:=Qng (x:=⟨s,a,c,0,false⟩) H2.a HER.2 HER.1 rfl HNS.out (by omega)
  go_wp2_with fail
  refine hadd.mono ?_;rintro e w3 ⟨f3,mk3,ts3,rfl,A3,G3,_,O3⟩;have H3:=q9 (H2.next A3 O3);have HG3:=q9 G3;clear hadd A3 O3 G3 H2;go_wp2_with fail
  go_ret
  exact⟨false,f3,mk3,ts3,_,rfl,⟨fun h=>(by cases h),fun h=>absurd HWY h⟩,H3.a.more (by omega),HG3,H3.o⟩
 |false=>
  have HNW:Hid (¬ Way (tE bs 0) u v):=q9 fun h=>by have:=HRR.2 h;cases this
  clear HRR
  have hpl:=Qkk (bs:=bs++[⟨s,a,c,0,false⟩]) (i:=k) (x:=⟨s,a,c,0,false⟩) H2.a HER.2 HER.1 (by rw[List.getElem?_append_right (by have:=HN.out;omega),HN.out,Nat.sub_self];rfl) (fun e=>by rw[List.mem_append,List.mem_singleton];exact⟨fun h=>⟨.inl h,fun es=>HNS.out e h es⟩,fun h=>h.1.elim id fun e9=>absurd (by rw[e9]) h.2⟩) HG.er.un (fun L hL=>by have:L=0:=Nat.le_zero.1 hL;subst this;exact fun h=>HNW.out (HWS.2 h)) (by omega)
  go_wp2_with fail
  refine hpl.mono ?_;rintro e w3 ⟨f3,mk3,ts3,rfl,A3,G3,_,O3⟩;have H3:=q9 (H2.next A3 O3)
  have hset:(bs++[(⟨s,a,c,0,false⟩:E1)]).set k { (⟨s,a,c,0,false⟩:E1) with t:=true }=bs++[⟨s,a,c,0,true⟩]:=by
   rw[List.set_append_right _ _ (by have:=HN.out;omega),HN.out,Nat.sub_self];rfl
  rw[hset] at G3;have HG3:=q9 G3;clear hpl hset A3 O3 G3 H2;go_wp2_with fail
  go_ret
  exact⟨true,f3,mk3,ts3,_,rfl,⟨fun _=>HNW.out,fun _=>rfl⟩,H3.a.more (by show _<=_;omega),HG3.out,H3.o⟩
end
section
variable {w w' w0:World}{V S T:Int}{b p gb cap m L u v i j:Nat}{f f':Nat->Int}{mk mk':Nat->Nat}{ts ts':List Tp}{bs bs' bs1 bs2:List E1}{q q':Nat->Nat->List Nat}{x z:E1}
theorem XbB.cells4 {r:Nat}(h:XbB w r x):w.cell? (I1 r 0)=some (I (x.u:Int))/\w.cell? (I1 r 1)=some (I (x.v:Int))/\w.cell? (I1 r 2)=some (I (x.l:Int))/\w.cell? (I1 r 3)=some (.bool x.t):=⟨Blk.cell h 0,Blk.cell h 1,Blk.cell h 2,Blk.cell h 3⟩
theorem QpL (hV:V<=31)(h:2*2 ^ L<=V.toNat):((L+1:Nat):Int)<lv V:=by
 have h4:L<4:=Classical.byContradiction fun h5=>by
  have h6:2 ^ 4<=2 ^ L:=Nat.pow_le_pow_right (by decide) (by omega)
  omega
 have h5:L=0\/L=1\/L=2\/L=3:=by omega
 unfold lv
 rcases h5 with rfl|rfl|rfl|rfl<;>simp only[Nat.reducePow,Nat.reduceMul] at h<;>split<;>(try split)<;>(try split)<;>(try split)<;>omega
theorem LG.apart14 (h:LG V S T f mk ts bs q)(hR:Rt V S T)(hF:FJ V S mk ts)(hi:bs[i]?=some x)(ht:x.t=true)(hL:(L:Int)<lv V)(hl:L<=x.l):¬ Way (tE (bs.eraseIdx i) L) x.u x.v:=by
 obtain⟨gr,hV,hg⟩:=h.lf.fo;obtain⟨g,hF'⟩:=hF;have hx:=Je hi;obtain⟨rows,hv⟩:=hV L hL;have hgs:(gr L)[x.s]?=some (some (x.u,x.v)):=(hg L hL x.s x.u x.v).1 (QG.2 ⟨x,hx,ht,hl,rfl,rfl,rfl⟩);obtain⟨r,_,c,d,pp,qq,rr,_,_,_,_,_,hside,E,hE,_,hway⟩:=hv.between hR hL hF' hgs
 have hdel:Lnk ((gr L).set x.s none) (tE (bs.eraseIdx i) L):=(hg L hL).del fun s' a b=>by
  rw[QG,QG]
  constructor
  . rintro⟨e,he,h1,h2,h3,h4,h5⟩
    have:=(h.er.mem_erase hi).1 he
    exact⟨⟨e,this.1,h1,h2,h3,h4,h5⟩,by rw[<-h3];exact this.2⟩
  . rintro⟨⟨e,he,h1,h2,h3,h4,h5⟩,hne⟩
    exact⟨e,(h.er.mem_erase hi).2 ⟨he,by rw[h3];exact hne⟩,h1,h2,h3,h4,h5⟩
 intro hw;have hw:=hdel.same hE hw
 rcases hside with ⟨h1,h2⟩|⟨h1,h2⟩
 . exact h2 ((hway _ _ h1).1 hw)
 . exact h2 ((hway _ _ h1).1 hw.symm)
theorem QoK (A:TA w V S T p gb cap m f mk ts)(h:LG V S T f mk ts bs q)(hL:(L:Int)<lv V)(hu:(u:Int)<V)(hv:(v:Int)<V)(hm:m<=99960000):
 I0 100 #[vA V S T p,I (L:Int),I (u:Int),I (v:Int)] w fun e w'=>∃ z:Nat,e=.returned (I (z:Int))/\((z=u/\cnW V.toNat (tE bs L) u<=cnW V.toNat (tE bs L) v)\/(z=v/\cnW V.toNat (tE bs L) v<=cnW V.toNat (tE bs L) u))/\TA w' V S T p gb cap (m+2*nN V S+2) f mk ts/\Only p gb w w':=by
 obtain⟨gr,hV,hg⟩:=h.lf.fo
 have hc:∀ u,cntJ V (gr L) u=cnW V.toNat (tE bs L) u:=fun u=>by
  unfold cntJ cnW
  congr 1
  exact List.filter_congr fun y _=>decide_eq_decide.2 (Jn.way (hg L hL))
 refine(Qhu A hV hL hu hv hm).mono ?_;rintro e w1 ⟨rfl,A1,O1⟩;refine⟨_,rfl,?_,A1,O1⟩;rw[hc,hc]
 by_cases h1:cnW V.toNat (tE bs L) v<cnW V.toNat (tE bs L) u
 . rw[if_pos h1];exact .inr ⟨rfl,Nat.le_of_lt h1⟩
 . rw[if_neg h1];exact .inl ⟨rfl,by omega⟩
theorem Hm.high (h:Hm V.toNat bs u v (L+1))(hV:V<=31)(hp:2 ^ L<=V.toNat)(hu:(u:Int)<V)(hv:(v:Int)<V)(hne:u≠v):((L+1:Nat):Int)<lv V:=
 QpL hV (Nat.le_trans (Nat.mul_le_mul_right _ (Qo0 (by omega) (by omega) hne (Way.one 0 u v (tE bs L)))) (h.s1 L u (by omega) hp (Nat.lt_succ_self L)))
def dC (V S:Int):Nat:=4*nN V S+4+(S.toNat+1)*(118*nN V S+52)+(S.toNat+1)*(38*nN V S+140)
theorem QoD (hU:Up bs1 bs2 (PS13 bs1 L v))(a c:Nat):Way (tE bs2 L) a c↔Way (tE bs1 L) a c:=Way.same (hU.tE_plain (fun _ hx=>hx.1) L)
def QoV (w0:World)(b r:Nat)(x:E1)(V S T:Int)(p gb cap m:Nat)(bs:List E1)(i:Value)(W:World):Prop:=
 ∃ (k M:Nat) (z:Int) (f:Nat->Int) (mk:Nat->Nat) (ts:List Tp) (bs':List E1) (q:Nat->Nat->List Nat),k<=x.l+1/\i=I z/\z=(k:Int)-1/\M<=m+(x.l+1-k)*dC V S/\HY w0 W b r x V S T p gb cap M f mk ts/\LG V S T f mk ts bs' q/\Hm V.toNat bs' x.u x.v k/\Mw bs bs'
structure RpK (V:Nat)(bs:List E1)(x:E1)(ok:Bool)(r:Int)(bs':List E1):Prop where
 mv:Mv bs bs'
 hs:Hs V bs'
 no:ok=false->r=0
 jn:ok=true↔Way (aE bs) x.u x.v
 by_:ok=true->∃ (j:Nat) (z z':E1),bs[j]?=some z/\z.t=false/\r=(z.s:Int)/\bs'[j]?=some z'/\z'.t=true
theorem QpO {m3:Nat}(A:TA w V S T p gb cap m3 f mk ts)(hG:LG V S T f mk ts bs q)(hM:Hm V.toNat bs x.u x.v (x.l+1))(hne:x.u≠x.v)(hu:(x.u:Int)<V)(hv:(x.v:Int)<V)(hl:(x.l:Int)<lv V)(hV:V<=31)(hm:m3+5*dC V S+530*nN V S+300<=99780000):
 I0 54 #[vA V S T p,vEd x.u x.v x.l x.t] w fun e w'=>∃ (ok:Bool) (r:Int) (f':Nat->Int) (mk':Nat->Nat) (ts':List Tp) (bs':List E1) (q':Nat->Nat->List Nat),e=.returned (.tuple #[I r,.bool ok])/\TA w' V S T p gb cap (m3+5*dC V S+530*nN V S+300) f' mk' ts'/\LG V S T f' mk' ts' bs' q'/\RpK V.toNat bs x ok r bs'/\Only p gb w w':=by
 have hR:=A.hR;have hn:=Ql hR;have HR:=q9 hR;have HG:=q9 hG;have HV31:=q9 hV;have HM0:=q9 hM;have HU:Hid (x.u≠x.v/\(x.u:Int)<V/\(x.v:Int)<V/\True/\(x.l:Int)<lv V):=q9 ⟨hne,hu,hv,trivial,hl⟩;obtain⟨D,hD⟩:∃ D,dC V S=D:=⟨_,rfl⟩;rw[hD] at hm;rw[hD];have HD:=q9 hD;have hl5:=(QF V).2
 have xl5:x.l+1<=5:=by omega
 have x0l:(0:Int)<=(x.l:Int):=Jg _;obtain⟨n,hn9⟩:∃ n:Nat,lv V=(n:Int):=⟨(lv V).toNat,(Qft V).symm⟩;have HN:=q9 hn9
 have HMN:Hid ((if (n:Int)-1<(x.l:Int) then (n:Int)-1 else (x.l:Int))=(x.l:Int)):=q9 (if_neg (by omega))
 have n5:(n:Int)<=5:=by omega
 have n1:(1:Int)<=(n:Int):=by have:=(QF V).1;omega
 have wn:IntKind.i64.wrap ((n:Int)-1)=(n:Int)-1:=IntWalk.i64_in _ (by omega)
 have hx0:=(HX.new A).made x;rw[World.size_alloc] at hx0;have HX0:=q9 hx0;clear A hG hM hne hu hv hl hV hR hD hl5 hn9 hx0
 go_enter func54,ntmps54
 go_upto_region 1 with fail
 generalize (w.alloc (I9 V S T p)).alloc (.cells #[I (x.u:Int),I (x.v:Int),I (x.l:Int),.bool x.t] 76)=W8 at HX0 |-;generalize w.heap.size+1=r at HX0 |-;generalize w.heap.size=b at HX0 |-;have HDW:=q9 HX0.drew;have hrule:=SH2.rule b r x V S T p
 go_region_held3 (fun W=>SH2 W b r x V S T p) (first|(with_reducible assumption)|(with_reducible exact H3.out.sl)|(with_reducible exact HDW.out.sl))
  (first
   |(go_at_call 98;((with_reducible refine(QM V S T HR.out _).mono ?_);rintro e w3 ⟨rfl,hb3⟩;rw[HN.out];have H3:=q9 (HDW.out.below hb3)))
   |fail)
 simp only[HMN.out];obtain⟨y0,y1,y2,y3,y4,y5,y6,y7,y8,y9⟩:=H3.y.cells;have hlt:=H3.y.lt;obtain⟨x0,x1,x2,x3⟩:=H3.r.cells4;have hrl:=H3.rlt
 have HRel:Hid (QoV w b r x V S T p gb cap m3 bs (I (x.l:Int)) w3):=q9 ⟨x.l+1,_,_,_,mk,ts,_,_,Nat.le_refl _,rfl,by omega,by rw[Nat.sub_self,Nat.zero_mul];omega,H3.out,HG.out,HM0.out,Mw.refl _⟩
 clear H3 HX0 HDW hrule HG HM0;go_wp2_with fail
 go_loopw [6] (fun i9 wr=>QoV w b r x V S T p gb cap m3 bs i9 wr) (fun i9 _=>(intOf i9+1).toNat)
 case atStart=>exact HRel.out
 case round=>
  clear HRel;obtain⟨k,M,z,f3,mk3,ts3,bs3,q3,hk,rfl,hz,hM,hY,hG3,hHm,hMw⟩:=hrel;rw[HD.out] at hM;have HY0:=q9 hY;have HG3:=q9 hG3;have HM3:=q9 hHm;have HW3:=q9 hMw;clear hY hG3 hHm hMw
  cases k with
  |zero=>
   as_aux_lemma=>
   have ez:z=-1:=by omega
   subst ez
   have hM9:M<=m3+5*D:=by
    have h1:(x.l+1-0)*D<=5*D:=Nat.mul_le_mul_right _ (by omega)
    omega
   have HSX:=q9 HM3.done
   have HNW:Hid (¬ Way (aE bs) x.u x.v):=q9 fun h=>by
    rw[<-HW3.mv.aE_eq,HSX.all] at h;exact HM3.np h
   have HK:Hid (RpK V.toNat bs x false 0 bs3):=q9 ⟨HW3.mv,HSX.out,fun _=>rfl,⟨fun h=>(by cases h),fun h=>absurd h HNW.out⟩,fun h=>(by cases h)⟩
   clear hk hz hM;go_wp2_with fail
   go_ret2
   exact⟨false,0,f3,mk3,ts3,bs3,q3,rfl,HY0.y.a.more (by omega),HG3,HK,HY0.y.o⟩
  |succ L=>
   as_aux_lemma=>
   have ez:z=(L:Int):=by omega
   subst ez
   have hkD:M+D<=m3+(x.l+1-L)*D:=by
    have h1:x.l+1-L=(x.l+1-(L+1))+1:=by omega
    rw[h1,Nat.succ_mul];omega
   have hMD:M+D<=m3+5*D:=by
    have h1:(x.l+1-L)*D<=5*D:=Nat.mul_le_mul_right _ (by omega)
    omega
   have HKD:=q9 hkD;obtain⟨TC,hTC⟩:∃ a,(S.toNat+1)*(118*nN V S+52)=a:=⟨_,rfl⟩;obtain⟨SC,hSC⟩:∃ a,(S.toNat+1)*(38*nN V S+140)=a:=⟨_,rfl⟩
   have hDD:D=4*nN V S+4+TC+SC:=by rw[<-HD.out,<-hTC,<-hSC];rfl
   have hT1:S.toNat*(118*nN V S+52)<=TC:=by rw[<-hTC];exact Nat.mul_le_mul_right _ (Nat.le_succ _)
   have hS1:S.toNat*(38*nN V S+140)<=SC:=by rw[<-hSC];exact Nat.mul_le_mul_right _ (Nat.le_succ _)
   have HTC:=q9 hTC;have HSC:=q9 hSC
   have HLV:=q9 (HM3.high HV31.out (Qpl HR.v1 (by have:=HU.2.2.2.2;omega)) HU.2.1 HU.2.2.1 HU.1)
   have HLK:Hid (L<=x.l):=q9 (by omega)
   have L0:(0:Int)<=(L:Int):=Jg _
   have L5:(L:Int)<=5:=by omega
   have wl:IntKind.i64.wrap ((L:Int)-1)=(L:Int)-1:=IntWalk.i64_in _ (by omega)
   have HDD:Hid (D=4*nN V S+4+TC+SC/\S.toNat*(118*nN V S+52)<=TC/\S.toNat*(38*nN V S+140)<=SC/\M+D<=m3+5*D):=q9 ⟨hDD,hT1,hS1,hMD⟩;clear hk hz hM hkD hTC hSC hDD hT1 hS1 hMD;obtain⟨y0,y1,y2,y3,y4,y5,y6,y7,y8,y9⟩:=HY0.y.cells;have hlt:=HY0.y.lt;obtain⟨x0,x1,x2,x3⟩:=HY0.r.cells4;have hrl:=HY0.rlt
   have hsm:=QoK (L:=L) (u:=x.u) (v:=x.v) HY0.y.a HG3.out (by have:=HLV.out;omega) HU.2.1 HU.2.2.1 (by have:=HDD.out;omega)
   go_wp2_with fail
   refine hsm.mono ?_;rintro e w4 ⟨v9,rfl,hv9,A9,O9⟩;have H4:=q9 (HY0.next A9 O9);have HV9:=q9 hv9
   have HVI:Hid ((v9:Int)<V):=q9 (by exact hv9.elim (fun h=>by rw[h.1];exact HU.2.1) fun h=>by rw[h.1];exact HU.2.2.1)
   clear hsm HY0 A9 O9 hv9;obtain⟨y0,y1,y2,y3,y4,y5,y6,y7,y8,y9⟩:=H4.y.cells;have hlt:=H4.y.lt;obtain⟨x0,x1,x2,x3⟩:=H4.r.cells4;have hrl:=H4.rlt
   have htr:=Qph H4.y.a HG3.out HLV.out HVI.out (by have:=HDD.out;omega)
   go_wp2_with fail
   refine htr.mono ?_;rintro e w5 ⟨f5,mk5,ts5,bs5,rfl,A9,G5,U5,N5,O9⟩;rw[HTC.out] at A9;have H5:=q9 (H4.next A9 O9);have HG5:=q9 G5
   have HM5:=q9 (HM3.trees (by have:=HU.2.1;omega) HV9.out U5)
   have HW5:=q9 (HW3.trans U5.mw)
   have HRW:Hid (∀ a,Way (tE bs5 L) v9 a->Way (tE bs5 (L+1)) v9 a):=q9 fun a h=>U5.row N5 ((U5.way fun y hy=>Nat.le_of_eq hy.2.1.symm).1 h)
   clear htr H4 A9 O9 G5 U5 N5 HG3 HM3 HW3;obtain⟨y0,y1,y2,y3,y4,y5,y6,y7,y8,y9⟩:=H5.y.cells;have hlt:=H5.y.lt;obtain⟨x0,x1,x2,x3⟩:=H5.r.cells4;have hrl:=H5.rlt
   have hsk:=Qpv H5.y.a HG5.out HLV.out HVI.out (by have:=HDD.out;omega)
   go_wp2_with fail
   refine hsk.mono ?_;rintro e w6 ⟨r6,ok,f6,mk6,bs6,q6,rfl,A9,G6,U6,K6,O9⟩;rw[HSC.out] at A9;have H6:=q9 (H5.next A9 O9);have HG6:=q9 G6;have HM6:=q9 (HM5.seek HRW.out U6);have HW6:=q9 (HW5.trans U6.mw);have HU6:=q9 U6;have HK6:=q9 K6
   have HVW:Hid (v9=x.u\/v9=x.v):=q9 (HV9.elim (fun h=>.inl h.1) fun h=>.inr h.1)
   clear hsk H5 A9 O9 G6 U6 K6 HG5 HM5 HW5 HRW HV9;obtain⟨y0,y1,y2,y3,y4,y5,y6,y7,y8,y9⟩:=H6.y.cells;have hlt:=H6.y.lt;obtain⟨x0,x1,x2,x3⟩:=H6.r.cells4;have hrl:=H6.rlt
   cases ok with
   |false=>
    as_aux_lemma=>
    have HNB:Hid (∀ y∈bs6,¬ BS13 bs6 L v9 y):=q9 fun y hy h=>by
     rcases HK6.out with ⟨_,_,h1⟩|⟨h1,_⟩
     . exact h1 y hy ⟨h.1,h.2.1,h.2.2.elim (fun h2=>.inl ((QoD HU6 _ _).1 h2)) fun h2=>.inr ((QoD HU6 _ _).1 h2)⟩
     . cases h1
    have HN6:=q9 (HM6.next HVW.out HNB.out)
    have HR9:Hid (QoV w b r x V S T p gb cap m3 bs (I ((L:Int)-1)) w6):=q9 ⟨L,_,_,f6,mk6,ts5,bs6,q6,by have:=HLK.out;omega,rfl,rfl,by rw[HD.out];have:=HKD.out;have:=HDD.out;omega,H6.out,HG6.out,HN6.out,HW6.out⟩
    go_wp2_with fail
    go_roundw
    case rel=>exact HR9.out
    case measure=>simp [intOf]
   |true=>
    as_aux_lemma=>
    obtain⟨z,j,hj,hzt,hzl,hzc,hr6⟩:∃ (z:E1) (j:Nat),bs6[j]?=some z/\z.t=false/\z.l=L/\(Way (tE bs6 L) z.u v9↔¬ Way (tE bs6 L) z.v v9)/\r6=(z.s:Int):=by
     rcases HK6.out with ⟨h1,_⟩|⟨_,z,hz,h1,h2,h3,h4⟩
     . cases h1
     . obtain⟨j,hj⟩:=Kc hz
       exact⟨z,j,hj,h2,h3,by rw[QoD HU6.out,QoD HU6.out];exact h4,h1⟩
    subst hr6;have hz:=Je hj
    have HMZ:Hid (∀ e,e∈bs6.eraseIdx j↔e∈bs6/\e.s≠z.s):=q9 fun e=>HG6.er.mem_erase hj
    have hfd:=Hm.found (bs':=bs6.set j { z with t:=true }) (by rw[hzl];exact HM6.out) hz hzt HVW.out (by rw[hzl];exact hzc) rfl (fun e=>HG6.er.mem_set (x':={ z with t:=true }) hj rfl) (fun e he es=>HG6.er.uniq he hz es)
    have HFD:=q9 hfd
    have HNZ:Hid (∀ L',L'<=z.l->¬ Way (tE (bs6.eraseIdx j) L') z.u z.v):=q9 fun L' _ h=>HFD.2.1 ((h.down (Nat.zero_le _)).mono fun⟨s,a,c⟩ he=>by
     rw[QG] at he |-;obtain⟨y,hy,h1⟩:=he;exact⟨y,((HMZ y).1 hy).1,h1⟩)
    have HPW:Hid ((bs6.eraseIdx j).Pairwise fun a b=>a.s≠b.s/\¬ (a.u=b.u/\a.v=b.v)):=q9 (HG6.er.un.sublist (List.eraseIdx_sublist _ _))
    have HJ:=q9 hj;have HMS:=q9 (HW6.mv.trans (Mv.set hj));have HZL:=q9 hzl
    have HBY:Hid (∃ (j':Nat) (z0 z':E1),bs[j']?=some z0/\z0.t=false/\(z.s:Int)=(z0.s:Int)/\(bs6.set j { z with t:=true })[j']?=some z'/\z'.t=true):=q9 (by
     have hjl:=(Jd hj).1;rw[HW6.mv.len] at hjl;have h0:=Jh hjl;obtain⟨y,hy,a1,_⟩:=HW6.mv.st j _ h0;rw[hj] at hy;injection hy with hy;subst hy
     exact⟨j,_,_,h0,by rw[<-HW6.tr j _ _ h0 hj];exact hzt,by rw[a1],List.getElem?_set_self (Jd hj).1,rfl⟩)
    have hrm:=Qiz H6.y.a HG6.out hj hzt (by have:=HDD.out;omega)
    clear hfd hz hzc hj;go_wp2_with fail
    refine hrm.mono ?_;rintro e w7 ⟨f7,mk7,ts7,rfl,A9,F7,K7,O9⟩;have H7:=q9 (H6.next A9 O9);have HF7:=q9 F7;have HE7:=q9 (K7.er HG6.er);clear hrm H6 A9 O9 F7 K7;obtain⟨y0,y1,y2,y3,y4,y5,y6,y7,y8,y9⟩:=H7.y.cells;have hlt:=H7.y.lt;obtain⟨x0,x1,x2,x3⟩:=H7.r.cells4;have hrl:=H7.rlt
    have hpl:=Qkk H7.y.a HF7.out HE7.out HJ.out HMZ.out HPW.out HNZ.out (by have:=HDD.out;omega)
    have hpc:(z.l+1)*(100*nN V S+30)<=5*(100*nN V S+30):=Nat.mul_le_mul_right _ (by have:=HZL.out;have:=HLK.out;omega)
    go_wp2_with fail
    refine hpl.mono ?_;rintro e w8 ⟨f8,mk8,ts8,rfl,A9,G8,_,O9⟩;have H8:=q9 (H7.next A9 O9);have HG8:=q9 G8
    have HK:Hid (RpK V.toNat bs x true (z.s:Int) (bs6.set j { z with t:=true })):=q9 ⟨HMS.out,HFD.1,fun h=>(by cases h),⟨fun _=>(by rw[<-HMS.aE_eq,HFD.1.all];exact HFD.2.2),fun _=>rfl⟩,fun _=>HBY.out⟩
    clear hpl H7 A9 O9 G8;go_wp2_with fail
    go_ret2
    exact⟨true,_,f8,mk8,ts8,_,_,rfl,H8.y.a.more (by have:=HDD.out;omega),HG8.out,HK.out,H8.y.o⟩
theorem Qpm (A:TA w V S T p gb cap m f mk ts)(hG:LG V S T f mk ts bs q)(hs:Hs V.toNat bs)(hi:bs[i]?=some x)(hV:V<=31)(hm:m+5*dC V S+900*nN V S+700<=99780000):
 I0 23 #[vA V S T p,I (x.s:Int)] w fun e w'=>∃ (tree ok:Bool) (r:Int) (f':Nat->Int) (mk':Nat->Nat) (ts':List Tp) (bs':List E1) (q':Nat->Nat->List Nat),e=.returned (.tuple #[.bool tree,I r,.bool ok])/\TA w' V S T p gb cap (m+5*dC V S+900*nN V S+700) f' mk' ts'/\LG V S T f' mk' ts' bs' q'/\DlK V.toNat (bs.eraseIdx i) x tree ok r bs'/\Only p gb w w':=by
 have hR:=A.hR;have hn:=Ql hR;have hx:=Je hi;have HI:=q9 (And.intro hi hx);have HG:=q9 hG;have HR:=q9 hR;have HS:=q9 hs;have HV31:=q9 hV;have hok:=hG.er.ok x hx
 have HU:Hid (x.u≠x.v/\(x.u:Int)<V/\(x.v:Int)<V/\(x.s:Int)<S/\(x.l:Int)<lv V):=q9 ⟨by omega,by omega,hok.2.1,hok.2.2.1,hok.2.2.2⟩
 have HME:Hid (∀ e,e∈bs.eraseIdx i↔e∈bs/\e.s≠x.s):=q9 fun e=>hG.er.mem_erase hi
 have hvv:=hok.1
 have HUQ:Hid (∀ e∈bs,e.s=x.s->e=x):=q9 fun e he es=>hG.er.uniq he hx es
 obtain⟨D,hD⟩:∃ D,dC V S=D:=⟨_,rfl⟩;rw[hD] at hm;rw[hD];have HD:=q9 hD;have hl5:=(QF V).2
 have xl5:x.l+1<=5:=by have:=hok.2.2.2;omega
 have x0l:(0:Int)<=(x.l:Int):=Jg _;have H0:=q9 (HX.new A);clear A hG hs hi hx hR hok hD hl5
 go_enter func23,ntmps23
 go_wp2_with fail
 generalize w.heap.size=b at H0 |-;generalize w.alloc (I9 V S T p)=W at H0 |-;obtain⟨y0,y1,y2,y3,y4,y5,y6,y7,y8,y9⟩:=H0.cells;have hlt:=H0.lt
 have hget:=Qe9 H0.a HG.er HI.2 (by omega)
 go_wp2_with fail
 refine hget.mono ?_;rintro e w1 ⟨rfl,A9,O9⟩;have H1:=q9 (H0.next A9 O9);clear hget H0 A9 O9;obtain⟨y0,y1,y2,y3,y4,y5,y6,y7,y8,y9⟩:=H1.cells;have hlt:=H1.lt;have HX0:=q9 (H1.made x)
 have hv0:¬ x.v=0:=by have:=hvv;omega
 have hv0I:¬ (x.v:Int)=0:=by omega
 have hvb:((x.v:Int)==0)=false:=Jf hv0I
 cases htt:x.t with
 |false=>
  as_aux_lemma=>
  rw[htt] at HX0;go_wp2_with fail
  generalize w1.heap.size=r at HX0 |-;generalize w1.alloc (.cells #[I (x.u:Int),I (x.v:Int),I (x.l:Int),.bool false] 76)=W9 at HX0 |-;clear H1;obtain⟨y0,y1,y2,y3,y4,y5,y6,y7,y8,y9⟩:=HX0.y.cells;have hlt:=HX0.y.lt;obtain⟨x0,x1,x2,x3⟩:=HX0.r.cells4;have hrl:=HX0.rlt;rw[htt] at x3
  have hrem:=Qiz HX0.y.a HG.out HI.1 htt (by omega)
  refine hrem.mono ?_;rintro e w2 ⟨f2,mk2,ts2,rfl,A9,F2,K2,O9⟩;have H2:=q9 (HX0.next A9 O9);have HF2:=q9 (F2.gone HR.out HG.er K2 HI.1);clear hrem HX0 A9 O9 F2 K2;obtain⟨y0,y1,y2,y3,y4,y5,y6,y7,y8,y9⟩:=H2.y.cells;have hlt:=H2.y.lt;obtain⟨x0,x1,x2,x3⟩:=H2.r.cells4;have hrl:=H2.rlt
  have hrm:=Qe8 H2.y.a HU.2.1 HU.2.2.1 HU.1 (by omega)
  go_wp2_with fail
  refine hrm.mono ?_;rintro e w3 ⟨rfl,A9,O9⟩;have H3:=q9 (H2.next A9 O9)
  have HK:Hid (DlK V.toNat (bs.eraseIdx i) x false false 0 (bs.eraseIdx i)):=q9 ⟨htt.symm,.refl _,HS.out.out HME.out HUQ.out htt,fun _=>rfl,⟨fun h=>(by cases h),fun h=>by rw[htt] at h;cases h.1⟩,fun h=>(by cases h)⟩
  clear hrm H2 A9 O9;go_wp2_with fail
  go_ret3
  exact⟨false,false,0,_,mk2,ts2,_,_,rfl,H3.y.a.more (by omega),HF2,HK,H3.y.o⟩
 |true=>
  as_aux_lemma=>
  rw[htt] at HX0;go_wp2_with fail
  generalize w1.heap.size=r at HX0 |-;generalize w1.alloc (.cells #[I (x.u:Int),I (x.v:Int),I (x.l:Int),.bool true] 76)=W9 at HX0 |-;clear H1;obtain⟨y0,y1,y2,y3,y4,y5,y6,y7,y8,y9⟩:=HX0.y.cells;have hlt:=HX0.y.lt;obtain⟨x0,x1,x2,x3⟩:=HX0.r.cells4;have hrl:=HX0.rlt;rw[htt] at x3
  have HNP:Hid (¬ Way (tE (bs.eraseIdx i) 0) x.u x.v):=q9 (HG.apart14 HR.out HX0.y.a.fi HI.1 htt (by have:=(QF V).1;show ((0:Nat):Int)<lv V;omega) (Nat.zero_le _))
  have HM0:=q9 (HS.fell HI.2 HME.out HUQ.out HNP.out)
  have hfell:=QiA HX0.y.a HG.out HI.1 htt (by omega)
  refine hfell.mono ?_;rintro e w2 ⟨f2,mk2,ts2,rfl,A9,F2,K2,O9⟩;have H2:=q9 (HX0.next A9 O9);have HF2:=q9 (F2.gone HR.out HG.er K2 HI.1)
  have hlt5:(lv V).toNat*(72*nN V S+50)<=5*(72*nN V S+50):=Nat.mul_le_mul_right _ (by have:=(QF V).2;omega)
  clear hfell HX0 A9 O9 F2 K2;obtain⟨y0,y1,y2,y3,y4,y5,y6,y7,y8,y9⟩:=H2.y.cells;have hlt:=H2.y.lt;obtain⟨x0,x1,x2,x3⟩:=H2.r.cells4;have hrl:=H2.rlt
  have hrm:=Qe8 H2.y.a HU.2.1 HU.2.2.1 HU.1 (by omega)
  go_wp2_with fail
  refine hrm.mono ?_;rintro e w3 ⟨rfl,A9,O9⟩;have H3:=q9 (H2.next A9 O9);clear hrm H2 A9 O9
  have hrp:=QpO (x:=x) H3.y.a HF2.out HM0.out HU.1 HU.2.1 HU.2.2.1 HU.2.2.2.2 HV31.out (by rw[HD.out];omega)
  rw[htt,HD.out] at hrp;obtain⟨y0,y1,y2,y3,y4,y5,y6,y7,y8,y9⟩:=H3.y.cells;have hlt:=H3.y.lt;obtain⟨x0,x1,x2,x3⟩:=H3.r.cells4;have hrl:=H3.rlt;go_wp2_with fail
  refine hrp.mono ?_;rintro e w4 ⟨ok,r9,f4,mk4,ts4,bs4,q4,rfl,A9,G4,K4,O9⟩;have H4:=q9 (H3.next A9 O9)
  have HK:Hid (DlK V.toNat (bs.eraseIdx i) x true ok r9 bs4):=q9 ⟨htt.symm,K4.mv,K4.hs,K4.no,⟨fun h=>⟨htt,K4.jn.1 h⟩,fun h=>K4.jn.2 h.2⟩,K4.by_⟩
  have HG4:=q9 G4;clear hrp H3 A9 O9 G4 K4;go_wp2_with fail
  go_ret3
  exact⟨true,ok,r9,f4,mk4,ts4,bs4,q4,rfl,H4.y.a.more (by omega),HG4,HK,H4.y.o⟩
end
end Go.Proofs.YtfpnjpbpfgjakaaGreat
