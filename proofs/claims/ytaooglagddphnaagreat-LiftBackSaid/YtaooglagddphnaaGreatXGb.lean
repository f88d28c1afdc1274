/- Gb -/
import Derived.Test.YtaooglagddphnaaGreatXGa
import Derived.Test.YtaooglagddphnaaGreatXW
namespace Go.Proofs.YtaooglagddphnaaGreat
open Go.RowKit
set_option maxRecDepth 100000
def TA (w:World)(V S T:Int)(p gb cap m:Nat)(f:Nat->Int)(mk:Nat->Nat)(ts:List Tp):Prop:=∃ g,TM w V S T p gb cap m g/\FI V S g mk ts/\∀ i:Nat,(i:Int)<o5 V S T->rs V S g i=f i
def nxA (V S T:Int)(v l x:Nat):Nat:=if x=0 then hC V S T v l else nxC S T x
section
variable {V S T:Int}{w w' w0:World}{p gb cap m m' k x i s u v l:Nat}{t:Bool}{f f':Nat->Int}{mk:Nat->Nat}{ts:List Tp}{ls:List E1}
theorem TA.hR (h:TA w V S T p gb cap m f mk ts):Rt V S T:=by obtain⟨_,h,_⟩:=h;exact h.hR
theorem TA.below (h:TA w V S T p gb cap m f mk ts)(hb:Below w.heap.size w w'):TA w' V S T p gb cap m f mk ts:=by
 obtain⟨g,h1,h2,h3⟩:=h;exact⟨g,h1.below hb,h2,h3⟩
theorem TA.drew (h:TA w V S T p gb cap m f mk ts):TA w.drew V S T p gb cap m f mk ts:=h.below (Below.refl _ _).drew
theorem TA.alloc (h:TA w V S T p gb cap m f mk ts)(o:Obj):TA (w.alloc o) V S T p gb cap m f mk ts:=h.below ((Below.refl _ _).alloc (Nat.le_refl _) o)
theorem TA.more (h:TA w V S T p gb cap m f mk ts)(hm:m<=m'):TA w V S T p gb cap m' f mk ts:=by
 obtain⟨g,h1,h2,h3⟩:=h;exact⟨g,h1.more hm,h2,h3⟩
theorem TA.p_lt (h:TA w V S T p gb cap m f mk ts):p<w.heap.size:=by obtain⟨_,h,_⟩:=h;exact h.p_lt
theorem TA.g_lt (h:TA w V S T p gb cap m f mk ts):gb<w.heap.size:=by obtain⟨_,h,_⟩:=h;exact h.g_lt
theorem TA.em (h:TA w V S T p gb cap m f mk ts):∃ f9,EM w V S T p gb cap m f9:=by
 obtain⟨g,h1,_⟩:=h;obtain⟨f9,h2,_⟩:=h1.em;exact⟨f9,h2⟩
theorem TA.far (h:TA w V S T p gb cap m f mk ts){q j:Nat}{ty:TypeId}{cs:Array Value}(hq:Blk w q ty cs)(h1:ty≠127)(h2:ty≠88)(u:Value):TA (w.setCell (I1 q j) u) V S T p gb cap m f mk ts:=by
 obtain⟨g,a,b,c⟩:=h;exact⟨g,a.far hq h1 h2 u,b,c⟩
theorem Blk.ta {q:Nat}{ty:TypeId}{cs:Array Value}(h:Blk w q ty cs)(A:TA w V S T p gb cap m f mk ts)(ho:Only p gb w w')(h1:ty≠127)(h2:ty≠88):Blk w' q ty cs:=by
 obtain⟨_,A⟩:=A.em;exact h.em A ho h1 h2
def Dta (V S T:Int)(p gb cap m:Nat)(f:Nat->Int)(mk:Nat->Nat)(ts:List Tp)(r:Value)(w:World)(e:Ending)(w':World):Prop:=e=.returned r/\TA w' V S T p gb cap m f mk ts/\Only p gb w w'
theorem Qlw (A:TA w V S T p gb cap m f mk ts)(hi:(i:Int)<o5 V S T)(hm:m<=100000000){iI:Int}(hI:iI=(i:Int)):
 Calls Tryz.prog 185 #[pmV p,I iI] w (Dta V S T p gb cap (m+1) f mk ts (I2 (f i)) w):=by
 subst hI;obtain⟨g,a,b,c⟩:=A;refine(QnW a hi hm).mono ?_;rintro e w' ⟨rfl,h2,O⟩
 exact⟨by rw[c i hi],⟨g,h2,b,c⟩,O⟩
theorem Dur.ta {r:Value}{e:Ending}{g:Mg9}{U:(Nat->Int)->Nat->Int}(d:Dur V S T p gb cap m g (U (rs V S g)) r w e w')(hF:FI V S g mk ts)(c:∀ i:Nat,(i:Int)<o5 V S T->rs V S g i=f i)
 (hU:∀ a b i,a i=b i->U a i=U b i):Dta V S T p gb cap m (U f) mk ts r w e w':=by
 obtain⟨g',h1,h2,h3,h4,h5⟩:=d
 exact⟨h1,⟨g',h2,hF.beside h3,fun i hi=>(h4 i hi).trans (hU _ _ i (c i hi))⟩,h5⟩
theorem QjM (A:TA w V S T p gb cap m f mk ts)(hi:(i:Int)<o5 V S T){x:Int}(h0:0<=x)(h1:x<=18446744073709551615)(hm:m<=100000000){iI:Int}(hI:iI=(i:Int)):
 Calls Tryz.prog 186 #[pmV p,I iI,I2 x] w (Dta V S T p gb cap (m+1) (upd f i x) mk ts (.tuple #[]) w):=by
 subst hI;obtain⟨g,a,b,c⟩:=A;refine(QmS a hi h0 h1 hm).mono ?_;rintro e w' d
 exact Dur.ta (U:=fun a=>upd a i x) d b c fun a b i h=>Q2 _ _ _ h
theorem QmV (A:TA w V S T p gb cap m f mk ts)(hu:(u:Int)<V)(hv:(v:Int)<V)(hne:u≠v)(hs:(s:Int)<S)(hl:(l:Int)<lv V)(hm:m<=99900000):
 Calls Tryz.prog 82 #[vE V S T p,I (s:Int),I (u:Int),I (v:Int),I (l:Int),.bool t] w (Dta V S T p gb cap (m+3) (putF V S T f ⟨s,min u v,max u v,l,t⟩) mk ts (.tuple #[]) w):=by
 obtain⟨g,a,b,c⟩:=A;refine(tput a hu hv hne hs hl hm).mono ?_;rintro e w' d
 exact Dur.ta (U:=fun a=>putF V S T a ⟨s,min u v,max u v,l,t⟩) d b c fun a b i h=>Q2 _ _ _ (Q2 _ _ _ (Q2 _ _ _ h))
theorem Qe8 (A:TA w V S T p gb cap m f mk ts)(hu:(u:Int)<V)(hv:(v:Int)<V)(hne:u≠v)(hm:m<=100000000):
 Calls Tryz.prog 39 #[vE V S T p,I (u:Int),I (v:Int)] w (Dta V S T p gb cap (m+1) (upd f (eC V S T u v) 0) mk ts (.tuple #[]) w):=by
 obtain⟨g,a,b,c⟩:=A;refine(Qlr a hu hv hne hm).mono ?_;rintro e w' d
 exact Dur.ta (U:=fun a=>upd a (eC V S T u v) 0) d b c fun a b i h=>Q2 _ _ _ h
theorem QhZ (A:TA w V S T p gb cap m f mk ts)(hE:ER V S T f ls){x:E1}(hx:x∈ls){k:Nat}(hk:(k:Int)<lv V)(hm:m<=99900000):
 Calls Tryz.prog 26 #[vE V S T p,I (x.s:Int),I (k:Int)] w (Dta V S T p gb cap (m+4) (upd f (sC S T x.s 2) (k:Int)) mk ts (.tuple #[]) w):=by
 obtain⟨g,a,b,c⟩:=A;refine(QnV a (hE.beside a.hR c) hx hk hm).mono ?_;rintro e w' d
 exact Dur.ta (U:=fun a=>upd a (sC S T x.s 2) (k:Int)) d b c fun a b i h=>Q2 _ _ _ h
theorem Qdx (A:TA w V S T p gb cap m f mk ts){on:Bool}(h1:x≠0)(h2:x<=nN V S)(hk:k<2)(hm:m<=99960000){xa ka:Int}(hxa:xa=(x:Int))(hka:ka=(k:Int)):
 Calls Tryz.prog 63 #[vTr V S T p,I xa,I ka,.bool on] w (Dta V S T p gb cap (m+7+7*nN V S) f (Q9 mk x k on) ts (.tuple #[]) w):=by
 obtain⟨g,a,b,c⟩:=A;refine(QmH a b h1 h2 hk hm hxa hka).mono ?_;rintro e w' ⟨g',rfl,h3,h4,h5,h6⟩
 exact⟨rfl,⟨g',h3,h4,fun i hi=>(h5 i).trans (c i hi)⟩,h6⟩
theorem Qbk (A:TA w V S T p gb cap m f mk ts)(h1:x≠0)(h2:x<=nN V S)(hk:k<2)(hm:m<=99980000){xI kI:Int}(hxI:xI=(x:Int))(hkI:kI=(k:Int)):
 Calls Tryz.prog 61 #[vTr V S T p,I xI,I kI] w (Dta V S T p gb cap (m+1) f mk ts (.bool (hasB (mk x) k)) w):=by
 obtain⟨g,a,b,c⟩:=A;refine(QjJ a b h1 h2 hk hm hxI hkI).mono ?_;rintro e w' ⟨rfl,h3,h6⟩;exact⟨rfl,⟨g,h3,b,c⟩,h6⟩
theorem TA.mk4 (A:TA w V S T p gb cap m f mk ts)(x:Nat):mk x<4:=by
 obtain⟨g,a,b,c⟩:=A;exact b.hm x
theorem Qnb (h:Rt V S T)(h1:1<=x)(h2:(x:Int)<=2*S):QaH S T (((x-1) / 2:Nat):Int) (QcQ 3 (((x-1) % 2:Nat):Int))=((nxC S T x:Nat):Int):=by
 have e:QcQ 3 (((x-1) % 2:Nat):Int)=((3+(x-1) % 2:Nat):Int):=by unfold QcQ;rw[if_neg (by omega)];omega
 rw[e]
 exact Qac h (by omega) (by omega)
theorem Qlc (h:Rt V S T)(h1:1<=x)(h2:(x:Int)<=2*S):QaH S T (((x-1) / 2:Nat):Int) (QcQ 5 (((x-1) % 2:Nat):Int))=((pvC S T x:Nat):Int):=by
 have e:QcQ 5 (((x-1) % 2:Nat):Int)=((5+(x-1) % 2:Nat):Int):=by unfold QcQ;rw[if_neg (by omega)];omega
 rw[e]
 exact Qac h (by omega) (by omega)
theorem QaS (h:Rt V S T)(hv:(v:Int)<V)(hl:(l:Int)<lv V):Qgh V S T (v:Int) (l:Int)=((hC V S T v l:Nat):Int)/\((hC V S T v l:Nat):Int)=o3 S T+v*lv V+l/\0<=(v:Int)*lv V+l/\(v:Int)*lv V+l<vn V:=by
 obtain⟨h1,h2,h3⟩:=(QiQ (V:=V) (S:=S) (T:=T) (v:Int) (l:Int)).1 ⟨by omega,hv,by omega,hl⟩
 have h4:=h.s1;have h5:=h.t1
 have h6:0<=o3 S T:=by unfold o3;omega
 unfold hC;refine⟨?_,?_,h2,h3⟩<;>omega
theorem Qna (h:Rt V S T)(h1:1<=x)(h2:(x:Int)<=2*S):((nxC S T x:Nat):Int)<o5 V S T:=Qf2 h (by omega) (by omega)
theorem QlG (h:Rt V S T)(h1:1<=x)(h2:(x:Int)<=2*S):((pvC S T x:Nat):Int)<o5 V S T:=Qf2 h (by omega) (by omega)
theorem Qgg (h:Rt V S T)(hv:(v:Int)<V)(hl:(l:Int)<lv V):((hC V S T v l:Nat):Int)<o5 V S T:=by
 have h1:=QaS h hv hl;have h2:=(sizes h).pr1;unfold o3 at h1;unfold o5;omega
theorem Qin (h:Rt V S T)(hv:(v:Int)<V)(hl:(l:Int)<lv V)(h2:(x:Int)<=2*S):((nxA V S T v l x:Nat):Int)<o5 V S T:=by
 unfold nxA
 split
 . exact Qgg h hv hl
 . exact Qna h (by omega) h2
end
abbrev vLs (v l:Nat):Value:=.agg #[I (v:Int),I (l:Int)]
abbrev vA (V S T:Int)(p:Nat):Value:=.agg #[I V,I S,I T,I4 p,I 1,I 0,I V,I S,I T,I4 p]
def AjB (w:World)(b:Nat)(V S T:Int)(p:Nat):Prop:=Blk w b 49 #[I V,I S,I T,I4 p,I 1,I 0,I V,I S,I T,I4 p]
def LsB (w:World)(b v l:Nat):Prop:=Blk w b 137 #[I (v:Int),I (l:Int)]
structure AX (w0 W:World)(b:Nat)(V S T:Int)(p gb cap m:Nat)(f:Nat->Int)(mk:Nat->Nat)(ts:List Tp):Prop where
 e:AjB W b V S T p
 m:TA W V S T p gb cap m f mk ts
 o:Only p gb w0 W
structure AY (w0 W:World)(b lb v l:Nat)(V S T:Int)(p gb cap m:Nat)(f:Nat->Int)(mk:Nat->Nat)(ts:List Tp):Prop where
 x:AX w0 W b V S T p gb cap m f mk ts
 l:LsB W lb v l
def SA2 (W:World)(b lb v l:Nat)(V S T:Int)(p:Nat):Prop:=AjB W b V S T p/\LsB W lb v l
section
variable {V S T:Int}{w w' w0:World}{b lb v l p gb cap m m':Nat}{f f':Nat->Int}{mk mk':Nat->Nat}{ts ts':List Tp}
theorem AjB.below (h:AjB w b V S T p)(hb:Below w.heap.size w w'):AjB w' b V S T p:=Blk.below h hb (Blk.lt h)
theorem LsB.below (h:LsB w lb v l)(hb:Below w.heap.size w w'):LsB w' lb v l:=Blk.below h hb (Blk.lt h)
theorem AjB.rule (b:Nat)(V S T:Int)(p:Nat):∀ W:World,AjB W b V S T p->W.cell? (I1 b 0)=some (I V)/\W.cell? (I1 b 1)=some (I S)/\W.cell? (I1 b 2)=some (I T)/\W.cell? (I1 b 3)=some (I4 p)/\
 W.cell? (I1 b 4)=some (I 1)/\W.cell? (I1 b 5)=some (I 0)/\W.cell? (I1 b 6)=some (I V)/\W.cell? (I1 b 7)=some (I S)/\W.cell? (I1 b 8)=some (I T)/\W.cell? (I1 b 9)=some (I4 p):=
 fun _ h=>⟨Blk.cell h 0,Blk.cell h 1,Blk.cell h 2,Blk.cell h 3,Blk.cell h 4,Blk.cell h 5,Blk.cell h 6,Blk.cell h 7,Blk.cell h 8,Blk.cell h 9⟩
theorem LsB.rule (lb v l:Nat):∀ W:World,LsB W lb v l->W.cell? (I1 lb 0)=some (I (v:Int))/\W.cell? (I1 lb 1)=some (I (l:Int)):=fun _ h=>⟨Blk.cell h 0,Blk.cell h 1⟩
theorem SA2.rule (b lb v l:Nat)(V S T:Int)(p:Nat):∀ W:World,SA2 W b lb v l V S T p->(W.cell? (I1 b 0)=some (I V)/\W.cell? (I1 b 1)=some (I S)/\W.cell? (I1 b 2)=some (I T)/\W.cell? (I1 b 3)=some (I4 p)/\
 W.cell? (I1 b 4)=some (I 1)/\W.cell? (I1 b 5)=some (I 0)/\W.cell? (I1 b 6)=some (I V)/\W.cell? (I1 b 7)=some (I S)/\W.cell? (I1 b 8)=some (I T)/\W.cell? (I1 b 9)=some (I4 p))/\
 W.cell? (I1 lb 0)=some (I (v:Int))/\W.cell? (I1 lb 1)=some (I (l:Int)):=fun W h=>⟨AjB.rule b V S T p W h.1,LsB.rule lb v l W h.2⟩
theorem AX.below (h:AX w0 w b V S T p gb cap m f mk ts)(hb:Below w.heap.size w w'):AX w0 w' b V S T p gb cap m f mk ts:=⟨h.e.below hb,h.m.below hb,h.o.trans (Only.of_below hb)⟩
theorem AX.drew (h:AX w0 w b V S T p gb cap m f mk ts):AX w0 w.drew b V S T p gb cap m f mk ts:=h.below (Below.refl _ _).drew
theorem AX.next (h:AX w0 w b V S T p gb cap m f mk ts)(hm:TA w' V S T p gb cap m' f' mk' ts')(ho:Only p gb w w'):AX w0 w' b V S T p gb cap m' f' mk' ts':=⟨Blk.ta h.e h.m ho (by decide) (by decide),hm,h.o.trans ho⟩
theorem AX.new (h:TA w V S T p gb cap m f mk ts):AX w (w.alloc (I7 V S T p)) w.heap.size V S T p gb cap m f mk ts:=
 ⟨Blk.new _ _ _,h.alloc _,(Only.refl _ _ _).alloc _⟩
theorem AY.below (h:AY w0 w b lb v l V S T p gb cap m f mk ts)(hb:Below w.heap.size w w'):AY w0 w' b lb v l V S T p gb cap m f mk ts:=⟨h.x.below hb,h.l.below hb⟩
theorem AY.drew (h:AY w0 w b lb v l V S T p gb cap m f mk ts):AY w0 w.drew b lb v l V S T p gb cap m f mk ts:=h.below (Below.refl _ _).drew
theorem AY.next (h:AY w0 w b lb v l V S T p gb cap m f mk ts)(hm:TA w' V S T p gb cap m' f' mk' ts')(ho:Only p gb w w'):AY w0 w' b lb v l V S T p gb cap m' f' mk' ts':=⟨h.x.next hm ho,Blk.ta h.l h.x.m ho (by decide) (by decide)⟩
theorem AY.new (h:TA w V S T p gb cap m f mk ts)(v l:Nat):AY w ((w.alloc (I7 V S T p)).alloc (.cells #[I (v:Int),I (l:Int)] 137)) w.heap.size (w.heap.size+1) v l V S T p gb cap m f mk ts:=by
 refine⟨(AX.new h).below ((Below.refl _ _).alloc (Nat.le_refl _) _),?_⟩
 have e:w.heap.size+1=(w.alloc (I7 V S T p)).heap.size:=by simp
 rw[e];exact Blk.new _ _ _
theorem AY.sa (h:AY w0 w b lb v l V S T p gb cap m f mk ts):SA2 w b lb v l V S T p:=⟨h.x.e,h.l⟩
theorem AjB.cells (h:AjB w b V S T p):w.cell? (I1 b 0)=some (I V)/\w.cell? (I1 b 1)=some (I S)/\w.cell? (I1 b 2)=some (I T)/\w.cell? (I1 b 3)=some (I4 p)/\
 w.cell? (I1 b 4)=some (I 1)/\w.cell? (I1 b 5)=some (I 0)/\w.cell? (I1 b 6)=some (I V)/\w.cell? (I1 b 7)=some (I S)/\w.cell? (I1 b 8)=some (I T)/\w.cell? (I1 b 9)=some (I4 p):=AjB.rule b V S T p w h
theorem AjB.lt (h:AjB w b V S T p):b<w.heap.size:=Blk.lt h
theorem LsB.lt (h:LsB w lb v l):lb<w.heap.size:=Blk.lt h
theorem LsB.cells (h:LsB w lb v l):w.cell? (I1 lb 0)=some (I (v:Int))/\w.cell? (I1 lb 1)=some (I (l:Int)):=LsB.rule lb v l w h
end
section
variable {V S T:Int}{w w' w0:World}{p gb cap m m' k x y i s d u v l:Nat}{t:Bool}{f f':Nat->Int}{mk:Nat->Nat}{ts:List Tp}{ls:List E1}
theorem Qjh (w:World):Calls Tryz.prog 138 #[I2 0] w fun e w'=>e=.returned (.tuple #[I (-1),I 0])/\Below w.heap.size w w':=by
 go_enter Tryz.func138,Tryz.ntmps138
 go_wp2_with fail
 go_ret2
 exact⟨rfl,Below.refl _ _⟩
theorem QgZ {q r:Nat}(h1:1<=x)(h2:x<=96)(hq:(x-1) / 2=q)(hr:(x-1) % 2=r)(w:World):Calls Tryz.prog 138 #[I2 (x:Int)] w fun e w'=>e=.returned (.tuple #[I (q:Int),I (r:Int)])/\Below w.heap.size w w':=by
 have e1:((x:Int)-1) / 2=(q:Int):=by omega
 have e2:((x:Int)-1) % 2=(r:Int):=by omega
 have e3:((x:Int)-1).tdiv 2=(q:Int):=(Int.tdiv_eq_ediv_of_nonneg (by omega)).trans e1
 have e4:((x:Int)-1).tmod 2=(r:Int):=(Int.tmod_eq_emod_of_nonneg (by omega)).trans e2
 have qx6:(q:Int)<=96:=by omega
 have r96:(r:Int)<=96:=by omega
 clear hq hr e1 e2
 go_enter Tryz.func138,Tryz.ntmps138
 go_wp2_with fail
 go_ret2
 exact⟨rfl,Below.refl _ _⟩
theorem QbF {s d:Nat}(h1:s<48)(h2:d<2)(w:World):Calls Tryz.prog 85 #[I (s:Int),I (d:Int)] w fun e w'=>e=.returned (I2 ((2*s+d+1:Nat):Int))/\Below w.heap.size w w':=by
 have HE:Hid ((s:Int)*2+d+1=((2*s+d+1:Nat):Int)):=q9 (by omega)
 go_enter Tryz.func85,Tryz.ntmps85
 go_wp2_with fail
 go_ret
 exact⟨by rw[HE.out];rfl,Below.refl _ _⟩
theorem QkP (A:TA w V S T p gb cap m f mk ts)(hi:(i:Int)<o5 V S T)(hm:m<=100000000){iI:Int}(hI:iI=(i:Int)):
 Calls Tryz.prog 131 #[vA V S T p,I iI] w (Dta V S T p gb cap (m+1) f mk ts (I2 (f i)) w):=by
 subst hI;have ml:=QaF;have H:=q9 (AX.new A);have HL:=q9 hi;clear A hi;have i0:(0:Int)<=(i:Int):=Int.natCast_nonneg _
 go_enter Tryz.func131,Tryz.ntmps131
 go_wp2_with fail
 refine(Qlw H.m HL hm rfl).mono ?_;rintro e w3 ⟨rfl,A3,O3⟩;have H3:=q9 (H.next A3 O3);clear H A3 O3;go_wp2_with fail
 go_ret;exact⟨rfl,H3.m,H3.o⟩
theorem Qjk (A:TA w V S T p gb cap m f mk ts)(hi:(i:Int)<o5 V S T){x:Int}(h0:0<=x)(h1:x<=18446744073709551615)(hm:m<=100000000){iI:Int}(hI:iI=(i:Int)):
 Calls Tryz.prog 135 #[vA V S T p,I iI,I2 x] w (Dta V S T p gb cap (m+1) (upd f i x) mk ts (.tuple #[]) w):=by
 subst hI;have ms:=Qaa;have H:=q9 (AX.new A);have HL:=q9 hi;clear A hi;have i0:(0:Int)<=(i:Int):=Int.natCast_nonneg _
 go_enter Tryz.func135,Tryz.ntmps135
 go_wp2_with fail
 refine(QjM H.m HL h0 h1 hm rfl).mono ?_;rintro e w3 ⟨rfl,A3,O3⟩;have H3:=q9 (H.next A3 O3);clear H A3 O3;go_wp2_with fail
 go_end0
 exact⟨rfl,H3.m,H3.o⟩
theorem Qjj {x:Int}(w:World):
 Calls Tryz.prog 135 #[vA V S T p,I (-1),I2 x] w fun e w'=>e=.returned (.tuple #[])/\Below w.heap.size w w':=by
 go_enter Tryz.func135,Tryz.ntmps135
 go_wp2_with fail
 (try simp only[Exit.inBlock,Exit.then]);refine bodyPost_ret (results_none rfl _ _ _) rfl ?_
 exact⟨rfl,(Below.refl _ _).alloc (Nat.le_refl _) _⟩
theorem Qip (hR:Rt V S T)(hv:(v:Int)<V)(hl:(l:Int)<lv V)(w:World):
 Calls Tryz.prog 136 #[vA V S T p,vLs v l,I2 0] w fun e w'=>e=.returned (I ((hC V S T v l:Nat):Int))/\Below w.heap.size w w':=by
 have HE:=q9 (QaS hR hv hl).1;have HR:=q9 hR;clear hR
 go_enter Tryz.func136,Tryz.ntmps136
 go_wp2_with fail
 refine(QgN V S T (v:Int) (l:Int) HR _).mono ?_;rintro e w2 ⟨rfl,hb2⟩;rw[HE.out];go_wp2_with fail
 go_ret
 exact⟨rfl,QK (((Below.refl _ _).alloc (Nat.le_refl _) _).alloc (by simp) _) hb2⟩
theorem Qio (hR:Rt V S T)(h1:1<=x)(h2:(x:Int)<=2*S)(w:World):
 Calls Tryz.prog 136 #[vA V S T p,vLs v l,I2 (x:Int)] w fun e w'=>e=.returned (I ((nxC S T x:Nat):Int))/\Below w.heap.size w w':=by
 have x96:x<=96:=by have:=hR.s2;omega
 have hE:=Qnb hR h1 h2;obtain⟨q,hq⟩:∃ q,(x-1) / 2=q:=⟨_,rfl⟩;obtain⟨r,hr⟩:∃ r,(x-1) % 2=r:=⟨_,rfl⟩;rw[hq,hr] at hE;have HE:=q9 hE;have HQ:=q9 (And.intro hq hr);clear hE hq hr;have HR:=q9 hR;clear hR
 have hx0:¬ (x:Int)=0:=by omega
 have hx1:¬ x=0:=by omega
 have HJ:Hid (AjB ((w.alloc (I7 V S T p)).alloc (.cells #[I (v:Int),I (l:Int)] 137)) w.heap.size V S T p):=
  q9 (Blk.below (Blk.new w _ _) ((Below.refl _ _).alloc (Nat.le_refl _) _) (Blk.lt (Blk.new w _ _)))
 have HB:Hid (Below w.heap.size w ((w.alloc (I7 V S T p)).alloc (.cells #[I (v:Int),I (l:Int)] 137))):=
  q9 (((Below.refl _ _).alloc (Nat.le_refl _) _).alloc (by simp) _)
 go_enter Tryz.func136,Tryz.ntmps136
 go_wp2_with fail
 generalize ((w.alloc (I7 V S T p)).alloc (.cells #[I (v:Int),I (l:Int)] 137))=w1 at HJ HB |-;have hsz:=HB.size;obtain⟨B,hB⟩:∃ B,w.heap.size=B:=⟨_,rfl⟩;simp only[hB] at HJ HB hsz |-;have HD:Hid (AjB w1.drew B V S T p):=q9 HJ.out;have hrule:=AjB.rule B V S T p
 go_region_held3 (fun W=>AjB W B V S T p) (first|(with_reducible assumption)|(with_reducible exact H3.out)|(with_reducible exact H2.out)|(with_reducible exact HD.out))
  (first
   |(go_at_call 138;((with_reducible refine(QgZ h1 x96 HQ.out.1 HQ.out.2 _).mono ?_);rintro e w2 ⟨rfl,hb2⟩;have H2:=q9 (AjB.below HD.out hb2)))
   |(go_at_call 155;((with_reducible refine(Qj7 V S T (q:Int) (r:Int) HR.out _).mono ?_);rintro e w3 ⟨rfl,hb3⟩;rw[HE.out];have H3:=q9 (AjB.below H2.out hb3)))
   |fail)
 go_wp2_with fail
 go_ret;refine⟨rfl,?_⟩;rw[hB];exact(HB.drew.trans (hb2.mono hsz)).trans (hb3.mono (Nat.le_trans hsz hb2.size))
theorem QeN (hR:Rt V S T)(hv:(v:Int)<V)(hl:(l:Int)<lv V)(h2:(x:Int)<=2*S)(w:World):
 Calls Tryz.prog 136 #[vA V S T p,vLs v l,I2 (x:Int)] w fun e w'=>e=.returned (I ((nxA V S T v l x:Nat):Int))/\Below w.heap.size w w':=by
 unfold nxA
 by_cases h:x=0
 . subst h;exact Qip hR hv hl w
 . rw[if_neg h];exact Qio hR (by omega) h2 w
theorem Qr (A:TA w V S T p gb cap m f mk ts)(hv:(v:Int)<V)(hl:(l:Int)<lv V)(h2:(x:Int)<=2*S)(hm:m<=100000000){xI:Int}(hxI:xI=(x:Int)):
 Calls Tryz.prog 89 #[vA V S T p,vLs v l,I2 xI] w (Dta V S T p gb cap (m+1) f mk ts (I2 (f (nxA V S T v l x))) w):=by
 subst hxI;have H:=q9 (AY.new A v l);have HR:=q9 A.hR;have HI:=q9 (Qin A.hR hv hl h2);clear A;generalize hk:nxA V S T v l x=k at HI;have HK:=q9 hk;clear hk
 go_enter Tryz.func89,Tryz.ntmps89
 go_wp2_with fail
 generalize ((w.alloc (I7 V S T p)).alloc (.cells #[I (v:Int),I (l:Int)] 137))=w1 at H |-;generalize hB:w.heap.size=B at H |-;have HD:=q9 H.drew;have hrule:=SA2.rule B (B+1) v l V S T p
 go_region_held3 (fun W=>SA2 W B (B+1) v l V S T p) (first|(with_reducible assumption)|(with_reducible exact H3.out.sa)|(with_reducible exact H2.out.sa)|(with_reducible exact HD.out.sa))
  (first
   |(go_at_call 136;((with_reducible refine(QeN HR.out hv hl h2 _).mono ?_);rintro e w2 ⟨rfl,hb2⟩;rw[HK.out];have H2:=q9 (HD.out.below hb2)))
   |(go_at_call 131;((with_reducible refine(QkP H2.out.x.m HI.out hm rfl).mono ?_);rintro e w3 ⟨rfl,A3,O3⟩;have H3:=q9 (H2.out.next A3 O3)))
   |fail)
 go_wp2_with fail
 go_ret
 exact⟨by rw[<-HK.out];rfl,H3.x.m,H3.x.o⟩
theorem QcE (A:TA w V S T p gb cap m f mk ts)(h1:1<=x)(h2:(x:Int)<=2*S)(hm:m<=100000000):
 Calls Tryz.prog 88 #[vA V S T p,I2 (x:Int)] w (Dta V S T p gb cap (m+1) f mk ts (I2 (f (pvC S T x))) w):=by
 have H:=q9 (AX.new A);have HR:=q9 A.hR;have HI:=q9 (QlG A.hR h1 h2)
 have x96:x<=96:=by have:=A.hR.s2;omega
 have hE:=Qlc A.hR h1 h2;clear A;obtain⟨q,hq⟩:∃ q,(x-1) / 2=q:=⟨_,rfl⟩;obtain⟨r,hr⟩:∃ r,(x-1) % 2=r:=⟨_,rfl⟩;rw[hq,hr] at hE;generalize hk:pvC S T x=k at HI hE;have HE:=q9 hE;have HK:=q9 hk;have HQ:=q9 (And.intro hq hr);clear hE hq hr hk
 go_enter Tryz.func88,Tryz.ntmps88
 go_wp2_with fail
 generalize (w.alloc (I7 V S T p))=w1 at H |-;generalize hB:w.heap.size=B at H |-;have HD:=q9 H.drew;have hrule:=AjB.rule B V S T p
 go_region_held3 (fun W=>AjB W B V S T p) (first|(with_reducible assumption)|(with_reducible exact H4.out.e)|(with_reducible exact H3.out.e)|(with_reducible exact H2.out.e)|(with_reducible exact HD.out.e))
  (first
   |(go_at_call 138;((with_reducible refine(QgZ h1 x96 HQ.out.1 HQ.out.2 _).mono ?_);rintro e w2 ⟨rfl,hb2⟩;have H2:=q9 (HD.out.below hb2)))
   |(go_at_call 137;((with_reducible refine(QeH V S T (q:Int) (r:Int) HR.out _).mono ?_);rintro e w3 ⟨rfl,hb3⟩;rw[HE.out];have H3:=q9 (H2.out.below hb3)))
   |(go_at_call 131;((with_reducible refine(QkP H3.out.m HI.out hm rfl).mono ?_);rintro e w4 ⟨rfl,A3,O3⟩;have H4:=q9 (H3.out.next A3 O3)))
   |fail)
 go_wp2_with fail
 go_ret
 exact⟨by rw[<-HK.out];rfl,H4.m,H4.o⟩
end
def Qcu (V S T:Int)(f:Nat->Int)(v l x y:Nat):Nat->Int:=if y=0 then upd f (nxA V S T v l x) 0 else upd (upd f (nxA V S T v l x) (y:Int)) (pvC S T y) (x:Int)
section
variable {V S T:Int}{w w' w0:World}{p gb cap m m' k x y z i s d u v l:Nat}{t:Bool}{f f':Nat->Int}{mk:Nat->Nat}{ts:List Tp}{ls:List E1}
theorem Qkr (A:TA w V S T p gb cap m f mk ts)(hv:(v:Int)<V)(hl:(l:Int)<lv V)(h2:(x:Int)<=2*S)(hm:m<=99900000):
 Calls Tryz.prog 87 #[vA V S T p,vLs v l,I2 (x:Int),I2 0] w (Dta V S T p gb cap (m+2) (Qcu V S T f v l x 0) mk ts (.tuple #[]) w):=by
 have H:=q9 (AY.new A v l);have HR:=q9 A.hR;have HI:=q9 (Qin A.hR hv hl h2);have x0:(0:Int)<=(x:Int):=Int.natCast_nonneg _
 have x96:(x:Int)<=96:=by have:=A.hR.s2;omega
 have hE:QaH S T (-1) (QcQ 5 0)=-1:=if_neg (by omega)
 have HE:=q9 hE;clear A hE;generalize hk:nxA V S T v l x=k at HI;have HK:=q9 hk;clear hk
 go_enter Tryz.func87,Tryz.ntmps87
 go_wp2_with fail
 generalize ((w.alloc (I7 V S T p)).alloc (.cells #[I (v:Int),I (l:Int)] 137))=w1 at H |-;generalize hB:w.heap.size=B at H |-;have HD:=q9 H.drew;have hrule:=SA2.rule B (B+1) v l V S T p
 go_region_held3 (fun W=>SA2 W B (B+1) v l V S T p) (first|(with_reducible assumption)|(with_reducible exact H3.out.sa)|(with_reducible exact H2.out.sa)|(with_reducible exact HD.out.sa))
  (first
   |(go_at_call 136;((with_reducible refine(QeN HR.out hv hl h2 _).mono ?_);rintro e w2 ⟨rfl,hb2⟩;rw[HK.out];have H2:=q9 (HD.out.below hb2)))
   |(go_at_call 135;((with_reducible refine(Qjk (x:=0) H2.out.x.m HI.out (by omega) (by omega) (by omega) rfl).mono ?_);rintro e w3 ⟨rfl,A3,O3⟩;have H3:=q9 (H2.out.next A3 O3)))
   |fail)
 clear hrule A3 O3 HD H2 hb2;have HD:=q9 H3.drew;obtain⟨c0,c1,c2,c3,c4,c5,c6,c7,c8,c9⟩:=H3.x.e.cells;have blt:=H3.x.e.lt;go_wp2_with fail
 have hrule:=SA2.rule B (B+1) v l V S T p
 go_region_held3 (fun W=>SA2 W B (B+1) v l V S T p) (first|(with_reducible assumption)|(with_reducible exact H6.out.sa)|(with_reducible exact H5.out.sa)|(with_reducible exact H4.out.sa)|(with_reducible exact HD.out.sa))
  (first
   |(go_at_call 138;((with_reducible refine(Qjh _).mono ?_);rintro e w2 ⟨rfl,hb2⟩;have H4:=q9 (HD.out.below hb2)))
   |(go_at_call 137;((with_reducible refine(QeH V S T (-1) 0 HR.out _).mono ?_);rintro e w3 ⟨rfl,hb3⟩;rw[HE.out];have H5:=q9 (H4.out.below hb3)))
   |(go_at_call 135;((with_reducible refine(Qjj (x:=(x:Int)) _).mono ?_);rintro e w4 ⟨rfl,hb4⟩;have H6:=q9 (H5.out.below hb4)))
   |fail)
 go_wp2_with fail
 go_end0
 exact⟨rfl,by unfold Qcu;rw[if_pos rfl,HK.out];exact H6.x.m.more (by omega),H6.x.o⟩
theorem QiK (A:TA w V S T p gb cap m f mk ts)(hv:(v:Int)<V)(hl:(l:Int)<lv V)(h2:(x:Int)<=2*S)(hy:1<=y)(hyS:(y:Int)<=2*S)(hm:m<=99900000):
 Calls Tryz.prog 87 #[vA V S T p,vLs v l,I2 (x:Int),I2 (y:Int)] w (Dta V S T p gb cap (m+2) (Qcu V S T f v l x y) mk ts (.tuple #[]) w):=by
 have H:=q9 (AY.new A v l);have HR:=q9 A.hR;have HI:=q9 (Qin A.hR hv hl h2);have x0:(0:Int)<=(x:Int):=Int.natCast_nonneg _
 have x96:(x:Int)<=96:=by have:=A.hR.s2;omega
 have hE:=Qlc A.hR hy hyS
 have y96:y<=96:=by have:=A.hR.s2;omega
 have y0:(0:Int)<=(y:Int):=Int.natCast_nonneg _;obtain⟨q,hq⟩:∃ q,(y-1) / 2=q:=⟨_,rfl⟩;obtain⟨r,hr⟩:∃ r,(y-1) % 2=r:=⟨_,rfl⟩;rw[hq,hr] at hE;have HL:=q9 (QlG A.hR hy hyS);generalize hj:pvC S T y=j at HL hE;have HJ:=q9 hj;have HQ:=q9 (And.intro hq hr);clear hj hq hr;have HE:=q9 hE;clear A hE;generalize hk:nxA V S T v l x=k at HI;have HK:=q9 hk;clear hk
 go_enter Tryz.func87,Tryz.ntmps87
 go_wp2_with fail
 generalize ((w.alloc (I7 V S T p)).alloc (.cells #[I (v:Int),I (l:Int)] 137))=w1 at H |-;generalize hB:w.heap.size=B at H |-;have HD:=q9 H.drew;have hrule:=SA2.rule B (B+1) v l V S T p
 go_region_held3 (fun W=>SA2 W B (B+1) v l V S T p) (first|(with_reducible assumption)|(with_reducible exact H3.out.sa)|(with_reducible exact H2.out.sa)|(with_reducible exact HD.out.sa))
  (first
   |(go_at_call 136;((with_reducible refine(QeN HR.out hv hl h2 _).mono ?_);rintro e w2 ⟨rfl,hb2⟩;rw[HK.out];have H2:=q9 (HD.out.below hb2)))
   |(go_at_call 135;((with_reducible refine(Qjk (x:=(y:Int)) H2.out.x.m HI.out (by omega) (by omega) (by omega) rfl).mono ?_);rintro e w3 ⟨rfl,A3,O3⟩;have H3:=q9 (H2.out.next A3 O3)))
   |fail)
 clear hrule A3 O3 HD H2 hb2;have HD:=q9 H3.drew;obtain⟨c0,c1,c2,c3,c4,c5,c6,c7,c8,c9⟩:=H3.x.e.cells;have blt:=H3.x.e.lt;go_wp2_with fail
 have hrule:=SA2.rule B (B+1) v l V S T p
 go_region_held3 (fun W=>SA2 W B (B+1) v l V S T p) (first|(with_reducible assumption)|(with_reducible exact H6.out.sa)|(with_reducible exact H5.out.sa)|(with_reducible exact H4.out.sa)|(with_reducible exact HD.out.sa))
  (first
   |(go_at_call 138;((with_reducible refine(QgZ hy y96 HQ.out.1 HQ.out.2 _).mono ?_);rintro e w2 ⟨rfl,hb2⟩;have H4:=q9 (HD.out.below hb2)))
   |(go_at_call 137;((with_reducible refine(QeH V S T (q:Int) (r:Int) HR.out _).mono ?_);rintro e w3 ⟨rfl,hb3⟩;rw[HE.out];have H5:=q9 (H4.out.below hb3)))
   |(go_at_call 135;((with_reducible refine(Qjk H5.out.x.m HL.out x0 (by omega) (by omega) rfl).mono ?_);rintro e w4 ⟨rfl,A4,O4⟩;have H6:=q9 (H5.out.next A4 O4)))
   |fail)
 go_wp2_with fail
 go_end0
 exact⟨rfl,by unfold Qcu;rw[if_neg (by omega),HK.out,HJ.out];exact H6.x.m,H6.x.o⟩
theorem QbG (A:TA w V S T p gb cap m f mk ts)(hv:(v:Int)<V)(hl:(l:Int)<lv V)(h2:(x:Int)<=2*S)(hyS:(y:Int)<=2*S)(hm:m<=99900000){xI yI:Int}(hx:xI=(x:Int))(hy:yI=(y:Int)):
 Calls Tryz.prog 87 #[vA V S T p,vLs v l,I2 xI,I2 yI] w (Dta V S T p gb cap (m+2) (Qcu V S T f v l x y) mk ts (.tuple #[]) w):=by
 subst hx hy
 by_cases h:y=0
 . subst h;exact Qkr A hv hl h2 hm
 . exact QiK A hv hl h2 (by omega) hyS hm
theorem Qfe (hR:Rt V S T)(w:World):Calls Tryz.prog 140 #[vA V S T p,I2 0] w fun e w'=>e=.returned (.tuple #[I 0,.bool false])/\Below w.heap.size w w':=by
 have HE:Hid (QaH S T (-1) 1=-1):=q9 (if_neg (by omega))
 have HR:=q9 hR;clear hR
 go_enter Tryz.func140,Tryz.ntmps140
 go_wp2_with fail
 refine(Qjh _).mono ?_;rintro e w2 ⟨rfl,hb2⟩;have K2:=QK ((Below.refl w.heap.size w).alloc (Nat.le_refl _) _) hb2;have HJ:Hid (AjB w2 w.heap.size V S T p):=q9 (Blk.below (Blk.new w _ _) hb2 (Blk.lt (Blk.new w _ _)));obtain⟨c0,c1,c2,c3,c4,c5,c6,c7,c8,c9⟩:=HJ.cells;have blt:=HJ.lt;go_wp2_with fail
 refine(QbJ V S T (-1) HR _).mono ?_;rintro e w3 ⟨rfl,hb3⟩;rw[HE.out];go_wp2_with fail
 go_ret2
 exact⟨rfl,QK K2 hb3⟩
theorem Qff (hR:Rt V S T)(h1:1<=x)(h2:(x:Int)<=2*S){q:Nat}(hq:(x-1) / 2=q)(w:World):Calls Tryz.prog 140 #[vA V S T p,I2 (x:Int)] w fun e w'=>e=.returned (.tuple #[I (q:Int),.bool true])/\Below w.heap.size w w':=by
 have x96:x<=96:=by have:=hR.s2;omega
 have hs:QaH S T (q:Int) 1=T+1+(q:Int)*7+1:=if_pos (by omega)
 have HE:=q9 hs
 have hg:(0:Int)<=T+1+(q:Int)*7+1:=by have:=hR.t1;omega
 obtain⟨r,hr⟩:∃ r,(x-1) % 2=r:=⟨_,rfl⟩;have HQ:=q9 (And.intro hq hr);have HR:=q9 hR;clear hR hs hq hr
 go_enter Tryz.func140,Tryz.ntmps140
 go_wp2_with fail
 refine(QgZ h1 x96 HQ.1 HQ.2 _).mono ?_;rintro e w2 ⟨rfl,hb2⟩;have K2:=QK ((Below.refl w.heap.size w).alloc (Nat.le_refl _) _) hb2;have HJ:Hid (AjB w2 w.heap.size V S T p):=q9 (Blk.below (Blk.new w _ _) hb2 (Blk.lt (Blk.new w _ _)));obtain⟨c0,c1,c2,c3,c4,c5,c6,c7,c8,c9⟩:=HJ.cells;have blt:=HJ.lt;go_wp2_with fail
 refine(QbJ V S T (q:Int) HR _).mono ?_;rintro e w3 ⟨rfl,hb3⟩;rw[HE.out];go_wp2_with fail
 go_ret2
 exact⟨rfl,QK K2 hb3⟩
end
def ndA (V:Int)(v l:Nat):Nat:=(QcO V (l:Int) (v:Int)).toNat
def mkQ (mk:Nat->Nat)(x:Nat)(on:Bool):Nat->Nat:=if hasB (mk x) 0=on then mk else Q9 mk x 0 on
section
variable {V S T:Int}{w w' w0:World}{p gb cap m m' k x y z h i s d u v l v2 l2:Nat}{t:Bool}{f f':Nat->Int}{mk:Nat->Nat}{ts:List Tp}{ls:List E1}
theorem Qbd (hR:Rt V S T)(hv:(v:Int)<V)(hl:(l:Int)<lv V):QcO V (l:Int) (v:Int)=((ndA V v l:Nat):Int)/\((ndA V v l:Nat):Int)=l*V+v+1/\1<=ndA V v l/\ndA V v l<=nN V S:=by
 have h1:pl (l:Int) (lv V) (v:Int) V=(l:Int)*V+v:=Qii (by omega) hl (by omega) hv
 have h2:0<=(l:Int)*V:=Int.mul_nonneg (by omega) (by omega)
 have h3:(l:Int)*V<=(lv V-1)*V:=Int.mul_le_mul_of_nonneg_right (by omega) (by omega)
 have h4:(lv V-1)*V=vn V-V:=by unfold vn;rw[Int.sub_mul];omega
 have h5:=Q0 hR;have h6:nd V S=vn V+S*sn V:=rfl;have h7:=(sizes hR).ss1
 have h8:QcO V (l:Int) (v:Int)=(l:Int)*V+v+1:=by unfold QcO;rw[h1]
 unfold ndA;rw[h8];refine⟨?_,?_,?_,?_⟩<;>omega
theorem Qle (hR:Rt V S T)(hv:(v:Int)<V)(hl:(l:Int)<lv V)(hv2:(v2:Int)<V)(hl2:(l2:Int)<lv V)(e:ndA V v l=ndA V v2 l2):v=v2/\l=l2:=by
 have h1:=(Qbd hR hv hl).2.1;have h2:=(Qbd hR hv2 hl2).2.1
 have e2:(l:Int)*V+v=(l2:Int)*V+v2:=by omega
 have a1:((l:Int)*V+v) / V=l:=by rw[Int.add_comm,Int.add_mul_ediv_right _ _ (by omega),Int.ediv_eq_zero_of_lt (by omega) hv];omega
 have a2:((l2:Int)*V+v2) / V=l2:=by rw[Int.add_comm,Int.add_mul_ediv_right _ _ (by omega),Int.ediv_eq_zero_of_lt (by omega) hv2];omega
 have hl3:(l:Int)=l2:=by rw[<-a1,<-a2,e2]
 have:l=l2:=by omega
 subst this
 exact⟨by omega,rfl⟩
theorem QlS (A:TA w V S T p gb cap m f mk ts)(hv:(v:Int)<V)(hl:(l:Int)<lv V)(hh:f (hC V S T v l)=0)(hb:hasB (mk (ndA V v l)) 0=true)(hm:m<=99900000):
 Calls Tryz.prog 90 #[vA V S T p,vLs v l] w (Dta V S T p gb cap (m+9+7*nN V S) f (Q9 mk (ndA V v l) 0 false) ts (.tuple #[]) w):=by
 have H:=q9 (AY.new A v l);have HR:=q9 A.hR;have hE:=(Qbd A.hR hv hl).1;have hn:=(Qbd A.hR hv hl).2.2;have HH:=q9 hh;have HZ:Hid (nxA V S T v l 0=hC V S T v l):=q9 (if_pos rfl);clear A hh;generalize ndA V v l=k at hE hn hb |-;have HE:=q9 hE;have HN:=q9 hn;have HB:=q9 hb;clear hE hn hb
 go_enter Tryz.func90,Tryz.ntmps90
 go_wp2_with fail
 generalize ((w.alloc (I7 V S T p)).alloc (.cells #[I (v:Int),I (l:Int)] 137))=w1 at H |-;generalize hB:w.heap.size=B at H |-;refine(QaY V S T (l:Int) (v:Int) HR _).mono ?_;rintro e w2 ⟨rfl,hb2⟩;rw[HE.out];have H2:=q9 (H.below hb2);clear H hb2;obtain⟨c0,c1,c2,c3,c4,c5,c6,c7,c8,c9⟩:=H2.x.e.cells;have blt:=H2.x.e.lt;obtain⟨d0,d1⟩:=H2.l.cells;have dlt:=H2.l.lt;go_wp2_with fail
 refine(Qr (x:=0) H2.x.m hv hl (by have:=HR.s1;omega) (by omega) rfl).mono ?_;rintro e w3 ⟨rfl,A3,O3⟩;rw[HZ.out,HH.out]
 have H3:=q9 (H2.next A3 O3);clear H2 A3 O3 c0 c1 c2 c3 c4 c5 c6 c7 c8 c9 blt d0 d1 dlt;obtain⟨c0,c1,c2,c3,c4,c5,c6,c7,c8,c9⟩:=H3.x.e.cells;have blt:=H3.x.e.lt;go_wp2_with fail
 refine(Qbk (x:=k) H3.x.m (by have:=HN.out;omega) HN.2 (k:=0) (by decide) (by omega) rfl rfl).mono ?_;rintro e w4 ⟨rfl,A4,O4⟩;rw[HB.out]
 have H4:=q9 (H3.next A4 O4);clear H3 A4 O4 c0 c1 c2 c3 c4 c5 c6 c7 c8 c9 blt;obtain⟨c0,c1,c2,c3,c4,c5,c6,c7,c8,c9⟩:=H4.x.e.cells;have blt:=H4.x.e.lt;go_wp2_with fail
 refine(Qdx (x:=k) H4.x.m (by have:=HN.out;omega) HN.2 (by decide) (by omega) rfl rfl).mono ?_;rintro e w5 ⟨rfl,A5,O5⟩
 have H5:=q9 (H4.next A5 O5);clear A5 O5 c0 c1 c2 c3 c4 c5 c6 c7 c8 c9 blt;go_wp2_with fail
 go_end0
 exact⟨rfl,H5.x.m.more (by omega),H5.x.o⟩
theorem QlT (A:TA w V S T p gb cap m f mk ts)(hv:(v:Int)<V)(hl:(l:Int)<lv V)(hh:f (hC V S T v l)=0)(hb:hasB (mk (ndA V v l)) 0=false)(hm:m<=99900000):
 Calls Tryz.prog 90 #[vA V S T p,vLs v l] w (Dta V S T p gb cap (m+9+7*nN V S) f mk ts (.tuple #[]) w):=by
 have H:=q9 (AY.new A v l);have HR:=q9 A.hR;have hE:=(Qbd A.hR hv hl).1;have hn:=(Qbd A.hR hv hl).2.2;have HH:=q9 hh;have HZ:Hid (nxA V S T v l 0=hC V S T v l):=q9 (if_pos rfl);clear A hh;generalize ndA V v l=k at hE hn hb |-;have HE:=q9 hE;have HN:=q9 hn;have HB:=q9 hb;clear hE hn hb
 go_enter Tryz.func90,Tryz.ntmps90
 go_wp2_with fail
 generalize ((w.alloc (I7 V S T p)).alloc (.cells #[I (v:Int),I (l:Int)] 137))=w1 at H |-;generalize hB:w.heap.size=B at H |-;refine(QaY V S T (l:Int) (v:Int) HR _).mono ?_;rintro e w2 ⟨rfl,hb2⟩;rw[HE.out];have H2:=q9 (H.below hb2);clear H hb2;obtain⟨c0,c1,c2,c3,c4,c5,c6,c7,c8,c9⟩:=H2.x.e.cells;have blt:=H2.x.e.lt;obtain⟨d0,d1⟩:=H2.l.cells;have dlt:=H2.l.lt;go_wp2_with fail
 refine(Qr (x:=0) H2.x.m hv hl (by have:=HR.s1;omega) (by omega) rfl).mono ?_;rintro e w3 ⟨rfl,A3,O3⟩;rw[HZ.out,HH.out]
 have H3:=q9 (H2.next A3 O3);clear H2 A3 O3 c0 c1 c2 c3 c4 c5 c6 c7 c8 c9 blt d0 d1 dlt;obtain⟨c0,c1,c2,c3,c4,c5,c6,c7,c8,c9⟩:=H3.x.e.cells;have blt:=H3.x.e.lt;go_wp2_with fail
 refine(Qbk (x:=k) H3.x.m (by have:=HN.out;omega) HN.2 (k:=0) (by decide) (by omega) rfl rfl).mono ?_;rintro e w4 ⟨rfl,A4,O4⟩;rw[HB.out]
 have H4:=q9 (H3.next A4 O4);clear H3 A4 O4 c0 c1 c2 c3 c4 c5 c6 c7 c8 c9 blt;obtain⟨c0,c1,c2,c3,c4,c5,c6,c7,c8,c9⟩:=H4.x.e.cells;have blt:=H4.x.e.lt;go_wp2_with fail
 go_end0
 exact⟨rfl,H4.x.m.more (by omega),H4.x.o⟩
theorem QlU (A:TA w V S T p gb cap m f mk ts)(hv:(v:Int)<V)(hl:(l:Int)<lv V)(hh:f (hC V S T v l)=(h:Int))(h0:h≠0)(hb:hasB (mk (ndA V v l)) 0=false)(hm:m<=99900000):
 Calls Tryz.prog 90 #[vA V S T p,vLs v l] w (Dta V S T p gb cap (m+9+7*nN V S) f (Q9 mk (ndA V v l) 0 true) ts (.tuple #[]) w):=by
 have H:=q9 (AY.new A v l);have HR:=q9 A.hR;have hE:=(Qbd A.hR hv hl).1;have hn:=(Qbd A.hR hv hl).2.2;have HH:=q9 hh;have HZ:Hid (nxA V S T v l 0=hC V S T v l):=q9 (if_pos rfl)
 have h1:¬ (h:Int)=0:=by omega
 have h2:((h:Int) !=0)=true:=bne_iff_ne.2 h1;clear A hh;generalize ndA V v l=k at hE hn hb |-;have HE:=q9 hE;have HN:=q9 hn;have HB:=q9 hb;clear hE hn hb
 go_enter Tryz.func90,Tryz.ntmps90
 go_wp2_with fail
 generalize ((w.alloc (I7 V S T p)).alloc (.cells #[I (v:Int),I (l:Int)] 137))=w1 at H |-;generalize hB:w.heap.size=B at H |-;refine(QaY V S T (l:Int) (v:Int) HR _).mono ?_;rintro e w2 ⟨rfl,hb2⟩;rw[HE.out];have H2:=q9 (H.below hb2);clear H hb2;obtain⟨c0,c1,c2,c3,c4,c5,c6,c7,c8,c9⟩:=H2.x.e.cells;have blt:=H2.x.e.lt;obtain⟨d0,d1⟩:=H2.l.cells;have dlt:=H2.l.lt;go_wp2_with fail
 refine(Qr (x:=0) H2.x.m hv hl (by have:=HR.s1;omega) (by omega) rfl).mono ?_;rintro e w3 ⟨rfl,A3,O3⟩;rw[HZ.out,HH.out]
 have H3:=q9 (H2.next A3 O3);clear H2 A3 O3 c0 c1 c2 c3 c4 c5 c6 c7 c8 c9 blt d0 d1 dlt;obtain⟨c0,c1,c2,c3,c4,c5,c6,c7,c8,c9⟩:=H3.x.e.cells;have blt:=H3.x.e.lt;go_wp2_with fail
 refine(Qbk (x:=k) H3.x.m (by have:=HN.out;omega) HN.2 (k:=0) (by decide) (by omega) rfl rfl).mono ?_;rintro e w4 ⟨rfl,A4,O4⟩;rw[HB.out]
 have H4:=q9 (H3.next A4 O4);clear H3 A4 O4 c0 c1 c2 c3 c4 c5 c6 c7 c8 c9 blt;obtain⟨c0,c1,c2,c3,c4,c5,c6,c7,c8,c9⟩:=H4.x.e.cells;have blt:=H4.x.e.lt;go_wp2_with fail
 refine(Qdx (x:=k) H4.x.m (by have:=HN.out;omega) HN.2 (by decide) (by omega) rfl rfl).mono ?_;rintro e w5 ⟨rfl,A5,O5⟩
 have H5:=q9 (H4.next A5 O5);clear A5 O5 c0 c1 c2 c3 c4 c5 c6 c7 c8 c9 blt;go_wp2_with fail
 go_end0
 exact⟨rfl,H5.x.m.more (by omega),H5.x.o⟩
theorem QlV (A:TA w V S T p gb cap m f mk ts)(hv:(v:Int)<V)(hl:(l:Int)<lv V)(hh:f (hC V S T v l)=(h:Int))(h0:h≠0)(hb:hasB (mk (ndA V v l)) 0=true)(hm:m<=99900000):
 Calls Tryz.prog 90 #[vA V S T p,vLs v l] w (Dta V S T p gb cap (m+9+7*nN V S) f mk ts (.tuple #[]) w):=by
 have H:=q9 (AY.new A v l);have HR:=q9 A.hR;have hE:=(Qbd A.hR hv hl).1;have hn:=(Qbd A.hR hv hl).2.2;have HH:=q9 hh;have HZ:Hid (nxA V S T v l 0=hC V S T v l):=q9 (if_pos rfl)
 have h1:¬ (h:Int)=0:=by omega
 have h2:((h:Int) !=0)=true:=bne_iff_ne.2 h1;clear A hh;generalize ndA V v l=k at hE hn hb |-;have HE:=q9 hE;have HN:=q9 hn;have HB:=q9 hb;clear hE hn hb
 go_enter Tryz.func90,Tryz.ntmps90
 go_wp2_with fail
 generalize ((w.alloc (I7 V S T p)).alloc (.cells #[I (v:Int),I (l:Int)] 137))=w1 at H |-;generalize hB:w.heap.size=B at H |-;refine(QaY V S T (l:Int) (v:Int) HR _).mono ?_;rintro e w2 ⟨rfl,hb2⟩;rw[HE.out];have H2:=q9 (H.below hb2);clear H hb2;obtain⟨c0,c1,c2,c3,c4,c5,c6,c7,c8,c9⟩:=H2.x.e.cells;have blt:=H2.x.e.lt;obtain⟨d0,d1⟩:=H2.l.cells;have dlt:=H2.l.lt;go_wp2_with fail
 refine(Qr (x:=0) H2.x.m hv hl (by have:=HR.s1;omega) (by omega) rfl).mono ?_;rintro e w3 ⟨rfl,A3,O3⟩;rw[HZ.out,HH.out]
 have H3:=q9 (H2.next A3 O3);clear H2 A3 O3 c0 c1 c2 c3 c4 c5 c6 c7 c8 c9 blt d0 d1 dlt;obtain⟨c0,c1,c2,c3,c4,c5,c6,c7,c8,c9⟩:=H3.x.e.cells;have blt:=H3.x.e.lt;go_wp2_with fail
 refine(Qbk (x:=k) H3.x.m (by have:=HN.out;omega) HN.2 (k:=0) (by decide) (by omega) rfl rfl).mono ?_;rintro e w4 ⟨rfl,A4,O4⟩;rw[HB.out]
 have H4:=q9 (H3.next A4 O4);clear H3 A4 O4 c0 c1 c2 c3 c4 c5 c6 c7 c8 c9 blt;obtain⟨c0,c1,c2,c3,c4,c5,c6,c7,c8,c9⟩:=H4.x.e.cells;have blt:=H4.x.e.lt;go_wp2_with fail
 go_end0
 exact⟨rfl,H4.x.m.more (by omega),H4.x.o⟩
theorem Qdf (A:TA w V S T p gb cap m f mk ts)(hv:(v:Int)<V)(hl:(l:Int)<lv V)(hh:f (hC V S T v l)=(h:Int))(hm:m<=99900000):
 Calls Tryz.prog 90 #[vA V S T p,vLs v l] w (Dta V S T p gb cap (m+9+7*nN V S) f (mkQ mk (ndA V v l) (decide (h≠0))) ts (.tuple #[]) w):=by
 unfold mkQ
 by_cases h0:h=0
 . subst h0
   cases e:hasB (mk (ndA V v l)) 0
   . exact QlT A hv hl hh e hm
   . exact QlS A hv hl hh e hm
 . rw[decide_eq_true (p:=h≠0) h0]
   cases e:hasB (mk (ndA V v l)) 0
   . exact QlU A hv hl hh h0 e hm
   . exact QlV A hv hl hh h0 e hm
theorem Qfw (A:TA w V S T p gb cap m f mk ts)(huv:u<v)(hv:(v:Int)<V)(hs:(s:Int)<S)(hl:(l:Int)<lv V)(h1:f (sC S T s 1)=nV u v)(h2:f (sC S T s 2)=(l:Int))(hm:m<=99900000):
 Calls Tryz.prog 84 #[vA V S T p,I (s:Int)] w fun e w'=>∃ r,e=.returned (I3 (I1 r 0) 2 2)/\Blk w' r 137 #[I (u:Int),I (l:Int),I (v:Int),I (l:Int)]/\w.heap.size<=r/\TA w' V S T p gb cap (m+2) f mk ts/\Only p gb w w':=by
 have H:=q9 (AX.new A);have HR:=q9 A.hR
 have H1:Hid (QaH S T (s:Int) 1=((sC S T s 1:Nat):Int)):=q9 (Qac A.hR hs (k:=1) (by decide))
 have H2:Hid (QaH S T (s:Int) 2=((sC S T s 2:Nat):Int)):=q9 (Qac A.hR hs (k:=2) (by decide))
 have HL1:=q9 (Qf2 (V:=V) (T:=T) A.hR hs (k:=1) (by decide))
 have HL2:=q9 (Qf2 (V:=V) (T:=T) A.hR hs (k:=2) (by decide))
 have HE:=q9 (QcA A.hR (u:=u) (v:=v) (by omega) hv (by omega))
 have HD9:=q9 (QaS A.hR (v:=u) (l:=l) (by omega) hl).1
 have e0:(0:Int)<=((eC V S T u v:Nat):Int):=Int.natCast_nonneg _;have d0:(0:Int)<=((hC V S T u l:Nat):Int):=Int.natCast_nonneg _;generalize eC V S T u v=ec at HE e0;generalize hC V S T u l=hc at HD9 d0;have u0:(0:Int)<=(u:Int):=Int.natCast_nonneg _;have v0:(0:Int)<=(v:Int):=Int.natCast_nonneg _;have l0:(0:Int)<=(l:Int):=Int.natCast_nonneg _
 have u16:(u:Int)<16:=by have:=A.hR.v2;omega
 have v16:(v:Int)<16:=by have:=A.hR.v2;omega
 have l5:(l:Int)<5:=by have:=(QF V).2;omega
 have wl:IntKind.i64.wrap (l:Int)=(l:Int):=IntWalk.i64_in _ (by omega)
 obtain⟨n,hn⟩:∃ n,u*256+v=n:=⟨_,rfl⟩
 have HN:Hid (f (sC S T s 1)=((n:Nat):Int)):=q9 (by rw[h1,<-hn];rfl)
 have q1:((n:Nat):Int) / 256=(u:Int):=by omega
 have q2:bits .and .u64 ((n:Nat):Int) 255=(v:Int):=by rw[Qe1 _ (by omega) (by omega)];omega
 have HF2:=q9 h2;clear A hn h1 h2
 go_enter Tryz.func84,Tryz.ntmps84
 go_wp2_with fail
 generalize (w.alloc (I7 V S T p))=w1 at H |-;have hr9:Hid (w.heap.size<=w.heap.size):=q9 (Nat.le_refl _);generalize hB:w.heap.size=B at H hr9 |-;have HD:=q9 H.drew;have hrule:=AjB.rule B V S T p
 go_region_held3 (fun W=>AjB W B V S T p) (first|(with_reducible assumption)|(with_reducible exact H6.out.e)|(with_reducible exact H5.out.e)|(with_reducible exact H4.out.e)|(with_reducible exact H3.out.e)|(with_reducible exact HD.out.e))
  (first
   |(go_at_call 122;((with_reducible refine(QbJ V S T (s:Int) HR.out _).mono ?_);rintro e w2 ⟨rfl,hb2⟩;rw[H1.out];have H3:=q9 (HD.out.below hb2)))
   |(go_at_call 131;((with_reducible refine(QkP H3.out.m HL1.out (by omega) rfl).mono ?_);rintro e w3 ⟨rfl,A3,O3⟩;rw[HN.out];have H4:=q9 (H3.out.next A3 O3)))
   |(go_at_call 70;((with_reducible refine(Qct V S T (s:Int) HR.out _).mono ?_);rintro e w2 ⟨rfl,hb4⟩;rw[H2.out];have H5:=q9 (H4.out.below hb4)))
   |(go_at_call 131;((with_reducible refine(QkP H5.out.m HL2.out (by omega) rfl).mono ?_);rintro e w3 ⟨rfl,A5,O5⟩;rw[HF2.out];have H6:=q9 (H5.out.next A5 O5)))
   |fail)
 clear hrule A3 O3 HD H3 H4 H5 hb2 hb4 A5 O5;obtain⟨c0,c1,c2,c3,c4,c5,c6,c7,c8,c9⟩:=H6.e.cells;have blt:=H6.e.lt;go_wp2_with fail
 refine(QbL V S T (u:Int) (v:Int) HR _).mono ?_;rintro e w2 ⟨rfl,hb2⟩;rw[HE.out];have H7:=q9 (H6.below hb2);clear H6 hb2 c0 c1 c2 c3 c4 c5 c6 c7 c8 c9 blt;obtain⟨c0,c1,c2,c3,c4,c5,c6,c7,c8,c9⟩:=H7.e.cells;have blt:=H7.e.lt;go_wp2_with fail
 refine(QgN V S T (u:Int) (l:Int) HR _).mono ?_;rintro e w3 ⟨rfl,hb3⟩;rw[HD9.out];have H8:=q9 (H7.below hb3);clear H7 hb3 c0 c1 c2 c3 c4 c5 c6 c7 c8 c9 blt;go_wp2_with fail
 go_ret;refine⟨_,rfl,Blk.new _ _ _,?_,H8.m.alloc _,H8.o.alloc _⟩;have:=H8.o.size;exact this
end
def qset (q:Nat->Nat->List Nat)(v l:Nat)(L:List Nat):Nat->Nat->List Nat:=fun a b=>if a=v/\b=l then L else q a b
structure LQ (V S T:Int)(f:Nat->Int)(q:Nat->Nat->List Nat):Prop where
 ou:∀ v l:Nat,¬ ((v:Int)<V/\(l:Int)<lv V)->q v l=[]
 pt:∀ v l:Nat,(v:Int)<V->(l:Int)<lv V->f (hC V S T v l)=(((q v l).headD 0:Nat):Int)/\∃ c,Part S T f 0 ((q v l).headD 0) (q v l) c 0
 nd:∀ v l,(q v l).Nodup
 rg:∀ v l x,x∈q v l->1<=x/\(x:Int)<=2*S
 ap:∀ v l v' l' x,x∈q v l->x∈q v' l'->v=v'/\l=l'
 bd:∀ x:Nat,1<=x->(x:Int)<=2*S->∃ a b:Nat,f (pvC S T x)=(a:Int)/\(a:Int)<=2*S/\f (nxC S T x)=(b:Int)/\(b:Int)<=2*S
 dd:∀ x:Nat,1<=x->(x:Int)<=2*S->(∀ v l,x∉q v l)->∀ y:Nat,1<=y->f (pvC S T x)=(y:Int)->f (nxC S T y)≠(x:Int)
def MQ (V:Int)(mk:Nat->Nat)(q:Nat->Nat->List Nat):Prop:=∀ v l:Nat,(v:Int)<V->(l:Int)<lv V->hasB (mk (ndA V v l)) 0=decide (q v l≠[])
def Ke (V S T:Int)(f f':Nat->Int):Prop:=(∀ s k:Nat,(s:Int)<S->k<3->f' (sC S T s k)=f (sC S T s k))/\∀ u v:Nat,(u:Int)<V->(v:Int)<V->u≠v->f' (eC V S T u v)=f (eC V S T u v)
section
variable {V S T:Int}{f f' f2:Nat->Int}{q:Nat->Nat->List Nat}{mk:Nat->Nat}{x y z n p s k u v l v2 l2 a b:Nat}{L l1 l3:List Nat}{ls:List E1}
theorem QQ:qset q v l L v l=L:=if_pos ⟨rfl,rfl⟩
theorem Qaw (h:¬ (a=v/\b=l)):qset q v l L a b=q a b:=if_neg h
theorem Qap:x∈qset q v l L a b↔(a=v/\b=l/\x∈L)\/(¬ (a=v/\b=l)/\x∈q a b):=by
 unfold qset
 by_cases h:a=v/\b=l
 . rw[if_pos h];simp [h]
 . rw[if_neg h];simp only[h,not_false_eq_true,true_and]
   constructor
   . exact fun e=>.inr e
   . rintro(⟨e1,e2,_⟩|e)
     . exact absurd ⟨e1,e2⟩ h
     . exact e
theorem QlH (h:Rt V S T)(h1:1<=x)(h2:(x:Int)<=2*S)(h3:1<=y)(h4:(y:Int)<=2*S)(e:pvC S T x=pvC S T y):x=y:=by
 have:=Qck h (by omega) (by omega) (by omega) (by omega) e
 omega
theorem QlO (h:Rt V S T)(h1:1<=x)(h2:(x:Int)<=2*S)(h3:1<=y)(h4:(y:Int)<=2*S)(e:nxC S T x=nxC S T y):x=y:=by
 have:=Qck h (by omega) (by omega) (by omega) (by omega) e
 omega
theorem QmX (h:Rt V S T)(h1:1<=x)(h2:(x:Int)<=2*S)(h3:1<=y)(h4:(y:Int)<=2*S):pvC S T x≠nxC S T y:=fun e=>by
 have:=Qck h (by omega) (by omega) (by omega) (by omega) e
 omega
theorem Qnk (h:Rt V S T)(h1:(v:Int)<V)(h2:(l:Int)<lv V)(h3:(v2:Int)<V)(h4:(l2:Int)<lv V)(e:hC V S T v l=hC V S T v2 l2):v=v2/\l=l2:=by
 have a1:=(QaS h h1 h2).2.1;have a2:=(QaS h h3 h4).2.1
 have:=Qku h.v1 h.v2 (v:=v) (l:=l) (v':=v2) (l':=l2) (by omega) h2 (by omega) h4 (by omega)
 omega
theorem Qhd (h:Rt V S T)(hs:(s:Int)<S)(hk:k<7)(h1:(v:Int)<V)(h2:(l:Int)<lv V):sC S T s k≠hC V S T v l:=fun e=>by
 have a1:=(QaS h h1 h2).2;have a2:=Qav (T:=T) hs hk;have a3:=Qac h hs hk;unfold o3 at a1;omega
theorem QmY (h:Rt V S T)(h1:1<=x)(h2:(x:Int)<=2*S)(h3:(v:Int)<V)(h4:(l:Int)<lv V):pvC S T x≠hC V S T v l:=Qhd h (by omega) (by omega) h3 h4
theorem Qnc (h:Rt V S T)(h1:1<=x)(h2:(x:Int)<=2*S)(h3:(v:Int)<V)(h4:(l:Int)<lv V):nxC S T x≠hC V S T v l:=Qhd h (by omega) (by omega) h3 h4
theorem Qme (h:Rt V S T)(hu:(u:Int)<V)(hv:(v:Int)<V)(hne:u≠v)(h1:(v2:Int)<V)(h2:(l:Int)<lv V):eC V S T u v≠hC V S T v2 l:=fun e=>by
 have a1:=(QaS h h1 h2).2;have a2:=Qi6 h hu hv hne;unfold o3 at a1;unfold o4 at a2;omega
theorem Qmb (h:Rt V S T)(hu:(u:Int)<V)(hv:(v:Int)<V)(hne:u≠v)(h1:1<=x)(h2:(x:Int)<=2*S):eC V S T u v≠pvC S T x:=fun e=>QbN h (by omega) (by omega) hu hv hne e.symm
theorem Qmd (h:Rt V S T)(hu:(u:Int)<V)(hv:(v:Int)<V)(hne:u≠v)(h1:1<=x)(h2:(x:Int)<=2*S):eC V S T u v≠nxC S T x:=fun e=>QbN h (by omega) (by omega) hu hv hne e.symm
theorem s_pv (h:Rt V S T)(hs:(s:Int)<S)(hk:k<3)(h1:1<=x)(h2:(x:Int)<=2*S):sC S T s k≠pvC S T x:=fun e=>by
 have:=(Qck h hs (by omega) (by omega) (by omega) e).2
 omega
theorem s_nx (h:Rt V S T)(hs:(s:Int)<S)(hk:k<3)(h1:1<=x)(h2:(x:Int)<=2*S):sC S T s k≠nxC S T x:=fun e=>by
 have:=(Qck h hs (by omega) (by omega) (by omega) e).2
 omega
theorem Ke.trans (h:Ke V S T f f')(h2:Ke V S T f' f2):Ke V S T f f2:=⟨fun s k a b=>(h2.1 s k a b).trans (h.1 s k a b),fun u v a b c=>(h2.2 u v a b c).trans (h.2 u v a b c)⟩
theorem Ke.er (h:Ke V S T f f')(hE:ER V S T f ls):ER V S T f' ls:=by
 refine⟨hE.ok,hE.un,fun e hx=>?_,fun u v huv hv hn=>?_⟩
 . obtain⟨a,b,c,d⟩:=hE.ok e hx
   rw[h.2 e.u e.v (by omega) b (by omega),h.1 e.s 1 c (by omega),h.1 e.s 2 c (by omega)]
   exact hE.is e hx
 . rw[h.2 u v (by omega) hv (by omega)];exact hE.no u v huv hv hn
structure JF (V S T:Int)(f f':Nat->Int)(v l x y:Nat):Prop where
 h:∀ a b:Nat,(a:Int)<V->(b:Int)<lv V->f' (hC V S T a b)=if x=0/\a=v/\b=l then (y:Int) else f (hC V S T a b)
 n:∀ z:Nat,1<=z->(z:Int)<=2*S->f' (nxC S T z)=if z=x then (y:Int) else f (nxC S T z)
 p:∀ z:Nat,1<=z->(z:Int)<=2*S->f' (pvC S T z)=if z=y then (x:Int) else f (pvC S T z)
 k:Ke V S T f f'
theorem QbH (hR:Rt V S T)(hv:(v:Int)<V)(hl:(l:Int)<lv V)(hx:(x:Int)<=2*S)(hy:(y:Int)<=2*S):JF V S T f (Qcu V S T f v l x y) v l x y:=by
 have e1:∀ i,Qcu V S T f v l x y i=if y≠0/\i=pvC S T y then (x:Int) else if i=nxA V S T v l x then (y:Int) else f i:=fun i=>by
  unfold Qcu
  by_cases h:y=0
  . subst h
    rw[if_pos rfl,if_neg (by simp)]
    by_cases e:i=nxA V S T v l x
    . rw[e,QN,if_pos rfl];rfl
    . rw[Qa _ _ e,if_neg e]
  . rw[if_neg h]
    by_cases e:i=pvC S T y
    . rw[e,QN,if_pos ⟨h,rfl⟩]
    . rw[Qa _ _ e,if_neg (by rintro⟨_,c⟩;exact e c)]
      by_cases e:i=nxA V S T v l x
      . rw[e,QN,if_pos rfl]
      . rw[Qa _ _ e,if_neg e]
 have e0:x=0->nxA V S T v l x=hC V S T v l:=fun h=>if_pos h
 have e9:x≠0->nxA V S T v l x=nxC S T x:=fun h=>if_neg h
 refine⟨fun a b ha hb=>?_,fun z h1 h2=>?_,fun z h1 h2=>?_,fun s k hs hk=>?_,fun u v3 hu hv3 hne=>?_⟩
 . rw[e1,if_neg (by rintro⟨c1,c2⟩;exact QmY hR (by omega) hy ha hb c2.symm)]
   by_cases h:x=0
   . rw[e0 h]
     by_cases c:a=v/\b=l
     . obtain⟨rfl,rfl⟩:=c
       rw[if_pos rfl,if_pos ⟨h,rfl,rfl⟩]
     . rw[if_neg fun e=>c (Qnk hR ha hb hv hl e),if_neg fun e=>c e.2]
   . rw[e9 h,if_neg fun e=>Qnc hR (by omega) hx ha hb e.symm,if_neg fun e=>h e.1]
 . rw[e1,if_neg (by rintro⟨c1,c2⟩;exact QmX hR (by omega) hy h1 h2 c2.symm)]
   by_cases h:x=0
   . rw[e0 h,if_neg (Qnc hR h1 h2 hv hl),if_neg (by omega)]
   . rw[e9 h]
     by_cases c:z=x
     . rw[c,if_pos rfl,if_pos rfl]
     . rw[if_neg fun e=>c (QlO hR h1 h2 (by omega) hx e),if_neg c]
 . rw[e1]
   by_cases c:z=y
   . rw[if_pos ⟨by omega,by rw[c]⟩,if_pos c]
   . rw[if_neg (by rintro⟨c1,c2⟩;exact c (QlH hR h1 h2 (by omega) hy c2)),if_neg c]
     by_cases h:x=0
     . rw[e0 h,if_neg (QmY hR h1 h2 hv hl)]
     . rw[e9 h,if_neg (QmX hR h1 h2 (by omega) hx)]
 . rw[e1,if_neg (by rintro⟨c1,c2⟩;exact s_pv hR hs hk (by omega) hy c2)]
   by_cases h:x=0
   . rw[e0 h,if_neg (Qhd hR hs (by omega) hv hl)]
   . rw[e9 h,if_neg (s_nx hR hs hk (by omega) hx)]
 . rw[e1,if_neg (by rintro⟨c1,c2⟩;exact Qmb hR hu hv3 hne (by omega) hy c2)]
   by_cases h:x=0
   . rw[e0 h,if_neg (Qme hR hu hv3 hne hv hl)]
   . rw[e9 h,if_neg (Qmd hR hu hv3 hne (by omega) hx)]
theorem Qah {L:List Nat}(h:L.headD 0≠0):L.headD 0∈L:=by
 cases L with
 |nil=>exact absurd rfl h
 |cons a L=>simp
theorem LQ.head_le (h:LQ V S T f q)(hS:0<=S):(((q v l).headD 0:Nat):Int)<=2*S:=by
 by_cases e:(q v l).headD 0=0
 . rw[e];omega
 . exact(h.rg v l _ (Qah e)).2
theorem LQ.head_zero (h:LQ V S T f q):(q v l).headD 0=0↔q v l=[]:=by
 constructor
 . intro e
   cases hq:q v l with
   |nil=>rfl
   |cons a L=>
    rw[hq] at e
    have:=(h.rg v l a (by rw[hq];simp)).1
    simp at e;omega
 . intro e;rw[e];rfl
theorem LQ.add (h:LQ V S T f q)(hR:Rt V S T)(hv:(v:Int)<V)(hl:(l:Int)<lv V)(h1:1<=x)(h2:(x:Int)<=2*S)(hd:∀ a b,x∉q a b)(J1:JF V S T f f' v l 0 x)(J2:JF V S T f' f2 v l x ((q v l).headD 0)):
 LQ V S T f2 (qset q v l (x :: q v l))/\Ke V S T f f2:=by
 obtain⟨n,hn⟩:∃ n,(q v l).headD 0=n:=⟨_,rfl⟩;rw[hn] at J2
 have nx:n≠x:=fun e=>hd v l (by rw[<-e,<-hn];exact Qah (by omega))
 have nm:∀ a b z,z∈q a b->z=n->a=v/\b=l:=fun a b z hz e=>h.ap a b v l z hz (by rw[e,<-hn];exact Qah (by rw[hn,<-e];have:=(h.rg a b z hz).1;omega))
 have eh:∀ a b:Nat,(a:Int)<V->(b:Int)<lv V->f2 (hC V S T a b)=if a=v/\b=l then (x:Int) else f (hC V S T a b):=fun a b ha hb=>by
  rw[J2.h a b ha hb,if_neg (by omega),J1.h a b ha hb]
  by_cases c:a=v/\b=l
  . rw[if_pos ⟨rfl,c⟩,if_pos c]
  . rw[if_neg fun e=>c e.2,if_neg c]
 have en:∀ z:Nat,1<=z->(z:Int)<=2*S->f2 (nxC S T z)=if z=x then (n:Int) else f (nxC S T z):=fun z z1 z2=>by
  rw[J2.n z z1 z2,J1.n z z1 z2,if_neg (show ¬ z=0 by omega)]
 have ep:∀ z:Nat,1<=z->(z:Int)<=2*S->f2 (pvC S T z)=if z=n then (x:Int) else if z=x then 0 else f (pvC S T z):=fun z z1 z2=>by
  rw[J2.p z z1 z2,J1.p z z1 z2];rfl
 refine⟨⟨fun a b hab=>?_,fun a b ha hb=>?_,fun a b=>?_,fun a b z hz=>?_,fun a b a' b' z hz hz'=>?_,fun z z1 z2=>?_,fun z z1 z2 hz y y1 hy=>?_⟩,J1.k.trans J2.k⟩
 . rw[Qaw (by rintro⟨rfl,rfl⟩;exact hab ⟨hv,hl⟩)];exact h.ou a b hab
 . by_cases c:a=v/\b=l
   . obtain⟨rfl,rfl⟩:=c
     obtain⟨g1,c9,g2⟩:=h.pt a b ha hb;rw[QQ]
     refine⟨by rw[eh a b ha hb,if_pos ⟨rfl,rfl⟩];rfl,?_⟩
     rw[hn] at g2
     refine Part.front (z:=x) g2 (h.nd a b) (by omega) ?_ ?_ (fun hn0=>?_) (fun y hy=>?_) (fun y hy hyn=>?_)
     . rw[ep x h1 h2,if_neg (Ne.symm nx),if_pos rfl]
     . rw[en x h1 h2,if_pos rfl]
     . have hm:n∈q a b:=by rw[<-hn];exact Qah (by rw[hn];exact hn0)
       obtain⟨r1,r2⟩:=h.rg a b n hm;rw[ep n r1 r2,if_pos rfl]
     . obtain⟨r1,r2⟩:=h.rg a b y hy
       rw[en y r1 r2,if_neg fun e=>hd a b (by rw[<-e];exact hy)]
     . obtain⟨r1,r2⟩:=h.rg a b y hy
       rw[ep y r1 r2,if_neg hyn,if_neg fun e=>hd a b (by rw[<-e];exact hy)]
   . rw[Qaw c,eh a b ha hb,if_neg c]
     obtain⟨g1,c9,g2⟩:=h.pt a b ha hb
     refine⟨g1,c9,g2.cong fun z hz=>?_⟩
     obtain⟨r1,r2⟩:=h.rg a b z hz
     exact⟨by rw[ep z r1 r2,if_neg fun e=>c (nm a b z hz e),if_neg fun e=>hd a b (by rw[<-e];exact hz)],by rw[en z r1 r2,if_neg fun e=>hd a b (by rw[<-e];exact hz)]⟩
 . by_cases c:a=v/\b=l
   . obtain⟨rfl,rfl⟩:=c
     rw[QQ];exact List.nodup_cons.2 ⟨hd a b,h.nd a b⟩
   . rw[Qaw c];exact h.nd a b
 . rcases Qap.1 hz with ⟨_,_,hz⟩|⟨_,hz⟩
   . rcases List.mem_cons.1 hz with rfl|hz
     . exact⟨h1,h2⟩
     . exact h.rg v l z hz
   . exact h.rg a b z hz
 . rcases Qap.1 hz with ⟨e1,e2,hz⟩|⟨c,hz⟩<;>rcases Qap.1 hz' with ⟨e3,e4,hz'⟩|⟨c',hz'⟩
   . omega
   . rcases List.mem_cons.1 hz with e|hz
     . exact absurd (by rw[<-e];exact hz') (hd a' b')
     . have:=h.ap v l a' b' z hz hz';omega
   . rcases List.mem_cons.1 hz' with e|hz'
     . exact absurd (by rw[<-e];exact hz) (hd a b)
     . have:=h.ap a b v l z hz hz';omega
   . exact h.ap a b a' b' z hz hz'
 . obtain⟨a,b,g1,g2,g3,g4⟩:=h.bd z z1 z2
   have hn2:(n:Int)<=2*S:=by rw[<-hn];exact h.head_le hR.s1
   rw[ep z z1 z2,en z z1 z2]
   have A:∃ a':Nat,(if z=n then (x:Int) else if z=x then 0 else f (pvC S T z))=(a':Int)/\(a':Int)<=2*S:=by
    by_cases c:z=n
    . exact⟨x,if_pos c,h2⟩
    . rw[if_neg c]
      by_cases c2:z=x
      . exact⟨0,if_pos c2,by have:=hR.s1;omega⟩
      . exact⟨a,by rw[if_neg c2];exact g1,g2⟩
   have B:∃ b':Nat,(if z=x then (n:Int) else f (nxC S T z))=(b':Int)/\(b':Int)<=2*S:=by
    by_cases c2:z=x
    . exact⟨n,if_pos c2,hn2⟩
    . exact⟨b,by rw[if_neg c2];exact g3,g4⟩
   obtain⟨a',A1,A2⟩:=A;obtain⟨b',B1,B2⟩:=B;exact⟨a',b',A1,A2,B1,B2⟩
 . have zx:z≠x:=fun e=>hz v l (by rw[QQ,e];simp)
   have zo:∀ a b,z∉q a b:=fun a b hm=>by
    by_cases c:a=v/\b=l
    . obtain⟨rfl,rfl⟩:=c;exact hz a b (by rw[QQ];simp [hm])
    . exact hz a b (by rw[Qaw c];exact hm)
   have zn:z≠n:=fun e=>zo v l (by rw[e,<-hn];exact Qah (by rw[hn];omega))
   rw[ep z z1 z2,if_neg zn,if_neg zx] at hy
   have y2:(y:Int)<=2*S:=by
    obtain⟨a,b,g1,g2,_⟩:=h.bd z z1 z2;omega
   rw[en y y1 y2]
   by_cases c:y=x
   . rw[if_pos c];omega
   . rw[if_neg c];exact h.dd z z1 z2 zo y y1 hy
theorem Part.lastnx {b y:Nat}:∀ {l:List Nat} {a x:Nat},Part S T f a x l b y->l≠[]->f (nxC S T b)=(y:Int)
 |[],_,_,_,h=>absurd rfl h
 |z :: l,a,x,⟨_,_,_,n,h4,h5⟩,_=>by
  by_cases e:l=[]
  . subst e
    obtain⟨rfl,rfl⟩:=h5;exact h4
  . exact h5.lastnx e
theorem LQ.live (h:LQ V S T f q)(hv:(v:Int)<V)(hl:(l:Int)<lv V)(hq:q v l=l1++x :: l3):
 f (pvC S T x)=((l1.getLast?.getD 0:Nat):Int)/\f (nxC S T x)=((l3.headD 0:Nat):Int)/\f (nxA V S T v l (l1.getLast?.getD 0))=(x:Int):=by
 obtain⟨g1,c9,g2⟩:=h.pt v l hv hl;rw[hq] at g1 g2;obtain⟨b,y,k1,k2⟩:=g2.split;have hb:=Part.last k1;obtain⟨rfl,k3,k4,m,k5,k6⟩:=k2;have e:m=l3.headD 0:=Part.head' k6
 refine⟨by rw[<-hb];exact k4,by rw[<-e];exact k5,?_⟩
 rw[<-hb];unfold nxA
 by_cases c:b=0
 . rw[if_pos c]
   cases l1 with
   |nil=>rw[g1];rfl
   |cons a l1=>
    exfalso
    have hm:b∈q v l:=by
     rw[hb,hq]
     have:(a :: l1).getLast?.getD 0∈a :: l1:=by
      rw[List.getLast?_eq_some_getLast (by simp)];exact List.getLast_mem _
     exact List.mem_append_left _ this
    have:=(h.rg v l b hm).1;omega
 . rw[if_neg c]
   exact Part.lastnx k1 fun e=>by subst e;exact c k1.1.symm
end
section
variable {V S T:Int}{f f' f2:Nat->Int}{q:Nat->Nat->List Nat}{mk:Nat->Nat}{x y z n p s k u v l v2 l2 a b:Nat}{L l1 l3:List Nat}{ls bs:List E1}{on:Bool}
theorem Qdg {L:List Nat}(h:L.getLast?.getD 0≠0):L.getLast?.getD 0∈L:=by
 by_cases e:L=[]
 . subst e;exact absurd rfl h
 . rw[List.getLast?_eq_some_getLast e];exact List.getLast_mem e
theorem LQ.rem (h:LQ V S T f q)(hR:Rt V S T)(hv:(v:Int)<V)(hl:(l:Int)<lv V)(hq:q v l=l1++x :: l3)(J:JF V S T f f2 v l (l1.getLast?.getD 0) (l3.headD 0)):
 LQ V S T f2 (qset q v l (l1++l3)):=by
 obtain⟨i1,i2,_⟩:=h.live hv hl hq;obtain⟨n,hn⟩:∃ n,l3.headD 0=n:=⟨_,rfl⟩;obtain⟨p,hp⟩:∃ p,l1.getLast?.getD 0=p:=⟨_,rfl⟩;rw[hn] at J i2;rw[hp] at J i1;have hnd:=h.nd v l;rw[hq] at hnd;obtain⟨d1,d2,d3⟩:=List.nodup_append.1 hnd;obtain⟨d4,d5⟩:=List.nodup_cons.1 d2
 have hxm:x∈q v l:=by rw[hq];simp
 obtain⟨x1,x2⟩:=h.rg v l x hxm
 have nm3:n≠0->n∈l3:=fun e=>by rw[<-hn];exact Qah (by rw[hn];exact e)
 have pm1:p≠0->p∈l1:=fun e=>by rw[<-hp];exact Qdg (by rw[hp];exact e)
 have m1:∀ z,z∈l1->z∈q v l:=fun z hz=>by rw[hq];simp [hz]
 have m3:∀ z,z∈l3->z∈q v l:=fun z hz=>by rw[hq];simp [hz]
 have nx:n≠x:=fun e=>d4 (by rw[<-e];exact nm3 (by omega))
 have px:p≠x:=fun e=>d3 p (pm1 (by omega)) x (by simp) e
 have nq:∀ a b z,z∈q a b->z=n->a=v/\b=l:=fun a b z hz e=>h.ap a b v l z hz (by rw[e];exact m3 n (nm3 (by rw[<-e];have:=(h.rg a b z hz).1;omega)))
 have pq:∀ a b z,z∈q a b->z=p->a=v/\b=l:=fun a b z hz e=>h.ap a b v l z hz (by rw[e];exact m1 p (pm1 (by rw[<-e];have:=(h.rg a b z hz).1;omega)))
 have n1:∀ z∈l1,z≠n:=fun z hz e=>d3 z hz n (by simp [nm3 (by rw[<-e];have:=(h.rg v l z (m1 z hz)).1;omega)]) e
 have p3:∀ z∈l3,z≠p:=fun z hz e=>d3 p (pm1 (by rw[<-e];have:=(h.rg v l z (m3 z hz)).1;omega)) z (by simp [hz]) e.symm
 refine⟨fun a b hab=>?_,fun a b ha hb=>?_,fun a b=>?_,fun a b z hz=>?_,fun a b a' b' z hz hz'=>?_,fun z z1 z2=>?_,fun z z1 z2 hz y y1 hy=>?_⟩
 . rw[Qaw (by rintro⟨rfl,rfl⟩;exact hab ⟨hv,hl⟩)];exact h.ou a b hab
 . by_cases c:a=v/\b=l
   . obtain⟨rfl,rfl⟩:=c
     obtain⟨g1,c9,g2⟩:=h.pt a b ha hb;rw[QQ];have gx:f (nxC S T x)=(n:Int):=i2
     have G:=Part.out (f':=f2) (p:=p) (n:=n) (x':=(l1++l3).headD 0) (l1:=l1) (l2:=l3) (z:=x) (x:=(q a b).headD 0) (c:=c9) (by rw[hq] at g2 |-;exact g2) hnd hp.symm gx
      (fun e=>by subst e;exact hn) (fun e=>?_) (fun e=>?_) (fun y hy=>?_) (fun y hy hyp=>?_) (fun y hy=>?_) (fun y hy hyn=>?_)
     . refine⟨?_,G.2⟩
       rw[J.h a b ha hb,g1]
       by_cases c:p=0
       . rw[if_pos ⟨c,rfl,rfl⟩]
         have e:l1=[]:=by
          cases l1 with
          |nil=>rfl
          |cons y l1=>
           have hm:(y :: l1).getLast?.getD 0∈y :: l1:=by rw[List.getLast?_eq_some_getLast (by simp)];exact List.getLast_mem _
           rw[hp,c] at hm;have:=(h.rg a b 0 (m1 0 hm)).1;omega
         subst e;show _=((l3.headD 0:Nat):Int);rw[hn]
       . rw[if_neg fun e=>c e.1,hq]
         have:=pm1 c
         cases l1 with
         |nil=>cases this
         |cons y l1=>rfl
     . refine⟨?_,?_⟩
       . rw[hq]
         cases l1 with
         |nil=>exact absurd rfl e
         |cons y l1=>rfl
       . have hm:p∈l1:=by rw[<-hp,List.getLast?_eq_some_getLast e];exact List.getLast_mem e
         obtain⟨r1,r2⟩:=h.rg a b p (m1 p hm);rw[J.n p r1 r2,if_pos rfl]
     . obtain⟨r1,r2⟩:=h.rg a b n (m3 n (nm3 e))
       rw[J.p n r1 r2,if_pos rfl]
     . obtain⟨r1,r2⟩:=h.rg a b y (m1 y hy)
       rw[J.p y r1 r2,if_neg (n1 y hy)]
     . obtain⟨r1,r2⟩:=h.rg a b y (m1 y hy)
       rw[J.n y r1 r2,if_neg hyp]
     . obtain⟨r1,r2⟩:=h.rg a b y (m3 y hy)
       rw[J.n y r1 r2,if_neg (p3 y hy)]
     . obtain⟨r1,r2⟩:=h.rg a b y (m3 y hy)
       rw[J.p y r1 r2,if_neg hyn]
   . rw[Qaw c,J.h a b ha hb,if_neg fun e=>c e.2]
     obtain⟨g1,c9,g2⟩:=h.pt a b ha hb
     refine⟨g1,c9,g2.cong fun z hz=>?_⟩
     obtain⟨r1,r2⟩:=h.rg a b z hz
     exact⟨by rw[J.p z r1 r2,if_neg fun e=>c (nq a b z hz e)],by rw[J.n z r1 r2,if_neg fun e=>c (pq a b z hz e)]⟩
 . by_cases c:a=v/\b=l
   . obtain⟨rfl,rfl⟩:=c
     rw[QQ]
     exact List.nodup_append.2 ⟨d1,d5,fun y hy z hz=>d3 y hy z (by simp [hz])⟩
   . rw[Qaw c];exact h.nd a b
 . rcases Qap.1 hz with ⟨_,_,hz⟩|⟨_,hz⟩
   . rcases List.mem_append.1 hz with hz|hz
     . exact h.rg v l z (m1 z hz)
     . exact h.rg v l z (m3 z hz)
   . exact h.rg a b z hz
 . have old:∀ a b,z∈qset q v l (l1++l3) a b->z∈q a b:=fun a b hz=>by
    rcases Qap.1 hz with ⟨e1,e2,hy⟩|⟨_,hy⟩
    . rw[e1,e2]
      rcases List.mem_append.1 hy with hy|hy
      . exact m1 z hy
      . exact m3 z hy
    . exact hy
   exact h.ap a b a' b' z (old a b hz) (old a' b' hz')
 . obtain⟨a,b,g1,g2,g3,g4⟩:=h.bd z z1 z2
   have hn2:(n:Int)<=2*S:=by
    by_cases c:n=0
    . have:=hR.s1;omega
    . exact(h.rg v l n (m3 n (nm3 c))).2
   have hp2:(p:Int)<=2*S:=by
    by_cases c:p=0
    . have:=hR.s1;omega
    . exact(h.rg v l p (m1 p (pm1 c))).2
   rw[J.p z z1 z2,J.n z z1 z2]
   have A:∃ a':Nat,(if z=n then (p:Int) else f (pvC S T z))=(a':Int)/\(a':Int)<=2*S:=by
    by_cases c:z=n
    . exact⟨p,if_pos c,hp2⟩
    . exact⟨a,by rw[if_neg c];exact g1,g2⟩
   have B:∃ b':Nat,(if z=p then (n:Int) else f (nxC S T z))=(b':Int)/\(b':Int)<=2*S:=by
    by_cases c:z=p
    . exact⟨n,if_pos c,hn2⟩
    . exact⟨b,by rw[if_neg c];exact g3,g4⟩
   obtain⟨a',A1,A2⟩:=A;obtain⟨b',B1,B2⟩:=B;exact⟨a',b',A1,A2,B1,B2⟩
 . have zn:z≠n:=fun e=>hz v l (by rw[QQ,e];simp [nm3 (by omega)])
   rw[J.p z z1 z2,if_neg zn] at hy
   have y2:(y:Int)<=2*S:=by
    obtain⟨a,b,g1,g2,_⟩:=h.bd z z1 z2;omega
   rw[J.n y y1 y2]
   by_cases c:y=p
   . rw[if_pos c];omega
   . rw[if_neg c]
     by_cases cx:z=x
     . exfalso
       rw[cx,i1] at hy;omega
     . refine h.dd z z1 z2 (fun a b hm=>?_) y y1 hy
       by_cases c2:a=v/\b=l
       . obtain⟨rfl,rfl⟩:=c2
         refine hz a b (by rw[QQ];rw[hq] at hm;simp [cx] at hm |-;exact hm)
       . exact hz a b (by rw[Qaw c2];exact hm)
theorem QgR (hnd:(l1++x :: l3).Nodup):(l1++x :: l3).erase x=l1++l3:=by
 have h1:x∉l1:=fun hx=>(List.nodup_append.1 hnd).2.2 x hx x (by simp) rfl
 rw[List.erase_append_right _ h1,List.erase_cons_head]
theorem QjR {s:Nat}(hs:s<4):hasB (setB s 0 on) 0=on:=by
 have key:∀ s<4,∀ on:Bool,hasB (setB s 0 on) 0=on:=by decide
 exact key s hs on
theorem MQ.turn (h:MQ V mk q)(hR:Rt V S T)(h4:∀ x,mk x<4)(hv:(v:Int)<V)(hl:(l:Int)<lv V){hd:Nat}(hh:hd≠0↔L≠[]):MQ V (mkQ mk (ndA V v l) (decide (hd≠0))) (qset q v l L):=by
 intro a b ha hb
 have e0:decide (hd≠0)=decide (L≠[]):=by
  by_cases c:L=[]
  . rw[decide_eq_false (p:=L≠[]) (by simp [c]),decide_eq_false fun e=>hh.1 e c]
  . rw[decide_eq_true (p:=L≠[]) c,decide_eq_true (hh.2 c)]
 rw[e0]
 by_cases c:a=v/\b=l
 . obtain⟨rfl,rfl⟩:=c
   rw[QQ];unfold mkQ
   by_cases e:hasB (mk (ndA V a b)) 0=decide (L≠[])
   . rw[if_pos e];exact e
   . rw[if_neg e]
     unfold Q9;rw[if_pos rfl];exact QjR (h4 _)
 . rw[Qaw c,<-h a b ha hb]
   unfold mkQ
   split
   . rfl
   . unfold Q9
     rw[if_neg fun e=>c (Qle hR ha hb hv hl e)]
def LK (q:Nat->Nat->List Nat)(bs:List E1):Prop:=∀ v l x,x∈q v l↔∃ e∈bs,e.l=l/\((x=2*e.s+1/\e.u=v)\/(x=2*e.s+2/\e.v=v))
def add2 (q:Nat->Nat->List Nat)(s u v l:Nat):Nat->Nat->List Nat:=qset (qset q u l ((2*s+1) :: q u l)) v l ((2*s+2) :: q v l)
def rem2 (q:Nat->Nat->List Nat)(s u v l:Nat):Nat->Nat->List Nat:=qset (qset q u l ((q u l).erase (2*s+1))) v l ((q v l).erase (2*s+2))
theorem Qkb (huv:u≠v):x∈add2 q s u v l a b↔x∈q a b\/(b=l/\((x=2*s+1/\a=u)\/(x=2*s+2/\a=v))):=by
 unfold add2;rw[Qap,Qap]
 constructor
 . rintro(⟨e1,e2,h⟩|⟨_,⟨e1,e2,h⟩|⟨_,h⟩⟩)
   . rcases List.mem_cons.1 h with h|h
     . exact .inr ⟨e2,.inr ⟨h,e1⟩⟩
     . exact .inl (by rw[e1,e2];exact h)
   . rcases List.mem_cons.1 h with h|h
     . exact .inr ⟨e2,.inl ⟨h,e1⟩⟩
     . exact .inl (by rw[e1,e2];exact h)
   . exact .inl h
 . rintro(h|⟨e2,⟨h,e1⟩|⟨h,e1⟩⟩)
   . by_cases c:a=v/\b=l
     . exact .inl ⟨c.1,c.2,by rw[<-c.1,<-c.2];simp [h]⟩
     . by_cases c2:a=u/\b=l
       . exact .inr ⟨c,.inl ⟨c2.1,c2.2,by rw[<-c2.1,<-c2.2];simp [h]⟩⟩
       . exact .inr ⟨c,.inr ⟨c2,h⟩⟩
   . exact .inr ⟨by omega,.inl ⟨e1,e2,by simp [h]⟩⟩
   . exact .inl ⟨e1,e2,by simp [h]⟩
theorem QeO (hq:∀ a b,(q a b).Nodup):x∈rem2 q s u v l a b↔x∈q a b/\¬ (b=l/\((x=2*s+1/\a=u/\u≠v)\/(x=2*s+2/\a=v))):=by
 unfold rem2;rw[Qap,Qap];rw[List.Nodup.mem_erase_iff (hq v l),List.Nodup.mem_erase_iff (hq u l)]
 constructor
 . rintro(⟨e1,e2,h,h2⟩|⟨c,⟨e1,e2,h,h2⟩|⟨c2,h⟩⟩)
   . exact⟨by rw[e1,e2];exact h2,by omega⟩
   . exact⟨by rw[e1,e2];exact h2,by omega⟩
   . exact⟨h,by omega⟩
 . rintro⟨h,h2⟩
   by_cases c:a=v/\b=l
   . exact .inl ⟨c.1,c.2,by omega,by rw[<-c.1,<-c.2];exact h⟩
   . by_cases c2:a=u/\b=l
     . exact .inr ⟨c,.inl ⟨c2.1,c2.2,by omega,by rw[<-c2.1,<-c2.2];exact h⟩⟩
     . exact .inr ⟨c,.inr ⟨c2,h⟩⟩
theorem LK.add (h:LK q bs){e:E1}(huv:e.u≠e.v):LK (add2 q e.s e.u e.v e.l) (bs++[e]):=fun a b x=>by
 rw[Qkb huv,h a b x]
 constructor
 . rintro(⟨e',he,h1⟩|⟨h1,h2⟩)
   . exact⟨e',by simp [he],h1⟩
   . exact⟨e,by simp,h1.symm,by omega⟩
 . rintro⟨e',he,h1,h2⟩
   rcases List.mem_append.1 he with he|he
   . exact .inl ⟨e',he,h1,h2⟩
   . rw[List.mem_singleton.1 he] at h1 h2
     exact .inr ⟨h1.symm,by omega⟩
theorem LK.rem (h:LK q bs)(hq:∀ a b,(q a b).Nodup)(hs:bs.Pairwise fun a b=>a.s≠b.s/\¬ (a.u=b.u/\a.v=b.v)){i:Nat}{e:E1}(hi:bs[i]?=some e)(huv:e.u≠e.v):LK (rem2 q e.s e.u e.v e.l) (bs.eraseIdx i):=fun a b x=>by
 have uniq:∀ e'∈bs.eraseIdx i,e'.s≠e.s:=fun e' he=>by
  obtain⟨j,hj,ej⟩:=QaQ he
  rcases Nat.lt_or_gt_of_ne hj with c|c
  . have ⟨h1,e1⟩:=List.getElem?_eq_some_iff.1 ej
    have ⟨h2,e2⟩:=List.getElem?_eq_some_iff.1 hi;have:=(List.pairwise_iff_getElem.1 hs j i h1 h2 c).1;rw[e1,e2] at this;exact this
  . have ⟨h1,e1⟩:=List.getElem?_eq_some_iff.1 ej
    have ⟨h2,e2⟩:=List.getElem?_eq_some_iff.1 hi;have:=(List.pairwise_iff_getElem.1 hs i j h2 h1 c).1;rw[e1,e2] at this;exact this.symm
 rw[QeO hq,h a b x]
 constructor
 . rintro⟨⟨e',he,h1,h2⟩,h3⟩
   obtain⟨j,hj⟩:=List.mem_iff_getElem?.1 he
   by_cases c:j=i
   . subst c
     rw[hi] at hj;injection hj with hj;subst hj
     exact absurd ⟨h1.symm,by omega⟩ h3
   . exact⟨e',QaR hj c,h1,h2⟩
 . rintro⟨e',he,h1,h2⟩
   exact⟨⟨e',List.mem_of_mem_eraseIdx he,h1,h2⟩,by have:=uniq e' he;omega⟩
def dl (q:Nat->Nat->List Nat)(v l:Nat):List Nat:=(q v l).map fun x=>(x-1) / 2
end
end Go.Proofs.YtaooglagddphnaaGreat
