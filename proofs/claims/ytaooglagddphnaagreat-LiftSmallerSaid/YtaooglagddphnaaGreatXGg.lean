/- Gg -/
import Derived.Test.YtaooglagddphnaaGreatXGf
import Derived.Test.YtaooglagddphnaaGreatXGc
import Derived.Test.YtaooglagddphnaaGreatXW
namespace Go.Proofs.YtaooglagddphnaaGreat
open Go.RowKit
set_option maxRecDepth 100000
section
variable {w w' w0:World}{V S T:Int}{b p gb cap m m':Nat}{f f':Nat->Int}{mk mk':Nat->Nat}{ts ts':List Tp}{t:Tp}{ls:List E1}{q:Nat->Nat->List Nat}
def Qju (w0:World)(l:List Nat)(x:Nat)(i:Value)(W:World):Prop:=W=w0/\∃ k,k<=l.length/\i=I ((k:Nat):Int)/\x∉l.take k
theorem Qgf {v:Value}{l:List Nat}{x:Nat}(h:LI w v l)(hl:l.length<=100000){xI:Int}(hxI:xI=(x:Int)):
 Calls Tryz.prog 151 #[v,I xI] w fun e w'=>∃ r:Int,e=.returned (I r)/\decide (0<=r)=decide (x∈l)/\w=w':=by
 subst hxI;obtain⟨a0,c0,rfl,_⟩:=h.shape;have H:=q9 h;obtain⟨n,hn⟩:∃ n,l.length=n:=⟨_,rfl⟩;have HN:=q9 hn;rw[hn] at H hl;rw[hn]
 have nI:(n:Int)<=100000:=by omega
 clear h hn
 have HRel:Hid (Qju w l x (I 0) w):=q9 ⟨rfl,0,Nat.zero_le _,rfl,by simp⟩
 go_enter Tryz.func151,Tryz.ntmps151
 go_wp2_with fail
 go_loopw [8] (fun i wr=>Qju w l x i wr) (fun i _=>n-(intOf i).toNat)
 case atStart=>exact HRel.out
 case round=>
  clear HRel;obtain⟨rfl,k,hk,rfl,hx⟩:=hrel;have HX:=q9 hx;rw[HN.out] at hk;clear hx
  by_cases hkn:k<n
  . obtain⟨y,hy⟩:∃ y,l[k]?=some y:=⟨_,List.getElem?_eq_getElem (by have:=HN.out;omega)⟩
    obtain⟨b1,o1,rfl,c1⟩:=H.at hy;have HY:=q9 hy
    have kI:(k:Int)<(n:Int):=by omega
    have k0:(0:Int)<=(k:Int):=by omega
    clear hy
    by_cases e:x=y
    . subst e
      have eb:((x:Int)==(x:Int))=true:=beq_self_eq_true _;have HE:Hid (x∈l):=q9 (List.mem_of_getElem? HY.out);go_wp2_with fail
      go_ret
      exact⟨_,rfl,by rw[decide_eq_true HE.out,decide_eq_true (Int.natCast_nonneg k)],rfl⟩
    . have eb:((x:Int)==(y:Int))=false:=beq_eq_false_iff_ne.2 (by omega)
      have HE:=q9 e;clear e;go_wp2_with fail
      go_roundw
      case rel=>
       refine⟨rfl,k+1,by have:=HN.out;omega,by simp,?_⟩
       rw[List.take_add_one,HY.out];intro hm
       rcases List.mem_append.1 hm with hm|hm
       . exact HX hm
       . exact HE.out (by simpa using hm)
      case measure=>simp [intOf];omega
  . have ek:k=n:=by omega
    subst ek
    have kI:¬ (k:Int)<(k:Int):=by omega
    clear hk hkn;go_wp2_with fail
    go_ret
    have hx9:x∉l:=by have:=HX.out;rw[<-HN.out,List.take_length] at this;exact this
    exact⟨_,rfl,by simp [hx9],rfl⟩
theorem Qd6 {v:Value}{l:List Nat}{x:Nat}(h:LI w v l)(hl:l.length<=100000){xI:Int}(hxI:xI=(x:Int)):
 Calls Tryz.prog 125 #[v,I xI] w fun e w'=>e=.returned (.bool (decide (x∈l)))/\w=w':=by
 subst hxI;have H:=q9 h;clear h
 go_enter Tryz.func125,Tryz.ntmps125
 go_wp2_with fail
 refine(Qgf H hl rfl).mono ?_;rintro e w1 ⟨r,rfl,hr,rfl⟩;go_wp2_with fail
 go_ret;refine⟨?_,rfl⟩;rw[<-hr];rfl
theorem Qe9 (A:TA w V S T p gb cap m f mk ts)(hE:ER V S T f ls){x:E1}(hx:x∈ls)(hm:m<=99900000):
 Calls Tryz.prog 48 #[vE V S T p,I (x.s:Int)] w (Dta V S T p gb cap (m+3) f mk ts (vEd x.u x.v x.l x.t) w):=by
 obtain⟨g,a,b,c⟩:=A;refine(tget a (hE.beside a.hR c) hx hm).mono ?_;rintro e w' ⟨rfl,h2,O⟩;exact⟨rfl,⟨g,h2,b,c⟩,O⟩
theorem Qlu (A:TA w V S T p gb cap m f mk ts)(hE:ER V S T f ls){x:E1}(hx:x∈ls){t2:Bool}(hm:m<=99900000):
 Calls Tryz.prog 72 #[vE V S T p,I (x.s:Int),.bool t2] w (Dta V S T p gb cap (m+4) (upd f (eC V S T x.u x.v) (eV x.s t2)) mk ts (.tuple #[]) w):=by
 obtain⟨g,a,b,c⟩:=A;refine(QnQ (t2:=t2) a (hE.beside a.hR c) hx hm).mono ?_;rintro e w' d
 exact Dur.ta (U:=fun a=>upd a (eC V S T x.u x.v) (eV x.s t2)) d b c fun a b i h=>Q2 _ _ _ h
def LtB (w:World)(b:Nat)(V S T:Int)(p:Nat):Prop:=Blk w b 51 #[I V,I S,I T,I4 p,I 1,I 0,I V,I S,I T,I4 p]
structure LX (w0 W:World)(b:Nat)(V S T:Int)(p gb cap m:Nat)(f:Nat->Int)(mk:Nat->Nat)(ts:List Tp):Prop where
 q:LtB W b V S T p
 a:TA W V S T p gb cap m f mk ts
 o:Only p gb w0 W
theorem LX.rule (b:Nat)(V S T:Int)(p:Nat):∀ W:World,LtB W b V S T p->W.cell? (I1 b 0)=some (I V)/\W.cell? (I1 b 1)=some (I S)/\W.cell? (I1 b 2)=some (I T)/\W.cell? (I1 b 3)=some (I4 p)/\W.cell? (I1 b 4)=some (I 1)/\W.cell? (I1 b 5)=some (I 0)/\W.cell? (I1 b 6)=some (I V)/\W.cell? (I1 b 7)=some (I S)/\W.cell? (I1 b 8)=some (I T)/\W.cell? (I1 b 9)=some (I4 p):=
 fun _ h=>⟨Blk.cell h 0,Blk.cell h 1,Blk.cell h 2,Blk.cell h 3,Blk.cell h 4,Blk.cell h 5,Blk.cell h 6,Blk.cell h 7,Blk.cell h 8,Blk.cell h 9⟩
theorem LX.new (h:TA w V S T p gb cap m f mk ts):LX w (w.alloc (I8 V S T p)) w.heap.size V S T p gb cap m f mk ts:=⟨Blk.new _ _ _,h.alloc _,(Only.refl _ _ _).alloc _⟩
theorem LX.lt (h:LX w0 w b V S T p gb cap m f mk ts):b<w.heap.size:=Blk.lt h.q
theorem LX.cells (h:LX w0 w b V S T p gb cap m f mk ts):w.cell? (I1 b 0)=some (I V)/\w.cell? (I1 b 1)=some (I S)/\w.cell? (I1 b 2)=some (I T)/\w.cell? (I1 b 3)=some (I4 p)/\w.cell? (I1 b 4)=some (I 1)/\w.cell? (I1 b 5)=some (I 0)/\w.cell? (I1 b 6)=some (I V)/\w.cell? (I1 b 7)=some (I S)/\w.cell? (I1 b 8)=some (I T)/\w.cell? (I1 b 9)=some (I4 p):=LX.rule b V S T p w h.q
theorem LX.below (h:LX w0 w b V S T p gb cap m f mk ts)(hb:Below w.heap.size w w'):LX w0 w' b V S T p gb cap m f mk ts:=⟨Blk.below h.q hb (Blk.lt h.q),h.a.below hb,h.o.trans (Only.of_below hb)⟩
theorem LX.drew (h:LX w0 w b V S T p gb cap m f mk ts):LX w0 w.drew b V S T p gb cap m f mk ts:=h.below (Below.refl _ _).drew
theorem LX.alloc (h:LX w0 w b V S T p gb cap m f mk ts)(o:Obj):LX w0 (w.alloc o) b V S T p gb cap m f mk ts:=h.below ((Below.refl _ _).alloc (Nat.le_refl _) o)
theorem LX.next (h:LX w0 w b V S T p gb cap m f mk ts)(hm:TA w' V S T p gb cap m' f' mk' ts')(ho:Only p gb w w'):LX w0 w' b V S T p gb cap m' f' mk' ts':=⟨Blk.ta h.q h.a ho (by decide) (by decide),hm,h.o.trans ho⟩
theorem LX.more (h:LX w0 w b V S T p gb cap m f mk ts)(hm:m<=m'):LX w0 w b V S T p gb cap m' f mk ts:=⟨h.q,h.a.more hm,h.o⟩
theorem LX.set {r:Nat}{ty:TypeId}{cs:Array Value}(h:LX w0 w b V S T p gb cap m f mk ts)(hr:Blk w r ty cs)(h0:w0.heap.size<=r)(h1:ty≠127)(h2:ty≠88)(h3:ty≠51)(j:Nat)(v:Value):LX w0 (w.setCell (I1 r j) v) b V S T p gb cap m f mk ts:=
 ⟨Blk.far (p:=(I1 r j)) h.q (Blk.ne_ h.q hr (Ne.symm h3)) v,h.a.far hr h1 h2 v,h.o.set_new h0 v⟩
theorem QiD (hR:Rt V S T){L s:Nat}(hL:(L:Int)<lv V)(hs:(s:Int)<S)(w:World){LI sI:Int}(hLI:LI=(L:Int))(hsI:sI=(s:Int)):
 Calls Tryz.prog 60 #[vA V S T p,I sI,I LI] w fun e w'=>e=.returned (I (An V S L s 0:Int))/\Below w.heap.size w w':=by
 subst hLI hsI;have H0:Hid (LtB (w.alloc (I8 V S T p)) w.heap.size V S T p/\Below w.heap.size w (w.alloc (I8 V S T p))):=q9 ⟨Blk.new _ _ _,(Below.refl _ _).alloc (Nat.le_refl _) _⟩
 go_enter Tryz.func60,Tryz.ntmps60
 go_wp2_with fail
 generalize w.alloc (I8 V S T p)=W at H0 |-;obtain⟨y0,y1,y2,y3,y4,y5,y6,y7,y8,y9⟩:=LX.rule _ V S T p _ H0.1;have hlt:=Blk.lt H0.1;go_wp2_with fail
 refine(Qjl hR hL hs (d:=0) (by decide) rfl rfl rfl _).mono ?_;rintro e w1 ⟨rfl,B1⟩
 go_wp2_with fail
 go_ret;exact⟨rfl,H0.2.trans (B1.mono (H0.2.size))⟩
theorem Qni (A:TA w V S T p gb cap m f mk ts){L v:Nat}(hL:(L:Int)<lv V)(hv:(v:Int)<V)(ht:t∈ts)(hx:Xn V L v∈t.row)(hm:m<=99970000):
 Calls Tryz.prog 44 #[vA V S T p,I (L:Int),I (v:Int)] w (Dta V S T p gb cap (m+nN V S) f mk ts (I (t.root:Int)) w):=by
 have hn:=Ql A.hR;have HP:=q9 (And.intro ht hx);have H0:=q9 (LX.new A);have HR:=q9 A.hR;clear A ht hx
 go_enter Tryz.func44,Tryz.ntmps44
 go_wp2_with fail
 generalize w.heap.size=b at H0 |-;generalize w.alloc (I8 V S T p)=W at H0 |-;obtain⟨y0,y1,y2,y3,y4,y5,y6,y7,y8,y9⟩:=H0.cells;have hlt:=H0.lt;have Hd:=q9 H0.drew;have hrule:=LX.rule b V S T p;clear H0
 go_region_held3 (fun W=>LtB W b V S T p) (first|(with_reducible assumption)|(with_reducible exact H2.out.q)|(with_reducible exact H1.out.q)|(with_reducible exact Hd.out.q))
  (first
   |(go_at_call 67;((with_reducible refine(QbU HR.out hL hv _).mono ?_);rintro e w2 ⟨rfl,B1⟩;have H1:=q9 (Hd.out.below B1)))
   |(go_at_call 95;((with_reducible refine(QbX H1.out.a HP.out.1 HP.out.2 (by omega) rfl).mono ?_);rintro e w2 ⟨rfl,A1,O1⟩;have H2:=q9 (H1.out.next A1 O1))))
 clear Hd H1 y0 y1 y2 y3 y4 y5 y6 y7 y8 y9 hlt hrule;obtain⟨y0,y1,y2,y3,y4,y5,y6,y7,y8,y9⟩:=H2.cells;have hlt:=H2.lt;go_wp2_with fail
 go_ret
 exact⟨rfl,H2.a.more (by omega),H2.o⟩
theorem QiB (A:TA w V S T p gb cap m f mk ts)(hE:ER V S T f ls){x:E1}(hx:x∈ls)(hQ:LQ V S T f q)(hlen:∀ u l:Nat,(u:Int)<V->(l:Int)<lv V->((q u l).length:Int)<=S)(hm:m<=99890000){sI:Int}(hsI:sI=(x.s:Int)):
 Calls Tryz.prog 71 #[vA V S T p,I sI] w (Dta V S T p gb cap (m+60) f mk ts (.bool (decide (x.s∈dl q x.u x.l))) w):=by
 subst hsI;have hok:=hE.ok x hx
 have hu0:(x.u:Int)<V:=by omega
 have hl0:=hok.2.2.2;have hln:=hlen x.u x.l hu0 hl0;have s48:=A.hR.s2;have HE:=q9 (And.intro hE (And.intro hx hQ));have H0:=q9 (LX.new A);clear A hE hx hQ hlen hok
 go_enter Tryz.func71,Tryz.ntmps71
 go_wp2_with fail
 generalize w.heap.size=b at H0 |-;generalize w.alloc (I8 V S T p)=W at H0 |-;obtain⟨y0,y1,y2,y3,y4,y5,y6,y7,y8,y9⟩:=H0.cells;have hlt:=H0.lt
 refine(Qe9 H0.a HE.1 HE.2.1 (by omega)).mono ?_;rintro e w1 ⟨rfl,A1,O1⟩
 have H1:=q9 (H0.next A1 O1);clear H0 A1 O1 y0 y1 y2 y3 y4 y5 y6 y7 y8 y9 hlt;obtain⟨y0,y1,y2,y3,y4,y5,y6,y7,y8,y9⟩:=H1.cells;have hlt:=H1.lt;go_wp2_with fail
 have HX:Hid (LX w (w1.alloc (.cells #[I (x.u:Int),I (x.v:Int),I (x.l:Int),.bool x.t] 99)) b V S T p gb cap (m+3) f mk ts/\Blk (w1.alloc (.cells #[I (x.u:Int),I (x.v:Int),I (x.l:Int),.bool x.t] 99)) w1.heap.size 99 #[I (x.u:Int),I (x.v:Int),I (x.l:Int),.bool x.t]):=q9 ⟨H1.alloc _,Blk.new _ _ _⟩;generalize w1.heap.size=r at HX |-;generalize w1.alloc (.cells #[I (x.u:Int),I (x.v:Int),I (x.l:Int),.bool x.t] 99)=W1 at HX |-;clear H1 y0 y1 y2 y3 y4 y5 y6 y7 y8 y9 hlt
 refine(Qhs HX.1.a HE.2.2 hln hu0 hl0 (by omega) rfl rfl).mono ?_;rintro e w2 ⟨vs,rfl,L2,N2,A2,O2⟩
 have H2:=q9 (HX.1.next A2 O2);have HL:=q9 L2
 have ll:(dl q x.u x.l).length<=100000:=by unfold dl;rw[List.length_map];omega
 have hlen9:(q x.u x.l).length<=48:=by omega
 clear HX L2 N2 A2 O2 hln;go_wp2_with fail
 refine(Qd6 HL ll rfl).mono ?_;rintro e w3 ⟨rfl,rfl⟩;go_wp2_with fail
 go_ret
 exact⟨rfl,H2.a.more (by omega),H2.o⟩
end
def gset (gr:Nat->List (Option (Nat × Nat)))(L:Nat)(x:List (Option (Nat × Nat))):Nat->List (Option (Nat × Nat)):=fun y=>if y=L then x else gr y
def Lvs (V S:Int)(ts:List Tp)(gr:Nat->List (Option (Nat × Nat))):Prop:=∀ L:Nat,(L:Int)<lv V->∃ rows,Lv V S L ts rows (gr L)
def Jn (gr:List (Option (Nat × Nat)))(u v:Nat):Prop:=∃ E,Lnk gr E/\Way E u v
def Kt (V:Int)(L:Nat)(ts ts':List Tp):Prop:=∀ z∈ts,(∃ y∈z.row,lvN V y≠(L:Int))->z∈ts'
def QbS (mk:Nat->Nat)(V S:Int)(L s:Nat):Nat->Nat:=Qbg (Qbg mk (An V S L s 0)) (An V S L s 1)
section
variable {w w' w0:World}{V S T:Int}{L L' s u v p gb cap m:Nat}{f:Nat->Int}{mk:Nat->Nat}{ts ts':List Tp}{gr gr':Nat->List (Option (Nat × Nat))}{g:List (Option (Nat × Nat))}
theorem Lnk.same {E F:List (Nat × Nat × Nat)}(h:Lnk g E)(h2:Lnk g F)(hw:Way E u v):Way F u v:=hw.mono fun⟨s,a,b⟩ he=>(h2 s a b).2 ((h s a b).1 he)
theorem Jn.way {E:List (Nat × Nat × Nat)}(h:Lnk g E):Jn g u v↔Way E u v:=⟨fun⟨_,h1,h2⟩=>h1.same h h2,fun h2=>⟨E,h,h2⟩⟩
theorem Lvs.fn (h:Lvs V S ts gr):∃ rs:Nat->List (List Nat),∀ L,L<(lv V).toNat->Lv V S L ts (rs L) (gr L):=by
 classical
 refine⟨fun L=>if h':(L:Int)<lv V then Classical.choose (h L h') else [],fun L hL=>?_⟩
 have h':(L:Int)<lv V:=by omega
 show Lv V S L ts (if h':(L:Int)<lv V then Classical.choose (h L h') else []) (gr L)
 rw[dif_pos h'];exact Classical.choose_spec (h L h')
theorem Qft (V:Int):(((lv V).toNat:Nat):Int)=lv V:=by have:=(QF V).1;omega
theorem Lvs.cong (h:Lvs V S ts gr)(e:∀ L:Nat,(L:Int)<lv V->gr L=gr' L):Lvs V S ts gr':=fun L hL=>by rw[<-e L hL];exact h L hL
theorem Lvs.len (h:Lvs V S ts gr)(hL:(L:Int)<lv V):(gr L).length=S.toNat:=by obtain⟨_,h⟩:=h L hL;exact h.len
theorem Lv.jn {rows:List (List Nat)}{r:List Nat}(h:Lv V S L ts rows g)(hR:Rt V S T)(hL:(L:Int)<lv V)(hF:FJ V S mk ts)(hr:r∈rows)(hu:Xn V L u∈r):Jn g u v↔Xn V L v∈r:=by
 obtain⟨_,hF⟩:=hF;obtain⟨E,hE,_,hj⟩:=h.joined hR hL hF;rw[Jn.way hE];exact hj r hr u v hu
theorem Lvs.row (h:Lvs V S ts gr)(hR:Rt V S T)(hL:(L:Int)<lv V)(hF:FJ V S mk ts)(hu:(u:Int)<V):∃ t∈ts,Xn V L u∈t.row/\∀ v:Nat,(Jn (gr L) u v↔Xn V L v∈t.row):=by
 obtain⟨rows,hV⟩:=h L hL;obtain⟨r,hr,hx⟩:=hV.cov u hu;obtain⟨t,ht,e⟩:=hV.has r hr
 exact⟨t,ht,by rw[e];exact hx,fun v=>by rw[e];exact hV.jn hR hL hF hr hx⟩
theorem Lvs.slot (h:Lvs V S ts gr)(hL:(L:Int)<lv V)(hs:(s:Int)<S):(gr L)[s]?=some none\/∃ a b,(gr L)[s]?=some (some (a,b)):=by
 have h1:s<(gr L).length:=by rw[h.len hL];omega
 have h2:=List.getElem?_eq_getElem h1
 cases h3:(gr L)[s] with
 |none=>exact .inl (by rw[h2,h3])
 |some x=>exact .inr ⟨x.1,x.2,by rw[h2,h3]⟩
theorem QhW (A:TA w V S T p gb cap m f mk ts)(h:Lvs V S ts gr)(hL:(L:Int)<lv V)(hu:(u:Int)<V)(hv:(v:Int)<V)(hs:(s:Int)<S)(hg:(gr L)[s]?=some none)(hJ:¬ Jn (gr L) u v)(hm:m<=99800000):
 Calls Tryz.prog 62 #[vTr V S T p,I (L:Int),I (s:Int),I (u:Int),I (v:Int)] w fun e w'=>∃ r ts',e=.returned (I ((r:Nat):Int))/\r≠0/\TA w' V S T p gb cap (m+100*nN V S+30) f mk ts'/\Lvs V S ts' (gset gr L ((gr L).set s (some (u,v))))/\Kt V L ts ts'/\Only p gb w w':=by
 have hR:=A.hR;have hF':=A.fi;obtain⟨rs,hrs⟩:=h.fn
 have hL':L<(lv V).toNat:=by omega
 have hV:=hrs L hL';obtain⟨g,hF⟩:=A.fi;obtain⟨r1,m1,x1⟩:=hV.cov u hu;obtain⟨r2,m2,x2⟩:=hV.cov v hv
 have hne:¬ r1=r2:=fun e=>hJ ((hV.jn hR hL hF' m1 x1).2 (e ▸ x2))
 obtain⟨i,hi⟩:=List.mem_iff_getElem?.1 m1;obtain⟨k,hk⟩:=List.mem_iff_getElem?.1 m2
 have hik:i≠k:=fun e=>hne (by subst e;rw[hi] at hk;injection hk)
 obtain⟨a1,a2,rfl⟩:=List.append_of_mem x1;obtain⟨b1,b2,rfl⟩:=List.append_of_mem x2;obtain⟨t,t2,c0,c1,hP⟩:=Four.of hV hR hL hF hik hi hk hg hs;refine(QnU A hL hu hv hs hP hm).mono ?_;rintro e w' ⟨ts',t',rfl,A',ht',hr',hk',ho⟩;have hl:=Lv.all_link hrs hR (Qft V) hL' hF hik hi hk hg hs hP ht' hr' hk'
 refine⟨_,ts',rfl,(A'.fi.root_in ht').2,A',fun y hy=>⟨_,hl y (by omega)⟩,fun z hz hx=>?_,ho⟩
 obtain⟨y,hy,hne9⟩:=hx;refine hk' z hz ?_ ?_ ?_ ?_
 . rintro rfl;exact hne9 (hV.lvl hR hL hF m1 (by rw[<-hP.rt];exact hy))
 . rintro rfl;exact hne9 (hV.lvl hR hL hF m2 (by rw[<-hP.rs];exact hy))
 . rintro rfl
   rw[hP.r0,List.mem_singleton] at hy
   exact hne9 (by rw[hy];exact Qcs hR hL hs (by decide))
 . rintro rfl
   rw[hP.r1,List.mem_singleton] at hy
   exact hne9 (by rw[hy];exact Qcs hR hL hs (by decide))
theorem QmL (A:TA w V S T p gb cap m f mk ts)(h:Lvs V S ts gr)(hL:(L:Int)<lv V)(hs:(s:Int)<S)(hg:(gr L)[s]?=some (some (u,v)))(hm:m<=99800000):
 Calls Tryz.prog 64 #[vTr V S T p,I (L:Int),I (s:Int)] w fun e w'=>∃ a b ts',e=.returned (.tuple #[I a,I b])/\TA w' V S T p gb cap (m+72*nN V S+50) f (QbS mk V S L s) ts'/\Lvs V S ts' (gset gr L ((gr L).set s none))/\Only p gb w w':=by
 have hR:=A.hR;obtain⟨rs,hrs⟩:=h.fn
 have hL':L<(lv V).toNat:=by omega
 have hV:=hrs L hL';obtain⟨g,hF⟩:=A.fi;obtain⟨r,hr,c,d,pp,qq,rr,ha,er,hnd,hq0,ho0⟩:=hV.parts hR hL hF hg;obtain⟨i,hi⟩:=List.mem_iff_getElem?.1 hr;obtain⟨t,ht,et⟩:=hV.has r hr;subst er
 have hP:Qj t c d pp qq rr:=⟨et,by rw[et];exact hnd,hq0,ho0⟩
 have key:∀ {e w'},CtD V S T p gb cap (m+72*nN V S+50) f (QbS mk V S L s) ts t c d qq (pp++rr) w e w'->∃ a b ts',e=.returned (.tuple #[I a,I b])/\TA w' V S T p gb cap (m+72*nN V S+50) f (QbS mk V S L s) ts'/\Lvs V S ts' (gset gr L ((gr L).set s none))/\Only p gb w w':=by
  rintro e w' ⟨ts',ti,tu,ct,dt,rfl,A',h1,h2,h3,h4,h5,h6,h7,h8,h9,ho⟩;have hl:=Lv.all_cut hrs hR (Qft V) hL' hF hi hg ha et h1 h2 h3 h4 h5 h6 h7 h8 h9
  exact⟨_,_,ts',rfl,A',fun y hy=>⟨_,hl y (by omega)⟩,ho⟩
 rcases ha with ⟨rfl,rfl⟩|⟨rfl,rfl⟩
 . exact(QmQ A hL hs ht hP hm).mono fun e w' h=>key h
 . exact(QmP A hL hs ht hP hm).mono fun e w' h=>key h
theorem Qdu (A:TA w V S T p gb cap m f mk ts)(h:Lvs V S ts gr)(hL:(L:Int)<lv V)(hs:(s:Int)<S)(hm:m<=99970000):
 Calls Tryz.prog 24 #[vTr V S T p,I (L:Int),I (s:Int)] w fun e w'=>∃ b,e=.returned (.bool b)/\(b=true↔¬ (gr L)[s]?=some none)/\TA w' V S T p gb cap (m+2*nN V S) f mk ts/\Only p gb w w':=by
 have hR:=A.hR;obtain⟨rows,hV⟩:=h L hL;have hF:=A.fi
 rcases h.slot hL hs with hg|⟨a,b,hg⟩
 . obtain⟨t,ht,et⟩:=hV.loose s hs hg 0 (by decide)
   obtain⟨z,hz,ez⟩:=hV.loose s hs hg 1 (by decide)
   have hne:t≠z:=fun e=>by
    rw[e,ez] at et
    have:=(Qd1 hR hL hs (by decide) hs (by decide) (List.cons.inj et).1).2
    omega
   refine(Qez A hL hs ht (by rw[et];simp) hz (by rw[ez];simp) hm).mono ?_;rintro e w' ⟨rfl,A',ho⟩
   exact⟨_,rfl,by rw[hF.root_dec ht hz hne,hg];simp,A',ho⟩
 . obtain⟨r,E,hr,hT,hE⟩:=hV.edge hg
   obtain⟨t,ht,et⟩:=hV.has r hr;have:=hT.mem hE
   refine(Qez A hL hs ht (by rw[et];exact this.1) ht (by rw[et];exact this.2.1) hm).mono ?_;rintro e w' ⟨rfl,A',ho⟩
   exact⟨_,rfl,by rw[hg];simp,A',ho⟩
theorem QhV (A:TA w V S T p gb cap m f mk ts)(h:Lvs V S ts gr)(hL:(L:Int)<lv V)(hu:(u:Int)<V)(hv:(v:Int)<V)(hm:m<=99970000):
 Calls Tryz.prog 25 #[vTr V S T p,I (L:Int),I (u:Int),I (v:Int)] w fun e w'=>∃ b,e=.returned (.bool b)/\(b=true↔Jn (gr L) u v)/\TA w' V S T p gb cap (m+2*nN V S) f mk ts/\Only p gb w w':=by
 have hF:=A.fi;obtain⟨t,ht,xt,jt⟩:=h.row A.hR hL hF hu;obtain⟨z,hz,xz,_⟩:=h.row A.hR hL hF hv;refine(QnR A hL hu hv ht xt hz xz hm).mono ?_;rintro e w' ⟨rfl,A',ho⟩;refine⟨_,rfl,?_,A',ho⟩;rw[decide_eq_true_eq,jt]
 exact⟨fun e=>by rw[hF.root_eq ht hz e];exact xz,fun hx=>by rw[hF.uniq ht hz hx xz]⟩
open Classical in
noncomputable def cntJ (V:Int)(g:List (Option (Nat × Nat)))(u:Nat):Nat:=((List.range V.toNat).filter fun v=>decide (Jn g u v)).length
theorem Qgz (A:TA w V S T p gb cap m f mk ts)(h:Lvs V S ts gr)(hL:(L:Int)<lv V)(hu:(u:Int)<V)(hm:m<=99970000):
 Calls Tryz.prog 59 #[vTr V S T p,I (L:Int),I (u:Int)] w (Dta V S T p gb cap (m+nN V S+1) f mk ts (I ((cntJ V (gr L) u:Nat):Int)) w):=by
 have hR:=A.hR;have hF:=A.fi;obtain⟨rows,hV⟩:=h L hL;obtain⟨r,hr,hx⟩:=hV.cov u hu;obtain⟨t,ht,e⟩:=hV.has r hr
 have hc:cntV (vxN V) t.row=cntJ V (gr L) u:=by
  obtain⟨_,hF⟩:=A.fi;rw[e,hV.count hR hL hF hr];unfold cntJ
  congr 1
  refine List.filter_congr fun v _=>?_
  rw[decide_eq_decide];exact(hV.jn hR hL A.fi hr hx).symm
 rw[<-hc]
 exact QmR A hL hu ht (by rw[e];exact hx) hm
end
section
variable {w w' w0:World}{V S T:Int}{b p gb cap m m' L s u v:Nat}{f f':Nat->Int}{mk mk':Nat->Nat}{ts ts':List Tp}{gr:Nat->List (Option (Nat × Nat))}{ls:List E1}{q:Nat->Nat->List Nat}
theorem Qhu (A:TA w V S T p gb cap m f mk ts)(h:Lvs V S ts gr)(hL:(L:Int)<lv V)(hu:(u:Int)<V)(hv:(v:Int)<V)(hm:m<=99960000):
 Calls Tryz.prog 21 #[vA V S T p,I (L:Int),I (u:Int),I (v:Int)] w (Dta V S T p gb cap (m+2*nN V S+2) f mk ts (I (((if cntJ V (gr L) v<cntJ V (gr L) u then v else u):Nat):Int)) w):=by
 have hn:=Ql A.hR;have HP:=q9 h;have H0:=q9 (LX.new A);clear A h;obtain⟨cu,hcu⟩:∃ n,cntJ V (gr L) u=n:=⟨_,rfl⟩;obtain⟨cv,hcv⟩:∃ n,cntJ V (gr L) v=n:=⟨_,rfl⟩;have HU:=q9 hcu;have HV:=q9 hcv;rw[hcu,hcv];clear hcu hcv
 obtain⟨r9,hr9⟩:∃ r,(if cv<cu then v else u)=r:=⟨_,rfl⟩
 have HR9:=q9 hr9;rw[hr9];clear hr9
 go_enter Tryz.func21,Tryz.ntmps21
 go_wp2_with fail
 generalize w.heap.size=b at H0 |-;generalize w.alloc (I8 V S T p)=W at H0 |-;obtain⟨y0,y1,y2,y3,y4,y5,y6,y7,y8,y9⟩:=H0.cells;have hlt:=H0.lt;have Hd:=q9 H0.drew;have hrule:=LX.rule b V S T p;clear H0
 go_region_held3 (fun W=>LtB W b V S T p) (first|(with_reducible assumption)|(with_reducible exact H2.out.q)|(with_reducible exact H1.out.q)|(with_reducible exact Hd.out.q))
  (first
   |(go_at_call 59;((with_reducible refine(Qgz Hd.out.a HP.out hL hv (by omega)).mono ?_);rintro e w2 ⟨rfl,A1,O1⟩;rw[HV.out];have H1:=q9 (Hd.out.next A1 O1)))
   |(go_at_call 59;((with_reducible refine(Qgz H1.out.a HP.out hL hu (by omega)).mono ?_);rintro e w2 ⟨rfl,A1,O1⟩;rw[HU.out];have H2:=q9 (H1.out.next A1 O1))))
 clear Hd H1 y0 y1 y2 y3 y4 y5 y6 y7 y8 y9 hlt hrule;obtain⟨y0,y1,y2,y3,y4,y5,y6,y7,y8,y9⟩:=H2.cells;have hlt:=H2.lt
 by_cases hlt9:cv<cu
 . have hl9:(cv:Int)<(cu:Int):=by omega
   have e9:v=r9:=by rw[<-HR9.out,if_pos hlt9]
   have HE9:=q9 e9;clear e9;go_wp2_with fail
   go_ret
   exact⟨by rw[<-HE9.out];rfl,H2.a.more (by omega),H2.o⟩
 . have hl9:¬ (cv:Int)<(cu:Int):=by omega
   have e9:u=r9:=by rw[<-HR9.out,if_neg hlt9]
   have HE9:=q9 e9;clear e9;go_wp2_with fail
   go_ret
   exact⟨by rw[<-HE9.out];rfl,H2.a.more (by omega),H2.o⟩
def Q1 (V S:Int)(gr:Nat->List (Option (Nat × Nat)))(s:Nat)(mk:Nat->Nat):Nat->Nat->Nat
 |0=>mk
 |k+1=>if (gr k)[s]?=some none then Q1 V S gr s mk k else QbS (Q1 V S gr s mk k) V S k s
def Qaz (gr:Nat->List (Option (Nat × Nat)))(s k:Nat):Nat->List (Option (Nat × Nat)):=fun L=>if L<k then (gr L).set s none else gr L
theorem QeB {g:List (Option (Nat × Nat))}{s:Nat}(h:g[s]?=some none):g.set s none=g:=by
 refine List.ext_getElem? fun i=>?_
 rw[List.getElem?_set]
 split
 . rename_i e;subst e
   rw[if_pos (List.getElem?_eq_some_iff.1 h).1,h]
 . rfl
theorem Qgi {k:Nat}(L:Nat):gset (Qaz gr s k) k ((Qaz gr s k k).set s none) L=Qaz gr s (k+1) L:=by
 unfold gset Qaz
 by_cases e:L=k
 . subst e
   rw[if_pos rfl,if_neg (by omega),if_pos (by omega)]
 . rw[if_neg e]
   by_cases e2:L<k
   . rw[if_pos e2,if_pos (by omega)]
   . rw[if_neg e2,if_neg (by omega)]
theorem Qgj {k:Nat}(h:(gr k)[s]?=some none)(L:Nat):Qaz gr s k L=Qaz gr s (k+1) L:=by
 unfold Qaz
 by_cases e:L<k
 . rw[if_pos e,if_pos (by omega)]
 . rw[if_neg e]
   by_cases e2:L<k+1
   . rw[if_pos e2]
     have:L=k:=by omega
     subst this;exact(QeB h).symm
   . rw[if_neg e2]
def Qk0 (w0:World)(b:Nat)(V S T:Int)(p gb cap m:Nat)(f:Nat->Int)(mk:Nat->Nat)(gr:Nat->List (Option (Nat × Nat)))(s:Nat)(i:Value)(W:World):Prop:=
 ∃ (k:Nat) (ts:List Tp),(k:Int)<=lv V/\i=I ((k:Nat):Int)/\LX w0 W b V S T p gb cap (m+k*(72*nN V S+50)) f (Q1 V S gr s mk k) ts/\Lvs V S ts (Qaz gr s k)
theorem QhX (A:TA w V S T p gb cap m f mk ts)(h:Lvs V S ts gr)(hL:(L:Int)<lv V)(hs:(s:Int)<S)(hg:(gr L)[s]?=some none)(hm:m<=99800000):
 Calls Tryz.prog 64 #[vTr V S T p,I (L:Int),I (s:Int)] w (Dta V S T p gb cap (m+2*nN V S) f mk ts (.tuple #[I 0,I 0]) w):=by
 have hn:=Ql A.hR;have HP:=q9 (And.intro h hg);have H0:=q9 (TO.new A);clear A h hg
 go_enter Tryz.func64,Tryz.ntmps64
 go_wp2_with fail
 generalize w.heap.size=b at H0 |-;generalize w.alloc (I6 V S T p)=W at H0 |-;obtain⟨y0,y1,y2,y3,y4,y5⟩:=H0.cells;have hlt:=H0.lt
 refine(Qdu H0.a HP.1 hL hs (by omega)).mono ?_;rintro e w1 ⟨b9,rfl,hb9,A1,O1⟩
 have e9:b9=false:=by
  cases b9
  . rfl
  . exact absurd HP.2 (hb9.1 rfl)
 subst e9;have H1:=q9 (H0.next A1 O1);clear H0 A1 O1 y0 y1 y2 y3 y4 y5 hlt hb9;obtain⟨y0,y1,y2,y3,y4,y5⟩:=H1.cells;have hlt:=H1.lt;go_wp2_with fail
 go_ret2
 exact⟨rfl,H1.a,H1.o⟩
theorem QlZ (A:TA w V S T p gb cap m f mk ts)(h:Lvs V S ts gr)(hs:(s:Int)<S)(hm:m+5*(72*nN V S+50)<=99800000):
 Calls Tryz.prog 23 #[vA V S T p,I (s:Int)] w fun e w'=>∃ ts',e=.returned (.tuple #[])/\TA w' V S T p gb cap (m+(lv V).toNat*(72*nN V S+50)) f (Q1 V S gr s mk (lv V).toNat) ts'/\Lvs V S ts' (Qaz gr s (lv V).toNat)/\Only p gb w w':=by
 have hn:=Ql A.hR;have HP:=q9 h;have H0:=q9 (LX.new A);have HR:=q9 A.hR;have l5:=(QF V).2;have l1:=(QF V).1;clear A h;obtain⟨n,hn9⟩:∃ n:Nat,lv V=(n:Int):=⟨(lv V).toNat,(Qft V).symm⟩;have HN:=q9 hn9
 have n5:(n:Int)<=5:=by omega
 have n0:(0:Int)<=(n:Int):=by omega
 have HQ:Hid ((lv V).toNat=n):=q9 (by omega)
 have HK:Hid (∀ k:Nat,k<n->m+k*(72*nN V S+50)<=99800000):=q9 fun k hk=>by
  have:k*(72*nN V S+50)<=5*(72*nN V S+50):=Nat.mul_le_mul_right _ (by omega)
  omega
 rw[HQ.out];clear hn9 l5 l1
 go_enter Tryz.func23,Tryz.ntmps23
 go_wp2_with fail
 generalize w.heap.size=b at H0 |-;generalize w.alloc (I8 V S T p)=W at H0 |-;obtain⟨y0,y1,y2,y3,y4,y5,y6,y7,y8,y9⟩:=H0.cells;have hlt:=H0.lt;refine(QM V S T HR _).mono ?_;rintro e w1 ⟨rfl,B1⟩
 have HRel:Hid (Qk0 w b V S T p gb cap m f mk gr s (I 0) w1):=q9 ⟨0,ts,by rw[HN.out];omega,rfl,by
  have:=H0.below B1
  exact⟨this.q,by simpa [Q1] using this.a,this.o⟩,HP.cong fun L _=>by unfold Qaz;rw[if_neg (Nat.not_lt_zero _)]⟩
 clear H0 HP B1 y0 y1 y2 y3 y4 y5 y6 y7 y8 y9 hlt;rw[HN.out];clear hm;go_wp2_with fail
 go_loopw [11] (fun i wr=>Qk0 w b V S T p gb cap m f mk gr s i wr) (fun i _=>n-(intOf i).toNat)
 case atStart=>exact HRel.out
 case round=>
  clear HRel;obtain⟨k,ts1,hk,rfl,hX,hV⟩:=hrel;rw[HN.out] at hk;have HX:=q9 hX;have HV:=q9 hV;clear hX hV
  by_cases hkn:k<n
  . have kI:(k:Int)<(n:Int):=by omega
    have kL:(k:Int)<lv V:=by rw[HN.out];exact kI
    have k0:(0:Int)<=(k:Int):=by omega
    have hm9:=HK.out k hkn;obtain⟨M,hM⟩:∃ M,m+k*(72*nN V S+50)=M:=⟨_,rfl⟩
    have hM2:Hid (m+(k+1)*(72*nN V S+50)=M+72*nN V S+50):=q9 (by rw[Nat.add_mul];omega)
    rw[hM] at HX hm9;clear hM;have gk:Qaz gr s k k=gr k:=if_neg (Nat.lt_irrefl k);obtain⟨y0,y1,y2,y3,y4,y5,y6,y7,y8,y9⟩:=HX.cells;have hlt:=HX.lt
    rcases HV.slot kL hs with hg|⟨a,b9,hg⟩
    . have HG:=q9 hg
      clear hg gk;go_wp2_with fail
      refine(QhX HX.a HV kL hs HG hm9).mono ?_;rintro e w2 ⟨rfl,A2,O2⟩;have HX2:=q9 (HX.next A2 O2)
      have HRel:Hid (Qk0 w b V S T p gb cap m f mk gr s (I ((k:Int)+1)) w2):=q9 ⟨k+1,ts1,by rw[HN.out];omega,by simp,by
       have g9:(gr k)[s]?=some none:=by have:=HG.out;unfold Qaz at this;rwa [if_neg (Nat.lt_irrefl k)] at this
       rw[hM2.out]
       have:Q1 V S gr s mk (k+1)=Q1 V S gr s mk k:=by show (if _ then _ else _)=_;rw[if_pos g9]
       rw[this]
       exact HX2.more (by omega),HV.cong fun L _=>Qgj (by have:=HG.out;unfold Qaz at this;rwa [if_neg (Nat.lt_irrefl k)] at this) L⟩
      clear HX A2 O2 HX2 HV HG y0 y1 y2 y3 y4 y5 y6 y7 y8 y9 hlt;go_wp2_with fail
      go_roundw
      case rel=>exact HRel.out
      case measure=>simp [intOf];omega
    . have HG:=q9 hg
      clear hg gk;go_wp2_with fail
      refine(QmL HX.a HV kL hs HG hm9).mono ?_;rintro e w2 ⟨a1,a2,ts2,rfl,A2,V2,O2⟩;have HX2:=q9 (HX.next A2 O2)
      have HRel:Hid (Qk0 w b V S T p gb cap m f mk gr s (I ((k:Int)+1)) w2):=q9 ⟨k+1,ts2,by rw[HN.out];omega,by simp,by
       have g9:¬ (gr k)[s]?=some none:=by have:=HG.out;unfold Qaz at this;rw[if_neg (Nat.lt_irrefl k)] at this;rw[this];simp
       rw[hM2.out]
       have:Q1 V S gr s mk (k+1)=QbS (Q1 V S gr s mk k) V S k s:=by show (if _ then _ else _)=_;rw[if_neg g9]
       rw[this]
       exact HX2,V2.cong fun L _=>Qgi L⟩
      clear HX A2 O2 V2 HX2 HV HG y0 y1 y2 y3 y4 y5 y6 y7 y8 y9 hlt;go_wp2_with fail
      go_roundw
      case rel=>exact HRel.out
      case measure=>simp [intOf];omega
  . have ek:k=n:=by omega
    subst ek
    have kI:¬ (k:Int)<(k:Int):=by omega
    clear hk hkn;go_wp2_with fail
    go_end0
    exact⟨rfl,ts1,HX.a,HV,HX.o⟩
end
section
variable {w w' w0:World}{V S T:Int}{b p gb cap m m' L s u v:Nat}{f f':Nat->Int}{mk mk':Nat->Nat}{ts ts':List Tp}{gr:Nat->List (Option (Nat × Nat))}{ls:List E1}{q:Nat->Nat->List Nat}
def Kl (V S T:Int)(f f':Nat->Int):Prop:=(∀ a b:Nat,(a:Int)<V->(b:Int)<lv V->f' (hC V S T a b)=f (hC V S T a b))/\∀ z:Nat,1<=z->(z:Int)<=2*S->f' (pvC S T z)=f (pvC S T z)/\f' (nxC S T z)=f (nxC S T z)
section
variable {V S T:Int}{f f':Nat->Int}{qq:Nat->Nat->List Nat}{e:E1}
theorem LQ.turn (h:LQ V S T f qq)(hk:Kl V S T f f'):LQ V S T f' qq:=by
 refine⟨h.ou,fun v l hv hl=>?_,h.nd,h.rg,h.ap,fun x h1 h2=>?_,fun x h1 h2 hd y hy e=>?_⟩
 . obtain⟨g1,c,g2⟩:=h.pt v l hv hl
   exact⟨by rw[hk.1 v l hv hl];exact g1,c,g2.cong fun z hz=>hk.2 z (h.rg v l z hz).1 (h.rg v l z hz).2⟩
 . rw[(hk.2 x h1 h2).1,(hk.2 x h1 h2).2];exact h.bd x h1 h2
 . rw[(hk.2 x h1 h2).1] at e
   obtain⟨a,b,g1,g2,_⟩:=h.bd x h1 h2
   have hy2:(y:Int)<=2*S:=by omega
   rw[(hk.2 y hy hy2).2];exact h.dd x h1 h2 hd y hy e
theorem QlJ (hR:Rt V S T)(h1:e.u<e.v)(h2:(e.v:Int)<V)(h3:(e.s:Int)<S):Kl V S T f (putF V S T f e):=by
 unfold putF
 refine⟨fun a b ha hb=>?_,fun z z1 z2=>⟨?_,?_⟩⟩
 . rw[Qa _ _ (fun q=>Qme hR (by omega) h2 (by omega) ha hb q.symm),Qa _ _ (fun q=>Qhd hR h3 (by decide) ha hb q.symm),Qa _ _ (fun q=>Qhd hR h3 (by decide) ha hb q.symm)]
 . rw[Qa _ _ (fun q=>Qmb hR (by omega) h2 (by omega) z1 z2 q.symm),Qa _ _ (fun q=>s_pv hR h3 (by decide) z1 z2 q.symm),Qa _ _ (fun q=>s_pv hR h3 (by decide) z1 z2 q.symm)]
 . rw[Qa _ _ (fun q=>Qmd hR (by omega) h2 (by omega) z1 z2 q.symm),Qa _ _ (fun q=>s_nx hR h3 (by decide) z1 z2 q.symm),Qa _ _ (fun q=>s_nx hR h3 (by decide) z1 z2 q.symm)]
theorem Qlb (hR:Rt V S T)(h1:e.u<e.v)(h2:(e.v:Int)<V){y:Int}:Kl V S T f (upd f (eC V S T e.u e.v) y):=
 ⟨fun a b ha hb=>Qa _ _ (fun q=>Qme hR (by omega) h2 (by omega) ha hb q.symm),fun z z1 z2=>⟨Qa _ _ (fun q=>Qmb hR (by omega) h2 (by omega) z1 z2 q.symm),Qa _ _ (fun q=>Qmd hR (by omega) h2 (by omega) z1 z2 q.symm)⟩⟩
theorem Qix (hR:Rt V S T)(h3:(e.s:Int)<S){y:Int}:Kl V S T f (upd f (sC S T e.s 2) y):=
 ⟨fun a b ha hb=>Qa _ _ (fun q=>Qhd hR h3 (by decide) ha hb q.symm),fun z z1 z2=>⟨Qa _ _ (fun q=>s_pv hR h3 (by decide) z1 z2 q.symm),Qa _ _ (fun q=>s_nx hR h3 (by decide) z1 z2 q.symm)⟩⟩
end
theorem Ke.upd13 {V S T:Int}{f f':Nat->Int}(h:Ke V S T f f')(k:Nat)(y:Int):Ke V S T (upd f k y) (upd f' k y):=⟨fun a b c d=>Q2 _ _ _ (h.1 a b c d),fun a b c d e=>Q2 _ _ _ (h.2 a b c d e)⟩
theorem Qmz (hR:Rt V S T)(hL:(L:Int)<lv V)(hs:(s:Int)<S){d:Nat}(hd:d<2):An V S L s d≠0/\An V S L s d<=nN V S:=by
 rw[QcI hs hd];have:=Qa4 hR hL hs hd;omega
def XbB (w:World)(r:Nat)(x:E1):Prop:=Blk w r 99 #[I (x.u:Int),I (x.v:Int),I (x.l:Int),.bool x.t]
theorem XbB.cells {r:Nat}{x:E1}(h:XbB w r x):w.cell? (I1 r 0)=some (I (x.u:Int))/\w.cell? (I1 r 1)=some (I (x.v:Int))/\w.cell? (I1 r 2)=some (I (x.l:Int)):=⟨Blk.cell h 0,Blk.cell h 1,Blk.cell h 2⟩
structure LY (w0 W:World)(b r:Nat)(x:E1)(V S T:Int)(p gb cap m:Nat)(f:Nat->Int)(mk:Nat->Nat)(ts:List Tp):Prop where
 y:LX w0 W b V S T p gb cap m f mk ts
 r:XbB W r x
def SL2 (W:World)(b r:Nat)(x:E1)(V S T:Int)(p:Nat):Prop:=LtB W b V S T p/\XbB W r x
theorem LY.sl {r:Nat}{x:E1}(h:LY w0 w b r x V S T p gb cap m f mk ts):SL2 w b r x V S T p:=⟨h.y.q,h.r⟩
theorem SL2.rule (b r:Nat)(x:E1)(V S T:Int)(p:Nat):∀ W:World,SL2 W b r x V S T p->(W.cell? (I1 b 0)=some (I V)/\W.cell? (I1 b 1)=some (I S)/\W.cell? (I1 b 2)=some (I T)/\W.cell? (I1 b 3)=some (I4 p)/\W.cell? (I1 b 4)=some (I 1)/\W.cell? (I1 b 5)=some (I 0)/\W.cell? (I1 b 6)=some (I V)/\W.cell? (I1 b 7)=some (I S)/\W.cell? (I1 b 8)=some (I T)/\W.cell? (I1 b 9)=some (I4 p))/\W.cell? (I1 r 0)=some (I (x.u:Int))/\W.cell? (I1 r 1)=some (I (x.v:Int))/\W.cell? (I1 r 2)=some (I (x.l:Int)):=fun W h=>⟨LX.rule b V S T p W h.1,h.2.cells⟩
theorem LX.made (x:E1)(h:LX w0 w b V S T p gb cap m f mk ts):LY w0 (w.alloc (.cells #[I (x.u:Int),I (x.v:Int),I (x.l:Int),.bool x.t] 99)) b w.heap.size x V S T p gb cap m f mk ts:=⟨h.alloc _,Blk.new _ _ _⟩
theorem LY.below {r:Nat}{x:E1}(h:LY w0 w b r x V S T p gb cap m f mk ts)(hb:Below w.heap.size w w'):LY w0 w' b r x V S T p gb cap m f mk ts:=⟨h.y.below hb,Blk.below h.r hb (Blk.lt h.r)⟩
theorem LY.drew {r:Nat}{x:E1}(h:LY w0 w b r x V S T p gb cap m f mk ts):LY w0 w.drew b r x V S T p gb cap m f mk ts:=h.below (Below.refl _ _).drew
theorem LY.next {r:Nat}{x:E1}(h:LY w0 w b r x V S T p gb cap m f mk ts)(hm:TA w' V S T p gb cap m' f' mk' ts')(ho:Only p gb w w'):LY w0 w' b r x V S T p gb cap m' f' mk' ts':=⟨h.y.next hm ho,Blk.ta h.r h.y.a ho (by decide) (by decide)⟩
theorem LY.rlt {r:Nat}{x:E1}(h:LY w0 w b r x V S T p gb cap m f mk ts):r<w.heap.size:=Blk.lt h.r
def grPl (gr:Nat->List (Option (Nat × Nat)))(s u v k:Nat):Nat->List (Option (Nat × Nat)):=fun L=>if L<k then (gr L).set s (some (u,v)) else gr L
theorem QiT {k:Nat}(L:Nat):gset (grPl gr s u v k) k ((grPl gr s u v k k).set s (some (u,v))) L=grPl gr s u v (k+1) L:=by
 unfold gset grPl
 by_cases e:L=k
 . subst e
   rw[if_pos rfl,if_neg (by omega),if_pos (by omega)]
 . rw[if_neg e]
   by_cases e2:L<k
   . rw[if_pos e2,if_pos (by omega)]
   . rw[if_neg e2,if_neg (by omega)]
def Qgv (w0:World)(b r:Nat)(x:E1)(V S T:Int)(p gb cap m:Nat)(f:Nat->Int)(mk:Nat->Nat)(gr:Nat->List (Option (Nat × Nat)))(i:Value)(W:World):Prop:=
 ∃ (k:Nat) (ts:List Tp),k<=x.l+1/\i=I ((k:Nat):Int)/\LY w0 W b r x V S T p gb cap (m+k*(100*nN V S+30)) f mk ts/\Lvs V S ts (grPl gr x.s x.u x.v k)
set_option maxHeartbeats 1000000 in
theorem Qkn (A:TA w V S T p gb cap m f mk ts)(h:Lvs V S ts gr)(hE:ER V S T f ls){x:E1}(hx:x∈ls)(hQ:LQ V S T f q)(hlen:∀ u l:Nat,(u:Int)<V->(l:Int)<lv V->((q u l).length:Int)<=S)(hno:x.s∉dl q x.u x.l)
 (hg:∀ L,L<=x.l->(gr L)[x.s]?=some none/\¬ Jn (gr L) x.u x.v) (hm:m+63+5*(100*nN V S+30)<=99800000):
 Calls Tryz.prog 27 #[vA V S T p,I (x.s:Int)] w fun e w'=>∃ ts',e=.returned (.tuple #[])/\TA w' V S T p gb cap (m+63+(x.l+1)*(100*nN V S+30)+11+7*nN V S) (upd f (eC V S T x.u x.v) (eV x.s true)) (Q9 mk (An V S x.l x.s 0) 1 true) ts'/\Lvs V S ts' (grPl gr x.s x.u x.v (x.l+1))/\Only p gb w w':=by
 have hn:=Ql A.hR;have HP:=q9 h;have HG:=q9 hg;have HE:=q9 (And.intro hE (And.intro hx (And.intro hQ hlen)));have H0:=q9 (LX.new A);have HR:=q9 A.hR;have hok:=hE.ok x hx
 have HU:Hid ((x.u:Int)<V/\(x.v:Int)<V/\(x.s:Int)<S/\(x.l:Int)<lv V):=q9 ⟨by omega,hok.2.1,hok.2.2.1,hok.2.2.2⟩
 have l5:=(QF V).2
 have xl5:x.l<5:=by have:=hok.2.2.2;omega
 have HNO:Hid (decide (x.s∈dl q x.u x.l)=false):=q9 (decide_eq_false hno)
 have HK:Hid (∀ k:Nat,k<=x.l->m+63+k*(100*nN V S+30)<=99800000):=q9 fun k hk=>by
  have:k*(100*nN V S+30)<=5*(100*nN V S+30):=Nat.mul_le_mul_right _ (by omega)
  omega
 have HM9:Hid (m+63+(x.l+1)*(100*nN V S+30)<=99800000):=q9 (by
  have:(x.l+1)*(100*nN V S+30)<=5*(100*nN V S+30):=Nat.mul_le_mul_right _ (by omega)
  omega)
 clear A h hE hx hQ hlen hno hg hok l5
 go_enter Tryz.func27,Tryz.ntmps27
 go_wp2_with fail
 generalize w.heap.size=b at H0 |-;generalize w.alloc (I8 V S T p)=W at H0 |-;obtain⟨y0,y1,y2,y3,y4,y5,y6,y7,y8,y9⟩:=H0.cells;have hlt:=H0.lt
 refine(QiB H0.a HE.1 HE.2.1 HE.2.2.1 HE.2.2.2 (by omega) rfl).mono ?_;rintro e w1 ⟨rfl,A1,O1⟩;rw[HNO.out]
 have H1:=q9 (H0.next A1 O1);clear H0 A1 O1 y0 y1 y2 y3 y4 y5 y6 y7 y8 y9 hlt;obtain⟨y0,y1,y2,y3,y4,y5,y6,y7,y8,y9⟩:=H1.cells;have hlt:=H1.lt;go_wp2_with fail
 refine(Qe9 H1.a HE.1 HE.2.1 (by omega)).mono ?_;rintro e w2 ⟨rfl,A2,O2⟩
 have H2:=q9 (H1.next A2 O2);clear H1 A2 O2 y0 y1 y2 y3 y4 y5 y6 y7 y8 y9 hlt;obtain⟨y0,y1,y2,y3,y4,y5,y6,y7,y8,y9⟩:=H2.cells;have hlt:=H2.lt;have HY0:=q9 (H2.made x)
 have HRel:Hid (Qgv w b w2.heap.size x V S T p gb cap (m+63) f mk gr (I 0) (w2.alloc (.cells #[I (x.u:Int),I (x.v:Int),I (x.l:Int),.bool x.t] 99))):=q9 ⟨0,ts,by omega,rfl,by
  have:=HY0.out
  simpa using this,HP.cong fun L _=>by unfold grPl;rw[if_neg (Nat.not_lt_zero _)]⟩
 clear HY0 HP hm;go_wp2_with fail
 generalize w2.heap.size=r at HRel |-;generalize w2.alloc (.cells #[I (x.u:Int),I (x.v:Int),I (x.l:Int),.bool x.t] 99)=W9 at HRel |-;clear H2 y0 y1 y2 y3 y4 y5 y6 y7 y8 y9 hlt
 go_loopw [5] (fun i wr=>Qgv w b r x V S T p gb cap (m+63) f mk gr i wr) (fun i _=>x.l+2-(intOf i).toNat)
 case atStart=>exact HRel.out
 case round=>
  clear HRel;obtain⟨k,ts1,hk,rfl,hX,hV⟩:=hrel;have HX:=q9 hX;have HV:=q9 hV;clear hX hV
  have k0:(0:Int)<=(k:Int):=by omega
  by_cases hkn:k<=x.l
  . have kI:(k:Int)<=(x.l:Int):=by omega
    have HL:Hid ((k:Int)<lv V):=q9 (by have:=HU.2.2.2;omega)
    have hm9:=HK.out k hkn;obtain⟨M,hM⟩:∃ M,m+63+k*(100*nN V S+30)=M:=⟨_,rfl⟩
    have hM2:Hid (m+63+(k+1)*(100*nN V S+30)=M+100*nN V S+30):=q9 (by rw[Nat.add_mul];omega)
    rw[hM] at HX hm9;clear hM
    have HGK:Hid ((grPl gr x.s x.u x.v k k)[x.s]?=some none/\¬ Jn (grPl gr x.s x.u x.v k k) x.u x.v):=q9 (by
     have:grPl gr x.s x.u x.v k k=gr k:=if_neg (Nat.lt_irrefl k);rw[this];exact HG k hkn)
    obtain⟨y0,y1,y2,y3,y4,y5,y6,y7,y8,y9⟩:=HX.y.cells;have hlt:=HX.y.lt;obtain⟨x0,x1,x2⟩:=HX.r.cells;have hrl:=HX.rlt;go_wp2_with fail
    refine(QhW HX.y.a HV HL HU.1 HU.2.1 HU.2.2.1 HGK.1 HGK.2 hm9).mono ?_;rintro e w3 ⟨rt,ts2,rfl,hrt,A3,V3,_,O3⟩;have HX2:=q9 (HX.next A3 O3)
    have HRel:Hid (Qgv w b r x V S T p gb cap (m+63) f mk gr (I ((k:Int)+1)) w3):=q9 ⟨k+1,ts2,by omega,by simp,by rw[hM2.out];exact HX2,V3.cong fun L _=>QiT L⟩
    have rt0:((rt:Int)==0)=false:=beq_eq_false_iff_ne.2 (by omega)
    clear HX A3 O3 V3 HX2 HV HGK y0 y1 y2 y3 y4 y5 y6 y7 y8 y9 hlt x0 x1 x2 hrl;go_wp2_with fail
    go_roundw
    case rel=>exact HRel.out
    case measure=>simp [intOf];omega
  . have ek:k=x.l+1:=by omega
    have kI:¬ (k:Int)<=(x.l:Int):=by omega
    subst ek;have hm9:=HM9.out;obtain⟨M,hM⟩:∃ M,m+63+(x.l+1)*(100*nN V S+30)=M:=⟨_,rfl⟩;have HM:=q9 hM;rw[hM] at HX hm9;clear hM hkn hk;obtain⟨y0,y1,y2,y3,y4,y5,y6,y7,y8,y9⟩:=HX.y.cells;have hlt:=HX.y.lt;obtain⟨x0,x1,x2⟩:=HX.r.cells;have hrl:=HX.rlt;go_wp2_with fail
    refine(Qlu (t2:=true) HX.y.a HE.1 HE.2.1 (by omega)).mono ?_;rintro e w3 ⟨rfl,A3,O3⟩
    have HX3:=q9 (HX.next A3 O3);clear HX A3 O3 y0 y1 y2 y3 y4 y5 y6 y7 y8 y9 hlt x0 x1 x2 hrl;obtain⟨y0,y1,y2,y3,y4,y5,y6,y7,y8,y9⟩:=HX3.y.cells;have hlt:=HX3.y.lt;obtain⟨x0,x1,x2⟩:=HX3.r.cells;have hrl:=HX3.rlt;go_wp2_with fail
    have HAN:=q9 (Qmz HR.out HU.2.2.2 HU.2.2.1 (d:=0) (by decide))
    have Hd:=q9 HX3.drew;have hrule:=SL2.rule b r x V S T p;clear HX3
    go_region_held3 (fun W=>SL2 W b r x V S T p) (first|(with_reducible assumption)|(with_reducible exact HX5.out.sl)|(with_reducible exact HX4.out.sl)|(with_reducible exact Hd.out.sl))
     (first
      |(go_at_call 60;((with_reducible refine(QiD HR.out HU.out.2.2.2 HU.out.2.2.1 _ rfl rfl).mono ?_);rintro e w8 ⟨rfl,B1⟩;have HX4:=q9 (Hd.out.below B1)))
      |(go_at_call 63;((with_reducible refine(Qdx HX4.out.y.a (on:=true) HAN.out.1 HAN.out.2 (k:=1) (ka:=1) (by decide) (by omega) rfl rfl).mono ?_);rintro e w8 ⟨rfl,A1,O1⟩;have HX5:=q9 (HX4.out.next A1 O1))))
    clear Hd HX4 y0 y1 y2 y3 y4 y5 y6 y7 y8 y9 hlt x0 x1 x2 hrl hrule;obtain⟨y0,y1,y2,y3,y4,y5,y6,y7,y8,y9⟩:=HX5.y.cells;have hlt:=HX5.y.lt;obtain⟨x0,x1,x2⟩:=HX5.r.cells;have hrl:=HX5.rlt;go_wp2_with fail
    go_end0
    exact⟨ts1,rfl,by rw[HM.out];exact HX5.y.a.more (by omega),HV,HX5.y.o⟩
set_option maxHeartbeats 1000000 in
theorem QlY (A:TA w V S T p gb cap m f mk ts)(h:Lvs V S ts gr)(hE:ER V S T f ls){x:E1}(hx:x∈ls)(hl:((x.l+1:Nat):Int)<lv V)(hk:hasB (mk (An V S x.l x.s 0)) 1=true)
 (hg:(gr (x.l+1))[x.s]?=some none) (hJ:¬ Jn (gr (x.l+1)) x.u x.v) (hm:m<=99790000):
 Calls Tryz.prog 22 #[vA V S T p,I (x.s:Int)] w fun e w'=>∃ ts',e=.returned (.tuple #[])/\TA w' V S T p gb cap (m+114*nN V S+52) (upd f (sC S T x.s 2) ((x.l+1:Nat):Int)) (Q9 (Q9 mk (An V S x.l x.s 0) 1 false) (An V S (x.l+1) x.s 0) 1 true) ts'/\Lvs V S ts' (gset gr (x.l+1) ((gr (x.l+1)).set x.s (some (x.u,x.v))))/\Kt V (x.l+1) ts ts'/\Only p gb w w':=by
 have hn:=Ql A.hR;have HP:=q9 (And.intro h (And.intro hg hJ));have HE:=q9 (And.intro hE hx);have H0:=q9 (LX.new A);have HR:=q9 A.hR;have hok:=hE.ok x hx
 have HU:Hid ((x.u:Int)<V/\(x.v:Int)<V/\(x.s:Int)<S/\(x.l:Int)<lv V):=q9 ⟨by omega,hok.2.1,hok.2.2.1,hok.2.2.2⟩
 have l5:=(QF V).2
 have xl5:(x.l:Int)<5:=by have:=hok.2.2.2;omega
 obtain⟨l1,hl1⟩:∃ l1,x.l+1=l1:=⟨_,rfl⟩;have HL1:=q9 hl1
 have HLI:Hid (((l1:Nat):Int)<lv V):=q9 (by rw[<-hl1];exact hl)
 rw[hl1] at HP;rw[hl1];have HKB:=q9 hk;have x0l:(0:Int)<=(x.l:Int):=Int.natCast_nonneg _
 have wl:IntKind.i64.wrap ((x.l:Int)+1)=(l1:Int):=by rw[IntWalk.i64_in _ (by omega)];omega
 have HAN:=q9 (Qmz HR.out HU.2.2.2 HU.2.2.1 (d:=0) (by decide))
 have HAN1:=q9 (Qmz HR.out HLI.out HU.2.2.1 (d:=0) (by decide))
 clear A h hE hx hg hJ hok l5 hl1 hk hl
 go_enter Tryz.func22,Tryz.ntmps22
 go_wp2_with fail
 generalize w.heap.size=b at H0 |-;generalize w.alloc (I8 V S T p)=W at H0 |-;obtain⟨y0,y1,y2,y3,y4,y5,y6,y7,y8,y9⟩:=H0.cells;have hlt:=H0.lt
 refine(Qe9 H0.a HE.1 HE.2 (by omega)).mono ?_;rintro e w1 ⟨rfl,A1,O1⟩
 have H1:=q9 (H0.next A1 O1);clear H0 A1 O1 y0 y1 y2 y3 y4 y5 y6 y7 y8 y9 hlt;obtain⟨y0,y1,y2,y3,y4,y5,y6,y7,y8,y9⟩:=H1.cells;have hlt:=H1.lt;have HX0:=q9 (H1.made x);go_wp2_with fail
 generalize w1.heap.size=r at HX0 |-;generalize w1.alloc (.cells #[I (x.u:Int),I (x.v:Int),I (x.l:Int),.bool x.t] 99)=W9 at HX0 |-;clear H1 y0 y1 y2 y3 y4 y5 y6 y7 y8 y9 hlt;obtain⟨y0,y1,y2,y3,y4,y5,y6,y7,y8,y9⟩:=HX0.y.cells;have hlt:=HX0.y.lt;obtain⟨x0,x1,x2⟩:=HX0.r.cells;have hrl:=HX0.rlt;have Hd:=q9 HX0.drew;have hrule:=SL2.rule b r x V S T p;clear HX0
 go_region_held3 (fun W=>SL2 W b r x V S T p) (first|(with_reducible assumption)|(with_reducible exact HX2.out.sl)|(with_reducible exact HX1.out.sl)|(with_reducible exact Hd.out.sl))
  (first
   |(go_at_call 60;((with_reducible refine(QiD HR.out HU.out.2.2.2 HU.out.2.2.1 _ rfl rfl).mono ?_);rintro e w8 ⟨rfl,B1⟩;have HX1:=q9 (Hd.out.below B1)))
   |(go_at_call 60;((with_reducible refine(QiD HR.out HLI.out HU.out.2.2.1 _ rfl rfl).mono ?_);rintro e w8 ⟨rfl,B1⟩;have HX2:=q9 (HX1.out.below B1))))
 clear Hd HX1 y0 y1 y2 y3 y4 y5 y6 y7 y8 y9 hlt x0 x1 x2 hrl hrule;obtain⟨y0,y1,y2,y3,y4,y5,y6,y7,y8,y9⟩:=HX2.y.cells;have hlt:=HX2.y.lt;obtain⟨x0,x1,x2⟩:=HX2.r.cells;have hrl:=HX2.rlt;go_wp2_with fail
 refine(Qbk HX2.y.a HAN.1 HAN.2 (k:=1) (by decide) (by omega) rfl rfl).mono ?_;rintro e w3 ⟨rfl,A3,O3⟩;rw[HKB.out]
 have HX3:=q9 (HX2.next A3 O3);clear HX2 A3 O3 y0 y1 y2 y3 y4 y5 y6 y7 y8 y9 hlt x0 x1 x2 hrl;obtain⟨y0,y1,y2,y3,y4,y5,y6,y7,y8,y9⟩:=HX3.y.cells;have hlt:=HX3.y.lt;obtain⟨x0,x1,x2⟩:=HX3.r.cells;have hrl:=HX3.rlt;go_wp2_with fail
 refine(QhW HX3.y.a HP.1 HLI HU.1 HU.2.1 HU.2.2.1 HP.2.1 HP.2.2 (by omega)).mono ?_;rintro e w4 ⟨rt,ts2,rfl,hrt,A4,V4,K4,O4⟩
 have HX4:=q9 (HX3.next A4 O4);have HV4:=q9 V4;have HK4:=q9 K4
 have rt0:((rt:Int)==0)=false:=beq_eq_false_iff_ne.2 (by omega)
 clear HX3 A4 V4 K4 O4 y0 y1 y2 y3 y4 y5 y6 y7 y8 y9 hlt x0 x1 x2 hrl;obtain⟨y0,y1,y2,y3,y4,y5,y6,y7,y8,y9⟩:=HX4.y.cells;have hlt:=HX4.y.lt;obtain⟨x0,x1,x2⟩:=HX4.r.cells;have hrl:=HX4.rlt;go_wp2_with fail
 refine(QhZ HX4.y.a HE.1 HE.2 HLI (by omega)).mono ?_;rintro e w5 ⟨rfl,A5,O5⟩
 have HX5:=q9 (HX4.next A5 O5);clear HX4 A5 O5 y0 y1 y2 y3 y4 y5 y6 y7 y8 y9 hlt x0 x1 x2 hrl;obtain⟨y0,y1,y2,y3,y4,y5,y6,y7,y8,y9⟩:=HX5.y.cells;have hlt:=HX5.y.lt;obtain⟨x0,x1,x2⟩:=HX5.r.cells;have hrl:=HX5.rlt;go_wp2_with fail
 refine(Qdx HX5.y.a (on:=false) HAN.1 HAN.2 (k:=1) (ka:=1) (by decide) (by omega) rfl rfl).mono ?_;rintro e w6 ⟨rfl,A6,O6⟩
 have HX6:=q9 (HX5.next A6 O6);clear HX5 A6 O6 y0 y1 y2 y3 y4 y5 y6 y7 y8 y9 hlt x0 x1 x2 hrl;obtain⟨y0,y1,y2,y3,y4,y5,y6,y7,y8,y9⟩:=HX6.y.cells;have hlt:=HX6.y.lt;obtain⟨x0,x1,x2⟩:=HX6.r.cells;have hrl:=HX6.rlt;go_wp2_with fail
 refine(Qdx HX6.y.a (on:=true) HAN1.1 HAN1.2 (k:=1) (ka:=1) (by decide) (by omega) rfl rfl).mono ?_;rintro e w7 ⟨rfl,A7,O7⟩
 have HX7:=q9 (HX6.next A7 O7);clear HX6 A7 O7 y0 y1 y2 y3 y4 y5 y6 y7 y8 y9 hlt x0 x1 x2 hrl;obtain⟨y0,y1,y2,y3,y4,y5,y6,y7,y8,y9⟩:=HX7.y.cells;have hlt:=HX7.y.lt;obtain⟨x0,x1,x2⟩:=HX7.r.cells;have hrl:=HX7.rlt;go_wp2_with fail
 go_end0
 exact⟨ts2,rfl,HX7.y.a.more (by omega),HV4,HK4,HX7.y.o⟩
def Qod (V S T:Int)(p gb cap m:Nat)(f:Nat->Int)(mk:Nat->Nat)(ts:List Tp)(q':Nat->Nat->List Nat)(w:World)(e:Ending)(w':World):Prop:=
 ∃ f' mk',e=.returned (.tuple #[])/\TA w' V S T p gb cap m f' mk' ts/\LQ V S T f' q'/\MQ V mk' q'/\MkB V mk mk'/\Ke V S T f f'/\Only p gb w w'
set_option maxHeartbeats 1000000 in
theorem Qko (A:TA w V S T p gb cap m f mk ts)(hE:ER V S T f ls){x:E1}{i:Nat}(hi:ls[i]?=some x)(hl:((x.l+1:Nat):Int)<lv V)(hQ:LQ V S T f q)(hM:MQ V mk q)(hlen:∀ u l:Nat,(u:Int)<V->(l:Int)<lv V->((q u l).length:Int)<=S)
 (h1:2*x.s+1∈q x.u x.l) (h2:2*x.s+2∈q x.v x.l) (hd:∀ a b,2*x.s+1∉rem2 q x.s x.u x.v x.l a b/\2*x.s+2∉rem2 q x.s x.u x.v x.l a b) (hm:m<=99790000):
 Calls Tryz.prog 40 #[vA V S T p,I (x.s:Int)] w (Qod V S T p gb cap (m+135+32*nN V S) (upd f (sC S T x.s 2) ((x.l+1:Nat):Int)) mk ts (add2 (rem2 q x.s x.u x.v x.l) x.s x.u x.v (x.l+1)) w):=by
 have hn:=Ql A.hR;have hx:x∈ls:=List.mem_of_getElem? hi;have HE:=q9 (And.intro hE (And.intro hx hlen));have HQ:=q9 (And.intro hQ (And.intro hM (And.intro h1 (And.intro h2 hd))));have H0:=q9 (LX.new A);have HR:=q9 A.hR;have hok:=hE.ok x hx
 have HU:Hid ((x.u:Int)<V/\(x.v:Int)<V/\(x.s:Int)<S/\(x.l:Int)<lv V/\x.u<x.v):=q9 ⟨by omega,hok.2.1,hok.2.2.1,hok.2.2.2,hok.1⟩
 have HI:=q9 hi;have l5:=(QF V).2
 have xl5:(x.l:Int)<5:=by have:=hok.2.2.2;omega
 obtain⟨l1,hl1⟩:∃ l1,x.l+1=l1:=⟨_,rfl⟩;have HL1:=q9 hl1
 have HLI:Hid (((l1:Nat):Int)<lv V):=q9 (by rw[<-hl1];exact hl)
 rw[hl1];have x0l:(0:Int)<=(x.l:Int):=Int.natCast_nonneg _
 have wl:IntKind.i64.wrap ((x.l:Int)+1)=(l1:Int):=by rw[IntWalk.i64_in _ (by omega)];omega
 obtain⟨n,hn9⟩:∃ n:Nat,lv V=(n:Int):=⟨(lv V).toNat,(Qft V).symm⟩;have HN:=q9 hn9
 have hge:¬ (n:Int)<=(l1:Int):=by have:=HLI.out;omega
 have HIN:Hid (decide (x.s∈dl q x.u x.l)=true):=q9 (decide_eq_true (by
  unfold dl
  exact List.mem_map.2 ⟨_,h1,by omega⟩))
 clear A hE hx hQ hM hlen h1 h2 hd hok l5 hl1 hl hn9 hi
 have hfd:∀ W:World,(Instr.field 99 (vEd x.u x.v x.l x.t) 2).run Tryz.prog W=.ok (I (x.l:Int)) W:=fun W=>by kernel_rfl
 go_enter Tryz.func40,Tryz.ntmps40
 go_wp2_with fail
 generalize w.heap.size=b at H0 |-;generalize w.alloc (I8 V S T p)=W at H0 |-;obtain⟨y0,y1,y2,y3,y4,y5,y6,y7,y8,y9⟩:=H0.cells;have hlt:=H0.lt
 refine(Qe9 H0.a HE.1 HE.2.1 (by omega)).mono ?_;rintro e w1 ⟨rfl,A1,O1⟩
 have H1:=q9 (H0.next A1 O1);clear H0 A1 O1 y0 y1 y2 y3 y4 y5 y6 y7 y8 y9 hlt;obtain⟨y0,y1,y2,y3,y4,y5,y6,y7,y8,y9⟩:=H1.cells;have hlt:=H1.lt;go_wp2_with fail
 refine(QM V S T HR _).mono ?_;rintro e w2 ⟨rfl,B2⟩;rw[HN.out];have H2:=q9 (H1.below B2);clear H1 B2 y0 y1 y2 y3 y4 y5 y6 y7 y8 y9 hlt;obtain⟨y0,y1,y2,y3,y4,y5,y6,y7,y8,y9⟩:=H2.cells;have hlt:=H2.lt;go_wp2_with fail
 refine(QiB H2.a HE.1 HE.2.1 HQ.1 HE.2.2 (by omega) rfl).mono ?_;rintro e w3 ⟨rfl,A3,O3⟩;rw[HIN.out]
 have H3:=q9 (H2.next A3 O3);clear H2 A3 O3 y0 y1 y2 y3 y4 y5 y6 y7 y8 y9 hlt;obtain⟨y0,y1,y2,y3,y4,y5,y6,y7,y8,y9⟩:=H3.cells;have hlt:=H3.lt;go_wp2_with fail
 refine(Qfk H3.a HQ.1 HQ.2.1 HU.2.2.2.2 HU.2.1 HU.2.2.1 HU.2.2.2.1 (HE.1.is x HE.2.1).2.1 (HE.1.is x HE.2.1).2.2 HQ.2.2.1 HQ.2.2.2.1 (HE.2.2 _ _ HU.1 HU.2.2.2.1) (HE.2.2 _ _ HU.2.1 HU.2.2.2.1) (by omega)).mono ?_;rintro e w4 ⟨f1,mk1,rfl,A4,Q4,⟨M4,B4⟩,K4,O4⟩
 have H4:=q9 (H3.next A4 O4);have HS4:=q9 (And.intro Q4 (And.intro M4 (And.intro B4 K4)));have HE4:=q9 (K4.er HE.1);clear H3 A4 O4 Q4 M4 B4 K4 y0 y1 y2 y3 y4 y5 y6 y7 y8 y9 hlt;obtain⟨y0,y1,y2,y3,y4,y5,y6,y7,y8,y9⟩:=H4.cells;have hlt:=H4.lt;go_wp2_with fail
 refine(QhZ H4.a HE4 HE.2.1 HLI (by omega)).mono ?_;rintro e w5 ⟨rfl,A5,O5⟩
 have H5:=q9 (H4.next A5 O5);have HE5:=q9 (HE4.lift HR.out HI.out HLI.out);have HQ5:=q9 (HS4.1.turn (Qix (e:=x) (y:=(l1:Int)) HR.out HU.2.2.1));have HX5:Hid (({ x with l:=l1 }:E1)∈ls.set i { x with l:=l1 }):=q9 (List.mem_of_getElem? (List.getElem?_set_self (List.getElem?_eq_some_iff.1 HI.out).1));clear H4 A5 O5 y0 y1 y2 y3 y4 y5 y6 y7 y8 y9 hlt;obtain⟨y0,y1,y2,y3,y4,y5,y6,y7,y8,y9⟩:=H5.cells;have hlt:=H5.lt;go_wp2_with fail
 have hadd:=QfU (s:=x.s) (u:=x.u) (v:=x.v) (l:=l1) H5.a HQ5.out HS4.2.1 HU.2.2.2.2 HU.2.1 HU.2.2.1 HLI.out (HE5.is _ HX5.out).2.1 (HE5.is _ HX5.out).2.2 (fun a b=>(HQ.2.2.2.2 a b).1) (fun a b=>(HQ.2.2.2.2 a b).2) (by omega)
 refine hadd.mono ?_;rintro e w6 ⟨f2,mk2,rfl,A6,Q6,⟨M6,B6⟩,K6,O6⟩;clear hadd;have H6:=q9 (H5.next A6 O6);have HS6:=q9 (And.intro Q6 (And.intro M6 (And.intro (HS4.2.2.1.trans B6) ((HS4.2.2.2.upd13 (sC S T x.s 2) (l1:Int)).trans K6))));clear H5 A6 O6 Q6 M6 B6 K6 y0 y1 y2 y3 y4 y5 y6 y7 y8 y9 hlt;obtain⟨y0,y1,y2,y3,y4,y5,y6,y7,y8,y9⟩:=H6.cells;have hlt:=H6.lt;go_wp2_with fail
 go_end0
 exact⟨f2,mk2,rfl,H6.a.more (by omega),HS6.1,HS6.2.1,HS6.2.2.1,HS6.2.2.2,H6.o⟩
end
end Go.Proofs.YtaooglagddphnaaGreat
