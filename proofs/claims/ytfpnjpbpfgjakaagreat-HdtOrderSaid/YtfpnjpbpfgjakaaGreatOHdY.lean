/- HdY -/
import Derived.Test.YtfpnjpbpfgjakaaGreatOHdV
namespace Go.Proofs.YtfpnjpbpfgjakaaGreat
open Go.RowKit
set_option maxRecDepth 100000
structure Dj14 (q p gb:Nat)(vl:Value)(q2 p2 gb2:Nat)(vl2:Value):Prop where
 dq:q≠q2
 dp:p≠p2
 dg:gb≠gb2
 dl:∀ k,vl.ownBlock=some k->vl2.ownBlock≠some k
section
variable {w w' W:World}{zb base q p gb cap m m' n base2 q2 p2 gb2 cap2 m2 g:Nat}{V S T kd u v:Int}{da oa:Option Addr}{dl dc ol oc:Nat}{c:Nat->Int}{f f' f2:Nat->Int}{mk mk' mk2:Nat->Nat}{ts ts' ts2:List Tp}{vl vl' vl2 vl2':Value}{ls ls' ls2 bs bs' bs2:List E1}{qq qq' qq2:Nat->Nat->List Nat}{x:E1}
theorem Dj14.symm (h:Dj14 q p gb vl q2 p2 gb2 vl2):Dj14 q2 p2 gb2 vl2 q p gb vl:=⟨h.dq.symm,h.dp.symm,h.dg.symm,fun k h1 h2=>h.dl k h2 h1⟩
theorem Ar.kept14 {n:Nat}{c f:Nat->Int}(A:Ar w p g n cap c f)(h1:w'.heap[p]?=w.heap[p]?)(h2:w'.heap[g]?=w.heap[g]?):Ar w' p g n cap c f:=by
 obtain⟨zs,hz,he⟩:=A.cells;exact⟨h1.trans A.own,⟨zs,h2.trans hz,he⟩,A.le,A.few,A.fit⟩
theorem TA.kept14 (A:TA w V S T p gb cap m f mk ts)(h1:w'.heap[p]?=w.heap[p]?)(h2:w'.heap[gb]?=w.heap[gb]?):TA w' V S T p gb cap m f mk ts:=by
 obtain⟨g,⟨hR,c,f9,A,C,rl⟩,b,c2⟩:=A;exact⟨g,⟨hR,c,f9,A.kept14 h1 h2,C,rl⟩,b,c2⟩
theorem PW13.far14 (h2:PW13 W base2 q2 V S T p2 gb2 cap2 m2 f2 mk2 ts2 vl2 ls2)(hx:KxE W w' q2 p2 gb2){i:Nat}(hi:i<W.heap.size)(h3:i≠q2)(h4:i≠p2)(h5:i≠gb2)(h6:vl2.ownBlock≠some i):w'.heap[i]?=W.heap[i]?:=
 hx i hi h3 h4 h5 fun v0 h0=>by
  rw[h2.pq.cells.2.2.2.2.2.2.2.2.2.2.2.2.2.2] at h0;injection h0 with h0;rw[<-h0];exact h6
theorem PW13.blk14 (h2:PW13 W base2 q2 V S T p2 gb2 cap2 m2 f2 mk2 ts2 vl2 ls2)(hx:KxE W w' q2 p2 gb2){i:Nat}{ty:TypeId}{cs:Array Value}(hz:Blk W i ty cs)(hk:Kty ty):Blk w' i ty cs:=by
 obtain⟨f9,hR,c,A,C⟩:=h2.ta.em;obtain⟨zs,hz2,_⟩:=A.cells
 refine(h2.far14 hx hz.lt (Blk.ne_ hz h2.pq hk.2.2.1) (Blk.ne_ hz A.own hk.1) (Blk.ne_ hz hz2 hk.2.1) fun e=>?_).trans hz
 obtain⟨_,cs',hz3⟩:=h2.ew.own i e;exact Blk.ne_ hz hz3 hk.2.2.2 rfl
theorem LwH.kept14 (h:LwH w W zb V S T da dl dc oa ol oc base q p gb cap m f mk ts vl ls bs qq)(h2:PW13 W base2 q2 V S T p2 gb2 cap2 m2 f2 mk2 ts2 vl2 ls2)(hd:Dj14 q p gb vl q2 p2 gb2 vl2)(hx:KxE W w' q2 p2 gb2)(hb:Below w.heap.size w w'):LwH w w' zb V S T da dl dc oa ol oc base q p gb cap m f mk ts vl ls bs qq:=by
 obtain⟨f9,hR,c,A,C⟩:=h.pw.ta.em;obtain⟨zs,hz,_⟩:=A.cells;obtain⟨f8,hR2,c2,A2,C2⟩:=h2.ta.em;obtain⟨zs2,hz2,_⟩:=A2.cells
 have no:∀ {i:Nat} {ty:TypeId} {cs:Array Value},Blk W i ty cs->ty≠67->vl2.ownBlock≠some i:=fun {i ty cs} hz9 ht e=>by
  obtain⟨_,cs',hz'⟩:=h2.ew.own i e;exact Blk.ne_ hz9 hz' ht rfl
 refine⟨h2.blk14 hx h.z Qkp,hb,⟨?_,?_,?_,h.pw.bq,h.pw.bp,h.pw.bg⟩,h.lg,h.hs,h.mv,h.hb⟩
 . exact(h2.far14 hx h.pw.pq.lt hd.dq (Blk.ne_ h.pw.pq A2.own (by decide)) (Blk.ne_ h.pw.pq hz2 (by decide)) (no h.pw.pq (by decide))).trans h.pw.pq
 . exact h.pw.ta.kept14 (h2.far14 hx h.pw.ta.p_lt (Blk.ne_ A.own h2.pq (by decide)) hd.dp (Blk.ne_ A.own hz2 (by decide)) (no A.own (by decide))) (h2.far14 hx h.pw.ta.g_lt (Blk.ne_ hz h2.pq (by decide)) (Blk.ne_ hz A2.own (by decide)) hd.dg (no hz (by decide)))
 . refine h.pw.ew.kept_of fun i hi=>?_
   obtain⟨_,cs,hz9⟩:=h.pw.ew.own i hi
   exact h2.far14 hx hz9.lt (Blk.ne_ hz9 h2.pq (by decide)) (Blk.ne_ hz9 A2.own (by decide)) (Blk.ne_ hz9 hz2 (by decide)) (hd.dl i hi)
theorem KxE.only (O:Only p gb W w'):KxE W w' q p gb:=fun i hi _ h2 h3 _=>O.block i hi h2 h3
theorem Dj14.step (hd:Dj14 q p gb vl q2 p2 gb2 vl2)(h:PW13 W base q V S T p gb cap m f mk ts vl ls)(h2:PW13 W base2 q2 V S T p2 gb2 cap2 m2 f2 mk2 ts2 vl2 ls2)(ho:KoE W q2 vl2'):Dj14 q p gb vl q2 p2 gb2 vl2':=⟨hd.dq,hd.dp,hd.dg,fun k hk e=>by
 rcases ho k vl2 h2.pq.cells.2.2.2.2.2.2.2.2.2.2.2.2.2.2 e with h3|h3
 . exact hd.dl k hk h3
 . have:=(h.ew.lt k hk).2
   omega⟩
structure Tw14 (w W:World)(zb:Nat)(V S T:Int)(da:Option Addr)(dl dc:Nat)(oa:Option Addr)(ol oc:Nat)(base q p gb cap base2 q2 p2 gb2 cap2 m n:Nat)(f:Nat->Int)(mk:Nat->Nat)(ts:List Tp)(vl:Value)(ls bs:List E1)(qq:Nat->Nat->List Nat)(f2:Nat->Int)(mk2:Nat->Nat)(ts2:List Tp)(vl2:Value)(ls2 bs2:List E1)(qq2:Nat->Nat->List Nat):Prop where
 a:LwH w W zb V S T da dl dc oa ol oc base q p gb cap m f mk ts vl ls bs qq
 b:LwH w W zb V S T da dl dc oa ol oc base2 q2 p2 gb2 cap2 n f2 mk2 ts2 vl2 ls2 bs2 qq2
 d:Dj14 q p gb vl q2 p2 gb2 vl2
theorem Tw14.below (h:Tw14 w W zb V S T da dl dc oa ol oc base q p gb cap base2 q2 p2 gb2 cap2 m n f mk ts vl ls bs qq f2 mk2 ts2 vl2 ls2 bs2 qq2)(hb:Below W.heap.size W w'):Tw14 w w' zb V S T da dl dc oa ol oc base q p gb cap base2 q2 p2 gb2 cap2 m n f mk ts vl ls bs qq f2 mk2 ts2 vl2 ls2 bs2 qq2:=⟨h.a.below hb,h.b.below hb,h.d⟩
theorem Tw14.drew (h:Tw14 w W zb V S T da dl dc oa ol oc base q p gb cap base2 q2 p2 gb2 cap2 m n f mk ts vl ls bs qq f2 mk2 ts2 vl2 ls2 bs2 qq2):Tw14 w W.drew zb V S T da dl dc oa ol oc base q p gb cap base2 q2 p2 gb2 cap2 m n f mk ts vl ls bs qq f2 mk2 ts2 vl2 ls2 bs2 qq2:=h.below Ja.drew
theorem Tw14.alloc (h:Tw14 w W zb V S T da dl dc oa ol oc base q p gb cap base2 q2 p2 gb2 cap2 m n f mk ts vl ls bs qq f2 mk2 ts2 vl2 ls2 bs2 qq2)(o:Obj):Tw14 w (W.alloc o) zb V S T da dl dc oa ol oc base q p gb cap base2 q2 p2 gb2 cap2 m n f mk ts vl ls bs qq f2 mk2 ts2 vl2 ls2 bs2 qq2:=h.below (Ja.alloc Jb o)
theorem Tw14.more {n':Nat}(h:Tw14 w W zb V S T da dl dc oa ol oc base q p gb cap base2 q2 p2 gb2 cap2 m n f mk ts vl ls bs qq f2 mk2 ts2 vl2 ls2 bs2 qq2)(hm:m<=m')(hn:n<=n'):Tw14 w W zb V S T da dl dc oa ol oc base q p gb cap base2 q2 p2 gb2 cap2 m' n' f mk ts vl ls bs qq f2 mk2 ts2 vl2 ls2 bs2 qq2:=⟨h.a.more hm,h.b.more hn,h.d⟩
theorem Tw14.symm (h:Tw14 w W zb V S T da dl dc oa ol oc base q p gb cap base2 q2 p2 gb2 cap2 m n f mk ts vl ls bs qq f2 mk2 ts2 vl2 ls2 bs2 qq2):Tw14 w W zb V S T da dl dc oa ol oc base2 q2 p2 gb2 cap2 base q p gb cap n m f2 mk2 ts2 vl2 ls2 bs2 qq2 f mk ts vl ls bs qq:=⟨h.b,h.a,h.d.symm⟩
theorem Tw14.step (h:Tw14 w W zb V S T da dl dc oa ol oc base q p gb cap base2 q2 p2 gb2 cap2 m n f mk ts vl ls bs qq f2 mk2 ts2 vl2 ls2 bs2 qq2)(hG:RH13 V S T dl ol)(hm:m<=98000000):
 I0 12 #[.pointer (some (I1 q 0)),vO13 kd u v] W fun e w'=>e=.returned (.bool true)/\∃ f' mk' ts' vl' ls' bs' qq',Tw14 w w' zb V S T da dl dc oa ol oc base q p gb cap base2 q2 p2 gb2 cap2 (m+1460000) n f' mk' ts' vl' ls' bs' qq' f2 mk2 ts2 vl2 ls2 bs2 qq2/\QpR V S kd u v ls bs ls' bs'/\KxE W w' q p gb:=by
 refine(Qpo h.a hG hm).mono ?_;rintro e w' ⟨rfl,f',mk',ts',vl',ls',bs',qq',hL,hst,hkx,hko⟩;exact⟨rfl,f',mk',ts',vl',ls',bs',qq',⟨hL,h.b.kept14 h.a.pw h.d.symm hkx hL.be,(h.d.symm.step h.b.pw h.a.pw hko).symm⟩,hst,hkx⟩
theorem Qp8 {W0:World}(hA:LwH w W0 zb V S T da dl dc oa ol oc base q p gb cap m f mk ts vl ls bs qq)(hB:LwH w W zb V S T da dl dc oa ol oc base2 q2 p2 gb2 cap2 n f2 mk2 ts2 vl2 ls2 bs2 qq2)(hb:Below W0.heap.size W0 W)(h2:W0.heap.size<=base2):Tw14 w W zb V S T da dl dc oa ol oc base q p gb cap base2 q2 p2 gb2 cap2 m n f mk ts vl ls bs qq f2 mk2 ts2 vl2 ls2 bs2 qq2:=by
 have e1:=hA.pw.pq.lt;have e2:=hA.pw.ta.p_lt;have e3:=hA.pw.ta.g_lt;have e4:=hB.pw.bq;have e5:=hB.pw.bp;have e6:=hB.pw.bg
 refine⟨hA.below hb,hB,by omega,by omega,by omega,fun k hk e=>?_⟩
 have e7:=(hA.pw.ew.lt k hk).2;have e8:=(hB.pw.ew.lt k e).1;omega
theorem Qp3 {fd:Nat->Nat}(hG:RH13 V S T dl ol)(hD:QfW w da dl fd)(hz:Blk W zb 27 #[I V,I S,I T,.slice da dl dc,.slice oa ol oc])(hb:Below w.heap.size w W):
 I0 11 #[vC13 V S T da dl dc oa ol oc] W fun e w'=>∃ base q p gb cap f mk ts vl,e=.returned (.pointer (some (I1 q 0)))/\W.heap.size<=base/\Below W.heap.size W w'/\LwH w w' zb V S T da dl dc oa ol oc base q p gb cap 1280 f mk ts vl [] [] fun _ _=>[]:=by
 refine(QdR (vo:=.slice oa ol oc) hG.r (hD.below hb) hG.d hG.v hG.s).mono ?_;rintro e w' ⟨q,p,gb,rfl,hP,hB⟩;have h128:=Qoz hG.r hG.v hG.s
 exact⟨_,q,p,gb,_,_,_,_,_,rfl,Nat.le_refl _,hB,hz.below hB hz.lt,hb.trans (hB.mono hb.size),hP.more (by omega),LG.zero hG.r,Hs.nil,.refl _,hb.size⟩
theorem Tw14.join (h:Tw14 w W zb V S T da dl dc oa ol oc base q p gb cap base2 q2 p2 gb2 cap2 m n f mk ts vl ls bs qq f2 mk2 ts2 vl2 ls2 bs2 qq2)(hG:RH13 V S T dl ol){x y:Nat}(hx:(x:Int)<V)(hy:(y:Int)<V)(hm:m<=99800000):
 I0 16 #[vA V S T p,I (x:Int),I (y:Int)] W fun e w'=>∃ r,e=.returned (.bool r)/\(r=true↔Way (aE ls) x y)/\Tw14 w w' zb V S T da dl dc oa ol oc base q p gb cap base2 q2 p2 gb2 cap2 (m+256) n f mk ts vl ls bs qq f2 mk2 ts2 vl2 ls2 bs2 qq2:=by
 have h128:=Qoz hG.r hG.v hG.s
 refine(Qom h.a.pw.ta h.a.lg.lf hx hy (by omega)).mono ?_
 rintro e w' ⟨r,rfl,hr,A,O⟩;have hL:=h.a.next A O h.a.lg
 exact⟨r,rfl,hr.trans (by rw[<-h.a.mv.aE_eq];exact h.a.hs.all.symm),⟨hL.more (by omega),h.b.kept14 h.a.pw h.d.symm (KxE.only O) hL.be,h.d⟩⟩
theorem Tw14.get (h:Tw14 w W zb V S T da dl dc oa ol oc base q p gb cap base2 q2 p2 gb2 cap2 m n f mk ts vl ls bs qq f2 mk2 ts2 vl2 ls2 bs2 qq2)(hx:x∈bs)(hm:m<=99800000):
 I0 24 #[vE V S T p,I (x.s:Int)] W fun e w'=>e=.returned (vEd x.u x.v x.l x.t)/\Tw14 w w' zb V S T da dl dc oa ol oc base q p gb cap base2 q2 p2 gb2 cap2 (m+256) n f mk ts vl ls bs qq f2 mk2 ts2 vl2 ls2 bs2 qq2/\Only p gb W w':=by
 refine(Qe9 h.a.pw.ta h.a.lg.er hx (by omega)).mono ?_
 rintro e w' ⟨rfl,A,O⟩;have hL:=h.a.next A O h.a.lg
 exact⟨rfl,⟨hL.more (by omega),h.b.kept14 h.a.pw h.d.symm (KxE.only O) hL.be,h.d⟩,O⟩
end
end Go.Proofs.YtfpnjpbpfgjakaaGreat
