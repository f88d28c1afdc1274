/- Gr -/
import Derived.Test.YtaooglagddphnaaGreatXGq
import Derived.Test.YtaooglagddphnaaGreatXGl
namespace Go.Proofs.YtaooglagddphnaaGreat
open Go.RowKit
set_option maxRecDepth 100000
def cvL (f:Nat->Int)(k:Nat):List Value:=(List.range k).map fun i=>I2 (f i)
def cvF (n:Nat)(f:Nat->Int)(k:Nat):Int:=if k<n then f k else 0
section
variable {f:Nat->Int}{k:Nat}
theorem QeT:(cvL f k).length=k:=by simp [cvL]
theorem QkE:cvL f (k+1)=cvL f k++[I2 (f k)]:=by unfold cvL;rw[List.range_succ,List.map_append];rfl
theorem Qnt {n:Nat}(h:k<n):(cvL f n)[k]?=some (I2 (f k)):=by unfold cvL;rw[List.getElem?_map,List.getElem?_range h];rfl
end
section
variable {w w' w0 W:World}{V S T:Int}{p gb cap m k n q tb base:Nat}{f:Nat->Int}{g:Mg9}{mk:Nat->Nat}{ts:List Tp}{vl:Value}
theorem QkA (h:EM w V S T p gb cap m f)(hk:k<Qv V S T)(hb:m<=100000000){kI:Int}(hI:kI=(k:Int)):
 Calls Tryz.prog 49 #[.pointer (some (I1 p 0)),I kI] w fun e w'=>e=.returned (.tuple #[I2 (f k),I 0])/\EM w' V S T p gb cap (m+1) f/\Only p gb w w':=by
 subst hI;obtain⟨h1,c,A,C⟩:=h;refine(QgL A hk C hb).mono ?_;rintro e w' ⟨rfl,A2,O2⟩;exact⟨rfl,⟨h1,_,A2,C.upd 0⟩,O2⟩
theorem EM.keep13 (h:EM w V S T p gb cap m f)(hp:w'.heap[p]?=w.heap[p]?)(hg:w'.heap[gb]?=w.heap[gb]?):EM w' V S T p gb cap m f:=by
 obtain⟨hR,c,A,C⟩:=h;obtain⟨zs,hz,hc⟩:=A.cells;exact⟨hR,c,⟨hp.trans A.own,⟨zs,hg.trans hz,hc⟩,A.le,A.few,A.fit⟩,C⟩
theorem Only.grown13 {o:Option Nat}(h:Only p gb w0 w)(hg:w.grownBy w' o)(hs:∀ r,o=some r->w0.heap.size<=r):Only p gb w0 w':=by
 refine⟨hg.os.trans h.os,hg.tape.trans h.tape,hg.output.trans h.output,Nat.le_trans h.size hg.size,fun i hi h1 h2=>(hg.block i (Nat.lt_of_lt_of_le hi h.size) fun e=>?_).trans (h.block i hi h1 h2)⟩
 have:=hs i e.symm;omega
theorem Only.cells13 (h:Only p gb w0 w)(hb:w0.heap.size<=tb):∀ (vs:List Value) (j:Nat),Only p gb w0 (w.setCells tb j vs):=by
 intro vs
 induction vs generalizing w with
 |nil=>exact fun _=>h
 |cons v vs ih=>exact fun j=>ih (w:=w.setCell (I1 tb j) v) ⟨h.os,h.tape,h.output,Nat.le_trans h.size (by simp),fun i hi h1 h2=>(Below.heap_setCell w (I1 tb j) v i (fun e=>by have e:i=tb:=e;omega)).trans (h.block i hi h1 h2)⟩ (j+1)
theorem Qab:∀ (vs:List Value) (j:Nat) {w:World} {i:Nat},i≠tb->(w.setCells tb j vs).heap[i]?=w.heap[i]?
 |[],_,_,_,_=>rfl
 |v :: vs,j,w,i,h=>(Qab vs (j+1) h).trans (Below.heap_setCell w (I1 tb j) v i (fun e=>h (by rw[e])))
theorem Qev {w:World}{base n:Nat}{T9 E9:TypeId}{zv:Value}{by9:Nat}(hT:Tryz.prog.underlying T9=some (.slice E9))(hE:(Tryz.prog.info? E9).map (fun i=>(i.zero,i.size,i.bytes))=some (some zv,1,by9))(hzv:zv.cells.size=1)(hby:by9<=64)
 {ops:Array Oper} {rest:List Oper} {o:Oper} {a:Act} {Q:Exit->Act->World->Prop} (hgd:o.guard=none) (s x:Operand)
 (ho:o.op=.call { callee:=.builtin .append,args:=#[s,x],argTypes:=#[T9,T9]})
 {v:Value} {xs:List Value} (hs:a.eval s=v) (hn:xs.length=n) (h:w.ownsRow base E9 1 v n xs) (u:Value) (hu:u.oneCell'=true) (ad:Addr) (c:Nat) (hx:a.eval x=.slice (some ad) 1 c) (hc:w.cell? (ad.add 0)=some u) (hl:n<=1000) (hb:base<=w.heap.size)
 (hK:∀ v' w',w'.ownsRow base E9 1 v' (n+1) (xs++[u])->w.grownBy w' v.ownBlock->wpList Tryz.prog ops Q rest (a.put o.dst v') w'):wpList Tryz.prog ops Q (o :: rest) a w:=by
 subst hn
 refine Qbh hT hE hzv hby hgd s x ho hs h u hu ad c hx hc (Nat.le_trans hl (by decide)) hb fun v' w' h1 h2=>hK v' w' ?_ h2
 rw[List.length_append,List.length_singleton] at h1;exact h1
def KB9 (w0:World)(q tb:Nat)(V S T:Int)(p gb cap m:Nat)(f:Nat->Int)(vl:Value)(v i:Value)(W:World):Prop:=
 ∃ k a c,k<=Qv V S T/\i=I ((k:Nat):Int)/\v=.slice a k c/\W.ownsRow w0.heap.size 88 1 (.slice a k c) k (cvL f k)/\PB13 W q V S T p vl/\Blk W tb 67 #[I 0,I 0,I 0,.slice none 0 0,.slice none 0 0,.map none,.slice none 0 0]/\EM W V S T p gb cap (m+k) f/\Only p gb w0 W
theorem Qnx {b:BkV}{cv:Nat->Int}{vs:List Value}{zs:Array Value}(B:Bk w b cv)(hT:Blk w tb 67 #[I 0,I 0,I 0,.slice none 0 0,.slice none 0 0,.map none,.slice none 0 0])(h1:b.ga≠tb)(hc:Blk w b.cb 88 zs):Bk (w.setCells tb 0 vs) b cv:=by
 have n1:b.cb≠tb:=Blk.ne_ hc hT (by decide)
 have n2:b.wb≠tb:=B.wm.ne_blk hT
 have hs:∀ i,i<w.heap.size->i≠tb->i<(w.setCells tb 0 vs).heap.size:=fun i hi hn=>by
  have h3:w.heap[i]?=some w.heap[i]:=Array.getElem?_eq_getElem hi;have h4:=Qab (w:=w) vs 0 hn;rw[h3] at h4;exact(Array.getElem?_eq_some_iff.1 h4).1
 exact⟨B.hR,B.hc,B.ha,B.wm.keep (Qab vs 0 n2),fun k hk=>(QJ (Qab vs 0 n1)).trans (B.cs k hk),fun k hk=>by
  obtain⟨m,h2,h3⟩:=B.al k hk;exact⟨m,h2.kept (Qab vs 0 h1),h3⟩,⟨hs _ B.lt.1 n1,hs _ B.lt.2 h1⟩,B.rg,B.cp⟩
theorem QhG {b:BkV}(hT:Blk w tb 67 #[I 0,I 0,I 0,.slice none 0 0,.slice none 0 0,.map none,.slice none 0 0]):Blk (w.setCells tb 0 [I b.V,I b.S,I b.T,I3 (I1 b.gn 0) b.nn b.cn,I3 (I1 b.cb 0) b.cl b.cc,.map (some b.wb),I3 (I1 b.ga 0) b.na b.ca]) tb 67 #[I b.V,I b.S,I b.T,I3 (I1 b.gn 0) b.nn b.cn,I3 (I1 b.cb 0) b.cl b.cc,.map (some b.wb),I3 (I1 b.ga 0) b.na b.ca]:=by
 have t0:Blk (w.setCell (I1 tb 0) (I b.V)) tb 67 #[I b.V,I 0,I 0,.slice none 0 0,.slice none 0 0,.map none,.slice none 0 0]:=hT.set_ 0 _;have t1:Blk ((w.setCell (I1 tb 0) (I b.V)).setCell (I1 tb 1) (I b.S)) tb 67 #[I b.V,I b.S,I 0,.slice none 0 0,.slice none 0 0,.map none,.slice none 0 0]:=t0.set_ 1 _;have t2:Blk (((w.setCell (I1 tb 0) (I b.V)).setCell (I1 tb 1) (I b.S)).setCell (I1 tb 2) (I b.T)) tb 67 #[I b.V,I b.S,I b.T,.slice none 0 0,.slice none 0 0,.map none,.slice none 0 0]:=t1.set_ 2 _;have t3:Blk ((((w.setCell (I1 tb 0) (I b.V)).setCell (I1 tb 1) (I b.S)).setCell (I1 tb 2) (I b.T)).setCell (I1 tb 3) (I3 (I1 b.gn 0) b.nn b.cn)) tb 67 #[I b.V,I b.S,I b.T,I3 (I1 b.gn 0) b.nn b.cn,.slice none 0 0,.map none,.slice none 0 0]:=t2.set_ 3 _;have t4:Blk (((((w.setCell (I1 tb 0) (I b.V)).setCell (I1 tb 1) (I b.S)).setCell (I1 tb 2) (I b.T)).setCell (I1 tb 3) (I3 (I1 b.gn 0) b.nn b.cn)).setCell (I1 tb 4) (I3 (I1 b.cb 0) b.cl b.cc)) tb 67 #[I b.V,I b.S,I b.T,I3 (I1 b.gn 0) b.nn b.cn,I3 (I1 b.cb 0) b.cl b.cc,.map none,.slice none 0 0]:=t3.set_ 4 _;have t5:Blk ((((((w.setCell (I1 tb 0) (I b.V)).setCell (I1 tb 1) (I b.S)).setCell (I1 tb 2) (I b.T)).setCell (I1 tb 3) (I3 (I1 b.gn 0) b.nn b.cn)).setCell (I1 tb 4) (I3 (I1 b.cb 0) b.cl b.cc)).setCell (I1 tb 5) (.map (some b.wb))) tb 67 #[I b.V,I b.S,I b.T,I3 (I1 b.gn 0) b.nn b.cn,I3 (I1 b.cb 0) b.cl b.cc,.map (some b.wb),.slice none 0 0]:=t4.set_ 5 _;have t6:Blk (((((((w.setCell (I1 tb 0) (I b.V)).setCell (I1 tb 1) (I b.S)).setCell (I1 tb 2) (I b.T)).setCell (I1 tb 3) (I3 (I1 b.gn 0) b.nn b.cn)).setCell (I1 tb 4) (I3 (I1 b.cb 0) b.cl b.cc)).setCell (I1 tb 5) (.map (some b.wb))).setCell (I1 tb 6) (I3 (I1 b.ga 0) b.na b.ca)) tb 67 #[I b.V,I b.S,I b.T,I3 (I1 b.gn 0) b.nn b.cn,I3 (I1 b.cb 0) b.cl b.cc,.map (some b.wb),I3 (I1 b.ga 0) b.na b.ca]:=t5.set_ 6 _;exact t6
set_option maxHeartbeats 16000000 in
theorem QkM (hq:PB13 w q V S T p vl)(hE:EM w V S T p gb cap m f)(hm:m+Qv V S T<=100000000)(hc9:Qv V S T<=1000):
 Calls Tryz.prog 17 #[.pointer (some (I1 q 0))] w fun e w'=>∃ b:BkV,e=.returned (vB b)/\Bk w' b (cvF (Qv V S T) f)/\b.V=V/\b.S=S/\b.T=T/\EM w' V S T p gb cap (m+Qv V S T) f/\Only p gb w w':=by
 obtain⟨n,hn⟩:∃ k,Qv V S T=k:=⟨_,rfl⟩;have HN:=q9 hn
 have hcn:cn V S T=(n:Int):=by rw[<-hn];exact(QY hE.hR).symm
 have HCN:=q9 hcn;have HR:=q9 hE.hR;have HPG:=q9 (And.intro hE.p_lt hE.g_lt)
 have HFT:Hid (∀ k,k<n->0<=f k/\f k<=18446744073709551615):=q9 (by
  obtain⟨_,_,A,_⟩:=hE;rw[<-hn];exact A.fit)
 rw[hn] at hm hc9;have HM:=q9 hm
 have nI:(n:Int)<=1000:=by omega
 have n1:0<n:=by
  have:=Qj5 hE.hR;have:=(sizes hE.hR).nd1
  have e3:cn V S T=o5 V S T+nd V S*7:=by unfold cn o5;omega
  omega
 have hb1:Below w.heap.size w (w.alloc (.cells #[I 0,I 0,I 0,.slice none 0 0,.slice none 0 0,.map none,.slice none 0 0] 67)):=(Below.refl _ _).alloc (Nat.le_refl _) _;have HREL:Hid (KB9 w q w.heap.size V S T p gb cap m f vl (.slice none 0 0) (I 0) (w.alloc (.cells #[I 0,I 0,I 0,.slice none 0 0,.slice none 0 0,.map none,.slice none 0 0] 67))):=q9 ⟨0,none,0,Nat.zero_le _,rfl,rfl,World.ownsRow_nil _ _ _ _,hq.below hb1,Blk.new _ _ _,hE.below hb1,Only.of_below hb1⟩;have HQ1:=q9 (hq.below hb1);have HTB:Hid (w.heap.size<=w.heap.size):=q9 (Nat.le_refl _);clear hq hE hm hb1 hcn hn
 go_enter Tryz.func17,Tryz.ntmps17
 go_upto_region 2 with fail
 generalize w.alloc (.cells #[I 0,I 0,I 0,.slice none 0 0,.slice none 0 0,.map none,.slice none 0 0] 67)=w1 at HREL HQ1 |-;generalize htb:w.heap.size=tb at HREL HTB |-;have HTE:=q9 htb;clear htb;obtain⟨c0,c1,c2,c3,c4,c5,c6,c7,c8,c9,c10,c11,c12,c13,c14⟩:=HQ1.cells;have qlt:=HQ1.lt;go_wp2_with fail
 refine(QfN V S T HR _).mono ?_;rintro e w2 ⟨rfl,b2⟩;rw[HCN.out]
 have HREL2:Hid (KB9 w q tb V S T p gb cap m f vl (.slice none 0 0) (I 0) w2):=q9 (by
  obtain⟨k,a,c,h1,h2,h3,h4,h5,h6,h7,h8⟩:=HREL.out;exact⟨k,a,c,h1,h2,h3,QR h4 b2,h5.below b2,h6.below b2 h6.lt,h7.below b2,h8.trans (Only.of_below b2)⟩)
 clear HREL HQ1 b2 c0 c1 c2 c3 c4 c5 c6 c7 c8 c9 c10 c11 c12 c13 c14 qlt;go_wp2_with fail
 go_loopw [3,12] (fun v i wr=>KB9 w q tb V S T p gb cap m f vl v i wr) (fun _ i _=>n-(intOf i).toNat)
 case atStart=>exact HREL2.out
 case round=>
  clear HREL2;obtain⟨k,ra,rc,hk,rfl,rfl,hr,hq,ht,he,ho⟩:=hrel;have HRW:=q9 hr;have HQ:=q9 hq;have HT:=q9 ht;have HE:=q9 he;have HO:=q9 ho;rw[HN.out] at hk;clear hr hq ht he ho;obtain⟨c0,c1,c2,c3,c4,c5,c6,c7,c8,c9,c10,c11,c12,c13,c14⟩:=HQ.cells;have qlt:=HQ.lt
  by_cases hkn:k<n
  . as_aux_lemma=>
    have HKN:Hid (k<Qv V S T):=q9 (by rw[HN.out];exact hkn)
    have HMK:Hid (m+k<=100000000):=q9 (by have:=HM.out;omega)
    have HK1:Hid (k+1<=n):=q9 hkn
    have kI:(k:Int)<(n:Int):=by omega
    have k0:(0:Int)<=(k:Int):=by omega
    clear hk hkn;go_wp2_with fail
    refine(QkA HE HKN HMK rfl).mono ?_;rintro e w3 ⟨rfl,hE3,hO3⟩;have HE3:=q9 hE3
    have HR3:Hid (w3.ownsRow w.heap.size 88 1 (.slice ra k rc) k (cvL f k)):=q9 (QbE HRW.out fun i hi=>by
     have h1:=World.ownsRow.lt HRW.out i hi;have h2:=HPG.out
     exact hO3.block i h1.2 (by omega) (by omega))
    have HQ3:Hid (PB13 w3 q V S T p vl):=q9 (Blk.em HQ.out HE.out hO3 (by decide) (by decide))
    have HT3:=q9 (Blk.em HT.out HE.out hO3 (by decide) (by decide))
    have HO3:=q9 (HO.trans hO3);clear HRW HQ HT HE HO hE3 hO3 c0 c1 c2 c3 c4 c5 c6 c7 c8 c9 c10 c11 c12 c13 c14 qlt;have HS3:Hid (w.heap.size<=w3.heap.size):=q9 HO3.size
    go_wp2_with (at_builtin;go_loud (refine Qev (n:=k) (base:=w.heap.size) (v:=.slice ra k rc) (xs:=cvL f k) Tryz.underlying24 Qdh rfl (by decide) rfl _ _ rfl rfl QeT (World.ownsRow.alloc HR3.out _) (I2 (f k)) rfl (I1 w3.heap.size 0) 1 rfl (Q5 _ _ _) (by have:=HK1.out;omega) (Nat.le_trans HS3.out (by simp)) ?_))
    intro v5 w5 hu5 hg5;obtain⟨a5,c5,e5⟩:=Qf9 hu5;subst e5;have hra:=World.ownsRow.alloc HR3.out (.cells #[I2 (f k)] 88)
    have hlt:∀ i,i<w3.heap.size->i<(w3.alloc (.cells #[I2 (f k)] 88)).heap.size:=fun i hi=>by simp;omega
    have hold:∀ i,i<w.heap.size->w5.heap[i]?=w3.heap[i]?:=fun i hi=>by
     have hi3:i<w3.heap.size:=Nat.lt_of_lt_of_le hi HS3.out
     refine(hg5.block i (hlt i hi3) fun e=>?_).trans (Below.refl w3.heap.size w3 |>.alloc (Nat.le_refl _) (.cells #[I2 (f k)] 88) |>.block i hi3)
     have h1:=(World.ownsRow.lt hra i e.symm).1;omega
    have HN5:Hid (KB9 w q tb V S T p gb cap m f vl (.slice a5 (k+1) c5) (I ((k:Int)+1)) w5):=q9 ⟨k+1,a5,c5,by rw[HN.out];exact HK1.out,by simp,rfl,by rw[QkE];exact hu5,Qa7 hra (HQ3.alloc _) (by decide) hg5,Qa7 hra (HT3.alloc _) (by decide) hg5,HE3.keep13 (hold p HPG.1) (hold gb HPG.2),(HO3.alloc _).grown13 hg5 fun r hr=>(World.ownsRow.lt hra r hr).1⟩
    clear hu5 hg5 hra hlt hold HR3 HQ3 HT3 HE3 HO3;go_wp2_with fail
    go_roundw
    case rel=>exact HN5.out
    case measure=>have:=HK1.out;simp [intOf];omega
  . as_aux_lemma=>
    have ek:n=k:=by omega
    subst ek
    have kN:¬ (n:Int)<(n:Int):=by omega
    obtain⟨cb,cc,zs,e9,hcb,hzs,hzv⟩:=QbD (xs:=cvL f n) (by rw[QeT];exact HRW.out) (by rw[QeT];exact n1)
    rw[QeT] at e9;injection e9 with e9 _ e8;subst e9 e8
    have HZS:=q9 (And.intro hzs (And.intro hcb (fun k (hk:k<n)=>(hzs.cell k).trans (hzv k _ (Qnt (f:=f) hk)))))
    clear hzs hzv hcb HRW hk hkn;go_wp2_with fail
    refine(Qfl V S T _).mono ?_;rintro e w3 ⟨rfl,b3⟩;have HQ3:=q9 (HQ.below b3);have HT3:=q9 (HT.below b3 HT.lt);have HE3:=q9 (HE.below b3);have HO3:=q9 (HO.trans (Only.of_below b3));have HZ3:Hid (Blk w3 cb 88 zs):=q9 (HZS.1.below b3 HZS.1.lt)
    have HC3:Hid (∀ k,k<n->w3.cell? (I1 cb k)=some (I2 (cvF n f k))):=q9 fun k hk=>by
     rw[show cvF n f k=f k from if_pos hk];exact Qi b3 (HZS.2.2 k hk)
    clear HQ HT HE HO HZS b3 c0 c1 c2 c3 c4 c5 c6 c7 c8 c9 c10 c11 c12 c13 c14 qlt;go_wp2_with fail
    refine(Qj3 HR HCN.symm HC3 HZ3.lt (fun k=>by
     unfold cvF
     split
     . exact HFT k (by assumption)
     . omega) (by omega)).mono ?_
    rintro e w4 ⟨b,rfl,hB,hV,hS,hT9,b4,hga,hcb4⟩;have HT4:=q9 (HT3.below b4 HT3.lt);have HE4:=q9 (HE3.below b4);have HO4:=q9 (HO3.trans (Only.of_below b4))
    have HZ4:Hid (Blk w4 b.cb 88 zs):=q9 (by rw[hcb4];exact HZ3.below b4 HZ3.lt)
    have HGA:Hid (b.ga≠tb):=q9 (by have:=HT3.lt;omega)
    have HB4:=q9 hB;have HVS:=q9 (And.intro hV (And.intro hS hT9));clear HQ3 HT3 HE3 HO3 HZ3 HC3 hB hV hS hT9 b4 hga hcb4;have HTH:=q9 (Qw HT4.out (m:=7) rfl);have HBF:=q9 (Qnx (vs:=[I b.V,I b.S,I b.T,I3 (I1 b.gn 0) b.nn b.cn,I3 (I1 b.cb 0) b.cl b.cc,.map (some b.wb),I3 (I1 b.ga 0) b.na b.ca]) HB4.out HT4.out HGA.out HZ4.out);have HRT:=q9 (QhG (b:=b) HT4.out)
    have HEF:=q9 (HE4.keep13 (Qab (tb:=tb) [I b.V,I b.S,I b.T,I3 (I1 b.gn 0) b.nn b.cn,I3 (I1 b.cb 0) b.cl b.cc,.map (some b.wb),I3 (I1 b.ga 0) b.na b.ca] 0 (by have:=HPG.out;have:=HTE.out;omega)) (Qab (tb:=tb) [I b.V,I b.S,I b.T,I3 (I1 b.gn 0) b.nn b.cn,I3 (I1 b.cb 0) b.cl b.cc,.map (some b.wb),I3 (I1 b.ga 0) b.na b.ca] 0 (by have:=HPG.out;have:=HTE.out;omega)))
    have HOF:=q9 (HO4.cells13 (tb:=tb) (by rw[HTE.out];exact Nat.le_refl _) [I b.V,I b.S,I b.T,I3 (I1 b.gn 0) b.nn b.cn,I3 (I1 b.cb 0) b.cl b.cc,.map (some b.wb),I3 (I1 b.ga 0) b.na b.ca] 0)
    clear HT4 HE4 HO4 HZ4 HGA HB4
    go_wp2_with (refine QbQ (by rfl) 67 _ _ (by rfl) tb [I b.V,I b.S,I b.T,I3 (I1 b.gn 0) b.nn b.cn,I3 (I1 b.cb 0) b.cl b.cc,.map (some b.wb),I3 (I1 b.ga 0) b.na b.ca] (by rfl) (by rfl) HTH.out (by kernel_rfl) (by rfl) ?_)
    try simp only[Exit.inBlock,Exit.then]
    refine bodyPost_ret (v:=vB b) ?_ rfl ?_
    . exact results_cell_row rfl _ _ tb 67 _ _ _ rfl HRT Tryz.underlying67 rfl (by kernel_rfl)
    exact⟨b,rfl,by rw[HN.out];exact HBF.out,HVS.1,HVS.2.1,HVS.2.2,by rw[HN.out];exact HEF,HOF⟩
end
section
variable {w w' w0 W:World}{V S T:Int}{p gb cap m base q v l x:Nat}{f f9:Nat->Int}{g:Mg9}{mk:Nat->Nat}{ts:List Tp}{vl:Value}{ls bs:List E1}{qq:Nat->Nat->List Nat}{b:BkV}
theorem Qkh (hR:Rt V S T):(∀ a c:Nat,(a:Int)<V->(c:Int)<lv V->(hC V S T a c:Int)<o5 V S T)/\∀ z:Nat,1<=z->(z:Int)<=2*S->(pvC S T z:Int)<o5 V S T/\(nxC S T z:Int)<o5 V S T:=⟨fun _ _ ha hc=>Qgg hR ha hc,fun _ h1 h2=>⟨QlG hR h1 h2,Qna hR h1 h2⟩⟩
theorem QnX (hG:LG V S T f mk ts bs qq)(hR:Rt V S T)(hF:FI V S g mk ts)(r:Rl V S T f9 g)(hs:∀ i:Nat,(i:Int)<o5 V S T->rs V S g i=f i)(B:Bk w b (cvF (Qv V S T) f9))(hV:b.V=V)(hS:b.S=S)(hT:b.T=T):Sd13 b (cvF (Qv V S T) f9) g mk ts bs qq:=by
 subst hV hS hT;have hna:b.na=nN b.V b.S:=B.ha
 have lo:∀ i:Nat,(i:Int)<o5 b.V b.S b.T->cvF (Qv b.V b.S b.T) f9 i=f i:=fun i hi=>by
  rw[show cvF (Qv b.V b.S b.T) f9 i=f9 i from if_pos (Qcn hR hi),r.rest hR hi,hs i hi]
 have nd:∀ x k,1<=x->x<=b.na->k<7->cvF (Qv b.V b.S b.T) f9 (cN b.V b.S b.T x k)=f9 (cN b.V b.S b.T x k):=fun x k h1 h2 h3=>if_pos (QfQ hR h1 (by rw[<-hna];exact h2) h3)
 obtain⟨l1,l2⟩:=Qkh hR
 refine⟨hG.er.beside hR lo,hG.lf.turn ⟨fun a c ha hc=>lo _ (l1 a c ha hc),fun z h1 h2=>⟨lo _ (l2 z h1 h2).1,lo _ (l2 z h1 h2).2⟩⟩,hF,fun x k h1 h2 h3 h4=>?_,fun x h1 h2=>⟨fun h=>?_,fun h=>?_⟩,?_⟩
 . rw[nd x k h1 h2 h4];exact r.c x k h1 (by omega) h3 (by omega)
 . rw[nd x 2 h1 h2 (by omega)]
   obtain⟨e1,e2⟩:=r.p x h1 (by omega) (by unfold isP;exact decide_eq_true ⟨by omega,h⟩)
   unfold rN at e2;rw[if_pos e1] at e2;exact e2
 . rw[nd x 2 h1 h2 (by omega)]
   exact r.a x h1 (by omega) (by unfold isP;exact decide_eq_false fun e=>h e.2)
 . obtain⟨gr,hV,_⟩:=hG.lf.fo
   exact hV.lv_one hR hF fun z hz=>by
    obtain⟨nm,_,h⟩:=B.al z (by have:=Q0 hR;omega)
    exact⟨nm,h⟩
theorem QkH (hR:Rt V S T)(v6:V<=6)(s8:S<=8):Qv V S T<=600:=by
 have h1:=QY hR;have h2:=nN66 hR v6 s8;have h3:=Q0 hR
 have h4:cn V S T=o5 V S T+nd V S*7:=by unfold cn o5;omega
 have h5:o5 V S T=T+1+S*7+vn V+pr V:=rfl;have h6:=lv6i v6;have hv:=hR.v1
 have h7:vn V<=18:=by
  have:lv V*V<=3*V:=Int.mul_le_mul_of_nonneg_right h6 (by omega)
  unfold vn;omega
 have h8:pr V<=15:=by
  have:V*(V-1)<=6*(V-1):=Int.mul_le_mul_of_nonneg_right v6 (by omega)
  unfold pr;omega
 have:=hR.t2;omega
def SI13 (W:World)(eb q:Nat)(x:E1)(V S T:Int)(p g n c base:Nat)(ls:List E1):Prop:=Blk W eb 56 #[I (x.s:Int),I (x.u:Int),I (x.v:Int),I (x.l:Int),.bool x.t]/\PB13 W q V S T p (I3 (I1 g 0) n c)/\EW W base (I3 (I1 g 0) n c) ls
theorem SI13.rule {eb q g n c base i:Nat}{x:E1}(hi:ls[i]?=some x):∀ W:World,SI13 W eb q x V S T p g n c base ls->W.cell? (I1 eb 0)=some (I (x.s:Int))/\W.cell? (I1 eb 1)=some (I (x.u:Int))/\W.cell? (I1 eb 2)=some (I (x.v:Int))/\W.cell? (I1 eb 3)=some (I (x.l:Int))/\W.cell? (I1 eb 4)=some (.bool x.t)/\W.cell? (I1 q 14)=some (I3 (I1 g 0) n c)/\
 W.cell? (I1 g (i*5))=some (I (x.s:Int))/\W.cell? (I1 g (i*5+1))=some (I (x.u:Int))/\W.cell? (I1 g (i*5+2))=some (I (x.v:Int))/\W.cell? (I1 g (i*5+3))=some (I (x.l:Int))/\W.cell? (I1 g (i*5+4))=some (.bool x.t):=fun W h=>by
 obtain⟨gg,cap,e,_,_,_,g0,g1,g2,g3,g4⟩:=h.2.2.at hi;injection e with e _ _;injection e with e;injection e with e _ _;subst e;exact⟨h.1.cell 0,h.1.cell 1,h.1.cell 2,h.1.cell 3,h.1.cell 4,Blk.cell h.2.1 14,g0,g1,g2,g3,g4⟩
set_option maxHeartbeats 16000000 in
theorem Qks (h:PW13 w base q V S T p gb cap m f mk ts vl ls)(hG:LG V S T f mk ts ls qq)(hm:m+Qv V S T<=100000000)(hc:Qv V S T<=1000):
 Calls Tryz.prog 12 #[.pointer (some (I1 q 0))] w fun e w'=>e=.returned (.bool true)/\TA w' V S T p gb cap (m+Qv V S T) f mk ts/\Only p gb w w':=by
 obtain⟨g,hTM,hFI,hrs⟩:=h.ta;obtain⟨f9,hE,r⟩:=hTM.em;have HG:=q9 hG;have HR:=q9 hE.hR;have HFI:=q9 hFI;have HRS:=q9 hrs;have HRL:=q9 r;have HPW:=q9 h;have HEM:=q9 hE
 have hln:ls.length<=48:=by have:=hG.er.len_le;have:=hE.hR.s2;omega
 obtain⟨ln,hl9⟩:∃ k,ls.length=k:=⟨_,rfl⟩;have HLN:=q9 hl9;rw[hl9] at hln;have HBK:=q9 (QkM h.pq hE hm hc);obtain⟨ga,gc,hge⟩:=h.ew.slice;rw[hl9] at hge;subst hge
 have HLL:Hid (ls.length<=1000):=q9 (by omega)
 have HUN:Hid (∀ (i:Nat) (x:E1),ls[i]?=some x->∀ j y,ls[j]?=some y->y.s=x.s->j=i):=q9 fun i x hi j y hj e=>hG.er.slot1 hj hi e
 clear h hG hTM hFI hrs r hE hm hc hl9
 go_enter Tryz.func12,Tryz.ntmps12
 go_wp2_with fail
 refine HBK.mono ?_;rintro e w2 ⟨b,rfl,hB,hV,hS,hT,hE2,hO2⟩;have HB2:=q9 hB;have HVS:=q9 (And.intro hV (And.intro hS hT));have HE2:=q9 hE2;have HO2:=q9 hO2;have HSD:=q9 (QnX HG.out HR.out HFI.out HRL.out HRS.out hB hV hS hT);have HTA:Hid (TA w2 V S T p gb cap (m+Qv V S T) f mk ts):=q9 ⟨g,TM.of_em hE2 HRL.out,HFI.out,HRS.out⟩
 have HP2:Hid (PB13 w2 q V S T p (.slice ga ln gc)):=q9 (Blk.em HPW.pq HEM.out hO2 (by decide) (by decide))
 have HW2:=q9 (HPW.ew.ta HPW.ta hO2);clear hB hV hS hT hE2 hO2 HBK HPW HEM;go_upto_region 2 with fail
 have hba:Below w2.heap.size w2 (w2.alloc (bB b)):=(Below.refl _ _).alloc (Nat.le_refl _) _;have HX3:=q9 (BB.new w2 b);have HB3:=q9 (HB2.below hba);have HP3:=q9 (HP2.below hba);have HW3:=q9 (HW2.below hba);have HY3:=q9 hba;clear HB2 HP2 HW2 hba;generalize w2.alloc (bB b)=w3 at HX3 HB3 HP3 HW3 HY3 |-;generalize w2.heap.size=xb at HX3 |-;obtain⟨c0,c1,c2,c3,c4,c5,c6⟩:=HX3.cells;have xlt:=HX3.lt;obtain⟨es,hes⟩:∃ es,Qbb ls b.V.toNat b.V.toNat=es:=⟨_,rfl⟩;have hed:=QfG HB3.out HSD.er;rw[hes] at hed;have HED:=q9 hed
 have HPM:Hid (es.Perm ls):=q9 (by rw[<-hes];exact HSD.er.all_perm)
 clear hes hed;go_wp2_with fail
 refine HED.mono ?_;rintro e w4 ⟨v4,rfl,hEW,b4⟩;obtain⟨la,ln2,lc,rfl,hEW⟩:=QbI hEW
 have hl9:es.length=ln2:=by
  obtain⟨a,c,e⟩:=hEW.slice;injection e with _ e _;exact e.symm
 obtain rfl:ln=ln2:=HLN.symm.trans (HPM.length_eq.symm.trans hl9);have HEL:=q9 hl9;have HX4:=q9 (HX3.below b4);have HB4:=q9 (HB3.below b4);have HP4:=q9 (HP3.below b4);have HW4:=q9 (HW3.below b4);have HY4:=q9 (HY3.trans (b4.mono HY3.size));have HE4:=q9 hEW;clear HX3 HB3 HP3 HW3 HY3 HED b4 hEW hl9 c0 c1 c2 c3 c4 c5 c6 xlt;obtain⟨c0,c1,c2,c3,c4,c5,c6⟩:=HX4.cells;have xlt:=HX4.lt;obtain⟨z0,z1,z2,z3,z4,z5,z6,z7,z8,z9,z10,z11,z12,z13,z14⟩:=HP4.cells;have qlt:=HP4.lt;go_wp2_with fail
 refine(Qh1 HB4 HSD).mono ?_;rintro e w5 ⟨rfl,b5⟩;have HP5:=q9 (HP4.below b5);have HW5:=q9 (HW4.below b5);have HE5:=q9 (HE4.below b5);have HY5:=q9 (HY4.trans (b5.mono HY4.size));clear HX4 HB4 HP4 HW4 HE4 HY4 b5 c0 c1 c2 c3 c4 c5 c6 xlt z0 z1 z2 z3 z4 z5 z6 z7 z8 z9 z10 z11 z12 z13 z14 qlt;go_wp2_with fail
 have HREL:Hid (KT13 w5 ln (I 0) w5):=q9 ⟨0,Nat.zero_le _,rfl,Below.refl _ _⟩
 go_loopw [35] (fun i wr=>KT13 w5 ln i wr) (fun i _=>ln-(intOf i).toNat)
 case atStart=>exact HREL.out
 case round=>
  clear HREL;obtain⟨k,hk,rfl,hb⟩:=hrel;have HB:=q9 hb;clear hb
  by_cases hkn:k<ln
  . as_aux_lemma=>
    have HEk:=q9 (HE5.below HB.out)
    obtain⟨x,hx⟩:∃ x,es[k]?=some x:=⟨_,List.getElem?_eq_getElem (by have:=HEL.out;omega)⟩
    obtain⟨gb9,cap9,e1,_,glt,gfr,g0,g1,g2,g3,g4⟩:=HEk.at hx;injection e1 with e1 e2 e3;subst e1;obtain⟨i,hi⟩:=List.mem_iff_getElem?.1 (HPM.mem_iff.1 (List.mem_of_getElem? hx));have HI:=q9 hi
    have hil:i<ln:=by have:=HLN.out;have:=(List.getElem?_eq_some_iff.1 hi).1;omega
    have kI:(k:Int)<(ln:Int):=by omega
    have k0:(0:Int)<=(k:Int):=by omega
    have iI:(i:Int)<(ln:Int):=by omega
    have i0:(0:Int)<=(i:Int):=by omega
    have iN:¬ (i:Int)<0:=by omega
    have HK1:Hid (k+1<=ln):=q9 hkn;clear e2 e3 hx hi hk hkn hil;go_upto_region 8 with fail
    have hba:Below wr.heap.size wr (wr.alloc (.cells #[I (x.s:Int),I (x.u:Int),I (x.v:Int),I (x.l:Int),.bool x.t] 56)):=(Below.refl _ _).alloc (Nat.le_refl _) _;have HXE:Hid (Blk (wr.alloc (.cells #[I (x.s:Int),I (x.u:Int),I (x.v:Int),I (x.l:Int),.bool x.t] 56)) wr.heap.size 56 #[I (x.s:Int),I (x.u:Int),I (x.v:Int),I (x.l:Int),.bool x.t]):=q9 (Blk.new _ _ _);have HBa:=q9 (HB.trans (hba.mono HB.size));have HPa:=q9 (HP5.below HBa.out);have HWa:=q9 (HW5.below HBa.out);clear HB HEk hba g0 g1 g2 g3 g4 glt gfr;generalize wr.alloc (.cells #[I (x.s:Int),I (x.u:Int),I (x.v:Int),I (x.l:Int),.bool x.t] 56)=w6 at HXE HBa HPa HWa |-;generalize wr.heap.size=eb at HXE |-;have y0:=HXE.cell 0;have elt:=HXE.lt;go_wp2_with fail
    refine(Qef HPa HWa HLL HI rfl (HUN i x HI)).mono ?_;rintro e w7 ⟨rfl,b7⟩;have HX7:=q9 (HXE.below b7 HXE.lt);have HB7:=q9 (HBa.trans (b7.mono HBa.size));have HP7:=q9 (HPa.below b7);have HW7:=q9 (HWa.below b7);clear HXE HBa HPa HWa b7 y0 elt;go_wp2_with fail
    have hd:Below w7.heap.size w7 w7.drew:=(Below.refl _ _).drew
    have HN5:Hid (KT13 w5 ln (I ((k:Int)+1)) w7.drew):=q9 ⟨k+1,HK1.out,by simp,HB7.trans (hd.mono HB7.size)⟩
    obtain⟨gg,gcap,e1,_,_⟩:=(HW7.below hd).at HI.out;injection e1 with e1 e2 e3;subst e1;have HQd:Hid (SI13 w7.drew eb q x V S T p gg ln gc base ls):=q9 ⟨HX7.below hd HX7.lt,HP7.below hd,HW7.below hd⟩;clear hd HX7 HB7 HP7 HW7 e2 e3;have hrule:=SI13.rule (eb:=eb) (q:=q) (x:=x) (V:=V) (S:=S) (T:=T) (p:=p) (g:=gg) (n:=ln) (c:=gc) (base:=base) HI.out;obtain⟨y0,y1,y2,y3,y4,z14,g0,g1,g2,g3,g4⟩:=hrule _ HQd.out;have elt:=Blk.lt HQd.1;have qlt:=PB13.lt HQd.2.1;have gglt:=QdO g0
    go_region_held3 (fun W=>SI13 W eb q x V S T p gg ln gc base ls) (first|(with_reducible assumption)|(with_reducible exact HQd.out)) (fail)
    clear hrule y0 y1 y2 y3 y4 z14 g0 g1 g2 g3 g4 elt qlt gglt HQd;go_wp2_with fail
    go_roundw
    case rel=>exact HN5.out
    case measure=>have:=HK1.out;simp [intOf];omega
  . as_aux_lemma=>
    have ek:ln=k:=by omega
    subst ek
    have kN:¬ (ln:Int)<(ln:Int):=by omega
    have HYY:=q9 (HY5.trans (HB.mono HY5.size));go_wp2_with fail
    go_ret;exact⟨rfl,HTA.below HYY,HO2.trans (Only.of_below HYY)⟩
end
section
variable {w w' W:World}{zb base q p gb cap m m':Nat}{V S T:Int}{da oa:Option Addr}{dl dc ol oc:Nat}{f:Nat->Int}{mk:Nat->Nat}{ts:List Tp}{vl:Value}{ls:List E1}{qq:Nat->Nat->List Nat}
theorem QnO (h:LwX w W zb V S T da dl dc oa ol oc base q p gb cap m f mk ts vl ls qq)(hG:RH13 V S T dl ol)(hm:m<=99990000):
 Calls Tryz.prog 12 #[.pointer (some (I1 q 0))] W fun e w'=>e=.returned (.bool true)/\LwX w w' zb V S T da dl dc oa ol oc base q p gb cap (m+600) f mk ts vl ls qq:=by
 have h6:=QkH hG.r hG.v hG.s
 refine(Qks h.pw h.lg (by omega) (by omega)).mono ?_
 rintro e w' ⟨rfl,A,O⟩
 exact⟨rfl,(h.next A O h.lg).more (by omega)⟩
def Lq13 (w:World)(zb:Nat)(V S T:Int)(da:Option Addr)(dl dc:Nat)(oa:Option Addr)(ol oc:Nat)(base q p gb cap:Nat)(i:Value)(W:World):Prop:=
 ∃ k f mk ts vl ls qq,k<=ol/\i=I ((k:Nat):Int)/\LwX w W zb V S T da dl dc oa ol oc base q p gb cap (660+15280*k) f mk ts vl ls qq
end
end Go.Proofs.YtaooglagddphnaaGreat
