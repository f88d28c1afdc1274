/- Hd -/
import Derived.Test.YtfpnjpbpfgjakaaGreatOGq
import Derived.Test.YtfpnjpbpfgjakaaGreatOHc
namespace Go.Proofs.YtfpnjpbpfgjakaaGreat
open Go.RowKit Go.Proofs.Tryz
set_option maxRecDepth 100000
set_option maxHeartbeats 16000000
def cvL (f:Nat->Int)(k:Nat):List Value:=(List.range k).map fun i=>I2 (f i)
def cvF (n:Nat)(f:Nat->Int)(k:Nat):Int:=if k<n then f k else 0
section
variable {f:Nat->Int}{k:Nat}
theorem QeT:(cvL f k).length=k:=by simp [cvL]
theorem QkE:cvL f (k+1)=cvL f k++[I2 (f k)]:=by unfold cvL;rw[List.range_succ,List.map_append];rfl
theorem Qnt {n:Nat}(h:k<n):(cvL f n)[k]?=some (I2 (f k)):=by unfold cvL;rw[List.getElem?_map,List.getElem?_range h];rfl
end
section
variable {w w' w0 W:World}{V S T:Int}{p gb cap m k n q tb base:Nat}{f:Nat->Int}{vl:Value}
theorem QkA (h:EM w V S T p gb cap m f)(hk:k<Qv V S T)(hb:m<=100000000){kI:Int}(hI:kI=(k:Int)):
 I0 35 #[.pointer (some (I1 p 0)),I kI] w fun e w'=>e=.returned (.tuple #[I2 (f k),I 0])/\EM w' V S T p gb cap (m+1) f/\Only p gb w w':=by
 subst hI;obtain⟨h1,c,A,C⟩:=h;refine(QgL A hk C hb).mono ?_;rintro e w' ⟨rfl,A2,O2⟩;exact⟨rfl,⟨h1,_,A2,C.upd 0⟩,O2⟩
theorem EM.keep13 (h:EM w V S T p gb cap m f)(hp:w'.heap[p]?=w.heap[p]?)(hg:w'.heap[gb]?=w.heap[gb]?):EM w' V S T p gb cap m f:=by
 obtain⟨hR,c,A,C⟩:=h;obtain⟨zs,hz,hc⟩:=A.cells;exact⟨hR,c,⟨hp.trans A.own,⟨zs,hg.trans hz,hc⟩,A.le,A.few,A.fit⟩,C⟩
theorem Only.grown13 {o:Option Nat}(h:Only p gb w0 w)(hg:w.grownBy w' o)(hs:∀ r,o=some r->w0.heap.size<=r):Only p gb w0 w':=by
 refine⟨hg.os.trans h.os,hg.tape.trans h.tape,hg.output.trans h.output,Nat.le_trans h.size hg.size,fun i hi h1 h2=>(hg.block i (Nat.lt_of_lt_of_le hi h.size) fun e=>?_).trans (h.block i hi h1 h2)⟩
 have:=hs i e.symm;omega
theorem Only.cells13 (h:Only p gb w0 w)(hb:w0.heap.size<=tb):∀ (vs:List Value) (j:Nat),Only p gb w0 (w.setCells tb j vs):=by
 intro vs
 induction vs generalizing w with
 |nil=>exact fun _=>h
 |cons v vs ih=>exact fun j=>ih (w:=w.setCell (I1 tb j) v) ⟨h.os,h.tape,h.output,Nat.le_trans h.size (by simp),fun i hi h1 h2=>(Below.heap_setCell w (I1 tb j) v i (fun e=>by have e:i=tb:=e;omega)).trans (h.block i hi h1 h2)⟩ (j+1)
theorem Qab:∀ (vs:List Value) (j:Nat) {w:World} {i:Nat},i≠tb->(w.setCells tb j vs).heap[i]?=w.heap[i]?
 |[],_,_,_,_=>rfl
 |v :: vs,j,w,i,h=>(Qab vs (j+1) h).trans (Below.heap_setCell w (I1 tb j) v i (fun e=>h (by rw[e])))
theorem Qev {w:World}{base n:Nat}{T9 E9:TypeId}{zv:Value}{by9:Nat}(hT:prog.underlying T9=some (.slice E9))(hE:(prog.info? E9).map (fun i=>(i.zero,i.size,i.bytes))=some (some zv,1,by9))(hzv:zv.cells.size=1)(hby:by9<=64)
 {ops:Array Oper} {rest:List Oper} {o:Oper} {a:Act} {Q:Exit->Act->World->Prop} (hgd:o.guard=none) (s x:Operand)
 (ho:o.op=.call { callee:=.builtin .append,args:=#[s,x],argTypes:=#[T9,T9]})
 {v:Value} {xs:List Value} (hs:a.eval s=v) (hn:xs.length=n) (h:w.ownsRow base E9 1 v n xs) (u:Value) (hu:u.oneCell'=true) (ad:Addr) (c:Nat) (hx:a.eval x=.slice (some ad) 1 c) (hc:w.cell? (ad.add 0)=some u) (hl:n<=2000) (hb:base<=w.heap.size)
 (hK:∀ v' w',w'.ownsRow base E9 1 v' (n+1) (xs++[u])->w.grownBy w' v.ownBlock->wpList prog ops Q rest (a.put o.dst v') w'):wpList prog ops Q (o :: rest) a w:=by
 subst hn
 refine Qbh hT hE hzv hby hgd s x ho hs h u hu ad c hx hc (Nat.le_trans hl (by decide)) hb fun v' w' h1 h2=>hK v' w' ?_ h2
 rw[List.length_append,List.length_singleton] at h1;exact h1
def KB9 (w0:World)(q tb:Nat)(V S T:Int)(p gb cap m:Nat)(f:Nat->Int)(vl:Value)(v i:Value)(W:World):Prop:=
 ∃ k a c,k<=Qv V S T/\i=I ((k:Nat):Int)/\v=.slice a k c/\W.ownsRow w0.heap.size 88 1 (.slice a k c) k (cvL f k)/\PB13 W q V S T p vl/\Blk W tb 39 #[I 0,I 0,I 0,.slice none 0 0,.slice none 0 0,.map none,.slice none 0 0]/\EM W V S T p gb cap (m+k) f/\Only p gb w0 W
theorem Qnx {b:BkV}{cv:Nat->Int}{vs:List Value}{zs:Array Value}(B:Bk w b cv)(hT:Blk w tb 39 #[I 0,I 0,I 0,.slice none 0 0,.slice none 0 0,.map none,.slice none 0 0])(h1:b.ga≠tb)(hc:Blk w b.cb 88 zs):Bk (w.setCells tb 0 vs) b cv:=by
 have n1:b.cb≠tb:=Blk.ne_ hc hT (by decide)
 have n2:b.wb≠tb:=B.wm.ne_blk hT
 have hs:∀ i,i<w.heap.size->i≠tb->i<(w.setCells tb 0 vs).heap.size:=fun i hi hn=>by
  have h3:w.heap[i]?=some w.heap[i]:=Array.getElem?_eq_getElem hi;have h4:=Qab (w:=w) vs 0 hn;rw[h3] at h4;exact(Array.getElem?_eq_some_iff.1 h4).1
 exact⟨B.hR,B.hc,B.ha,B.wm.keep (Qab vs 0 n2),fun k hk=>(QJ (Qab vs 0 n1)).trans (B.cs k hk),fun k hk=>by
  obtain⟨m,h2,h3⟩:=B.al k hk;exact⟨m,h2.kept (Qab vs 0 h1),h3⟩,⟨hs _ B.lt.1 n1,hs _ B.lt.2 h1⟩,B.rg,B.cp⟩
theorem QhG {b:BkV}(hT:Blk w tb 39 #[I 0,I 0,I 0,.slice none 0 0,.slice none 0 0,.map none,.slice none 0 0]):Blk (w.setCells tb 0 [I b.V,I b.S,I b.T,I3 (I1 b.gn 0) b.nn b.cn,I3 (I1 b.cb 0) b.cl b.cc,.map (some b.wb),I3 (I1 b.ga 0) b.na b.ca]) tb 39 #[I b.V,I b.S,I b.T,I3 (I1 b.gn 0) b.nn b.cn,I3 (I1 b.cb 0) b.cl b.cc,.map (some b.wb),I3 (I1 b.ga 0) b.na b.ca]:=by
 have t0:Blk (w.setCell (I1 tb 0) (I b.V)) tb 39 #[I b.V,I 0,I 0,.slice none 0 0,.slice none 0 0,.map none,.slice none 0 0]:=hT.set_ 0 _;have t1:Blk ((w.setCell (I1 tb 0) (I b.V)).setCell (I1 tb 1) (I b.S)) tb 39 #[I b.V,I b.S,I 0,.slice none 0 0,.slice none 0 0,.map none,.slice none 0 0]:=t0.set_ 1 _;have t2:Blk (((w.setCell (I1 tb 0) (I b.V)).setCell (I1 tb 1) (I b.S)).setCell (I1 tb 2) (I b.T)) tb 39 #[I b.V,I b.S,I b.T,.slice none 0 0,.slice none 0 0,.map none,.slice none 0 0]:=t1.set_ 2 _;have t3:Blk ((((w.setCell (I1 tb 0) (I b.V)).setCell (I1 tb 1) (I b.S)).setCell (I1 tb 2) (I b.T)).setCell (I1 tb 3) (I3 (I1 b.gn 0) b.nn b.cn)) tb 39 #[I b.V,I b.S,I b.T,I3 (I1 b.gn 0) b.nn b.cn,.slice none 0 0,.map none,.slice none 0 0]:=t2.set_ 3 _;have t4:Blk (((((w.setCell (I1 tb 0) (I b.V)).setCell (I1 tb 1) (I b.S)).setCell (I1 tb 2) (I b.T)).setCell (I1 tb 3) (I3 (I1 b.gn 0) b.nn b.cn)).setCell (I1 tb 4) (I3 (I1 b.cb 0) b.cl b.cc)) tb 39 #[I b.V,I b.S,I b.T,I3 (I1 b.gn 0) b.nn b.cn,I3 (I1 b.cb 0) b.cl b.cc,.map none,.slice none 0 0]:=t3.set_ 4 _;have t5:Blk ((((((w.setCell (I1 tb 0) (I b.V)).setCell (I1 tb 1) (I b.S)).setCell (I1 tb 2) (I b.T)).setCell (I1 tb 3) (I3 (I1 b.gn 0) b.nn b.cn)).setCell (I1 tb 4) (I3 (I1 b.cb 0) b.cl b.cc)).setCell (I1 tb 5) (.map (some b.wb))) tb 39 #[I b.V,I b.S,I b.T,I3 (I1 b.gn 0) b.nn b.cn,I3 (I1 b.cb 0) b.cl b.cc,.map (some b.wb),.slice none 0 0]:=t4.set_ 5 _;have t6:Blk (((((((w.setCell (I1 tb 0) (I b.V)).setCell (I1 tb 1) (I b.S)).setCell (I1 tb 2) (I b.T)).setCell (I1 tb 3) (I3 (I1 b.gn 0) b.nn b.cn)).setCell (I1 tb 4) (I3 (I1 b.cb 0) b.cl b.cc)).setCell (I1 tb 5) (.map (some b.wb))).setCell (I1 tb 6) (I3 (I1 b.ga 0) b.na b.ca)) tb 39 #[I b.V,I b.S,I b.T,I3 (I1 b.gn 0) b.nn b.cn,I3 (I1 b.cb 0) b.cl b.cc,.map (some b.wb),I3 (I1 b.ga 0) b.na b.ca]:=t5.set_ 6 _;exact t6
theorem QkM (hq:PB13 w q V S T p vl)(hE:EM w V S T p gb cap m f)(hm:m+Qv V S T<=100000000)(hc9:Qv V S T<=2000):
 I0 14 #[.pointer (some (I1 q 0))] w fun e w'=>∃ b:BkV,e=.returned (vB b)/\Bk w' b (cvF (Qv V S T) f)/\b.V=V/\b.S=S/\b.T=T/\EM w' V S T p gb cap (m+Qv V S T) f/\Only p gb w w':=by
 obtain⟨n,hn⟩:∃ k,Qv V S T=k:=⟨_,rfl⟩;have HN:=q9 hn
 have hcn:cn V S T=(n:Int):=by rw[<-hn];exact(QY hE.hR).symm
 have HCN:=q9 hcn;have HR:=q9 hE.hR;have HPG:=q9 (And.intro hE.p_lt hE.g_lt)
 have HFT:Hid (∀ k,k<n->0<=f k/\f k<=18446744073709551615):=q9 (by
  obtain⟨_,_,A,_⟩:=hE;rw[<-hn];exact A.fit)
 rw[hn] at hm hc9;have HM:=q9 hm
 have nI:(n:Int)<=2000:=by omega
 have n1:0<n:=by
  have:=Qj5 hE.hR;have:=(sizes hE.hR).nd1
  have e3:cn V S T=o5 V S T+nd V S*7:=by unfold cn o5;omega
  omega
 have hb1:Below w.heap.size w (w.alloc (.cells #[I 0,I 0,I 0,.slice none 0 0,.slice none 0 0,.map none,.slice none 0 0] 39)):=Ja.alloc Jb _;have HREL:Hid (KB9 w q w.heap.size V S T p gb cap m f vl (.slice none 0 0) (I 0) (w.alloc (.cells #[I 0,I 0,I 0,.slice none 0 0,.slice none 0 0,.map none,.slice none 0 0] 39))):=q9 ⟨0,none,0,Nat.zero_le _,rfl,rfl,World.ownsRow_nil _ _ _ _,hq.below hb1,Blk.new _ _ _,hE.below hb1,Only.of_below hb1⟩;have HQ1:=q9 (hq.below hb1);have HTB:Hid (w.heap.size<=w.heap.size):=q9 Jb;clear hq hE hm hb1 hcn hn
 go_enter func14,ntmps14
 go_upto_region 2 with fail
 generalize w.alloc (.cells #[I 0,I 0,I 0,.slice none 0 0,.slice none 0 0,.map none,.slice none 0 0] 39)=w1 at HREL HQ1 |-;generalize htb:w.heap.size=tb at HREL HTB |-;have HTE:=q9 htb;clear htb;obtain⟨c0,c1,c2,c3,c4,c5,c6,c7,c8,c9,c10,c11,c12,c13,c14⟩:=HQ1.cells;have qlt:=HQ1.lt;go_wp2_with fail
 refine(QfN V S T HR _).mono ?_;rintro e w2 ⟨rfl,b2⟩;rw[HCN.out]
 have HREL2:Hid (KB9 w q tb V S T p gb cap m f vl (.slice none 0 0) (I 0) w2):=q9 (by
  obtain⟨k,a,c,h1,h2,h3,h4,h5,h6,h7,h8⟩:=HREL.out;exact⟨k,a,c,h1,h2,h3,QR h4 b2,h5.below b2,h6.below b2 h6.lt,h7.below b2,h8.trans (Only.of_below b2)⟩)
 clear HREL HQ1 b2;go_wp2_with fail
 go_loopw [3,12] (fun v i wr=>KB9 w q tb V S T p gb cap m f vl v i wr) (fun _ i _=>n-(intOf i).toNat)
 case atStart=>exact HREL2.out
 case round=>
  clear HREL2;obtain⟨k,ra,rc,hk,rfl,rfl,hr,hq,ht,he,ho⟩:=hrel;have HRW:=q9 hr;have HQ:=q9 hq;have HT:=q9 ht;have HE:=q9 he;have HO:=q9 ho;rw[HN.out] at hk;clear hr hq ht he ho;obtain⟨c0,c1,c2,c3,c4,c5,c6,c7,c8,c9,c10,c11,c12,c13,c14⟩:=HQ.cells;have qlt:=HQ.lt
  by_cases hkn:k<n
  . as_aux_lemma=>
    have HKN:Hid (k<Qv V S T):=q9 (by rw[HN.out];exact hkn)
    have HMK:Hid (m+k<=100000000):=q9 (by have:=HM.out;omega)
    have HK1:Hid (k+1<=n):=q9 hkn
    have kI:(k:Int)<(n:Int):=by omega
    have k0:(0:Int)<=(k:Int):=by omega
    clear hk hkn;go_wp2_with fail
    refine(QkA HE HKN HMK rfl).mono ?_;rintro e w3 ⟨rfl,hE3,hO3⟩;have HE3:=q9 hE3
    have HR3:Hid (w3.ownsRow w.heap.size 88 1 (.slice ra k rc) k (cvL f k)):=q9 (QbE HRW.out fun i hi=>by
     have h1:=World.ownsRow.lt HRW.out i hi;have h2:=HPG.out
     exact hO3.block i h1.2 (by omega) (by omega))
    have HQ3:Hid (PB13 w3 q V S T p vl):=q9 (Blk.em HQ.out HE.out hO3 (by decide) (by decide))
    have HT3:=q9 (Blk.em HT.out HE.out hO3 (by decide) (by decide))
    have HO3:=q9 (HO.trans hO3);clear HRW HQ HT HE HO hE3 hO3;have HS3:Hid (w.heap.size<=w3.heap.size):=q9 HO3.size
    go_wp2_with (at_builtin;go_loud (refine Qev (n:=k) (base:=w.heap.size) (v:=.slice ra k rc) (xs:=cvL f k) underlying24 Qdh rfl (by decide) rfl _ _ rfl rfl QeT (World.ownsRow.alloc HR3.out _) (I2 (f k)) rfl (I1 w3.heap.size 0) 1 rfl (Q5 _ _ _) (by have:=HK1.out;omega) (Nat.le_trans HS3.out (by simp)) ?_))
    intro v5 w5 hu5 hg5;obtain⟨a5,c5,e5⟩:=Qf9 hu5;subst e5;have hra:=World.ownsRow.alloc HR3.out (.cells #[I2 (f k)] 88)
    have hlt:∀ i,i<w3.heap.size->i<(w3.alloc (.cells #[I2 (f k)] 88)).heap.size:=fun i hi=>by simp;omega
    have hold:∀ i,i<w.heap.size->w5.heap[i]?=w3.heap[i]?:=fun i hi=>by
     have hi3:i<w3.heap.size:=Nat.lt_of_lt_of_le hi HS3.out
     refine(hg5.block i (hlt i hi3) fun e=>?_).trans (Below.refl w3.heap.size w3 |>.alloc Jb (.cells #[I2 (f k)] 88) |>.block i hi3)
     have h1:=(World.ownsRow.lt hra i e.symm).1;omega
    have HN5:Hid (KB9 w q tb V S T p gb cap m f vl (.slice a5 (k+1) c5) (I ((k:Int)+1)) w5):=q9 ⟨k+1,a5,c5,by rw[HN.out];exact HK1.out,by simp,rfl,by rw[QkE];exact hu5,Qa7 hra (HQ3.alloc _) (by decide) hg5,Qa7 hra (HT3.alloc _) (by decide) hg5,HE3.keep13 (hold p HPG.1) (hold gb HPG.2),(HO3.alloc _).grown13 hg5 fun r hr=>(World.ownsRow.lt hra r hr).1⟩
    clear hu5 hg5 hra hold HR3 HQ3 HT3 HE3 HO3;go_wp2_with fail
    go_roundw
    case rel=>exact HN5.out
    case measure=>have:=HK1.out;simp [intOf];omega
  . as_aux_lemma=>
    have ek:n=k:=by omega
    subst ek
    have kN:¬ (n:Int)<(n:Int):=by omega
    obtain⟨cb,cc,zs,e9,hcb,hzs,hzv⟩:=QbD (xs:=cvL f n) (by rw[QeT];exact HRW.out) (by rw[QeT];exact n1)
    rw[QeT] at e9;injection e9 with e9 _ e8;subst e9 e8
    have HZS:=q9 (And.intro hzs (And.intro hcb (fun k (hk:k<n)=>(hzs.cell k).trans (hzv k _ (Qnt (f:=f) hk)))))
    clear hzs hzv hcb HRW hk hkn;go_wp2_with fail
    refine(Qfl V S T _).mono ?_;rintro e w3 ⟨rfl,b3⟩;have HQ3:=q9 (HQ.below b3);have HT3:=q9 (HT.below b3 HT.lt);have HE3:=q9 (HE.below b3);have HO3:=q9 (HO.trans (Only.of_below b3));have HZ3:Hid (Blk w3 cb 88 zs):=q9 (HZS.1.below b3 HZS.1.lt)
    have HC3:Hid (∀ k,k<n->w3.cell? (I1 cb k)=some (I2 (cvF n f k))):=q9 fun k hk=>by
     rw[show cvF n f k=f k from if_pos hk];exact Qi b3 (HZS.2.2 k hk)
    clear HQ HT HE HO HZS b3;go_wp2_with fail
    refine(Qj3 HR HCN.symm HC3 HZ3.lt (fun k=>by
     unfold cvF
     split
     . exact HFT k (by assumption)
     . omega) (by omega)).mono ?_
    rintro e w4 ⟨b,rfl,hB,hV,hS,hT9,b4,hga,hcb4⟩;have HT4:=q9 (HT3.below b4 HT3.lt);have HE4:=q9 (HE3.below b4);have HO4:=q9 (HO3.trans (Only.of_below b4))
    have HZ4:Hid (Blk w4 b.cb 88 zs):=q9 (by rw[hcb4];exact HZ3.below b4 HZ3.lt)
    have HGA:Hid (b.ga≠tb):=q9 (by have:=HT3.lt;omega)
    have HB4:=q9 hB;have HVS:=q9 (And.intro hV (And.intro hS hT9));clear HQ3 HT3 HE3 HO3 HZ3 HC3 hB hV hS hT9 b4 hga hcb4;have HTH:=q9 (Qw HT4.out (m:=7) rfl);have HBF:=q9 (Qnx (vs:=[I b.V,I b.S,I b.T,I3 (I1 b.gn 0) b.nn b.cn,I3 (I1 b.cb 0) b.cl b.cc,.map (some b.wb),I3 (I1 b.ga 0) b.na b.ca]) HB4.out HT4.out HGA.out HZ4.out);have HRT:=q9 (QhG (b:=b) HT4.out)
    have HEF:=q9 (HE4.keep13 (Qab (tb:=tb) [I b.V,I b.S,I b.T,I3 (I1 b.gn 0) b.nn b.cn,I3 (I1 b.cb 0) b.cl b.cc,.map (some b.wb),I3 (I1 b.ga 0) b.na b.ca] 0 (by have:=HPG.out;have:=HTE.out;omega)) (Qab (tb:=tb) [I b.V,I b.S,I b.T,I3 (I1 b.gn 0) b.nn b.cn,I3 (I1 b.cb 0) b.cl b.cc,.map (some b.wb),I3 (I1 b.ga 0) b.na b.ca] 0 (by have:=HPG.out;have:=HTE.out;omega)))
    have HOF:=q9 (HO4.cells13 (tb:=tb) (by rw[HTE.out];exact Nat.le_refl _) [I b.V,I b.S,I b.T,I3 (I1 b.gn 0) b.nn b.cn,I3 (I1 b.cb 0) b.cl b.cc,.map (some b.wb),I3 (I1 b.ga 0) b.na b.ca] 0)
    clear HT4 HE4 HO4 HZ4 HGA HB4
    go_wp2_with (refine QbQ (by rfl) 39 _ _ (by rfl) tb [I b.V,I b.S,I b.T,I3 (I1 b.gn 0) b.nn b.cn,I3 (I1 b.cb 0) b.cl b.cc,.map (some b.wb),I3 (I1 b.ga 0) b.na b.ca] (by rfl) (by rfl) HTH.out (by kernel_rfl) (by rfl) ?_)
    try simp only[Exit.inBlock,Exit.then]
    refine bodyPost_ret (v:=vB b) ?_ rfl ?_
    . exact results_cell_row rfl _ _ tb 39 _ _ _ rfl HRT underlying39 rfl (by kernel_rfl)
    exact⟨b,rfl,by rw[HN.out];exact HBF.out,HVS.1,HVS.2.1,HVS.2.2,by rw[HN.out];exact HEF,HOF⟩
end
section
variable {w:World}{V S T:Int}{p x:Nat}{f f9:Nat->Int}{g:Mg9}{mk:Nat->Nat}{ts:List Tp}{bs:List E1}{qq:Nat->Nat->List Nat}{b:BkV}
theorem Qkh (hR:Rt V S T):(∀ a c:Nat,(a:Int)<V->(c:Int)<lv V->(hC V S T a c:Int)<o5 V S T)/\∀ z:Nat,1<=z->(z:Int)<=2*S->(pvC S T z:Int)<o5 V S T/\(nxC S T z:Int)<o5 V S T:=⟨fun _ _ ha hc=>Qgg hR ha hc,fun _ h1 h2=>⟨QlG hR h1 h2,Qna hR h1 h2⟩⟩
theorem QnX (hG:LG V S T f mk ts bs qq)(hR:Rt V S T)(hF:FI V S g mk ts)(r:Rl V S T f9 g)(hs:∀ i:Nat,(i:Int)<o5 V S T->rs V S g i=f i)(B:Bk w b (cvF (Qv V S T) f9))(hV:b.V=V)(hS:b.S=S)(hT:b.T=T):Sd13 b (cvF (Qv V S T) f9) g mk ts bs qq:=by
 subst hV hS hT;have hna:b.na=nN b.V b.S:=B.ha
 have lo:∀ i:Nat,(i:Int)<o5 b.V b.S b.T->cvF (Qv b.V b.S b.T) f9 i=f i:=fun i hi=>by
  rw[show cvF (Qv b.V b.S b.T) f9 i=f9 i from if_pos (Qcn hR hi),r.rest hR hi,hs i hi]
 have nd:∀ x k,1<=x->x<=b.na->k<7->cvF (Qv b.V b.S b.T) f9 (cN b.V b.S b.T x k)=f9 (cN b.V b.S b.T x k):=fun x k h1 h2 h3=>if_pos (QfQ hR h1 (by rw[<-hna];exact h2) h3)
 obtain⟨l1,l2⟩:=Qkh hR
 refine⟨hG.er.beside hR lo,hG.lf.turn ⟨fun a c ha hc=>lo _ (l1 a c ha hc),fun z h1 h2=>⟨lo _ (l2 z h1 h2).1,lo _ (l2 z h1 h2).2⟩⟩,hF,fun x k h1 h2 h3 h4=>?_,fun x h1 h2=>⟨fun h=>?_,fun h=>?_⟩,?_⟩
 . rw[nd x k h1 h2 h4];exact r.c x k h1 (by omega) h3 (by omega)
 . rw[nd x 2 h1 h2 (by omega)]
   obtain⟨e1,e2⟩:=r.p x h1 (by omega) (by unfold isP;exact decide_eq_true ⟨by omega,h⟩)
   unfold rN at e2;rw[if_pos e1] at e2;exact e2
 . rw[nd x 2 h1 h2 (by omega)]
   exact r.a x h1 (by omega) (by unfold isP;exact decide_eq_false fun e=>h e.2)
 . obtain⟨gr,hV,_⟩:=hG.lf.fo
   exact hV.lv_one hR hF fun z hz=>by
    obtain⟨nm,_,h⟩:=B.al z (by have:=Q0 hR;omega)
    exact⟨nm,h⟩
end
theorem lv8 {V:Int}(v8:V<=8):lv V<=4:=by unfold lv;split<;>(try split)<;>(try split)<;>(try split)<;>omega
theorem Qoz {V S T:Int}(hR:Rt V S T)(v8:V<=8)(s12:S<=12):nN V S<=128:=by
 have h1:=Q0 hR;have h2:=lv8 v8;have h3:=(QF V).1
 have h4:lv V*V<=4*V:=Int.mul_le_mul_of_nonneg_right h2 (by have:=hR.v1;omega)
 have h5:S*(lv V*2)<=12*(lv V*2):=Int.mul_le_mul_of_nonneg_right s12 (by omega)
 have h6:nd V S=lv V*V+S*(lv V*2):=rfl;omega
theorem Qo8 {V S T:Int}(hR:Rt V S T)(v8:V<=8)(s12:S<=12):Qv V S T<=1300:=by
 have h1:=QY hR;have h2:=Qoz hR v8 s12;have h3:=Q0 hR
 have h4:cn V S T=o5 V S T+nd V S*7:=by unfold cn o5;omega
 have h5:o5 V S T=T+1+S*7+vn V+pr V:=rfl;have h6:=lv8 v8;have hv:=hR.v1
 have h7:vn V<=32:=by
  have:lv V*V<=4*V:=Int.mul_le_mul_of_nonneg_right h6 (by omega)
  unfold vn;omega
 have h8:pr V<=28:=by
  have:V*(V-1)<=8*(V-1):=Int.mul_le_mul_of_nonneg_right v8 (by omega)
  unfold pr;omega
 have:=hR.t2;omega
theorem QpE {V S T:Int}(hR:Rt V S T)(v8:V<=8)(s12:S<=12):dC V S<=264000:=by
 have h1:=Qoz hR v8 s12
 have h2:S.toNat+1<=13:=by omega
 have h3:(S.toNat+1)*(118*nN V S+52)<=13*(118*128+52):=Nat.mul_le_mul h2 (by omega)
 have h4:(S.toNat+1)*(38*nN V S+140)<=13*(38*128+140):=Nat.mul_le_mul h2 (by omega)
 unfold dC;omega
section
variable {w' W:World}{V S T:Int}{base q p gb cap m:Nat}{f:Nat->Int}{mk:Nat->Nat}{ts:List Tp}{vl:Value}{ls bs es:List E1}{qq:Nat->Nat->List Nat}{b:BkV}
def Bo14 (b:BkV)(bs:List E1)(W:World):Prop:=∃ cv g mk ts qq,Bk W b cv/\Sd13 b cv g mk ts bs qq
theorem QoN (h:PW13 W base q V S T p gb cap m f mk ts vl ls)(hG:LG V S T f mk ts bs qq)(v8:V<=8)(s12:S<=12)(hm:m<=99900000):
 I0 14 #[.pointer (some (I1 q 0))] W fun e w'=>∃ b:BkV,e=.returned (vB b)/\Bo14 b bs w'/\b.V=V/\TA w' V S T p gb cap (m+1300) f mk ts/\Only p gb W w':=by
 have h6:=Qo8 h.ta.hR v8 s12;obtain⟨g,hTM,hFI,hrs⟩:=h.ta;obtain⟨f9,hE,r⟩:=hTM.em
 refine(QkM h.pq hE (by omega) (by omega)).mono ?_
 rintro e w' ⟨b,rfl,hB,hV,hS,hT,hE2,hO⟩;have A:TA w' V S T p gb cap (m+Qv V S T) f mk ts:=⟨g,TM.of_em hE2 r,hFI,hrs⟩
 exact⟨b,rfl,⟨_,g,mk,ts,qq,hB,QnX hG hE.hR hFI r hrs hB hV hS hT⟩,hV,A.more (by omega),hO⟩
theorem Bo14.edges (h:Bo14 b bs W)(hb:base<=W.heap.size):
 I0 18 #[vB b] W fun e w'=>∃ v es,e=.returned (.tuple #[v,.bool true])/\es.Perm bs/\EW w' base v es/\Below W.heap.size W w':=by
 obtain⟨cv,g,mk,ts,qq,hB,hS⟩:=h;refine(QfG hB hS.er).mono ?_;rintro e w' ⟨v,rfl,hE,hb'⟩;exact⟨v,_,rfl,hS.er.all_perm,hE.less hb,hb'⟩
theorem Bo14.sound (h:Bo14 b bs W)(hs:Hs b.V.toNat bs):
 I0 15 #[vB b,.bool true] W fun e w'=>e=.returned (.bool true)/\Below W.heap.size W w':=by
 obtain⟨cv,g,mk,ts,qq,hB,hS⟩:=h;exact Qpp hB hS hs
end
def fE:Option E1->Value
 |some x=>.agg #[I (x.s:Int),I (x.u:Int),I (x.v:Int),I (x.l:Int),.bool x.t]
 |none=>.agg #[I 0,I 0,I 0,I 0,.bool false]
def fdE (l:List E1)(s:Int):Option E1:=l.find? fun x=>(x.s:Int)==s
section
variable {w w':World}{base n:Nat}{v:Value}{l:List E1}{x:E1}{s:Int}
theorem Qpk (h:∀ x∈l,(x.s:Int)≠s):fdE l s=none:=List.find?_eq_none.2 fun x hx=>by simpa using h x hx
theorem Qpj {k:Nat}(hk:l[k]?=some x)(h:∀ (j:Nat) (y:E1),j<k->l[j]?=some y->(y.s:Int)≠s)(e:(x.s:Int)=s):fdE l s=some x:=by
 obtain⟨hlt,hx⟩:=Jd hk;unfold fdE;rw[List.find?_eq_some_iff_getElem]
 refine⟨by simpa using e,k,hlt,hx,fun j hj=>?_⟩
 have:=h j _ hj (Jh (by omega))
 simpa using this
theorem Blk.five {r:Nat}{ty:TypeId}{x0 x1 x2 x3 x4:Value}(h:Blk w r ty #[x0,x1,x2,x3,x4])(y0 y1 y2 y3 y4:Value):Blk (((((w.setCell (I1 r 0) y0).setCell (I1 r 1) y1).setCell (I1 r 2) y2).setCell (I1 r 3) y3).setCell (I1 r 4) y4) r ty #[y0,y1,y2,y3,y4]:=by
 have k0:Blk (w.setCell (I1 r 0) y0) r ty #[y0,x1,x2,x3,x4]:=h.set_ 0 y0;have k1:Blk ((w.setCell (I1 r 0) y0).setCell (I1 r 1) y1) r ty #[y0,y1,x2,x3,x4]:=k0.set_ 1 y1;have k2:Blk (((w.setCell (I1 r 0) y0).setCell (I1 r 1) y1).setCell (I1 r 2) y2) r ty #[y0,y1,y2,x3,x4]:=k1.set_ 2 y2;have k3:Blk ((((w.setCell (I1 r 0) y0).setCell (I1 r 1) y1).setCell (I1 r 2) y2).setCell (I1 r 3) y3) r ty #[y0,y1,y2,y3,x4]:=k2.set_ 3 y3;exact k3.set_ 4 y4
theorem QoC {r b:Nat}(h:Below b w w')(hr:b<=r)(y0 y1 y2 y3 y4:Value):Below b w (((((w'.setCell (I1 r 0) y0).setCell (I1 r 1) y1).setCell (I1 r 2) y2).setCell (I1 r 3) y3).setCell (I1 r 4) y4):=
 ((((h.setCell (p:=(I1 r 0)) hr _).setCell (p:=(I1 r 1)) hr _).setCell (p:=(I1 r 2)) hr _).setCell (p:=(I1 r 3)) hr _).setCell (p:=(I1 r 4)) hr _
def QoU (w0:World)(rb:Nat)(l:List E1)(s:Int)(i:Value)(W:World):Prop:=Below w0.heap.size w0 W/\Blk W rb 67 #[I 0,I 0,I 0,I 0,.bool false]/\∃ k,k<=l.length/\i=I ((k:Nat):Int)/\∀ (j:Nat) (y:E1),j<k->l[j]?=some y->(y.s:Int)≠s
theorem Qop (hO:EW w base v l)(hl:l.length<=1000):
 I0 19 #[v,I s] w fun e w'=>e=.returned (fE (fdE l s))/\Below w.heap.size w w':=by
 obtain⟨av,ac,rfl⟩:=hO.slice;obtain⟨n,hn⟩:∃ n,l.length=n:=⟨_,rfl⟩;have HN:=q9 hn;have HO:=q9 hO;rw[hn] at HO hl |-
 have nI:(n:Int)<=1000:=by omega
 have HRel:Hid (QoU w w.heap.size l s (I 0) (w.alloc (.cells #[I 0,I 0,I 0,I 0,.bool false] 67))):=q9 ⟨Ja.alloc Jb _,Blk.new _ _ _,0,Nat.zero_le _,rfl,fun _ _ h=>absurd h (Nat.not_lt_zero _)⟩
 clear hO hn
 go_enter func19,ntmps19
 go_wp2_with fail
 generalize w.alloc (.cells #[I 0,I 0,I 0,I 0,.bool false] 67)=w1 at HRel |-;generalize hrb:w.heap.size=rb at HRel |-;have HRB:=q9 hrb;clear hrb
 go_loopw [9] (fun i9 wr=>QoU w rb l s i9 wr) (fun i9 _=>n-(intOf i9).toNat)
 case atStart=>exact HRel.out
 case round=>
  clear HRel;obtain⟨hb,hz,k,hk,rfl,hno⟩:=hrel;have HB:=q9 hb;have HZ:=q9 hz;have HNO:=q9 hno;rw[HN.out] at hk;clear hb hz hno
  by_cases hkn:k<n
  . obtain⟨x,hx⟩:∃ x,l[k]?=some x:=⟨_,Jh (by have:=HN.out;omega)⟩
    have HX:=q9 hx;obtain⟨g,cp9,e,_,glt,_,y0,y1,y2,y3,y4⟩:=(HO.below HB.out).at hx;injection e with e1 e2 e3;subst e1 e3
    have kI:(k:Int)<(n:Int):=by omega
    have k0:(0:Int)<=(k:Int):=by omega
    have HKN:Hid (k<n):=q9 hkn;have HBA:=q9 (HB.alloc HB.size (.cells #[I (x.s:Int),I (x.u:Int),I (x.v:Int),I (x.l:Int),.bool x.t] 67));have HZA:=q9 (HZ.alloc (.cells #[I (x.s:Int),I (x.u:Int),I (x.v:Int),I (x.l:Int),.bool x.t] 67));clear hx e2 hk hkn
    by_cases hxs:(x.s:Int)=s
    . have e3:((x.s:Int)==s)=true:=by rw[hxs];exact beq_self_eq_true _
      have HR9:Hid (fdE l s=some x):=q9 (Qpj HX.out HNO.out hxs);have HTH:=q9 (Qw HZA.out (m:=5) rfl);have HZ5:Hid (Blk ((wr.alloc (.cells #[I (x.s:Int),I (x.u:Int),I (x.v:Int),I (x.l:Int),.bool x.t] 67)).setCells rb 0 [I (x.s:Int),I (x.u:Int),I (x.v:Int),I (x.l:Int),.bool x.t]) rb 67 #[I (x.s:Int),I (x.u:Int),I (x.v:Int),I (x.l:Int),.bool x.t]):=q9 (HZA.five (I (x.s:Int)) (I (x.u:Int)) (I (x.v:Int)) (I (x.l:Int)) (.bool x.t));have HB5:Hid (Below w.heap.size w ((wr.alloc (.cells #[I (x.s:Int),I (x.u:Int),I (x.v:Int),I (x.l:Int),.bool x.t] 67)).setCells rb 0 [I (x.s:Int),I (x.u:Int),I (x.v:Int),I (x.l:Int),.bool x.t])):=q9 (QoC HBA.out (r:=rb) (Nat.le_of_eq HRB.out) (I (x.s:Int)) (I (x.u:Int)) (I (x.v:Int)) (I (x.l:Int)) (.bool x.t));clear hxs
      go_wp2_with (refine QbQ (by rfl) 67 _ _ (by rfl) rb [I (x.s:Int),I (x.u:Int),I (x.v:Int),I (x.l:Int),.bool x.t] (by rfl) (by rfl) HTH.out (by kernel_rfl) (by rfl) ?_)
      try simp only[Exit.inBlock,Exit.then]
      refine bodyPost_ret (v:=fE (some x)) ?_ rfl ?_
      . exact results_cell_row rfl _ _ rb 67 _ _ _ rfl HZ5 underlying67 rfl (by kernel_rfl)
      exact⟨by rw[HR9.out],HB5.out⟩
    . have e3:((x.s:Int)==s)=false:=Jf hxs
      have HNX:Hid (QoU w rb l s (I ((k:Int)+1)) (wr.alloc (.cells #[I (x.s:Int),I (x.u:Int),I (x.v:Int),I (x.l:Int),.bool x.t] 67))):=q9 ⟨HBA.out,HZA.out,k+1,by rw[HN.out];exact HKN.out,by simp,fun j y hj hy=>by
       by_cases e:j=k
       . subst e
         rw[HX.out] at hy;injection hy with hy;rw[<-hy];exact hxs
       . exact HNO j y (by omega) hy⟩
      clear hxs;go_wp2_with fail
      exact⟨HNX.out,by have:=HKN.out;simp [intOf];omega⟩
  . have ek:k=n:=by omega
    subst ek
    have kI:¬ (k:Int)<(k:Int):=by omega
    have HR9:Hid (fdE l s=none):=q9 (Qpk fun x hx=>by
     obtain⟨j,hj⟩:=Kc hx
     exact HNO.out j x (by have:=(Jd hj).1;have:=HN.out;omega) hj)
    have HTH:=q9 (Qw HZ.out (m:=5) rfl);have HZ5:Hid (Blk (wr.setCells rb 0 [I 0,I 0,I 0,I 0,.bool false]) rb 67 #[I 0,I 0,I 0,I 0,.bool false]):=q9 (HZ.five (I 0) (I 0) (I 0) (I 0) (.bool false));have HB5:Hid (Below w.heap.size w (wr.setCells rb 0 [I 0,I 0,I 0,I 0,.bool false])):=q9 (QoC HB.out (r:=rb) (Nat.le_of_eq HRB.out) (I 0) (I 0) (I 0) (I 0) (.bool false));clear hk hkn
    go_wp2_with (refine QbQ (by rfl) 67 _ _ (by rfl) rb [I 0,I 0,I 0,I 0,.bool false] (by rfl) (by rfl) HTH.out (by kernel_rfl) (by rfl) ?_)
    try simp only[Exit.inBlock,Exit.then]
    refine bodyPost_ret (v:=fE none) ?_ rfl ?_
    . exact results_cell_row rfl _ _ rb 67 _ _ _ rfl HZ5 underlying67 rfl (by kernel_rfl)
    exact⟨by rw[HR9.out],HB5.out⟩
end
section
variable {V S T:Int}{f:Nat->Int}{ls bs:List E1}{x y:E1}{i j:Nat}
theorem Mv.back (h:Mv ls bs)(hi:bs[i]?=some x):∃ y,ls[i]?=some y/\x.s=y.s/\x.u=y.u/\x.v=y.v/\y.l<=x.l/\(y.t=true->x.t=true):=by
 have hil:=(Jd hi).1;rw[h.len] at hil;have hy:=Jh hil;obtain⟨z,hz,a1,a2,a3,a4,a5⟩:=h.st i _ hy;rw[hi] at hz;injection hz with hz;subst hz;exact⟨_,hy,a1,a2,a3,a4,a5⟩
theorem ER.ends1 {l:List E1}(h:ER V S T f l)(hi:l[i]?=some x)(hj:l[j]?=some y)(e:x.u=y.u/\x.v=y.v):i=j:=by
 rcases Nat.lt_trichotomy i j with c|c|c
 . have:=(Kf h.un) i j (Jd hi).1 (Jd hj).1 c
   rw[(Jd hi).2,(Jd hj).2] at this;exact absurd e this.2
 . exact c
 . have:=(Kf h.un) j i (Jd hj).1 (Jd hi).1 c
   rw[(Jd hi).2,(Jd hj).2] at this;exact absurd ⟨e.1.symm,e.2.symm⟩ this.2
theorem Mv.ends1 (h:Mv ls bs)(hE:ER V S T f bs)(hi:ls[i]?=some x)(hj:ls[j]?=some y)(e:x.u=y.u/\x.v=y.v):i=j:=by
 obtain⟨x',hx,_,a2,a3,_⟩:=h.st i x hi;obtain⟨y',hy,_,b2,b3,_⟩:=h.st j y hj
 exact hE.ends1 hx hy ⟨by rw[a2,b2];exact e.1,by rw[a3,b3];exact e.2⟩
theorem Mv.ok (h:Mv ls bs)(hE:ER V S T f bs):∀ x∈ls,x.u<x.v/\(x.v:Int)<V/\(x.s:Int)<S:=fun x hx=>by
 obtain⟨i,hi⟩:=Kc hx;obtain⟨y,hy,a1,a2,a3,_⟩:=h.st i x hi;have:=hE.ok y (Je hy);rw[a1,a2,a3] at this;exact⟨this.1,this.2.1,this.2.2.1⟩
theorem Mv.few (h:Mv ls bs)(hE:ER V S T f bs):ls.length<=S.toNat:=by rw[<-h.len];exact hE.len_le
end
def QpR (V S kd u v:Int)(ls bs ls' bs':List E1):Prop:=
 (ls'=ls/\bs'=bs/\(kd=1->u≠v->0<=u->u<V->0<=v->v<V->(∃ x∈ls,(x.u:Int)=min u v/\(x.v:Int)=max u v)\/∀ s:Nat,(s:Int)<S->∃ x∈ls,x.s=s))\/
 (kd=1/\∃ (s a b:Nat) (t:Bool),(a:Int)=min u v/\(b:Int)=max u v/\a<b/\(b:Int)<V/\(s:Int)<S/\(∀ x∈ls,x.s≠s)/\(∀ x∈ls,¬ (x.u=a/\x.v=b))/\(t=true↔¬ Way (tE bs 0) a b)/\ls'=ls++[⟨s,a,b,0,false⟩]/\bs'=bs++[⟨s,a,b,0,t⟩])\/
 (kd=2/\∃ i,ls'=ls.eraseIdx i/\Mv (bs.eraseIdx i) bs')
def QpH (w:World)(base q:Nat)(V S T:Int)(p gb cap m:Nat)(kd u v:Int)(ls bs:List E1)(e:Ending)(w':World):Prop:=
 e=.returned (.bool true)/\∃ f' mk' ts' vl' ls' bs' qq',PX13 w w' base q V S T p gb cap m f' mk' ts' vl' ls'/\LG V S T f' mk' ts' bs' qq'/\Hs V.toNat bs'/\Mv ls' bs'/\QpR V S kd u v ls bs ls' bs'
section
variable {w:World}{base q p gb cap m:Nat}{V S T kd u v:Int}{f:Nat->Int}{mk:Nat->Nat}{ts:List Tp}{vl:Value}{ls bs:List E1}{qq:Nat->Nat->List Nat}
theorem QoR (h:PW13 w base q V S T p gb cap m f mk ts vl ls)(hG:LG V S T f mk ts bs qq)(hs:Hs V.toNat bs)(hM:Mv ls bs)(hb:u=v\/u<0\/V<=u\/v<0\/V<=v):
 I0 12 #[.pointer (some (I1 q 0)),vO13 kd u v] w (QpH w base q V S T p gb cap (m+1460000) kd u v ls bs):=by
 obtain⟨av,ac,rfl⟩:=h.ew.slice;obtain⟨n,hn9⟩:∃ n,ls.length=n:=⟨_,rfl⟩;have HN:=q9 hn9;rw[hn9] at h;have HG:=q9 hG;have HS:=q9 hs;have HM:=q9 hM;have HB:=q9 hb;have HOP0:Hid (QhM (w.alloc (.cells #[I kd,I u,I v] 33)) w.heap.size kd u v):=q9 (Blk.new _ _ _);have HX0:=q9 ((PX13.start h).alloc (.cells #[I kd,I u,I v] 33))
 have HXO:Hid (∀ {w':World} {m':Nat} {f':Nat->Int} {mk':Nat->Nat} {ts':List Tp} {vl':Value} {ls':List E1},PX13 (w.alloc (.cells #[I kd,I u,I v] 33)) w' base q V S T p gb cap m' f' mk' ts' vl' ls'->PX13 w w' base q V S T p gb cap m' f' mk' ts' vl' ls'):=q9 fun h2=>PX13.first h _ h2
 have HX1:Hid (PX13 (w.alloc (.cells #[I kd,I u,I v] 33)) (w.alloc (.cells #[I kd,I u,I v] 33)) base q V S T p gb cap m f mk ts (.slice av n ac) ls):=q9 (PX13.start HX0.pw);clear h hG hs hM hn9
 go_enter func12,ntmps12
 go_upto_region 1 with fail
 generalize w.heap.size=ob at HOP0 |-;generalize w.alloc (.cells #[I kd,I u,I v] 33)=W1 at HOP0 HX0 HXO HX1 |-;have HOP:=HOP0;have Hd:=q9 HX1.drew;have hrule:=SQ13.rule ob q p V S T (.slice av n ac) kd u v;clear HX1 HOP0;obtain⟨⟨o0,o1,o2⟩,c0,c1,c2,c3,c4,c5,c6,c7,c8,c9,c10,c11,c12,c13,c14⟩:=hrule _ (Hd.sq HOP.out);obtain⟨olt,qlt⟩:=(Hd.sq HOP.out).lt
 by_cases h1:u=v
 . as_aux_lemma=>
   subst h1;have k1:(u==u)=true:=beq_self_eq_true _
   refine wp_region_held_drew (S:=(fun W=>SQ13 W ob q p V S T (.slice av n ac) kd u u)) (by kernel_rfl) ?_ (fun hHeld=>?_)
   . exact Hd.sq HOP
   refine q9N 0 rfl ?_
   refine q9N 1 rfl ?_
   refine q9N 2 rfl ?_
   refine q9N 3 rfl ?_
   refine wpAnyH_take (i:=4) (v:=.bool true) rfl (by kernel_rfl) (by kernel_rfl) (by kernel_rfl) (fun _ _ _ h=>h) (Or.inl ⟨by rfl,?_⟩) (by assumption) ?_
   . (intro w hSw;(try dsimp only at hSw);go_simp;try omega)
   try simp only[Act.put,q98]
   refine q9N 5 rfl ?_
   refine q9F 6 rfl ?_
   refine q9F 7 rfl ?_
   refine q9F 8 rfl ?_
   refine q9N 9 rfl ?_
   refine q9N 10 rfl ?_
   refine q9F 11 rfl ?_
   refine q9F 12 rfl ?_
   refine q9F 13 rfl ?_
   refine q9F 14 rfl ?_
   refine q9F 15 rfl ?_
   refine q9F 16 rfl ?_
   refine q9F 17 rfl ?_
   refine q9F 18 rfl ?_
   refine q9N 19 rfl ?_
   refine q9N 20 rfl ?_
   refine q9F 21 rfl ?_
   refine q9F 22 rfl ?_
   refine q9F 23 rfl ?_
   refine q9N 24 rfl ?_
   refine q9N 25 rfl ?_
   refine q9F 26 rfl ?_
   refine q9F 27 rfl ?_
   refine q9F 28 rfl ?_
   refine q9F 29 rfl ?_
   refine q9F 30 rfl ?_
   refine q9F 31 rfl ?_
   refine q9F 32 rfl ?_
   refine q9F 33 rfl ?_
   refine q9N 34 rfl ?_
   refine wpAnyH_done (by kernel_rfl) ?_ _
   clear hb hrule;go_wp2_with fail
   go_ret
   exact⟨rfl,f,mk,ts,_,ls,bs,qq,(HXO Hd).more (by omega),HG,HS,HM,.inl ⟨rfl,rfl,fun _ h1 h2 h3 h4 h5=>absurd HB (by omega)⟩⟩
 by_cases h2:u<0
 . as_aux_lemma=>
   refine wp_region_held_drew (S:=(fun W=>SQ13 W ob q p V S T (.slice av n ac) kd u v)) (by kernel_rfl) ?_ (fun hHeld=>?_)
   . exact Hd.sq HOP
   refine q9N 0 rfl ?_
   refine q9N 1 rfl ?_
   refine q9N 2 rfl ?_
   refine q9N 3 rfl ?_
   refine wpAnyH_take (i:=4) (v:=.bool false) rfl (by kernel_rfl) (by kernel_rfl) (by kernel_rfl) (fun _ _ _ h=>h) (Or.inl ⟨by rfl,?_⟩) (by assumption) ?_
   . (intro w hSw;(try dsimp only at hSw);go_simp;try omega)
   try simp only[Act.put,q98]
   refine q9N 5 rfl ?_
   refine q9N 6 rfl ?_
   refine q9N 7 rfl ?_
   refine wpAnyH_take (i:=8) (v:=.bool true) rfl (by kernel_rfl) (by kernel_rfl) (by kernel_rfl) (fun _ _ _ h=>h) (Or.inl ⟨by rfl,?_⟩) (by assumption) ?_
   . (intro w hSw;(try dsimp only at hSw);go_simp;try omega)
   try simp only[Act.put,q98]
   refine q9N 9 rfl ?_
   refine q9N 10 rfl ?_
   refine q9F 11 rfl ?_
   refine q9F 12 rfl ?_
   refine q9F 13 rfl ?_
   refine q9F 14 rfl ?_
   refine q9F 15 rfl ?_
   refine q9F 16 rfl ?_
   refine q9F 17 rfl ?_
   refine q9F 18 rfl ?_
   refine q9N 19 rfl ?_
   refine q9N 20 rfl ?_
   refine q9F 21 rfl ?_
   refine q9F 22 rfl ?_
   refine q9F 23 rfl ?_
   refine q9N 24 rfl ?_
   refine q9N 25 rfl ?_
   refine q9F 26 rfl ?_
   refine q9F 27 rfl ?_
   refine q9F 28 rfl ?_
   refine q9F 29 rfl ?_
   refine q9F 30 rfl ?_
   refine q9F 31 rfl ?_
   refine q9F 32 rfl ?_
   refine q9F 33 rfl ?_
   refine q9N 34 rfl ?_
   refine wpAnyH_done (by kernel_rfl) ?_ _
   clear hb hrule;go_wp2_with fail
   go_ret
   exact⟨rfl,f,mk,ts,_,ls,bs,qq,(HXO Hd).more (by omega),HG,HS,HM,.inl ⟨rfl,rfl,fun _ h1 h2 h3 h4 h5=>absurd HB (by omega)⟩⟩
 by_cases h3:V<=u
 . as_aux_lemma=>
   refine wp_region_held_drew (S:=(fun W=>SQ13 W ob q p V S T (.slice av n ac) kd u v)) (by kernel_rfl) ?_ (fun hHeld=>?_)
   . exact Hd.sq HOP
   refine q9N 0 rfl ?_
   refine q9N 1 rfl ?_
   refine q9N 2 rfl ?_
   refine q9N 3 rfl ?_
   refine wpAnyH_take (i:=4) (v:=.bool false) rfl (by kernel_rfl) (by kernel_rfl) (by kernel_rfl) (fun _ _ _ h=>h) (Or.inl ⟨by rfl,?_⟩) (by assumption) ?_
   . (intro w hSw;(try dsimp only at hSw);go_simp;try omega)
   try simp only[Act.put,q98]
   refine q9N 5 rfl ?_
   refine q9N 6 rfl ?_
   refine q9N 7 rfl ?_
   refine wpAnyH_take (i:=8) (v:=.bool false) rfl (by kernel_rfl) (by kernel_rfl) (by kernel_rfl) (fun _ _ _ h=>h) (Or.inl ⟨by rfl,?_⟩) (by assumption) ?_
   . (intro w hSw;(try dsimp only at hSw);go_simp;try omega)
   try simp only[Act.put,q98]
   refine q9N 9 rfl ?_
   refine q9N 10 rfl ?_
   refine q9N 11 rfl ?_
   refine q9N 12 rfl ?_
   refine q9N 13 rfl ?_
   refine q9N 14 rfl ?_
   refine q9N 15 rfl ?_
   refine q9N 16 rfl ?_
   refine q9N 17 rfl ?_
   refine wpAnyH_take (i:=18) (v:=.bool true) rfl (by kernel_rfl) (by kernel_rfl) (by kernel_rfl) (fun _ _ _ h=>h) (Or.inl ⟨by rfl,?_⟩) (by assumption) ?_
   . (intro w hSw;(try dsimp only at hSw);go_simp;try omega)
   try simp only[Act.put,q98]
   refine q9N 19 rfl ?_
   refine q9N 20 rfl ?_
   refine q9F 21 rfl ?_
   refine q9F 22 rfl ?_
   refine q9F 23 rfl ?_
   refine q9N 24 rfl ?_
   refine q9N 25 rfl ?_
   refine q9F 26 rfl ?_
   refine q9F 27 rfl ?_
   refine q9F 28 rfl ?_
   refine q9F 29 rfl ?_
   refine q9F 30 rfl ?_
   refine q9F 31 rfl ?_
   refine q9F 32 rfl ?_
   refine q9F 33 rfl ?_
   refine q9N 34 rfl ?_
   refine wpAnyH_done (by kernel_rfl) ?_ _
   clear hb hrule;go_wp2_with fail
   go_ret
   exact⟨rfl,f,mk,ts,_,ls,bs,qq,(HXO Hd).more (by omega),HG,HS,HM,.inl ⟨rfl,rfl,fun _ h1 h2 h3 h4 h5=>absurd HB (by omega)⟩⟩
 by_cases h4:v<0
 . as_aux_lemma=>
   refine wp_region_held_drew (S:=(fun W=>SQ13 W ob q p V S T (.slice av n ac) kd u v)) (by kernel_rfl) ?_ (fun hHeld=>?_)
   . exact Hd.sq HOP
   refine q9N 0 rfl ?_
   refine q9N 1 rfl ?_
   refine q9N 2 rfl ?_
   refine q9N 3 rfl ?_
   refine wpAnyH_take (i:=4) (v:=.bool false) rfl (by kernel_rfl) (by kernel_rfl) (by kernel_rfl) (fun _ _ _ h=>h) (Or.inl ⟨by rfl,?_⟩) (by assumption) ?_
   . (intro w hSw;(try dsimp only at hSw);go_simp;try omega)
   try simp only[Act.put,q98]
   refine q9N 5 rfl ?_
   refine q9N 6 rfl ?_
   refine q9N 7 rfl ?_
   refine wpAnyH_take (i:=8) (v:=.bool false) rfl (by kernel_rfl) (by kernel_rfl) (by kernel_rfl) (fun _ _ _ h=>h) (Or.inl ⟨by rfl,?_⟩) (by assumption) ?_
   . (intro w hSw;(try dsimp only at hSw);go_simp;try omega)
   try simp only[Act.put,q98]
   refine q9N 9 rfl ?_
   refine q9N 10 rfl ?_
   refine q9N 11 rfl ?_
   refine q9N 12 rfl ?_
   refine q9N 13 rfl ?_
   refine q9N 14 rfl ?_
   refine q9N 15 rfl ?_
   refine q9N 16 rfl ?_
   refine q9N 17 rfl ?_
   refine wpAnyH_take (i:=18) (v:=.bool false) rfl (by kernel_rfl) (by kernel_rfl) (by kernel_rfl) (fun _ _ _ h=>h) (Or.inl ⟨by rfl,?_⟩) (by assumption) ?_
   . (intro w hSw;(try dsimp only at hSw);go_simp;try omega)
   try simp only[Act.put,q98]
   refine q9N 19 rfl ?_
   refine q9N 20 rfl ?_
   refine q9N 21 rfl ?_
   refine q9N 22 rfl ?_
   refine wpAnyH_take (i:=23) (v:=.bool true) rfl (by kernel_rfl) (by kernel_rfl) (by kernel_rfl) (fun _ _ _ h=>h) (Or.inl ⟨by rfl,?_⟩) (by assumption) ?_
   . (intro w hSw;(try dsimp only at hSw);go_simp;try omega)
   try simp only[Act.put,q98]
   refine q9N 24 rfl ?_
   refine q9N 25 rfl ?_
   refine q9F 26 rfl ?_
   refine q9F 27 rfl ?_
   refine q9F 28 rfl ?_
   refine q9F 29 rfl ?_
   refine q9F 30 rfl ?_
   refine q9F 31 rfl ?_
   refine q9F 32 rfl ?_
   refine q9F 33 rfl ?_
   refine q9N 34 rfl ?_
   refine wpAnyH_done (by kernel_rfl) ?_ _
   clear hb hrule;go_wp2_with fail
   go_ret
   exact⟨rfl,f,mk,ts,_,ls,bs,qq,(HXO Hd).more (by omega),HG,HS,HM,.inl ⟨rfl,rfl,fun _ h1 h2 h3 h4 h5=>absurd HB (by omega)⟩⟩
 have h5:V<=v:=by omega
 refine wp_region_held_drew (S:=(fun W=>SQ13 W ob q p V S T (.slice av n ac) kd u v)) (by kernel_rfl) ?_ (fun hHeld=>?_)
 . exact Hd.sq HOP
 refine q9N 0 rfl ?_
 refine q9N 1 rfl ?_
 refine q9N 2 rfl ?_
 refine q9N 3 rfl ?_
 refine wpAnyH_take (i:=4) (v:=.bool false) rfl (by kernel_rfl) (by kernel_rfl) (by kernel_rfl) (fun _ _ _ h=>h) (Or.inl ⟨by rfl,?_⟩) (by assumption) ?_
 . (intro w hSw;(try dsimp only at hSw);go_simp;try omega)
 try simp only[Act.put,q98]
 refine q9N 5 rfl ?_
 refine q9N 6 rfl ?_
 refine q9N 7 rfl ?_
 refine wpAnyH_take (i:=8) (v:=.bool false) rfl (by kernel_rfl) (by kernel_rfl) (by kernel_rfl) (fun _ _ _ h=>h) (Or.inl ⟨by rfl,?_⟩) (by assumption) ?_
 . (intro w hSw;(try dsimp only at hSw);go_simp;try omega)
 try simp only[Act.put,q98]
 refine q9N 9 rfl ?_
 refine q9N 10 rfl ?_
 refine q9N 11 rfl ?_
 refine q9N 12 rfl ?_
 refine q9N 13 rfl ?_
 refine q9N 14 rfl ?_
 refine q9N 15 rfl ?_
 refine q9N 16 rfl ?_
 refine q9N 17 rfl ?_
 refine wpAnyH_take (i:=18) (v:=.bool false) rfl (by kernel_rfl) (by kernel_rfl) (by kernel_rfl) (fun _ _ _ h=>h) (Or.inl ⟨by rfl,?_⟩) (by assumption) ?_
 . (intro w hSw;(try dsimp only at hSw);go_simp;try omega)
 try simp only[Act.put,q98]
 refine q9N 19 rfl ?_
 refine q9N 20 rfl ?_
 refine q9N 21 rfl ?_
 refine q9N 22 rfl ?_
 refine wpAnyH_take (i:=23) (v:=.bool false) rfl (by kernel_rfl) (by kernel_rfl) (by kernel_rfl) (fun _ _ _ h=>h) (Or.inl ⟨by rfl,?_⟩) (by assumption) ?_
 . (intro w hSw;(try dsimp only at hSw);go_simp;try omega)
 try simp only[Act.put,q98]
 refine q9N 24 rfl ?_
 refine q9N 25 rfl ?_
 refine q9N 26 rfl ?_
 refine q9N 27 rfl ?_
 refine q9N 28 rfl ?_
 refine q9N 29 rfl ?_
 refine q9N 30 rfl ?_
 refine q9N 31 rfl ?_
 refine q9N 32 rfl ?_
 refine wpAnyH_take (i:=33) (v:=.bool true) rfl (by kernel_rfl) (by kernel_rfl) (by kernel_rfl) (fun _ _ _ h=>h) (Or.inl ⟨by rfl,?_⟩) (by assumption) ?_
 . (intro w hSw;(try dsimp only at hSw);go_simp;try omega)
 try simp only[Act.put,q98]
 refine q9N 34 rfl ?_
 refine wpAnyH_done (by kernel_rfl) ?_ _
 clear hb hrule;go_wp2_with fail
 go_ret
 exact⟨rfl,f,mk,ts,_,ls,bs,qq,(HXO Hd).more (by omega),HG,HS,HM,.inl ⟨rfl,rfl,fun _ h1 h2 h3 h4 h5=>absurd HB (by omega)⟩⟩
end
end Go.Proofs.YtfpnjpbpfgjakaaGreat
