/- Gp -/
import Derived.Test.YtaooglagddphnaaGreatXGo
namespace Go.Proofs.YtaooglagddphnaaGreat
open Go.RowKit
set_option maxRecDepth 100000
structure Sd13 (b:BkV)(cv:Nat->Int)(g:Mg9)(mk:Nat->Nat)(ts:List Tp)(bs:List E1)(q:Nat->Nat->List Nat):Prop where
 er:ER b.V b.S b.T cv bs
 lf:LF b.V b.S b.T cv mk ts bs q
 bt:BT b cv g mk ts
structure Es13 (b:BkV)(bs es:List E1)(q:Nat->Nat->List Nat):Prop where
 mem:∀ e,e∈es↔e∈bs
 un:es.Pairwise fun a b=>a.s≠b.s/\¬ (a.u=b.u/\a.v=b.v)
 en:∀ e∈es,e.u<e.v/\(e.v:Int)<b.V/\(e.s:Int)<b.S/\(e.l:Int)<lv b.V
 ln:es.length<=48
 lk:LK q (es.filter fun e=>!e.t)
 ql:∀ v l,(((q v l).length:Nat):Int)<=b.S
section
variable {w:World}{b:BkV}{cv:Nat->Int}{g:Mg9}{mk:Nat->Nat}{ts:List Tp}{bs es:List E1}{q:Nat->Nat->List Nat}{L:Nat}
theorem ER.all_perm {V S T:Int}{f:Nat->Int}(h:ER V S T f bs):(Qbb bs V.toNat V.toNat).Perm bs:=
 QhE h.un fun e he=>by have:=h.ok e he;omega
theorem Sd13.edges (h:Sd13 b cv g mk ts bs q)(hR:Rt b.V b.S b.T)(he:Qbb bs b.V.toNat b.V.toNat=es):Es13 b bs es q:=by
 have hp:=h.er.all_perm;rw[he] at hp
 have hm:∀ e,e∈es↔e∈bs:=fun e=>hp.mem_iff
 refine⟨hm,?_,fun e he=>h.er.ok e ((hm e).1 he),?_,?_,h.lf.qlen hR h.er.un fun e he=>by have:=h.er.ok e he;omega⟩
 . exact(hp.pairwise_iff fun {a b} h=>⟨Ne.symm h.1,fun e=>h.2 ⟨e.1.symm,e.2.symm⟩⟩).2 h.er.un
 . have h1:=h.er.len_le
   have h2:=hp.length_eq;have:=hR.s2;omega
 . exact h.lf.lk.mem fun e=>by rw[List.mem_filter,List.mem_filter,hm]
theorem Sd13.row (h:Sd13 b cv g mk ts bs q)(B:Bk w b cv)(he:Es13 b bs es q)(hL:(L:Int)<lv b.V):∀ t∈TLv b.V L ts b.na,Qc3 b.V b.S L t.row/\Ar13 b.V b.S L (es.foldl (QaW L) (List.replicate b.S.toNat none)) t.row:=by
 intro t ht;obtain⟨gr,hV,hE⟩:=h.lf.fo;obtain⟨rows,hv⟩:=hV L hL
 have hg:es.foldl (QaW L) (List.replicate b.S.toNat none)=gr L:=by
  refine Lnk.uniq (QiZ (he.un.imp fun h=>h.1) fun e hm=>by have:=he.en e hm;omega) (hE L hL) (fun s a c=>?_) ?_
  . rw[QG,QG]
    constructor
    . rintro⟨e,hm,h⟩
      exact⟨e,(he.mem e).1 hm,h⟩
    . rintro⟨e,hm,h⟩
      exact⟨e,(he.mem e).2 hm,h⟩
  . rw[Qcw,List.length_replicate,hv.len]
 rw[hg];obtain⟨h1,h2,h3⟩:=(Qcd h.bt.fi).1 ht;have hr:=h.bt.fi.root_in h1
 obtain⟨z,hz⟩:∃ z,t.root=z+1:=⟨t.root-1,by omega⟩
 obtain⟨nm,_,hnm⟩:=B.al z (by omega)
 exact hv.ar_any B.hR hL h.bt.fi hnm h1 hz h3
theorem Sd13.marked (h:Sd13 b cv g mk ts bs q)(B:Bk w b cv)(he:Es13 b bs es q):BT b cv g (es.foldl (Qax b.V) fun _=>0) ts:=
 ⟨h.bt.fi.marks (Qde es _ fun _=>(by decide:(0:Nat)<4)) fun x h1 h2=>by
  obtain⟨z,rfl⟩:∃ z,x=z+1:=⟨x-1,by omega⟩
  obtain⟨nm,_,hnm⟩:=B.al z (by have h3:b.na=nN b.V b.S:=B.ha;omega)
  exact Qkc B.hR h.er.ok h.lf h.bt.fi.hm he.mem hnm,h.bt.cl,h.bt.pl,h.bt.lv⟩
def KU13 (w1:World)(ub nS:Nat)(es:List E1)(i:Value)(W:World):Prop:=∃ k,k<=es.length/\i=I ((k:Nat):Int)/\Cn13 W ub nS (fun s=>((es.take k).map E1.s).count s)/\Below w1.heap.size w1 W
def KT13 (w1:World)(n:Nat)(i:Value)(W:World):Prop:=∃ k,k<=n/\i=I ((k:Nat):Int)/\Below w1.heap.size w1 W
def KV13 (w1:World)(n:Nat)(mo i:Value)(W:World):Prop:=∃ (L:Nat) (z:Int),L<=n/\i=I ((L:Nat):Int)/\mo=I z/\0<=z/\z<=16/\Below w1.heap.size w1 W
def KW13 (w1:World)(n:Nat)(c i:Value)(W:World):Prop:=∃ (k z:Nat),k<=n/\z<=k/\i=I ((k:Nat):Int)/\c=I ((z:Nat):Int)/\Below w1.heap.size w1 W
theorem Qe7 {k:Nat}{x:E1}(hx:es[k]?=some x)(i:Nat):((es.take (k+1)).map E1.s).count i=((es.take k).map E1.s).count i+if i=x.s then 1 else 0:=by
 rw[List.take_add_one,hx];show ((es.take k++[x]).map E1.s).count i=_;rw[List.map_append,List.count_append]
 congr 1
 by_cases e:i=x.s
 . simp [e]
 . simp [e,Ne.symm e]
theorem QjF (h:es.Pairwise fun a b=>a.s≠b.s/\¬ (a.u=b.u/\a.v=b.v))(i:Nat):(es.map E1.s).count i<=1:=by
 refine List.nodup_iff_count.1 ?_ i;unfold List.Nodup;rw[List.pairwise_map]
 exact h.imp fun h=>h.1
set_option maxHeartbeats 16000000 in
theorem Qh1 (B:Bk w b cv)(h:Sd13 b cv g mk ts bs q):
 Calls Tryz.prog 20 #[vB b,.bool false] w fun e w'=>e=.returned (.bool true)/\Below w.heap.size w w':=by
 have HR:=q9 B.hR;have HSD:=q9 h;obtain⟨es,hes⟩:∃ es,Qbb bs b.V.toNat b.V.toNat=es:=⟨_,rfl⟩;have HES:=q9 (h.edges B.hR hes)
 have HROW:Hid (∀ L:Nat,(L:Int)<lv b.V->∀ t∈TLv b.V L ts b.na,Qc3 b.V b.S L t.row/\Ar13 b.V b.S L (es.foldl (QaW L) (List.replicate b.S.toNat none)) t.row):=q9 fun L hL=>h.row B HES.out hL
 have HBT:=q9 (h.marked B HES.out)
 obtain⟨nS,hnS⟩:∃ k:Nat,b.S=(k:Int):=⟨b.S.toNat,by have:=B.hR.s1;omega⟩
 obtain⟨nl,hnl⟩:∃ k:Nat,lv b.V=(k:Int):=⟨(lv b.V).toNat,by have:=QF b.V;omega⟩
 obtain⟨ln,hln⟩:∃ k,es.length=k:=⟨_,rfl⟩;have HNS:=q9 hnS;have HNL:=q9 hnl;have HLN:=q9 hln
 have nS48:nS<=48:=by have:=B.hR.s2;omega
 have nl5:nl<=5:=by have:=QF b.V;omega
 have ln48:ln<=48:=by have:=HES.ln;omega
 have v16:b.V<=16:=B.hR.v2;have v1:1<=b.V:=B.hR.v1
 have na560:b.na<=560:=by rw[B.ha];have:=(sizes B.hR).nd2;omega
 have HNA:Hid ((b.na:Int)=nd b.V b.S):=q9 (by have:=B.ha;have:=Q0 B.hR;have h2:nN b.V b.S=(nd b.V b.S).toNat:=rfl;omega)
 have hua:Below w.heap.size w (w.alloc (bB b)):=(Below.refl _ _).alloc (Nat.le_refl _) _;have HW:=q9 hua;have HBk:=q9 (B.below hua);have HX:=q9 (BB.new w b);have hed:=QfG (B.below hua) h.er;rw[hes] at hed;have HED:=q9 hed
 have HTL:Hid (∀ L,∀ t∈TLv b.V L ts b.na,t.row.length<=b.na):=q9 fun L t ht=>h.bt.row_len B ((Qcd h.bt.fi).1 ht).1
 have hmk:=run_make_row' (P:=Tryz.prog) 36 3 (I 0) 8 Tryz.underlying36 Qel rfl .i64 .i64 nS (by omega) (by omega)
 have HMK:=q9 hmk;obtain⟨c0,c1,c2,c3,c4,c5,c6⟩:=(BB.new w b).cells;have xlt:=(BB.new w b).lt;clear B h hua hes hnS hnl hln hed hmk
 go_enter Tryz.func20,Tryz.ntmps20
 go_wp2_with fail
 refine HED.mono ?_;rintro e w2 ⟨v2,rfl,hEW,b2⟩;obtain⟨la,ln2,lc,rfl,hEW⟩:=QbI hEW
 have hl9:es.length=ln2:=by
  obtain⟨a,c,e⟩:=hEW.slice;injection e with _ e _;exact e.symm
 obtain rfl:ln=ln2:=HLN.symm.trans hl9;have HX2:=q9 (HX.below b2);have HBk2:=q9 (HBk.below b2);have HEW2:=q9 hEW;have HW2:=q9 (HW.trans (b2.mono HW.size));clear c0 c1 c2 c3 c4 c5 c6 xlt HX HBk HW HED b2 hEW hl9;obtain⟨c0,c1,c2,c3,c4,c5,c6⟩:=HX2.cells;have xlt:=HX2.lt;go_wp2_with fail
 refine(Qiw HBk2.out HEW2.out (by have:=HES.ln;omega) HSD.lf.lq HES.lk HES.un (fun e he=>by have:=HES.en e he;omega) HES.ql).mono ?_;rintro e w3 ⟨rfl,b3⟩
 have HX3:=q9 (HX2.below b3);have HBk3:=q9 (HBk2.below b3);have HEW3:=q9 (HEW2.below b3);have HW3:=q9 (HW2.trans (b3.mono HW2.size));clear c0 c1 c2 c3 c4 c5 c6 xlt HX2 HBk2 HEW2 HW2 b3;obtain⟨c0,c1,c2,c3,c4,c5,c6⟩:=HX3.cells;have xlt:=HX3.lt;rw[HNS.out] at c1;have hmk:=HMK.out;go_wp2_with fail
 clear c0 c1 c2 c3 c4 c5 c6 xlt hmk HMK
 have HRELA:Hid (KU13 w3 w3.heap.size nS es (I 0) (w3.alloc (.cells (madeCells #[I 0] nS) 3))):=q9 ⟨0,Nat.zero_le _,rfl,by rw[show (fun s=>((es.take 0).map E1.s).count s)=(fun _=>0) from by funext s;simp];exact Cn13.made w3 nS,(Below.refl _ _).alloc (Nat.le_refl _) _⟩
 generalize w3.alloc (.cells (madeCells #[I 0] nS) 3)=w4 at HRELA |-;generalize hub:w3.heap.size=ub at HRELA |-;have HUB:=q9 hub;clear hub
 go_loopw [8] (fun i wr=>KU13 w3 ub nS es i wr) (fun i _=>ln-(intOf i).toNat)
 case atStart=>exact HRELA.out
 case round=>
  clear HRELA;obtain⟨k,hk,rfl,hcn,hb⟩:=hrel;have HCN:=q9 hcn;have HB:=q9 hb;have HEWk:=q9 (HEW3.below hb);rw[HLN.out] at hk;clear hcn hb
  by_cases hkn:k<ln
  . as_aux_lemma=>
    obtain⟨x,hx⟩:∃ x,es[k]?=some x:=⟨_,List.getElem?_eq_getElem (by have:=HLN.out;omega)⟩
    obtain⟨gb,cap,e1,_,glt,gfr,g0,g1,g2,g3,g4⟩:=HEWk.at hx;injection e1 with e1 e2 e3;subst e1;have xs:=HES.en x (List.mem_of_getElem? hx)
    have xsn:x.s<nS:=by have:=HNS.out;omega
    have xsI:(x.s:Int)<(nS:Int):=by omega
    have xs0:(0:Int)<=(x.s:Int):=by omega
    have kI:(k:Int)<(ln:Int):=by omega
    have k0:(0:Int)<=(k:Int):=by omega
    have hce:=HCN.cell (k:=x.s) xsn;have hfz:=HCN.frozen x.s;have slt:=HCN.lt;obtain⟨cc,hcc⟩:∃ c,((es.take k).map E1.s).count x.s=c:=⟨_,rfl⟩
    have hc9:cc<=48:=by
     have h1:=List.count_le_length (a:=x.s) (l:=(es.take k).map E1.s);rw[List.length_map,List.length_take] at h1;omega
    rw[hcc] at hce
    have cI:(cc:Int)<=48:=by omega
    have c0':(0:Int)<=(cc:Int):=by omega
    have HCN2:Hid (Cn13 (wr.setCell (I1 ub x.s) (I ((cc:Int)+1))) ub nS (fun s=>((es.take (k+1)).map E1.s).count s)):=q9 (HCN.set_ (k:=x.s) xsn (by (try dsimp only);rw[Qe7 hx,hcc,if_pos rfl];omega) (fun i hi=>by (try dsimp only);rw[Qe7 hx,if_neg hi,Nat.add_zero]))
    have HB2:=q9 (HB.setCell (p:=(I1 ub x.s)) (by rw[HUB.out];exact Nat.le_refl _) (I ((cc:Int)+1)))
    have HK1:Hid (k+1<=es.length):=q9 (by have:=HLN.out;omega)
    clear hcc hc9 xs hx HCN HB HEWk e2 e3 g1 g2 g3 g4;go_wp2_with fail
    go_roundw
    case rel=>exact⟨k+1,HK1.out,by simp,HCN2.out,HB2.out⟩
    case measure=>simp [intOf];omega
  . as_aux_lemma=>
    have ek:ln=k:=by omega
    subst ek
    have kN:¬ (ln:Int)<(ln:Int):=by omega
    have htk:es.take ln=es:=by rw[<-HLN.out,List.take_length]
    rw[htk] at HCN;have HXk:=q9 (HX3.below HB.out);have HBkk:=q9 (HBk3.below HB.out);have HWk:=q9 (HW3.trans (HB.mono HW3.size));clear htk HX3 HBk3 HEW3 HW3 HB hk hkn;go_wp2_with fail
    obtain⟨wA,rfl⟩:∃ w9:World,w9=wr:=⟨_,rfl⟩;have HRELB:Hid (KT13 wA nS (I 0) wA):=q9 ⟨0,Nat.zero_le _,rfl,Below.refl _ _⟩
    go_loopw [9] (fun i wr=>KT13 wA nS i wr) (fun i _=>nS-(intOf i).toNat)
    case atStart=>exact HRELB.out
    case round=>
     clear HRELB;obtain⟨j,hj,rfl,hb⟩:=hrel;have HB:=q9 hb;clear hb
     by_cases hjn:j<nS
     . as_aux_lemma=>
       have HCNj:=q9 (HCN.below HB.out)
       have jI:(j:Int)<(nS:Int):=by omega
       have j0:(0:Int)<=(j:Int):=by omega
       have hce:=HCNj.cell (k:=j) hjn;have slt:=HCNj.lt;have hc9:=QjF HES.un j;obtain⟨cc,hcc⟩:∃ c,(es.map E1.s).count j=c:=⟨_,rfl⟩;rw[hcc] at hce hc9
       have cI:(cc:Int)<=1:=by omega
       have cN:¬ (1:Int)<(cc:Int):=by omega
       have HN5:Hid (KT13 wA nS (I ((j:Int)+1)) wr):=q9 ⟨j+1,by omega,by simp,HB.out⟩
       clear hcc HB HCNj hc9;go_wp2_with fail
       go_roundw
       case rel=>exact HN5.out
       case measure=>simp [intOf];omega
     . as_aux_lemma=>
       have ej:nS=j:=by omega
       subst ej
       have jN:¬ (nS:Int)<(nS:Int):=by omega
       have HXj:=q9 (HXk.below HB.out);have HBkj:=q9 (HBkk.below HB.out);have HEWj:=q9 (HEWk.below HB.out);have HWj:=q9 (HWk.trans (HB.mono HWk.size));clear HXk HBkk HEWk HWk HB HCN hj hjn;obtain⟨c0,c1,c2,c3,c4,c5,c6⟩:=HXj.cells;have xlt:=HXj.lt;go_wp2_with fail
       refine(Qit HBkj.out HEWj.out (by have:=HES.ln;omega) HES.en).mono ?_;rintro e w5 ⟨mb,rfl,hM,hmb,b5⟩
       have HM5:=q9 hM;have HX5:=q9 (HXj.below b5);have HBk5:=q9 (HBkj.below b5);have HEW5:=q9 (HEWj.below b5);have HW5:=q9 (HWj.trans (b5.mono HWj.size));clear c0 c1 c2 c3 c4 c5 c6 xlt HXj HBkj HEWj HWj b5 hM hmb;obtain⟨c0,c1,c2,c3,c4,c5,c6⟩:=HX5.cells;have xlt:=HX5.lt;go_wp2_with fail
       clear c0 c1 c2 c3 c4 c5 c6 xlt
       have HRELC:Hid (KV13 w5 nl (I b.V) (I 0) w5):=q9 ⟨0,b.V,Nat.zero_le _,rfl,rfl,by omega,v16,Below.refl _ _⟩
       go_loopw [11,12] (fun mo i wr=>KV13 w5 nl mo i wr) (fun _ i _=>nl-(intOf i).toNat)
       case atStart=>exact HRELC.out
       case round=>
        clear HRELC;obtain⟨L,z,hL,rfl,rfl,hz0,hz1,hb⟩:=hrel;have HB:=q9 hb;have HXl:=q9 (HX5.below hb);have HBkl:=q9 (HBk5.below hb);have HEWl:=q9 (HEW5.below hb);have HMl:=q9 (HM5.below hb);have HWl:=q9 (HW5.trans (hb.mono HW5.size));clear hb;obtain⟨c0,c1,c2,c3,c4,c5,c6⟩:=HXl.cells;have xlt:=HXl.lt;go_wp2_with fail
        refine(QH _ _ _ HR _).mono ?_;rintro e w6 ⟨rfl,b6⟩;rw[HNL.out];have HX6:=q9 (HXl.below b6);have HBk6:=q9 (HBkl.below b6);have HEW6:=q9 (HEWl.below b6);have HM6:=q9 (HMl.below b6);have HW6:=q9 (HWl.trans (b6.mono HWl.size));have HB6:=q9 (HB.trans (b6.mono HB.size));clear c0 c1 c2 c3 c4 c5 c6 xlt HXl HBkl HEWl HMl HWl HB b6
        by_cases hLn:L<nl
        . as_aux_lemma=>
          have LI0:(L:Int)<(nl:Int):=by omega
          have L0:(0:Int)<=(L:Int):=by omega
          have HLV:Hid ((L:Int)<lv b.V):=q9 (by rw[HNL.out];exact LI0)
          have HZ:=q9 (And.intro hz0 hz1);have HLn:Hid (L+1<=nl):=q9 hLn;clear hz0 hz1 hL hLn;obtain⟨c0,c1,c2,c3,c4,c5,c6⟩:=HX6.cells;have xlt:=HX6.lt;go_wp2_with fail
          refine(Qhz HBk6 HSD.bt HLV).mono ?_;rintro e w7 ⟨rv,vs,rfl,hRV,hlen,hLI,hfr,b7⟩;obtain⟨ra,rc,hre⟩:=hRV.slice;obtain⟨rn,hrn⟩:∃ n,vs.length=n:=⟨_,rfl⟩;rw[hrn] at hre;subst hre;have HRN:=q9 hrn;have HX7:=q9 (HX6.below b7);have HBk7:=q9 (HBk6.below b7);have HEW7:=q9 (HEW6.below b7);have HM7:=q9 (HM6.below b7);have HB7:=q9 (HB6.trans (b7.mono HB6.size));have HRV7:=q9 hRV;have HLEN:=q9 hlen;have HLI7:=q9 hLI
          have HMB:Hid (∀ v∈vs,bk v≠some mb):=q9 fun v hv e=>by
           have h1:=hfr v hv mb e;have h2:=HM6.lt;omega
          have rn600:rn<=600:=by
           have h1:(TLv b.V L ts b.na).length<=(List.range' 1 b.na).length:=List.length_filterMap_le _ _;rw[List.length_range'] at h1;omega
          clear c0 c1 c2 c3 c4 c5 c6 xlt HX6 HBk6 HEW6 HM6 HB6 HW6 b7 hRV hlen hLI hfr hrn;obtain⟨c0,c1,c2,c3,c4,c5,c6⟩:=HX7.cells;have xlt:=HX7.lt;go_wp2_with fail
          refine(Qjb HBk7 HBT HLV HRV7 HLEN HLI7 HM7 HMB).mono ?_;rintro e w8 ⟨rfl,b8⟩;have HX8:=q9 (HX7.below b8);have HBk8:=q9 (HBk7.below b8);have HEW8:=q9 (HEW7.below b8);have HB8:=q9 (HB7.trans (b8.mono HB7.size));have HRV8:=q9 (HRV7.below b8)
          have HLI8:Hid (∀ (i:Nat) (v:Value) (t:Tp),vs[i]?=some v->(TLv b.V L ts b.na)[i]?=some t->LI w8 v t.row):=q9 fun i v t h1 h2=>(HLI7.out i v t h1 h2).below b8
          clear c0 c1 c2 c3 c4 c5 c6 xlt HX7 HBk7 HEW7 HM7 HB7 HRV7 HLI7 HMB b8;obtain⟨c0,c1,c2,c3,c4,c5,c6⟩:=HX8.cells;have xlt:=HX8.lt;go_wp2_with fail
          refine(QiS HBk8.out HEW8.out (by have:=HES.ln;omega) HLV.out HES.en).mono ?_;rintro e w9 ⟨gb,rfl,hG,hgb,b9⟩
          have HX9:=q9 (HX8.below b9);have HBk9:=q9 (HBk8.below b9);have HB9:=q9 (HB8.trans (b9.mono HB8.size));have HRV9:=q9 (HRV8.below b9);have HG9:=q9 hG
          have HGN:Hid ((es.foldl (QaW L) (List.replicate b.S.toNat none)).length=b.S.toNat):=q9 (by rw[Qcw,List.length_replicate])
          have HSN:Hid (b.S.toNat<=1000):=q9 (by have:=HNS.out;omega)
          have HLI9:Hid (∀ (i:Nat) (v:Value) (t:Tp),vs[i]?=some v->(TLv b.V L ts b.na)[i]?=some t->LI w9 v t.row):=q9 fun i v t h1 h2=>(HLI8.out i v t h1 h2).below b9
          clear c0 c1 c2 c3 c4 c5 c6 xlt HX8 HBk8 HEW8 HB8 HRV8 HLI8 b9 hG hgb;go_wp2_with fail
          have HRELD:Hid (KT13 w9 rn (I 0) w9):=q9 ⟨0,Nat.zero_le _,rfl,Below.refl _ _⟩
          go_loopw [16] (fun i wr=>KT13 w9 rn i wr) (fun i _=>rn-(intOf i).toNat)
          case atStart=>exact HRELD.out
          case round=>
           clear HRELD;obtain⟨i,hi,rfl,hb⟩:=hrel;have HB:=q9 hb;clear hb
           by_cases hin:i<rn
           . as_aux_lemma=>
             have HXi:=q9 (HX9.below HB.out);have HBki:=q9 (HBk9.below HB.out);have HRVi:=q9 (HRV9.below HB.out);have HGi:=q9 (HG9.below HB.out)
             obtain⟨v,hv⟩:∃ v,vs[i]?=some v:=⟨_,List.getElem?_eq_getElem (by have:=HRN.out;omega)⟩
             obtain⟨t,ht⟩:∃ t,(TLv b.V L ts b.na)[i]?=some t:=⟨_,List.getElem?_eq_getElem (by have:=HRN.out;have:=HLEN.out;omega)⟩
             have hli:=(HLI9.out i v t hv ht).below HB.out;obtain⟨rg,cc9,e1,_,rlt,cs,hcs,hcc⟩:=HRVi.at hv;injection e1 with e1 e2 e3;subst e1;have hcell:wr.cell? (I1 rg i)=some v:=(hcs.cell i).trans (hcc i v hv);have HT9:=q9 (List.mem_of_getElem? ht);have HLX:=q9 (HROW.out L HLV.out t HT9.out);have hrl9:=HTL.out L t HT9.out;obtain⟨rl,hrl⟩:∃ n,t.row.length=n:=⟨_,rfl⟩;rw[hrl] at hrl9;have HRL:=q9 hrl
             have HL1:Hid (t.row.length<=1000):=q9 (by omega)
             obtain⟨va,vc,rfl,hli⟩:=Qad hli hrl;have HLI0:=q9 hli
             have iI:(i:Int)<(rn:Int):=by omega
             have i0:(0:Int)<=(i:Int):=by omega
             have rlI:(rl:Int)<=560:=by omega
             have HIN:Hid (i+1<=rn):=q9 hin;clear hv ht e2 e3 hcs hcc hrl hli hi hin;obtain⟨c0,c1,c2,c3,c4,c5,c6⟩:=HXi.cells;have xlt:=HXi.lt;go_wp2_with fail
             clear c0 c1 c2 c3 c4 c5 c6 xlt;have hd:Below wr.heap.size wr wr.drew:=(Below.refl _ _).drew;have HXd:=q9 (HXi.below hd);have HBkd:=q9 (HBki.below hd);have HGd:=q9 (HGi.below hd);have HLId:=q9 (HLI0.below hd);have HBd:=q9 (HB.trans (hd.mono HB.size));have hcd:=Qi hd hcell;have HCd:=q9 hcd;have HQd:=q9 (And.intro HXd.out hcd);have rltd:rg<wr.drew.heap.size:=Nat.lt_of_lt_of_le rlt hd.size;clear hd HXi HBki HRVi HGi HLI0 HB hcell rlt hcd
             have hrule:∀ W:World,(BB W w.heap.size b/\W.cell? (I1 rg i)=some (.slice va rl vc))->_:=fun W h=>And.intro (BB.rule w.heap.size b W h.1) (show W.cell? (I1 rg i)=some (.slice va rl vc) from h.2)
             obtain⟨⟨c0,c1,c2,c3,c4,c5,c6⟩,r0⟩:=hrule _ HQd.out;have xlt:=HXd.lt
             go_region_held3 (fun W=>BB W w.heap.size b/\W.cell? (I1 rg i)=some (.slice va rl vc)) (first|(with_reducible assumption)|(with_reducible exact HQ6.out)|(with_reducible exact HQd.out))
              (first
               |(go_at_call 58;((with_reducible refine(QhH HBkd.out HLId.out HL1.out HGd.out HGN.out HSN.out HLV.out HLX.out.1 HLX.out.2).mono ?_);rintro e w10 ⟨rfl,b10⟩;have HQ6:=q9 (And.intro (HXd.out.below b10) (Qi b10 HCd.out));have HB10:=q9 (HBd.out.trans (b10.mono HBd.out.size));have HBk10:=q9 (HBkd.out.below b10);have HLI10:=q9 (HLId.out.below b10)))
               |fail)
             clear hrule c0 c1 c2 c3 c4 c5 c6 r0 xlt rltd HXd HBkd HGd HLId HBd HCd HQd b10;go_wp2_with fail
             have HRELE:Hid (KW13 w10 rl (I 0) (I 0) w10):=q9 ⟨0,0,Nat.zero_le _,Nat.zero_le _,rfl,rfl,Below.refl _ _⟩
             go_loopw [17,18] (fun c i wr=>KW13 w10 rl c i wr) (fun _ i _=>rl-(intOf i).toNat)
             case atStart=>exact HRELE.out
             case round=>
              clear HRELE;obtain⟨k,z9,hk,hz9,rfl,rfl,hb⟩:=hrel;have HBe:=q9 hb;have HXe:=q9 (HQ6.1.below hb);have HBke:=q9 (HBk10.below hb);have HLIe:=q9 (HLI10.below hb);have r0:=Qi hb HQ6.2;have rlt:=World.block_lt_of_cell? _ _ r0;clear hb
              by_cases hkr:k<rl
              . as_aux_lemma=>
                obtain⟨x,hx⟩:∃ x,t.row[k]?=some x:=⟨_,List.getElem?_eq_getElem (by have:=HRL.out;omega)⟩
                obtain⟨zz,m,rfl,hN,hzn,hkd⟩:=QeM HR.out HLV.out (HLX.1 x (List.mem_of_getElem? hx));obtain⟨b1,o1,rfl,p1⟩:=HLIe.at hx;have b1lt:b1<wr.heap.size:=World.block_lt_of_cell? _ _ p1
                have zn:zz<b.na:=by have:=HNA.out;omega
                obtain⟨n0,n1,n2,n3⟩:=(HBke.name hN zn).cells;have galt:=HBke.lt.2;obtain⟨c0,c1,c2,c3,c4,c5,c6⟩:=HXe.cells;have xlt:=HXe.lt
                have kI:(k:Int)<(rl:Int):=by omega
                have k0:(0:Int)<=(k:Int):=by omega
                have z600:(zz:Int)<=600:=by omega
                have zI:(zz:Int)<(b.na:Int):=by omega
                have z0:(0:Int)<=(zz:Int):=by omega
                have z9I:(z9:Int)<=560:=by omega
                have z90:(0:Int)<=(z9:Int):=by omega
                have HK1:Hid (k+1<=rl/\z9+1<=k+1):=q9 (by omega)
                clear hN hx hk hz9
                rcases hkd with ⟨u,rfl,_,ex⟩|⟨s,rfl,_,ex⟩|⟨s,rfl,_,ex⟩
                all_goals
                 dsimp only at n0 n1 n2 n3;clear ex
                . have HN5:Hid (KW13 w10 rl (I ((z9:Int)+1)) (I ((k:Int)+1)) wr.drew):=q9 ⟨k+1,z9+1,HK1.1,HK1.2,by simp,by simp,HBe.drew⟩
                  clear HBe HXe HBke HLIe;go_wp2_with fail
                  go_region;go_wp2_with fail
                  go_roundw
                  case rel=>exact HN5.out
                  case measure=>have:=HK1.out;simp [intOf];omega
                . have HN5:Hid (KW13 w10 rl (I (z9:Int)) (I ((k:Int)+1)) wr.drew):=q9 ⟨k+1,z9,HK1.1,by have:=HK1.2;omega,by simp,rfl,HBe.drew⟩
                  clear HBe HXe HBke HLIe;go_wp2_with fail
                  go_region;go_wp2_with fail
                  go_roundw
                  case rel=>exact HN5.out
                  case measure=>have:=HK1.out;simp [intOf];omega
                . have HN5:Hid (KW13 w10 rl (I (z9:Int)) (I ((k:Int)+1)) wr.drew):=q9 ⟨k+1,z9,HK1.1,by have:=HK1.2;omega,by simp,rfl,HBe.drew⟩
                  clear HBe HXe HBke HLIe;go_wp2_with fail
                  go_region;go_wp2_with fail
                  go_roundw
                  case rel=>exact HN5.out
                  case measure=>have:=HK1.out;simp [intOf];omega
              . as_aux_lemma=>
                have ek:rl=k:=by omega
                subst ek
                have kN:¬ (rl:Int)<(rl:Int):=by omega
                have HN5:Hid (KT13 w9 rn (I ((i:Int)+1)) wr):=q9 ⟨i+1,HIN.out,by simp,HB10.trans (HBe.mono HB10.size)⟩
                clear HBe HXe HBke HLIe;go_wp2_with fail
                go_roundw
                case rel=>exact HN5.out
                case measure=>have:=HIN.out;simp [intOf];omega
           . as_aux_lemma=>
             have ei:rn=i:=by omega
             subst ei
             have iN:¬ (rn:Int)<(rn:Int):=by omega
             have HBr:=q9 (HB9.trans (HB.mono HB9.size));obtain⟨z2,hz2⟩:∃ y,Int.tdiv z 2=y:=⟨_,rfl⟩
             have hz29:0<=z2/\z2<=16:=by
              have h1:=HZ.out;rw[Int.tdiv_eq_ediv_of_nonneg h1.1] at hz2;omega
             have HZ2:=q9 hz29
             have wz:IntKind.i64.wrap z2=z2:=IntWalk.i64_in _ (by omega)
             have HWr:=q9 (HW5.trans (HBr.mono HW5.size));clear HB hz29 hi hin;go_wp2_with fail
             obtain⟨wC,rfl⟩:∃ w9:World,w9=wr:=⟨_,rfl⟩;have HRELF:Hid (KT13 wC 0 (I 0) wC):=q9 ⟨0,Nat.zero_le _,rfl,Below.refl _ _⟩
             go_loopw [19] (fun i wr=>KT13 wC 0 i wr) (fun i _=>0-(intOf i).toNat)
             case atStart=>exact HRELF.out
             case round=>
              clear HRELF;obtain⟨y,hy,rfl,hb⟩:=hrel
              have HN5:Hid (KV13 w5 nl (I z2) (I ((L:Int)+1)) wr):=q9 ⟨L+1,z2,HLn.out,by simp,rfl,HZ2.1,HZ2.2,HBr.trans (hb.mono HBr.size)⟩
              clear hb;go_wp2_with fail
              go_roundw
              case rel=>exact HN5.out
              case measure=>have:=HLn.out;simp [intOf];omega
        . as_aux_lemma=>
          have eL:nl=L:=by omega
          subst eL
          have LN:¬ (nl:Int)<(nl:Int):=by omega
          clear HX6 HBk6 HEW6 HM6 HB6;go_wp2_with fail
          go_ret;exact⟨rfl,HW6⟩
end
end Go.Proofs.YtaooglagddphnaaGreat
