/- He -/
import Derived.Test.YtfpnjpbpfgjakaaGreatOHd
namespace Go.Proofs.YtfpnjpbpfgjakaaGreat
open Go.RowKit Go.Proofs.Tryz
set_option maxRecDepth 100000
set_option maxHeartbeats 16000000
section
variable {w w':World}{base:Nat}{v:Value}{l l2:List E1}
theorem Qov (h:EW w base v l)(ad:Addr)(n c:Nat)(hn:n=l2.length)(hc:∀ (j:Nat) (u:Value),(Qu l2)[j]?=some u->w.cell? (ad.add j)=some u)(hl:l.length+l2.length<=100000)(hb:base<=w.heap.size)(ty:TypeId):
 ∃ v' w',(Builtin.append_ #[59,59] ty #[v,.slice (some ad) n c]).run prog w=.ok v' w'/\EW w' base v' (l++l2)/\w.grownBy w' v.ownBlock/\(v'.ownBlock=v.ownBlock\/v'.ownBlock=some w.heap.size):=by
 obtain⟨i0,hi0,hz0,hz1,hz2⟩:=info_parts Qge;subst hn
 obtain⟨v',w',hrun,h1,h2,_,h3⟩:=run_append_own_at (P:=prog) w base 59 ty 67 i0 _ 5 40 underlying59 hi0 hz0 hz1 hz2 rfl (by omega) v l.length (Qu l) h ad l2.length c (Qu l2) (Qc6 l2) hc (QhD l2) (by simp only[maxLen];omega) (by omega) hb
 refine⟨v',w',hrun,?_,h2,h3⟩;unfold EW;rw[List.length_append,QfF];exact h1
theorem Qor {ops:Array Oper}{o:Oper}{a:Act}{K:Act->World->Prop}{Q:Exit->Act->World->Prop}{E:Prop}(hgd:o.guard=none)(s x:Operand)
 (ho:o.op=.call { callee:=.builtin .append,args:=#[s,x],argTypes:=#[59,59]})
 (hs:a.eval s=v) (h:EW w base v l) (ad:Addr) (n c:Nat) (hn:n=l2.length) (hv:a.eval x=.slice (some ad) n c) (hc:∀ (j:Nat) (u:Value),(Qu l2)[j]?=some u->w.cell? (ad.add j)=some u) (hl:l.length+l2.length<=100000) (hb:base<=w.heap.size)
 (hK:∀ v' w',EW w' base v' (l++l2)->w.grownBy w' v.ownBlock->(v'.ownBlock=v.ownBlock\/v'.ownBlock=some w.heap.size)->K (a.put o.dst v') w'):
 if Region.wanted o (yielded ops a.tmps)=true then Oper.wp prog o a w K Q else E:=by
 have hw:Region.wanted o (yielded ops a.tmps)=true:=by simp [Region.wanted,hgd]
 rw[if_pos hw];obtain⟨v',w',hr,h2,h3,h4⟩:=Qov h ad n c hn hc hl hb o.type;unfold Oper.wp execOp;simp only[ho,resolve,invoke,builtin,Sem.run_bind,Sem.run_pure,Result.andThen_ok,List.map_toArray,List.map_cons,List.map_nil,hs,hv,hr];exact hK v' w' h2 h3 h4
end
def BwI (l:List E1)(a b:Nat)(r:Int):Prop:=(r=-1/\∀ x∈l,¬ (x.u=a/\x.v=b))\/∃ (i:Nat) (x:E1),r=(i:Int)/\l[i]?=some x/\x.u=a/\x.v=b
theorem BwI.bd {l:List E1}{a b:Nat}{r:Int}(h:BwI l a b r)(hl:l.length<=1000):-1<=r/\r<1000:=by
 rcases h with ⟨rfl,_⟩|⟨i,x,rfl,hi,_⟩
 . omega
 . have:=(Jd hi).1;omega
theorem QoF {w:World}{q p base:Nat}{V S T:Int}{v:Value}{l:List E1}(hq:PB13 w q V S T p v)(hO:EW w base v l)(hl:l.length<=1000){u9 v9 a b:Nat}(ha:min u9 v9=a)(hb:max u9 v9=b)(hu:∀ (i j:Nat) (x y:E1),l[i]?=some x->l[j]?=some y->x.u=y.u/\x.v=y.v->i=j):
 I0 21 #[.pointer (some (I1 q 0)),I (u9:Int),I (v9:Int)] w fun e w'=>∃ r,e=.returned (I r)/\BwI l a b r/\Below w.heap.size w w':=by
 by_cases h:∃ x∈l,x.u=a/\x.v=b
 . obtain⟨x,hx,e⟩:=h
   obtain⟨i,hi⟩:=Kc hx
   exact(Qoo hq hO hl ha hb hi e fun j y hj hy=>hu j i y x hj hi ⟨hy.1.trans e.1.symm,hy.2.trans e.2.symm⟩).mono fun e' w' h=>⟨_,h.1,.inr ⟨i,x,rfl,hi,e⟩,h.2⟩
 . exact(QoO hq hO hl ha hb fun x hx e=>h ⟨x,hx,e⟩).mono fun e' w' h2=>⟨_,h2.1,.inl ⟨rfl,fun x hx e=>h ⟨x,hx,e⟩⟩,h2.2⟩
theorem Qos {w:World}{s a b l:Int}{t:Bool}:(Instr.field 67 (.agg #[I s,I a,I b,I l,.bool t]) 4).run prog w=.ok (.bool t) w:=by kernel_rfl
theorem Mv.erase {ls bs:List E1}(h:Mv ls bs)(i:Nat):Mv (ls.eraseIdx i) (bs.eraseIdx i):=⟨by rw[List.length_eraseIdx,List.length_eraseIdx,h.len],fun j x hx=>by
 rw[List.getElem?_eraseIdx] at hx |-
 split at hx<;>rename_i hj
 . rw[if_pos hj];exact h.st _ x hx
 . rw[if_neg hj];exact h.st _ x hx⟩
theorem Qox {V S T:Int}{f:Nat->Int}{bs es:List E1}{x:E1}(hp:es.Perm bs)(hE:ER V S T f bs)(hx:x∈bs):fdE es (x.s:Int)=some x:=by
 cases h:fdE es (x.s:Int) with
 |none=>exact absurd (List.find?_eq_none.1 h x (hp.mem_iff.2 hx)) (by simp)
 |some y=>
  have h1:=List.find?_some h;have h2:=hp.mem_iff.1 (List.mem_of_find?_eq_some h)
  rw[hE.uniq h2 hx (by simp at h1;omega)]
theorem EW.play14 {W:World}{base q p:Nat}{V S T:Int}{v vl:Value}{l:List E1}(h:EW W base v l)(hq:PB13 W q V S T p vl)(u:Value):EW (W.setCell (I1 q 14) u) base v l:=by
 refine h.kept_of fun i hi=>?_
 rcases h.shape with ⟨rfl,rfl⟩|⟨g,c,cs,rfl,hg,hz,_⟩
 . cases hi
 . have e:g=i:=by injection hi
   subst e
   exact(hz.far (p:=(I1 q 14)) (Blk.ne_ hz hq (by decide)) _).trans hz.symm
theorem QoS {a b:Bool}(h:a=true↔b=true):(a==b)=true:=by cases a<;>cases b<;>simp at h |-
theorem Mv.snoc {ls bs:List E1}{x y:E1}(h:Mv ls bs)(e1:y.s=x.s)(e2:y.u=x.u)(e3:y.v=x.v)(e4:x.l<=y.l)(e5:x.t=true->y.t=true):Mv (ls++[x]) (bs++[y]):=⟨by simp [h.len],fun i z hz=>by
 by_cases hi:i<ls.length
 . rw[List.getElem?_append_left hi] at hz
   rw[List.getElem?_append_left (by rw[h.len];exact hi)]
   exact h.st i z hz
 . rw[List.getElem?_append_right (by omega)] at hz
   have h0:i-ls.length=0:=by have:=(Jd hz).1;simp at this;omega
   rw[h0] at hz;simp at hz;subst hz
   exact⟨y,by rw[List.getElem?_append_right (by rw[h.len];omega),h.len,h0];rfl,e1,e2,e3,e4,e5⟩⟩
section
variable {w:World}{base q p gb cap m u9 v9:Nat}{V S T kd:Int}{f:Nat->Int}{mk:Nat->Nat}{ts:List Tp}{vl:Value}{ls bs:List E1}{qq:Nat->Nat->List Nat}
theorem QoJ (h:PW13 w base q V S T p gb cap m f mk ts vl ls)(hG:LG V S T f mk ts bs qq)(hs:Hs V.toNat bs)(hM:Mv ls bs)(v8:V<=8)(s12:S<=12)(hm:m<=98000000)(hne:u9≠v9)(hu:(u9:Int)<V)(hv:(v9:Int)<V):
 I0 12 #[.pointer (some (I1 q 0)),vO13 kd (u9:Int) (v9:Int)] w (QpH w base q V S T p gb cap (m+1460000) kd (u9:Int) (v9:Int) ls bs):=by
 obtain⟨av,ac,rfl⟩:=h.ew.slice;obtain⟨n,hn9⟩:∃ n,ls.length=n:=⟨_,rfl⟩;have HN:=q9 hn9;have hR:=h.ta.hR;have hnn:=Qoz hR v8 s12;have hdc:=QpE hR v8 s12
 have hn12:n<=12:=by have:=hM.few hG.er;omega
 have HV12:=q9 (And.intro v8 s12);rw[hn9] at h;have HG:=q9 hG;have HS:=q9 hs;have HM:=q9 hM;have HR:=q9 hR
 have HOK:Hid (∀ x∈ls,x.u<x.v/\(x.v:Int)<V):=q9 fun x hx=>⟨(hM.ok hG.er x hx).1,(hM.ok hG.er x hx).2.1⟩
 have HWA:Hid (∀ a c,Way (aE ls) a c↔Way (tE bs 0) a c):=q9 fun a c=>by rw[<-hM.aE_eq];exact hs.all
 have HP:Hid (u9≠v9/\(u9:Int)<V/\(v9:Int)<V):=q9 ⟨hne,hu,hv⟩;obtain⟨a,ha⟩:∃ a,min u9 v9=a:=⟨_,rfl⟩;obtain⟨b,hb9⟩:∃ a,max u9 v9=a:=⟨_,rfl⟩;have HAE:=q9 (And.intro ha hb9)
 have HAB:Hid (a<b/\(b:Int)<V/\(a:Int)<V/\(a:Int)=min (u9:Int) (v9:Int)/\(b:Int)=max (u9:Int) (v9:Int)):=q9 (by omega)
 have HOP0:Hid (QhM (w.alloc (.cells #[I kd,I (u9:Int),I (v9:Int)] 33)) w.heap.size kd (u9:Int) (v9:Int)):=q9 (Blk.new _ _ _);have HX0:=q9 ((PX13.start h).alloc (.cells #[I kd,I (u9:Int),I (v9:Int)] 33))
 have HXO:Hid (∀ {w':World} {m':Nat} {f':Nat->Int} {mk':Nat->Nat} {ts':List Tp} {vl':Value} {ls':List E1},PX13 (w.alloc (.cells #[I kd,I (u9:Int),I (v9:Int)] 33)) w' base q V S T p gb cap m' f' mk' ts' vl' ls'->PX13 w w' base q V S T p gb cap m' f' mk' ts' vl' ls'):=q9 fun h2=>PX13.first h _ h2
 have HX1:Hid (PX13 (w.alloc (.cells #[I kd,I (u9:Int),I (v9:Int)] 33)) (w.alloc (.cells #[I kd,I (u9:Int),I (v9:Int)] 33)) base q V S T p gb cap m f mk ts (.slice av n ac) ls):=q9 (PX13.start HX0.pw);have HV0:=q9 HX1.pw.pq.cells.2.2.2.2.2.2.2.2.2.2.2.2.2.2
 have g1:¬ (u9:Int)<0:=by omega
 have g2:¬ V<=(u9:Int):=by omega
 have g3:¬ (v9:Int)<0:=by omega
 have g4:¬ V<=(v9:Int):=by omega
 clear h hG hs hM hn9 hR ha hb9 v8 s12
 go_enter func12,ntmps12
 go_upto_region 1 with fail
 generalize w.heap.size=ob at HOP0 |-;generalize w.alloc (.cells #[I kd,I (u9:Int),I (v9:Int)] 33)=W1 at HOP0 HX0 HXO HX1 HV0 |-;have HOP:=HOP0;have Hd:=q9 HX1.drew;have hrule:=SQ13.rule ob q p V S T (.slice av n ac) kd (u9:Int) (v9:Int);clear HX1 HOP0;obtain⟨⟨o0,o1,o2⟩,c0,c1,c2,c3,c4,c5,c6,c7,c8,c9,c10,c11,c12,c13,c14⟩:=hrule _ (Hd.sq HOP.out);obtain⟨olt,qlt⟩:=(Hd.sq HOP.out).lt
 refine wp_region_held_drew (S:=(fun W=>SQ13 W ob q p V S T (.slice av n ac) kd (u9:Int) (v9:Int))) (by kernel_rfl) ?_ (fun hHeld=>?_)
 . exact Hd.sq HOP
 refine q9N 0 rfl ?_
 refine q9N 1 rfl ?_
 refine q9N 2 rfl ?_
 refine q9N 3 rfl ?_
 refine wpAnyH_take (i:=4) (v:=.bool false) rfl (by kernel_rfl) (by kernel_rfl) (by kernel_rfl) (fun _ _ _ h=>h) (Or.inl ⟨by rfl,?_⟩) (by assumption) ?_
 . (intro w hSw;(try dsimp only at hSw);go_simp;try omega)
 try simp only[Act.put,q98]
 refine q9N 5 rfl ?_
 refine q9N 6 rfl ?_
 refine q9N 7 rfl ?_
 refine wpAnyH_take (i:=8) (v:=.bool false) rfl (by kernel_rfl) (by kernel_rfl) (by kernel_rfl) (fun _ _ _ h=>h) (Or.inl ⟨by rfl,?_⟩) (by assumption) ?_
 . (intro w hSw;(try dsimp only at hSw);go_simp;try omega)
 try simp only[Act.put,q98]
 refine q9N 9 rfl ?_
 refine q9N 10 rfl ?_
 refine q9N 11 rfl ?_
 refine q9N 12 rfl ?_
 refine q9N 13 rfl ?_
 refine q9N 14 rfl ?_
 refine q9N 15 rfl ?_
 refine q9N 16 rfl ?_
 refine q9N 17 rfl ?_
 refine wpAnyH_take (i:=18) (v:=.bool false) rfl (by kernel_rfl) (by kernel_rfl) (by kernel_rfl) (fun _ _ _ h=>h) (Or.inl ⟨by rfl,?_⟩) (by assumption) ?_
 . (intro w hSw;(try dsimp only at hSw);go_simp;try omega)
 try simp only[Act.put,q98]
 refine q9N 19 rfl ?_
 refine q9N 20 rfl ?_
 refine q9N 21 rfl ?_
 refine q9N 22 rfl ?_
 refine wpAnyH_take (i:=23) (v:=.bool false) rfl (by kernel_rfl) (by kernel_rfl) (by kernel_rfl) (fun _ _ _ h=>h) (Or.inl ⟨by rfl,?_⟩) (by assumption) ?_
 . (intro w hSw;(try dsimp only at hSw);go_simp;try omega)
 try simp only[Act.put,q98]
 refine q9N 24 rfl ?_
 refine q9N 25 rfl ?_
 refine q9N 26 rfl ?_
 refine q9N 27 rfl ?_
 refine q9N 28 rfl ?_
 refine q9N 29 rfl ?_
 refine q9N 30 rfl ?_
 refine q9N 31 rfl ?_
 refine q9N 32 rfl ?_
 refine wpAnyH_take (i:=33) (v:=.bool false) rfl (by kernel_rfl) (by kernel_rfl) (by kernel_rfl) (fun _ _ _ h=>h) (Or.inl ⟨by rfl,?_⟩) (by assumption) ?_
 . (intro w hSw;(try dsimp only at hSw);go_simp;try omega)
 try simp only[Act.put,q98]
 refine q9N 34 rfl ?_
 refine wpAnyH_done (by kernel_rfl) ?_ _
 clear g1 g2 g3 g4 hne hu hv
 have hbt:=QoF Hd.pw.pq Hd.pw.ew (by have:=HN.out;omega) HAE.1 HAE.2 (fun i j x y hi hj e=>HM.ends1 HG.er hi hj e)
 go_wp2_with fail
 refine hbt.mono ?_;rintro e w3 ⟨iI,rfl,hiI,B3⟩;have H3:=q9 (Hd.below B3);have HI:=q9 hiI
 obtain⟨i0,i1⟩:=hiI.bd (by have:=HN.out;omega)
 clear hbt hiI B3 Hd o0 o1 o2 c0 c1 c2 c3 c4 c5 c6 c7 c8 c9 c10 c11 c12 c13 c14 olt qlt;obtain⟨⟨o0,o1,o2⟩,c0,c1,c2,c3,c4,c5,c6,c7,c8,c9,c10,c11,c12,c13,c14⟩:=hrule _ (H3.sq HOP.out);obtain⟨olt,qlt⟩:=(H3.sq HOP.out).lt
 have hfr:=Qo3 H3.pw.pq H3.pw.ew (by have:=HN.out;omega) (by have:=HR.s1;omega) (by have:=HV12.out;omega)
 go_wp2_with fail
 refine hfr.mono ?_;rintro e w4 ⟨sI,rfl,hsI,B4⟩;have H4:=q9 (H3.below B4);have HF:=q9 hsI
 have HSS:Hid (-1<=sI/\sI<1000):=q9 (by
  rcases hsI with ⟨rfl,_⟩|⟨s,rfl,h1,_⟩
  . omega
  . have:=HV12.out;omega)
 have hs9:=HSS.out;clear hfr hsI B4 H3 o0 o1 o2 c0 c1 c2 c3 c4 c5 c6 c7 c8 c9 c10 c11 c12 c13 c14 olt qlt;obtain⟨⟨o0,o1,o2⟩,c0,c1,c2,c3,c4,c5,c6,c7,c8,c9,c10,c11,c12,c13,c14⟩:=hrule _ (H4.sq HOP.out);obtain⟨olt,qlt⟩:=(H4.sq HOP.out).lt
 cases e1:(kd==1)
 rotate_left
 . as_aux_lemma=>
    have hk1:kd=1:=by simpa using e1
    have HK1:=q9 hk1;clear hk1
    by_cases gi:0<=iI
    . as_aux_lemma=>
       go_wp2_with fail
       go_ret
       exact⟨rfl,f,mk,ts,_,ls,bs,qq,(HXO H4).more (by omega),HG,HS,HM,.inl ⟨rfl,rfl,fun _ _ _ _ _ _=>by
        rcases HI.out with ⟨h1,_⟩|⟨i,x,_,hx,h2⟩
        . omega
        . exact .inl ⟨x,Je hx,by rw[h2.1];exact HAB.2.2.2.1,by rw[h2.2];exact HAB.2.2.2.2⟩⟩⟩
    have HNP:Hid (∀ x∈ls,¬ (x.u=a/\x.v=b)):=q9 (by
     rcases HI.out with ⟨_,h1⟩|⟨i,x,h1,_⟩
     . exact h1
     . omega)
    by_cases gs:sI<0
    . as_aux_lemma=>
       go_wp2_with fail
       go_ret
       exact⟨rfl,f,mk,ts,_,ls,bs,qq,(HXO H4).more (by omega),HG,HS,HM,.inl ⟨rfl,rfl,fun _ _ _ _ _ _=>by
        rcases HF.out with ⟨_,h1⟩|⟨s,h1,_⟩
        . exact .inr h1
        . omega⟩⟩
    obtain⟨s9,rfl⟩:∃ s9:Nat,sI=(s9:Int):=⟨sI.toNat,by omega⟩
    have HNS:Hid ((s9:Int)<S/\∀ x∈ls,x.s≠s9):=q9 (by
     rcases HF.out with ⟨h1,_⟩|⟨s,h1,h2,h3⟩
     . omega
     . obtain rfl:s9=s:=by omega
       exact⟨h2,h3⟩)
    have gs0:(0:Int)<=(s9:Int):=by omega
    clear HF HI HSS hs9;go_wp2_with fail
    have H5:=q9 H4.drew;clear H4 o0 o1 o2 c0 c1 c2 c3 c4 c5 c6 c7 c8 c9 c10 c11 c12 c13 c14 olt qlt;obtain⟨⟨o0,o1,o2⟩,c0,c1,c2,c3,c4,c5,c6,c7,c8,c9,c10,c11,c12,c13,c14⟩:=hrule _ (H5.sq HOP.out);obtain⟨olt,qlt⟩:=(H5.sq HOP.out).lt
    have hjn:=QoE (u:=u9) (v9:=v9) H5.pw.ew (by have:=HN.out;omega) HOK.out (by have:=HV12.out;omega) HP.2.1
    have HJN:=q9 hjn;clear hjn
    go_region_held3 (fun W=>SQ13 W ob q p V S T (.slice av n ac) kd (u9:Int) (v9:Int)) (first|(with_reducible assumption)|(with_reducible exact H6.out.sq HOP.out)|(with_reducible exact H5.out.sq HOP.out))
     (first
      |(go_at_call 17;((with_reducible refine HJN.out.mono ?_);rintro e w5 ⟨r,rfl,hr,B5⟩;have H6:=q9 (H5.out.below B5);have HRR:=q9 hr)))
    clear hr B5 HJN H5 hrule o0 o1 o2 c0 c1 c2 c3 c4 c5 c6 c7 c8 c9 c10 c11 c12 c13 c14 olt qlt;have hrule:=SQ13.rule ob q p V S T (.slice av n ac) kd (u9:Int) (v9:Int);go_wp2_with fail
    have H8:=q9 H6.drew;clear H6;obtain⟨⟨o0,o1,o2⟩,c0,c1,c2,c3,c4,c5,c6,c7,c8,c9,c10,c11,c12,c13,c14⟩:=hrule _ (H8.sq HOP.out);obtain⟨olt,qlt⟩:=(H8.sq HOP.out).lt
    have mI:(if v9<u9 then (v9:Int) else (u9:Int))=(a:Int):=by have:=HAE.out;split<;>omega
    have xI:(if u9<v9 then (v9:Int) else (u9:Int))=(b:Int):=by have:=HAE.out;split<;>omega
    refine QcL (fun W=>SQ13 W ob q p V S T (.slice av n ac) kd (u9:Int) (v9:Int)) (fun j=>decide (21<=j)) (by kernel_rfl) ?_ (fun hHeld=>?_)
    . exact H8.sq HOP
    refine q9P 0 rfl ?_
    refine q9P 1 rfl ?_
    refine q9P 2 rfl ?_
    refine q9P 3 rfl ?_
    refine q9L 4 rfl ?_
    refine q9P 5 rfl ?_
    refine q9P 6 rfl ?_
    refine q9L 7 rfl ?_
    refine q9P 8 rfl ?_
    refine q9L 9 rfl ?_
    refine Till.plain (i:=10) (v:=I (a:Int)) rfl (by kernel_rfl) (by kernel_rfl) (by kernel_rfl) (fun _ _ _ h=>h) (Or.inl ⟨by rfl,?_⟩) ?_
    . (intro w hSw;(try dsimp only at hSw);go_simp)
    try simp only[Act.put,q98]
    refine q9P 11 rfl ?_
    refine q9L 12 rfl ?_
    refine q9P 13 rfl ?_
    refine q9L 14 rfl ?_
    refine Till.plain (i:=15) (v:=I (b:Int)) rfl (by kernel_rfl) (by kernel_rfl) (by kernel_rfl) (fun _ _ _ h=>h) (Or.inl ⟨by rfl,?_⟩) ?_
    . (intro w hSw;(try dsimp only at hSw);go_simp)
    try simp only[Act.put,q98]
    refine Till.plain (i:=16) (v:=Qea (s9:Int) (a:Int) (b:Int) 0 false) rfl (by kernel_rfl) (by kernel_rfl) (by kernel_rfl) (fun _ _ _ h=>h) (Or.inl ⟨by rfl,?_⟩) ?_
    . exact fun w _=>QgQ (s:=(s9:Int)) (a:=(a:Int)) (b:=(b:Int)) (by rfl) (by rfl) (by rfl) (by rfl)
    try simp only[Act.put,q98]
    refine q9T 17 rfl fun K hK=>?_
    refine Qfb (s:=(s9:Int)) (a:=(a:Int)) (b:=(b:Int)) (l:=0) (t:=false) (by rfl) (by rfl) (by rfl) ?_
    refine hK.out _ _ ?_ (fun hHeld=>?_)
    . (try dsimp only);exact(H8.alloc _).sq HOP
    clear hK K;try simp only[Act.put,q98]
    refine q9T 18 rfl fun K hK=>?_
    refine Qor (l2:=[⟨s9,a,b,0,false⟩]) (by rfl) _ _ (by rfl) rfl (H8.alloc (.cells #[I (s9:Int),I (a:Int),I (b:Int),I 0,.bool false] 67)).pw.ew (I1 w5.drew.heap.size 0) 1 1 rfl rfl (Qiq w5.drew ⟨s9,a,b,0,false⟩) (by have:=HN.out;simp;omega) (H8.alloc (.cells #[I (s9:Int),I (a:Int),I (b:Int),I 0,.bool false] 67)).pw.size ?_
    intro v5 w6 hO5 hg5 hk5;have HB8:=q9 ((H8.alloc (.cells #[I (s9:Int),I (a:Int),I (b:Int),I 0,.bool false] 67)).appended hg5 hO5 HV0.out hk5);have z7:=Blk.cell HB8.1 14;have z8:=Blk.frozen HB8.1 14;have z9:=HB8.1.lt;obtain⟨av5,ac5,hv5⟩:=hO5.slice;obtain⟨n6,hn6⟩:∃ N,(ls++[(⟨s9,a,b,0,false⟩:E1)]).length=N:=⟨_,rfl⟩;rw[hn6] at hv5;subst hv5;clear hg5 hO5 hk5 hn6
    refine hK.out _ _ ?_ (fun hHeld=>?_)
    . (try dsimp only);exact⟨HB8.2.2 _ _ _ HOP QiH,HB8.1⟩
    clear hK K;try simp only[Act.put,q98]
    refine q9P 19 rfl ?_
    refine q9P 20 rfl ?_
    refine Till.ready (rs:=[21]) (by kernel_rfl) (by simp) ?_
    refine Qc.last rfl (by rfl) (fun K hK=>?_) ?_
    rotate_left
    . exact Qc.nil
    go_simp
    refine hK.out _ _ ?_;clear hK K;try simp only[Act.put,q98]
    refine Till.done (by kernel_rfl) ?_ _
    clear hrule o0 o1 o2 c0 c1 c2 c3 c4 c5 c6 c7 c8 c9 c10 c11 c12 c13 c14 olt qlt mI xI;have H9:=q9 HB8.2.1;clear z7 z8 z9 HB8 H8;have hrule:=SQ13.rule ob q p V S T (.slice av5 n6 ac5) kd (u9:Int) (v9:Int);go_wp2_with fail
    have HA:=q9 H9.drew;clear H9;obtain⟨⟨o0,o1,o2⟩,c0,c1,c2,c3,c4,c5,c6,c7,c8,c9,c10,c11,c12,c13,c14⟩:=hrule _ (HA.sq HOP.out);obtain⟨olt,qlt⟩:=(HA.sq HOP.out).lt
    have HSL:Hid (∀ x∈bs,x.s≠s9):=q9 fun x hx=>by
     obtain⟨i,hi⟩:=Kc hx;obtain⟨y,hy,e1,_⟩:=HM.back hi;rw[e1];exact HNS.2 y (Je hy)
    have HPL:Hid (∀ x∈bs,¬ (x.u=a/\x.v=b)):=q9 fun x hx=>by
     obtain⟨i,hi⟩:=Kc hx;obtain⟨y,hy,_,e2,e3,_⟩:=HM.back hi;rw[e2,e3];exact HNP y (Je hy)
    have HIN:=q9 (QoY (u:=u9) (v:=v9) HA.pw.ta HG.out HP.1 HP.2.1 HP.2.2 HNS.1 HSL.out (by rw[HAE.1,HAE.2];exact HPL) (by omega))
    have TTL:∀ t:Bool,(t=true↔¬ r=true)->(t==!r)=true:=fun t h=>by cases t<;>cases r<;>simp at h |-
    have HTT:=q9 TTL;clear TTL
    go_region_held3 (fun W=>SQ13 W ob q p V S T (.slice av5 n6 ac5) kd (u9:Int) (v9:Int)) (first|(with_reducible assumption)|(with_reducible exact HC.out.sq HOP.out)|(with_reducible exact HA.out.sq HOP.out))
     (first
      |(go_at_call 22;((with_reducible refine HIN.out.mono ?_);rintro e w7 ⟨t,f7,mk7,ts7,q7,rfl,ht,A7,G7,O7⟩;have HC:=q9 (HA.out.next A7 O7);have HG7:=q9 G7;have HT7:=q9 ht;have ht9:=HTT.out t (ht.trans (not_congr ((HWA.out _ _).symm.trans HRR.out.symm))))))
    clear hrule o0 o1 o2 c0 c1 c2 c3 c4 c5 c6 c7 c8 c9 c10 c11 c12 c13 c14 olt qlt HIN ht A7 G7 O7 HA;go_wp2_with fail
    go_ret;have hgf:=HG7.out;rw[HAE.1,HAE.2] at hgf;have hin:=HT7.out
    have hab:Way (tE bs 0) u9 v9↔Way (tE bs 0) a b:=by
     have h1:(a=u9/\b=v9)\/(a=v9/\b=u9):=by have:=HAE.out;omega
     rcases h1 with ⟨rfl,rfl⟩|⟨rfl,rfl⟩
     . exact Iff.rfl
     . exact⟨Way.symm,Way.symm⟩
    refine⟨rfl,f7,mk7,ts7,_,_,_,q7,(HXO.out HC.out).more (by show _<=_;omega),hgf,HS.inn (hin.trans (not_congr hab)),HM.snoc rfl rfl rfl (Nat.zero_le _) (fun h=>by cases h),.inr (.inl ⟨HK1.out,s9,a,b,t,HAB.2.2.2.1,HAB.2.2.2.2,HAB.1,HAB.2.1,HNS.1,HNS.2,HNP.out,hin.trans (not_congr hab),rfl,rfl⟩)⟩
 cases e2:(kd==2)
 rotate_left
 . as_aux_lemma=>
    have hk1:kd=2:=by simpa using e2
    have HK1:=q9 hk1;clear hk1
    by_cases gi:0<=iI
    rotate_left
    . as_aux_lemma=>
       have gi2:iI<0:=by omega
       go_wp2_with fail
       go_ret
       exact⟨rfl,f,mk,ts,_,ls,bs,qq,(HXO.out H4.out).more (by omega),HG.out,HS.out,HM.out,.inl ⟨rfl,rfl,fun h=>by have:=HK1.out;omega⟩⟩
    obtain⟨i,x,hiI,hi,exa,exb⟩:∃ (i:Nat) (x:E1),iI=(i:Int)/\ls[i]?=some x/\x.u=a/\x.v=b:=by
     rcases HI.out with ⟨h1,_⟩|h1
     . omega
     . exact h1
    subst hiI;obtain⟨y,hy,ys,yu,yv,_⟩:=HM.st i x hi;have hok9:=HG.er.ok y (Je hy)
    have HUV:Hid (x.u<x.v/\(x.u:Int)<V/\(x.v:Int)<V):=q9 (by omega)
    have HXY:=q9 (And.intro hi (And.intro hy (And.intro ys (And.intro yu yv))));have iLn:i<ls.length:=(Jd hi).1;obtain⟨g,cp9,hv5,_,glt,_,z0,z1,z2,z3,z4⟩:=H4.pw.ew.at hi;injection hv5 with ev1 ev2 ev3;subst ev1 ev3
    have iI:(i:Int)<(n:Int):=by have:=HN.out;omega
    have inn:(0:Int)<=(i:Int):=by omega
    have iN:¬ (i:Int)<0:=by omega
    have hcap:n<=ac:=by
     rcases H4.pw.ew.shape with ⟨e,_⟩|⟨_,_,_,e,_,_,h1,_⟩
     . cases e
     . injection e with _ _ e3
       rw[<-e3] at h1;rw[HN.out] at h1;exact h1
    clear hi hy ys yu yv exa exb ev2 hok9 HI HF HSS hs9 i0 i1 iLn;go_wp2_with fail
    have H5:=q9 (H4.alloc (.cells #[I (x.s:Int),I (x.u:Int),I (x.v:Int),I (x.l:Int),.bool x.t] 67));have HXB:Hid (Blk (w4.alloc (.cells #[I (x.s:Int),I (x.u:Int),I (x.v:Int),I (x.l:Int),.bool x.t] 67)) w4.heap.size 67 #[I (x.s:Int),I (x.u:Int),I (x.v:Int),I (x.l:Int),.bool x.t]):=q9 (Blk.new _ _ _);clear H4 hrule z0 z1 z2 z3 z4 glt o0 o1 o2 c0 c1 c2 c3 c4 c5 c6 c7 c8 c9 c10 c11 c12 c13 c14 olt qlt;generalize w4.heap.size=xb at HXB |-;generalize w4.alloc (.cells #[I (x.s:Int),I (x.u:Int),I (x.v:Int),I (x.l:Int),.bool x.t] 67)=W5 at H5 HXB |-
    refine(QoN H5.pw HG HV12.1 HV12.2 (by omega)).mono ?_;rintro e w5 ⟨b1,rfl,hB1,_,A9,O9⟩
    have H6:=q9 (H5.next A9 O9)
    have HXB6:=q9 (Blk.ta HXB.out H5.pw.ta O9 (by decide) (by decide))
    have HED:=q9 (hB1.edges (base:=base) H6.pw.size);clear hB1 A9 O9 H5 HXB;go_wp2_with fail
    refine HED.mono ?_;rintro e w6 ⟨v1,es1,rfl,hPM,hEW,B6⟩;obtain⟨la,l1,lc,rfl,hEW⟩:=QbI hEW;have H7:=q9 (H6.below B6);have HXB7:=q9 (HXB6.below B6 HXB6.lt);have HE7:=q9 hEW;have HPM:=q9 hPM;clear HED hPM hEW B6 H6 HXB6;have hrule:=SQ13.rule ob q p V S T (I3 (I1 g 0) n ac) kd (u9:Int) (v9:Int);obtain⟨⟨o0,o1,o2⟩,c0,c1,c2,c3,c4,c5,c6,c7,c8,c9,c10,c11,c12,c13,c14⟩:=hrule _ (H7.sq HOP.out);obtain⟨olt,qlt⟩:=(H7.sq HOP.out).lt
    have wq1:IntKind.i64.wrap ((i:Int)+1)=(i:Int)+1:=IntWalk.i64_in _ (by omega)
    have iac:i<=ac:=by omega
    have j0:(0:Int)<=(i:Int)+1:=by omega
    have j1:(i:Int)+1<=(n:Int):=by omega
    have jt:((i:Int)+1).toNat=i+1:=by omega
    obtain⟨ad,had⟩:∃ ad,(if ac=i+1 then some ((I1 g 0):Addr) else some ⟨g,(i+1)*5,none⟩)=some ad:=by split<;>exact⟨_,rfl⟩
    have HSRC:Hid (∀ W:World,EW W base (I3 (I1 g 0) n ac) ls->∀ (j:Nat) (u:Value),(Qu (ls.drop (i+1)))[j]?=some u->W.cell? (ad.add j)=some u):=q9 (by
     intro W hW j u hj
     by_cases hac:ac=i+1
     . have:ls.drop (i+1)=[]:=List.drop_eq_nil_of_le (by have:=HN.out;omega)
       rw[this] at hj;cases hj
     . rw[if_neg hac] at had
       injection had with had;rw[<-had];exact hW.src_drop (i+1) j u hj)
    go_wp2_with fail
    clear o0 o1 o2 c0 c1 c2 c3 c4 c5 c6 c7 c8 c9 c10 c11 c12 c13 c14 olt qlt;have H10:=q9 H7.drew;obtain⟨⟨o0,o1,o2⟩,c0,c1,c2,c3,c4,c5,c6,c7,c8,c9,c10,c11,c12,c13,c14⟩:=hrule _ (H10.sq HOP.out);obtain⟨olt,qlt⟩:=(H10.sq HOP.out).lt
    refine QcL (fun W=>SQ13 W ob q p V S T (I3 (I1 g 0) n ac) kd (u9:Int) (v9:Int)) (fun j=>decide (19<=j)) (by kernel_rfl) ?_ (fun hHeld=>?_)
    . exact H10.sq HOP
    refine q9P 0 rfl ?_
    refine q9P 2 rfl ?_
    refine q9P 3 rfl ?_
    refine q9P 4 rfl ?_
    refine q9L 5 rfl ?_
    refine q9P 6 rfl ?_
    refine q9P 7 rfl ?_
    refine q9P 9 rfl ?_
    refine q9P 10 rfl ?_
    refine q9P 11 rfl ?_
    refine q9L 12 rfl ?_
    refine q9P 13 rfl ?_
    refine q9P 14 rfl ?_
    refine q9P 15 rfl ?_
    refine q9T 1 rfl fun K hK=>?_
    go_simp
    refine hK.out _ _ ?_ (fun hHeld=>?_)
    . (try dsimp only);exact(H7.alloc _).drew.sq HOP
    clear hK K;try simp only[Act.put,q98]
    refine q9T 8 rfl fun K hK=>?_
    refine QL (l2:=ls.take i) (by rfl) _ _ (by rfl) rfl (EW.empty w6).drew (I1 g 0) i ac (by rw[List.length_take];have:=HN.out;omega) rfl ((H7.alloc (.cells #[] 67)).drew.pw.ew.src_take i) (by simp;have:=HN.out;omega) (by simp) ?_
    intro va wa hOa hga
    have HBa:=q9 ((Ja.alloc Jb (.cells #[] 67)).drew.grown hga (by simp) (fun r hr=>((EW.empty w6).drew.lt r hr).1))
    have Ha:=q9 (H7.below HBa.out);rw[List.nil_append] at hOa;have HOa:=q9 hOa;obtain⟨ava,aca,hva⟩:=hOa.slice;obtain⟨na,hna⟩:∃ N,(ls.take i).length=N:=⟨_,rfl⟩;rw[hna] at hva;subst hva;clear hga hOa hna
    refine hK.out _ _ ?_ (fun hHeld=>?_)
    . (try dsimp only);exact Ha.sq HOP
    clear hK K;try simp only[Act.put,q98]
    refine q9T 16 rfl fun K hK=>?_
    refine QL (l2:=ls.drop (i+1)) (by rfl) _ _ (by rfl) rfl HOa.out ad (n-(i+1)) (ac-(i+1)) (by rw[List.length_drop];have:=HN.out;omega) rfl (HSRC.out _ Ha.pw.ew) (by simp;have:=HN.out;omega) HBa.size ?_
    intro vb wb hOb hgb
    have HBb:=q9 (HBa.grown hgb HBa.size (fun r hr=>(HOa.lt r hr).1))
    have Hb:=q9 (H7.below HBb.out);rw[Qbj] at hOb
    have HKB:Hid (∀ k,vb.ownBlock=some k->W1.heap.size<=k):=q9 fun k hk=>Nat.le_trans H7.be.size (hOb.lt k hk).1
    have HOb:=q9 (hOb.less H7.pw.size);obtain⟨avb,acb,hvb⟩:=hOb.slice;obtain⟨nb,hnb⟩:∃ N,(ls.eraseIdx i).length=N:=⟨_,rfl⟩;have HNB:=q9 hnb;rw[hnb] at hvb;subst hvb;have y7:=Blk.cell Hb.pw.pq 14;have y8:=Blk.frozen Hb.pw.pq 14;have y9:=Hb.pw.pq.lt;clear hgb hOb hnb
    refine hK.out _ _ ?_ (fun hHeld=>?_)
    . (try dsimp only);exact Hb.sq HOP
    clear hK K;try simp only[Act.put,q98]
    refine q9P 17 rfl ?_
    refine q9P 18 rfl ?_
    refine Till.ready (rs:=[19]) (by kernel_rfl) (by simp) ?_
    refine Qc.last rfl (by rfl) (fun K hK=>?_) ?_
    rotate_left
    . exact Qc.nil
    go_simp
    refine hK.out _ _ ?_;clear hK K;try simp only[Act.put,q98]
    refine Till.done (by kernel_rfl) ?_ _
    clear hrule o0 o1 o2 c0 c1 c2 c3 c4 c5 c6 c7 c8 c9 c10 c11 c12 c13 c14 olt qlt;have Hc:=q9 (Hb.list HOb.out HKB.out);have HEc:Hid (EW (wb.setCell (I1 q 14) (.slice avb nb acb)) base (.slice la l1 lc) es1):=q9 ((HE7.below HBb.out).play14 Hb.pw.pq _)
    have HXBc:Hid (Blk (wb.setCell (I1 q 14) (.slice avb nb acb)) xb 67 #[I (x.s:Int),I (x.u:Int),I (x.v:Int),I (x.l:Int),.bool x.t]):=q9 (Blk.far (p:=(I1 q 14)) (HXB7.below HBb.out HXB7.lt) (Blk.ne_ (HXB7.below HBb.out HXB7.lt) Hb.pw.pq (by decide)) _)
    clear y7 y8 y9 HOb HOa Ha Hb HBa HBb HSRC H7 H10 HE7 HXB7 wq1 j0 j1 jt had iac;generalize wb.setCell (I1 q 14) (.slice avb nb acb)=wc at Hc HEc HXBc |-
    have HWE:Hid (∀ a c,Way (aE (ls.eraseIdx i)) a c↔Way (aE (bs.eraseIdx i)) a c):=q9 fun a c=>by rw[(HM.erase i).aE_eq]
    have nbI:Hid (nb<=12):=q9 (by
     rw[<-HNB.out]
     exact Nat.le_trans (List.eraseIdx_sublist _ _).length_le (by have:=HN.out;omega))
    have HOKE:Hid (∀ z∈ls.eraseIdx i,z.u<z.v/\(z.v:Int)<V):=q9 fun z hz=>HOK.out z (List.mem_of_mem_eraseIdx hz)
    have hrule:=SQ13.rule ob q p V S T (.slice avb nb acb) kd (u9:Int) (v9:Int);go_wp2_with fail
    have H11:=q9 Hc.drew;have HE11:=q9 HEc.drew;have HXB11:Hid (Blk wc.drew xb 67 #[I (x.s:Int),I (x.u:Int),I (x.v:Int),I (x.l:Int),.bool x.t]):=q9 (Blk.drew HXBc.out);clear Hc HEc HXBc
    have hrule3:∀ W:World,SQ13 W ob q p V S T (.slice avb nb acb) kd (u9:Int) (v9:Int)/\Blk W xb 67 #[I (x.s:Int),I (x.u:Int),I (x.v:Int),I (x.l:Int),.bool x.t]->(W.cell? (I1 xb 0)=some (I (x.s:Int))/\W.cell? (I1 xb 1)=some (I (x.u:Int))/\W.cell? (I1 xb 2)=some (I (x.v:Int)))/\_:=fun W h=>And.intro ⟨Blk.cell h.2 0,Blk.cell h.2 1,Blk.cell h.2 2⟩ (hrule W h.1)
    clear hrule;obtain⟨⟨x0,x1,x2⟩,⟨o0,o1,o2⟩,c0,c1,c2,c3,c4,c5,c6,c7,c8,c9,c10,c11,c12,c13,c14⟩:=hrule3 _ ⟨H11.sq HOP.out,HXB11.out⟩;obtain⟨olt,qlt⟩:=(H11.sq HOP.out).lt;have xlt:=Blk.lt HXB11.out
    have hdl:=Qpm H11.pw.ta HG.out HS.out HXY.2.1 (by have:=HV12.out;omega) (by omega)
    rw[HXY.2.2.1] at hdl;have HDL:=q9 hdl;clear hdl
    go_region_held3 (fun W=>SQ13 W ob q p V S T (.slice avb nb acb) kd (u9:Int) (v9:Int)/\Blk W xb 67 #[I (x.s:Int),I (x.u:Int),I (x.v:Int),I (x.l:Int),.bool x.t]) (first|(with_reducible assumption)|(with_reducible exact⟨H12.out.sq HOP.out,HXB12.out⟩)|(with_reducible exact⟨H11.out.sq HOP.out,HXB11.out⟩))
     (first
      |(go_at_call 23;((with_reducible refine HDL.out.mono ?_);rintro e w9 ⟨tree,ok,r,f9,mk9,ts9,bs9,qy,rfl,A9,G9,K9,O9⟩;have H12:=q9 (H11.out.next A9 O9);have HXB12:=q9 (Blk.ta HXB11.out H11.out.pw.ta O9 (by decide) (by decide));have HE12:=q9 (HE11.out.ta H11.out.pw.ta O9);have HG9:=q9 G9;have HK9:=q9 K9)))
    clear x0 x1 x2 xlt o0 o1 o2 c0 c1 c2 c3 c4 c5 c6 c7 c8 c9 c10 c11 c12 c13 c14 olt qlt HDL A9 G9 K9 O9 H11 HXB11 HE11;have HMF:Hid (Mv (ls.eraseIdx i) bs9):=q9 ((HM.erase i).trans HK9.mv)
    have HFX:Hid (∀ (t:Bool),y.t=t->∀ W,EW W base (.slice la l1 lc) es1->I0 19 #[.slice la l1 lc,I (x.s:Int)] W fun e w'=>e=.returned (.agg #[I (y.s:Int),I (y.u:Int),I (y.v:Int),I (y.l:Int),.bool t])/\Below W.heap.size W w'):=q9 fun t ht W hW=>by
     have h1:=Qop (s:=(x.s:Int)) hW (by rw[HPM.length_eq,HM.len,HN.out];omega)
     rw[<-HXY.2.2.1,Qox HPM.out HG.er (Je HXY.2.1)] at h1;rw[<-ht,<-HXY.2.2.1];exact h1
    have HTR:=q9 HK9.tr
    have HJX:Hid (∀ W,EW W base (.slice avb nb acb) (ls.eraseIdx i)->I0 17 #[(.slice avb nb acb),I (x.u:Int),I (x.v:Int)] W fun e w'=>∃ r,e=.returned (.bool r)/\(r=true↔Way (aE (bs.eraseIdx i)) x.u x.v)/\Below W.heap.size W w'):=q9 fun W hW=>(QoE (u:=x.u) (v9:=x.v) hW (by have:=HNB.out;have:=nbI.out;omega) HOKE.out (by have:=HV12.out;omega) HUV.2.1).mono fun e w' h=>by
     obtain⟨r,h1,h2,h3⟩:=h;exact⟨r,h1,h2.trans (HWE _ _),h3⟩
    cases tree
    . as_aux_lemma=>
       have hok:ok=false:=by
        cases ok
        . rfl
        . have h1:=(HK9.jn.1 rfl).1
          rw[<-HTR.out] at h1;cases h1
       subst hok;have hr0:=HK9.no rfl;subst hr0;have HFY:=q9 (HFX.out false HTR.symm)
       have hfd:∀ W:World,(Instr.field 67 (.agg #[I (y.s:Int),I (y.u:Int),I (y.v:Int),I (y.l:Int),.bool false]) 4).run prog W=.ok (.bool false) W:=fun W=>Qos
       go_wp2_with fail
       have H13:=q9 H12.drew;have HXB13:Hid (Blk w9.drew xb 67 #[I (x.s:Int),I (x.u:Int),I (x.v:Int),I (x.l:Int),.bool x.t]):=q9 (Blk.drew HXB12.out);have HE13:=q9 HE12.drew;clear H12 HXB12 HE12;obtain⟨⟨x0,x1,x2⟩,⟨o0,o1,o2⟩,c0,c1,c2,c3,c4,c5,c6,c7,c8,c9,c10,c11,c12,c13,c14⟩:=hrule3 _ ⟨H13.sq HOP.out,HXB13.out⟩;obtain⟨olt,qlt⟩:=(H13.sq HOP.out).lt;have xlt:=Blk.lt HXB13.out
       refine wp_region_held_drew (S:=(fun W=>SQ13 W ob q p V S T (.slice avb nb acb) kd (u9:Int) (v9:Int)/\Blk W xb 67 #[I (x.s:Int),I (x.u:Int),I (x.v:Int),I (x.l:Int),.bool x.t])) (by kernel_rfl) ?_ (fun hHeld=>?_)
       . exact⟨H13.sq HOP,HXB13⟩
       refine q9N 0 rfl ?_
       refine q9N 1 rfl ?_
       refine q9N 2 rfl ?_
       refine q9N 3 rfl ?_
       refine q9N 4 rfl ?_
       refine q9N 5 rfl ?_
       refine q9N 6 rfl ?_
       refine q9R 7 rfl fun K hK=>?_
       go_simp
       ((with_reducible refine(HFY.out _ HE13.out).mono ?_);rintro e wA ⟨rfl,BA⟩;have H14:=q9 (H13.out.below BA);have HXB14:=q9 (HXB13.out.below BA HXB13.out.lt);have HE14:=q9 (HE13.out.below BA))
       go_wp2_with fail
       refine hK.out _ _ ?_ (fun hHeld=>?_)
       . (try dsimp only);(first|(with_reducible assumption)|(with_reducible exact⟨H14.out.sq HOP.out,HXB14.out⟩)|(with_reducible exact⟨H13.out.sq HOP.out,HXB13.out⟩))
       clear hK K;try simp only[Act.put,q98]
       refine q9N 8 rfl ?_
       refine q9N 9 rfl ?_
       refine q9N 10 rfl ?_
       refine q9N 11 rfl ?_
       refine q9N 12 rfl ?_
       refine q9N 13 rfl ?_
       refine q9N 14 rfl ?_
       refine q9F 15 rfl ?_
       refine q9F 16 rfl ?_
       refine q9F 17 rfl ?_
       refine q9F 18 rfl ?_
       refine q9F 19 rfl ?_
       refine q9F 20 rfl ?_
       refine q9F 21 rfl ?_
       refine q9F 22 rfl ?_
       refine q9F 23 rfl ?_
       refine q9N 24 rfl ?_
       refine q9N 25 rfl ?_
       refine q9N 26 rfl ?_
       refine wpAnyH_done (by kernel_rfl) ?_ _
       clear hrule3 x0 x1 x2 xlt o0 o1 o2 c0 c1 c2 c3 c4 c5 c6 c7 c8 c9 c10 c11 c12 c13 c14 olt qlt;go_wp2_with fail
       go_ret
       exact⟨rfl,f9,mk9,ts9,_,_,bs9,qy,(HXO H14).more (by omega),HG9,HK9.hs,HMF,.inr (.inr ⟨HK1,i,rfl,HK9.mv⟩)⟩
    . as_aux_lemma=>
       have HFY:=q9 (HFX.out true HTR.symm)
       have hfd:∀ W:World,(Instr.field 67 (.agg #[I (y.s:Int),I (y.u:Int),I (y.v:Int),I (y.l:Int),.bool true]) 4).run prog W=.ok (.bool true) W:=fun W=>Qos
       have HOJ:Hid (∀ r2:Bool,(r2=true↔Way (aE (bs.eraseIdx i)) x.u x.v)->r2=ok):=q9 fun r2 h=>by
        have h1:=HK9.jn;rw[HXY.2.2.2.1,HXY.2.2.2.2] at h1;have h2:ok=true↔r2=true:=h1.trans ((and_iff_right HTR.symm).trans h.symm)
        cases ok<;>cases r2<;>simp at h2 |-
       go_wp2_with fail
       have H13:=q9 H12.drew;have HXB13:Hid (Blk w9.drew xb 67 #[I (x.s:Int),I (x.u:Int),I (x.v:Int),I (x.l:Int),.bool x.t]):=q9 (Blk.drew HXB12.out);have HE13:=q9 HE12.drew;clear H12 HXB12 HE12;obtain⟨⟨x0,x1,x2⟩,⟨o0,o1,o2⟩,c0,c1,c2,c3,c4,c5,c6,c7,c8,c9,c10,c11,c12,c13,c14⟩:=hrule3 _ ⟨H13.sq HOP.out,HXB13.out⟩;obtain⟨olt,qlt⟩:=(H13.sq HOP.out).lt;have xlt:=Blk.lt HXB13.out
       go_region_held3 (fun W=>SQ13 W ob q p V S T (.slice avb nb acb) kd (u9:Int) (v9:Int)/\Blk W xb 67 #[I (x.s:Int),I (x.u:Int),I (x.v:Int),I (x.l:Int),.bool x.t]) (first|(with_reducible assumption)|(with_reducible exact⟨H15.out.sq HOP.out,HXB15.out⟩)|(with_reducible exact⟨H14.out.sq HOP.out,HXB14.out⟩)|(with_reducible exact⟨H13.out.sq HOP.out,HXB13.out⟩))
        (first
         |(go_at_call 19;((with_reducible refine(HFY.out _ HE13.out).mono ?_);rintro e wA ⟨rfl,BA⟩;have H14:=q9 (H13.out.below BA);have HXB14:=q9 (HXB13.out.below BA HXB13.out.lt);have HE14:=q9 (HE13.out.below BA)))
         |(go_at_call 17;((with_reducible refine(HJX.out _ H14.out.pw.ew).mono ?_);rintro e wB ⟨r2,rfl,hr2,BB⟩;have H15:=q9 (H14.out.below BB);have HXB15:=q9 (HXB14.out.below BB HXB14.out.lt);have HE15:=q9 (HE14.out.below BB);obtain rfl:=HOJ.out r2 hr2)))
       clear x0 x1 x2 xlt o0 o1 o2 c0 c1 c2 c3 c4 c5 c6 c7 c8 c9 c10 c11 c12 c13 c14 olt qlt HOJ HJX HFX HFY H13 H14 HXB13 HXB14 HE13 HE14 BA BB
       cases r2
       . as_aux_lemma=>
         have hr0:=HK9.no rfl;subst hr0;go_wp2_with fail
         go_ret
         exact⟨rfl,f9,mk9,ts9,_,_,bs9,qy,(HXO H15).more (by omega),HG9,HK9.hs,HMF,.inr (.inr ⟨HK1,i,rfl,HK9.mv⟩)⟩
       . as_aux_lemma=>
         obtain⟨j,z,z',hz,hzt,hrz,hz',hzt'⟩:=HK9.by_ rfl;subst hrz
         have HZ:Hid (z∈bs/\z.t=false/\z'∈bs9/\z'.t=true/\z'.s=z.s):=q9 ⟨List.mem_of_mem_eraseIdx (Je hz),hzt,Je hz',hzt',by
          obtain⟨z2,h1,h2,_⟩:=HK9.mv.st j z hz;rw[hz'] at h1;injection h1 with h1;rw[h1];exact h2⟩
         clear hz hzt hz' hzt';go_upto_region 22 with fail
         try generalize vO13 kd (u9:Int) (v9:Int)=j0
         try generalize Value.pointer (some (I1 ob 0))=j1
         try generalize Value.pointer (some (I1 ob 1))=j2
         try generalize Value.pointer (some (I1 ob 2))=j3
         try generalize Value.pointer (some (I1 q 4))=j4
         try generalize Value.pointer (some (I1 q 14))=j5
         try generalize Value.pointer (some (I1 xb 0))=j6
         try generalize Value.pointer (some (I1 xb 1))=j7
         try generalize Value.pointer (some (I1 xb 2))=j8
         try generalize Value.pointer (some (I1 g (i*5)))=j9
         try generalize Value.agg #[I (x.s:Int),I (x.u:Int),I (x.v:Int),I (x.l:Int),.bool x.t]=j10
         try generalize Value.agg #[I (y.s:Int),I (y.u:Int),I (y.v:Int),I (y.l:Int),.bool true]=j11
         try generalize vA V S T p=j12
         try generalize vB b1=j13
         try generalize Value.tuple #[.slice la l1 lc,.bool true]=j14
         try generalize Value.tuple #[.bool true,I (z.s:Int),.bool true]=j15
         try generalize Value.slice (some (I1 g 0)) n ac=j16
         try generalize Value.slice (some (I1 g 0)) i ac=j17
         try generalize Value.slice (some (I1 w6.heap.size 0)) 0 0=j18
         try generalize Value.slice ava na aca=j19
         try generalize Value.slice (some ad) (n-(i+1)) (ac-(i+1))=j20
         try generalize Value.slice avb nb acb=j21
         try generalize I ((i:Int)+1)=j22
         try generalize I (i:Int)=j23
         try generalize I (u9:Int)=j24
         try generalize I (v9:Int)=j25
         try generalize I V=j26
         try generalize I sI=j27
         try generalize I kd=j28
         try generalize I (x.s:Int)=j29
         try generalize I (x.u:Int)=j30
         try generalize I (x.v:Int)=j31
         try generalize Value.bool (decide ((i:Int)<0))=j32
         go_wp2_with fail
         refine(QoN H15.pw HG9 HV12.1 HV12.2 (by omega)).mono ?_;rintro e wC ⟨b2,rfl,hB2,_,A9,O9⟩
         have H16:=q9 (H15.next A9 O9);have HE16:=q9 (HE15.ta H15.pw.ta O9);have HED:=q9 (hB2.edges (base:=base) H16.pw.size);clear hB2 A9 O9 H15 HE15 HXB15;go_wp2_with fail
         refine HED.mono ?_;rintro e wD ⟨v2,es2,rfl,hPM,hEW,BD⟩;obtain⟨lb,l2,ld,rfl,hEW⟩:=QbI hEW;have H17:=q9 (H16.below BD);have HE17:=q9 (HE16.below BD);have HF17:=q9 hEW;have HPM2:=q9 hPM;clear HED hPM hEW BD H16 HE16;go_wp2_with fail
         rename_i hK9 _ vx hx9
         obtain rfl:Value.slice lb l2 ld=vx:=by simpa using hx9
         clear hx9;simp only[Sem.run_pure,Result.andThen_ok,Oper.upon_value];refine hK9 _ _ ?_;clear hK9;try simp only[Act.put,List.setIfInBounds_toArray,List.set_cons_zero,List.set_cons_succ]
         go_wp2_with fail
         rename_i hK9 _ vx hx9
         obtain rfl:Value.bool true=vx:=by simpa using hx9
         clear hx9;simp only[Sem.run_pure,Result.andThen_ok,Oper.upon_value];refine hK9 _ _ ?_;clear hK9;try simp only[Act.put,List.setIfInBounds_toArray,List.set_cons_zero,List.set_cons_succ]
         go_wp2_with fail
         have h1:=Qop (s:=(z.s:Int)) HE17.out (by rw[HPM.length_eq,HM.len,HN.out];omega)
         rw[Qox HPM.out HG.er HZ.1] at h1
         have h1:I0 19 #[.slice la l1 lc,I (z.s:Int)] wD fun e w'=>e=.returned (.agg #[I (z.s:Int),I (z.u:Int),I (z.v:Int),I (z.l:Int),.bool false])/\Below wD.heap.size wD w':=by
          rw[<-HZ.2.1];exact h1
         have hf1:∀ W:World,(Instr.field 67 (.agg #[I (z.s:Int),I (z.u:Int),I (z.v:Int),I (z.l:Int),.bool false]) 4).run prog W=.ok (.bool false) W:=fun W=>Qos
         have hf2:∀ W:World,(Instr.field 67 (.agg #[I (z'.s:Int),I (z'.u:Int),I (z'.v:Int),I (z'.l:Int),.bool true]) 4).run prog W=.ok (.bool true) W:=fun W=>Qos
         refine h1.mono ?_;rintro e wE ⟨rfl,BE⟩;have H18:=q9 (H17.below BE)
         have h2:=Qop (s:=(z.s:Int)) (HF17.below BE) (by rw[HPM2.length_eq,HMF.len,HNB.out];have:=nbI.out;omega)
         rw[<-HZ.2.2.2.2,Qox HPM2.out HG9.er HZ.2.2.1,HZ.2.2.2.2] at h2
         have h2:I0 19 #[.slice lb l2 ld,I (z.s:Int)] wE fun e w'=>e=.returned (.agg #[I (z'.s:Int),I (z'.u:Int),I (z'.v:Int),I (z'.l:Int),.bool true])/\Below wE.heap.size wE w':=by
          rw[<-HZ.2.2.2.1];exact h2
         go_wp2_with fail
         refine h2.mono ?_;rintro e wF ⟨rfl,BF⟩;have H19:=q9 (H18.below BF);go_wp2_with fail
         go_ret
         exact⟨rfl,f9,mk9,ts9,_,_,bs9,qy,(HXO H19).more (by omega),HG9,HK9.hs,HMF,.inr (.inr ⟨HK1,i,rfl,HK9.mv⟩)⟩
 cases e3:(kd==3)
 . as_aux_lemma=>
    have HE1:Hid (¬ kd=1):=q9 (by simpa using e1)
    go_wp2_with fail
    go_ret
    exact⟨rfl,f,mk,ts,_,ls,bs,qq,(HXO H4).more (by omega),HG,HS,HM,.inl ⟨rfl,rfl,fun h=>absurd h HE1⟩⟩
 . as_aux_lemma=>
    have HE1:Hid (¬ kd=1):=q9 (by simpa using e1)
    clear HF HI HSS hs9 i0 i1;go_wp2_with fail
    have H5:=q9 H4.drew;clear H4 o0 o1 o2 c0 c1 c2 c3 c4 c5 c6 c7 c8 c9 c10 c11 c12 c13 c14 olt qlt;obtain⟨⟨o0,o1,o2⟩,c0,c1,c2,c3,c4,c5,c6,c7,c8,c9,c10,c11,c12,c13,c14⟩:=hrule _ (H5.sq HOP.out);obtain⟨olt,qlt⟩:=(H5.sq HOP.out).lt
    have HJ1:=q9 (Qom (u:=u9) (v:=v9) H5.pw.ta HG.lf HP.2.1 HP.2.2 (by omega))
    have HJ2:Hid (∀ W,EW W base (.slice av n ac) ls->I0 17 #[(.slice av n ac),I (u9:Int),I (v9:Int)] W fun e w'=>∃ r,e=.returned (.bool r)/\(r=true↔Way (aE ls) u9 v9)/\Below W.heap.size W w'):=q9 fun W hW=>QoE (u:=u9) (v9:=v9) hW (by have:=HN.out;omega) HOK.out (by have:=HV12.out;omega) HP.2.1
    go_region_held3 (fun W=>SQ13 W ob q p V S T (.slice av n ac) kd (u9:Int) (v9:Int)) (first|(with_reducible assumption)|(with_reducible exact H7.out.sq HOP.out)|(with_reducible exact H6.out.sq HOP.out)|(with_reducible exact H5.out.sq HOP.out))
     (first
      |(go_at_call 16;((with_reducible refine HJ1.out.mono ?_);rintro e w5 ⟨r,rfl,hr,A5,O5⟩;have H6:=q9 (H5.out.next A5 O5);have HR1:=q9 hr))
      |(go_at_call 17;((with_reducible refine(HJ2.out _ H6.out.pw.ew).mono ?_);rintro e w6 ⟨r2,rfl,hr2,B6⟩;have H7:=q9 (H6.out.below B6);have HR2:=q9 hr2;have hrr:=QoS (hr.trans ((HWA.out _ _).symm.trans hr2.symm)))))
    clear hrule o0 o1 o2 c0 c1 c2 c3 c4 c5 c6 c7 c8 c9 c10 c11 c12 c13 c14 olt qlt;go_wp2_with fail
    go_ret
    exact⟨rfl,f,mk,ts,_,ls,bs,qq,(HXO H7).more (by omega),HG,HS,HM,.inl ⟨rfl,rfl,fun h=>absurd h HE1⟩⟩
end
end Go.Proofs.YtfpnjpbpfgjakaaGreat
