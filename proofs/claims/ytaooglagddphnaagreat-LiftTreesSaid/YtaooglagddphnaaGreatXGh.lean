/- Gh -/
import Derived.Test.YtaooglagddphnaaGreatXGg
namespace Go.Proofs.YtaooglagddphnaaGreat
open Go.RowKit
set_option maxRecDepth 100000
def tE (bs:List E1)(L:Nat):List (Nat × Nat × Nat):=(bs.filter fun e=>e.t && decide (L<=e.l)).map fun e=>(e.s,e.u,e.v)
structure LF (V S T:Int)(f:Nat->Int)(mk:Nat->Nat)(ts:List Tp)(bs:List E1)(q:Nat->Nat->List Nat):Prop where
 lq:LQ V S T f q
 mq:MQ V mk q
 lk:LK q (bs.filter fun e=>!e.t)
 fo:∃ gr,Lvs V S ts gr/\∀ L:Nat,(L:Int)<lv V->Lnk (gr L) (tE bs L)
 pa:∀ L s d:Nat,(L:Int)<lv V->(s:Int)<S->d<2->(hasB (mk (An V S L s d)) 1=true↔d=0/\∃ e∈bs,e.s=s/\e.t=true/\e.l=L)/\hasB (mk (An V S L s d)) 0=false
 px:∀ L v:Nat,(L:Int)<lv V->(v:Int)<V->hasB (mk (Xn V L v)) 1=false
structure LG (V S T:Int)(f:Nat->Int)(mk:Nat->Nat)(ts:List Tp)(bs:List E1)(q:Nat->Nat->List Nat):Prop where
 er:ER V S T f bs
 lf:LF V S T f mk ts bs q
section
variable {V S T:Int}{L L' s u v a b i d y k l:Nat}{f f':Nat->Int}{mk mk':Nat->Nat}{ts ts':List Tp}{bs bs':List E1}{q q':Nat->Nat->List Nat}{x e x':E1}{gr:Nat->List (Option (Nat × Nat))}{g:List (Option (Nat × Nat))}{E F:List (Nat × Nat × Nat)}
theorem QG:(s,a,b)∈tE bs L↔∃ e∈bs,e.t=true/\L<=e.l/\e.s=s/\e.u=a/\e.v=b:=by
 unfold tE;simp only[List.mem_map,List.mem_filter,Bool.and_eq_true,decide_eq_true_eq,Prod.mk.injEq]
 constructor
 . rintro⟨e,⟨h1,h2,h3⟩,h4,h5,h6⟩;exact⟨e,h1,h2,h3,h4,h5,h6⟩
 . rintro⟨e,h1,h2,h3,h4,h5,h6⟩;exact⟨e,⟨h1,h2,h3⟩,h4,h5,h6⟩
theorem ER.uniq (h:ER V S T f bs)(hx:x∈bs)(hy:e∈bs)(es:x.s=e.s):x=e:=by
 obtain⟨i,hi⟩:=List.mem_iff_getElem?.1 hx;obtain⟨j,hj⟩:=List.mem_iff_getElem?.1 hy;have:=h.slot1 hi hj es;subst this;rw[hi] at hj;injection hj
theorem ER.mem_set (h:ER V S T f bs)(hi:bs[i]?=some x)(es:x'.s=x.s):e∈bs.set i x'↔e=x'\/(e∈bs/\e.s≠x.s):=by
 constructor
 . intro hm
   rcases Qan hm with h1|⟨j,hj,h1⟩
   . exact .inl h1
   . exact .inr ⟨List.mem_of_getElem? h1,fun e2=>hj (h.slot1 h1 hi e2)⟩
 . rintro(rfl|⟨hm,hne⟩)
   . exact List.mem_of_getElem? (List.getElem?_set_self (List.getElem?_eq_some_iff.1 hi).1)
   . obtain⟨j,hj⟩:=List.mem_iff_getElem?.1 hm
     refine List.mem_of_getElem? (i:=j) ?_
     rw[List.getElem?_set_ne (by rintro rfl;rw[hi] at hj;injection hj with hj;exact hne (by rw[hj]))]
     exact hj
theorem ER.mem_erase (h:ER V S T f bs)(hi:bs[i]?=some x):e∈bs.eraseIdx i↔e∈bs/\e.s≠x.s:=by
 constructor
 . intro hm
   obtain⟨j,hj,h1⟩:=QaQ hm
   exact⟨List.mem_of_getElem? h1,fun e2=>hj (h.slot1 h1 hi e2)⟩
 . rintro⟨hm,hne⟩
   obtain⟨j,hj⟩:=List.mem_iff_getElem?.1 hm
   exact QaR hj (by rintro rfl;rw[hi] at hj;injection hj with hj;exact hne (by rw[hj]))
theorem LK.mem (h:LK q bs)(hm:∀ e,e∈bs↔e∈bs'):LK q bs':=fun v l x=>(h v l x).trans ⟨fun⟨e,a,b⟩=>⟨e,(hm e).1 a,b⟩,fun⟨e,a,b⟩=>⟨e,(hm e).2 a,b⟩⟩
theorem LK.out (h:LK q (bs.filter fun e=>!e.t))(hE:ER V S T f bs)(hQ:LQ V S T f q)(hx:x∈bs)(ht:x.t=false)(hm:∀ e,e∈bs'↔e∈bs/\e.s≠x.s):LK (rem2 q x.s x.u x.v x.l) (bs'.filter fun e=>!e.t):=by
 have hxF:x∈bs.filter fun e=>!e.t:=List.mem_filter.2 ⟨hx,by rw[ht];rfl⟩
 obtain⟨j,hj⟩:=List.mem_iff_getElem?.1 hxF
 have hun:(bs.filter fun e=>!e.t).Pairwise fun a b=>a.s≠b.s/\¬ (a.u=b.u/\a.v=b.v):=hE.un.filter _
 have huv:x.u≠x.v:=by have:=(hE.ok x hx).1;omega
 refine(h.rem hQ.nd hun hj huv).mem fun e=>?_
 rw[List.mem_filter,hm]
 constructor
 . intro h1
   obtain⟨k,hk,h2⟩:=QaQ h1;have h3:=List.mem_filter.1 (List.mem_of_getElem? h2)
   refine⟨⟨h3.1,fun es=>?_⟩,h3.2⟩
   have ee:=hE.uniq h3.1 hx es;rw[ee] at h2
   exact hk (by
    by_cases hlt:k<j
    . have:=(List.pairwise_iff_getElem.1 hun) k j (List.getElem?_eq_some_iff.1 h2).1 (List.getElem?_eq_some_iff.1 hj).1 hlt
      rw[(List.getElem?_eq_some_iff.1 h2).2,(List.getElem?_eq_some_iff.1 hj).2] at this;exact absurd rfl this.1
    . by_cases hgt:j<k
      . have:=(List.pairwise_iff_getElem.1 hun) j k (List.getElem?_eq_some_iff.1 hj).1 (List.getElem?_eq_some_iff.1 h2).1 hgt
        rw[(List.getElem?_eq_some_iff.1 h2).2,(List.getElem?_eq_some_iff.1 hj).2] at this;exact absurd rfl this.1
      . omega)
 . rintro⟨⟨h1,h2⟩,h3⟩
   obtain⟨k,hk⟩:=List.mem_iff_getElem?.1 (List.mem_filter (p:=fun e:E1=>!e.t).2 ⟨h1,h3⟩)
   exact QaR hk (by rintro rfl;rw[hj] at hk;injection hk with hk;exact h2 (by rw[hk]))
theorem LK.inn (h:LK q (bs.filter fun e=>!e.t))(huv:x.u≠x.v)(ht:x.t=false)(hm:∀ e,e∈bs'↔e=x\/e∈bs):LK (add2 q x.s x.u x.v x.l) (bs'.filter fun e=>!e.t):=by
 refine(h.add huv).mem fun e=>?_
 rw[List.mem_append,List.mem_filter,List.mem_filter,hm,List.mem_singleton]
 constructor
 . rintro(⟨h1,h2⟩|rfl)
   . exact⟨.inr h1,h2⟩
   . exact⟨.inl rfl,by rw[ht];rfl⟩
 . rintro⟨rfl|h1,h2⟩
   . exact .inr rfl
   . exact .inl ⟨h1,h2⟩
theorem Lnk.put (h:Lnk g E)(hs:s<g.length)(hF:∀ s' a b,(s',a,b)∈F↔((s',a,b)=(s,u,v)\/((s',a,b)∈E/\s'≠s))):Lnk (g.set s (some (u,v))) F:=fun s' a b=>by
 rw[hF,List.getElem?_set]
 by_cases e:s=s'
 . subst e
   rw[if_pos rfl,if_pos hs];simp only[Prod.mk.injEq,Option.some.injEq,ne_eq,not_true_eq_false,and_false,or_false,true_and]
   exact⟨fun h=>⟨h.1.symm,h.2.symm⟩,fun h=>⟨h.1.symm,h.2.symm⟩⟩
 . rw[if_neg e,<-h s' a b]
   simp only[Prod.mk.injEq,ne_eq]
   exact⟨fun h=>h.elim (fun h=>absurd h.1.symm e) (fun h=>h.1),fun h=>.inr ⟨h,fun e2=>e e2.symm⟩⟩
theorem Lnk.del (h:Lnk g E)(hF:∀ s' a b,(s',a,b)∈F↔((s',a,b)∈E/\s'≠s)):Lnk (g.set s none) F:=fun s' a b=>by
 rw[hF,List.getElem?_set]
 by_cases e:s=s'
 . subst e
   rw[if_pos rfl];simp only[ne_eq,not_true_eq_false,and_false,false_iff]
   split<;>simp
 . rw[if_neg e,<-h s' a b]
   exact⟨fun h=>h.1,fun h=>⟨h,fun e2=>e e2.symm⟩⟩
theorem Lnk.slot_none (h:Lnk g E)(hs:s<g.length)(hn:∀ a b,(s,a,b)∉E):g[s]?=some none:=by
 have h2:=List.getElem?_eq_getElem hs
 cases h3:g[s] with
 |none=>rw[h2,h3]
 |some p=>exact absurd ((h s p.1 p.2).2 (by rw[h2,h3])) (hn _ _)
theorem Qbr (hR:Rt V S T)(hv:(v:Int)<V)(hl:(l:Int)<lv V):ndA V v l=Xn V l v:=by
 have h1:=Qbd hR hv hl;have h2:=QaV hR hl hv;rw[QbP hv];omega
theorem Qhw (h4:mk y<4)(hk:k<2){on:Bool}:hasB (Q9 mk y k on y) k=on/\hasB (Q9 mk y k on y) (1-k)=hasB (mk y) (1-k):=by
 unfold Q9;rw[if_pos rfl]
 have h5:k=0\/k=1:=by omega
 have h6:mk y=0\/mk y=1\/mk y=2\/mk y=3:=by omega
 rcases h5 with rfl|rfl<;>rcases h6 with h6|h6|h6|h6<;>rw[h6]<;>cases on<;>decide
theorem Qcq {on:Bool}(h:y≠a):Q9 mk a k on y=mk y:=if_neg h
theorem LG.qlen (h:LG V S T f mk ts bs q)(hR:Rt V S T)(u l:Nat):((q u l).length:Int)<=S:=
 Qlj hR h.lf.lk h.lf.lq (h.er.un.filter _) fun e he=>by have:=(h.er.ok e (List.mem_filter.1 he).1).1;omega
theorem LG.sides (h:LG V S T f mk ts bs q)(hx:x∈bs)(ht:x.t=false):2*x.s+1∈q x.u x.l/\2*x.s+2∈q x.v x.l/\∀ a b,2*x.s+1∉rem2 q x.s x.u x.v x.l a b/\2*x.s+2∉rem2 q x.s x.u x.v x.l a b:=by
 have hxF:x∈bs.filter fun e=>!e.t:=List.mem_filter.2 ⟨hx,by rw[ht];rfl⟩
 have h1:2*x.s+1∈q x.u x.l:=(h.lf.lk _ _ _).2 ⟨x,hxF,rfl,.inl ⟨rfl,rfl⟩⟩;have h2:2*x.s+2∈q x.v x.l:=(h.lf.lk _ _ _).2 ⟨x,hxF,rfl,.inr ⟨rfl,rfl⟩⟩
 have huv:x.u≠x.v:=by have:=(h.er.ok x hx).1;omega
 refine⟨h1,h2,fun a b=>⟨fun hm=>?_,fun hm=>?_⟩⟩
 . rw[QeO h.lf.lq.nd] at hm
   obtain⟨e1,e2⟩:=h.lf.lq.ap _ _ _ _ _ hm.1 h1;exact hm.2 ⟨e2,.inl ⟨rfl,e1,huv⟩⟩
 . rw[QeO h.lf.lq.nd] at hm
   obtain⟨e1,e2⟩:=h.lf.lq.ap _ _ _ _ _ hm.1 h2;exact hm.2 ⟨e2,.inr ⟨rfl,e1⟩⟩
theorem QdW (hR:Rt V S T)(hL:(L:Int)<lv V)(hL':(L':Int)<lv V)(hu:(u:Int)<V)(hs:(s:Int)<S)(hd:d<2):Xn V L u≠An V S L' s d:=fun e=>by
 have h1:=(QaG hR hL hu).2.2.1;have h2:=(Qa4 hR hL' hs hd).2.2.1;rw[QbP hu,QcI hs hd] at e;rw[e,h2] at h1;cases h1
theorem Qjy (hR:Rt V S T)(hL:(L:Int)<lv V)(hL':(L':Int)<lv V)(hs:(s:Int)<S)(hu:(u:Int)<S)(hd:d<2)(hk:k<2)(e:An V S L s d=An V S L' u k):L=L'/\s=u/\d=k:=by
 have h1:=Qcs hR hL hs hd;have h2:=Qcs hR hL' hu hk;rw[e,h2] at h1
 have:L=L':=by omega
 subst this;exact⟨rfl,Qd1 hR hL hs hd hu hk e⟩
theorem LG.plain (h:LG V S T f mk ts bs q)(hR:Rt V S T)(hi:bs[i]?=some x)(ht:x.t=false)(hl:((x.l+1:Nat):Int)<lv V)(hQ:LQ V S T f' (add2 (rem2 q x.s x.u x.v x.l) x.s x.u x.v (x.l+1)))(hM:MQ V mk' (add2 (rem2 q x.s x.u x.v x.l) x.s x.u x.v (x.l+1)))(hB:MkB V mk mk')(hK:Ke V S T (upd f (sC S T x.s 2) ((x.l+1:Nat):Int)) f'):
 LG V S T f' mk' ts (bs.set i { x with l:=x.l+1 }) (add2 (rem2 q x.s x.u x.v x.l) x.s x.u x.v (x.l+1)):=by
 have hx:=List.mem_of_getElem? hi
 have huv:x.u≠x.v:=by have:=(h.er.ok x hx).1;omega
 have hms:∀ e,e∈bs.set i { x with l:=x.l+1 }↔e={ x with l:=x.l+1 }\/(e∈bs/\e.s≠x.s):=fun e=>h.er.mem_set (x':={ x with l:=x.l+1 }) hi rfl
 have hte:∀ L s a b,(s,a,b)∈tE bs L↔(s,a,b)∈tE (bs.set i { x with l:=x.l+1 }) L:=fun L s a b=>by
  rw[QG,QG]
  constructor
  . rintro⟨e,he,h1,h2⟩
    exact⟨e,(hms e).2 (.inr ⟨he,fun es=>by rw[h.er.uniq he hx es,ht] at h1;cases h1⟩),h1,h2⟩
  . rintro⟨e,he,h1,h2⟩
    rcases(hms e).1 he with rfl|he
    . rw[show ({ x with l:=x.l+1 }:E1).t=x.t from rfl,ht] at h1;cases h1
    . exact⟨e,he.1,h1,h2⟩
 refine⟨hK.er (h.er.lift hR hi hl),hQ,hM,?_,?_,fun L s d hL hs hd=>?_,fun L v hL hv=>by rw[(hB _).1];exact h.lf.px L v hL hv⟩
 . have h1:=h.lf.lk.out h.er h.lf.lq hx ht (bs':=bs.eraseIdx i) fun e=>h.er.mem_erase hi
   exact LK.inn (x:={ x with l:=x.l+1 }) h1 huv ht fun e=>by rw[hms,h.er.mem_erase hi]
 . obtain⟨gr,h1,h2⟩:=h.lf.fo
   exact⟨gr,h1,fun L hL=>(h2 L hL).perm fun⟨s,a,b⟩=>hte L s a b⟩
 . have hne:∀ v l:Nat,(v:Int)<V->(l:Int)<lv V->An V S L s d≠ndA V v l:=fun v l hv hl e=>QdW hR hl hL hv hs hd (by rw[<-Qbr hR hv hl];exact e.symm)
   rw[(hB _).2 hne]
   refine⟨(h.lf.pa L s d hL hs hd).1.trans (and_congr_right fun _=>?_),(h.lf.pa L s d hL hs hd).2⟩
   constructor
   . rintro⟨e,he,h1,h2,h3⟩
     exact⟨e,(hms e).2 (.inr ⟨he,fun es=>by rw[h.er.uniq he hx es,ht] at h2;cases h2⟩),h1,h2,h3⟩
   . rintro⟨e,he,h1,h2,h3⟩
     rcases(hms e).1 he with rfl|he
     . rw[show ({ x with l:=x.l+1 }:E1).t=x.t from rfl,ht] at h2;cases h2
     . exact⟨e,he.1,h1,h2,h3⟩
theorem LF.turn (h:LF V S T f mk ts bs q)(hk:Kl V S T f f'):LF V S T f' mk ts bs q:=⟨h.lq.turn hk,h.mq,h.lk,h.fo,h.pa,h.px⟩
theorem LF.out (h:LF V S T f mk ts bs q)(hR:Rt V S T)(hE:ER V S T f bs)(hx:x∈bs)(ht:x.t=false)(hm:∀ e,e∈bs'↔e∈bs/\e.s≠x.s)(hQ:LQ V S T f' (rem2 q x.s x.u x.v x.l))(hM:MQ V mk' (rem2 q x.s x.u x.v x.l))(hB:MkB V mk mk'):LF V S T f' mk' ts bs' (rem2 q x.s x.u x.v x.l):=by
 refine⟨hQ,hM,h.lk.out hE h.lq hx ht hm,?_,fun L s d hL hs hd=>?_,fun L v hL hv=>by rw[(hB _).1];exact h.px L v hL hv⟩
 . obtain⟨gr,h1,h2⟩:=h.fo
   refine⟨gr,h1,fun L hL=>(h2 L hL).perm fun⟨s,a,b⟩=>?_⟩
   rw[QG,QG]
   constructor
   . rintro⟨e,he,h3,h4⟩
     exact⟨e,(hm e).2 ⟨he,fun es=>by rw[hE.uniq he hx es,ht] at h3;cases h3⟩,h3,h4⟩
   . rintro⟨e,he,h3,h4⟩
     exact⟨e,((hm e).1 he).1,h3,h4⟩
 . have hne:∀ v l:Nat,(v:Int)<V->(l:Int)<lv V->An V S L s d≠ndA V v l:=fun v l hv hl e=>QdW hR hl hL hv hs hd (by rw[<-Qbr hR hv hl];exact e.symm)
   rw[(hB _).2 hne]
   refine⟨(h.pa L s d hL hs hd).1.trans (and_congr_right fun _=>?_),(h.pa L s d hL hs hd).2⟩
   constructor
   . rintro⟨e,he,h1,h2,h3⟩
     exact⟨e,(hm e).2 ⟨he,fun es=>by rw[hE.uniq he hx es,ht] at h2;cases h2⟩,h1,h2,h3⟩
   . rintro⟨e,he,h1,h2,h3⟩
     exact⟨e,((hm e).1 he).1,h1,h2,h3⟩
theorem LF.inn (h:LF V S T f mk ts bs q)(hR:Rt V S T)(huv:x.u≠x.v)(ht:x.t=false)(hm:∀ e,e∈bs'↔e=x\/e∈bs)(hQ:LQ V S T f' (add2 q x.s x.u x.v x.l))(hM:MQ V mk' (add2 q x.s x.u x.v x.l))(hB:MkB V mk mk'):LF V S T f' mk' ts bs' (add2 q x.s x.u x.v x.l):=by
 refine⟨hQ,hM,h.lk.inn huv ht hm,?_,fun L s d hL hs hd=>?_,fun L v hL hv=>by rw[(hB _).1];exact h.px L v hL hv⟩
 . obtain⟨gr,h1,h2⟩:=h.fo
   refine⟨gr,h1,fun L hL=>(h2 L hL).perm fun⟨s,a,b⟩=>?_⟩
   rw[QG,QG]
   constructor
   . rintro⟨e,he,h3,h4⟩
     exact⟨e,(hm e).2 (.inr he),h3,h4⟩
   . rintro⟨e,he,h3,h4⟩
     rcases(hm e).1 he with rfl|he
     . rw[ht] at h3;cases h3
     . exact⟨e,he,h3,h4⟩
 . have hne:∀ v l:Nat,(v:Int)<V->(l:Int)<lv V->An V S L s d≠ndA V v l:=fun v l hv hl e=>QdW hR hl hL hv hs hd (by rw[<-Qbr hR hv hl];exact e.symm)
   rw[(hB _).2 hne]
   refine⟨(h.pa L s d hL hs hd).1.trans (and_congr_right fun _=>?_),(h.pa L s d hL hs hd).2⟩
   constructor
   . rintro⟨e,he,h1,h2,h3⟩
     exact⟨e,(hm e).2 (.inr he),h1,h2,h3⟩
   . rintro⟨e,he,h1,h2,h3⟩
     rcases(hm e).1 he with rfl|he
     . rw[ht] at h2;cases h2
     . exact⟨e,he,h1,h2,h3⟩
theorem MQ.arc {on:Bool}(h:MQ V mk q)(hR:Rt V S T)(hL:(L:Int)<lv V)(hs:(s:Int)<S)(hd:d<2):MQ V (Q9 mk (An V S L s d) 1 on) q:=fun v l hv hl=>by
 rw[Qbr hR hv hl,Qcq (QdW hR hl hL hv hs hd),<-Qbr hR hv hl];exact h v l hv hl
theorem Qim {on:Bool}(h4:∀ y,mk y<4)(hR:Rt V S T)(hL:(L:Int)<lv V)(hs:(s:Int)<S)(hL':(L':Int)<lv V)(hu:(u:Int)<S)(hd:d<2):
 hasB (Q9 mk (An V S L s 0) 1 on (An V S L' u d)) 1=(if L'=L/\u=s/\d=0 then on else hasB (mk (An V S L' u d)) 1)/\hasB (Q9 mk (An V S L s 0) 1 on (An V S L' u d)) 0=hasB (mk (An V S L' u d)) 0:=by
 by_cases e:An V S L' u d=An V S L s 0
 . obtain⟨rfl,rfl,rfl⟩:=Qjy hR hL' hL hu hs hd (by decide) e
   rw[if_pos ⟨rfl,rfl,rfl⟩]
   exact Qhw (h4 _) (by decide)
 . rw[Qcq e,if_neg (by rintro⟨rfl,rfl,rfl⟩;exact e rfl)]
   exact⟨rfl,rfl⟩
theorem LG.tree (h:LG V S T f mk ts bs q)(hR:Rt V S T)(h4:∀ y,mk y<4)(hi:bs[i]?=some x)(ht:x.t=true)(hl:((x.l+1:Nat):Int)<lv V)(hg:∀ L:Nat,(L:Int)<lv V->Lnk (gr L) (tE bs L))(hV:Lvs V S ts gr)(hV':Lvs V S ts' (gset gr (x.l+1) ((gr (x.l+1)).set x.s (some (x.u,x.v))))):
 LG V S T (upd f (sC S T x.s 2) ((x.l+1:Nat):Int)) (Q9 (Q9 mk (An V S x.l x.s 0) 1 false) (An V S (x.l+1) x.s 0) 1 true) ts' (bs.set i { x with l:=x.l+1 }) q:=by
 have hx:=List.mem_of_getElem? hi;have hok:=h.er.ok x hx
 have hms:∀ e,e∈bs.set i { x with l:=x.l+1 }↔e={ x with l:=x.l+1 }\/(e∈bs/\e.s≠x.s):=fun e=>h.er.mem_set (x':={ x with l:=x.l+1 }) hi rfl
 have hm4:∀ y,Q9 mk (An V S x.l x.s 0) 1 false y<4:=QgK h4 (by decide)
 refine⟨h.er.lift hR hi hl,h.lf.lq.turn (Qix hR hok.2.2.1),(h.lf.mq.arc hR hok.2.2.2 hok.2.2.1 (by decide)).arc hR hl hok.2.2.1 (by decide),?_,⟨_,hV',fun L hL=>?_⟩,fun L s d hL hs hd=>?_,fun L v hL hv=>?_⟩
 . refine h.lf.lk.mem fun e=>?_
   rw[List.mem_filter,List.mem_filter,hms]
   constructor
   . rintro⟨h1,h2⟩
     exact⟨.inr ⟨h1,fun es=>by rw[h.er.uniq h1 hx es,ht] at h2;cases h2⟩,h2⟩
   . rintro⟨rfl|h1,h2⟩
     . rw[show ({ x with l:=x.l+1 }:E1).t=x.t from rfl,ht] at h2;cases h2
     . exact⟨h1.1,h2⟩
 . by_cases e:L=x.l+1
   . subst e
     unfold gset;rw[if_pos rfl]
     refine(hg _ hL).put (by rw[hV.len hL];omega) fun s' a b=>?_
     rw[QG,QG]
     constructor
     . rintro⟨e,he,h1,h2,rfl,rfl,rfl⟩
       rcases(hms e).1 he with rfl|he
       . exact .inl rfl
       . exact .inr ⟨⟨e,he.1,h1,h2,rfl,rfl,rfl⟩,he.2⟩
     . rintro(h1|⟨⟨e,he,h1,h2,rfl,rfl,rfl⟩,hne⟩)
       . simp only[Prod.mk.injEq] at h1
         obtain⟨rfl,rfl,rfl⟩:=h1;exact⟨{ x with l:=x.l+1 },(hms _).2 (.inl rfl),ht,Nat.le_refl _,rfl,rfl,rfl⟩
       . exact⟨e,(hms e).2 (.inr ⟨he,hne⟩),h1,h2,rfl,rfl,rfl⟩
   . unfold gset
     rw[if_neg e]
     refine(hg L hL).perm fun⟨s,a,b⟩=>?_
     rw[QG,QG]
     constructor
     . rintro⟨e',he,h1,h2,rfl,rfl,rfl⟩
       by_cases es:e'.s=x.s
       . have:=h.er.uniq he hx es
         subst this
         exact⟨{ e' with l:=e'.l+1 },(hms _).2 (.inl rfl),ht,by show L<=e'.l+1;omega,rfl,rfl,rfl⟩
       . exact⟨e',(hms e').2 (.inr ⟨he,es⟩),h1,h2,rfl,rfl,rfl⟩
     . rintro⟨e',he,h1,h2,rfl,rfl,rfl⟩
       rcases(hms e').1 he with rfl|he
       . exact⟨x,hx,ht,by have:L<=x.l+1:=h2;omega,rfl,rfl,rfl⟩
       . exact⟨e',he.1,h1,h2,rfl,rfl,rfl⟩
 . obtain⟨h1,h2⟩:=Qim (on:=true) (d:=d) hm4 hR hl hok.2.2.1 hL hs hd
   obtain⟨h3,h5⟩:=Qim (on:=false) (d:=d) h4 hR hok.2.2.2 hok.2.2.1 hL hs hd;rw[h1,h2,h3,h5];refine⟨?_,(h.lf.pa L s d hL hs hd).2⟩;have hp:=(h.lf.pa L s d hL hs hd).1
   by_cases e1:L=x.l+1/\s=x.s/\d=0
   . rw[if_pos e1]
     exact⟨fun _=>⟨e1.2.2,{ x with l:=x.l+1 },(hms _).2 (.inl rfl),e1.2.1.symm,ht,e1.1.symm⟩,fun _=>rfl⟩
   . rw[if_neg e1]
     by_cases e2:L=x.l/\s=x.s/\d=0
     . rw[if_pos e2]
       simp only[Bool.false_eq_true,false_iff];rintro⟨_,e,he,g1,g2,g3⟩
       rcases(hms e).1 he with rfl|he
       . have:x.l+1=L:=g3
         omega
       . exact he.2 (g1.trans e2.2.1)
     . rw[if_neg e2,hp]
       refine and_congr_right fun hd0=>?_
       constructor
       . rintro⟨e,he,g1,g2,g3⟩
         refine⟨e,(hms e).2 (.inr ⟨he,fun es=>?_⟩),g1,g2,g3⟩
         have:=h.er.uniq he hx es;subst this;exact e2 ⟨g3.symm,g1.symm,hd0⟩
       . rintro⟨e,he,g1,g2,g3⟩
         rcases(hms e).1 he with rfl|he
         . exact absurd ⟨g3.symm,g1.symm,hd0⟩ e1
         . exact⟨e,he.1,g1,g2,g3⟩
 . rw[Qcq (QdW hR hL hl hv hok.2.2.1 (by decide)),Qcq (QdW hR hL hok.2.2.2 hv hok.2.2.1 (by decide))]
   exact h.lf.px L v hL hv
theorem LF.plant (h:LF V S T f mk ts bs' q)(hR:Rt V S T)(h4:∀ y,mk y<4)(hE:ER V S T f bs)(hi:bs[i]?=some x)(hm:∀ e,e∈bs'↔e∈bs/\e.s≠x.s)(hg:∀ L:Nat,(L:Int)<lv V->Lnk (gr L) (tE bs' L))(hV:Lvs V S ts gr)(hV':Lvs V S ts' (grPl gr x.s x.u x.v (x.l+1))):
 LG V S T (upd f (eC V S T x.u x.v) (eV x.s true)) (Q9 mk (An V S x.l x.s 0) 1 true) ts' (bs.set i { x with t:=true }) q:=by
 have hx:=List.mem_of_getElem? hi;have hok:=hE.ok x hx
 have hms:∀ e,e∈bs.set i { x with t:=true }↔e={ x with t:=true }\/e∈bs':=fun e=>by rw[hm];exact hE.mem_set (x':={ x with t:=true }) hi rfl
 refine⟨hE.turn hR hi true,h.lq.turn (Qlb hR hok.1 hok.2.1),h.mq.arc hR hok.2.2.2 hok.2.2.1 (by decide),?_,⟨_,hV',fun L hL=>?_⟩,fun L s d hL hs hd=>?_,fun L v hL hv=>?_⟩
 . refine h.lk.mem fun e=>?_
   rw[List.mem_filter,List.mem_filter,hms]
   constructor
   . rintro⟨h1,h2⟩;exact⟨.inr h1,h2⟩
   . rintro⟨rfl|h1,h2⟩
     . cases h2
     . exact⟨h1,h2⟩
 . unfold grPl
   by_cases e:L<x.l+1
   . rw[if_pos e]
     refine(hg _ hL).put (by rw[hV.len hL];omega) fun s' a b=>?_
     rw[QG,QG]
     constructor
     . rintro⟨e,he,h1,h2,rfl,rfl,rfl⟩
       rcases(hms e).1 he with rfl|he
       . exact .inl rfl
       . exact .inr ⟨⟨e,he,h1,h2,rfl,rfl,rfl⟩,((hm e).1 he).2⟩
     . rintro(h1|⟨⟨e,he,h1,h2,rfl,rfl,rfl⟩,hne⟩)
       . simp only[Prod.mk.injEq] at h1
         obtain⟨rfl,rfl,rfl⟩:=h1
         exact⟨{ x with t:=true },(hms _).2 (.inl rfl),rfl,by show L<=x.l;omega,rfl,rfl,rfl⟩
       . exact⟨e,(hms e).2 (.inr he),h1,h2,rfl,rfl,rfl⟩
   . rw[if_neg e]
     refine(hg L hL).perm fun⟨s,a,b⟩=>?_
     rw[QG,QG]
     constructor
     . rintro⟨e',he,h1,h2,rfl,rfl,rfl⟩
       exact⟨e',(hms e').2 (.inr he),h1,h2,rfl,rfl,rfl⟩
     . rintro⟨e',he,h1,h2,rfl,rfl,rfl⟩
       rcases(hms e').1 he with rfl|he
       . have:L<=x.l:=h2
         omega
       . exact⟨e',he,h1,h2,rfl,rfl,rfl⟩
 . obtain⟨h1,h2⟩:=Qim (on:=true) (d:=d) h4 hR hok.2.2.2 hok.2.2.1 hL hs hd
   rw[h1,h2];refine⟨?_,(h.pa L s d hL hs hd).2⟩
   by_cases e1:L=x.l/\s=x.s/\d=0
   . rw[if_pos e1]
     exact⟨fun _=>⟨e1.2.2,{ x with t:=true },(hms _).2 (.inl rfl),e1.2.1.symm,rfl,e1.1.symm⟩,fun _=>rfl⟩
   . rw[if_neg e1,(h.pa L s d hL hs hd).1]
     refine and_congr_right fun hd0=>?_
     constructor
     . rintro⟨e,he,g1,g2,g3⟩
       exact⟨e,(hms e).2 (.inr he),g1,g2,g3⟩
     . rintro⟨e,he,g1,g2,g3⟩
       rcases(hms e).1 he with rfl|he
       . exact absurd ⟨g3.symm,g1.symm,hd0⟩ e1
       . exact⟨e,he,g1,g2,g3⟩
 . rw[Qcq (QdW hR hL hok.2.2.2 hv hok.2.2.1 (by decide))]
   exact h.px L v hL hv
theorem QdD:Qbg mk a y=0\/Qbg mk a y=mk y:=by unfold Qbg;split;exact .inl rfl;exact .inr rfl
theorem Qc4:QbS mk V S L s y=0\/QbS mk V S L s y=mk y:=by
 unfold QbS
 rcases QdD (mk:=Qbg mk (An V S L s 0)) (a:=An V S L s 1) (y:=y) with h|h
 . exact .inl h
 . rw[h];exact QdD
theorem Qbs:∀ k,Q1 V S gr s mk k y=0\/Q1 V S gr s mk k y=mk y
 |0=>.inr rfl
 |k+1=>by
  unfold Q1
  split
  . exact Qbs k
  . rcases Qc4 (mk:=Q1 V S gr s mk k) (V:=V) (S:=S) (L:=k) (s:=s) (y:=y) with h|h
    . exact .inl h
    . rw[h];exact Qbs k
theorem Qfq (hd:d<2):∀ k,L<k->¬ (gr L)[s]?=some none->Q1 V S gr s mk k (An V S L s d)=0
 |0,h,_=>absurd h (Nat.not_lt_zero _)
 |k+1,h,hn=>by
  unfold Q1
  by_cases e:L=k
  . subst e
    rw[if_neg hn];unfold QbS Qbg
    have:d=0\/d=1:=by omega
    rcases this with rfl|rfl
    . split
      . rfl
      . rw[if_pos rfl]
    . rw[if_pos rfl]
  . have ih:=Qfq hd k (by omega) hn
    split
    . exact ih
    . rcases Qc4 (mk:=Q1 V S gr s mk k) (V:=V) (S:=S) (L:=k) (s:=s) (y:=An V S L s d) with h|h
      . exact h
      . rw[h];exact ih
theorem Qbt:hasB 0 k=false:=by unfold hasB;simp
theorem QnM (hR:Rt V S T)(hs:(s:Int)<S)(hu:(u:Int)<S)(hL:(L:Int)<lv V)(hd:d<2)(hne:u≠s):∀ L' k:Nat,k<2->(L':Int)<lv V->An V S L u d≠An V S L' s k:=fun _ _ hk hL' e=>hne (Qjy hR hL hL' hu hs hd hk e).2.1
theorem Qfp (_hR:Rt V S T)(hn:(k:Int)<=lv V)(h:∀ L d:Nat,(L:Int)<lv V->d<2->y≠An V S L s d):Q1 V S gr s mk k y=mk y:=by
 induction k with
 |zero=>rfl
 |succ k ih=>
  have h1:(k:Int)<lv V:=by omega
  unfold Q1
  split
  . exact ih (by omega)
  . unfold QbS Qbg
    rw[if_neg (h k 1 h1 (by decide)),if_neg (h k 0 h1 (by decide))]
    exact ih (by omega)
theorem LG.fell (h:LG V S T f mk ts bs q)(hR:Rt V S T)(hi:bs[i]?=some x)(ht:x.t=true)(hg:∀ L:Nat,(L:Int)<lv V->Lnk (gr L) (tE bs L))(_hV:Lvs V S ts gr)(hV':Lvs V S ts' (Qaz gr x.s (lv V).toNat)):
 LF V S T f (Q1 V S gr x.s mk (lv V).toNat) ts' (bs.eraseIdx i) q:=by
 have hx:=List.mem_of_getElem? hi;have hok:=h.er.ok x hx
 have hm:∀ e,e∈bs.eraseIdx i↔e∈bs/\e.s≠x.s:=fun e=>h.er.mem_erase hi
 have hn:(((lv V).toNat:Nat):Int)<=lv V:=by rw[Qft];exact Int.le_refl _
 have fx:∀ {L v:Nat},(L:Int)<lv V->(v:Int)<V->Q1 V S gr x.s mk (lv V).toNat (Xn V L v)=mk (Xn V L v):=fun {L v} hL hv=>Qfp hR hn fun L' d hL' hd=>QdW hR hL hL' hv hok.2.2.1 hd
 refine⟨h.lf.lq,fun v l hv hl=>by rw[Qbr hR hv hl,fx hl hv,<-Qbr hR hv hl];exact h.lf.mq v l hv hl,?_,⟨_,hV',fun L hL=>?_⟩,fun L s d hL hs hd=>?_,fun L v hL hv=>by rw[fx hL hv];exact h.lf.px L v hL hv⟩
 . refine h.lf.lk.mem fun e=>?_
   rw[List.mem_filter,List.mem_filter,hm]
   constructor
   . rintro⟨h1,h2⟩
     exact⟨⟨h1,fun es=>by rw[h.er.uniq h1 hx es,ht] at h2;cases h2⟩,h2⟩
   . rintro⟨h1,h2⟩;exact⟨h1.1,h2⟩
 . unfold Qaz
   rw[if_pos (by omega)]
   refine(hg L hL).del fun s' a b=>?_
   rw[QG,QG]
   constructor
   . rintro⟨e,he,h1,h2,rfl,rfl,rfl⟩
     exact⟨⟨e,((hm e).1 he).1,h1,h2,rfl,rfl,rfl⟩,((hm e).1 he).2⟩
   . rintro⟨⟨e,he,h1,h2,rfl,rfl,rfl⟩,h3⟩
     exact⟨e,(hm e).2 ⟨he,h3⟩,h1,h2,rfl,rfl,rfl⟩
 . by_cases es:s=x.s
   . subst es
     have hp:=h.lf.pa L x.s d hL hs hd
     have h0:hasB (Q1 V S gr x.s mk (lv V).toNat (An V S L x.s d)) 1=false/\hasB (Q1 V S gr x.s mk (lv V).toNat (An V S L x.s d)) 0=false:=by
      by_cases hk:(gr L)[x.s]?=some none
      . rcases Qbs (V:=V) (S:=S) (gr:=gr) (s:=x.s) (mk:=mk) (y:=An V S L x.s d) (lv V).toNat with h1|h1
        . rw[h1];exact⟨Qbt,Qbt⟩
        . rw[h1]
          refine⟨?_,hp.2⟩
          cases hb:hasB (mk (An V S L x.s d)) 1
          . rfl
          . exfalso
            obtain⟨_,e,he,g1,g2,g3⟩:=hp.1.1 hb;have:=h.er.uniq he hx g1;subst this
            have:=(hg L hL e.s e.u e.v).1 (QG.2 ⟨e,he,g2,by omega,rfl,rfl,rfl⟩)
            rw[hk] at this;cases this
      . rw[Qfq hd _ (by omega) hk];exact⟨Qbt,Qbt⟩
     rw[h0.1,h0.2]
     refine⟨⟨fun h1=>(by simp at h1),?_⟩,rfl⟩
     rintro⟨_,e,he,g1,_⟩;exact absurd g1 ((hm e).1 he).2
   . rw[Qfp hR hn fun L' d' hL' hd'=>QnM hR hok.2.2.1 hs hL hd es L' d' hd' hL']
     refine⟨(h.lf.pa L s d hL hs hd).1.trans (and_congr_right fun _=>?_),(h.lf.pa L s d hL hs hd).2⟩
     constructor
     . rintro⟨e,he,g1,g2,g3⟩
       exact⟨e,(hm e).2 ⟨he,fun e2=>es (g1.symm.trans e2)⟩,g1,g2,g3⟩
     . rintro⟨e,he,g1,g2,g3⟩
       exact⟨e,((hm e).1 he).1,g1,g2,g3⟩
end
section
variable {w w' w0 W:World}{V S T:Int}{b p gb cap m m' L L' s u v i l:Nat}{f f':Nat->Int}{mk mk':Nat->Nat}{ts ts':List Tp}{bs bs':List E1}{q q':Nat->Nat->List Nat}{x e x':E1}{gr:List (Option (Nat × Nat))}{rows:List (List Nat)}{g:Mg9}
def anyT:List Nat->Tp
 |[]=>.nil
 |x :: l=>.node .nil x (anyT l)
theorem QaD:∀ l:List Nat,(anyT l).row=l
 |[]=>rfl
 |x :: l=>by show Tp.row (.node .nil x (anyT l))=_;rw[Tp.row_node,QaD l];rfl
theorem Lv.between (h:Lv V S L ts rows gr)(hR:Rt V S T)(hL:(L:Int)<lv V)(hF:FI V S g mk ts)(hg:gr[s]?=some (some (u,v))):∃ r∈rows,∃ c d pp qq rr,Arcs (An V S L) s c d/\r=pp++c :: (qq++d :: rr)/\r.Nodup/\(∃ w:Nat,(w:Int)<V/\Xn V L w∈qq)/\(∀ y∈qq,y∈r)/\
 ((Xn V L u∈qq/\Xn V L v∉qq)\/(Xn V L v∈qq/\Xn V L u∉qq))/\∃ E,Lnk (gr.set s none) E/\(∀ s a b,(s,a,b)∈E->a<V.toNat/\b<V.toNat)/\∀ w y,Xn V L w∈qq->(Way E w y↔Xn V L y∈qq):=by
 obtain⟨r,hr,c,d,pp,qq,rr,ha,er,hnd,hq0,ho0⟩:=h.parts hR hL hF hg;obtain⟨i,hi⟩:=List.mem_iff_getElem?.1 hr;have hp:rows.Perm (r :: wo i i 0 rows):=QW (Nat.zero_le _) hi;obtain⟨t,ht,et⟩:=h.has r hr
 have hc:=h.cut (ts':=anyT qq :: anyT (pp++rr) :: anyT [c] :: anyT [d] :: ts) hR hL hF hg ha (er ▸ hp) (et.trans er) (ti:=anyT qq) (tu:=anyT (pp++rr)) (ct:=anyT [c]) (dt:=anyT [d]) (by simp) (by simp) (QaD _) (QaD _) (by simp) (QaD _) (by simp) (QaD _) (fun z hz _=>by simp [hz])
 obtain⟨hc,hends⟩:=hc;obtain⟨P,p1,p2,p3⟩:=hc.tour;have hnq:=hc.nd;rw[List.flatten_cons,List.flatten_cons,List.nodup_append] at hnq
 have apart:∀ {y:Nat},y∈qq->y∉pp++rr:=fun h1 h2=>hnq.2.2 _ h1 _ (List.mem_append_left _ h2) rfl
 have hsub:∀ y∈qq,y∈r:=fun y hy=>by rw[er];simp [hy]
 have hq:qq∈qq :: (pp++rr) :: wo i i 0 rows:=List.mem_cons_self ..
 have bound:∀ s' a b,(s',a,b)∈P.flatMap Prod.snd->a<V.toNat/\b<V.toNat:=fun s' a b hm=>by
  have h1:=(p3 s' a b).1 hm
  by_cases e:s'=s
  . subst e
    rw[List.getElem?_set] at h1
    split at h1
    . split at h1<;>cases h1
    . rename_i hne;exact absurd rfl hne
  . rw[List.getElem?_set_ne (Ne.symm e)] at h1
    have:=h.ends hR hF h1;omega
 refine⟨r,hr,c,d,pp,qq,rr,ha,er,hnd,?_,hsub,?_,P.flatMap Prod.snd,p3,bound,fun w y hw=>⟨fun hway=>?_,fun hy=>?_⟩⟩
 . obtain⟨p,hp1,e⟩:=List.mem_map.1 (p1.mem_iff.2 hq)
   obtain⟨w,hw⟩:=(p2 p hp1).has;rw[e] at hw;exact⟨w,Qcc hR (h.node_le hF hr (hsub _ hw)).2,hw⟩
 . rcases hends with ⟨h1,h2⟩|⟨h1,h2⟩
   . exact .inl ⟨h1,fun h3=>apart h3 h2⟩
   . exact .inr ⟨h1,fun h3=>apart h3 h2⟩
 . have one:∀ {s a b w:Nat},(s,a,b)∈P.flatMap Prod.snd->(w=a\/w=b)->Xn V L w∈qq->Xn V L a∈qq/\Xn V L b∈qq:=by
    intro s a b w hm hw hx;obtain⟨p,hp,hm⟩:=List.mem_flatMap.1 hm;obtain⟨_,_,ma,mb⟩:=(p2 p hp).mem hm;have hr2:=p1.mem_iff.1 (List.mem_map_of_mem hp);obtain⟨i2,hi2⟩:=List.mem_iff_getElem?.1 hq;obtain⟨j2,hj2⟩:=List.mem_iff_getElem?.1 hr2
    have hwp:Xn V L w∈p.1:=by rcases hw with rfl|rfl;exact ma;exact mb
    have:=Qdi hc.nd hi2 hj2 hx hwp;subst this;rw[hi2] at hj2;injection hj2 with hj2;rw[hj2];exact⟨ma,mb⟩
   clear hR hF p1 p2 p3 bound hends
   induction hway with
   |refl=>exact hw
   |fore _ he ih=>exact(one he (.inl rfl) (ih hw)).2
   |back _ he ih=>exact(one he (.inr rfl) (ih hw)).1
 . obtain⟨p,hp1,e⟩:=List.mem_map.1 (p1.mem_iff.2 hq)
   exact((p2 p hp1).joined (Qeu hR hL) (Qd8 hR hL) (by rw[e];exact hw) (by rw[e];exact hy)).mono fun e he=>List.mem_flatMap.2 ⟨p,hp1,he⟩
theorem Qnd (hR:Rt V S T)(hL:(L:Int)<lv V)(hu:(u:Int)<V)(w:World):
 Calls Tryz.prog 45 #[vL V S T,I (Xn V L u:Int)] w fun e w'=>e=.returned (.tuple #[vT false L u 0 0,.bool true])/\Below w.heap.size w w':=by
 have h1:=QaG hR hL hu;have h2:=QaV hR hL hu;have h3:=QdE hR hL;have h4:=hR.v1;rw[QbP hu]
 have h:=QdB V S T (vxI V L u:Int) hR (by omega) (by omega) w
 rw[show ((vxI V L u:Nat):Int)-1=u+L*V by omega] at h
 rw[Int.add_mul_emod_self_right,Int.emod_eq_of_lt (by omega) hu,Int.add_mul_ediv_right _ _ (by omega),Int.ediv_eq_zero_of_lt (by omega) hu,Int.zero_add] at h
 exact h
theorem LG.free (h:LG V S T f mk ts bs q)(hR:Rt V S T)(hF:FJ V S mk ts)(hx:x∈bs)(ht:x.t=true)(hl:(x.l:Int)<lv V):¬ Way (tE bs (x.l+1)) x.u x.v:=fun hw=>by
 obtain⟨_,hF⟩:=hF;obtain⟨gr,hV,hg⟩:=h.lf.fo;obtain⟨rows,hr⟩:=hV x.l hl;have hgs:(gr x.l)[x.s]?=some (some (x.u,x.v)):=(hg x.l hl _ _ _).1 (QG.2 ⟨x,hx,ht,Nat.le_refl _,rfl,rfl,rfl⟩);obtain⟨_,_,_,_,_,qq,_,_,_,_,_,_,hends,E,hE,_,hj⟩:=hr.between hR hl hF hgs
 have hm:∀ e∈tE bs (x.l+1),e∈E:=fun⟨s,a,b⟩ he=>by
  rw[QG] at he;obtain⟨e,he,h1,h2,rfl,rfl,rfl⟩:=he
  rw[hE e.s e.u e.v,List.getElem?_set_ne (fun es=>by have:=h.er.uniq he hx es.symm;subst this;omega)]
  exact(hg x.l hl _ _ _).1 (QG.2 ⟨e,he,h1,by omega,rfl,rfl,rfl⟩)
 have hw':=hw.mono hm
 rcases hends with ⟨a,b⟩|⟨a,b⟩
 . exact b ((hj _ _ a).1 hw')
 . exact b ((hj _ _ a).1 hw'.symm)
theorem QdK {mk:Nat->Nat}{k x:Nat}:∀ {l:List Nat},Qx mk k l=x->x≠0->x∈l/\hasB (mk x) k=true
 |[],h,h0=>absurd h.symm h0
 |y :: l,h,h0=>by
  unfold Qx at h
  by_cases e:mbit mk k y=true
  . rw[if_pos e] at h
    subst h
    exact⟨by simp,e⟩
  . rw[if_neg e] at h
    have:=QdK h h0;exact⟨List.mem_cons_of_mem _ this.1,this.2⟩
theorem QdJ {mk:Nat->Nat}{k:Nat}:∀ {l:List Nat},Qx mk k l=0->(∀ y∈l,y≠0)->∀ y∈l,hasB (mk y) k=false
 |[],_,_=>by simp
 |y :: l,h,hz=>by
  unfold Qx at h
  by_cases e:mbit mk k y=true
  . rw[if_pos e] at h
    exact absurd h (hz y (by simp))
  . rw[if_neg e] at h
    intro z hm
    rcases List.mem_cons.1 hm with rfl|hm
    . unfold hasB;unfold mbit at e;exact Bool.eq_false_iff.2 e
    . exact QdJ h (fun y hy=>hz y (List.mem_cons_of_mem _ hy)) z hm
theorem ER.len_le (h:ER V S T f bs):bs.length<=S.toNat:=by
 have h1:(bs.map E1.s).Nodup:=by
  rw[List.Nodup,List.pairwise_map]
  exact h.un.imp fun h=>h.1
 have:=Qb2 h1 fun y hy=>by
  obtain⟨e,he,rfl⟩:=List.mem_map.1 hy;have:=(h.ok e he).2.2.1
  exact(by omega:e.s<S.toNat)
 rwa [List.length_map] at this
end
def DG (V S T:Int)(p gb cap m:Nat)(bs:List E1)(q:Nat->Nat->List Nat)(K:List Tp->Prop)(w:World)(e:Ending)(w':World):Prop:=
 ∃ f' mk' ts',e=.returned (.tuple #[])/\TA w' V S T p gb cap m f' mk' ts'/\LG V S T f' mk' ts' bs q/\K ts'/\Only p gb w w'
def DF (V S T:Int)(p gb cap m:Nat)(f:Nat->Int)(bs':List E1)(q:Nat->Nat->List Nat)(w:World)(e:Ending)(w':World):Prop:=
 ∃ f' mk' ts',e=.returned (.tuple #[])/\TA w' V S T p gb cap m f' mk' ts'/\LF V S T f' mk' ts' bs' q/\Ke V S T f f'/\Only p gb w w'
section
variable {w w' w0 W:World}{V S T:Int}{b p gb cap m L s u v i l:Nat}{f f':Nat->Int}{mk mk':Nat->Nat}{ts ts':List Tp}{bs bs':List E1}{q q':Nat->Nat->List Nat}{x e x':E1}
theorem Qiy (A:TA w V S T p gb cap m f mk ts)(h:LG V S T f mk ts bs q)(hi:bs[i]?=some x)(ht:x.t=true)(hl:((x.l+1:Nat):Int)<lv V)(hm:m<=99790000):
 Calls Tryz.prog 22 #[vA V S T p,I (x.s:Int)] w (DG V S T p gb cap (m+114*nN V S+52) (bs.set i { x with l:=x.l+1 }) q (Kt V (x.l+1) ts) w):=by
 have hx:=List.mem_of_getElem? hi;have hok:=h.er.ok x hx;have hR:=A.hR;obtain⟨gr,hV,hg⟩:=h.lf.fo
 have hpa:=(h.lf.pa x.l x.s 0 hok.2.2.2 hok.2.2.1 (by decide)).1.2 ⟨rfl,x,hx,rfl,ht,rfl⟩
 have hgn:(gr (x.l+1))[x.s]?=some none:=(hg _ hl).slot_none (by rw[hV.len hl];omega) fun a b hm=>by
  obtain⟨e,he,h1,h2,h3,_⟩:=QG.1 hm;have:=h.er.uniq he hx h3;subst this;omega
 have hJ:¬ Jn (gr (x.l+1)) x.u x.v:=fun hj=>h.free hR A.fi hx ht hok.2.2.2 ((Jn.way (hg _ hl)).1 hj)
 refine(QlY A hV h.er hx hl hpa hgn hJ hm).mono ?_;rintro e w' ⟨ts',rfl,A',V',K',O'⟩
 exact⟨_,_,ts',rfl,A',h.tree hR (fun y=>A.mk4 y) hi ht hl hg hV V',K',O'⟩
theorem Qkl (A:TA w V S T p gb cap m f mk ts)(h:LG V S T f mk ts bs q)(hi:bs[i]?=some x)(ht:x.t=false)(hl:((x.l+1:Nat):Int)<lv V)(hm:m<=99790000):
 Calls Tryz.prog 40 #[vA V S T p,I (x.s:Int)] w (DG V S T p gb cap (m+135+32*nN V S) (bs.set i { x with l:=x.l+1 }) (add2 (rem2 q x.s x.u x.v x.l) x.s x.u x.v (x.l+1)) (fun ts'=>ts'=ts) w):=by
 have hx:=List.mem_of_getElem? hi;have hs:=h.sides hx ht
 refine(Qko A h.er hi hl h.lf.lq h.lf.mq (fun u l _ _=>h.qlen A.hR u l) hs.1 hs.2.1 hs.2.2 hm).mono ?_
 rintro e w' ⟨f',mk',rfl,A',Q',M',B',K',O'⟩;exact⟨f',mk',ts,rfl,A',h.plain A.hR hi ht hl Q' M' B' K',rfl,O'⟩
theorem QiA (A:TA w V S T p gb cap m f mk ts)(h:LG V S T f mk ts bs q)(hi:bs[i]?=some x)(ht:x.t=true)(hm:m+5*(72*nN V S+50)<=99800000):
 Calls Tryz.prog 23 #[vA V S T p,I (x.s:Int)] w (DF V S T p gb cap (m+(lv V).toNat*(72*nN V S+50)) f (bs.eraseIdx i) q w):=by
 have hx:=List.mem_of_getElem? hi;obtain⟨gr,hV,hg⟩:=h.lf.fo;refine(QlZ A hV (h.er.ok x hx).2.2.1 hm).mono ?_;rintro e w' ⟨ts',rfl,A',V',O'⟩;exact⟨f,_,ts',rfl,A',h.fell A.hR hi ht hg hV V',Ke.refl,O'⟩
theorem Qiz (A:TA w V S T p gb cap m f mk ts)(h:LG V S T f mk ts bs q)(hi:bs[i]?=some x)(ht:x.t=false)(hm:m<=99880000):
 Calls Tryz.prog 38 #[vA V S T p,I (x.s:Int)] w (DF V S T p gb cap (m+34+16*nN V S) f (bs.eraseIdx i) (rem2 q x.s x.u x.v x.l) w):=by
 have hx:=List.mem_of_getElem? hi;have hok:=h.er.ok x hx;have his:=h.er.is x hx;have hs:=h.sides hx ht;refine(Qfk A h.lf.lq h.lf.mq hok.1 hok.2.1 hok.2.2.1 hok.2.2.2 his.2.1 his.2.2 hs.1 hs.2.1 (h.qlen A.hR x.u x.l) (h.qlen A.hR x.v x.l) hm).mono ?_;rintro e w' ⟨f',mk',rfl,A',Q',⟨M',B'⟩,K',O'⟩
 exact⟨f',mk',ts,rfl,A',h.lf.out A.hR h.er hx ht (fun e=>h.er.mem_erase hi) Q' M' B',K',O'⟩
theorem LF.gone (h:LF V S T f' mk ts (bs.eraseIdx i) q)(hR:Rt V S T)(hE:ER V S T f bs)(hk:Ke V S T f f')(hi:bs[i]?=some x):LG V S T (upd f' (eC V S T x.u x.v) 0) mk ts (bs.eraseIdx i) q:=by
 have hok:=hE.ok x (List.mem_of_getElem? hi);exact⟨(hk.er hE).remove hR hi,h.turn (Qlb hR hok.1 hok.2.1)⟩
theorem LG.put (h:LG V S T f mk ts bs q)(hR:Rt V S T)(h1:x.u<x.v)(h2:(x.v:Int)<V)(h3:(x.s:Int)<S)(h4:(x.l:Int)<lv V)(hs:∀ e∈bs,e.s≠x.s)(hp:∀ e∈bs,¬ (e.u=x.u/\e.v=x.v)):ER V S T (putF V S T f x) (bs++[x])/\LF V S T (putF V S T f x) mk ts bs q:=
 ⟨h.er.put hR h1 h2 h3 h4 hs hp,h.lf.turn (QlJ hR h1 h2 h3)⟩
theorem LF.no_side (h:LF V S T f mk ts bs q)(hs:∀ e∈bs,e.s≠s)(a b:Nat):2*s+1∉q a b/\2*s+2∉q a b:=by
 refine⟨fun hm=>?_,fun hm=>?_⟩
 . obtain⟨e,he,_,h1⟩:=(h.lk _ _ _).1 hm
   exact hs e (List.mem_filter.1 he).1 (by rcases h1 with h1|h1<;>omega)
 . obtain⟨e,he,_,h1⟩:=(h.lk _ _ _).1 hm
   exact hs e (List.mem_filter.1 he).1 (by rcases h1 with h1|h1<;>omega)
theorem LF.no_dl (h:LF V S T f mk ts bs q)(hs:∀ e∈bs,e.s≠s)(a b:Nat):s∉dl q a b:=fun hm=>by
 unfold dl at hm;obtain⟨y,hy,e⟩:=List.mem_map.1 hm;have:=(h.lq.rg _ _ _ hy).1;have hn:=h.no_side hs a b
 rcases(by omega:y=2*s+1\/y=2*s+2) with rfl|rfl
 . exact hn.1 hy
 . exact hn.2 hy
theorem LF.qlen (h:LF V S T f mk ts bs q)(hR:Rt V S T)(hu:bs.Pairwise fun a b=>a.s≠b.s/\¬ (a.u=b.u/\a.v=b.v))(hne:∀ e∈bs,e.u≠e.v)(u l:Nat):((q u l).length:Int)<=S:=
 Qlj hR h.lk h.lq (hu.filter _) fun e he=>hne e (List.mem_filter.1 he).1
theorem Qkk (A:TA w V S T p gb cap m f mk ts)(h:LF V S T f mk ts bs' q)(hE:ER V S T f bs)(hi:bs[i]?=some x)(hm:∀ e,e∈bs'↔e∈bs/\e.s≠x.s)(hu:bs'.Pairwise fun a b=>a.s≠b.s/\¬ (a.u=b.u/\a.v=b.v))(hw:∀ L,L<=x.l->¬ Way (tE bs' L) x.u x.v)(hb:m+63+5*(100*nN V S+30)<=99800000):
 Calls Tryz.prog 27 #[vA V S T p,I (x.s:Int)] w (DG V S T p gb cap (m+63+(x.l+1)*(100*nN V S+30)+11+7*nN V S) (bs.set i { x with t:=true }) q (fun _=>True) w):=by
 have hx:=List.mem_of_getElem? hi;have hok:=hE.ok x hx;have hR:=A.hR;obtain⟨gr,hV,hg⟩:=h.fo
 have hs:∀ e∈bs',e.s≠x.s:=fun e he=>((hm e).1 he).2
 refine(Qkn A hV hE hx h.lq (fun u l _ _=>h.qlen hR hu (fun e he=>by have:=(hE.ok e ((hm e).1 he).1).1;omega) u l) (h.no_dl hs _ _) (fun L hL=>?_) hb).mono ?_
 . have hL':(L:Int)<lv V:=by have:=hok.2.2.2;omega
   refine⟨(hg L hL').slot_none (by rw[hV.len hL'];omega) fun a b hm'=>?_,fun hj=>hw L hL ((Jn.way (hg L hL')).1 hj)⟩
   obtain⟨e,he,_,_,h3,_⟩:=QG.1 hm';exact hs e he h3
 . rintro e w' ⟨ts',rfl,A',V',O'⟩
   exact⟨_,_,ts',rfl,A',h.plant hR (fun y=>A.mk4 y) hE hi hm hg hV V',trivial,O'⟩
theorem Qng (A:TA w V S T p gb cap m f mk ts)(h:LF V S T f mk ts bs q)(hE:ER V S T f (bs++[x]))(ht:x.t=false)(hs:∀ e∈bs,e.s≠x.s)(hm:m<=99880000):
 Calls Tryz.prog 83 #[vA V S T p,I (x.s:Int)] w (DG V S T p gb cap (m+34+16*nN V S) (bs++[x]) (add2 q x.s x.u x.v x.l) (fun _=>True) w):=by
 have hx:x∈bs++[x]:=by simp
 have hok:=hE.ok x hx;have his:=hE.is x hx
 refine(QfU A h.lq h.mq hok.1 hok.2.1 hok.2.2.1 hok.2.2.2 his.2.1 his.2.2 (fun a b=>(h.no_side hs a b).1) (fun a b=>(h.no_side hs a b).2) hm).mono ?_
 rintro e w' ⟨f',mk',rfl,A',Q',⟨M',B'⟩,K',O'⟩
 exact⟨f',mk',ts,rfl,A',⟨K'.er hE,h.inn A.hR (by omega) ht (fun e=>by simp [or_comm]) Q' M' B'⟩,trivial,O'⟩
end
end Go.Proofs.YtaooglagddphnaaGreat
