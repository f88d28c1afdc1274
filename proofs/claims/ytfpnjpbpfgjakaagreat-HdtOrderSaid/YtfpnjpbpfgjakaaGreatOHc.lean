/- Hc -/
import Derived.Test.YtfpnjpbpfgjakaaGreatOHb
namespace Go.Proofs.YtfpnjpbpfgjakaaGreat
open Go.RowKit Go.Proofs.Tryz
set_option maxRecDepth 100000
set_option maxHeartbeats 16000000
def PB13 (w:World)(q:Nat)(V S T:Int)(p:Nat)(v:Value):Prop:=Blk w q 61 #[I V,I S,I T,.pointer (some (I1 p 0)),I V,I S,I T,I4 p,I 1,I 0,I V,I S,I T,I4 p,v]
section
variable {w w' w0:World}{V S T:Int}{q p base s u v9 i n:Nat}{v:Value}{l:List E1}{x:E1}
theorem PB13.cells (h:PB13 w q V S T p v):w.cell? (I1 q 0)=some (I V)/\w.cell? (I1 q 1)=some (I S)/\w.cell? (I1 q 2)=some (I T)/\w.cell? (I1 q 3)=some (.pointer (some (I1 p 0)))/\w.cell? (I1 q 4)=some (I V)/\w.cell? (I1 q 5)=some (I S)/\w.cell? (I1 q 6)=some (I T)/\w.cell? (I1 q 7)=some (I4 p)/\w.cell? (I1 q 8)=some (I 1)/\w.cell? (I1 q 9)=some (I 0)/\w.cell? (I1 q 10)=some (I V)/\w.cell? (I1 q 11)=some (I S)/\w.cell? (I1 q 12)=some (I T)/\w.cell? (I1 q 13)=some (I4 p)/\w.cell? (I1 q 14)=some (v):=
 ⟨Blk.cell h 0,Blk.cell h 1,Blk.cell h 2,Blk.cell h 3,Blk.cell h 4,Blk.cell h 5,Blk.cell h 6,Blk.cell h 7,Blk.cell h 8,Blk.cell h 9,Blk.cell h 10,Blk.cell h 11,Blk.cell h 12,Blk.cell h 13,Blk.cell h 14⟩
theorem PB13.lt (h:PB13 w q V S T p v):q<w.heap.size:=Blk.lt h
theorem PB13.below (h:PB13 w q V S T p v)(hb:Below w.heap.size w w'):PB13 w' q V S T p v:=Blk.below h hb (Blk.lt h)
theorem QoO (hq:PB13 w q V S T p v)(hO:EW w base v l)(hl:l.length<=1000){u9 v9 a b:Nat}(ha:min u9 v9=a)(hb:max u9 v9=b)(hno:∀ x∈l,¬ (x.u=a/\x.v=b)):
 I0 21 #[.pointer (some (I1 q 0)),I (u9:Int),I (v9:Int)] w fun e w'=>e=.returned (I (-1))/\Below w.heap.size w w':=by
 obtain⟨av,ac,rfl⟩:=hO.slice;obtain⟨n,hn⟩:∃ n,l.length=n:=⟨_,rfl⟩;have HN:=q9 hn;have HQ:=q9 hq;have HO:=q9 hO;have HS:=q9 hno
 have mn:(if v9<u9 then (v9:Int) else (u9:Int))=(a:Int):=by split<;>omega
 have mx:(if u9<v9 then (v9:Int) else (u9:Int))=(b:Int):=by split<;>omega
 clear hno ha hb;rw[hn] at HQ HO hl
 have nI:(n:Int)<=1000:=by omega
 have HRel:Hid (Qe5 w n (I 0) w):=q9 ⟨Below.refl _ _,0,Nat.zero_le _,rfl⟩;clear hq hO hn;obtain⟨c0,c1,c2,c3,c4,c5,c6,c7,c8,c9,c10,c11,c12,c13,c14⟩:=HQ.cells;have qlt:=HQ.lt
 go_enter func21,ntmps21
 go_wp2_with fail
 go_loopw [14] (fun i9 wr=>Qe5 w n i9 wr) (fun i9 _=>n-(intOf i9).toNat)
 case atStart=>exact HRel.out
 case round=>
  clear HRel;obtain⟨hb,k,hk,rfl⟩:=hrel;have HB:=q9 hb;clear hb
  by_cases hkn:k<n
  . obtain⟨x,hx⟩:∃ x,l[k]?=some x:=⟨_,Jh (by have:=HN.out;omega)⟩
    obtain⟨g,cp9,e,_,glt,_,y0,y1,y2,y3,y4⟩:=(HO.below HB.out).at hx;injection e with e1 e2 e3;subst e1 e3
    have kI:(k:Int)<(n:Int):=by omega
    have k0:(0:Int)<=(k:Int):=by omega
    have hne:=HS.out x (Je hx)
    have HNX:Hid (Qe5 w n (I ((k:Int)+1)) (wr.alloc (.cells #[I (x.s:Int),I (x.u:Int),I (x.v:Int),I (x.l:Int),.bool x.t] 67))):=q9 ⟨HB.alloc HB.size _,k+1,by omega,by simp⟩
    clear hx e2
    by_cases hu:x.u=a
    . have e3:((x.u:Int)==(a:Int))=true:=by rw[hu];exact beq_self_eq_true _
      have e4:((x.v:Int)==(b:Int))=false:=Jf fun e=>hne ⟨hu,by omega⟩
      clear hne hu;go_wp2_with fail
      exact⟨HNX.out,by simp [intOf];omega⟩
    . have e3:((x.u:Int)==(a:Int))=false:=Jf fun e=>hu (by omega)
      clear hne hu;go_wp2_with fail
      exact⟨HNX.out,by simp [intOf];omega⟩
  . have ek:k=n:=by omega
    subst ek
    have kI:¬ (k:Int)<(k:Int):=by omega
    clear hk hkn;go_wp2_with fail
    go_ret;exact⟨rfl,HB⟩
theorem Qoo (hq:PB13 w q V S T p v)(hO:EW w base v l)(hl:l.length<=1000){u9 v9 a b:Nat}(ha:min u9 v9=a)(hb:max u9 v9=b)(hi:l[i]?=some x)(hx:x.u=a/\x.v=b)(hu:∀ j y,l[j]?=some y->y.u=a/\y.v=b->j=i):
 I0 21 #[.pointer (some (I1 q 0)),I (u9:Int),I (v9:Int)] w fun e w'=>e=.returned (I (i:Int))/\Below w.heap.size w w':=by
 obtain⟨av,ac,rfl⟩:=hO.slice;obtain⟨n,hn⟩:∃ n,l.length=n:=⟨_,rfl⟩;have HN:=q9 hn;have HQ:=q9 hq;have HO:=q9 hO
 have HI:Hid (i<n/\l[i]?=some x/\(x.u=a/\x.v=b)/\∀ j y,l[j]?=some y->y.u=a/\y.v=b->j=i):=q9 ⟨by rw[<-hn];exact(Jd hi).1,hi,hx,hu⟩
 have mn:(if v9<u9 then (v9:Int) else (u9:Int))=(a:Int):=by split<;>omega
 have mx:(if u9<v9 then (v9:Int) else (u9:Int))=(b:Int):=by split<;>omega
 clear hi hx hu ha hb;rw[hn] at HQ HO hl
 have nI:(n:Int)<=1000:=by omega
 have HRel:Hid (Qe5 w i (I 0) w):=q9 ⟨Below.refl _ _,0,Nat.zero_le _,rfl⟩;clear hq hO hn;obtain⟨c0,c1,c2,c3,c4,c5,c6,c7,c8,c9,c10,c11,c12,c13,c14⟩:=HQ.cells;have qlt:=HQ.lt
 go_enter func21,ntmps21
 go_wp2_with fail
 go_loopw [14] (fun i9 wr=>Qe5 w i i9 wr) (fun i9 _=>n-(intOf i9).toNat)
 case atStart=>exact HRel.out
 case round=>
  clear HRel;obtain⟨hb,k,hk,rfl⟩:=hrel;have HB:=q9 hb;clear hb
  by_cases hki:k<i
  . obtain⟨x,hx⟩:∃ x,l[k]?=some x:=⟨_,Jh (by have:=HN.out;have:=HI.1;omega)⟩
    have hkn:k<n:=by have:=HI.1;omega
    obtain⟨g,cp9,e,_,glt,_,y0,y1,y2,y3,y4⟩:=(HO.below HB.out).at hx;injection e with e1 e2 e3;subst e1 e3
    have kI:(k:Int)<(n:Int):=by omega
    have k0:(0:Int)<=(k:Int):=by omega
    have hne:¬ (x.u=a/\x.v=b):=fun e=>by have:=HI.2.2.2 k x hx e;omega
    have HNX:Hid (Qe5 w i (I ((k:Int)+1)) (wr.alloc (.cells #[I (x.s:Int),I (x.u:Int),I (x.v:Int),I (x.l:Int),.bool x.t] 67))):=q9 ⟨HB.alloc HB.size _,k+1,by omega,by simp⟩
    clear hx e2
    by_cases hu:x.u=a
    . have e3:((x.u:Int)==(a:Int))=true:=by rw[hu];exact beq_self_eq_true _
      have e4:((x.v:Int)==(b:Int))=false:=Jf fun e=>hne ⟨hu,by omega⟩
      clear hne hu;go_wp2_with fail
      exact⟨HNX.out,by simp [intOf];omega⟩
    . have e3:((x.u:Int)==(a:Int))=false:=Jf fun e=>hu (by omega)
      clear hne hu;go_wp2_with fail
      exact⟨HNX.out,by simp [intOf];omega⟩
  . have ek:k=i:=by omega
    subst ek;have hkn:k<n:=HI.1;have hx:=HI.2.1;obtain⟨g,cp9,e,_,glt,_,y0,y1,y2,y3,y4⟩:=(HO.below HB.out).at hx;injection e with e1 e2 e3;subst e1 e3
    have kI:(k:Int)<(n:Int):=by omega
    have k0:(0:Int)<=(k:Int):=by omega
    have e3:((x.u:Int)==(a:Int))=true:=by rw[HI.2.2.1.1];exact beq_self_eq_true _
    have e4:((x.v:Int)==(b:Int))=true:=by rw[HI.2.2.1.2];exact beq_self_eq_true _
    clear hk hki hx e2;go_wp2_with fail
    go_ret;exact⟨rfl,HB.alloc HB.size _⟩
def FrI (l:List E1)(S r:Int):Prop:=(r=-1/\∀ s:Nat,(s:Int)<S->∃ x∈l,x.s=s)\/∃ s:Nat,r=(s:Int)/\(s:Int)<S/\∀ x∈l,x.s≠s
def QpK (w0:World)(l:List E1)(nS:Nat)(i:Value)(W:World):Prop:=Below w0.heap.size w0 W/\∃ k,k<=nS/\i=I ((k:Nat):Int)/\∀ s,s<k->∃ x∈l,x.s=s
def FrIn (w0:World)(l:List E1)(s:Nat)(ok i:Value)(W:World):Prop:=Below w0.heap.size w0 W/\∃ (k:Nat) (b:Bool),k<=l.length/\i=I ((k:Nat):Int)/\ok=.bool b/\(b=true↔∀ x∈l.take k,x.s≠s)
theorem Qo3 (hq:PB13 w q V S T p v)(hO:EW w base v l)(hl:l.length<=1000)(hS0:0<=S)(hS:S<=1000):
 I0 20 #[.pointer (some (I1 q 0))] w fun e w'=>∃ r,e=.returned (I r)/\FrI l S r/\Below w.heap.size w w':=by
 obtain⟨av,ac,rfl⟩:=hO.slice;obtain⟨n,hn⟩:∃ n,l.length=n:=⟨_,rfl⟩
 obtain⟨nS,hnS⟩:∃ k:Nat,S=(k:Int):=⟨S.toNat,by omega⟩
 subst hnS;have HN:=q9 hn;have HQ:=q9 hq;have HO:=q9 hO;rw[hn] at HQ HO hl
 have nI:(n:Int)<=1000:=by omega
 have HRel:Hid (QpK w l nS (I 0) w):=q9 ⟨Below.refl _ _,0,Nat.zero_le _,rfl,fun s h=>absurd h (Nat.not_lt_zero s)⟩
 clear hq hO hn;obtain⟨c0,c1,c2,c3,c4,c5,c6,c7,c8,c9,c10,c11,c12,c13,c14⟩:=HQ.cells;have qlt:=HQ.lt
 go_enter func20,ntmps20
 go_wp2_with fail
 go_loopw [12] (fun i9 wr=>QpK w l nS i9 wr) (fun i9 _=>nS-(intOf i9).toNat)
 case atStart=>exact HRel.out
 case round=>
  clear HRel;obtain⟨hb,s,hs,rfl,hall⟩:=hrel;have HB:=q9 hb;have HALL:=q9 hall;clear hb hall
  by_cases hsn:s<nS
  . have sI:(s:Int)<(nS:Int):=by omega
    have s0:(0:Int)<=(s:Int):=by omega
    have HQr:=q9 (HQ.below HB.out);obtain⟨c0,c1,c2,c3,c4,c5,c6,c7,c8,c9,c10,c11,c12,c13,c14⟩:=HQr.cells;have qlt:=HQr.lt;have HSN:Hid (s<nS):=q9 hsn;clear hs hsn;go_wp2_with fail
    obtain⟨wA,rfl⟩:∃ w9:World,w9=wr:=⟨_,rfl⟩
    have HRI:Hid (FrIn wA l s (.bool true) (I 0) wA):=q9 ⟨Below.refl _ _,0,true,Nat.zero_le _,rfl,rfl,by simp⟩
    go_loopw [4,20] (fun ok i9 wr=>FrIn wA l s ok i9 wr) (fun _ i9 _=>n-(intOf i9).toNat)
    case atStart=>exact HRI.out
    case round=>
     clear HRI;obtain⟨hb,k,b,hk,rfl,rfl,hbk⟩:=hrel;have HBk:=q9 hb;have HBB:=q9 hbk;rw[HN.out] at hk;clear hb hbk
     by_cases hkn:k<n
     . obtain⟨x,hx⟩:∃ x,l[k]?=some x:=⟨_,Jh (by have:=HN.out;omega)⟩
       have hbs:Below w.heap.size w wr:=HB.trans (HBk.mono HB.size);obtain⟨g,cp9,e,_,glt,_,y0,y1,y2,y3,y4⟩:=(HO.below hbs).at hx;injection e with e1 e2 e3;subst e1 e3
       have kI:(k:Int)<(n:Int):=by omega
       have k0:(0:Int)<=(k:Int):=by omega
       have HTK:Hid (∀ x∈l.take (k+1),x.s≠s↔True)\/True:=.inr trivial
       have hnx:∀ b2:Bool,(b2=true↔b=true/\x.s≠s)->FrIn wA l s (.bool b2) (I ((k:Int)+1)) (wr.alloc (.cells #[I (x.s:Int),I (x.u:Int),I (x.v:Int),I (x.l:Int),.bool x.t] 67)):=fun b2 h2=>
        ⟨HBk.alloc HBk.size _,k+1,b2,by have:=HN.out;omega,by simp,rfl,by
         rw[h2,HBB.out,List.take_add_one,hx]
         constructor
         . rintro⟨h3,h4⟩ y hy
           rcases List.mem_append.1 hy with h5|h5
           . exact h3 y h5
           . rw[Option.toList_some,List.mem_singleton] at h5
             rw[h5];exact h4
         . exact fun h3=>⟨fun y hy=>h3 y (Ka _ hy),h3 x (Kb _ (by simp))⟩⟩
       have HNX:=q9 hnx;clear hx e2 hnx HTK hbs
       cases b with
       |false=>
        go_wp2_with fail
        exact⟨HNX.out false (by simp),by simp [intOf];omega⟩
       |true=>
        by_cases hs:x.s=s
        . have e3:((x.s:Int) !=(s:Int))=false:=by rw[hs];simp
          have HNY:=q9 (HNX.out false (by simp [hs]))
          clear hs;go_wp2_with fail
          exact⟨HNY.out,by simp [intOf];omega⟩
        . have e3:((x.s:Int) !=(s:Int))=true:=by
           simp only[bne_iff_ne,ne_eq];omega
          have HNY:=q9 (HNX.out true (by simp [hs]))
          clear hs;go_wp2_with fail
          exact⟨HNY.out,by simp [intOf];omega⟩
     . have ek:n=k:=by omega
       subst ek
       have kI:¬ (n:Int)<(n:Int):=by omega
       have HW:=q9 (HB.trans (HBk.mono HB.size))
       have hb9:b=true↔∀ x∈l,x.s≠s:=by rw[HBB.out,<-HN.out,List.take_length]
       have HB9:=q9 hb9;clear hk hkn hb9
       cases b with
       |true=>
        have HR9:Hid (FrI l (nS:Int) (s:Int)):=q9 (.inr ⟨s,rfl,sI,HB9.1 rfl⟩);go_wp2_with fail
        go_ret;exact⟨_,rfl,HR9,HW⟩
       |false=>
        have HR9:Hid (QpK w l nS (I ((s:Int)+1)) wr):=q9 ⟨HW.out,s+1,HSN.out,by simp,fun r hr=>by
         by_cases e:r=s
         . subst e
           have h1:¬ ∀ x∈l,x.s≠r:=fun h2=>by have:=HB9.2 h2;cases this
           exact Classical.byContradiction fun h2=>h1 fun x hx e=>h2 ⟨x,hx,e⟩
         . exact HALL r (by omega)⟩
        go_wp2_with fail
        exact⟨HR9.out,by have:=HSN.out;simp [intOf];omega⟩
  . have es:nS=s:=by omega
    subst es
    have kI:¬ (nS:Int)<(nS:Int):=by omega
    have HR9:Hid (FrI l (nS:Int) (-1)):=q9 (.inl ⟨rfl,fun r hr=>HALL.out r (by omega)⟩)
    clear hs hsn;go_wp2_with fail
    go_ret;exact⟨_,rfl,HR9,HB⟩
end
theorem Qou {w:World}{base:Nat}{v:Value}{gr:List (Option (Nat × Nat))}{e:Option (Nat × Nat)}{ops:Array Oper}{o:Oper}{a:Act}{K:Act->World->Prop}{Q:Exit->Act->World->Prop}{E:Prop}(hgd:o.guard=none)(s x:Operand)
 (ho:o.op=.call { callee:=.builtin .append,args:=#[s,x],argTypes:=#[102,102]})
 (hs:a.eval s=v) (h:GOW w base v gr) (ad:Addr) (c:Nat) (hv:a.eval x=.slice (some ad) 1 c) (hc:∀ (j:Nat) (u:Value),([I (end1 e),I (end2 e)]:List Value)[j]?=some u->w.cell? (ad.add j)=some u) (hl:gr.length<=10000) (hb:base<=w.heap.size)
 (hK:∀ v' w',GOW w' base v' (gr++[e])->w.grownBy w' v.ownBlock->K (a.put o.dst v') w'):
 if Region.wanted o (yielded ops a.tmps)=true then Oper.wp prog o a w K Q else E:=by
 have hw:Region.wanted o (yielded ops a.tmps)=true:=by simp [Region.wanted,hgd]
 rw[if_pos hw];obtain⟨v',w',hr,h2,h3⟩:=Qd3 h ad c hc hl hb o.type;unfold Oper.wp execOp;simp only[ho,resolve,invoke,builtin,Sem.run_bind,Sem.run_pure,Result.andThen_ok,List.map_toArray,List.map_cons,List.map_nil,hs,hv,hr];exact hK v' w' h2 h3
def gA (bs:List E1):List (Option (Nat × Nat)):=(aE bs).map fun e=>some e.2
theorem QpQ (bs:List E1):Lnk (gA bs) (posE ((aE bs).map Prod.snd) 0):=fun s a b=>by
 rw[Qcr];unfold gA;simp only[Nat.zero_le,true_and,Nat.sub_zero,List.getElem?_map]
 cases (aE bs)[s]?<;>simp
theorem QpP {bs:List E1}{u v:Nat}:Way (posE ((aE bs).map Prod.snd) 0) u v↔Way (aE bs) u v:=by
 constructor
 . refine Way.pairs fun s a b h=>?_
   obtain⟨_,h⟩:=Qcr.1 h;obtain⟨⟨s',c⟩,hm,e⟩:=List.mem_map.1 (Je h);have e':c=(a,b):=e;subst e';exact⟨s',hm⟩
 . refine Way.pairs fun s a b h=>?_
   obtain⟨j,hj⟩:=Kc (List.mem_map.2 ⟨_,h,rfl⟩:(a,b)∈(aE bs).map Prod.snd)
   exact⟨j,Qcr.2 ⟨Nat.zero_le _,by rw[Nat.sub_zero];exact hj⟩⟩
theorem QpB (bs:List E1)(x:E1):gA (bs++[x])=gA bs++[some (x.u,x.v)]:=by
 unfold gA aE;simp only[List.map_append,List.map_cons,List.map_nil]
theorem Qpn (bs:List E1):(gA bs).length=bs.length:=by unfold gA aE;simp
section
variable {w w' w0:World}{V:Int}{base u v9 i n:Nat}{v:Value}{l:List E1}{x:E1}
def Qpb (w0:World)(l:List E1)(g i:Value)(W:World):Prop:=Below w0.heap.size w0 W/\∃ k,k<=l.length/\i=I ((k:Nat):Int)/\GOW W w0.heap.size g (gA (l.take k))
theorem QoE (hO:EW w base v l)(hl:l.length<=1000)(hE:∀ x∈l,x.u<x.v/\(x.v:Int)<V)(hV:V<=100)(hu:(u:Int)<V):
 I0 17 #[v,I (u:Int),I (v9:Int)] w fun e w'=>∃ r,e=.returned (.bool r)/\(r=true↔Way (aE l) u v9)/\Below w.heap.size w w':=by
 obtain⟨av,ac,rfl⟩:=hO.slice;obtain⟨n,hn⟩:∃ n,l.length=n:=⟨_,rfl⟩;have HN:=q9 hn;have HO:=q9 hO;have HE:=q9 hE;rw[hn] at HO hl |-
 have nI:(n:Int)<=1000:=by omega
 have HRel:Hid (Qpb w l (.slice none 0 0) (I 0) w):=q9 ⟨Below.refl _ _,0,Nat.zero_le _,rfl,by exact GOW.nil _ _⟩
 clear hO hn hE
 go_enter func17,ntmps17
 go_wp2_with fail
 go_loopw [7,8] (fun g i9 wr=>Qpb w l g i9 wr) (fun _ i9 _=>n-(intOf i9).toNat)
 case atStart=>exact HRel.out
 case round=>
  clear HRel;obtain⟨hb,k,hk,rfl,hg⟩:=hrel;have HB:=q9 hb;have HG:=q9 hg;obtain⟨ag,cg,hsg⟩:=hg.slice;obtain⟨ng,hng⟩:∃ ng,(gA (l.take k)).length=ng:=⟨_,rfl⟩;have HNG:=q9 hng;rw[hng] at hsg;subst hsg;rw[HN.out] at hk
  have hngl:ng<=k:=by
   rw[<-HNG.out,Qpn,List.length_take];omega
  clear hb hg hng
  by_cases hkn:k<n
  . obtain⟨x,hx⟩:∃ x,l[k]?=some x:=⟨_,Jh (by have:=HN.out;omega)⟩
    have HTK:Hid (gA (l.take (k+1))=gA (l.take k)++[some (x.u,x.v)]):=q9 (by
     rw[List.take_add_one,hx];exact QpB _ _)
    have hd:Below wr.heap.size wr wr.drew:=Ja.drew;have HBd:=q9 (HB.trans (hd.mono HB.size));obtain⟨g,cp9,e,_,glt,_,y0,y1,y2,y3,y4⟩:=HO.at hx;injection e with e1 e2 e3;subst e1 e3
    have kI:(k:Int)<(n:Int):=by omega
    have k0:(0:Int)<=(k:Int):=by omega
    have HKN:Hid (k<n):=q9 hkn;have hgd9:GOW (wr.alloc (.cells #[I (x.u:Int),I (x.v:Int)] 107)).drew w.heap.size (.slice ag ng cg) (gA (l.take k)):=(HG.alloc _).drew;have HGB:=q9 hgd9;have HBB:=q9 (HB.alloc HB.size (.cells #[I (x.u:Int),I (x.v:Int)] 107)).drew
    have hn9:(gA (l.take k)).length<=10000:=by have:=HNG.out;omega
    have HY:=q9 (And.intro y1 y2);have d1:=Qi HBd.out y1;have d2:=Qi HBd.out y2;have glt2:g<wr.drew.heap.size:=Nat.lt_of_lt_of_le glt HBd.size;clear hx e2 hgd9 hd;go_wp2_with fail
    refine wp_region_held_drew (S:=(fun W=>W.cell? (I1 g (k*5+1))=some (I (x.u:Int))/\W.cell? (I1 g (k*5+2))=some (I (x.v:Int)))) (by kernel_rfl) ?_ (fun hHeld=>?_)
    . exact⟨d1,d2⟩
    refine q9N 0 rfl ?_
    refine q9N 1 rfl ?_
    refine q9N 2 rfl ?_
    refine q9N 3 rfl ?_
    refine q9N 4 rfl ?_
    refine q9N 5 rfl ?_
    refine q9N 6 rfl ?_
    refine q9N 7 rfl ?_
    refine q9N 8 rfl ?_
    refine q9N 9 rfl ?_
    refine q9N 10 rfl ?_
    refine q9N 11 rfl ?_
    refine q9R 12 rfl fun K hK=>?_
    go_simp
    refine hK.out _ _ ?_ (fun hHeld=>?_)
    . (try dsimp only);(first|(with_reducible exact⟨Qi HB5.out HY.out.1,Qi HB5.out HY.out.2⟩)|(with_reducible exact⟨Qi HBB.out HY.out.1,Qi HBB.out HY.out.2⟩)|(with_reducible exact⟨Qi HBd.out HY.out.1,Qi HBd.out HY.out.2⟩))
    clear hK K;try simp only[Act.put,q98]
    refine q9R 13 rfl fun K hK=>?_
    refine Qou (e:=some (x.u,x.v)) (by rfl) _ _ (by rfl) rfl HGB.out (I1 wr.heap.size 0) 1 (by rfl) (Qj8 (by simp) _ _) hn9 (Nat.le_trans HB.size (by simp)) ?_
    intro v5 w5 hG5 hg5
    have HB5:=q9 (HBB.grown hg5 HBB.size (fun r hr=>(HGB.lt r hr).1))
    have HG5:=q9 hG5;clear hG5 hg5
    refine hK.out _ _ ?_ (fun hHeld=>?_)
    . (try dsimp only);(first|(with_reducible exact⟨Qi HB5.out HY.out.1,Qi HB5.out HY.out.2⟩)|(with_reducible exact⟨Qi HBB.out HY.out.1,Qi HBB.out HY.out.2⟩)|(with_reducible exact⟨Qi HBd.out HY.out.1,Qi HBd.out HY.out.2⟩))
    clear hK K;try simp only[Act.put,q98]
    refine q9N 14 rfl ?_
    refine wpAnyH_done (by kernel_rfl) ?_ _
    clear glt2;go_wp2_with fail
    go_roundw
    case rel=>exact⟨HB5.out,k+1,by have:=HN.out;have:=HKN.out;omega,by simp,by rw[HTK.out];exact HG5⟩
    case measure=>have:=HKN.out;simp [intOf];omega
  . have ek:k=n:=by omega
    subst ek
    have kI:¬ (k:Int)<(k:Int):=by omega
    have HGJ:Hid (GJ wr (.slice ag ng cg) (gA l)):=q9 (by
     have h1:=HG.gj
     rwa [List.take_of_length_le (by have:=HN.out;omega)] at h1)
    have hgl:(gA l).length<=1000:=by rw[Qpn,HN.out];exact hl
    have HLT:Hid (∀ s a b,(s,a,b)∈posE ((aE l).map Prod.snd) 0->a<V.toNat/\b<V.toNat):=q9 fun s a b h=>by
     obtain⟨_,h⟩:=Qcr.1 h;obtain⟨⟨s',c⟩,hm,e⟩:=List.mem_map.1 (Je h);have e':c=(a,b):=e;subst e';obtain⟨y,hy,_,rfl,rfl⟩:=Qo5.1 hm;have:=HE.out y hy;omega
    clear hk hkn;go_wp2_with fail
    refine(QiJ (V:=V.toNat) (x:=u) HGJ hgl (QpQ l) (by omega) (by omega) HLT).mono ?_;rintro e w3 ⟨r,rfl,hr,hb3⟩
    go_wp2_with fail
    go_ret;exact⟨r,rfl,hr.trans QpP,HB.trans (hb3.mono HB.size)⟩
end
structure PW13 (w:World)(base q:Nat)(V S T:Int)(p gb cap m:Nat)(f:Nat->Int)(mk:Nat->Nat)(ts:List Tp)(v:Value)(l:List E1):Prop where
 pq:PB13 w q V S T p v
 ta:TA w V S T p gb cap m f mk ts
 ew:EW w base v l
 bq:base<=q
 bp:base<=p
 bg:base<=gb
def Kty (ty:TypeId):Prop:=ty≠118/\ty≠88/\ty≠61/\ty≠67
def Kbs (w w':World):Prop:=∀ (i:Nat) (ty:TypeId) (cs:Array Value),Blk w i ty cs->Kty ty->Blk w' i ty cs
abbrev vO13 (kd u v:Int):Value:=.agg #[I kd,I u,I v]
section
variable {w w' w0 w1:World}{base q p gb cap m m' ob:Nat}{V S T kd u v:Int}{f f':Nat->Int}{mk mk':Nat->Nat}{ts ts':List Tp}{vl vl':Value}{ls ls':List E1}
theorem Kbs.refl (w:World):Kbs w w:=fun _ _ _ h _=>h
theorem Kbs.trans (h:Kbs w w')(h2:Kbs w' w1):Kbs w w1:=fun i ty cs hz hk=>h2 i ty cs (h i ty cs hz hk) hk
theorem Kbs.below (hb:Below w.heap.size w w'):Kbs w w':=fun _ _ _ h _=>h.below hb h.lt
theorem Kbs.ta (A:TA w V S T p gb cap m f mk ts)(ho:Only p gb w w'):Kbs w w':=fun _ _ _ h hk=>Blk.ta h A ho hk.1 hk.2.1
theorem Kbs.set {r j:Nat}{ty:TypeId}{cs:Array Value}(hr:Blk w r ty cs)(hk:¬ Kty ty)(v:Value):Kbs w (w.setCell (I1 r j) v):=fun _ _ _ h hk'=>Blk.far (p:=(I1 r j)) h (Blk.ne_ h hr (fun e=>hk (e ▸ hk'))) v
theorem QiH:Kty 33:=by unfold Kty;decide
theorem QgM:¬ Kty 61:=fun h=>h.2.2.1 rfl
theorem PW13.below (h:PW13 w base q V S T p gb cap m f mk ts vl ls)(hb:Below w.heap.size w w'):PW13 w' base q V S T p gb cap m f mk ts vl ls:=⟨h.pq.below hb,h.ta.below hb,h.ew.below hb,h.bq,h.bp,h.bg⟩
theorem PW13.next (h:PW13 w base q V S T p gb cap m f mk ts vl ls)(hm:TA w' V S T p gb cap m' f' mk' ts')(ho:Only p gb w w'):PW13 w' base q V S T p gb cap m' f' mk' ts' vl ls:=⟨Blk.ta h.pq h.ta ho (by decide) (by decide),hm,h.ew.ta h.ta ho,h.bq,h.bp,h.bg⟩
theorem PW13.more (h:PW13 w base q V S T p gb cap m f mk ts vl ls)(hm:m<=m'):PW13 w base q V S T p gb cap m' f mk ts vl ls:=⟨h.pq,h.ta.more hm,h.ew,h.bq,h.bp,h.bg⟩
theorem PW13.size (h:PW13 w base q V S T p gb cap m f mk ts vl ls):base<=w.heap.size:=Nat.le_of_lt (Nat.lt_of_le_of_lt h.bq h.pq.lt)
theorem PW13.list (h:PW13 w base q V S T p gb cap m f mk ts vl ls)(hO:EW w base vl' ls'):PW13 (w.setCell (I1 q 14) vl') base q V S T p gb cap m f mk ts vl' ls':=by
 refine⟨?_,h.ta.far h.pq (by decide) (by decide) _,?_,h.bq,h.bp,h.bg⟩
 . exact Blk.set_ h.pq 14 vl'
 . refine hO.kept_of fun i hi=>?_
   rcases hO.shape with ⟨rfl,rfl⟩|⟨g,c,cs,rfl,hg,hz,_⟩
   . cases hi
   . have e:g=i:=by injection hi
     subst e
     exact(hz.far (p:=(I1 q 14)) (Blk.ne_ hz h.pq (by decide)) _).trans hz.symm
def KxE (w0 W:World)(q p gb:Nat):Prop:=∀ i,i<w0.heap.size->i≠q->i≠p->i≠gb->(∀ v0,w0.cell? (I1 q 14)=some v0->v0.ownBlock≠some i)->W.heap[i]?=w0.heap[i]?
def KoE (w0:World)(q:Nat)(vl:Value):Prop:=∀ k v0,w0.cell? (I1 q 14)=some v0->vl.ownBlock=some k->v0.ownBlock=some k\/w0.heap.size<=k
structure PX13 (w0 W:World)(base q:Nat)(V S T:Int)(p gb cap m:Nat)(f:Nat->Int)(mk:Nat->Nat)(ts:List Tp)(vl:Value)(ls:List E1):Prop where
 pw:PW13 W base q V S T p gb cap m f mk ts vl ls
 be:Below base w0 W
 kb:Kbs w0 W
 kx:KxE w0 W q p gb
 ko:KoE w0 q vl
theorem PX13.start (h:PW13 w base q V S T p gb cap m f mk ts vl ls):PX13 w w base q V S T p gb cap m f mk ts vl ls:=⟨h,Below.refl _ _,Kbs.refl _,fun _ _ _ _ _ _=>rfl,fun k v0 h0 hk=>by
 have h1:=h.pq.cells.2.2.2.2.2.2.2.2.2.2.2.2.2.2;rw[h1] at h0;injection h0 with h0;exact .inl (h0 ▸ hk)⟩
theorem PX13.below (h:PX13 w0 w base q V S T p gb cap m f mk ts vl ls)(hb:Below w.heap.size w w'):PX13 w0 w' base q V S T p gb cap m f mk ts vl ls:=⟨h.pw.below hb,h.be.trans (hb.mono h.pw.size),h.kb.trans (.below hb),fun i hi h1 h2 h3 h4=>(hb.block i (Nat.lt_of_lt_of_le hi h.be.size)).trans (h.kx i hi h1 h2 h3 h4),h.ko⟩
theorem PX13.drew (h:PX13 w0 w base q V S T p gb cap m f mk ts vl ls):PX13 w0 w.drew base q V S T p gb cap m f mk ts vl ls:=h.below Ja.drew
theorem PX13.alloc (h:PX13 w0 w base q V S T p gb cap m f mk ts vl ls)(o:Obj):PX13 w0 (w.alloc o) base q V S T p gb cap m f mk ts vl ls:=h.below (Ja.alloc Jb o)
theorem PX13.next (h:PX13 w0 w base q V S T p gb cap m f mk ts vl ls)(hm:TA w' V S T p gb cap m' f' mk' ts')(ho:Only p gb w w'):PX13 w0 w' base q V S T p gb cap m' f' mk' ts' vl ls:=
 ⟨h.pw.next hm ho,Only.below h.be ho h.pw.size h.pw.bp h.pw.bg,h.kb.trans (.ta h.pw.ta ho),fun i hi h1 h2 h3 h4=>(ho.block i (Nat.lt_of_lt_of_le hi h.be.size) h2 h3).trans (h.kx i hi h1 h2 h3 h4),h.ko⟩
theorem PX13.more (h:PX13 w0 w base q V S T p gb cap m f mk ts vl ls)(hm:m<=m'):PX13 w0 w base q V S T p gb cap m' f mk ts vl ls:=⟨h.pw.more hm,h.be,h.kb,h.kx,h.ko⟩
theorem PX13.list (h:PX13 w0 w base q V S T p gb cap m f mk ts vl ls)(hO:EW w base vl' ls')(hk:∀ k,vl'.ownBlock=some k->w0.heap.size<=k):PX13 w0 (w.setCell (I1 q 14) vl') base q V S T p gb cap m f mk ts vl' ls':=⟨h.pw.list hO,h.be.setCell h.pw.bq _,h.kb.trans (.set h.pw.pq QgM _),fun i hi h1 h2 h3 h4=>(Below.heap_setCell w (I1 q 14) _ i h1).trans (h.kx i hi h1 h2 h3 h4),fun k _ _ hk1=>.inr (hk k hk1)⟩
theorem PW13.first_cell (h:PW13 w base q V S T p gb cap m f mk ts vl ls)(o:Obj){v0:Value}(hv0:(w.alloc o).cell? (I1 q 14)=some v0):w.cell? (I1 q 14)=some v0:=by
 have h1:=(h.pq.below (Ja.alloc Jb o)).cells.2.2.2.2.2.2.2.2.2.2.2.2.2.2;rw[h1] at hv0;injection hv0 with hv0;rw[<-hv0];exact h.pq.cells.2.2.2.2.2.2.2.2.2.2.2.2.2.2
theorem PW13.cell_first (h:PW13 w base q V S T p gb cap m f mk ts vl ls)(o:Obj){v0:Value}(hv0:w.cell? (I1 q 14)=some v0):(w.alloc o).cell? (I1 q 14)=some v0:=by
 have h1:=h.pq.cells.2.2.2.2.2.2.2.2.2.2.2.2.2.2;rw[h1] at hv0;injection hv0 with hv0;rw[<-hv0];exact(h.pq.below (Ja.alloc Jb o)).cells.2.2.2.2.2.2.2.2.2.2.2.2.2.2
theorem PX13.first (h:PW13 w base q V S T p gb cap m f mk ts vl ls)(o:Obj)(h2:PX13 (w.alloc o) w' base q V S T p gb cap m' f' mk' ts' vl' ls'):PX13 w w' base q V S T p gb cap m' f' mk' ts' vl' ls':=
 ⟨h2.pw,((Below.refl base w).alloc h.size o).trans h2.be,(Kbs.below (Ja.alloc Jb o)).trans h2.kb,fun i hi h1 h3 h4 h5=>(h2.kx i (Nat.lt_of_lt_of_le hi ((Below.refl w.heap.size w).alloc Jb o).size) h1 h3 h4 fun v0 hv0=>h5 v0 (h.first_cell o hv0)).trans (Below.heap_alloc w o i hi),fun k v0 h0 hk=>(h2.ko k v0 (h.cell_first o h0) hk).imp id fun h3=>Nat.le_trans ((Below.refl w.heap.size w).alloc Jb o).size h3⟩
theorem PX13.appended {v5:Value}{ls5:List E1}(h:PX13 w0 w base q V S T p gb cap m f mk ts vl ls)(hg:w.grownBy w' vl.ownBlock)(hO:EW w' base v5 ls5)(h0:w0.cell? (I1 q 14)=some vl)(hk5:v5.ownBlock=vl.ownBlock\/v5.ownBlock=some w.heap.size):
 PB13 w' q V S T p vl/\PX13 w0 (w'.setCell (I1 q 14) v5) base q V S T p gb cap m f mk ts v5 ls5/\Kbs w0 w':=by
 have hr:=h.pw.ew.own
 have kp:∀ {i:Nat} {ty:TypeId} {cs:Array Value},Blk w i ty cs->ty≠67->Blk w' i ty cs:=fun {i ty cs} hz ht=>(hg.block i hz.lt fun e=>by
  obtain⟨_,cs',hz'⟩:=hr i e.symm;exact Blk.ne_ hz hz' ht rfl).trans hz
 have no:∀ {i:Nat} {ty:TypeId} {cs:Array Value},Blk w i ty cs->ty≠67->vl.ownBlock≠some i:=fun {i ty cs} hz ht e=>by
  obtain⟨_,cs',hz'⟩:=hr i e;exact Blk.ne_ hz hz' ht rfl
 have pq:=kp h.pw.pq (by decide)
 obtain⟨f9,hR,c,A,C⟩:=h.pw.ta.em;obtain⟨zs,hz,he⟩:=A.cells
 have ta:=h.pw.ta.grown hg (no A.own (by decide)) (no hz (by decide))
 have kb1:Kbs w0 w':=h.kb.trans fun i ty cs hz hk=>kp hz hk.2.2.2
 refine⟨pq,⟨⟨Blk.set_ pq 14 v5,ta.far pq (by decide) (by decide) _,?_,h.pw.bq,h.pw.bp,h.pw.bg⟩,(h.be.grown hg h.pw.size fun i hi=>(hr i hi).1).setCell h.pw.bq _,kb1.trans (.set pq QgM _),fun i hi h1 h2 h3 h4=>?_,fun k v0 h1 h2=>?_⟩,kb1⟩
 . refine hO.kept_of fun i hi=>?_
   obtain⟨_,cs,hz⟩:=hO.own i hi
   exact(hz.far (p:=(I1 q 14)) (Blk.ne_ hz pq (by decide)) _).trans hz.symm
 . exact(Below.heap_setCell w' (I1 q 14) _ i h1).trans ((hg.block i (Nat.lt_of_lt_of_le hi h.be.size) fun e=>h4 vl h0 e.symm).trans (h.kx i hi h1 h2 h3 h4))
 . rw[h0] at h1;injection h1 with h1
   subst h1
   rcases hk5 with e|e
   . exact .inl (e ▸ h2)
   . rw[e] at h2;injection h2 with h2
     exact .inr (h2 ▸ h.be.size)
def QhM (w:World)(ob:Nat)(kd u v:Int):Prop:=Blk w ob 33 #[I kd,I u,I v]
structure SQ13 (W:World)(ob q p:Nat)(V S T:Int)(vl:Value)(kd u v:Int):Prop where
 fo:QhM W ob kd u v
 fq:PB13 W q V S T p vl
theorem PX13.sq (h:PX13 w0 w base q V S T p gb cap m f mk ts vl ls)(ho:QhM w0 ob kd u v):SQ13 w ob q p V S T vl kd u v:=⟨h.kb _ _ _ ho QiH,h.pw.pq⟩
theorem SQ13.rule (ob q p:Nat)(V S T:Int)(vl:Value)(kd u v:Int):∀ W:World,SQ13 W ob q p V S T vl kd u v->
 (W.cell? (I1 ob 0)=some (I kd)/\W.cell? (I1 ob 1)=some (I u)/\W.cell? (I1 ob 2)=some (I v))/\(W.cell? (I1 q 0)=some (I V)/\W.cell? (I1 q 1)=some (I S)/\W.cell? (I1 q 2)=some (I T)/\W.cell? (I1 q 3)=some (.pointer (some (I1 p 0)))/\W.cell? (I1 q 4)=some (I V)/\W.cell? (I1 q 5)=some (I S)/\W.cell? (I1 q 6)=some (I T)/\W.cell? (I1 q 7)=some (I4 p)/\W.cell? (I1 q 8)=some (I 1)/\W.cell? (I1 q 9)=some (I 0)/\W.cell? (I1 q 10)=some (I V)/\W.cell? (I1 q 11)=some (I S)/\W.cell? (I1 q 12)=some (I T)/\W.cell? (I1 q 13)=some (I4 p)/\W.cell? (I1 q 14)=some (vl)):=
 fun _ h=>⟨⟨Blk.cell h.fo 0,Blk.cell h.fo 1,Blk.cell h.fo 2⟩,h.fq.cells⟩
theorem SQ13.lt {W:World}(h:SQ13 W ob q p V S T vl kd u v):ob<W.heap.size/\q<W.heap.size:=⟨Blk.lt h.fo,h.fq.lt⟩
end
section
variable {w:World}{s a b l:Int}{t:Bool}
abbrev Qea (s a b l:Int)(t:Bool):Value:=.agg #[I s,I a,I b,I l,.bool t]
theorem QlC:(Instr.build 67 #[(0,I s),(1,I a),(2,I b)]).run prog w=.ok (Qea s a b 0 false) w:=by kernel_rfl
theorem QjS:(Instr.buildSlice 59 1 #[(0,Qea s a b l t)]).run prog w=.ok (I3 (I1 w.heap.size 0) 1 1) (w.alloc (.cells #[I s,I a,I b,I l,.bool t] 67)):=by kernel_rfl
theorem QgQ {ρ:Operand->Value}{oi:Oper}{x y z:Operand}(hop:oi.op=.build 67 #[(0,x),(1,y),(2,z)])(hx:ρ x=I s)(hy:ρ y=I a)(hz:ρ z=I b):(execOp ρ oi).run prog w=.ok (.value (Qea s a b 0 false)) w:=by
 unfold execOp;rw[hop];simp only[List.map_toArray,List.map_cons,List.map_nil,hx,hy,hz,Sem.run_bind,Sem.run_pure,QlC,Result.andThen_ok]
theorem Qfb {ops:Array Oper}{o:Oper}{a9:Act}{K:Act->World->Prop}{Q:Exit->Act->World->Prop}{E:Prop}{x:Operand}(hgd:o.guard=none)
 (ho:o.op=.buildSlice 59 1 #[(0,x)]) (hx:a9.eval x=Qea s a b l t)
 (hK:K (a9.put o.dst (I3 (I1 w.heap.size 0) 1 1)) (w.alloc (.cells #[I s,I a,I b,I l,.bool t] 67))):
 if Region.wanted o (yielded ops a9.tmps)=true then Oper.wp prog o a9 w K Q else E:=by
 have hw:Region.wanted o (yielded ops a9.tmps)=true:=by simp [Region.wanted,hgd]
 rw[if_pos hw];unfold Oper.wp execOp;simp only[ho,List.map_toArray,List.map_cons,List.map_nil,hx,Sem.run_bind,Sem.run_pure,QjS,Result.andThen_ok];exact hK
end
def Qd4 (V S T:Int)(dl ol:Nat):Bool:=rtB V S T && decide (V<=8) && decide (S<=12) && decide (dl<=60) && decide (ol<=40)
structure RH13 (V S T:Int)(dl ol:Nat):Prop where
 r:Rt V S T
 v:V<=8
 s:S<=12
 d:dl<=60
 o:ol<=40
theorem Qif {V S T:Int}{dl ol:Nat}(h:Qd4 V S T dl ol=true):RH13 V S T dl ol:=by
 unfold Qd4 at h;simp only[Bool.and_eq_true,decide_eq_true_eq] at h;exact⟨QlD h.1.1.1.1,h.1.1.1.2,h.1.1.2,h.1.2,h.2⟩
abbrev vC13 (V S T:Int)(da:Option Addr)(dl dc:Nat)(oa:Option Addr)(ol oc:Nat):Value:=.agg #[I V,I S,I T,.slice da dl dc,.slice oa ol oc]
theorem Qfl (V S T:Int)(w:World):
 I0 26 #[vL V S T] w fun e w'=>e=.returned (vL V S T)/\Below w.heap.size w w':=by
 go_enter func26,ntmps26
 go_wp2_with fail
 exact bodyPost_ret (v:=vL V S T) (by simp [results,Tryz.results26,go_sem]) rfl ⟨rfl,Jc.alloc (by simp) _⟩
theorem Qf3 (V S T:Int)(da:Option Addr)(dl dc:Nat)(oa:Option Addr)(ol oc:Nat)(w:World):
 I0 9 #[vC13 V S T da dl dc oa ol oc] w fun e w'=>e=.returned (.bool (Qd4 V S T dl ol))/\Below w.heap.size w w':=by
 have HB:Hid (Below w.heap.size w (w.alloc (.cells #[I V,I S,I T,.slice da dl dc,.slice oa ol oc] 27))):=q9 Jc;have HZ:Hid (Blk (w.alloc (.cells #[I V,I S,I T,.slice da dl dc,.slice oa ol oc] 27)) w.heap.size 27 #[I V,I S,I T,.slice da dl dc,.slice oa ol oc]):=q9 (Blk.new _ _ _)
 go_enter func9,ntmps9
 go_wp2_with fail
 generalize w.heap.size=zb at HZ |-;generalize w.alloc (.cells #[I V,I S,I T,.slice da dl dc,.slice oa ol oc] 27)=W1 at HZ HB |-;refine(Qfl V S T _).mono ?_;rintro e w1 ⟨rfl,hb1⟩;have HBa:=q9 (HB.trans (hb1.mono HB.size));have HZa:=q9 (HZ.below hb1 HZ.lt);clear HB HZ hb1;go_wp2_with fail
 refine(Qhe V S T _).mono ?_;rintro e w2 ⟨rfl,hb2⟩;have HB2:=q9 (HBa.trans (hb2.mono HBa.size));have HZ2:=HZa.below hb2 HZa.lt;have z0:=HZ2.cell 0;have z1:=HZ2.cell 1;have z3:=HZ2.cell 3;have z4:=HZ2.cell 4;have zlt:=HZ2.lt;clear HZa HBa hb2 HZ2
 cases h1:rtB V S T
 . go_wp2_with fail
   go_ret
   exact⟨by unfold Qd4;rw[h1];rfl,HB2.out⟩
 by_cases h2:V<=8
 . by_cases h3:S<=12
   . by_cases h4:dl<=60
     . have h4i:(dl:Int)<=60:=by omega
       by_cases h5:ol<=40
       . have h5i:(ol:Int)<=40:=by omega
         go_wp2_with fail
         go_ret
         exact⟨by unfold Qd4;rw[h1,decide_eq_true h2,decide_eq_true h3,decide_eq_true h4,decide_eq_true h5];rfl,HB2.out⟩
       . have h5i:¬ (ol:Int)<=40:=by omega
         have h5d:decide ((ol:Int)<=40)=false:=decide_eq_false h5i;go_wp2_with fail
         go_ret
         exact⟨by unfold Qd4;rw[h1,decide_eq_true h2,decide_eq_true h3,decide_eq_true h4,decide_eq_false h5];rfl,HB2.out⟩
     . have h4i:¬ (dl:Int)<=60:=by omega
       go_wp2_with fail
       go_ret
       exact⟨by unfold Qd4;rw[h1,decide_eq_true h2,decide_eq_true h3,decide_eq_false h4];rfl,HB2.out⟩
   . go_wp2_with fail
     go_ret
     exact⟨by unfold Qd4;rw[h1,decide_eq_true h2,decide_eq_false (by omega)];rfl,HB2.out⟩
 . go_wp2_with fail
   go_ret
   exact⟨by unfold Qd4;rw[h1,decide_eq_false (by omega)];rfl,HB2.out⟩
def Qhh (V:Int)(L n:Nat):List (List Nat):=(List.range n).map fun v=>[Xn V L v]
def gr0 (S:Int):List (Option (Nat × Nat)):=List.replicate S.toNat none
section
variable {V S T:Int}{L s u:Nat}
theorem Qh7 {k x:Nat}(h1:1<=x)(h2:x<=k):sgl x∈sing k:=by
 unfold sing
 exact List.mem_map.2 ⟨x,List.mem_range'.2 ⟨x-1,by omega,by omega⟩,rfl⟩
theorem Qhg (V:Int)(L n:Nat):(Qhh V L n).flatten=(List.range n).map (Xn V L):=by
 unfold Qhh
 induction List.range n with
 |nil=>rfl
 |cons x l ih=>simp only[List.map_cons,List.flatten_cons,ih];rfl
theorem QjU {n:Nat}(h:u<n):(Qhh V L n)[u]?=some [Xn V L u]:=by
 unfold Qhh;rw[List.getElem?_map,List.getElem?_range h];rfl
theorem Lv.zero (hR:Rt V S T)(hL:(L:Int)<lv V):Lv V S L (sing (nN V S)) (Qhh V L V.toNat) (gr0 S):=by
 refine⟨⟨(List.range V.toNat).map fun v=>([Xn V L v],[]),by simp [Qhh,Function.comp_def],fun p hp=>?_,fun s a b=>?_⟩,fun r hr=>?_,?_,fun u hu=>?_,fun s hs hg d hd=>?_,by simp [gr0]⟩
 . obtain⟨v,_,rfl⟩:=List.mem_map.1 hp
   exact .one v
 . constructor
   . intro h
     obtain⟨p,hp,hm⟩:=List.mem_flatMap.1 h;obtain⟨v,_,rfl⟩:=List.mem_map.1 hp;simp at hm
   . intro h
     unfold gr0 at h;rw[List.getElem?_replicate] at h
     split at h
     . cases h
     . cases h
 . obtain⟨v,hv,rfl⟩:=List.mem_map.1 hr
   have hv':=List.mem_range.1 hv
   have hvI:(v:Int)<V:=by omega
   have:=QaG hR hL hvI
   exact⟨sgl (Xn V L v),by rw[QbP hvI];exact Qh7 this.1 this.2.1,rfl⟩
 . rw[Qhg]
   have hn:(List.range V.toNat).Nodup:=List.nodup_range;unfold List.Nodup at hn |-;rw[List.pairwise_map]
   exact hn.imp fun hne e=>hne (Qeu hR hL _ _ e)
 . exact⟨[Xn V L u],Je (QjU (u:=u) (by omega)),by simp⟩
 . have:=Qa4 hR hL hs hd
   exact⟨sgl (An V S L s d),by rw[QcI hs hd];exact Qh7 this.1 this.2.1,rfl⟩
end
section
variable {V S T:Int}
theorem LQ.nil (hR:Rt V S T):LQ V S T QcJ fun _ _=>[]:=
 ⟨fun _ _ _=>rfl,fun _ _ _ _=>⟨rfl,0,rfl,rfl⟩,fun _ _=>List.nodup_nil,fun _ _ _ h=>(nomatch h),fun _ _ _ _ _ h=>(nomatch h),fun _ _ _=>⟨0,0,rfl,by have:=hR.s1;omega,rfl,by have:=hR.s1;omega⟩,fun x _ _ _ y hy e=>by
  have e:(0:Int)=(y:Int):=e;omega⟩
theorem MQ.nil:MQ V (fun _=>0) fun _ _=>[]:=fun _ _ _ _=>(show hasB 0 0=false by decide).trans (by simp)
theorem LK.nil:LK (fun _ _=>[]) []:=fun _ _ _=>by simp
theorem Lvs.zero (hR:Rt V S T):Lvs V S (sing (nN V S)) fun _=>gr0 S:=fun _ hL=>⟨_,Lv.zero hR hL⟩
theorem Qnl (k:Nat)(x:Nat × Nat):(gr0 S)[k]?≠some (some x):=by
 unfold gr0;rw[List.getElem?_replicate]
 split<;>simp
theorem LG.zero (hR:Rt V S T):LG V S T QcJ (fun _=>0) (sing (nN V S)) [] fun _ _=>[]:=by
 have h0:hasB 0 0=false:=by decide
 have h1:hasB 0 1=false:=by decide
 refine⟨ER.nil fun _=>rfl,LQ.nil hR,MQ.nil,LK.nil,⟨_,Lvs.zero hR,fun L hL s a b=>?_⟩,fun L s d _ _ _=>⟨?_,h0⟩,fun _ _ _ _=>h1⟩
 . constructor
   . intro h;simp [tE] at h
   . intro h;exact absurd h (Qnl _ _)
 . show hasB 0 1=true↔_
   rw[h1];simp
end
theorem QiG (b:Nat)(V S T:Int):∀ W:World,Blk W b 23 #[I V,I S,I T]->W.cell? (I1 b 0)=some (I V)/\W.cell? (I1 b 1)=some (I S)/\W.cell? (I1 b 2)=some (I T):=fun _ h=>⟨h.cell 0,h.cell 1,h.cell 2⟩
structure B0L (w0 W:World)(zb l3:Nat)(V S T:Int)(p gb m:Nat)(g:Mg9)(vc:Array Value):Prop where
 z:Blk W zb 27 vc
 l:Blk W l3 23 #[I V,I S,I T]
 tm:TM W V S T p gb (QaT V S T) m g
 be:Below w0.heap.size w0 W
 kp:w0.heap.size<=p
 kg:w0.heap.size<=gb
structure BNL (w0 W:World)(zb l3 tb:Nat)(V S T:Int)(p gb m:Nat)(g:Mg9)(vc:Array Value):Prop where
 b:B0L w0 W zb l3 V S T p gb m g vc
 t:Blk W tb 48 #[I V,I S,I T,I4 p,I 1,I 0]
section
variable {w w' W w0:World}{V S T:Int}{zb l3 tb p gb m m':Nat}{g g':Mg9}{vc:Array Value}
theorem B0L.below (h:B0L w0 w zb l3 V S T p gb m g vc)(hb:Below w.heap.size w w'):B0L w0 w' zb l3 V S T p gb m g vc:=⟨h.z.below hb h.z.lt,h.l.below hb h.l.lt,h.tm.below hb,h.be.trans (hb.mono h.be.size),h.kp,h.kg⟩
theorem B0L.drew (h:B0L w0 w zb l3 V S T p gb m g vc):B0L w0 w.drew zb l3 V S T p gb m g vc:=h.below Ja.drew
theorem B0L.alloc (h:B0L w0 w zb l3 V S T p gb m g vc)(o:Obj):B0L w0 (w.alloc o) zb l3 V S T p gb m g vc:=h.below Jc
theorem B0L.made (h:B0L w0 w zb l3 V S T p gb m g vc):BNL w0 (w.alloc (I5 V S T p)) zb l3 w.heap.size V S T p gb m g vc:=⟨h.alloc _,Blk.new _ _ _⟩
theorem B0L.set1 {cs:Array Value}(h:B0L w0 w zb l3 V S T p gb m g vc)(hq:Blk w tb 48 cs)(hb:w0.heap.size<=tb)(i:Nat)(u:Value):B0L w0 (w.setCell (I1 tb i) u) zb l3 V S T p gb m g vc:=
 ⟨Blk.far (p:=(I1 tb i)) h.z (Blk.ne_ h.z hq (by decide)) u,Blk.far (p:=(I1 tb i)) h.l (Blk.ne_ h.l hq (by decide)) u,h.tm.far hq (by decide) (by decide) u,h.be.setCell hb u,h.kp,h.kg⟩
theorem B0L.store {c0 c1 c2 c3 c4 c5:Value}(h:B0L w0 w zb l3 V S T p gb m g vc)(hq:Blk w tb 48 #[c0,c1,c2,c3,c4,c5])(hb:w0.heap.size<=tb):BNL w0 ((((((w.setCell (I1 tb 0) (I V)).setCell (I1 tb 1) (I S)).setCell (I1 tb 2) (I T)).setCell (I1 tb 3) (I4 p)).setCell (I1 tb 4) (I 1)).setCell (I1 tb 5) (I 0)) zb l3 tb V S T p gb m g vc:=by
 have k0:=hq.set_ 0 (I V);have k1:=k0.set_ 1 (I S);have k2:=k1.set_ 2 (I T);have k3:=k2.set_ 3 (I4 p);have k4:=k3.set_ 4 (I 1);have k5:=k4.set_ 5 (I 0);have h0:=h.set1 hq hb 0 (I V);have h1:=h0.set1 k0 hb 1 (I S);have h2:=h1.set1 k1 hb 2 (I T);have h3:=h2.set1 k2 hb 3 (I4 p);have h4:=h3.set1 k3 hb 4 (I 1);exact⟨h4.set1 k4 hb 5 (I 0),k5⟩
theorem BNL.below (h:BNL w0 w zb l3 tb V S T p gb m g vc)(hb:Below w.heap.size w w'):BNL w0 w' zb l3 tb V S T p gb m g vc:=⟨h.b.below hb,h.t.below hb h.t.lt⟩
theorem BNL.drew (h:BNL w0 w zb l3 tb V S T p gb m g vc):BNL w0 w.drew zb l3 tb V S T p gb m g vc:=h.below Ja.drew
theorem BNL.only (h:BNL w0 w zb l3 tb V S T p gb m g vc)(A:TM w' V S T p gb (QaT V S T) m' g')(ho:Only p gb w w'):BNL w0 w' zb l3 tb V S T p gb m' g' vc:=
 ⟨⟨Blk.treap h.b.z h.b.tm ho (by decide) (by decide),h.b.l.treap h.b.tm ho (by decide) (by decide),A,Only.below h.b.be ho h.b.be.size h.b.kp h.b.kg,h.b.kp,h.b.kg⟩,h.t.treap h.b.tm ho (by decide) (by decide)⟩
theorem BNL.more (h:BNL w0 w zb l3 tb V S T p gb m g vc)(hm:m<=m'):BNL w0 w zb l3 tb V S T p gb m' g vc:=⟨⟨h.b.z,h.b.l,h.b.tm.more hm,h.b.be,h.b.kp,h.b.kg⟩,h.t⟩
def QnH (w0:World)(zb l3 tb:Nat)(V S T:Int)(p gb:Nat)(vc:Array Value)(i:Value)(W:World):Prop:=
 ∃ x g,1<=x/\x<=nN V S+1/\i=I ((x:Nat):Int)/\BNL w0 W zb l3 tb V S T p gb (10*(x-1)) g vc/\(∀ y,1<=y->y<x->Q7 (vxN V) (fun _=>0) g (sgl y))/\∀ y k,nN V S<y->g y k=0
end
def QcH (W:World)(lb tb:Nat)(V S T:Int)(p:Nat):Prop:=Blk W lb 23 #[I V,I S,I T]/\Blk W tb 48 #[I V,I S,I T,I4 p,I 1,I 0]
section
variable {w w' w0:World}{lb tb p gb m zb:Nat}{V S T:Int}{g:Mg9}
theorem QcH.below (h:QcH w lb tb V S T p)(hb:Below w.heap.size w w'):QcH w' lb tb V S T p:=⟨h.1.below hb h.1.lt,h.2.below hb h.2.lt⟩
theorem QcH.rule (lb tb:Nat)(V S T:Int)(p:Nat):∀ W:World,QcH W lb tb V S T p->(W.cell? (I1 lb 0)=some (I V)/\W.cell? (I1 lb 1)=some (I S)/\W.cell? (I1 lb 2)=some (I T))/\
 (W.cell? (I1 tb 0)=some (I V)/\W.cell? (I1 tb 1)=some (I S)/\W.cell? (I1 tb 2)=some (I T)/\W.cell? (I1 tb 3)=some (I4 p)/\W.cell? (I1 tb 4)=some (I 1)/\W.cell? (I1 tb 5)=some (I 0)):=fun _ h=>⟨⟨h.1.cell 0,h.1.cell 1,h.1.cell 2⟩,⟨h.2.cell 0,h.2.cell 1,h.2.cell 2,h.2.cell 3,h.2.cell 4,h.2.cell 5⟩⟩
theorem QcH.lt (h:QcH w lb tb V S T p):lb<w.heap.size/\tb<w.heap.size:=⟨h.1.lt,h.2.lt⟩
theorem BNL.bs {vc:Array Value}(h:BNL w0 w zb lb tb V S T p gb m g vc):QcH w lb tb V S T p:=⟨h.b.l,h.t⟩
end
def Qof (V S T:Int)(w:World)(e:Ending)(w':World):Prop:=
 ∃ q p gb,e=.returned (.pointer (some (I1 q 0)))/\PW13 w' w.heap.size q V S T p gb (QaT V S T) (10*nN V S) QcJ (fun _=>0) (sing (nN V S)) (.slice none 0 0) []/\Below w.heap.size w w'
section
variable {w:World}{V S T:Int}{da:Option Addr}{dl dc:Nat}{vo:Value}{f:Nat->Nat}
theorem Qmk {W:World}{b o:Nat}{v:Value}(h:W.cell? (I1 b o)=some v):b<W.heap.size:=by
 rcases Nat.lt_or_ge b W.heap.size with h1|h1
 . exact h1
 . exfalso
   unfold World.cell? at h;rw[Array.getElem?_eq_none h1] at h
   cases h
theorem QdR (hR:Rt V S T)(hD:QfW w da dl f)(hdl:dl<=60)(v8:V<=8)(s8:S<=12):
 I0 11 #[.agg #[I V,I S,I T,.slice da dl dc,vo]] w (Qof V S T w):=by
 have HR:=q9 hR;have HD:=q9 hD;have hn560:=Ql hR;have HDL:=q9 hdl;have HV8:=q9 (And.intro v8 s8);have hS0:=hR.s1;have hV0:=hR.v1;clear hR hD
 go_enter func11,ntmps11
 go_wp2_with fail
 have HZ:Hid (Blk ((w.alloc (.cells #[I V,I S,I T,.slice da dl dc,vo] 27)).alloc (.cells #[I V,I S,I T] 23)) w.heap.size 27 #[I V,I S,I T,.slice da dl dc,vo]):=q9 ((Blk.new _ _ _).alloc _);have HL:Hid (Blk ((w.alloc (.cells #[I V,I S,I T,.slice da dl dc,vo] 27)).alloc (.cells #[I V,I S,I T] 23)) (w.heap.size+1) 23 #[I V,I S,I T]):=q9 (Q8 w _ _ _ _)
 have HB:Hid (Below w.heap.size w ((w.alloc (.cells #[I V,I S,I T,.slice da dl dc,vo] 27)).alloc (.cells #[I V,I S,I T] 23))):=q9 (Jc.alloc (by simp) _)
 generalize w.heap.size+1=l3 at HL |-;generalize hzb:w.heap.size=zb at HZ |-;generalize (w.alloc (.cells #[I V,I S,I T,.slice da dl dc,vo] 27)).alloc (.cells #[I V,I S,I T] 23)=W1 at HZ HL HB |-;clear hzb;refine(QfN V S T HR _).mono ?_;rintro e w2 ⟨rfl,hb2⟩;have HZ2:=q9 (HZ.below hb2 HZ.lt);have HL2:=q9 (HL.below hb2 HL.lt);have HB2:=q9 (HB.trans (hb2.mono HB.size));clear HZ HL HB hb2;go_wp2_with fail
 refine(lnew HR _).mono ?_;rintro e w3 ⟨rfl,hA,hb3⟩
 have H3:Hid (B0L w w3 zb l3 V S T (w2.heap.size+1) w2.heap.size 0 (fun _ _=>0) #[I V,I S,I T,.slice da dl dc,vo]):=q9 ⟨HZ2.below hb3 HZ2.lt,HL2.below hb3 HL2.lt,TM.new HR.out hA,HB2.trans (hb3.mono HB2.size),Nat.le_trans HB2.size (Nat.le_succ _),HB2.size⟩
 generalize w2.heap.size+1=p at H3 |-;generalize w2.heap.size=gb at H3;clear hA hb3 HZ2 HL2 HB2;have b0:((0:Int) !=0)=false:=rfl;have l0:w3.cell? (I1 l3 0)=some (I V):=H3.l.cell 0;have l1:w3.cell? (I1 l3 1)=some (I S):=H3.l.cell 1;have l2:w3.cell? (I1 l3 2)=some (I T):=H3.l.cell 2;have llt:=H3.l.lt;go_upto_region 5 with fail
 go_cut [6] from 22 to 27 (fun s wx=>∃ tb,s=.pointer (some (I1 tb 0))/\BNL w wx zb l3 tb V S T p gb 0 (fun _ _=>0) #[I V,I S,I T,.slice da dl dc,vo])
 case first=>
  have Hd:=q9 H3.drew;have hrule:=QiG l3 V S T;clear H3
  refine wp_region_held_drew (S:=(fun W=>Blk W l3 23 #[I V,I S,I T])) (by kernel_rfl) ?_ (fun hHeld=>?_)
  . exact Hd.l
  refine q9N 0 rfl ?_
  refine q9N 1 rfl ?_
  refine q9N 4 rfl ?_
  refine wpAnyH_ready (rs:=[2,6]) (by kernel_rfl) (by simp) ?_
  refine AllReadyH.cons rfl (fun K hK=>?_) ?_
  rotate_left
  . refine AllReadyH.cons rfl (fun K hK=>?_) ?_
    rotate_left
    . exact AllReadyH.nil
    go_simp
    refine hK.out _ _ ?_ (fun hHeld=>?_)
    . (try dsimp only);exact(Hd.alloc _).l
    clear hK K;try simp only[Act.put,q98]
    refine q9R 2 rfl fun K hK=>?_
    go_simp
    (refine(QlK p _).mono ?_;rintro e w4 ⟨rfl,hb1⟩;have H4:=q9 ((Hd.alloc (.cells #[I 0,I 0,I 0,.nilIface,I 0,I 0] 48)).below hb1);have HN:Hid (Blk w4 w3.heap.size 48 #[I 0,I 0,I 0,.nilIface,I 0,I 0]):=q9 ((Blk.new w3.drew _ _).below hb1 (by simp));have nlt:=HN.lt;have n0:=HN.frozen 0;have m0:w4.cell? (I1 w3.heap.size 0)=some (I 0):=HN.cell 0;have n1:=HN.frozen 1;have m1:w4.cell? (I1 w3.heap.size 1)=some (I 0):=HN.cell 1;have n2:=HN.frozen 2;have m2:w4.cell? (I1 w3.heap.size 2)=some (I 0):=HN.cell 2;have n3:=HN.frozen 3;have m3:w4.cell? (I1 w3.heap.size 3)=some (.nilIface):=HN.cell 3;have n4:=HN.frozen 4;have m4:w4.cell? (I1 w3.heap.size 4)=some (I 0):=HN.cell 4;have n5:=HN.frozen 5;have m5:w4.cell? (I1 w3.heap.size 5)=some (I 0):=HN.cell 5;have hbs:w.heap.size<=w3.heap.size:=Hd.be.size)
    go_wp2_with fail
    refine hK.out _ _ ?_ (fun hHeld=>?_)
    . (try dsimp only);exact H4.l
    clear hK K;try simp only[Act.put,q98]
    refine q9N 3 rfl ?_
    refine q9N 5 rfl ?_
    refine q9R 7 rfl fun K hK=>?_
    go_simp
    have HBA:=q9 (H4.store HN.out hbs)
    refine hK.out _ _ ?_ (fun hHeld=>?_)
    . (try dsimp only);exact HBA.b.l
    clear hK K;try simp only[Act.put,q98]
    refine wpAnyH_done (by kernel_rfl) ?_ _
    go_wp2_with fail
    go_meet
    exact⟨_,rfl,HBA⟩
  go_simp
  (refine(QlK p _).mono ?_;rintro e w4 ⟨rfl,hb1⟩;have H4:=q9 (Hd.below hb1))
  go_wp2_with fail
  refine hK.out _ _ ?_ (fun hHeld=>?_)
  . (try dsimp only);exact H4.l
  clear hK K;try simp only[Act.put,q98]
  refine q9N 3 rfl ?_
  refine q9N 5 rfl ?_
  refine q9R 6 rfl fun K hK=>?_
  go_simp
  refine hK.out _ _ ?_ (fun hHeld=>?_)
  . (try dsimp only);exact(H4.alloc _).l
  clear hK K;try simp only[Act.put,q98]
  refine q9R 7 rfl fun K hK=>?_
  go_simp
  have HBA:=q9 (H4.made)
  refine hK.out _ _ ?_ (fun hHeld=>?_)
  . (try dsimp only);exact HBA.b.l
  clear hK K;try simp only[Act.put,q98]
  refine wpAnyH_done (by kernel_rfl) ?_ _
  go_wp2_with fail
  go_meet
  exact⟨_,rfl,HBA⟩
 case rest=>
  obtain⟨tb,rfl,hN⟩:=hcut
  have HRel:Hid (QnH w zb l3 tb V S T p gb #[I V,I S,I T,.slice da dl dc,vo] (I 1) wc):=q9 ⟨1,_,Nat.le_refl _,by omega,rfl,hN,fun y h1 h2=>absurd h1 (by omega),fun _ _ _=>rfl⟩
  clear hN H3 l0 l1 l2 llt b0;obtain⟨n9,hn9⟩:∃ n,nN V S=n:=⟨_,rfl⟩;have HN9:=q9 hn9;rw[hn9] at hn560;clear hn9
  have nI:(n9:Int)<=560:=by omega
  go_wp2_with fail
  go_loopw [7] (fun i wr=>QnH w zb l3 tb V S T p gb #[I V,I S,I T,.slice da dl dc,vo] i wr) (fun i _=>n9+1-(intOf i).toNat)
  case atStart=>exact HRel.out
  case round=>
   clear HRel;obtain⟨x,g,hx1,hx2,rfl,hS,hst,hg0⟩:=hrel;have HG0:=q9 hg0;clear hg0;have HS:=q9 hS;have HST:=q9 hst;rw[HN9.out] at hx2;clear hS hst;have z3:=HS.b.z.cell 3;have l0:wr.cell? (I1 l3 0)=some (I V):=HS.b.l.cell 0;have l1:wr.cell? (I1 l3 1)=some (I S):=HS.b.l.cell 1;have l2:wr.cell? (I1 l3 2)=some (I T):=HS.b.l.cell 2;have t0:wr.cell? (I1 tb 0)=some (I V):=HS.t.cell 0;have t1:wr.cell? (I1 tb 1)=some (I S):=HS.t.cell 1;have t2:wr.cell? (I1 tb 2)=some (I T):=HS.t.cell 2;have t3:wr.cell? (I1 tb 3)=some (I4 p):=HS.t.cell 3;have t4:wr.cell? (I1 tb 4)=some (I 1):=HS.t.cell 4;have t5:wr.cell? (I1 tb 5)=some (I 0):=HS.t.cell 5;have zlt:=HS.b.z.lt;have llt:=HS.b.l.lt;have tlt:=HS.t.lt;go_wp2_with fail
   refine(Qnf HR _).mono ?_;rintro e w6 ⟨rfl,hb6⟩;have H6:=q9 (HS.below hb6);rw[HN9.out];clear HS hb6 l0 l1 l2 t0 t1 t2 t3 t4 t5 llt tlt;have z3:=H6.b.z.cell 3;have l0:w6.cell? (I1 l3 0)=some (I V):=H6.b.l.cell 0;have l1:w6.cell? (I1 l3 1)=some (I S):=H6.b.l.cell 1;have l2:w6.cell? (I1 l3 2)=some (I T):=H6.b.l.cell 2;have t0:w6.cell? (I1 tb 0)=some (I V):=H6.t.cell 0;have t1:w6.cell? (I1 tb 1)=some (I S):=H6.t.cell 1;have t2:w6.cell? (I1 tb 2)=some (I T):=H6.t.cell 2;have t3:w6.cell? (I1 tb 3)=some (I4 p):=H6.t.cell 3;have t4:w6.cell? (I1 tb 4)=some (I 1):=H6.t.cell 4;have t5:w6.cell? (I1 tb 5)=some (I 0):=H6.t.cell 5;have zlt:=H6.b.z.lt;have llt:=H6.b.l.lt;have tlt:=H6.t.lt
   by_cases hxn:x<=n9
   . have HXN:Hid (x<=nN V S):=q9 (by have:=HN9.out;omega)
     have hxI:(x:Int)<=(n9:Int):=by omega
     have HZ0:=q9 H6.b.tm.z
     by_cases hk0:dl=0
     . have hdI:¬ (0:Int)<(dl:Int):=by omega
       clear hk0;go_wp2_with fail
       refine(QhY H6.b.tm hx1 HXN (by omega)).mono ?_;rintro e w9 ⟨rfl,A9,O9⟩
       have H9:=q9 (H6.only A9 O9);clear A9 O9 l0 l1 l2 t0 t1 t2 t3 t4 t5 llt tlt;go_wp2_with fail
       go_roundw
       case rel=>
        refine⟨x+1,QaU (vxN V) g x,by omega,by have:=HN9.out;omega,by simp,H9.more (by omega),fun y h1 h2=>?_,fun y k hy=>?_⟩
        rotate_left
        . rw[Qas _ (by have:=HXN.out;omega)];exact HG0 y k hy
        by_cases e:y=x
        . subst e
          exact Qbz (by omega) fun k=>HZ0.out k
        . exact(HST.out y h1 (by omega)).same (by simp [sgl,Tp.row]) fun z hz k=>by
           have hz:z=y:=by simpa [sgl,Tp.row] using hz
           rw[hz,Qas _ e]
       case measure=>simp [intOf];omega
     . obtain⟨db,off,rfl,hcell⟩:=HD.out (by omega)
       obtain⟨j,hj⟩:∃ j,x % dl=j:=⟨_,rfl⟩
       have hjl:j<dl:=by rw[<-hj];exact Nat.mod_lt _ (by omega)
       have D0:=(hcell j hjl).1;obtain⟨P9,hP9⟩:∃ P,f j=P:=⟨_,rfl⟩
       have HP9:Hid (P9<=18446744073709551615):=q9 (by rw[<-hP9];exact(hcell j hjl).2)
       rw[hP9] at D0;have HD0:=q9 D0;have dcell:=Qi H6.b.be D0;clear D0
       have hdI:(0:Int)<(dl:Int):=by omega
       have hd0:¬ (dl:Int)=0:=by omega
       have hd1:¬ dl=0:=by omega
       have htm:(x:Int).tmod (dl:Int)=(j:Int):=by rw[<-hj];exact Int.ofNat_tmod x dl
       have hjw:IntKind.i64.wrap (j:Int)=(j:Int):=IntWalk.i64_in _ (by have:=HDL.out;omega)
       have hj1:(j:Int)<(dl:Int):=by omega
       have hj0:(0:Int)<=(j:Int):=by omega
       clear hP9 hcell;go_upto_region 10 with fail
       have Hd:=q9 H6.drew;have dcd:w6.drew.cell? (I1 db (off+j))=some (I2 (P9:Int)):=dcell
       have hrule:∀ W:World,(Blk W l3 23 #[I V,I S,I T]/\Blk W zb 27 #[I V,I S,I T,I3 (I1 db off) dl dc,vo]/\W.cell? (I1 db (off+j))=some (I2 (P9:Int)))->W.cell? (I1 l3 0)=some (I V)/\W.cell? (I1 l3 1)=some (I S)/\W.cell? (I1 l3 2)=some (I T)/\W.cell? (I1 zb 3)=some (I3 (I1 db off) dl dc)/\W.cell? (I1 db (off+j))=some (I2 (P9:Int)):=fun W h=>⟨h.1.cell 0,h.1.cell 1,h.1.cell 2,h.2.1.cell 3,h.2.2⟩
       clear H6 l0 l1 l2 t0 t1 t2 t3 t4 t5 llt tlt dcell;have z3:=Hd.b.z.cell 3;have l0:w6.drew.cell? (I1 l3 0)=some (I V):=Hd.b.l.cell 0;have l1:w6.drew.cell? (I1 l3 1)=some (I S):=Hd.b.l.cell 1;have l2:w6.drew.cell? (I1 l3 2)=some (I T):=Hd.b.l.cell 2;have t0:w6.drew.cell? (I1 tb 0)=some (I V):=Hd.t.cell 0;have t1:w6.drew.cell? (I1 tb 1)=some (I S):=Hd.t.cell 1;have t2:w6.drew.cell? (I1 tb 2)=some (I T):=Hd.t.cell 2;have t3:w6.drew.cell? (I1 tb 3)=some (I4 p):=Hd.t.cell 3;have t4:w6.drew.cell? (I1 tb 4)=some (I 1):=Hd.t.cell 4;have t5:w6.drew.cell? (I1 tb 5)=some (I 0):=Hd.t.cell 5;have zlt:=Hd.b.z.lt;have llt:=Hd.b.l.lt;have tlt:=Hd.t.lt;have dlt:db<w6.drew.heap.size:=(Qmk dcd)
       go_region_held3 (fun W=>Blk W l3 23 #[I V,I S,I T]/\Blk W zb 27 #[I V,I S,I T,I3 (I1 db off) dl dc,vo]/\W.cell? (I1 db (off+j))=some (I2 (P9:Int))) (first|(with_reducible assumption)|(with_reducible exact HK8.out)|(with_reducible exact HK7.out)|(with_reducible exact⟨Hd.out.b.l,Hd.out.b.z,dcd⟩))
        (first
         |(go_at_call 32;((with_reducible refine(QlX HR.out hx1 HXN.out _).mono ?_);rintro e w7 ⟨rfl,hb7⟩;have H7:=q9 (Hd.out.below hb7);have HK7:=q9 (And.intro H7.out.b.l (And.intro H7.out.b.z (Qi hb7 dcd)))))
         |(go_at_call 31;((with_reducible refine(QlW H7.out.b.tm hx1 HXN.out HP9.out (by omega)).mono ?_);rintro e w8 ⟨rfl,A8,O8⟩;have H8:=q9 (H7.out.only A8 O8);have HK8:=q9 (And.intro H8.out.b.l (And.intro H8.out.b.z (Qi H8.out.b.be HD0.out))))))
       clear hrule Hd H7 HK7 HK8 HD0 dcd htm hjw hj1 hj0 l0 l1 l2 t0 t1 t2 t3 t4 t5 llt tlt;have z3:=H8.b.z.cell 3;have l0:w8.cell? (I1 l3 0)=some (I V):=H8.b.l.cell 0;have l1:w8.cell? (I1 l3 1)=some (I S):=H8.b.l.cell 1;have l2:w8.cell? (I1 l3 2)=some (I T):=H8.b.l.cell 2;have t0:w8.cell? (I1 tb 0)=some (I V):=H8.t.cell 0;have t1:w8.cell? (I1 tb 1)=some (I S):=H8.t.cell 1;have t2:w8.cell? (I1 tb 2)=some (I T):=H8.t.cell 2;have t3:w8.cell? (I1 tb 3)=some (I4 p):=H8.t.cell 3;have t4:w8.cell? (I1 tb 4)=some (I 1):=H8.t.cell 4;have t5:w8.cell? (I1 tb 5)=some (I 0):=H8.t.cell 5;have zlt:=H8.b.z.lt;have llt:=H8.b.l.lt;have tlt:=H8.t.lt;go_wp2_with fail
       refine(QhY H8.b.tm hx1 HXN (by omega)).mono ?_;rintro e w9 ⟨rfl,A9,O9⟩
       have H9:=q9 (H8.only A9 O9);clear A9 O9 l0 l1 l2 t0 t1 t2 t3 t4 t5 llt tlt;go_wp2_with fail
       go_roundw
       case rel=>
        refine⟨x+1,QaU (vxN V) (up2 g x 5 P9) x,by omega,by have:=HN9.out;omega,by simp,H9.more (by omega),fun y h1 h2=>?_,fun y k hy=>?_⟩
        rotate_left
        . rw[Qas _ (by have:=HXN.out;omega),Qh _ _ _ _ (by have:=HXN.out;omega)];exact HG0 y k hy
        by_cases e:y=x
        . subst e
          exact Qbz (by omega) fun k=>by rw[Qh _ _ _ _ (by omega)];exact HZ0 k
        . exact(HST.out y h1 (by omega)).same (by simp [sgl,Tp.row]) fun z hz k=>by
           have hz:z=y:=by simpa [sgl,Tp.row] using hz
           rw[hz,Qas _ e,Qh _ _ _ _ e]
       case measure=>simp [intOf];omega
   . have ex:x=n9+1:=by omega
     subst ex
     have hxI:¬ ((n9:Int)+1)<=(n9:Int):=by omega
     have HFI:=q9 (QlB (V:=V) (S:=S) (g:=g) fun y h1 h2=>HST.out y h1 (by have:=HN9.out;omega))
     have HE5:Hid (QcH w6 l3 tb V S T p):=q9 H6.bs;go_upto_region 12 with fail
     clear l0 l1 l2 t0 t1 t2 t3 t4 t5 llt tlt;have HSd:Hid (QcH w6.drew l3 tb V S T p):=q9 (HE5.below Ja.drew);obtain⟨⟨l0,l1,l2⟩,⟨t0,t1,t2,t3,t4,t5⟩⟩:=QcH.rule _ _ _ _ _ _ _ HSd.out;obtain⟨llt,tlt⟩:=HSd.lt;have hrule:=QcH.rule l3 tb V S T p
     go_region_held3 (fun W=>QcH W l3 tb V S T p) (first|(with_reducible assumption)|(with_reducible exact HS6.out)|(with_reducible exact HS5.out)|(with_reducible exact HS4.out)|(with_reducible exact HSd.out))
      (first
       |(go_at_call 29;((with_reducible refine(QlK p _).mono ?_);rintro e w4 ⟨rfl,hb4⟩;have HS4:=q9 (HSd.out.below hb4);have H4:=q9 (H6.out.drew.below hb4)))
       |(go_at_call 34;((with_reducible refine(of14 _).mono ?_);rintro e w5 ⟨rfl,hb5⟩;have HS5:=q9 (HS4.out.below hb5);have H5:=q9 (H4.out.below hb5);have HS6:Hid (QcH (w5.alloc (.cells #[I V,I S,I T,.pointer (some (I1 p 0)),I V,I S,I T,I4 p,I 1,I 0,I V,I S,I T,I4 p,.slice none 0 0] 61)) l3 tb V S T p):=q9 (HS5.out.below Jc)))
       |fail)
     clear l0 l1 l2 t0 t1 t2 t3 t4 t5 llt tlt hrule HSd HE5 HS4 HS5 H4;go_wp2_with fail
     go_ret;have hbe:=H5.b.be;have hpw:Blk (w5.alloc (.cells #[I V,I S,I T,.pointer (some (I1 p 0)),I V,I S,I T,I4 p,I 1,I 0,I V,I S,I T,I4 p,.slice none 0 0] 61)) w5.heap.size 61 #[I V,I S,I T,.pointer (some (I1 p 0)),I V,I S,I T,I4 p,I 1,I 0,I V,I S,I T,I4 p,.slice none 0 0]:=Blk.new _ _ _
     refine⟨w5.heap.size,p,gb,rfl,⟨hpw,⟨g,?_,HFI,fun i _=>?_⟩,EW.nil _ _,hbe.size,H5.b.kp,H5.b.kg⟩,hbe.alloc hbe.size _⟩
     . have:=(H5.b.tm.alloc (.cells #[I V,I S,I T,.pointer (some (I1 p 0)),I V,I S,I T,I4 p,I 1,I 0,I V,I S,I T,I4 p,.slice none 0 0] 61)).more (m':=10*nN V S) (by have:=HN9.out;omega)
       exact this
     . unfold rs;rw[HG0.out _ _ (by omega)];rfl
end
end Go.Proofs.YtfpnjpbpfgjakaaGreat
