/- Gt -/
import Derived.Test.YtaooglagddphnaaGreatXZA
import Derived.Deep.RegionHeld3
namespace Go.Proofs.YtaooglagddphnaaGreat
open Go
section
variable {P:Program}{ops:Array Oper}{Q:Exit->Act->World->Prop}{md:Region.Mode}{S S0:World->Prop}{late:Nat->Bool}
def Till (P:Program)(md:Region.Mode)(ops:Array Oper)(Q:Exit->Act->World->Prop)(S:World->Prop)(late:Nat->Bool):Nat->Array Bool->Act->World->Prop
 |0,ls,a,w=>Region.ready md ops ls=[]/\Q .normal a w
 |n+1,ls,a,w=>(Region.ready md ops ls=[]->Q .normal a w)/\
  ∀ j∈Region.ready md ops ls,wpOp P ops Q j (fun a' w'=>(S w->late j=false->S w')/\Till P md ops Q S late n (ls.setIfInBounds j true) a' w') a w
theorem Till.any:∀ (n:Nat) (ls:Array Bool) (a:Act) (w:World),Till P md ops Q S late n ls a w->wpAny P md ops Q n ls a w
 |0,_,_,_,h=>h
 |n+1,_,_,_,h=>⟨h.1,fun j hj=>wpOp_mono (fun a' w' k=>Till.any n _ a' w' k.2) (h.2 j hj)⟩
def QnA (md:Region.Mode)(ops:Array Oper)(late:Nat->Bool)(i:Nat):Prop:=∀ (j:Nat) (oj:Oper),ops[j]?=some oj->late j=true->∃ e∈oj.after,Region.binds md e=true/\e.on=i
theorem Till.first {i:Nat}{oi:Oper}{v:Value}(hi:ops[i]?=some oi)(hsel:∀ (j:Nat) (o:Oper) cs b,ops[j]?=some o->o.op≠.select cs b)(hQ:∀ c a w,Q (.panic c) (a.put oi.dst v) w->Q (.panic c) a w)
 (hl:(∀ w,S0 w)\/((∀ w,S0 w↔S w)/\QnA md ops late i)):
 ∀ (n:Nat) (ls:Array Bool) (a:Act) (w:World),(∀ j oj,ops[j]?=some oj->j≠i->ls.getD j true=false->(∀ e∈oj.after,Region.binds md e=true->e.on≠i)->oi.apart ops oj=true)->
  i∈Region.ready md ops ls->YieldsIf P ops S0 oi v a->S0 w->Till P md ops Q S late n (ls.setIfInBounds i true) (a.put oi.dst v) w->Till P md ops Q S late (n+1) ls a w:=by
 intro n
 induction n with
 |zero=>
  intro ls a w _ hr hy h0 H
  constructor
  . intro e;rw[e] at hr;cases hr
  . intro j hj
    by_cases e:j=i
    . subst e
      exact hy.wpOp hi h0 ⟨fun hs _=>hs,H⟩
    . have k:=ready_mono hj e
      rw[H.1] at k
      cases k
 |succ n ih=>
  intro ls a w hfree hr hy h0 H
  constructor
  . intro e;rw[e] at hr;cases hr
  intro j hj
  by_cases e:j=i
  . subst e
    exact hy.wpOp hi h0 ⟨fun hs _=>hs,H⟩
  obtain⟨hun,oj,hoj,hall⟩:=mem_ready.1 hj
  have hno:∀ d∈oj.after,Region.binds md d=true->d.on≠i:=by
   intro d hd hb he;have k1:=hall d hd hb;have k2:=(mem_ready.1 hr).1;rw[he] at k1
   rcases Nat.lt_or_ge i ls.size with hlt|hge
   . simp [hlt] at k1 k2
     rw[k2] at k1;cases k1
   . simp [Array.getElem?_eq_none hge] at k1
  have step:=wpOp_putIf hoj (hfree j oj hoj e hun hno) (fun cs b=>hsel i oi cs b hi) (fun cs b=>hsel j oj cs b hoj) hQ hy (H.2 j (ready_mono hj e))
  refine wpOp_mono (fun a' w' k=>⟨k.2.1,?_⟩) step
  have k0:S0 w':=by
   rcases hl with hl|⟨hl,hw⟩
   . exact hl w'
   . cases hj':late j with
     |false=>exact(hl w').2 (k.2.1 ((hl w).1 h0) hj')
     |true=>
      exfalso
      obtain⟨d,hd,hb,he⟩:=hw j oj hoj hj';exact hno d hd hb he
  refine ih (ls.setIfInBounds j true) a' w' (fun y oy hy1 hy2 hy3 hy4=>hfree y oy hy1 hy2 ?_ hy4) (ready_mono hr (Ne.symm e)) k.1 k0 ?_
  . by_cases e2:j=y
    . subst e2;exact hun
    . rw[getD_set_ne true e2] at hy3;exact hy3
  . rw[Array.setIfInBounds_comm _ _ e]
    exact k.2.2
def Qk2 (md:Region.Mode)(ops:Array Oper)(late:Nat->Bool)(i:Nat):Bool:=(List.range ops.size).all fun j=>!late j || (match ops[j]? with|some oj=>oj.after.any (fun e=>Region.binds md e && e.on==i)|none=>true)
theorem Qg5 {i:Nat}(h:Qk2 md ops late i=true):QnA md ops late i:=by
 intro j oj hj hl;have hlt:=(Array.getElem?_eq_some_iff.1 hj).1;have k:=List.all_eq_true.1 h j (List.mem_range.2 hlt);rw[hl,hj] at k;simp only[Bool.not_true,Bool.false_or] at k;obtain⟨e,he,hb⟩:=Array.any_eq_true'.1 k;rw[Bool.and_eq_true] at hb
 exact⟨e,he,hb.1,by simpa using hb.2⟩
theorem Till.load {i:Nat}{oi:Oper}{v:Value}{n:Nat}{ls:Array Bool}{a:Act}{w:World}(hi:ops[i]?=some oi)(hs:Region.noSelect ops=true)(hf:Region.free md ops ls i=true)(hr:(Region.ready md ops ls).contains i=true)(hw:Qk2 md ops late i=true)
 (hQ:∀ c a w,Q (.panic c) (a.put oi.dst v) w->Q (.panic c) a w) (hy:YieldsIf P ops S oi v a) (hS:S w) (h:Till P md ops Q S late n (ls.setIfInBounds i true) (a.put oi.dst v) w):Till P md ops Q S late (n+1) ls a w:=
 Till.first hi (Region.noSelect_spec hs) hQ (.inr ⟨fun _=>Iff.rfl,Qg5 hw⟩) n ls a w (Region.free_spec hi hf) (by simpa using hr) hy hS h
theorem Till.plain {i:Nat}{oi:Oper}{v:Value}{n:Nat}{ls:Array Bool}{a:Act}{w:World}(hi:ops[i]?=some oi)(hs:Region.noSelect ops=true)(hf:Region.free md ops ls i=true)(hr:(Region.ready md ops ls).contains i=true)
 (hQ:∀ c a w,Q (.panic c) (a.put oi.dst v) w->Q (.panic c) a w) (hy:YieldsIf P ops (fun _=>True) oi v a) (h:Till P md ops Q S late n (ls.setIfInBounds i true) (a.put oi.dst v) w):Till P md ops Q S late (n+1) ls a w:=
 Till.first hi (Region.noSelect_spec hs) hQ (.inl fun _=>trivial) n ls a w (Region.free_spec hi hf) (by simpa using hr) hy trivial h
def Qc (P:Program)(md:Region.Mode)(ops:Array Oper)(Q:Exit->Act->World->Prop)(S:World->Prop)(late:Nat->Bool)(n:Nat)(ls:Array Bool)(a:Act)(w:World)(rs:List Nat):Prop:=
 ∀ j∈rs,wpOp P ops Q j (fun a' w'=>(S w->late j=false->S w')/\Till P md ops Q S late n (ls.setIfInBounds j true) a' w') a w
theorem Qc.nil {n:Nat}{ls:Array Bool}{a:Act}{w:World}:Qc P md ops Q S late n ls a w []:=fun _ h=>by cases h
theorem Qc.cons {n i:Nat}{ls:Array Bool}{a:Act}{w:World}{o:Oper}{rs:List Nat}(ho:ops[i]?=some o)
 (h:∀ K':Act->World->Prop,Shut (∀ a w,S w->(S w->Till P md ops Q S late n (ls.setIfInBounds i true) a w)->K' a w)->if Region.wanted o (yielded ops a.tmps)=true then Oper.wp P o a w K' Q else K' (a.put o.dst undef) w)
 (hs:Qc P md ops Q S late n ls a w rs):Qc P md ops Q S late n ls a w (i :: rs):=fun j hj=>by
 rcases List.mem_cons.1 hj with rfl|hj
 . exact wpOp_step ho (fun K' hK=>h K' (fun a w hS hW=>hK a w ⟨fun _ _=>hS,hW hS⟩))
 . exact hs j hj
theorem Qc.last {n i:Nat}{ls:Array Bool}{a:Act}{w:World}{o:Oper}{rs:List Nat}(ho:ops[i]?=some o)(hl:late i=true)
 (h:∀ K':Act->World->Prop,Shut (∀ a w,Till P md ops Q S late n (ls.setIfInBounds i true) a w->K' a w)->if Region.wanted o (yielded ops a.tmps)=true then Oper.wp P o a w K' Q else K' (a.put o.dst undef) w)
 (hs:Qc P md ops Q S late n ls a w rs):Qc P md ops Q S late n ls a w (i :: rs):=fun j hj=>by
 rcases List.mem_cons.1 hj with rfl|hj
 . exact wpOp_step ho (fun K' hK=>h K' (fun a w hW=>hK a w ⟨fun _ e=>(by rw[hl] at e;cases e),hW⟩))
 . exact hs j hj
theorem Till.ready {rs:List Nat}{n:Nat}{ls:Array Bool}{a:Act}{w:World}(hr:Region.ready md ops ls=rs)(hne:rs≠[])(h:Qc P md ops Q S late n ls a w rs):Till P md ops Q S late (n+1) ls a w:=
 ⟨fun h0=>absurd (hr ▸ h0) hne,hr ▸ h⟩
theorem Till.done {ls:Array Bool}{a:Act}{w:World}(hr:Region.ready md ops ls=[])(h:Q .normal a w):∀ n,Till P md ops Q S late n ls a w
 |0=>⟨hr,h⟩
 |_+1=>⟨fun _=>h,by rw[hr];simp⟩
theorem QcL {id:Nat}{a:Act}{w:World}(S:World->Prop)(late:Nat->Bool)(hm:P.follows .mixedOrders=true)(hS:S w.drew)
 (h:S w.drew->Till P .any ops Q S late ops.size (Array.replicate ops.size false) a w.drew):(Code.region id ops true).wp P Q a w:=wp_region_any hm (Till.any _ _ _ _ (h hS))
end
end Go.Proofs.YtaooglagddphnaaGreat
