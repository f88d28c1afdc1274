/- Go -/
import Derived.Test.YtaooglagddphnaaGreatXGn
import Derived.Test.YtaooglagddphnaaGreatXGt
import Derived.Test.YtaooglagddphnaaGreatXGm
import Derived.Test.YtaooglagddphnaaGreatXU
namespace Go.Proofs.YtaooglagddphnaaGreat
open Go.RowKit
set_option maxRecDepth 100000
def Qc9 (g:Mg9)(x:Nat):Nat:=if x=0 then 0 else g x 5
def vx13 (V:Int)(x:Nat):Bool:=if x=0 then false else vxN V x
def Qbf (g:Mg9)(k:Nat):List Value:=(List.range (k+1)).map fun x=>I2 ((Qc9 g x:Nat):Int)
def Qbi (V:Int)(k:Nat):List Value:=(List.range (k+1)).map fun x=>.bool (vx13 V x)
section
variable {V:Int}{g:Mg9}{k:Nat}
theorem QeG:(Qbf g k).length=k+1:=by simp [Qbf]
theorem Qew:(Qbi V k).length=k+1:=by simp [Qbi]
theorem QjY:Qbf g (k+1)=Qbf g k++[I2 ((Qc9 g (k+1):Nat):Int)]:=by unfold Qbf;rw[List.range_succ (n:=k+1),List.map_append];rfl
theorem QjE:Qbi V (k+1)=Qbi V k++[.bool (vx13 V (k+1))]:=by unfold Qbi;rw[List.range_succ (n:=k+1),List.map_append];rfl
theorem QmZ {x:Nat}(h:x<=k):(Qbf g k)[x]?=some (I2 ((Qc9 g x:Nat):Int)):=by unfold Qbf;rw[List.getElem?_map,List.getElem?_range (by omega)];rfl
theorem QmC {x:Nat}(h:x<=k):(Qbi V k)[x]?=some (.bool (vx13 V x)):=by unfold Qbi;rw[List.getElem?_map,List.getElem?_range (by omega)];rfl
end
theorem QiI {V S T:Int}{m:Nm}{k:Nat}(hR:Rt V S T)(h:Qn V S m k):(m.k==1)=vx13 V (k+1):=by
 rw[show vx13 V (k+1)=vxN V (k+1) from if_neg (by omega)]
 unfold vxN arcN;have hvn:vn V=lv V*V:=rfl;have hv:=hR.v1
 rcases h with ⟨h1,h2,h3,h5,h6,h7,h8⟩|⟨h1,h2,h3,h5,h6,h7,h8⟩
 . have h9:m.a*V+V<=lv V*V:=by
    have:=Int.mul_le_mul_of_nonneg_right (show m.a+1<=lv V by omega) (show 0<=V by omega)
    rw[Int.add_mul,Int.one_mul] at this;exact this
   rw[h1,decide_eq_false (by omega)];rfl
 . have h9:0<=m.a*sn V:=Int.mul_nonneg h2 (by unfold sn;have:=QF V;omega)
   rw[h1,decide_eq_true (by omega)];rfl
section
variable {w:World}{b:BkV}{cv:Nat->Int}{g:Mg9}{mk:Nat->Nat}{ts:List Tp}{x:Nat}
theorem Qny (hT:BT b cv g mk ts)(B:Bk w b cv)(h1:1<=x)(h2:x<=b.na){xI:Int}(ex:xI=(x:Int)):
 Calls Tryz.prog 51 #[vB b,I 10,I xI,I 5] w fun e w'=>e=.returned (I2 ((Qc9 g x:Nat):Int))/\Below w.heap.size w w':=by
 subst ex
 obtain⟨a,c⟩:=Qeq (k:=5) B h1 h2 (by decide)
 refine(Qaj (kd:=10) (y:=(x:Int)) (z:=5) B a c).mono ?_;rintro e w' ⟨rfl,hb⟩;refine⟨?_,hb⟩
 rw[hT.cl x 5 h1 h2 (by omega) (by omega),show Qc9 g x=g x 5 from if_neg (by omega)]
theorem Qji (hT:BT b cv g mk ts)(B:Bk w b cv)(h1:1<=x)(h2:x<=b.na){k:Nat}(h3:3<=k)(h4:k<7){xI kI:Int}(ex:xI=(x:Int))(ek:kI=(k:Int)):
 Calls Tryz.prog 51 #[vB b,I 10,I xI,I kI] w fun e w'=>e=.returned (I2 ((g x k:Nat):Int))/\Below w.heap.size w w':=by
 subst ex ek
 obtain⟨a,c⟩:=Qeq (k:=k) B h1 h2 (by omega)
 refine(Qaj (kd:=10) (y:=(x:Int)) (z:=(k:Int)) B a c).mono ?_;rintro e w' ⟨rfl,hb⟩;refine⟨?_,hb⟩;rw[hT.cl x k h1 h2 h3 h4]
theorem BT.bd (hT:BT b cv g mk ts)(B:Bk w b cv)(h1:1<=x)(h2:x<=b.na):g x 3<=560/\g x 4<=560:=by
 have ha:b.na=nN b.V b.S:=B.ha;have hn:=Ql B.hR
 obtain⟨t,ht,hx⟩:=(hT.fi.al x).1 ⟨by omega,by omega⟩
 have key:∀ {t:Tp},Qe (vxN b.V) mk g t->(∀ y∈t.row,y<=560)->∀ y∈t.row,g y 3<=560/\g y 4<=560:=by
  intro t
  induction t with
  |nil=>intro _ _ y hy;simp [Tp.row] at hy
  |node l z r ihl ihr=>
   intro h hb y hy;obtain⟨e3,e4,_,_,_,hl,hr⟩:=h
   have bl:∀ y∈l.row,y<=560:=fun y hy=>hb y (by rw[Tp.row_node];exact List.mem_append_left _ hy)
   have br:∀ y∈r.row,y<=560:=fun y hy=>hb y (by rw[Tp.row_node];exact List.mem_append_right _ (List.mem_cons_of_mem _ hy))
   have root:∀ {s:Tp},(∀ y∈s.row,y<=560)->s.root<=560:=fun {s} h=>by
    cases s with
    |nil=>exact Nat.zero_le _
    |node a c d=>exact h c (by simp [Tp.row])
   rw[Tp.row_node] at hy
   rcases List.mem_append.1 hy with hy|hy
   . exact ihl hl bl y hy
   . rcases List.mem_cons.1 hy with e|hy
     . subst e;rw[e3,e4];exact⟨root bl,root br⟩
     . exact ihr hr br y hy
 exact key (hT.fi.st t ht).1.1 (fun y hy=>by have:=(hT.fi.al y).2 ⟨t,ht,hy⟩;omega) x hx
end
theorem QR {w w':World}{base n:Nat}{v:Value}{E9:TypeId}{xs:List Value}(h:w.ownsRow base E9 1 v n xs)(hb:Below w.heap.size w w'):w'.ownsRow base E9 1 v n xs:=QbE h fun i hi=>hb.block i (World.ownsRow.lt h i hi).2
theorem Qa7 {w w':World}{base n b:Nat}{v:Value}{E9 ty:TypeId}{xs:List Value}{cs:Array Value}(h:w.ownsRow base E9 1 v n xs)(hf:Blk w b ty cs)(hne:E9≠ty)(hg:w.grownBy w' v.ownBlock):Blk w' b ty cs:=by
 refine(hg.block b hf.lt fun e=>?_).trans hf
 rcases h.2 with ⟨e2,h0⟩|⟨g,cap,cur,e2,hgb,hgg,_⟩
 . subst e2;cases e
 . subst e2
   have e:b=g:=by injection e
   subst e;exact Blk.ne_ (show Blk w b E9 cur from hgg) hf hne rfl
theorem Qeh {w w':World}{base n n':Nat}{v v':Value}{A9 B9:TypeId}{xs xs':List Value}(h':w.ownsRow base B9 1 v' n' xs')(h:w.ownsRow base A9 1 v n xs)(hne:A9≠B9)(hg:w.grownBy w' v.ownBlock):w'.ownsRow base B9 1 v' n' xs':=by
 refine QbE h' fun i hi=>hg.block i (World.ownsRow.lt h' i hi).2 fun e=>?_
 rcases h.2 with ⟨e2,h0⟩|⟨g,cap,cur,e2,hgb,hgg,_⟩
 . subst e2;cases e
 . subst e2
   have e:i=g:=by injection e
   subst e
   rcases h'.2 with ⟨e3,_⟩|⟨g',cap',cur',e3,_,hgg',_⟩
   . subst e3;cases hi
   . subst e3
     have e:g'=i:=by injection hi
     subst e;exact Blk.ne_ (show Blk w g' A9 cur from hgg) (show Blk w g' B9 cur' from hgg') hne rfl
theorem Qfn {w:World}{base n:Nat}{E9:TypeId}{xs:List Value}{g c m:Nat}(h:w.ownsRow base E9 1 (I3 (I1 g 0) m c) n xs)(hn:xs.length=n)(h0:0<n):∃ zs,Blk w g E9 zs/\∀ (k:Nat) (x:Value),xs[k]?=some x->zs[k]?=some x:=by
 subst hn;obtain⟨g',c',zs,e,_,hz,hx⟩:=QbD h h0;injection e with e _ _;injection e with e;injection e with e _ _;subst e;exact⟨zs,hz,hx⟩
theorem Qdy {w:World}{base n:Nat}{T9 E9:TypeId}{zv:Value}{by9:Nat}(hT:Tryz.prog.underlying T9=some (.slice E9))(hE:(Tryz.prog.info? E9).map (fun i=>(i.zero,i.size,i.bytes))=some (some zv,1,by9))(hzv:zv.cells.size=1)(hby:by9<=64)
 {ops:Array Oper} {o:Oper} {a:Act} {K:Act->World->Prop} {Q:Exit->Act->World->Prop} {F:Prop} (hgd:o.guard=none) (s x:Operand)
 (ho:o.op=.call { callee:=.builtin .append,args:=#[s,x],argTypes:=#[T9,T9]})
 {v:Value} {xs:List Value} (hs:a.eval s=v) (hn:xs.length=n) (h:w.ownsRow base E9 1 v n xs) (u:Value) (hu:u.oneCell'=true) (ad:Addr) (c:Nat) (hx:a.eval x=.slice (some ad) 1 c) (hc:w.cell? (ad.add 0)=some u) (hl:n<=1000) (hb:base<=w.heap.size)
 (hK:∀ g cap w',w'.ownsRow base E9 1 (I3 (I1 g 0) (n+1) cap) (n+1) (xs++[u])->w.grownBy w' v.ownBlock->g<w'.heap.size->K (a.put o.dst (I3 (I1 g 0) (n+1) cap)) w'):
 if Region.wanted o (yielded ops a.tmps)=true then Oper.wp Tryz.prog o a w K Q else F:=by
 subst hn
 refine Qg9 hT hE hzv hby hgd s x ho hs h u hu ad c hx hc hl hb fun g cap w' h1 h2 h3=>hK g cap w' ?_ h2 h3
 rw[List.length_append,List.length_singleton] at h1;exact h1
theorem Below.over13 {w0 w w':World}(h:Below w0.heap.size w0 w)(hb:Below w.heap.size w w'):Below w0.heap.size w0 w':=h.trans (hb.mono h.size)
def Qe3 (W:World)(xb nb:Nat)(b:BkV)(p l r c d e f:Nat):Prop:=BB W xb b/\NB W nb p l r c d e f
section
variable {w w':World}{xb nb:Nat}{b:BkV}{p l r c d e f:Nat}
theorem Qe3.below (h:Qe3 w xb nb b p l r c d e f)(hb:Below w.heap.size w w'):Qe3 w' xb nb b p l r c d e f:=⟨h.1.below hb,Blk.below h.2 hb (Blk.lt h.2)⟩
theorem Qe3.rule (xb nb:Nat)(b:BkV)(p l r c d e f:Nat):∀ W:World,Qe3 W xb nb b p l r c d e f->(W.cell? (I1 xb 0)=some (I b.V)/\W.cell? (I1 xb 1)=some (I b.S)/\W.cell? (I1 xb 2)=some (I b.T)/\W.cell? (I1 xb 3)=some (I3 (I1 b.gn 0) b.nn b.cn)/\W.cell? (I1 xb 4)=some (I3 (I1 b.cb 0) b.cl b.cc)/\W.cell? (I1 xb 5)=some (.map (some b.wb))/\W.cell? (I1 xb 6)=some (I3 (I1 b.ga 0) b.na b.ca))/\
 W.cell? (I1 nb 0)=some (I (p:Int))/\W.cell? (I1 nb 1)=some (I (l:Int))/\W.cell? (I1 nb 2)=some (I (r:Int))/\W.cell? (I1 nb 3)=some (I (c:Int))/\W.cell? (I1 nb 4)=some (I (d:Int))/\W.cell? (I1 nb 5)=some (I (e:Int))/\W.cell? (I1 nb 6)=some (I (f:Int)):=
 fun _ h=>⟨h.1.cells,Blk.cell h.2 0,Blk.cell h.2 1,Blk.cell h.2 2,Blk.cell h.2 3,Blk.cell h.2 4,Blk.cell h.2 5,Blk.cell h.2 6⟩
end
def KY13 (w1:World)(ob na:Nat)(rc:Rec7)(i:Value)(W:World):Prop:=∃ k,k<=na/\i=I ((k:Nat):Int)/\OB W ob na rc/\Below w1.heap.size w1 W
def KZ13 (w1:World)(V:Int)(g:Mg9)(rv:Value)(mb fb na:Nat)(i:Value)(W:World):Prop:=
 ∃ k pa pc qa qc,k<=na/\i=I ((k:Nat):Int)/\Blk W fb 158 #[rv,I3 (I1 pa 0) (k+1) pc,I3 (I1 mb 0) (na+1) (na+1),I3 (I1 qa 0) (k+1) qc]/\W.ownsRow w1.heap.size 88 1 (I3 (I1 pa 0) (k+1) pc) (k+1) (Qbf g k)/\W.ownsRow w1.heap.size 4 1 (I3 (I1 qa 0) (k+1) qc) (k+1) (Qbi V k)/\Below w1.heap.size w1 W
section
variable {w:World}{b:BkV}{cv:Nat->Int}{g:Mg9}{mk:Nat->Nat}{ts:List Tp}{L mb base:Nat}{rv:Value}{vs:List Value}
set_option maxHeartbeats 16000000 in
theorem Qjb (B:Bk w b cv)(hT:BT b cv g mk ts)(hL:(L:Int)<lv b.V)(hRV:RowV w base rv vs)(hln:vs.length=(TLv b.V L ts b.na).length)(hLI:∀ (i:Nat) (v:Value) (t:Tp),vs[i]?=some v->(TLv b.V L ts b.na)[i]?=some t->LI w v t.row)(hM:Cn13 w mb (b.na+1) mk)(hbv:∀ v∈vs,bk v≠some mb):
 Calls Tryz.prog 56 #[vB b,rv,I (L:Int),I3 (I1 mb 0) (b.na+1) (b.na+1)] w fun e w'=>e=.returned (.bool true)/\Below w.heap.size w w':=by
 have HR:=q9 B.hR;have HT:=q9 hT;have HLV:=q9 hL;obtain⟨na,hna⟩:∃ k,b.na=k:=⟨_,rfl⟩;rw[hna] at hM |-;have HNA:=q9 hna
 have na560:na<=560:=by rw[<-hna,B.ha];have:=(sizes B.hR).nd2;omega
 have naI:(na:Int)<=560:=by omega
 have lev5:(L:Int)<=5:=by have:=QF b.V;omega
 have L0:(0:Int)<=(L:Int):=by omega
 have h1b:Below w.heap.size w (w.alloc (bB b)):=(Below.refl _ _).alloc (Nat.le_refl _) _;have HW:=q9 h1b;have HBk:=q9 (B.below h1b);have HX:=q9 (BB.new w b);have HRV:=q9 (hRV.below h1b)
 have HRO:Hid (QT (w.alloc (bB b)) mb vs (TLv b.V L ts b.na)):=q9 ⟨hln,fun i v t h1 h2=>⟨(hLI i v t h1 h2).below h1b,hbv v (List.mem_of_getElem? h1)⟩⟩
 have HM:=q9 (hM.below h1b);obtain⟨c0,c1,c2,c3,c4,c5,c6⟩:=(BB.new w b).cells;have xlt:=(BB.new w b).lt;rw[hna] at c6;obtain⟨ra,rc,hre⟩:=hRV.slice;obtain⟨rn,hrn⟩:∃ n,vs.length=n:=⟨_,rfl⟩;rw[hrn] at hre;subst hre;have HRN:=q9 hrn;clear B hT hL hRV hln hLI hM hbv h1b hna hrn
 go_enter Tryz.func56,Tryz.ntmps56
 go_upto_region 3 with fail
 clear c0 c1 c2 c3 c4 c5 c6 xlt;have HF0:Hid (Blk ((w.alloc (bB b)).alloc (.cells #[.slice ra rn rc,.slice none 0 0,I3 (I1 mb 0) (na+1) (na+1),.slice none 0 0] 158)) (w.alloc (bB b)).heap.size 158 #[.slice ra rn rc,.slice none 0 0,I3 (I1 mb 0) (na+1) (na+1),.slice none 0 0]):=q9 (Blk.new _ _ _);have HB0:Hid (Below (w.alloc (bB b)).heap.size (w.alloc (bB b)) ((w.alloc (bB b)).alloc (.cells #[.slice ra rn rc,.slice none 0 0,I3 (I1 mb 0) (na+1) (na+1),.slice none 0 0] 158))):=q9 ((Below.refl _ _).alloc (Nat.le_refl _) _)
 have hms:(w.alloc (bB b)).heap.size=w.heap.size+1:=by simp
 rw[hms] at HF0;have HMS:=q9 hms;clear hms;generalize (w.alloc (bB b)).alloc (.cells #[.slice ra rn rc,.slice none 0 0,I3 (I1 mb 0) (na+1) (na+1),.slice none 0 0] 158)=w2 at HF0 HB0 |-;generalize w.alloc (bB b)=w1 at HW HBk HX HRV HRO HM HB0 HMS |-;generalize w.heap.size+1=fb at HF0 HMS |-;generalize w.heap.size=xb at HX |-;have f1:=HF0.cell 1;have z1:=HF0.frozen 1;have flt:=HF0.lt
 go_wp2_with (at_builtin;go_loud (refine Qbh (base:=w1.heap.size) (xs:=[]) Tryz.underlying24 Qdh rfl (by decide) rfl _ _ rfl rfl (World.ownsRow_nil _ _ _ _) (I2 0) rfl (I1 w2.heap.size 0) 1 rfl (Q5 _ _ _) (by decide) (Nat.le_trans HB0.size (by simp)) ?_))
 intro v5 w5 hu5 hg5;have hP5:w5.ownsRow w1.heap.size 88 1 v5 (0+1) (Qbf g 0):=hu5
 obtain⟨pa,pc,_,e5,hpa,_,_⟩:=QbD (xs:=Qbf g 0) hP5 (by rw[QeG];omega)
 rw[show (Qbf g 0).length=1 from QeG] at e5;subst e5
 have HF5:Hid (Blk w5 fb 158 #[.slice ra rn rc,.slice none 0 0,I3 (I1 mb 0) (na+1) (na+1),.slice none 0 0]):=q9 ((hg5.block fb (by simp;have:=HF0.lt;omega) (fun e=>by cases e)).trans (HF0.alloc (.cells #[I2 0] 88)))
 have HB5:=q9 ((HB0.alloc HB0.size (.cells #[I2 0] 88)).grown hg5 (by simp;have:=HB0.size;omega) (fun r hr=>by cases hr))
 have HP5:=q9 hP5;clear hu5 hg5 hP5 HF0 HB0 f1 z1 flt;have f1:=HF5.cell 1;have z1:=HF5.frozen 1;have flt:=HF5.lt;go_upto_region 4 with fail
 clear f1 z1 flt;have HF6:Hid (Blk (w5.setCell (I1 fb 1) (I3 (I1 pa 0) 1 pc)) fb 158 #[.slice ra rn rc,(I3 (I1 pa 0) 1 pc),I3 (I1 mb 0) (na+1) (na+1),.slice none 0 0]):=q9 (HF5.set_ 1 _)
 have HB6:=q9 (HB5.setCell (p:=(I1 fb 1)) (by rw[HMS.out];exact Nat.le_refl _) (I3 (I1 pa 0) 1 pc))
 have HP6:Hid ((w5.setCell (I1 fb 1) (I3 (I1 pa 0) 1 pc)).ownsRow w1.heap.size 88 1 (I3 (I1 pa 0) 1 pc) (0+1) (Qbf g 0)):=q9 (QaJ HP5.out HF5.out (by decide) 1 _)
 generalize hw6:w5.setCell (I1 fb 1) (I3 (I1 pa 0) 1 pc)=w6 at HF6 HB6 HP6 |-;clear hw6 HF5 HB5 HP5 hpa;have f3:=HF6.cell 3;have z3:=HF6.frozen 3;have flt:=HF6.lt
 go_wp2_with (at_builtin;go_loud (refine Qbh (base:=w1.heap.size) (xs:=[]) Tryz.underlying156 Qlh rfl (by decide) rfl _ _ rfl rfl (World.ownsRow_nil _ _ _ _) (.bool false) rfl (I1 w6.heap.size 0) 1 rfl (Q5 _ _ _) (by decide) (Nat.le_trans HB6.size (by simp)) ?_))
 intro v7 w7 hu7 hg7;have hQ7:w7.ownsRow w1.heap.size 4 1 v7 (0+1) (Qbi b.V 0):=hu7
 obtain⟨qa,qc,_,e7,hqa,_,_⟩:=QbD (xs:=Qbi b.V 0) hQ7 (by rw[Qew];omega)
 rw[show (Qbi b.V 0).length=1 from Qew] at e7;subst e7
 have HF7:Hid (Blk w7 fb 158 #[.slice ra rn rc,(I3 (I1 pa 0) 1 pc),I3 (I1 mb 0) (na+1) (na+1),.slice none 0 0]):=q9 ((hg7.block fb (by simp;have:=HF6.lt;omega) (fun e=>by cases e)).trans (HF6.alloc (.cells #[.bool false] 4)))
 have HB7:=q9 ((HB6.alloc HB6.size (.cells #[.bool false] 4)).grown hg7 (by simp;have:=HB6.size;omega) (fun r hr=>by cases hr))
 have HP7:=q9 (QbE (World.ownsRow.alloc HP6.out (.cells #[.bool false] 4)) fun i hi=>hg7.block i (by have:=World.ownsRow.lt HP6.out i hi;simp;omega) (fun e=>by cases e))
 have HQ7:=q9 hQ7;clear hu7 hg7 hQ7 HF6 HB6 HP6 f3 z3 flt;have f3:=HF7.cell 3;have z3:=HF7.frozen 3;have flt:=HF7.lt;go_upto_region 5 with fail
 clear f3 z3 flt;have HF8:Hid (Blk (w7.setCell (I1 fb 3) (I3 (I1 qa 0) 1 qc)) fb 158 #[.slice ra rn rc,(I3 (I1 pa 0) 1 pc),I3 (I1 mb 0) (na+1) (na+1),(I3 (I1 qa 0) 1 qc)]):=q9 (HF7.set_ 3 _)
 have HB8:=q9 (HB7.setCell (p:=(I1 fb 3)) (by rw[HMS.out];exact Nat.le_refl _) (I3 (I1 qa 0) 1 qc))
 have HP8:Hid ((w7.setCell (I1 fb 3) (I3 (I1 qa 0) 1 qc)).ownsRow w1.heap.size 88 1 (I3 (I1 pa 0) 1 pc) (0+1) (Qbf g 0)):=q9 (QaJ HP7.out HF7.out (by decide) 3 _)
 have HQ8:Hid ((w7.setCell (I1 fb 3) (I3 (I1 qa 0) 1 qc)).ownsRow w1.heap.size 4 1 (I3 (I1 qa 0) 1 qc) (0+1) (Qbi b.V 0)):=q9 (QaJ HQ7.out HF7.out (by decide) 3 _)
 generalize hw8:w7.setCell (I1 fb 3) (I3 (I1 qa 0) 1 qc)=w8 at HF8 HB8 HP8 HQ8 |-;clear hw8 HF7 HB7 HP7 HQ7 hqa;have HREL:Hid (KZ13 w1 b.V g (.slice ra rn rc) mb fb na (I 0) w8):=q9 ⟨0,pa,pc,qa,qc,Nat.zero_le _,rfl,HF8.out,HP8.out,HQ8.out,HB8.out⟩;clear HF8 HB8 HP8 HQ8;go_wp2_with fail
 go_loopw [11] (fun i wr=>KZ13 w1 b.V g (.slice ra rn rc) mb fb na i wr) (fun i _=>na-(intOf i).toNat)
 case atStart=>exact HREL.out
 case round=>
  clear HREL;obtain⟨k,pa,pc,qa,qc,hk,rfl,hF,hP,hQ,hb⟩:=hrel;have HF:=q9 hF;have HP:=q9 hP;have HQ:=q9 hQ;have HB:=q9 hb;have HBkK:=q9 (HBk.below hb);have HXK:=q9 (HX.below hb);clear hF hP hQ hb
  by_cases hkn:k<na
  . as_aux_lemma=>
    have HKN:=q9 hkn
    have kI:(k:Int)<(na:Int):=by omega
    have k0:(0:Int)<=(k:Int):=by omega
    have HBS:Hid (w1.heap.size<=wr.heap.size):=q9 HB.size;clear hk hkn;go_wp2_with fail
    have hd:Below wr.heap.size wr wr.drew:=(Below.refl _ _).drew;have HXd:=q9 (HXK.below hd);have HFd:=q9 (HF.below hd HF.lt);have HBd:=q9 (HBkK.below hd)
    have HAT:=q9 (Qny HT.out HBd.out (x:=k+1) (by omega) (by rw[HNA.out];exact HKN.out) (show (k:Int)+1=((k+1:Nat):Int) by omega))
    have HPd:Hid (wr.drew.ownsRow w1.heap.size 88 1 (I3 (I1 pa 0) (k+1) pc) (k+1) (Qbf g k)):=HP;have HQd:Hid (wr.drew.ownsRow w1.heap.size 4 1 (I3 (I1 qa 0) (k+1) qc) (k+1) (Qbi b.V k)):=HQ;have HWd:=q9 (HB.trans (hd.mono HBS.out));clear hd HXK HF HBkK HP HQ HB
    have wK:IntKind.i64.wrap ((k:Int)+1)=(k:Int)+1:=IntWalk.i64_in _ (by have:=HKN.out;omega)
    have hrule:∀ W:World,(BB W xb b/\Blk W fb 158 #[.slice ra rn rc,I3 (I1 pa 0) (k+1) pc,I3 (I1 mb 0) (na+1) (na+1),I3 (I1 qa 0) (k+1) qc])->_:=fun W h=>And.intro (BB.rule xb b W h.1) (show W.cell? (I1 fb 0)=some (.slice ra rn rc)/\W.cell? (I1 fb 1)=some (I3 (I1 pa 0) (k+1) pc)/\W.cell? (I1 fb 3)=some (I3 (I1 qa 0) (k+1) qc) from ⟨h.2.cell 0,h.2.cell 1,h.2.cell 3⟩)
    obtain⟨⟨c0,c1,c2,c3,c4,c5,c6⟩,f0,f1,f3⟩:=hrule _ ⟨HXd.out,HFd.out⟩;have xlt:=HXd.lt;have flt:=HFd.lt
    refine QcL (fun W=>BB W xb b/\Blk W fb 158 #[.slice ra rn rc,I3 (I1 pa 0) (k+1) pc,I3 (I1 mb 0) (na+1) (na+1),I3 (I1 qa 0) (k+1) qc]) (fun j=>decide (9<=j)) (by kernel_rfl) ?_ (fun hHeld=>?_)
    . exact⟨HXd,HFd⟩
    refine q9P 0 rfl ?_
    refine q9L 1 rfl ?_
    refine q9L 2 rfl ?_
    refine q9P 3 rfl ?_
    refine q9P 4 rfl ?_
    refine q9T 5 rfl fun K hK=>?_
    go_simp
    (refine HAT.mono ?_);rintro e w3 ⟨rfl,b3⟩;have HX3:=q9 (HXd.below b3);have HF3:=q9 (HFd.below b3 HFd.lt);have HB3:=q9 b3
    go_wp2_with fail
    refine hK.out _ _ ?_ (fun hHeld=>?_)
    . (try dsimp only);exact⟨HX3,HF3⟩
    clear hK K;try simp only[Act.put,q98]
    refine q9T 6 rfl fun K hK=>?_
    go_simp
    refine hK.out _ _ ?_ (fun hHeld=>?_)
    . (try dsimp only);exact⟨HX3.below ((Below.refl _ _).alloc (Nat.le_refl _) _),HF3.alloc _⟩
    clear hK K;try simp only[Act.put,q98]
    refine q9T 7 rfl fun K hK=>?_
    refine Qdy (n:=k+1) (base:=w1.heap.size) (xs:=Qbf g k) Tryz.underlying24 Qdh rfl (by decide) (by rfl) _ _ (by rfl) rfl QeG (World.ownsRow.alloc (QR HPd.out HB3.out) _) (I2 ((Qc9 g (k+1):Nat):Int)) rfl (I1 w3.heap.size 0) 1 rfl (Q5 _ _ _) (by have:=HKN.out;omega) (by have h1:=HB3.size;have h2:=HBS.out;simp at h1 |-;omega) ?_
    intro g9 cap9 w4 hu4 hg4 hlt4
    have HU4:Hid (w4.ownsRow w1.heap.size 88 1 (I3 (I1 g9 0) (k+1+1) cap9) (k+1+1) (Qbf g (k+1))):=q9 (by rw[QjY];exact hu4)
    have hbx:Below w1.heap.size w1 w4:=(((HWd.trans (HB3.mono (by have h2:=HBS.out;simpa using h2))).alloc (by have h1:=HB3.size;have h2:=HBS.out;simp at h1;omega) (.cells #[(I2 ((Qc9 g (k+1):Nat):Int))] 88))).grown hg4 (by have h1:=HB3.size;have h2:=HBS.out;simp at h1 |-;omega) (fun r hr=>(World.ownsRow.lt (World.ownsRow.alloc (QR HPd.out HB3.out) (.cells #[(I2 ((Qc9 g (k+1):Nat):Int))] 88)) r hr).1)
    have HB4:=q9 hbx;have HX4:=q9 (HX.below hbx)
    have HF4:Hid (Blk w4 fb 158 #[.slice ra rn rc,I3 (I1 pa 0) (k+1) pc,I3 (I1 mb 0) (na+1) (na+1),I3 (I1 qa 0) (k+1) qc]):=q9 (Qa7 (World.ownsRow.alloc (QR HPd.out HB3.out) (.cells #[(I2 ((Qc9 g (k+1):Nat):Int))] 88)) (HF3.alloc _) (by decide) hg4)
    have HQ4:Hid (w4.ownsRow w1.heap.size 4 1 (I3 (I1 qa 0) (k+1) qc) (k+1) (Qbi b.V k)):=q9 (Qeh (World.ownsRow.alloc (QR HQd.out HB3.out) (.cells #[(I2 ((Qc9 g (k+1):Nat):Int))] 88)) (World.ownsRow.alloc (QR HPd.out HB3.out) (.cells #[(I2 ((Qc9 g (k+1):Nat):Int))] 88)) (by decide) hg4)
    clear hbx hu4 hg4;have y7:=HF4.cell 1;have y8:=HF4.frozen 1;have y9:=HF4.lt
    refine hK.out _ _ ?_ (fun hHeld=>?_)
    . (try dsimp only);exact⟨HX4,HF4⟩
    clear hK K;try simp only[Act.put,q98]
    refine q9P 8 rfl ?_
    refine Till.ready (rs:=[9]) (by kernel_rfl) (by simp) ?_
    refine Qc.last rfl (by rfl) (fun K hK=>?_) ?_
    rotate_left
    . exact Qc.nil
    go_simp
    refine hK.out _ _ ?_;clear hK K;try simp only[Act.put,q98]
    refine Till.done (by kernel_rfl) ?_ _
    clear hHeld hrule c0 c1 c2 c3 c4 c5 c6 f0 f1 f3 xlt flt y7 y8 y9;have HF5:Hid (Blk (w4.setCell (I1 fb 1) (I3 (I1 g9 0) (k+1+1) cap9)) fb 158 #[.slice ra rn rc,I3 (I1 g9 0) (k+1+1) cap9,I3 (I1 mb 0) (na+1) (na+1),I3 (I1 qa 0) (k+1) qc]):=q9 (HF4.set_ 1 _)
    have HB5:=q9 (HB4.setCell (p:=(I1 fb 1)) (by rw[HMS.out];exact Nat.le_refl _) (I3 (I1 g9 0) (k+1+1) cap9))
    have HP5:=q9 (QaJ HU4.out HF4.out (by decide) 1 (I3 (I1 g9 0) (k+1+1) cap9))
    have HQ5:=q9 (QaJ HQ4.out HF4.out (by decide) 1 (I3 (I1 g9 0) (k+1+1) cap9))
    clear HF4 HB4 HU4 HQ4 HX4 HX3 HF3 HB3 HPd HQd HWd HXd HFd HBd HAT;generalize w4.setCell (I1 fb 1) (I3 (I1 g9 0) (k+1+1) cap9)=w5 at HF5 HB5 HP5 HQ5 |-;go_wp2_with fail
    obtain⟨m,hm0⟩:=HBk.al k (by rw[HNA.out];exact HKN)
    have hvk:=QiI HR.out hm0.2;obtain⟨vbk,hvbk⟩:∃ v,vx13 b.V (k+1)=v:=⟨_,rfl⟩;have HVB:=q9 hvbk;rw[hvbk] at hvk;have HD5:Below w5.heap.size w5 w5.drew:=(Below.refl _ _).drew;have HBS5:Hid (w1.heap.size<=w5.heap.size):=q9 HB5.size
    have HN9:Hid (∀ W:World,Below w1.heap.size w1 W->NmAt W b.ga k m):=q9 fun W hW=>hm0.1.below hW HBk.lt.2
    have HNM:Hid (NmAt w5 b.ga k m):=q9 (HN9.out _ HB5.out);have HGA:Hid (b.ga<w5.heap.size):=q9 (HBk.below HB5.out).lt.2;clear hm0 hvbk;have HND:Hid (NmAt w5.drew b.ga k m):=q9 (HNM.below HD5 HGA.out);have HFd:Hid (Blk w5.drew fb 158 #[.slice ra rn rc,I3 (I1 g9 0) (k+1+1) cap9,I3 (I1 mb 0) (na+1) (na+1),I3 (I1 qa 0) (k+1) qc]):=q9 (HF5.below HD5 HF5.lt);have hda:Below w5.heap.size w5 (w5.alloc (.cells #[.bool vbk] 4)).drew:=((Below.refl _ _).alloc (Nat.le_refl _) _).drew;have HNA5:Hid (NmAt (w5.alloc (.cells #[.bool vbk] 4)).drew b.ga k m):=q9 (HNM.below hda HGA.out);have HFA5:Hid (Blk (w5.alloc (.cells #[.bool vbk] 4)).drew fb 158 #[.slice ra rn rc,I3 (I1 g9 0) (k+1+1) cap9,I3 (I1 mb 0) (na+1) (na+1),I3 (I1 qa 0) (k+1) qc]):=q9 (HF5.below hda HF5.lt);have HWd:=q9 (HB5.trans (hda.mono HBS5.out));have HPd:Hid ((w5.alloc (.cells #[.bool vbk] 4)).drew.ownsRow w1.heap.size 88 1 (I3 (I1 g9 0) (k+1+1) cap9) (k+1+1) (Qbf g (k+1))):=q9 (QR HP5.out hda);have HQd:Hid ((w5.alloc (.cells #[.bool vbk] 4)).drew.ownsRow w1.heap.size 4 1 (I3 (I1 qa 0) (k+1) qc) (k+1) (Qbi b.V k)):=q9 (QR HQ5.out hda);clear HD5 HNM HF5 HB5 HP5 HQ5 hda
    have hrule:∀ W:World,(NmAt W b.ga k m/\Blk W fb 158 #[.slice ra rn rc,I3 (I1 g9 0) (k+1+1) cap9,I3 (I1 mb 0) (na+1) (na+1),I3 (I1 qa 0) (k+1) qc])->_:=fun W h=>And.intro (h.1.cells.1) (show W.cell? (I1 fb 0)=some (.slice ra rn rc)/\W.cell? (I1 fb 1)=some (I3 (I1 g9 0) (k+1+1) cap9)/\W.cell? (I1 fb 3)=some (I3 (I1 qa 0) (k+1) qc) from ⟨h.2.cell 0,h.2.cell 1,h.2.cell 3⟩)
    obtain⟨n0,f0,f1,f3⟩:=hrule _ ⟨HND.out,HFd.out⟩;have flt:=HFd.lt;have galt:=HGA.out
    refine QcL (fun W=>NmAt W b.ga k m/\Blk W fb 158 #[.slice ra rn rc,I3 (I1 g9 0) (k+1+1) cap9,I3 (I1 mb 0) (na+1) (na+1),I3 (I1 qa 0) (k+1) qc]) (fun j=>decide (11<=j)) (by kernel_rfl) ?_ (fun hHeld=>?_)
    . exact⟨HND,HFd⟩
    refine q9P 0 rfl ?_
    refine q9L 1 rfl ?_
    refine q9P 2 rfl ?_
    refine q9P 3 rfl ?_
    refine q9P 4 rfl ?_
    refine q9P 5 rfl ?_
    refine q9L 6 rfl ?_
    refine q9P 7 rfl ?_
    refine q9T 8 rfl fun K hK=>?_
    go_simp
    refine hK.out _ _ ?_ (fun hHeld=>?_)
    . (try dsimp only);exact⟨HNA5,HFA5⟩
    clear hK K;try simp only[Act.put,q98]
    refine q9T 9 rfl fun K hK=>?_
    refine Qdy (n:=k+1) (base:=w1.heap.size) (v:=I3 (I1 qa 0) (k+1) qc) (xs:=Qbi b.V k) Tryz.underlying156 Qlh rfl (by decide) (by rfl) _ _ (by rfl) rfl Qew HQd.out (.bool vbk) rfl (I1 w5.heap.size 0) 1 rfl (Q5 _ _ _) (by have:=HKN.out;omega) HWd.size ?_
    intro g8 cap8 w7 hu7 hg7 hlt7
    have HU7:Hid (w7.ownsRow w1.heap.size 4 1 (I3 (I1 g8 0) (k+1+1) cap8) (k+1+1) (Qbi b.V (k+1))):=q9 (by rw[QjE,HVB.out];exact hu7)
    have hbx:Below w1.heap.size w1 w7:=HWd.grown hg7 HWd.size (fun r hr=>(World.ownsRow.lt HQd.out r hr).1)
    have HB7:=q9 hbx
    have HF7:Hid (Blk w7 fb 158 #[.slice ra rn rc,I3 (I1 g9 0) (k+1+1) cap9,I3 (I1 mb 0) (na+1) (na+1),I3 (I1 qa 0) (k+1) qc]):=q9 (Qa7 HQd.out HFA5.out (by decide) hg7)
    have HP7:Hid (w7.ownsRow w1.heap.size 88 1 (I3 (I1 g9 0) (k+1+1) cap9) (k+1+1) (Qbf g (k+1))):=q9 (Qeh HPd.out HQd.out (by decide) hg7)
    have HN7:Hid (NmAt w7 b.ga k m):=q9 (HN9.out w7 hbx);clear hbx hu7 hg7;have y7:=HF7.cell 3;have y8:=HF7.frozen 3;have y9:=HF7.lt
    refine hK.out _ _ ?_ (fun hHeld=>?_)
    . (try dsimp only);exact⟨HN7,HF7⟩
    clear hK K;try simp only[Act.put,q98]
    refine q9P 10 rfl ?_
    refine Till.ready (rs:=[11]) (by kernel_rfl) (by simp) ?_
    refine Qc.last rfl (by rfl) (fun K hK=>?_) ?_
    rotate_left
    . exact Qc.nil
    go_simp
    refine hK.out _ _ ?_;clear hK K;try simp only[Act.put,q98]
    refine Till.done (by kernel_rfl) ?_ _
    clear hHeld hrule n0 f0 f1 f3 flt galt y7 y8 y9
    have HN5:Hid (KZ13 w1 b.V g (.slice ra rn rc) mb fb na (I ((k:Int)+1)) (w7.setCell (I1 fb 3) (I3 (I1 g8 0) (k+1+1) cap8))):=q9 ⟨k+1,g9,cap9,g8,cap8,HKN.out,by simp,HF7.set_ 3 _,QaJ HP7.out HF7.out (by decide) 3 _,QaJ HU7.out HF7.out (by decide) 3 _,HB7.setCell (p:=(I1 fb 3)) (by rw[HMS.out];exact Nat.le_refl _) _⟩
    clear HF7 HB7 HU7 HP7 HN7 HND HFd HWd HPd HQd HNA5 HFA5;generalize w7.setCell (I1 fb 3) (I3 (I1 g8 0) (k+1+1) cap8)=w9 at HN5 |-;go_wp2_with fail
    go_roundw
    case rel=>exact HN5.out
    case measure=>simp [intOf];omega
  . as_aux_lemma=>
    have ek:na=k:=by omega
    subst ek
    have kN:¬ (na:Int)<(na:Int):=by omega
    have HFS:Hid (FS wr pa mb qa na (Qc9 g) mk (vx13 b.V)):=q9 (by
     obtain⟨zp,hzp,hxp⟩:=Qfn HP.out QeG (by omega)
     obtain⟨zq,hzq,hxq⟩:=Qfn HQ.out Qew (by omega)
     obtain⟨zm,hzm,hxm,hsm⟩:=HM.below HB.out
     exact⟨⟨zp,hzp,fun x hx=>hxp x _ (QmZ hx)⟩,⟨zm,hzm,hsm,fun x hx=>hxm x (by omega)⟩,⟨zq,hzq,fun x hx=>hxq x _ (QmC hx)⟩⟩)
    have HRVk:=q9 (HRV.below HB.out);have HROk:=q9 (HRO.below HB.out)
    have HNZ:Hid (∀ t∈TLv b.V L ts b.na,t∈ts/\t.row.length<=na/\∀ y∈t.row,y≠0/\y<=na):=q9 fun t ht=>by
     have h1:=((Qcd HT.fi).1 ht).1
     refine⟨h1,by rw[<-HNA.out];exact HT.row_len HBk h1,fun y hy=>?_⟩
     have:=HT.node HBk.out h1 hy;rw[HNA.out] at this
     exact⟨by omega,this.2⟩
    obtain⟨rc7,hrc⟩:∃ rc,recF (vx13 b.V) mk (TLv b.V L ts b.na) (fun _ _=>0)=rc:=⟨_,rfl⟩
    have HNI:Hid (∀ t∈TLv b.V L ts b.na,∀ y∈t.row,QcG g rc7 y):=q9 fun t ht y hy=>by
     rw[<-hrc]
     refine Qig HT.fi.hm (fun t ht=>?_) (QbA HT.fi b.na) t ht y hy
     obtain⟨h1,h2,h3⟩:=HNZ.out t ht
     exact⟨⟨(HT.fi.st t h1).1.1.vx fun y hy=>if_neg (h3 y hy).1,(HT.fi.st t h1).1.2⟩,by unfold Tp.size;omega,fun y hy=>(h3 y hy).1⟩
    have htl:(TLv b.V L ts b.na).length<=100000:=by
     have h1:(TLv b.V L ts b.na).length<=(List.range' 1 b.na).length:=List.length_filterMap_le _ _;rw[List.length_range'] at h1;have:=HNA.out;omega
    have HND:=Qhn (cp:=pc) (cm:=na+1) (cv:=qc) HT.fi.hm HFS.out HRVk.out HROk.out (fun t ht=>by
     obtain⟨h1,h2,h3⟩:=HNZ.out t ht
     exact⟨(HT.fi.st t h1).2.1.congr13 fun x hx=>if_neg (h3 x hx).1,fun y hy=>(h3 y hy).2,by omega⟩) (by omega) htl
    rw[hrc] at HND;have HNDH:=q9 HND;obtain⟨f0,f1,f2,f3⟩:wr.cell? (I1 fb 0)=some (.slice ra rn rc)/\wr.cell? (I1 fb 1)=some (I3 (I1 pa 0) (na+1) pc)/\wr.cell? (I1 fb 2)=some (I3 (I1 mb 0) (na+1) (na+1))/\wr.cell? (I1 fb 3)=some (I3 (I1 qa 0) (na+1) qc):=⟨HF.cell 0,HF.cell 1,HF.cell 2,HF.cell 3⟩;have flt:=HF.lt;clear HFS HRVk HROk hrc htl HND HP HQ HF HXK HBkK HM HRV HRO;go_wp2_with fail
    refine HNDH.mono ?_;rintro e w5 ⟨ob,co,rfl,hob,hO,b5⟩;have HB5:=q9 (HB.trans (b5.mono HB.size));have HREL2:Hid (KY13 w1 ob na rc7 (I 0) w5):=q9 ⟨0,Nat.zero_le _,rfl,hO,HB5.out⟩;clear hob hO b5 f0 f1 f2 f3 flt HNDH HB HB5;go_wp2_with fail
    go_loopw [13] (fun i wr=>KY13 w1 ob na rc7 i wr) (fun i _=>na-(intOf i).toNat)
    case atStart=>exact HREL2.out
    case round=>
     clear HREL2;obtain⟨k,hk,rfl,hO,hb⟩:=hrel;have HO:=q9 hO;have HB:=q9 hb;have HBkK:=q9 (HBk.below hb);have HXK:=q9 (HX.below hb);clear hO hb
     by_cases hkn:k<na
     . as_aux_lemma=>
       have HKN:=q9 hkn
       obtain⟨m,hm0⟩:=HBkK.al k (by rw[HNA.out];exact hkn)
       have HOF:Hid (lvN b.V (k+1)=ofF m):=q9 (Qfu HR.out hm0.2);obtain⟨n0,n1,n2,n3⟩:=hm0.1.cells;have galt:=HBkK.lt.2
       have kI:(k:Int)<(na:Int):=by omega
       have k0:(0:Int)<=(k:Int):=by omega
       clear hm0 hk hkn;go_wp2_with fail
       refine(Qp1 m _).mono ?_;rintro e w3 ⟨rfl,b3⟩;have HB3:=q9 (HB.trans (b3.mono HB.size));have HO3:=q9 (HO.below b3);have HBk3:=q9 (HBkK.below b3);have HX3:=q9 (HXK.below b3);clear n0 n1 n2 n3 galt HB HO HBkK HXK b3
       by_cases hlv:ofF m=(L:Int)
       rotate_left
       . as_aux_lemma=>
         have HN5:Hid (KY13 w1 ob na rc7 (I ((k:Int)+1)) w3):=q9 ⟨k+1,HKN.out,by simp,HO3.out,HB3.out⟩
         have hne:(ofF m !=(L:Int))=true:=by simpa using hlv
         clear HO3 HBk3 HX3 HB3;go_wp2_with fail
         exact⟨HN5.out,by have:=HKN.out;simp [intOf];omega⟩
       . rw[hlv]
         have hne:((L:Int) !=(L:Int))=false:=by simp
         have HLK:Hid (lvN b.V (k+1)=(L:Int)):=q9 (HOF.trans hlv)
         have hk2:k+1<=b.na:=by rw[HNA.out];exact HKN
         have HK2:=q9 hk2
         obtain⟨n0,n1,n2,n6,m3,m4,m5,m6⟩:QcG g rc7 (k+1):=by
          obtain⟨t,ht,hx⟩:=(HT.fi.al (k+1)).1 ⟨by omega,by have h2:b.na=nN b.V b.S:=HBk.ha;omega⟩
          have hr:=HT.fi.root_in ht;have hrb:=HT.node HBk.out ht hr.1
          exact HNI.out t ((Qcd HT.fi).2 ⟨ht,hrb.2,by rw[HT.lv t ht _ hr.1 _ hx];exact HLK⟩) _ hx
         obtain⟨b3,b4⟩:=HT.bd HBk.out (x:=k+1) (by omega) hk2
         have hwL:IntKind.i64.wrap ((g (k+1) 3:Nat):Int)=((g (k+1) 3:Nat):Int):=IntWalk.i64_in _ (by omega)
         have hwR:IntKind.i64.wrap ((g (k+1) 4:Nat):Int)=((g (k+1) 4:Nat):Int):=IntWalk.i64_in _ (by omega)
         have oblt:=HO3.lt;obtain⟨zs,hz,hzs,hcs⟩:=HO3.out
         have c0:=(hz.cell ((k+1)*7)).trans (hcs (k+1) 0 HKN.out (by omega))
         have c1:=(hz.cell ((k+1)*7+1)).trans (hcs (k+1) 1 HKN.out (by omega))
         have c2:=(hz.cell ((k+1)*7+2)).trans (hcs (k+1) 2 HKN.out (by omega))
         have c3:=(hz.cell ((k+1)*7+3)).trans (hcs (k+1) 3 HKN.out (by omega))
         have c4:=(hz.cell ((k+1)*7+4)).trans (hcs (k+1) 4 HKN.out (by omega))
         have c5:=(hz.cell ((k+1)*7+5)).trans (hcs (k+1) 5 HKN.out (by omega))
         have c6:=(hz.cell ((k+1)*7+6)).trans (hcs (k+1) 6 HKN.out (by omega))
         rw[<-n0] at c0;rw[<-n1] at c1;rw[<-n2] at c2;obtain⟨r3,e3⟩:∃ r,rc7 (k+1) 3=r:=⟨_,rfl⟩;obtain⟨r4,e4⟩:∃ r,rc7 (k+1) 4=r:=⟨_,rfl⟩;obtain⟨r5,e5⟩:∃ r,rc7 (k+1) 5=r:=⟨_,rfl⟩;obtain⟨r6,e6⟩:∃ r,rc7 (k+1) 6=r:=⟨_,rfl⟩;rw[e3] at c3 n6 m3;rw[e4] at c4 n6 m4;rw[e5] at c5 n6 m5;rw[e6] at c6 n6 m6
         have HSM:Hid (∀ W:World,Calls Tryz.prog 110 #[.agg #[I (g (k+1) 2:Int),I (g (k+1) 3:Int),I (g (k+1) 4:Int),I (r3:Int),I (r4:Int),I (r5:Int),I (r6:Int)]] W fun e w'=>e=.returned (I2 (g (k+1) 6:Int))/\Below W.heap.size W w'):=q9 fun W=>by rw[n6];exact QjT m3 m4 m5 m6 W
         have k600:(k:Int)+1<=561:=by omega
         have kI2:(k:Int)+1<(na:Int)+1:=by omega
         have wK:IntKind.i64.wrap ((k:Int)+1)=(k:Int)+1:=IntWalk.i64_in _ (by omega)
         have HXI:Hid ((k:Int)+1=((k+1:Nat):Int)):=q9 (by omega)
         clear n0 n1 n2 n6 m3 m4 m5 m6 e3 e4 e5 e6 hz hzs hcs b3 b4 hk2;go_wp2_with fail
         have HOa:Hid (OB (w3.alloc (.cells #[I (g (k+1) 2:Int),I (g (k+1) 3:Int),I (g (k+1) 4:Int),I (r3:Int),I (r4:Int),I (r5:Int),I (r6:Int)] 162)) ob na rc7):=q9 (HO3.below ((Below.refl _ _).alloc (Nat.le_refl _) _));have HBa:=q9 (HB3.alloc HB3.size (.cells #[I (g (k+1) 2:Int),I (g (k+1) 3:Int),I (g (k+1) 4:Int),I (r3:Int),I (r4:Int),I (r5:Int),I (r6:Int)] 162));have HKa:=q9 (HBk3.alloc (.cells #[I (g (k+1) 2:Int),I (g (k+1) 3:Int),I (g (k+1) 4:Int),I (r3:Int),I (r4:Int),I (r5:Int),I (r6:Int)] 162));have HSa:Hid (Qe3 (w3.alloc (.cells #[I (g (k+1) 2:Int),I (g (k+1) 3:Int),I (g (k+1) 4:Int),I (r3:Int),I (r4:Int),I (r5:Int),I (r6:Int)] 162)) xb w3.heap.size b (g (k+1) 2) (g (k+1) 3) (g (k+1) 4) r3 r4 r5 r6):=q9 ⟨HX3.below ((Below.refl _ _).alloc (Nat.le_refl _) _),Blk.new _ _ _⟩;generalize w3.heap.size=nb at HSa |-;generalize w3.alloc (.cells #[I (g (k+1) 2:Int),I (g (k+1) 3:Int),I (g (k+1) 4:Int),I (r3:Int),I (r4:Int),I (r5:Int),I (r6:Int)] 162)=W0 at HOa HBa HKa HSa |-;clear HO3 HB3 HBk3 HX3 c0 c1 c2 c3 c4 c5 c6 oblt;have hd:Below W0.heap.size W0 W0.drew:=(Below.refl _ _).drew;have hpn:=Qe3.rule xb nb b (g (k+1) 2) (g (k+1) 3) (g (k+1) 4) r3 r4 r5 r6;have HQd:=q9 (HSa.below hd);have HOd:=q9 (HOa.below hd);have HBd:=q9 (HBa.trans (hd.mono HBa.size));have HKd:=q9 (HKa.below hd);clear HSa HOa HBa HKa hd;obtain⟨⟨c0,c1,c2,c3,c4,c5,c6⟩,y0,y1,y2,y3,y4,y5,y6⟩:=hpn _ HQd.out;have xlt:=HQd.1.lt;have hlt2:=Blk.lt HQd.2
         go_region_held3 (fun W=>Qe3 W xb nb b (g (k+1) 2) (g (k+1) 3) (g (k+1) 4) r3 r4 r5 r6) (first|(with_reducible assumption)|(with_reducible exact Qe3.below (by assumption) hb1)|(with_reducible exact HQd.out))
          (first
           |(go_at_call 51;((with_reducible refine(Qji (x:=k+1) (k:=3) (xI:=(k:Int)+1) (kI:=3) HT.out (Hid.out (by assumption:Hid (Bk _ b cv))) (Nat.le_add_left 1 k) HK2.out (by decide) (by decide) HXI.out rfl).mono ?_);rintro e w6 ⟨rfl,hb1⟩;have HKd:=q9 (Bk.below (Hid.out (by assumption:Hid (Bk _ b cv))) hb1);have HOd:=q9 (OB.below (Hid.out (by assumption:Hid (OB _ ob na rc7))) hb1);have HBd:=q9 (Below.over13 (Hid.out (by assumption:Hid (Below w1.heap.size w1 _))) hb1)))
           |(go_at_call 51;((with_reducible refine(Qji (x:=k+1) (k:=4) (xI:=(k:Int)+1) (kI:=4) HT.out (Hid.out (by assumption:Hid (Bk _ b cv))) (Nat.le_add_left 1 k) HK2.out (by decide) (by decide) HXI.out rfl).mono ?_);rintro e w6 ⟨rfl,hb1⟩;have HKd:=q9 (Bk.below (Hid.out (by assumption:Hid (Bk _ b cv))) hb1);have HOd:=q9 (OB.below (Hid.out (by assumption:Hid (OB _ ob na rc7))) hb1);have HBd:=q9 (Below.over13 (Hid.out (by assumption:Hid (Below w1.heap.size w1 _))) hb1)))
           |(go_at_call 51;((with_reducible refine(Qji (x:=k+1) (k:=6) (xI:=(k:Int)+1) (kI:=6) HT.out (Hid.out (by assumption:Hid (Bk _ b cv))) (Nat.le_add_left 1 k) HK2.out (by decide) (by decide) HXI.out rfl).mono ?_);rintro e w6 ⟨rfl,hb1⟩;have HKd:=q9 (Bk.below (Hid.out (by assumption:Hid (Bk _ b cv))) hb1);have HOd:=q9 (OB.below (Hid.out (by assumption:Hid (OB _ ob na rc7))) hb1);have HBd:=q9 (Below.over13 (Hid.out (by assumption:Hid (Below w1.heap.size w1 _))) hb1)))
           |(go_at_call 107;((with_reducible refine(Qij (x:=k+1) (L:=L) (xI:=(k:Int)+1) (LI:=(L:Int)) HT.out (Hid.out (by assumption:Hid (Bk _ b cv))) (Nat.le_add_left 1 k) HK2.out HLK.out HXI.out rfl).mono ?_);rintro e w6 ⟨rfl,hb1⟩;have HKd:=q9 (Bk.below (Hid.out (by assumption:Hid (Bk _ b cv))) hb1);have HOd:=q9 (OB.below (Hid.out (by assumption:Hid (OB _ ob na rc7))) hb1);have HBd:=q9 (Below.over13 (Hid.out (by assumption:Hid (Below w1.heap.size w1 _))) hb1)))
           |(go_at_call 110;((with_reducible refine(HSM.out _).mono ?_);rintro e w6 ⟨rfl,hb1⟩;have HKd:=q9 (Bk.below (Hid.out (by assumption:Hid (Bk _ b cv))) hb1);have HOd:=q9 (OB.below (Hid.out (by assumption:Hid (OB _ ob na rc7))) hb1);have HBd:=q9 (Below.over13 (Hid.out (by assumption:Hid (Below w1.heap.size w1 _))) hb1)))
           |fail)
         clear c0 c1 c2 c3 c4 c5 c6 y0 y1 y2 y3 y4 y5 y6 xlt hlt2 hpn
         have HN5:Hid (KY13 w1 ob na rc7 (I ((k:Int)+1)) _):=q9 ⟨k+1,HKN.out,by simp,HOd.out,HBd.out⟩
         clear HOd HBd HKd HQd hb1;go_wp2_with fail
         go_roundw
         case rel=>exact HN5.out
         case measure=>have:=HKN.out;simp [intOf];omega
     . as_aux_lemma=>
       have ek:na=k:=by omega
       subst ek
       have kN:¬ (na:Int)<(na:Int):=by omega
       have HWW:=q9 (HW.trans (HB.mono HW.size));clear HO HB HBkK HXK;go_wp2_with fail
       go_ret;exact⟨rfl,HWW⟩
end
theorem Qdj {a:Nat}(h:a<4):hasB (a ||| 1) 0=true/\hasB (a ||| 1) 1=hasB a 1:=by
 have h9:∀ a:Fin 4,hasB (a.1 ||| 1) 0=true/\hasB (a.1 ||| 1) 1=hasB a.1 1:=by decide
 exact h9 ⟨a,h⟩
theorem QgO {a:Nat}(h:a<4):hasB (a ||| 2) 1=true/\hasB (a ||| 2) 0=hasB a 0:=by
 have h9:∀ a:Fin 4,hasB (a.1 ||| 2) 1=true/\hasB (a.1 ||| 2) 0=hasB a.1 0:=by decide
 exact h9 ⟨a,h⟩
theorem Qml {a b:Nat}(ha:a<4)(hb:b<4)(h0:hasB a 0=hasB b 0)(h1:hasB a 1=hasB b 1):a=b:=by
 have h9:∀ a b:Fin 4,hasB a.1 0=hasB b.1 0->hasB a.1 1=hasB b.1 1->a=b:=by decide
 exact congrArg Fin.val (h9 ⟨a,ha⟩ ⟨b,hb⟩ h0 h1)
section
variable {V S T:Int}{x y L L' s u v a c z:Nat}{m mk:Nat->Nat}{e:E1}{es bs:List E1}{q:Nat->Nat->List Nat}{f:Nat->Int}{ts:List Tp}{nm:Nm}
theorem Qjm (hR:Rt V S T)(hs:(s:Int)<S):QhJ V s L=An V S L s 0:=by
 rw[QcI hs (by decide)]
 unfold QhJ arI
 have h1:0<=(s:Int)*sn V:=Int.mul_nonneg (by omega) (by unfold sn;have:=QF V;omega)
 have h6:=(sizes hR).vn1;omega
theorem Qlm (hR:Rt V S T)(hL:(L:Int)<lv V)(hL':(L':Int)<lv V)(hu:(u:Int)<V)(hv:(v:Int)<V)(e:Xn V L u=Xn V L' v):L=L'/\u=v:=by
 have h1:=(QaG hR hL hu).2.2.2.1;have h2:=(QaG hR hL' hv).2.2.2.1;rw[<-QbP (L:=L) hu] at h1;rw[<-QbP (L:=L') hv,<-e,h1] at h2
 have:L=L':=by omega
 subst this;exact⟨rfl,Qeu hR hL _ _ e⟩
theorem Qa8 (hR:Rt V S T)(h:Qn V S nm z):(∃ L u:Nat,(L:Int)<lv V/\(u:Int)<V/\z+1=Xn V L u)\/∃ L s d:Nat,(L:Int)<lv V/\(s:Int)<S/\d<2/\z+1=An V S L s d:=by
 rcases h with ⟨h1,h2,h3,h5,h6,h7,h8⟩|⟨h1,h2,h3,h5,h6,h7,h8⟩
 . left
   refine⟨nm.a.toNat,nm.b.toNat,by omega,by omega,?_⟩
   rw[QbP (by omega)]
   have e1:((nm.a.toNat:Nat):Int)=nm.a:=by omega
   have e2:((nm.b.toNat:Nat):Int)=nm.b:=by omega
   have h9:=QaV (L:=nm.a.toNat) (u:=nm.b.toNat) hR (by omega) (by omega)
   rw[e1,e2] at h9;omega
 . right
   refine⟨nm.b.toNat,nm.a.toNat,nm.c.toNat,by omega,by omega,by omega,?_⟩
   rw[QcI (by omega) (by omega)]
   have e1:((nm.a.toNat:Nat):Int)=nm.a:=by omega
   have e2:((nm.b.toNat:Nat):Int)=nm.b:=by omega
   have e3:((nm.c.toNat:Nat):Int)=nm.c:=by omega
   have h9:=QeZ (L:=nm.b.toNat) (s:=nm.a.toNat) (d:=nm.c.toNat) hR (by omega) (by omega) (by omega)
   rw[e1,e2,e3] at h9;omega
theorem Qkd (h:∀ x,m x<4):hasB (Qax V m e x) 1=true↔hasB (m x) 1=true\/(e.t=true/\x=QhJ V e.s e.l):=by
 have h1:=(Qdj (h x)).2
 have h11:hasB (m x ||| 1 ||| 1) 1=hasB (m x) 1:=by rw[(Qdj (Qcm (h x) (by decide))).2,h1]
 have h2:=(QgO (h x)).1;unfold Qax
 cases ht:e.t with
 |true=>
  rw[if_pos rfl];try dsimp only
  split
  . rename_i c;rw[h2];simp [c]
  . rename_i c;simp [c]
 |false=>
  rw[if_neg (by decide)];try dsimp only
  split
  . split
    . rw[h11];simp
    . rw[h1];simp
  . split
    . rw[h1];simp
    . simp
theorem Qke (h:∀ x,m x<4):hasB (Qax V m e x) 0=true↔hasB (m x) 0=true\/(e.t=false/\(x=ndA V e.v e.l\/x=ndA V e.u e.l)):=by
 have h1:=(Qdj (h x)).1
 have h11:hasB (m x ||| 1 ||| 1) 0=true:=(Qdj (Qcm (h x) (by decide))).1
 have h2:=(QgO (h x)).2;unfold Qax
 cases ht:e.t with
 |true=>
  rw[if_pos rfl];try dsimp only
  split
  . rw[h2];simp
  . simp
 |false=>
  rw[if_neg (by decide)];try dsimp only
  split
  . rename_i c
    split
    . rw[h11];simp [c]
    . rw[h1];simp [c]
  . rename_i c
    split
    . rename_i c2;rw[h1];simp [c2]
    . rename_i c2;simp [c,c2]
theorem QiX:∀ (es:List E1) (m:Nat->Nat),(∀ x,m x<4)->(hasB (es.foldl (Qax V) m x) 1=true↔hasB (m x) 1=true\/∃ e∈es,e.t=true/\x=QhJ V e.s e.l)
 |[],m,h=>by simp
 |e :: es,m,h=>by
  rw[List.foldl_cons,QiX es _ (QeP V m e h),Qkd h];simp only[List.mem_cons,exists_eq_or_imp,or_assoc]
theorem QiY:∀ (es:List E1) (m:Nat->Nat),(∀ x,m x<4)->(hasB (es.foldl (Qax V) m x) 0=true↔hasB (m x) 0=true\/∃ e∈es,e.t=false/\(x=ndA V e.v e.l\/x=ndA V e.u e.l))
 |[],m,h=>by simp
 |e :: es,m,h=>by
  rw[List.foldl_cons,QiY es _ (QeP V m e h),Qke h];simp only[List.mem_cons,exists_eq_or_imp,or_assoc]
theorem Qkc (hR:Rt V S T)(hE:∀ e∈bs,e.u<e.v/\(e.v:Int)<V/\(e.s:Int)<S/\(e.l:Int)<lv V)(hF:LF V S T f mk ts bs q)(h4:∀ x,mk x<4)(hm:∀ e,e∈es↔e∈bs)(hz:Qn V S nm z):es.foldl (Qax V) (fun _=>0) (z+1)=mk (z+1):=by
 have h0:∀ x:Nat,(fun _:Nat=>0) x<4:=fun _=>(by decide:(0:Nat)<4)
 have hz0:∀ k,hasB ((fun _:Nat=>0) (z+1)) k=true↔False:=fun k=>by rw[show (fun _:Nat=>0) (z+1)=0 from rfl,Qbt];simp
 refine Qml (Qde es _ h0 _) (h4 _) ?_ ?_
 . rw[Bool.eq_iff_iff,QiY es _ h0,hz0,false_or]
   rcases Qa8 hR hz with ⟨L,u,hL,hu,e⟩|⟨L,s,d,hL,hs,hd,e⟩
   . rw[e,<-Qbr hR hu hL,hF.mq u L hu hL,decide_eq_true_eq]
     constructor
     . rintro⟨x,hx,ht,hx2⟩
       have hb:=(hm x).1 hx;obtain⟨b1,b2,b3,b4⟩:=hE x hb
       have hbf:x∈bs.filter fun e=>!e.t:=List.mem_filter.2 ⟨hb,by simp [ht]⟩
       rcases hx2 with h|h
       . rw[Qbr hR hu hL,Qbr hR b2 b4] at h
         obtain⟨e1,e2⟩:=Qlm hR hL b4 hu b2 h;have:2*x.s+2∈q u L:=(hF.lk u L _).2 ⟨x,hbf,e1.symm,.inr ⟨rfl,e2.symm⟩⟩;exact List.ne_nil_of_mem this
       . rw[Qbr hR hu hL,Qbr hR (by omega) b4] at h
         obtain⟨e1,e2⟩:=Qlm hR hL b4 hu (by omega) h
         have:2*x.s+1∈q u L:=(hF.lk u L _).2 ⟨x,hbf,e1.symm,.inl ⟨rfl,e2.symm⟩⟩;exact List.ne_nil_of_mem this
     . intro hne
       obtain⟨y,hy⟩:=List.exists_mem_of_ne_nil _ hne;obtain⟨x,hx,h1,h2⟩:=(hF.lk u L y).1 hy;obtain⟨hx1,hx2⟩:=List.mem_filter.1 hx
       refine⟨x,(hm x).2 hx1,by simpa using hx2,?_⟩
       rcases h2 with ⟨_,h2⟩|⟨_,h2⟩
       . right;rw[h1,h2]
       . left;rw[h1,h2]
   . rw[e,(hF.pa L s d hL hs hd).2]
     constructor
     . rintro⟨x,hx,_,hx2⟩
       obtain⟨b1,b2,b3,b4⟩:=hE x ((hm x).1 hx)
       rcases hx2 with h|h
       . rw[Qbr hR b2 b4] at h;exact absurd h.symm (QdW hR b4 hL b2 hs hd)
       . rw[Qbr hR (by omega) b4] at h;exact absurd h.symm (QdW hR b4 hL (by omega) hs hd)
     . intro h;cases h
 . rw[Bool.eq_iff_iff,QiX es _ h0,hz0,false_or]
   rcases Qa8 hR hz with ⟨L,u,hL,hu,e⟩|⟨L,s,d,hL,hs,hd,e⟩
   . rw[e,hF.px L u hL hu]
     constructor
     . rintro⟨x,hx,_,hx2⟩
       obtain⟨b1,b2,b3,b4⟩:=hE x ((hm x).1 hx);rw[Qjm hR b3] at hx2
       exact absurd hx2 (QdW hR hL b4 hu b3 (by decide))
     . intro h;cases h
   . rw[e,(hF.pa L s d hL hs hd).1]
     constructor
     . rintro⟨x,hx,ht,hx2⟩
       have hb:=(hm x).1 hx;obtain⟨b1,b2,b3,b4⟩:=hE x hb;rw[Qjm hR b3] at hx2
       obtain⟨e1,e2,e3⟩:=Qjy hR hL b4 hs b3 hd (by decide) hx2
       exact⟨e3,x,hb,e2.symm,ht,e1.symm⟩
     . rintro⟨rfl,x,hb,e2,ht,e1⟩
       refine⟨x,(hm x).2 hb,ht,?_⟩;rw[Qjm hR (hE x hb).2.2.1,e1,e2]
end
section
variable {L s a c n:Nat}{es bs:List E1}{g g':List (Option (Nat × Nat))}{E E':List (Nat × Nat × Nat)}
theorem QfA:∀ (es:List E1) (gr:List (Option (Nat × Nat))),(es.Pairwise fun a b=>a.s≠b.s)->(∀ e∈es,e.s<gr.length)->((es.foldl (QaW L) gr)[s]?=some (some (a,c))↔((∃ e∈es,e.t=true/\L<=e.l/\e.s=s/\e.u=a/\e.v=c)\/((∀ e∈es,e.t=true->L<=e.l->e.s≠s)/\gr[s]?=some (some (a,c)))))
 |[],gr,_,_=>by simp
 |e :: es,gr,hp,hl=>by
  obtain⟨h1,h2⟩:=List.pairwise_cons.1 hp
  rw[List.foldl_cons,QfA es _ h2 (fun x hx=>by rw[Qfz];exact hl x (List.mem_cons_of_mem _ hx))]
  have hes:=hl e (List.mem_cons_self ..);unfold QaW
  by_cases c1:e.t=true/\L<=e.l
  . rw[if_pos (by simp [c1.1,c1.2])]
    by_cases e2:e.s=s
    . subst e2
      rw[List.getElem?_set_self hes]
      constructor
      . rintro(⟨x,hx,hh⟩|⟨_,h⟩)
        . exact absurd hh.2.2.1.symm (h1 x hx)
        . injection h with h
          injection h with h;injection h with h3 h4;exact .inl ⟨e,List.mem_cons_self ..,c1.1,c1.2,rfl,h3,h4⟩
      . rintro(⟨x,hx,hh⟩|⟨hn,_⟩)
        . rcases List.mem_cons.1 hx with rfl|hx
          . exact .inr ⟨fun y hy _ _ e=>h1 y hy e.symm,by rw[hh.2.2.2.1,hh.2.2.2.2]⟩
          . exact absurd hh.2.2.1.symm (h1 x hx)
        . exact absurd rfl (hn e (List.mem_cons_self ..) c1.1 c1.2)
    . rw[List.getElem?_set_ne e2]
      constructor
      . rintro(⟨x,hx,hh⟩|⟨hn,h⟩)
        . exact .inl ⟨x,List.mem_cons_of_mem _ hx,hh⟩
        . refine .inr ⟨fun y hy=>?_,h⟩
          rcases List.mem_cons.1 hy with rfl|hy
          . exact fun _ _=>e2
          . exact hn y hy
      . rintro(⟨x,hx,hh⟩|⟨hn,h⟩)
        . rcases List.mem_cons.1 hx with rfl|hx
          . exact absurd hh.2.2.1 e2
          . exact .inl ⟨x,hx,hh⟩
        . exact .inr ⟨fun y hy=>hn y (List.mem_cons_of_mem _ hy),h⟩
  . rw[if_neg (by simpa using c1)]
    constructor
    . rintro(⟨x,hx,hh⟩|⟨hn,h⟩)
      . exact .inl ⟨x,List.mem_cons_of_mem _ hx,hh⟩
      . refine .inr ⟨fun y hy h3 h4=>?_,h⟩
        rcases List.mem_cons.1 hy with rfl|hy
        . exact absurd ⟨h3,h4⟩ c1
        . exact hn y hy h3 h4
    . rintro(⟨x,hx,hh⟩|⟨hn,h⟩)
      . rcases List.mem_cons.1 hx with rfl|hx
        . exact absurd ⟨hh.1,hh.2.1⟩ c1
        . exact .inl ⟨x,hx,hh⟩
      . exact .inr ⟨fun y hy=>hn y (List.mem_cons_of_mem _ hy),h⟩
theorem QiZ (hp:es.Pairwise fun a b=>a.s≠b.s)(hl:∀ e∈es,e.s<n):Lnk (es.foldl (QaW L) (List.replicate n none)) (tE es L):=fun s a b=>by
 rw[QG,QfA es _ hp (by simpa using hl)]
 constructor
 . exact .inl
 . rintro(h|⟨_,h⟩)
   . exact h
   . rw[List.getElem?_replicate] at h
     split at h<;>simp at h
theorem Lnk.uniq (h:Lnk g E)(h':Lnk g' E')(hm:∀ s a b,(s,a,b)∈E↔(s,a,b)∈E')(hl:g.length=g'.length):g=g':=by
 refine List.ext_getElem? fun s=>?_
 have key:∀ {g g':List (Option (Nat × Nat))} {E E':List (Nat × Nat × Nat)},Lnk g E->Lnk g' E'->(∀ s a b,(s,a,b)∈E↔(s,a,b)∈E')->∀ a b,g[s]?=some (some (a,b))->g'[s]?=some (some (a,b)):=fun h h' hm a b e=>(h' s a b).1 ((hm s a b).1 ((h s a b).2 e))
 cases c:g[s]? with
 |none=>
  have:=List.getElem?_eq_none_iff.1 c
  exact(List.getElem?_eq_none_iff.2 (by omega)).symm
 |some o=>
  obtain⟨hs,_⟩:=List.getElem?_eq_some_iff.1 c
  rcases o with _|⟨a,b⟩
  . cases c':g'[s]? with
    |none=>have:=List.getElem?_eq_none_iff.1 c';omega
    |some o'=>
     rcases o' with _|⟨a,b⟩
     . rfl
     . have:=key h' h (fun s a b=>(hm s a b).symm) a b c'
       rw[c] at this;simp at this
  . exact(key h h' hm a b c).symm
end
section
variable {X:Nat->Nat}{A:Nat->Nat->Nat}{row:List Nat}{E:List (Nat × Nat × Nat)}{vx:Nat->Bool}
theorem Tour.sizes (hA:∀ s i u,A s i≠X u)(h:Tour X A row E):(∀ y∈row,(∃ u,y=X u/\vx y=true)\/((∀ u,y≠X u)/\vx y=false))->row.length=3*E.length+1/\(row.filter vx).length=E.length+1:=by
 induction h with
 |one u=>
  intro h
  rcases h (X u) (List.mem_singleton.2 rfl) with ⟨_,_,e⟩|⟨h,_⟩
  . simp [e]
  . exact absurd rfl (h u)
 |rot _ ih=>
  intro h
  obtain⟨h1,h2⟩:=ih fun y hy=>h y (by simpa [or_comm] using hy)
  rw[List.length_append] at h1;rw[List.filter_append,List.length_append] at h2;rw[List.filter_append,List.length_append,List.length_append];omega
 |@link s u v a b E F h1 h2 ih1 ih2=>
  intro h
  obtain⟨a1,a2⟩:=ih1 fun y hy=>h y (List.mem_append_left _ hy)
  obtain⟨b1,b2⟩:=ih2 fun y hy=>h y (List.mem_append_right _ (List.mem_cons_of_mem _ (List.mem_append_left _ hy)))
  have c0:vx (A s 0)=false:=by
   rcases h (A s 0) (List.mem_append_right _ (List.mem_cons_self ..)) with ⟨x,e,_⟩|⟨_,e⟩
   . exact absurd e (hA _ _ _)
   . exact e
  have c1:vx (A s 1)=false:=by
   rcases h (A s 1) (List.mem_append_right _ (List.mem_cons_of_mem _ (List.mem_append_right _ (List.mem_singleton.2 rfl)))) with ⟨x,e,_⟩|⟨_,e⟩
   . exact absurd e (hA _ _ _)
   . exact e
  have e1:((X u :: a)++A s 0 :: ((X v :: b)++[A s 1])).filter vx=(X u :: a).filter vx++(X v :: b).filter vx:=by
   rw[List.filter_append,List.filter_cons_of_neg (a:=A s 0) (by simp [c0]),List.filter_append,List.filter_cons_of_neg (a:=A s 1) (by simp [c1]),List.filter_nil,List.append_nil]
  rw[e1];simp only[List.length_append,List.length_cons,List.length_nil] at a1 a2 b1 b2 |-;omega
 |perm _ hp ih=>
  intro h;obtain⟨h1,h2⟩:=ih h;have:=hp.length_eq;omega
end
section
variable {V S T:Int}{L s u v:Nat}{g:Mg9}{mk mk':Nat->Nat}{ts:List Tp}{rows:List (List Nat)}{gr:List (Option (Nat × Nat))}{r:List Nat}{t:Tp}{grs:Nat->List (Option (Nat × Nat))}
theorem Lv.ar13 (h:Lv V S L ts rows gr)(hR:Rt V S T)(hL:(L:Int)<lv V)(hF:FI V S g mk ts)(hr:r∈rows):Ar13 V S L gr r:=by
 right
 obtain⟨E,hE,hb,hw⟩:=h.joined hR hL hF
 have hk:Qc3 V S L r:=fun y hy=>h.kind hR hF hr hy
 refine⟨E,hE,hb,?_,?_,?_,?_⟩
 . obtain⟨u,hu,hx⟩:=h.vert hR hF hr
   exact List.ne_nil_of_mem ((Qgw hR hL hk).2 ⟨hu,hx⟩)
 . obtain⟨E',hT,_⟩:=h.edges hr
   obtain⟨h1,h2⟩:=hT.sizes (vx:=vxN V) (Qd8 hR hL) fun y hy=>by
    rcases hk y hy with ⟨u,hu,rfl⟩|⟨s,d,hs,hd,rfl⟩
    . exact .inl ⟨u,rfl,QjC hR hL hu⟩
    . exact .inr ⟨fun u=>Qd8 hR hL s d u,QjD hR hL hs hd⟩
   unfold vL13;rw[List.length_map,h2,h1];omega
 . intro u hu v hv
   have h1:=(Qgw hR hL hk).1 hu;have h2:=(Qgw hR hL hk).1 hv;exact(hw r hr u v h1.2).2 h2.2
 . intro s hs ha
   match hg:gr[s]? with
   |none=>
    have h1:=List.getElem?_eq_none_iff.1 hg;rw[h.len] at h1;omega
   |some none=>exact absurd ha (h.no_arc hR hL hF hs hg (by decide) hr)
   |some (some (u,v))=>
    obtain⟨r',hr',c,d,pp,qq,rr,harc,er,hnd,E',hE',hb',hside⟩:=h.parted hR hL hF hg
    have hin:An V S L s 0∈r'/\An V S L s 1∈r':=by
     rw[er]
     rcases harc with ⟨rfl,rfl⟩|⟨rfl,rfl⟩<;>simp
    obtain⟨i,hi⟩:=List.mem_iff_getElem?.1 hr;obtain⟨j,hj⟩:=List.mem_iff_getElem?.1 hr';have hij:=Qdi h.nd hi hj ha hin.1;subst hij;rw[hi] at hj;injection hj with hj;subst hj;rw[er] at hnd;have hc:=Qnu (th:=An V S L s 0) (bk:=An V S L s 1) harc hnd
    have m1:∀ x∈qq,x∈r:=fun x hx=>by rw[er];simp [hx]
    have m2:∀ x∈pp++rr,x∈r:=fun x hx=>by
     rw[er]
     rcases List.mem_append.1 hx with hx|hx<;>simp [hx]
    rcases hside with ⟨s0,s1⟩|⟨s1,s0⟩
    . exact⟨u,v,2,qq,pp++rr,0,1,E',hg,hin.2,by rw[er];exact hc,m1,m2,hE',hb',s0,by decide,s1⟩
    . exact⟨u,v,2,qq,pp++rr,1,0,E',hg,hin.2,by rw[er];exact hc,m1,m2,hE',hb',s1,by decide,s0⟩
theorem Lv.ar_any (h:Lv V S L ts rows gr)(hR:Rt V S T)(hL:(L:Int)<lv V)(hF:FI V S g mk ts){nm:Nm}{z:Nat}(hz:Qn V S nm z)(ht:t∈ts)(ez:t.root=z+1)(hl:lvN V t.root=(L:Int)):Qc3 V S L t.row/\Ar13 V S L gr t.row:=by
 have hroot:=hF.root_in ht
 have fin:∀ r∈rows,t.root∈r->Qc3 V S L t.row/\Ar13 V S L gr t.row:=fun r hr hx=>by
  obtain⟨t',ht',e'⟩:=h.has r hr
  have:t'=t:=hF.uniq ht' ht (x:=t.root) (by rw[e'];exact hx) hroot.1
  subst this
  rw[e'];exact⟨fun y hy=>h.kind hR hF hr hy,h.ar13 hR hL hF hr⟩
 rcases Qa8 hR hz with ⟨L',u,hL',hu,e⟩|⟨L',s,d,hL',hs,hd,e⟩
 . rw[<-ez] at e
   have e9:L'=L:=by
    have h1:=(QaG hR hL' hu).2.2.2.1;rw[<-QbP (L:=L') hu,<-e,hl] at h1;omega
   subst e9;obtain⟨r,hr,hx⟩:=h.cov u hu
   exact fin r hr (by rw[e];exact hx)
 . rw[<-ez] at e
   have e9:L'=L:=by
    have h1:=Qcs hR hL' hs hd;rw[<-e,hl] at h1;omega
   subst e9
   match hg:gr[s]? with
   |none=>
    have h1:=List.getElem?_eq_none_iff.1 hg;rw[h.len] at h1;omega
   |some none=>
    obtain⟨t',ht',e'⟩:=h.loose s hs hg d hd
    have:t'=t:=hF.uniq ht' ht (x:=t.root) (by rw[e',e];exact List.mem_singleton.2 rfl) hroot.1
    subst this;rw[e']
    exact⟨fun y hy=>.inr ⟨s,d,hs,hd,by simpa using hy⟩,.inl ⟨s,d,hs,hd,rfl,hg⟩⟩
   |some (some (u,v))=>
    obtain⟨r,E,hr,hT,hm⟩:=h.edge hg;have hin:=hT.mem hm;refine fin r hr ?_;rw[e]
    rcases(by omega:d=0\/d=1) with rfl|rfl
    . exact hin.1
    . exact hin.2.1
theorem Qc3.lvl (hR:Rt V S T)(hL:(L:Int)<lv V)(h:Qc3 V S L r):∀ y∈r,lvN V y=(L:Int):=fun y hy=>by
 rcases h y hy with ⟨u,hu,rfl⟩|⟨s,d,hs,hd,rfl⟩
 . rw[QbP hu];exact(QaG hR hL hu).2.2.2.1
 . exact Qcs hR hL hs hd
theorem Lvs.lv_one (h:Lvs V S ts grs)(hR:Rt V S T)(hF:FI V S g mk ts)(hn:∀ z:Nat,(z:Int)<nd V S->∃ nm,Qn V S nm z):∀ t∈ts,∀ y∈t.row,∀ z∈t.row,lvN V y=lvN V z:=by
 intro t ht y hy z hz;have hroot:=hF.root_in ht;have hle:=(hF.al t.root).2 ⟨t,ht,hroot.1⟩;have hN:=Q0 hR
 obtain⟨k,hk⟩:∃ k,t.root=k+1:=⟨t.root-1,by omega⟩
 obtain⟨nm,hnm⟩:=hn k (by omega)
 obtain⟨L,hL,e⟩:∃ L:Nat,(L:Int)<lv V/\lvN V t.root=(L:Int):=by
  rcases Qa8 hR hnm with ⟨L',u,hL',hu,e⟩|⟨L',s,d,hL',hs,hd,e⟩
  . exact⟨L',hL',by rw[hk,e,QbP hu];exact(QaG hR hL' hu).2.2.2.1⟩
  . exact⟨L',hL',by rw[hk,e];exact Qcs hR hL' hs hd⟩
 obtain⟨rows,hv⟩:=h L hL;have h9:=(hv.ar_any hR hL hF hnm ht hk e).1.lvl hR hL;rw[h9 y hy,h9 z hz]
theorem FI.marks (hF:FI V S g mk ts)(h4:∀ x,mk' x<4)(he:∀ x,x≠0->x<=nN V S->mk' x=mk x):FI V S g mk' ts:=
 ⟨h4,fun t ht=>⟨⟨(hF.st t ht).1.1.congr (fun x hx=>by
  have:=(hF.al x).2 ⟨t,ht,hx⟩
  exact⟨he x this.1 this.2,rfl,rfl,rfl⟩) (hF.row_nd ht) (fun _ _ _=>rfl),(hF.st t ht).1.2⟩,(hF.st t ht).2⟩,hF.nd,hF.al⟩
end
end Go.Proofs.YtaooglagddphnaaGreat
