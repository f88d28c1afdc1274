/- ZA -/
import Derived.Test.YtaooglagddphnaaGreatRows
import Derived.WalkKit
import Derived.ProofKit
import Derived.OpenShut
import Derived.WalkSpells
import Derived.WalkLawsBesides
import Derived.Below
import Derived.Laws.OwnMore
import Derived.Deep.Draws
import Derived.Laws.Rows
import Derived.Lib.Hide
import Derived.Deep.OwnRows
import Derived.Maps.AppendAt
import Derived.OwnWalk
import Derived.BigQuiet
import Derived.Deep.QuietTactic
import Derived.Deep.RegionHeld3
import Derived.Deep.MidRow
import Derived.Test.YtaooglagddphnaaGreatXQ
namespace Go.Proofs.YtaooglagddphnaaGreat
open Go.RowKit
def Blk (w:World)(g:Nat)(t:TypeId)(cs:Array Value):Prop:=w.heap[g]?=some (.cells cs t (0,0))
section
variable {w w':World}{g:Nat}{t:TypeId}{cs:Array Value}
theorem Blk.lt (h:Blk w g t cs):g<w.heap.size:=by
 rcases Nat.lt_or_ge g w.heap.size with hlt|hge
 . exact hlt
 . unfold Blk at h;rw[Array.getElem?_eq_none hge] at h;cases h
theorem Blk.cell (h:Blk w g t cs)(i:Nat):w.cell? (I1 g i)=cs[i]?:=cell_of_row w g i cs t (0,0) h
theorem Blk.frozen (h:Blk w g t cs)(i:Nat):w.frozen? (I1 g i)=false:=by
 unfold Blk at h;simp [World.frozen?,h]
theorem Blk.new (w:World)(t:TypeId)(cs:Array Value):Blk (w.alloc (.cells cs t)) w.heap.size t cs:=heap_alloc_new w _
theorem Blk.drew (h:Blk w g t cs):Blk w.drew g t cs:=h
theorem Blk.alloc (h:Blk w g t cs)(o:Obj):Blk (w.alloc o) g t cs:=(Below.heap_alloc w o g h.lt).trans h
theorem Blk.set_ (h:Blk w g t cs)(i:Nat)(u:Value):Blk (w.setCell (I1 g i) u) g t (cs.setIfInBounds i u):=by
 unfold Blk at h |-;simp [World.setCell,Array.getElem?_modify,h]
theorem Blk.far (h:Blk w g t cs){p:Addr}(hp:g≠p.block)(u:Value):Blk (w.setCell p u) g t cs:=(Below.heap_setCell w p u g hp).trans h
theorem Blk.below {B:Nat}(h:Blk w g t cs)(hb:Below B w w')(hg:g<B):Blk w' g t cs:=(hb.block g hg).trans h
theorem Blk.ne_ {g':Nat}{t':TypeId}{cs':Array Value}(h:Blk w g t cs)(h':Blk w g' t' cs')(hne:t≠t'):g≠g':=by
 rintro rfl;unfold Blk at h h';rw[h] at h';injection h' with h';injection h' with _ ht;exact hne ht
end
structure Only (p g:Nat)(w w':World):Prop where
 os:w'.os=w.os
 tape:w'.tape=w.tape
 output:w'.output=w.output
 size:w.heap.size<=w'.heap.size
 block:∀ i,i<w.heap.size->i≠p->i≠g->w'.heap[i]?=w.heap[i]?
theorem Only.refl (p g:Nat)(w:World):Only p g w w:=⟨rfl,rfl,rfl,Nat.le_refl _,fun _ _ _ _=>rfl⟩
theorem Only.trans {p g:Nat}{a b c:World}(h:Only p g a b)(k:Only p g b c):Only p g a c:=
 ⟨k.os.trans h.os,k.tape.trans h.tape,k.output.trans h.output,Nat.le_trans h.size k.size,fun i hi h1 h2=>(k.block i (Nat.lt_of_lt_of_le hi h.size) h1 h2).trans (h.block i hi h1 h2)⟩
theorem Only.set_ {p g:Nat}{a w:World}(h:Only p g a w){q:Addr}(hq:q.block=p\/q.block=g)(u:Value):Only p g a (w.setCell q u):=
 ⟨h.os,h.tape,h.output,by simpa [World.setCell] using h.size,fun i hi h1 h2=>(Below.heap_setCell w q u i (by rintro rfl;rcases hq with hq|hq<;>simp_all)).trans (h.block i hi h1 h2)⟩
theorem Only.set_p {p g:Nat}{a w:World}(h:Only p g a w){j:Nat}(u:Value):Only p g a (w.setCell (I1 p j) u):=h.set_ (.inl rfl) u
theorem Only.set_g {p g:Nat}{a w:World}(h:Only p g a w){j:Nat}(u:Value):Only p g a (w.setCell (I1 g j) u):=h.set_ (.inr rfl) u
theorem Only.alloc {p g:Nat}{a w:World}(h:Only p g a w)(o:Obj):Only p g a (w.alloc o):=
 ⟨h.os,h.tape,h.output,Nat.le_trans h.size (by simp),fun i hi h1 h2=>(Below.heap_alloc w o i (Nat.lt_of_lt_of_le hi h.size)).trans (h.block i hi h1 h2)⟩
theorem Only.drew {p g:Nat}{a w:World}(h:Only p g a w):Only p g a w.drew:=⟨h.os,h.tape,h.output,h.size,h.block⟩
theorem Only.of_below {p g:Nat}{a w:World}(h:Below a.heap.size a w):Only p g a w:=
 ⟨h.os,h.tape,h.output,h.size,fun i hi _ _=>h.block i hi⟩
theorem Only.below {p g B:Nat}{a w w':World}(hb:Below B a w)(h:Only p g w w')(hB:B<=w.heap.size)(hp:B<=p)(hg:B<=g):Below B a w':=
 ⟨h.os.trans hb.os,h.tape.trans hb.tape,h.output.trans hb.output,Nat.le_trans hb.size h.size,fun i hi=>(h.block i (by omega) (by omega) (by omega)).trans (hb.block i hi)⟩
theorem Blk.only {p g i:Nat}{w w':World}{t:TypeId}{cs:Array Value}(h:Blk w i t cs)(ho:Only p g w w')(h1:i≠p)(h2:i≠g):Blk w' i t cs:=(ho.block i h.lt h1 h2).trans h
def upd (f:Nat->Int)(k:Nat)(v:Int):Nat->Int:=fun i=>if i=k then v else f i
theorem QN (f:Nat->Int)(k:Nat)(v:Int):upd f k v k=v:=by simp [upd]
theorem Qa (f:Nat->Int){k i:Nat}(v:Int)(h:i≠k):upd f k v i=f i:=by simp [upd,h]
structure Ar (w:World)(p g n cap:Nat)(c f:Nat->Int):Prop where
 own:Blk w p 127 #[I3 (I1 g 0) n cap,I (c 0),I (c 1),I (c 2),I (c 3),I (c 4)]
 cells:∃ zs:Array Value,Blk w g 88 zs/\∀ k,k<n->zs[k]?=some (I2 (f k))
 le:n<=cap
 few:n<=16384
 fit:∀ k,k<n->0<=f k/\f k<=18446744073709551615
section
variable {w w':World}{p g n cap:Nat}{c f:Nat->Int}
theorem Ar.ne_ (A:Ar w p g n cap c f):p≠g:=by
 obtain⟨zs,hz,_⟩:=A.cells
 exact A.own.ne_ hz (by decide)
theorem Ar.p_lt (A:Ar w p g n cap c f):p<w.heap.size:=A.own.lt
theorem Ar.g_lt (A:Ar w p g n cap c f):g<w.heap.size:=by
 obtain⟨zs,hz,_⟩:=A.cells;exact hz.lt
theorem Ar.c0 (A:Ar w p g n cap c f):w.cell? (I1 p 0)=some (I3 (I1 g 0) n cap):=A.own.cell 0
theorem Ar.c1 (A:Ar w p g n cap c f):w.cell? (I1 p 1)=some (I (c 0)):=A.own.cell 1
theorem Ar.c2 (A:Ar w p g n cap c f):w.cell? (I1 p 2)=some (I (c 1)):=A.own.cell 2
theorem Ar.cell (A:Ar w p g n cap c f){k:Nat}(hk:k<n):w.cell? (I1 g k)=some (I2 (f k)):=by
 obtain⟨zs,hz,he⟩:=A.cells;exact(hz.cell k).trans (he k hk)
theorem Ar.fz (A:Ar w p g n cap c f)(i:Nat):w.frozen? (I1 p i)=false:=A.own.frozen i
theorem Ar.fzg (A:Ar w p g n cap c f)(i:Nat):w.frozen? (I1 g i)=false:=by
 obtain⟨zs,hz,_⟩:=A.cells;exact hz.frozen i
theorem Ar.below {B:Nat}(A:Ar w p g n cap c f)(hb:Below B w w')(hB:w.heap.size<=B):Ar w' p g n cap c f:=by
 have h1:=A.p_lt;have h2:=A.g_lt;obtain⟨zs,hz,he⟩:=A.cells
 exact⟨A.own.below hb (by omega),⟨zs,hz.below hb (by omega),he⟩,A.le,A.few,A.fit⟩
theorem Ar.drew (A:Ar w p g n cap c f):Ar w.drew p g n cap c f:=⟨A.own,A.cells,A.le,A.few,A.fit⟩
theorem Ar.alloc (A:Ar w p g n cap c f)(o:Obj):Ar (w.alloc o) p g n cap c f:=by
 obtain⟨zs,hz,he⟩:=A.cells;exact⟨A.own.alloc o,⟨zs,hz.alloc o,he⟩,A.le,A.few,A.fit⟩
theorem Ar.set_ (A:Ar w p g n cap c f){k:Nat}(hk:k<n){v:Int}(h0:0<=v)(h1:v<=18446744073709551615):Ar (w.setCell (I1 g k) (I2 v)) p g n cap c (upd f k v):=by
 obtain⟨zs,hz,he⟩:=A.cells
 refine⟨A.own.far A.ne_ _,⟨_,hz.set_ k _,fun i hi=>?_⟩,A.le,A.few,fun i hi=>?_⟩
 . have hs:i<zs.size:=by
    have:=he i hi
    rcases Nat.lt_or_ge i zs.size with hlt|hge
    . exact hlt
    . rw[Array.getElem?_eq_none hge] at this;cases this
   by_cases e:i=k
   . subst e;simp [upd,hs]
   . rw[Array.getElem?_setIfInBounds_ne (fun h=>e h.symm),he i hi,Qa _ _ e]
 . by_cases e:i=k
   . subst e;rw[QN];exact⟨h0,h1⟩
   . rw[Qa _ _ e];exact A.fit i hi
theorem Ar.count {j:Nat}(A:Ar w p g n cap c f)(hj:j<5)(v:Int):Ar (w.setCell (I1 p (j+1)) (I v)) p g n cap (upd c j v) f:=by
 obtain⟨zs,hz,he⟩:=A.cells
 refine⟨?_,⟨zs,hz.far (fun h=>A.ne_ h.symm) _,he⟩,A.le,A.few,A.fit⟩
 have h:=A.own.set_ (j+1) (I v)
 match j,hj with
 |0,_=>exact h
 |1,_=>exact h
 |2,_=>exact h
 |3,_=>exact h
 |4,_=>exact h
end
def CB (c:Nat->Int)(m:Nat):Prop:=∀ j,0<=c j/\c j<=m
theorem CB.more {c:Nat->Int}{m m':Nat}(h:CB c m)(hm:m<=m'):CB c m':=fun j=>⟨(h j).1,by have:=(h j).2;omega⟩
theorem CB.upd {c:Nat->Int}{m:Nat}(h:CB c m)(j:Nat):CB (upd c j (c j+1)) (m+1):=fun i=>by
 by_cases e:i=j
 . subst e;rw[QN];have:=h i;omega
 . rw[Qa _ _ e];have:=h i;omega
theorem Qll (p g n cap k:Nat)(w:World)(h0:w.cell? (I1 p 0)=some (I3 (I1 g 0) n cap))(hk:k<n):
 Calls Tryz.prog 76 #[.pointer (some (I1 p 0)),I (k:Int)] w fun e w'=>e=.returned (.pointer (some (I1 g k)))/\w=w':=by
 go_enter Tryz.func76,Tryz.ntmps76
 go_wp2
 go_ret;exact⟨rfl,rfl⟩
section
variable {p g n cap k:Nat}{c f:Nat->Int}{w:World}
theorem QgL (A:Ar w p g n cap c f)(hk:k<n){m:Nat}(hm:CB c m)(hb:m<=100000000):
 Calls Tryz.prog 49 #[.pointer (some (I1 p 0)),I (k:Int)] w fun e w'=>e=.returned (.tuple #[I2 (f k),I 0])/\Ar w' p g n cap (upd c 0 (c 0+1)) f/\Only p g w w':=by
 have hx:=hm 0;have hx1:0<=c 0:=hx.1
 have hx2:c 0<=100000000:=by omega
 clear hx hm hb;have hne:=A.ne_;have h0:=A.c0;have h1:=A.c1;have hf:=A.fz 1;have hc:=A.cell hk;have hA:=q9 A;clear A
 go_enter Tryz.func49,Tryz.ntmps49
 go_wp2_with (refine(Qll _ _ _ _ _ _ h0 hk).mono ?_;rintro e w1 ⟨rfl,rfl⟩)
 go_ret2
 exact⟨rfl,hA.out.count (j:=0) (by omega) _,(Only.refl _ _ _).set_p _⟩
theorem Qfa (A:Ar w p g n cap c f)(hk:k<n){v:Int}(hv0:0<=v)(hv1:v<=18446744073709551615){m:Nat}(hm:CB c m)(hb:m<=100000000):
 Calls Tryz.prog 34 #[.pointer (some (I1 p 0)),I (k:Int),I2 v] w fun e w'=>e=.returned (I 0)/\Ar w' p g n cap (upd c 1 (c 1+1)) (upd f k v)/\Only p g w w':=by
 have hx:=hm 1;have hx1:0<=c 1:=hx.1
 have hx2:c 1<=100000000:=by omega
 clear hx hm hb;have hne:=A.ne_;have h0:=A.c0;have h1:=A.c2;have hf:=A.fz 2;have hfg:=A.fzg k;have hc:=A.cell hk;have hA:=q9 A;clear A
 go_enter Tryz.func34,Tryz.ntmps34
 go_wp2_with (refine(Qll _ _ _ _ _ _ h0 hk).mono ?_;rintro e w1 ⟨rfl,rfl⟩)
 go_ret
 exact⟨rfl,(hA.out.count (j:=1) (by omega) _).set_ hk hv0 hv1,((Only.refl _ _ _).set_p _).set_g _⟩
end
theorem Qdh:(Tryz.prog.info? 88).map (fun i=>(i.zero,i.size,i.bytes))=some (some (I2 0),1,8):=by kernel_rfl
def QcJ:Nat->Int:=fun _=>0
theorem QjA (n k:Nat)(hk:k<n):(madeCells #[I2 0] n)[k]?=some (I2 0):=by
 have h:=toList_madeCells_one (I2 0) n;rw[<-Array.getElem?_toList,h];simp [hk]
set_option maxHeartbeats 1000000 in
theorem QlQ (n:Nat)(w:World)(hn:n<=16384):
 Calls Tryz.prog 30 #[I (n:Int)] w fun e w'=>e=.returned (.tuple #[.pointer (some ⟨w.heap.size+1,0,none⟩),I 0])/\Ar w' (w.heap.size+1) w.heap.size n n QcJ QcJ/\Below w.heap.size w w':=by
 have hmk:=run_make_row' (P:=Tryz.prog) 24 88 (I2 0) 8 Tryz.underlying24 Qdh rfl .i64 .i64 n (by omega) (by omega)
 go_enter Tryz.func30,Tryz.ntmps30
 go_wp2
 go_ret2
 refine⟨by simp,⟨?_,⟨_,(Blk.new w _ _).alloc _,fun k hk=>QjA n k hk⟩,Nat.le_refl _,hn,fun k _=>by simp [QcJ]⟩,((Below.refl _ _).alloc (Nat.le_refl _) _).alloc (by simp) _⟩
 have:=Blk.new (w.alloc (.cells (madeCells #[I2 0] n) 88)) 127 #[I3 (I1 w.heap.size 0) n n,I 0,I 0,I 0,I 0,I 0];simpa [QcJ] using this
theorem Qi {W w1:World}{a:Addr}{v:Value}(hb:Below W.heap.size W w1)(h:W.cell? a=some v):w1.cell? a=some v:=by
 have hl:a.block<W.heap.size:=World.block_lt_of_cell? _ _ h;exact(hb.cell hl).trans h
structure Rt (V S T:Int):Prop where
 v1:1<=V
 v2:V<=16
 s1:0<=S
 s2:S<=48
 t1:1<=T
 t2:T<=8
def rtB (V S T:Int):Bool:=decide (1<=V/\V<=16/\0<=S/\S<=48/\1<=T/\T<=8)
theorem QlD {V S T:Int}(h:rtB V S T=true):Rt V S T:=by
 unfold rtB at h;have:=of_decide_eq_true h;exact⟨this.1,this.2.1,this.2.2.1,this.2.2.2.1,this.2.2.2.2.1,this.2.2.2.2.2⟩
theorem Rt.yes {V S T:Int}(h:Rt V S T):rtB V S T=true:=decide_eq_true ⟨h.v1,h.v2,h.s1,h.s2,h.t1,h.t2⟩
def lv (V:Int):Int:=if V<2 then 1 else if V<4 then 2 else if V<8 then 3 else if V<16 then 4 else 5
theorem QF (V:Int):1<=lv V/\lv V<=5:=by unfold lv;split<;>(try split)<;>(try split)<;>(try split)<;>omega
def vn (V:Int):Int:=lv V*V
def sn (V:Int):Int:=lv V*2
def pr (V:Int):Int:=V*(V-1) / 2
def nd (V S:Int):Int:=vn V+S*sn V
theorem Qk3 {V:Int}(h1:1<=V)(h2:V<=16):V=1\/V=2\/V=3\/V=4\/V=5\/V=6\/V=7\/V=8\/V=9\/V=10\/V=11\/V=12\/V=13\/V=14\/V=15\/V=16:=by omega
structure Qob (V S:Int):Prop where
 l1:1<=lv V
 l2:lv V<=5
 vn1:1<=vn V
 vn2:vn V<=80
 vv:V<=vn V
 sn1:2<=sn V
 sn2:sn V<=10
 pr1:0<=pr V
 pr2:pr V<=120
 ss1:0<=S*sn V
 ss2:S*sn V<=480
 nd1:1<=nd V S
 nd2:nd V S<=560
theorem sizes {V S T:Int}(h:Rt V S T):Qob V S:=by
 obtain⟨v1,v2,s1,s2,_,_⟩:=h;have hl:=QF V
 have hs:2<=sn V/\sn V<=10:=by unfold sn;omega
 have hv:1<=vn V/\vn V<=80/\V<=vn V/\0<=pr V/\pr V<=120:=by
  rcases Qk3 v1 v2 with h|h|h|h|h|h|h|h|h|h|h|h|h|h|h|h<;>subst h<;>decide
 have m1:0<=S*sn V:=Int.mul_nonneg s1 (by omega)
 have m2:S*sn V<=48*sn V:=Int.mul_le_mul_of_nonneg_right s2 (by omega)
 have e:nd V S=vn V+S*sn V:=rfl
 exact⟨hl.1,hl.2,hv.1,hv.2.1,hv.2.2.1,hs.1,hs.2,hv.2.2.2.1,hv.2.2.2.2,m1,by omega,by omega,by omega⟩
def pl (r R c C:Int):Int:=if r<0\/R<=r\/c<0\/C<=c then -1 else r*C+c
def cl (size off x:Int):Int:=if x<0\/size<=x then -1 else x+off
def o3 (S T:Int):Int:=T+1+S*7
def o4 (V S T:Int):Int:=T+1+S*7+vn V
def o5 (V S T:Int):Int:=T+1+S*7+vn V+pr V
def cn (V S T:Int):Int:=T+1+S*7+vn V+pr V+nd V S*7
theorem QlM {r R c C:Int}(h1:R<=600)(h2:C<=600)(h3:0<=C):-1<=pl r R c C/\pl r R c C<=360000:=by
 unfold pl
 split
 . omega
 . rename_i h
   have a1:0<=r:=by omega
   have a2:r<=600:=by omega
   have b1:0<=r*C:=Int.mul_nonneg a1 h3
   have b2:r*C<=599*C:=Int.mul_le_mul_of_nonneg_right (by omega) h3
   omega
theorem QlL {r R c C:Int}(h:r<0\/R<=r\/c<0\/C<=c):pl r R c C=-1:=if_pos h
theorem Qii {r R c C:Int}(h1:0<=r)(h2:r<R)(h3:0<=c)(h4:c<C):pl r R c C=r*C+c:=if_neg (by omega)
theorem Qmg {s o x:Int}(h:x<0\/s<=x):cl s o x=-1:=if_pos h
theorem Qja {s o x:Int}(h1:0<=x)(h2:x<s):cl s o x=x+o:=if_neg (by omega)
def QcO (V level v:Int):Int:=pl level (lv V) v V+1
def arcF (V S slot level side:Int):Int:=if pl slot S (pl level (lv V) side 2) (sn V)=-1 then 0 else vn V+pl slot S (pl level (lv V) side 2) (sn V)+1
def QaH (S T slot which:Int):Int:=if 0<=slot/\slot<S/\0<=which/\which<7 then T+1+slot*7+which else -1
def QcQ (first side:Int):Int:=if side<0\/2<=side then -1 else first+side
def Qgh (V S T v level:Int):Int:=cl (vn V) (o3 S T) (pl v V level (lv V))
def ahF (V a:Int):Int:=a*(2*V-a-1) / 2
def Qb7 (V S T a b:Int):Int:=if min a b<0\/a=b\/V<=max a b then -1 else cl (pr V) (o4 V S T) (ahF V (min a b)+max a b-min a b-1)
def Qbu (V S T x f:Int):Int:=if 1<=x/\x<=nd V S/\0<=f/\f<7 then o5 V S T+(x-1)*7+f else -1
theorem QlA {S T slot which:Int}:cl (S*7) (T+1) (pl slot S which 7)=QaH S T slot which:=by
 unfold cl QaH pl;split<;>split<;>(try split)<;>omega
theorem Qky {V S T x f:Int}:cl (nd V S*7) (o5 V S T) (pl (x-1) (nd V S) f 7)=Qbu V S T x f:=by
 unfold cl Qbu pl;split<;>split<;>(try split)<;>omega
theorem QiQ {V S T:Int}(v l:Int):
 (0<=v/\v<V/\0<=l/\l<lv V->Qgh V S T v l=o3 S T+v*lv V+l/\0<=v*lv V+l/\v*lv V+l<vn V)/\(¬ (0<=v/\v<V/\0<=l/\l<lv V)->Qgh V S T v l=-1):=by
 refine⟨fun⟨a,b,c,d⟩=>?_,fun hn=>?_⟩
 . have hb:0<=v*lv V+l/\v*lv V+l<vn V:=by
    have:=(QF V).1
    have e:v*lv V<=(V-1)*lv V:=Int.mul_le_mul_of_nonneg_right (by omega) (by omega)
    have e2:0<=v*lv V:=Int.mul_nonneg a (by omega)
    have e3:(V-1)*lv V=vn V-lv V:=by unfold vn;rw[Int.sub_mul,Int.mul_comm V];omega
    omega
   refine⟨?_,hb⟩;unfold Qgh;rw[Qii a b c d,Qja hb.1 hb.2];omega
 . unfold Qgh
   rw[QlL (by omega),Qmg (by omega)]
theorem Qku {V:Int}(h1:1<=V)(h2:V<=16){v l v' l':Int}(a:0<=l)(b:l<lv V)(a':0<=l')(b':l'<lv V)(e:v*lv V+l=v'*lv V+l'):v=v'/\l=l':=by
 rcases Qk3 h1 h2 with h|h|h|h|h|h|h|h|h|h|h|h|h|h|h|h<;>subst h<;>simp only[lv] at *<;>simp at *<;>omega
theorem Qgt {V a:Int}:ahF V (a+1)=ahF V a+(V-1-a):=by
 unfold ahF
 have e:(a+1)*(2*V-(a+1)-1)=a*(2*V-a-1)+2*(V-1-a):=by
  simp only[Int.add_mul,Int.mul_sub,Int.mul_add];omega
 rw[e];omega
theorem Qgs (V:Int):ahF V 0=0:=by unfold ahF;simp
theorem Qjp (V:Int):ahF V (V-1)=pr V:=by
 unfold ahF pr
 rw[show 2*V-(V-1)-1=V by omega,Int.mul_comm]
theorem QkQ (V:Int)(a:Int)(n:Nat)(h:a+n<=V-1):ahF V a+(if n=0 then 0 else V-1-a)<=ahF V (a+n):=by
 induction n with
 |zero=>simp
 |succ n ih=>
  have i:=ih (by omega)
  have e:=Qgt (V:=V) (a:=a+n)
  have:(a+((n+1:Nat):Int))=a+n+1:=by omega
  rw[this,e]
  by_cases hn:n=0
  . subst hn;simp at *
  . rw[if_neg hn] at i;rw[if_neg (by omega)];omega
theorem QhL {V a c:Int}(h:a<c)(hc:c<=V-1):ahF V a+(V-1-a)<=ahF V c:=by
 have:=QkQ V a (c-a).toNat (by omega)
 rw[if_neg (by omega)] at this
 have e:a+((c-a).toNat:Int)=c:=by omega
 rw[e] at this;exact this
theorem QfT {V a:Int}(h:0<=a)(ha:a<=V-1):0<=ahF V a:=by
 rcases Int.lt_or_eq_of_le h with h|h
 . have:=QhL (V:=V) h ha;rw[Qgs] at this;omega
 . subst h;rw[Qgs];omega
theorem Qjq {V a:Int}(ha:a<=V-2):ahF V a+(V-1-a)<=pr V:=by
 have:=QhL (V:=V) (a:=a) (c:=V-1) (by omega) (by omega);rw[Qjp] at this;exact this
theorem Qbv {V S T:Int}(a b:Int):
 (0<=min a b/\a≠b/\max a b<V->Qb7 V S T a b=o4 V S T+(ahF V (min a b)+max a b-min a b-1)/\0<=ahF V (min a b)+max a b-min a b-1/\ahF V (min a b)+max a b-min a b-1<pr V)/\(¬ (0<=min a b/\a≠b/\max a b<V)->Qb7 V S T a b=-1):=by
 refine⟨fun⟨h1,h2,h3⟩=>?_,fun hn=>if_pos (by omega)⟩
 have hb:0<=ahF V (min a b)+max a b-min a b-1/\ahF V (min a b)+max a b-min a b-1<pr V:=by
  have e1:=QfT (V:=V) (a:=min a b) h1 (by omega)
  have e2:=Qjq (V:=V) (a:=min a b) (by omega)
  omega
 refine⟨?_,hb⟩;unfold Qb7
 rw[if_neg (by omega),Qja hb.1 hb.2];omega
theorem QkB {V S T a b c d:Int}(h:0<=Qb7 V S T a b)(e:Qb7 V S T a b=Qb7 V S T c d):min a b=min c d:=by
 by_cases h1:0<=min a b/\a≠b/\max a b<V
 . by_cases h2:0<=min c d/\c≠d/\max c d<V
   . rw[((Qbv (V:=V) (S:=S) (T:=T) a b).1 h1).1,((Qbv (V:=V) (S:=S) (T:=T) c d).1 h2).1] at e
     rcases Int.lt_trichotomy (min a b) (min c d) with l|l|l
     . have:=QhL (V:=V) l (by omega);omega
     . exact l
     . have:=QhL (V:=V) l (by omega);omega
   . rw[(Qbv (V:=V) (S:=S) (T:=T) c d).2 h2] at e;omega
 . rw[(Qbv (V:=V) (S:=S) (T:=T) a b).2 h1] at h;omega
theorem QcC {W w1:World}(hb:Below W.heap.size W w1):(∀ b o,b<W.heap.size->w1.cell? (I1 b o)=W.cell? (I1 b o))/\(∀ b o,b<W.heap.size->w1.frozen? (I1 b o)=W.frozen? (I1 b o)):=
 ⟨fun b o h=>hb.cell (p:=(I1 b o)) h,fun b o h=>hb.frozen (p:=(I1 b o)) h⟩
theorem QK {n:Nat}{W w1 w2:World}(h:Below n W w1)(k:Below w1.heap.size w1 w2)(hn:n<=w1.heap.size:=by first|assumption|omega|(simp;done)|(simp;omega)):Below n W w2:=
 h.trans (k.mono hn)
abbrev vL (V S T:Int):Value:=.agg #[I V,I S,I T]
theorem Qei (first side:Int)(h1:0<=first)(h2:first<=10)(w:World):
 Calls Tryz.prog 156 #[I first,I side] w fun e w'=>e=.returned (I (QcQ first side))/\w=w':=by
 by_cases h:side<0
 . have hr:QcQ first side=-1:=if_pos (by omega)
   rw[hr];clear hr
   go_enter Tryz.func156,Tryz.ntmps156
   go_wp2
   go_ret;exact⟨rfl,rfl⟩
 . by_cases k:2<=side
   . have hr:QcQ first side=-1:=if_pos (by omega)
     rw[hr];clear hr
     go_enter Tryz.func156,Tryz.ntmps156
     go_wp2
     go_ret;exact⟨rfl,rfl⟩
   . have hr:QcQ first side=first+side:=if_neg (by omega)
     rw[hr];clear hr
     go_enter Tryz.func156,Tryz.ntmps156
     go_wp2
     go_ret;exact⟨rfl,rfl⟩
theorem Qj0 (r R c C:Int)(h:r<0\/R<=r\/c<0\/C<=c)(w:World):
 Calls Tryz.prog 78 #[I r,I R,I c,I C] w fun e w'=>e=.returned (I (-1))/\w=w':=by
 by_cases h1:r<0
 . clear h
   go_enter Tryz.func78,Tryz.ntmps78
   go_wp2
   go_ret;exact⟨rfl,rfl⟩
 by_cases h2:R<=r
 . clear h
   go_enter Tryz.func78,Tryz.ntmps78
   go_wp2
   go_ret;exact⟨rfl,rfl⟩
 by_cases h3:c<0
 . clear h
   go_enter Tryz.func78,Tryz.ntmps78
   go_wp2
   go_ret;exact⟨rfl,rfl⟩
 have h4:C<=c:=by omega
 clear h
 go_enter Tryz.func78,Tryz.ntmps78
 go_wp2
 go_ret;exact⟨rfl,rfl⟩
theorem QaI (r R c C:Int)(hR:R<=600)(hC:C<=600)(w:World):
 Calls Tryz.prog 78 #[I r,I R,I c,I C] w fun e w'=>e=.returned (I (pl r R c C))/\w=w':=by
 by_cases h:r<0\/R<=r\/c<0\/C<=c
 . rw[QlL h];exact Qj0 r R c C h w
 . have e:=Qii (r:=r) (R:=R) (c:=c) (C:=C) (by omega) (by omega) (by omega) (by omega)
   rw[e]
   have b1:0<=r*C:=Int.mul_nonneg (by omega) (by omega)
   have b2:r*C<=599*C:=Int.mul_le_mul_of_nonneg_right (by omega) (by omega)
   have b3:r*C<=360000:=by omega
   have a1:0<=r:=by omega
   have a2:r<R:=by omega
   have a3:0<=c:=by omega
   have a4:c<C:=by omega
   clear h e b2
   go_enter Tryz.func78,Tryz.ntmps78
   go_wp2
   go_ret;exact⟨rfl,rfl⟩
set_option maxRecDepth 100000 in
theorem Qgc (n:Nat)(h1:1<=n)(h2:n<=16)(w:World):
 Calls Tryz.prog 93 #[I2 (n:Int)] w fun e w'=>e=.returned (I (lv (n:Int)))/\w=w':=by
 have:n=1\/n=2\/n=3\/n=4\/n=5\/n=6\/n=7\/n=8\/n=9\/n=10\/n=11\/n=12\/n=13\/n=14\/n=15\/n=16:=by omega
 clear h1 h2
 rcases this with h|h|h|h|h|h|h|h|h|h|h|h|h|h|h|h<;>subst h
 all_goals
  go_enter Tryz.func93,Tryz.ntmps93
  go_wp2
  go_ret
  exact⟨by kernel_rfl,rfl⟩
theorem Qfj {a b:Bool}(h:a=b):Ending.returned (.bool a)=.returned (.bool b):=by rw[h]
theorem QgD {k:IntKind}{a b:Int}(h:a=b):Ending.returned (.int k a)=.returned (.int k b):=by rw[h]
theorem Qfi (V S T:Int)(w:World):
 Calls Tryz.prog 41 #[vL V S T] w fun e w'=>e=.returned (.bool (rtB V S T))/\Below w.heap.size w w':=by
 go_enter Tryz.func41,Tryz.ntmps41
 go_wp2
 all_goals (go_ret;exact⟨Qfj (by unfold rtB;rw[Bool.eq_iff_iff];simp;omega),(Below.refl _ _).alloc (Nat.le_refl _) _⟩)
theorem Qhe (V S T:Int)(w:World):
 Calls Tryz.prog 28 #[vL V S T] w fun e w'=>e=.returned (.bool (rtB V S T))/\Below w.heap.size w w':=by
 go_enter Tryz.func28,Tryz.ntmps28
 go_wp2
 all_goals (go_ret;exact⟨Qfj (by unfold rtB;rw[Bool.eq_iff_iff];simp;omega),(Below.refl _ _).alloc (Nat.le_refl _) _⟩)
theorem QiE (n:Nat)(h1:1<=n)(h2:n<=16)(w:World):
 Calls Tryz.prog 42 #[I2 (n:Int)] w fun e w'=>e=.returned (I (lv (n:Int)))/\w=w':=by
 have hb:=QF (n:Int)
 go_enter Tryz.func42,Tryz.ntmps42
 go_wp2_with (refine(Qgc _ h1 h2 _).mono ?_;rintro e w1 ⟨rfl,rfl⟩)
 go_ret;exact⟨rfl,rfl⟩
theorem QC (w:World)(V S T:Int):(fun w':World=>w'.cell? (I1 w.heap.size 0)=some (I V)/\w'.cell? (I1 w.heap.size 1)=some (I S)/\w'.cell? (I1 w.heap.size 2)=some (I T)/\w.heap.size<w'.heap.size/\Below w.heap.size w w') (w.alloc (.cells #[I V,I S,I T] 23)).drew:=
 ⟨by simp [go_sem],by simp [go_sem],by simp [go_sem],by simp,((Below.refl _ _).alloc (Nat.le_refl _) _).drew⟩
theorem QD {w W w1:World}{V S T:Int}(hb:Below W.heap.size W w1)(h:W.cell? (I1 w.heap.size 0)=some (I V)/\W.cell? (I1 w.heap.size 1)=some (I S)/\W.cell? (I1 w.heap.size 2)=some (I T)/\w.heap.size<W.heap.size/\Below w.heap.size w W):w1.cell? (I1 w.heap.size 0)=some (I V)/\w1.cell? (I1 w.heap.size 1)=some (I S)/\w1.cell? (I1 w.heap.size 2)=some (I T)/\w.heap.size<w1.heap.size/\Below w.heap.size w w1:=by
 obtain⟨a,b,c,d,e⟩:=h;refine⟨?_,?_,?_,Nat.lt_of_lt_of_le d hb.size,QK e hb⟩
 . exact(hb.cell (p:=(I1 w.heap.size 0)) d).trans a
 . exact(hb.cell (p:=(I1 w.heap.size 1)) d).trans b
 . exact(hb.cell (p:=(I1 w.heap.size 2)) d).trans c
theorem QM (V S T:Int)(h:Rt V S T)(w:World):
 Calls Tryz.prog 13 #[vL V S T] w fun e w'=>e=.returned (I (lv V))/\Below w.heap.size w w':=by
 have h1:=h.v1;have h2:=h.v2;have HR:=q9 h.yes
 obtain⟨n,rfl⟩:=Int.eq_ofNat_of_zero_le (show 0<=V by omega)
 have n1:1<=n:=by omega
 have n2:n<=16:=by omega
 clear h
 go_enter Tryz.func13,Tryz.ntmps13
 go_wp2_with fail
 refine(Qfi _ _ _ _).mono ?_;rintro e w1 ⟨rfl,hb1⟩;rw[HR.out];obtain⟨hc1,hf1⟩:=QcC hb1;go_wp2_with fail
 refine(QiE n n1 n2 _).mono ?_;rintro e w2 ⟨rfl,rfl⟩;go_wp2_with fail
 go_ret;exact⟨rfl,QK ((Below.refl _ _).alloc (Nat.le_refl _) _) hb1⟩
theorem QA (V S T:Int)(h:Rt V S T)(w:World):
 Calls Tryz.prog 74 #[vL V S T] w fun e w'=>e=.returned (I (vn V))/\Below w.heap.size w w':=by
 have hz:=sizes h;have b1:1<=lv V*V:=hz.vn1;have b2:lv V*V<=80:=hz.vn2
 have wr:IntKind.i64.wrap (lv V*V)=lv V*V:=IntWalk.i64_in _ (by omega)
 have H:=q9 h;clear hz h
 go_enter Tryz.func74,Tryz.ntmps74
 go_wp2_with fail
 go_region_held3 (fun w'=>w'.cell? (I1 w.heap.size 0)=some (I V)/\w'.cell? (I1 w.heap.size 1)=some (I S)/\w'.cell? (I1 w.heap.size 2)=some (I T)/\w.heap.size<w'.heap.size/\Below w.heap.size w w') (first|assumption|exact QC w V S T|exact held_drew (by assumption)|exact QD hb (by assumption))
  (first
   |(go_at_call 13;refine(QM V S T H _).mono ?_;rintro e w' ⟨rfl,hb⟩))
 go_wp2_with fail
 go_ret
 exact⟨rfl,And.right (And.right (And.right (And.right (by assumption))))⟩
theorem QaB (V S T:Int)(h:Rt V S T)(w:World):
 Calls Tryz.prog 75 #[vL V S T] w fun e w'=>e=.returned (I (sn V))/\Below w.heap.size w w':=by
 have hz:=QF V;have b1:1<=lv V:=hz.1;have b2:lv V<=5:=hz.2;clear hz
 go_enter Tryz.func75,Tryz.ntmps75
 go_wp2_with (refine(QM V S T h _).mono ?_;rintro e w1 ⟨rfl,hb1⟩)
 go_ret;exact⟨rfl,QK ((Below.refl _ _).alloc (Nat.le_refl _) _) hb1⟩
theorem Q3 (V S T:Int)(h:Rt V S T)(w:World):
 Calls Tryz.prog 33 #[vL V S T] w fun e w'=>e=.returned (I (nd V S))/\Below w.heap.size w w':=by
 have hz:=sizes h;have b1:=hz.vn1;have b2:=hz.vn2;have b3:=hz.ss1;have b4:=hz.ss2;have b5:=hz.sn1;have b6:=hz.sn2
 have wr:IntKind.i64.wrap (S*sn V)=S*sn V:=IntWalk.i64_in _ (by omega)
 have wr2:IntKind.i64.wrap (vn V+S*sn V)=vn V+S*sn V:=IntWalk.i64_in _ (by omega)
 have H:=q9 h;clear hz h
 go_enter Tryz.func33,Tryz.ntmps33
 go_wp2_with fail
 go_region_held3 (fun w'=>w'.cell? (I1 w.heap.size 0)=some (I V)/\w'.cell? (I1 w.heap.size 1)=some (I S)/\w'.cell? (I1 w.heap.size 2)=some (I T)/\w.heap.size<w'.heap.size/\Below w.heap.size w w') (first|assumption|exact QC w V S T|exact held_drew (by assumption)|exact QD hb (by assumption))
  (first
   |(go_at_call 74;refine(QA V S T H _).mono ?_;rintro e w' ⟨rfl,hb⟩)
   |(go_at_call 75;refine(QaB V S T H _).mono ?_;rintro e w' ⟨rfl,hb⟩))
 go_wp2_with fail
 go_ret
 exact⟨rfl,And.right (And.right (And.right (And.right (by assumption))))⟩
abbrev vZ (V S T:Int):Value:=.agg #[I T,I 1,I (S*7),I (vn V),I (pr V),I (nd V S*7)]
theorem QP {B:Nat}{W w1:World}(hb:Below B W w1){b o n:Nat}(hlt:b<B)(h:W.there b o n):w1.there b o n:=fun j hj=>
 ⟨(congrArg Option.isSome (hb.cell (p:=(I1 b (o+j))) hlt)).trans (h j hj).1,(hb.frozen (p:=(I1 b (o+j))) hlt).trans (h j hj).2⟩
theorem Qdq {w W w1:World}{V S T:Int}(hb:Below W.heap.size W w1)(h:W.cell? (I1 w.heap.size 0)=some (I V)/\W.cell? (I1 w.heap.size 1)=some (I S)/\W.cell? (I1 w.heap.size 2)=some (I T)/\W.there (w.heap.size+1) 0 6/\w.heap.size+1<W.heap.size/\Below w.heap.size w W):w1.cell? (I1 w.heap.size 0)=some (I V)/\w1.cell? (I1 w.heap.size 1)=some (I S)/\w1.cell? (I1 w.heap.size 2)=some (I T)/\w1.there (w.heap.size+1) 0 6/\w.heap.size+1<w1.heap.size/\Below w.heap.size w w1:=by
 obtain⟨x0,x1,x2,x3,x4,x5⟩:=h;exact⟨(hb.cell (p:=(I1 w.heap.size 0)) (Nat.lt_of_succ_lt x4)).trans x0,(hb.cell (p:=(I1 w.heap.size 1)) (Nat.lt_of_succ_lt x4)).trans x1,(hb.cell (p:=(I1 w.heap.size 2)) (Nat.lt_of_succ_lt x4)).trans x2,QP hb x4 x3,Nat.lt_of_lt_of_le x4 hb.size,QK x5 hb (Nat.le_of_lt (Nat.lt_of_succ_lt x4))⟩
theorem Qg3 {w W:World}{V S T:Int}(h:W.cell? (I1 w.heap.size 0)=some (I V)/\W.cell? (I1 w.heap.size 1)=some (I S)/\W.cell? (I1 w.heap.size 2)=some (I T)/\W.there (w.heap.size+1) 0 6/\w.heap.size+1<W.heap.size/\Below w.heap.size w W):W.drew.cell? (I1 w.heap.size 0)=some (I V)/\W.drew.cell? (I1 w.heap.size 1)=some (I S)/\W.drew.cell? (I1 w.heap.size 2)=some (I T)/\W.drew.there (w.heap.size+1) 0 6/\w.heap.size+1<W.drew.heap.size/\Below w.heap.size w W.drew:=
 ⟨h.1,h.2.1,h.2.2.1,h.2.2.2.1,h.2.2.2.2.1,h.2.2.2.2.2.drew⟩
theorem QbT {n:Nat}{a w:World}(h:Below n a w){b:Nat}(hb:n<=b)(vs:List Value):∀ (o:Nat),Below n a (w.setCells b o vs):=by
 induction vs generalizing w with
 |nil=>intro o;exact h
 |cons v r ih=>intro o;exact ih (h.setCell hb v) (o+1)
theorem Qcj (b:Nat)(vs:List Value):∀ (o:Nat) (w:World),(w.setCells b o vs).heap.size=w.heap.size:=by
 induction vs with
 |nil=>intro o w;rfl
 |cons v r ih=>intro o w;exact(ih (o+1) _).trans (by simp [World.setCell])
theorem Qae {w:World}{b o:Nat}{vs:List Value}{g i:Nat}(h:g≠b):(w.setCells b o vs).cell? (I1 g i)=w.cell? (I1 g i):=
 World.cell?_setCells_out b vs o w (I1 g i) (fun e=>absurd e h)
theorem QhN {w W:World}{V S T:Int}(vs:List Value)(h:W.cell? (I1 w.heap.size 0)=some (I V)/\W.cell? (I1 w.heap.size 1)=some (I S)/\W.cell? (I1 w.heap.size 2)=some (I T)/\W.there (w.heap.size+1) 0 6/\w.heap.size+1<W.heap.size/\Below w.heap.size w W):(W.setCells (w.heap.size+1) 0 vs).cell? (I1 w.heap.size 0)=some (I V)/\(W.setCells (w.heap.size+1) 0 vs).cell? (I1 w.heap.size 1)=some (I S)/\(W.setCells (w.heap.size+1) 0 vs).cell? (I1 w.heap.size 2)=some (I T)/\(W.setCells (w.heap.size+1) 0 vs).there (w.heap.size+1) 0 6/\w.heap.size+1<(W.setCells (w.heap.size+1) 0 vs).heap.size/\Below w.heap.size w (W.setCells (w.heap.size+1) 0 vs):=by
 obtain⟨x0,x1,x2,x3,x4,x5⟩:=h
 exact⟨(Qae (by omega)).trans x0,(Qae (by omega)).trans x1,(Qae (by omega)).trans x2,World.there_setCells x3 _ _ _,by rw[Qcj];exact x4,QbT x5 (by omega) _ _⟩
theorem Qg2 {w W:World}{V S T:Int}(a b c d e f:Value)(h:W.cell? (I1 w.heap.size 0)=some (I V)/\W.cell? (I1 w.heap.size 1)=some (I S)/\W.cell? (I1 w.heap.size 2)=some (I T)/\W.there (w.heap.size+1) 0 6/\w.heap.size+1<W.heap.size/\Below w.heap.size w W):((((((W.setCell ⟨w.heap.size+1,0,none⟩ a).setCell ⟨w.heap.size+1,1,none⟩ b).setCell ⟨w.heap.size+1,2,none⟩ c).setCell ⟨w.heap.size+1,3,none⟩ d).setCell ⟨w.heap.size+1,4,none⟩ e).setCell ⟨w.heap.size+1,5,none⟩ f).cell? (I1 w.heap.size 0)=some (I V)/\((((((W.setCell ⟨w.heap.size+1,0,none⟩ a).setCell ⟨w.heap.size+1,1,none⟩ b).setCell ⟨w.heap.size+1,2,none⟩ c).setCell ⟨w.heap.size+1,3,none⟩ d).setCell ⟨w.heap.size+1,4,none⟩ e).setCell ⟨w.heap.size+1,5,none⟩ f).cell? (I1 w.heap.size 1)=some (I S)/\((((((W.setCell ⟨w.heap.size+1,0,none⟩ a).setCell ⟨w.heap.size+1,1,none⟩ b).setCell ⟨w.heap.size+1,2,none⟩ c).setCell ⟨w.heap.size+1,3,none⟩ d).setCell ⟨w.heap.size+1,4,none⟩ e).setCell ⟨w.heap.size+1,5,none⟩ f).cell? (I1 w.heap.size 2)=some (I T)/\((((((W.setCell ⟨w.heap.size+1,0,none⟩ a).setCell ⟨w.heap.size+1,1,none⟩ b).setCell ⟨w.heap.size+1,2,none⟩ c).setCell ⟨w.heap.size+1,3,none⟩ d).setCell ⟨w.heap.size+1,4,none⟩ e).setCell ⟨w.heap.size+1,5,none⟩ f).there (w.heap.size+1) 0 6/\w.heap.size+1<((((((W.setCell ⟨w.heap.size+1,0,none⟩ a).setCell ⟨w.heap.size+1,1,none⟩ b).setCell ⟨w.heap.size+1,2,none⟩ c).setCell ⟨w.heap.size+1,3,none⟩ d).setCell ⟨w.heap.size+1,4,none⟩ e).setCell ⟨w.heap.size+1,5,none⟩ f).heap.size/\Below w.heap.size w ((((((W.setCell ⟨w.heap.size+1,0,none⟩ a).setCell ⟨w.heap.size+1,1,none⟩ b).setCell ⟨w.heap.size+1,2,none⟩ c).setCell ⟨w.heap.size+1,3,none⟩ d).setCell ⟨w.heap.size+1,4,none⟩ e).setCell ⟨w.heap.size+1,5,none⟩ f):=
 QhN [a,b,c,d,e,f] h
def zAt (W:World)(b i:Nat):Value:=(W.cell? (I1 b i)).getD undef
theorem Qo {W:World}{b n i:Nat}(h:W.there b 0 n)(hi:i<n):W.cell? (I1 b i)=some (zAt W b i):=by
 have:=(h i hi).1;rw[Nat.zero_add] at this;obtain⟨u,hu⟩:=Option.isSome_iff_exists.1 this;unfold zAt;rw[hu];rfl
theorem Qy {W:World}{b n i:Nat}(h:W.there b 0 n)(hi:i<n):W.frozen? (I1 b i)=false:=by
 have:=(h i hi).2
 rwa [Nat.zero_add] at this
set_option maxRecDepth 100000 in
set_option maxHeartbeats 4000000 in
theorem Qci (V S T:Int)(h:Rt V S T)(w:World):
 Calls Tryz.prog 73 #[vL V S T] w fun e w'=>e=.returned (vZ V S T)/\Below w.heap.size w w':=by
 have hz:=sizes h;have s1:=h.s1;have s2:=h.s2;have v1:=h.v1;have v2:=h.v2;have b1:=hz.vn1;have b2:=hz.vn2;have b3:=hz.nd1;have b4:=hz.nd2
 have b5:0<=V*(V-1):=Int.mul_nonneg (by omega) (by omega)
 have b6:V*(V-1)<=1000:=by
  have:=Int.mul_le_mul_of_nonneg_right v2 (show 0<=V-1 by omega)
  omega
 have wr1:IntKind.i64.wrap (S*7)=S*7:=IntWalk.i64_in _ (by omega)
 have wr2:IntKind.i64.wrap (V-1)=V-1:=IntWalk.i64_in _ (by omega)
 have wr3:IntKind.i64.wrap (V*(V-1))=V*(V-1):=IntWalk.i64_in _ (by omega)
 have wr5:IntKind.i64.wrap (nd V S*7)=nd V S*7:=IntWalk.i64_in _ (by omega)
 have tq:(V*(V-1)).tdiv 2=pr V:=Int.tdiv_eq_ediv_of_nonneg b5
 have wr4:IntKind.i64.wrap (pr V)=pr V:=IntWalk.i64_in _ (by have:=hz.pr1;have:=hz.pr2;omega)
 have H:=q9 h;have HR:=q9 h.yes;clear hz h
 go_enter Tryz.func73,Tryz.ntmps73
 go_wp2_with fail
 refine(Qfi _ _ _ _).mono ?_;rintro e w1 ⟨rfl,hb1⟩;rw[HR.out];obtain⟨hc1,hf1⟩:=QcC hb1;go_wp2_with fail
 have hsz:w.heap.size+1<w1.heap.size:=by have:=hb1.size;simp at this;omega
 have hB:Below w.heap.size w w1:=QK (((Below.refl _ _).alloc (Nat.le_refl _) _).alloc (by simp) _) hb1
 have y0:w1.cell? (I1 w.heap.size 0)=some (I V):=by simp [*,go_sem]
 have y1:w1.cell? (I1 w.heap.size 1)=some (I S):=by simp [*,go_sem]
 have y2:w1.cell? (I1 w.heap.size 2)=some (I T):=by simp [*,go_sem]
 have y3:w1.there (w.heap.size+1) 0 6:=by
  refine QP hb1 (by simp) (fun j hj=>?_)
  have:j=0\/j=1\/j=2\/j=3\/j=4\/j=5:=by omega
  rcases this with rfl|rfl|rfl|rfl|rfl|rfl<;>exact⟨by simp [go_sem],by simp [go_sem]⟩
 clear hc1 hf1 hb1;have HS:=q9 (And.intro y0 (And.intro y1 (And.intro y2 (And.intro y3 (And.intro hsz hB)))));clear y0 y1 y2 y3 hB
 have hz:∀ W:World,W.there (w.heap.size+1) 0 6->W.cell? ⟨w.heap.size+1,0,none⟩=some (zAt W (w.heap.size+1) 0)/\W.cell? ⟨w.heap.size+1,1,none⟩=some (zAt W (w.heap.size+1) 1)/\W.cell? ⟨w.heap.size+1,2,none⟩=some (zAt W (w.heap.size+1) 2)/\W.cell? ⟨w.heap.size+1,3,none⟩=some (zAt W (w.heap.size+1) 3)/\W.cell? ⟨w.heap.size+1,4,none⟩=some (zAt W (w.heap.size+1) 4)/\W.cell? ⟨w.heap.size+1,5,none⟩=some (zAt W (w.heap.size+1) 5):=
  fun W ht=>⟨Qo ht (i:=0) (by omega),Qo ht (i:=1) (by omega),Qo ht (i:=2) (by omega),Qo ht (i:=3) (by omega),Qo ht (i:=4) (by omega),Qo ht (i:=5) (by omega)⟩
 have hzf:∀ W:World,W.there (w.heap.size+1) 0 6->W.frozen? ⟨w.heap.size+1,0,none⟩=false/\W.frozen? ⟨w.heap.size+1,1,none⟩=false/\W.frozen? ⟨w.heap.size+1,2,none⟩=false/\W.frozen? ⟨w.heap.size+1,3,none⟩=false/\W.frozen? ⟨w.heap.size+1,4,none⟩=false/\W.frozen? ⟨w.heap.size+1,5,none⟩=false:=
  fun W ht=>⟨Qy ht (i:=0) (by omega),Qy ht (i:=1) (by omega),Qy ht (i:=2) (by omega),Qy ht (i:=3) (by omega),Qy ht (i:=4) (by omega),Qy ht (i:=5) (by omega)⟩
 go_region_held3 (fun w'=>w'.cell? (I1 w.heap.size 0)=some (I V)/\w'.cell? (I1 w.heap.size 1)=some (I S)/\w'.cell? (I1 w.heap.size 2)=some (I T)/\w'.there (w.heap.size+1) 0 6/\w.heap.size+1<w'.heap.size/\Below w.heap.size w w') (first|(with_reducible assumption)|(with_reducible exact Qg2 _ _ _ _ _ _ (by assumption))|(with_reducible exact Qdq hb (by assumption))|(with_reducible exact Qg3 HS.out))
  (first
   |(go_at_call 74;refine(QA V S T H _).mono ?_;rintro e w' ⟨rfl,hb⟩)
   |(go_at_call 33;refine(Q3 V S T H _).mono ?_;rintro e w' ⟨rfl,hb⟩;have HT:=q9 (Qdq hb (by assumption)).2.2.2.1))
 have hfin:=And.right (And.right (And.right (And.right (And.right (by assumption)))))
 have ht:=hz _ HT.out;clear hz hzf;go_wp2_with fail
 exact bodyPost_ret (v:=vZ V S T) (by simp [results,Tryz.results73,go_sem,ht]) rfl ⟨rfl,hfin⟩
set_option maxRecDepth 100000
def szF (V S T:Int):Nat->Int
 |0=>T
 |1=>1
 |2=>S*7
 |3=>vn V
 |4=>pr V
 |_=>nd V S*7
def preF (V S T:Int):Nat->Int
 |0=>0
 |k+1=>preF V S T k+szF V S T k
theorem Qed {V S T:Int}(h:Rt V S T)(k:Nat):0<=szF V S T k/\szF V S T k<=3920:=by
 have hz:=sizes h;obtain⟨_,_,h1,h2,h3,h4⟩:=h;obtain⟨_,_,z1,z2,_,_,_,z3,z4,_,_,z5,z6⟩:=hz;unfold szF;split<;>omega
theorem Qf5 {V S T:Int}(h:Rt V S T)(k:Nat):0<=preF V S T k/\preF V S T k<=3920*k:=by
 induction k with
 |zero=>simp [preF]
 |succ k ih=>have:=Qed h k;simp only[preF];omega
theorem Qm4 (V S T:Int):preF V S T 2=T+1:=by simp [preF,szF]
theorem Qm3 (V S T:Int):preF V S T 3=o3 S T:=by simp [preF,szF,o3]
theorem Qm2 (V S T:Int):preF V S T 4=o4 V S T:=by simp [preF,szF,o4]
theorem Qm1 (V S T:Int):preF V S T 5=o5 V S T:=by simp [preF,szF,o5]
theorem Qm0 (V S T:Int):preF V S T 6=cn V S T:=by simp [preF,szF,cn]
theorem QgB {V S T:Int}{w:World}{k:Nat}(hk:k<6):(w.alloc (.cells #[I T,I 1,I (S*7),I (vn V),I (pr V),I (nd V S*7)] 128)).cell? (I1 w.heap.size k)=some (I (szF V S T k)):=by
 have:k=0\/k=1\/k=2\/k=3\/k=4\/k=5:=by omega
 rcases this with rfl|rfl|rfl|rfl|rfl|rfl<;>simp [szF,go_sem]
set_option maxHeartbeats 2000000 in
theorem Qmj (V S T:Int)(h:Rt V S T)(p:Nat)(hp:p<=5)(x:Int)(hx:x<0\/szF V S T p<=x)(w:World):
 Calls Tryz.prog 77 #[vL V S T,I (p:Int),I x] w fun e w'=>e=.returned (I (-1))/\Below w.heap.size w w':=by
 by_cases h0:x<0
 . clear hx
   go_enter Tryz.func77,Tryz.ntmps77
   go_wp2_with fail
   refine(Qci V S T h _).mono ?_;rintro e w1 ⟨rfl,hb1⟩;go_wp2_with fail
   go_ret
   exact⟨rfl,(QK ((Below.refl _ _).alloc (Nat.le_refl _) _) hb1).alloc (by have:=hb1.size;simp at this;omega) _⟩
 . have h1:szF V S T p<=x:=by omega
   clear hx;have i0:(0:Int)<=(p:Int):=Int.natCast_nonneg _
   have i1:(p:Int)<6:=by omega
   go_enter Tryz.func77,Tryz.ntmps77
   go_wp2_with fail
   refine(Qci V S T h _).mono ?_;rintro e w1 ⟨rfl,hb1⟩
   have hc:=QgB (V:=V) (S:=S) (T:=T) (w:=w1) (k:=p) (by omega)
   go_wp2_with fail
   go_ret
   exact⟨rfl,(QK ((Below.refl _ _).alloc (Nat.le_refl _) _) hb1).alloc (by have:=hb1.size;simp at this;omega) _⟩
set_option maxHeartbeats 2000000 in
theorem QkI (V S T:Int)(h:Rt V S T)(p:Nat)(hp:p<=5)(x:Int)(h0:0<=x)(h1:x<szF V S T p)(w:World):
 Calls Tryz.prog 77 #[vL V S T,I (p:Int),I x] w fun e w'=>e=.returned (I (x+preF V S T p))/\Below w.heap.size w w':=by
 have i0:(0:Int)<=(p:Int):=Int.natCast_nonneg _
 have i1:(p:Int)<6:=by omega
 have i2:(p:Int)<=6:=by omega
 have x2:x<=3920:=by have:=Qed h p;omega
 go_enter Tryz.func77,Tryz.ntmps77
 go_wp2_with fail
 refine(Qci V S T h _).mono ?_;rintro e w1 ⟨rfl,hb1⟩
 have HC:Hid (∀ k,k<6->(w1.alloc (.cells #[I T,I 1,I (S*7),I (vn V),I (pr V),I (nd V S*7)] 128)).cell? (I1 w1.heap.size k)=some (I (szF V S T k))):=q9 fun k hk=>QgB hk
 have hc:=HC.out p (by omega)
 go_wp2_with fail
 clear hc h1
 go_loop [2,24] (fun at_ i=>∃ k:Nat,k<=p/\i=I k/\at_=I (x+preF V S T k)) (fun _ i=>p-(intOf i).toNat)
 case atStart=>exact⟨0,Nat.zero_le _,rfl,by simp [preF]⟩
 case round=>
  obtain⟨k,hk,rfl,rfl⟩:=hrel;have q:=Qf5 h k;have q1:0<=preF V S T k:=q.1
  have q2:preF V S T k<=23520:=by omega
  clear q
  by_cases hlt:k<p
  . have hc:=HC.out k (by omega)
    have s1:=(Qed h k).1;have s2:=(Qed h k).2;go_wp2_with fail
    go_round
    case rel=>exact⟨k+1,by omega,by go_num,by simp only[preF];go_num⟩
    case measure=>simp [intOf];omega
  . have:k=p:=by omega
    subst this;go_wp2_with fail
    go_ret
    exact⟨rfl,(QK ((Below.refl _ _).alloc (Nat.le_refl _) _) hb1).alloc (by have:=hb1.size;simp at this;omega) _⟩
theorem Qdn (V S T:Int)(h:Rt V S T)(p:Nat)(hp:p<=5)(x:Int)(w:World):
 Calls Tryz.prog 77 #[vL V S T,I (p:Int),I x] w fun e w'=>e=.returned (I (cl (szF V S T p) (preF V S T p) x))/\Below w.heap.size w w':=by
 by_cases hx:x<0\/szF V S T p<=x
 . rw[Qmg hx];exact Qmj V S T h p hp x hx w
 . rw[Qja (by omega) (by omega)];exact QkI V S T h p hp x (by omega) (by omega) w
theorem Qic (V S T:Int){k:Nat}(hk:k<6)(W:World):(Instr.index 128 (vZ V S T) (I (k:Int))).run Tryz.prog W=.ok (I (szF V S T k)) W:=by
 have hc:k=0\/k=1\/k=2\/k=3\/k=4\/k=5:=by omega
 rcases hc with rfl|rfl|rfl|rfl|rfl|rfl<;>rfl
set_option maxHeartbeats 2000000 in
theorem QfN (V S T:Int)(h:Rt V S T)(w:World):
 Calls Tryz.prog 31 #[vL V S T] w fun e w'=>e=.returned (I (cn V S T))/\Below w.heap.size w w':=by
 go_enter Tryz.func31,Tryz.ntmps31
 go_wp2_with fail
 refine(Qci V S T h _).mono ?_;rintro e w1 ⟨rfl,hb1⟩;go_wp2_with fail
 go_loop [3,8] (fun s i=>∃ k:Nat,k<=6/\i=I k/\s=I (preF V S T k)) (fun _ i=>6-(intOf i).toNat)
 case atStart=>exact⟨0,Nat.zero_le _,rfl,rfl⟩
 case round=>
  obtain⟨k,hk,rfl,rfl⟩:=hrel;have q1:0<=preF V S T k:=(Qf5 h k).1
  have q2:preF V S T k<=23520:=by have:=(Qf5 h k).2;omega
  by_cases hlt:k<6
  . have s1:=(Qed h k).1
    have s2:=(Qed h k).2
    have hi:=fun W=>Qic V S T hlt W
    go_wp2_with fail
    go_round
    case rel=>exact⟨k+1,by omega,by go_num,by simp only[preF]⟩
    case measure=>simp [intOf];omega
  . have:k=6:=by omega
    subst this;go_wp2_with fail
    go_ret;exact⟨QgD (Qm0 V S T),QK ((Below.refl _ _).alloc (Nat.le_refl _) _) hb1⟩
theorem Qmi (V S T:Int)(h:Rt V S T)(x:Int)(w:World):
 Calls Tryz.prog 77 #[vL V S T,I 2,I x] w fun e w'=>e=.returned (I (cl (S*7) (T+1) x))/\Below w.heap.size w w':=by
 have:=Qdn V S T h 2 (by omega) x w
 rw[Qm4] at this;simpa [szF] using this
theorem Qmh (V S T:Int)(h:Rt V S T)(x:Int)(w:World):
 Calls Tryz.prog 77 #[vL V S T,I 3,I x] w fun e w'=>e=.returned (I (cl (vn V) (o3 S T) x))/\Below w.heap.size w w':=by
 have:=Qdn V S T h 3 (by omega) x w
 rw[Qm3] at this;simpa [szF] using this
theorem Qjd (V S T:Int)(h:Rt V S T)(x:Int)(w:World):
 Calls Tryz.prog 77 #[vL V S T,I 4,I x] w fun e w'=>e=.returned (I (cl (pr V) (o4 V S T) x))/\Below w.heap.size w w':=by
 have:=Qdn V S T h 4 (by omega) x w
 rw[Qm2] at this;simpa [szF] using this
theorem Qjc (V S T:Int)(h:Rt V S T)(x:Int)(w:World):
 Calls Tryz.prog 77 #[vL V S T,I 5,I x] w fun e w'=>e=.returned (I (cl (nd V S*7) (o5 V S T) x))/\Below w.heap.size w w':=by
 have:=Qdn V S T h 5 (by omega) x w
 rw[Qm1] at this;simpa [szF] using this
theorem QaP (V S T:Int)(a k:Int)(h:Rt V S T)(w:World):
 Calls Tryz.prog 124 #[vL V S T,I a,I k] w fun e w'=>e=.returned (I (QaH S T a k))/\Below w.heap.size w w':=by
 rw[<-QlA];have z_l1:=(sizes h).l1;have z_l2:=(sizes h).l2;have z_vn1:=(sizes h).vn1;have z_vn2:=(sizes h).vn2;have z_sn1:=(sizes h).sn1;have z_sn2:=(sizes h).sn2;have z_nd1:=(sizes h).nd1;have z_nd2:=(sizes h).nd2;have z_s1:=h.s1;have z_s2:=h.s2;have z_v1:=h.v1;have z_v2:=h.v2;have H:=q9 h;clear h
 go_enter Tryz.func124,Tryz.ntmps124
 go_wp2_with fail
 go_region_held3 (fun w'=>w'.cell? (I1 w.heap.size 0)=some (I V)/\w'.cell? (I1 w.heap.size 1)=some (I S)/\w'.cell? (I1 w.heap.size 2)=some (I T)/\w.heap.size<w'.heap.size/\Below w.heap.size w w') (first|assumption|exact QC w V S T|exact held_drew (by assumption)|exact QD hb (by assumption))
  (first
   |(go_at_call 78;refine(QaI _ _ _ _ (by omega) (by omega) _).mono ?_;rintro e w' ⟨rfl,rfl⟩)
   |(go_at_call 77;refine(Qmi V S T H _ _).mono ?_;rintro e w' ⟨rfl,hb⟩))
 go_wp2_with fail
 go_ret
 exact⟨rfl,And.right (And.right (And.right (And.right (by assumption))))⟩
theorem QbJ (V S T:Int)(a:Int)(h:Rt V S T)(w:World):
 Calls Tryz.prog 122 #[vL V S T,I a] w fun e w'=>e=.returned (I (QaH S T a 1))/\Below w.heap.size w w':=by
 go_enter Tryz.func122,Tryz.ntmps122
 go_wp2_with (refine(QaP V S T a 1 h _).mono ?_;rintro e w1 ⟨rfl,hb1⟩)
 go_ret;exact⟨rfl,QK ((Below.refl _ _).alloc (Nat.le_refl _) _) hb1⟩
theorem Qct (V S T:Int)(a:Int)(h:Rt V S T)(w:World):
 Calls Tryz.prog 70 #[vL V S T,I a] w fun e w'=>e=.returned (I (QaH S T a 2))/\Below w.heap.size w w':=by
 go_enter Tryz.func70,Tryz.ntmps70
 go_wp2_with (refine(QaP V S T a 2 h _).mono ?_;rintro e w1 ⟨rfl,hb1⟩)
 go_ret;exact⟨rfl,QK ((Below.refl _ _).alloc (Nat.le_refl _) _) hb1⟩
theorem Qj7 (V S T:Int)(a b:Int)(h:Rt V S T)(w:World):
 Calls Tryz.prog 155 #[vL V S T,I a,I b] w fun e w'=>e=.returned (I (QaH S T a (QcQ 3 b)))/\Below w.heap.size w w':=by
 have z_l1:=(sizes h).l1;have z_l2:=(sizes h).l2;have z_vn1:=(sizes h).vn1;have z_vn2:=(sizes h).vn2;have z_sn1:=(sizes h).sn1;have z_sn2:=(sizes h).sn2;have z_nd1:=(sizes h).nd1;have z_nd2:=(sizes h).nd2;have z_s1:=h.s1;have z_s2:=h.s2;have z_v1:=h.v1;have z_v2:=h.v2;have H:=q9 h;clear h
 go_enter Tryz.func155,Tryz.ntmps155
 go_wp2_with fail
 go_region_held3 (fun w'=>w'.cell? (I1 w.heap.size 0)=some (I V)/\w'.cell? (I1 w.heap.size 1)=some (I S)/\w'.cell? (I1 w.heap.size 2)=some (I T)/\w.heap.size<w'.heap.size/\Below w.heap.size w w') (first|assumption|exact QC w V S T|exact held_drew (by assumption)|exact QD hb (by assumption))
  (first
   |(go_at_call 156;refine(Qei _ _ (by omega) (by omega) _).mono ?_;rintro e w' ⟨rfl,rfl⟩)
   |(go_at_call 124;refine(QaP V S T _ _ H _).mono ?_;rintro e w' ⟨rfl,hb⟩))
 go_wp2_with fail
 go_ret
 exact⟨rfl,And.right (And.right (And.right (And.right (by assumption))))⟩
theorem QeH (V S T:Int)(a b:Int)(h:Rt V S T)(w:World):
 Calls Tryz.prog 137 #[vL V S T,I a,I b] w fun e w'=>e=.returned (I (QaH S T a (QcQ 5 b)))/\Below w.heap.size w w':=by
 have z_l1:=(sizes h).l1;have z_l2:=(sizes h).l2;have z_vn1:=(sizes h).vn1;have z_vn2:=(sizes h).vn2;have z_sn1:=(sizes h).sn1;have z_sn2:=(sizes h).sn2;have z_nd1:=(sizes h).nd1;have z_nd2:=(sizes h).nd2;have z_s1:=h.s1;have z_s2:=h.s2;have z_v1:=h.v1;have z_v2:=h.v2;have H:=q9 h;clear h
 go_enter Tryz.func137,Tryz.ntmps137
 go_wp2_with fail
 go_region_held3 (fun w'=>w'.cell? (I1 w.heap.size 0)=some (I V)/\w'.cell? (I1 w.heap.size 1)=some (I S)/\w'.cell? (I1 w.heap.size 2)=some (I T)/\w.heap.size<w'.heap.size/\Below w.heap.size w w') (first|assumption|exact QC w V S T|exact held_drew (by assumption)|exact QD hb (by assumption))
  (first
   |(go_at_call 156;refine(Qei _ _ (by omega) (by omega) _).mono ?_;rintro e w' ⟨rfl,rfl⟩)
   |(go_at_call 124;refine(QaP V S T _ _ H _).mono ?_;rintro e w' ⟨rfl,hb⟩))
 go_wp2_with fail
 go_ret
 exact⟨rfl,And.right (And.right (And.right (And.right (by assumption))))⟩
theorem QgN (V S T:Int)(a b:Int)(h:Rt V S T)(w:World):
 Calls Tryz.prog 132 #[vL V S T,I a,I b] w fun e w'=>e=.returned (I (Qgh V S T a b))/\Below w.heap.size w w':=by
 have z_l1:=(sizes h).l1;have z_l2:=(sizes h).l2;have z_vn1:=(sizes h).vn1;have z_vn2:=(sizes h).vn2;have z_sn1:=(sizes h).sn1;have z_sn2:=(sizes h).sn2;have z_nd1:=(sizes h).nd1;have z_nd2:=(sizes h).nd2;have z_s1:=h.s1;have z_s2:=h.s2;have z_v1:=h.v1;have z_v2:=h.v2;have H:=q9 h;clear h
 go_enter Tryz.func132,Tryz.ntmps132
 go_wp2_with fail
 go_region_held3 (fun w'=>w'.cell? (I1 w.heap.size 0)=some (I V)/\w'.cell? (I1 w.heap.size 1)=some (I S)/\w'.cell? (I1 w.heap.size 2)=some (I T)/\w.heap.size<w'.heap.size/\Below w.heap.size w w') (first|assumption|exact QC w V S T|exact held_drew (by assumption)|exact QD hb (by assumption))
  (first
   |(go_at_call 13;refine(QM V S T H _).mono ?_;rintro e w' ⟨rfl,hb⟩)
   |(go_at_call 78;refine(QaI _ _ _ _ (by omega) (by omega) _).mono ?_;rintro e w' ⟨rfl,rfl⟩)
   |(go_at_call 77;refine(Qmh V S T H _ _).mono ?_;rintro e w' ⟨rfl,hb⟩))
 go_wp2_with fail
 go_ret
 exact⟨rfl,And.right (And.right (And.right (And.right (by assumption))))⟩
theorem Qi3 (V S T:Int)(b:Int)(h:Rt V S T)(w:World):
 Calls Tryz.prog 35 #[vL V S T,I (-9223372036854775808),I b] w fun e w'=>e=.returned (I (-1))/\Below w.heap.size w w':=by
 have wr:IntKind.i64.wrap (-9223372036854775809)=9223372036854775807:=by decide
 have nn:(nd V S)<=9223372036854775807:=by have:=(sizes h).nd2;omega
 have z_l1:=(sizes h).l1;have z_l2:=(sizes h).l2;have z_vn1:=(sizes h).vn1;have z_vn2:=(sizes h).vn2;have z_sn1:=(sizes h).sn1;have z_sn2:=(sizes h).sn2;have z_nd1:=(sizes h).nd1;have z_nd2:=(sizes h).nd2;have z_s1:=h.s1;have z_s2:=h.s2;have z_v1:=h.v1;have z_v2:=h.v2;have H:=q9 h;clear h
 go_enter Tryz.func35,Tryz.ntmps35
 go_wp2_with fail
 go_region_held3 (fun w'=>w'.cell? (I1 w.heap.size 0)=some (I V)/\w'.cell? (I1 w.heap.size 1)=some (I S)/\w'.cell? (I1 w.heap.size 2)=some (I T)/\w.heap.size<w'.heap.size/\Below w.heap.size w w') (first|assumption|exact QC w V S T|exact held_drew (by assumption)|exact QD hb (by assumption))
  (first
   |(go_at_call 33;refine(Q3 V S T H _).mono ?_;rintro e w' ⟨rfl,hb⟩)
   |(go_at_call 78;refine(QaI _ _ _ _ (by omega) (by omega) _).mono ?_;rintro e w' ⟨rfl,rfl⟩;rw[QlL (by omega)])
   |(go_at_call 77;refine(Qjc V S T H _ _).mono ?_;rintro e w' ⟨rfl,hb⟩;rw[Qmg (by omega)]))
 go_wp2_with fail
 go_ret
 exact⟨rfl,And.right (And.right (And.right (And.right (by assumption))))⟩
theorem Qkx (V S T:Int)(a b:Int)(h:Rt V S T)(b1:-9223372036854775807<=a)(b2:a<=9223372036854775807)(w:World):
 Calls Tryz.prog 35 #[vL V S T,I a,I b] w fun e w'=>e=.returned (I (Qbu V S T a b))/\Below w.heap.size w w':=by
 have wr:IntKind.i64.wrap (a-1)=a-1:=IntWalk.i64_in _ (by omega)
 rw[<-Qky];have z_l1:=(sizes h).l1;have z_l2:=(sizes h).l2;have z_vn1:=(sizes h).vn1;have z_vn2:=(sizes h).vn2;have z_sn1:=(sizes h).sn1;have z_sn2:=(sizes h).sn2;have z_nd1:=(sizes h).nd1;have z_nd2:=(sizes h).nd2;have z_s1:=h.s1;have z_s2:=h.s2;have z_v1:=h.v1;have z_v2:=h.v2;have H:=q9 h;clear h
 go_enter Tryz.func35,Tryz.ntmps35
 go_wp2_with fail
 go_region_held3 (fun w'=>w'.cell? (I1 w.heap.size 0)=some (I V)/\w'.cell? (I1 w.heap.size 1)=some (I S)/\w'.cell? (I1 w.heap.size 2)=some (I T)/\w.heap.size<w'.heap.size/\Below w.heap.size w w') (first|assumption|exact QC w V S T|exact held_drew (by assumption)|exact QD hb (by assumption))
  (first
   |(go_at_call 33;refine(Q3 V S T H _).mono ?_;rintro e w' ⟨rfl,hb⟩)
   |(go_at_call 78;refine(QaI _ _ _ _ (by omega) (by omega) _).mono ?_;rintro e w' ⟨rfl,rfl⟩)
   |(go_at_call 77;refine(Qjc V S T H _ _).mono ?_;rintro e w' ⟨rfl,hb⟩))
 go_wp2_with fail
 go_ret
 exact⟨rfl,And.right (And.right (And.right (And.right (by assumption))))⟩
theorem QaM (V S T:Int)(a b:Int)(h:Rt V S T)(b1:-9223372036854775808<=a)(b2:a<=9223372036854775807)(w:World):
 Calls Tryz.prog 35 #[vL V S T,I a,I b] w fun e w'=>e=.returned (I (Qbu V S T a b))/\Below w.heap.size w w':=by
 by_cases hm:a=-9223372036854775808
 . subst hm
   rw[show Qbu V S T (-9223372036854775808) b=-1 from if_neg (by omega)]
   exact Qi3 V S T b h w
 . exact Qkx V S T a b h (by omega) b2 w
theorem QaY (V S T:Int)(a b:Int)(h:Rt V S T)(w:World):
 Calls Tryz.prog 67 #[vL V S T,I a,I b] w fun e w'=>e=.returned (I (QcO V a b))/\Below w.heap.size w w':=by
 have pb:=QlM (r:=a) (R:=lv V) (c:=b) (C:=V) (by have:=(sizes h).l2;omega) (by have:=h.v2;omega) (by have:=h.v1;omega)
 have pb1:-1<=pl a (lv V) b V:=pb.1;have pb2:pl a (lv V) b V<=360000:=pb.2
 have wr:IntKind.i64.wrap (pl a (lv V) b V+1)=pl a (lv V) b V+1:=IntWalk.i64_in _ (by omega)
 clear pb;have z_l1:=(sizes h).l1;have z_l2:=(sizes h).l2;have z_vn1:=(sizes h).vn1;have z_vn2:=(sizes h).vn2;have z_sn1:=(sizes h).sn1;have z_sn2:=(sizes h).sn2;have z_nd1:=(sizes h).nd1;have z_nd2:=(sizes h).nd2;have z_s1:=h.s1;have z_s2:=h.s2;have z_v1:=h.v1;have z_v2:=h.v2;have H:=q9 h;clear h
 go_enter Tryz.func67,Tryz.ntmps67
 go_wp2_with fail
 go_region_held3 (fun w'=>w'.cell? (I1 w.heap.size 0)=some (I V)/\w'.cell? (I1 w.heap.size 1)=some (I S)/\w'.cell? (I1 w.heap.size 2)=some (I T)/\w.heap.size<w'.heap.size/\Below w.heap.size w w') (first|assumption|exact QC w V S T|exact held_drew (by assumption)|exact QD hb (by assumption))
  (first
   |(go_at_call 13;refine(QM V S T H _).mono ?_;rintro e w' ⟨rfl,hb⟩)
   |(go_at_call 78;refine(QaI _ _ _ _ (by omega) (by omega) _).mono ?_;rintro e w' ⟨rfl,rfl⟩))
 go_wp2_with fail
 go_ret
 exact⟨rfl,And.right (And.right (And.right (And.right (by assumption))))⟩
theorem Qnz (V S T:Int)(a l s:Int)(h:Rt V S T)(hq:(pl a S (pl l (lv V) s 2) (sn V)==-1)=true)(w:World):
 Calls Tryz.prog 66 #[vL V S T,I a,I l,I s] w fun e w'=>e=.returned (I (0))/\Below w.heap.size w w':=by
 have pb:=QlM (r:=a) (R:=S) (c:=pl l (lv V) s 2) (C:=sn V) (by have:=h.s2;omega) (by have:=(sizes h).sn2;omega) (by have:=(sizes h).sn1;omega)
 have pb1:-1<=pl a S (pl l (lv V) s 2) (sn V):=pb.1;have pb2:pl a S (pl l (lv V) s 2) (sn V)<=360000:=pb.2;clear pb;have z_l1:=(sizes h).l1;have z_l2:=(sizes h).l2;have z_vn1:=(sizes h).vn1;have z_vn2:=(sizes h).vn2;have z_sn1:=(sizes h).sn1;have z_sn2:=(sizes h).sn2;have z_nd1:=(sizes h).nd1;have z_nd2:=(sizes h).nd2;have z_s1:=h.s1;have z_s2:=h.s2;have z_v1:=h.v1;have z_v2:=h.v2;have H:=q9 h;clear h
 go_enter Tryz.func66,Tryz.ntmps66
 go_wp2_with fail
 go_region_held3 (fun w'=>w'.cell? (I1 w.heap.size 0)=some (I V)/\w'.cell? (I1 w.heap.size 1)=some (I S)/\w'.cell? (I1 w.heap.size 2)=some (I T)/\w.heap.size<w'.heap.size/\Below w.heap.size w w') (first|assumption|exact QC w V S T|exact held_drew (by assumption)|exact QD hb (by assumption))
  (first
   |(go_at_call 13;refine(QM V S T H _).mono ?_;rintro e w' ⟨rfl,hb⟩)
   |(go_at_call 78;refine(QaI _ _ _ _ (by omega) (by omega) _).mono ?_;rintro e w' ⟨rfl,rfl⟩)
   |(go_at_call 75;refine(QaB V S T H _).mono ?_;rintro e w' ⟨rfl,hb⟩))
 go_wp2_with fail
 go_ret
 exact⟨rfl,And.right (And.right (And.right (And.right (by assumption))))⟩
theorem QkO (V S T:Int)(a l s:Int)(h:Rt V S T)(hq:(pl a S (pl l (lv V) s 2) (sn V)==-1)=false)(w:World):
 Calls Tryz.prog 66 #[vL V S T,I a,I l,I s] w fun e w'=>e=.returned (I (vn V+pl a S (pl l (lv V) s 2) (sn V)+1))/\Below w.heap.size w w':=by
 have pb:=QlM (r:=a) (R:=S) (c:=pl l (lv V) s 2) (C:=sn V) (by have:=h.s2;omega) (by have:=(sizes h).sn2;omega) (by have:=(sizes h).sn1;omega)
 have pb1:-1<=pl a S (pl l (lv V) s 2) (sn V):=pb.1;have pb2:pl a S (pl l (lv V) s 2) (sn V)<=360000:=pb.2;clear pb;have z_l1:=(sizes h).l1;have z_l2:=(sizes h).l2;have z_vn1:=(sizes h).vn1;have z_vn2:=(sizes h).vn2;have z_sn1:=(sizes h).sn1;have z_sn2:=(sizes h).sn2;have z_nd1:=(sizes h).nd1;have z_nd2:=(sizes h).nd2;have z_s1:=h.s1;have z_s2:=h.s2;have z_v1:=h.v1;have z_v2:=h.v2;have H:=q9 h;clear h
 go_enter Tryz.func66,Tryz.ntmps66
 go_wp2_with fail
 go_region_held3 (fun w'=>w'.cell? (I1 w.heap.size 0)=some (I V)/\w'.cell? (I1 w.heap.size 1)=some (I S)/\w'.cell? (I1 w.heap.size 2)=some (I T)/\w.heap.size<w'.heap.size/\Below w.heap.size w w') (first|assumption|exact QC w V S T|exact held_drew (by assumption)|exact QD hb (by assumption))
  (first
   |(go_at_call 13;refine(QM V S T H _).mono ?_;rintro e w' ⟨rfl,hb⟩)
   |(go_at_call 78;refine(QaI _ _ _ _ (by omega) (by omega) _).mono ?_;rintro e w' ⟨rfl,rfl⟩)
   |(go_at_call 75;refine(QaB V S T H _).mono ?_;rintro e w' ⟨rfl,hb⟩))
 have hS:=‹_/\_›;have hlt:=And.left (And.right (And.right (And.right hS)));have hBB:=q9 (And.right (And.right (And.right (And.right hS))));go_wp2_with (refine(QA V S T H.out _).mono ?_;rintro e w1 ⟨rfl,hb1⟩)
 go_wp2_with fail
 go_ret
 exact⟨rfl,QK (hBB.out) hb1 (by omega)⟩
theorem Qmp (V S T:Int)(a l s:Int)(h:Rt V S T)(w:World):
 Calls Tryz.prog 66 #[vL V S T,I a,I l,I s] w fun e w'=>e=.returned (I (arcF V S a l s))/\Below w.heap.size w w':=by
 by_cases hq:pl a S (pl l (lv V) s 2) (sn V)=-1
 . rw[show arcF V S a l s=0 from if_pos hq];exact Qnz V S T a l s h (beq_iff_eq.2 hq) w
 . rw[show arcF V S a l s=vn V+pl a S (pl l (lv V) s 2) (sn V)+1 from if_neg hq];exact QkO V S T a l s h (beq_eq_false_iff_ne.2 hq) w
theorem Ql7 (V S T:Int)(a b:Int)(hn:¬ (0<=min a b/\a≠b/\max a b<V))(w:World):
 Calls Tryz.prog 91 #[vL V S T,I a,I b] w fun e w'=>e=.returned (I (-1))/\Below w.heap.size w w':=by
 have hc:(b<a/\b<0)\/(b<a/\0<=b/\V<=a)\/(a<b/\a<0)\/(a=b/\a<0)\/(a=b/\0<=a)\/(a<b/\0<=a/\V<=b):=by omega
 clear hn
 rcases hc with ⟨h1,h2⟩|⟨h1,h2,h3⟩|⟨h1,h2⟩|⟨h1,h2⟩|⟨h1,h2⟩|⟨h1,h2,h3⟩
 . have h4:¬ a<=b:=by omega
   go_enter Tryz.func91,Tryz.ntmps91
   go_wp2_with fail
   go_ret;exact⟨rfl,(Below.refl _ _).alloc (Nat.le_refl _) _⟩
 . have h4:(b==a)=false:=by simpa using (show b≠a by omega)
   go_enter Tryz.func91,Tryz.ntmps91
   go_wp2_with fail
   go_ret;exact⟨rfl,(Below.refl _ _).alloc (Nat.le_refl _) _⟩
 . have h4:¬ b<a:=by omega
   go_enter Tryz.func91,Tryz.ntmps91
   go_wp2_with fail
   go_ret;exact⟨rfl,(Below.refl _ _).alloc (Nat.le_refl _) _⟩
 . subst h1
   go_enter Tryz.func91,Tryz.ntmps91
   go_wp2_with fail
   go_ret;exact⟨rfl,(Below.refl _ _).alloc (Nat.le_refl _) _⟩
 . subst h1
   go_enter Tryz.func91,Tryz.ntmps91
   go_wp2_with fail
   go_ret;exact⟨rfl,(Below.refl _ _).alloc (Nat.le_refl _) _⟩
 . have h4:(a==b)=false:=by simpa using (show a≠b by omega)
   go_enter Tryz.func91,Tryz.ntmps91
   go_wp2_with fail
   go_ret;exact⟨rfl,(Below.refl _ _).alloc (Nat.le_refl _) _⟩
theorem Ql8 (V S T:Int)(a b:Int)(h:Rt V S T)(h1:0<=a)(h2:a<b)(h3:b<V)(w:World):
 Calls Tryz.prog 91 #[vL V S T,I a,I b] w fun e w'=>e=.returned (I (cl (pr V) (o4 V S T) (ahF V a+b-a-1)))/\Below w.heap.size w w':=by
 have v2:=h.v2
 have m1:0<=a*(2*V-a-1):=Int.mul_nonneg h1 (by omega)
 have m2:a*(2*V-a-1)<=1000:=by
  have e1:a*(2*V-a-1)<=16*(2*V-a-1):=Int.mul_le_mul_of_nonneg_right (by omega) (by omega)
  omega
 have hne:(a==b)=false:=by simpa using (show a≠b by omega)
 unfold ahF
 go_enter Tryz.func91,Tryz.ntmps91
 go_wp2_with (refine(Qjd V S T h _ _).mono ?_;rintro e w1 ⟨rfl,hb1⟩)
 go_ret;exact⟨rfl,QK ((Below.refl _ _).alloc (Nat.le_refl _) _) hb1⟩
theorem Ql9 (V S T:Int)(a b:Int)(h:Rt V S T)(h1:0<=b)(h2:b<a)(h3:a<V)(w:World):
 Calls Tryz.prog 91 #[vL V S T,I a,I b] w fun e w'=>e=.returned (I (cl (pr V) (o4 V S T) (ahF V b+a-b-1)))/\Below w.heap.size w w':=by
 have v2:=h.v2
 have m1:0<=b*(2*V-b-1):=Int.mul_nonneg h1 (by omega)
 have m2:b*(2*V-b-1)<=1000:=by
  have e1:b*(2*V-b-1)<=16*(2*V-b-1):=Int.mul_le_mul_of_nonneg_right (by omega) (by omega)
  omega
 have hne:(b==a)=false:=by simpa using (show b≠a by omega)
 unfold ahF
 go_enter Tryz.func91,Tryz.ntmps91
 go_wp2_with (refine(Qjd V S T h _ _).mono ?_;rintro e w1 ⟨rfl,hb1⟩)
 go_ret;exact⟨rfl,QK ((Below.refl _ _).alloc (Nat.le_refl _) _) hb1⟩
theorem QbL (V S T:Int)(a b:Int)(h:Rt V S T)(w:World):
 Calls Tryz.prog 91 #[vL V S T,I a,I b] w fun e w'=>e=.returned (I (Qb7 V S T a b))/\Below w.heap.size w w':=by
 by_cases hn:0<=min a b/\a≠b/\max a b<V
 . unfold Qb7
   rw[if_neg (by omega)]
   by_cases hab:a<b
   . rw[show min a b=a by omega,show max a b=b by omega]
     exact Ql8 V S T a b h (by omega) hab (by omega) w
   . rw[show min a b=b by omega,show max a b=a by omega]
     exact Ql9 V S T a b h (by omega) (by omega) (by omega) w
 . rw[show Qb7 V S T a b=-1 from if_pos (by omega)]
   exact Ql7 V S T a b hn w
def QfV (V n p:Int):Prop:=(n=0/\p=1)\/(n=1/\p=2/\1<=V)\/(n=2/\p=4/\2<=V)\/(n=3/\p=8/\4<=V)\/(n=4/\p=16/\8<=V)\/(n=5/\p=32/\16<=V)
theorem QjZ {V n p:Int}(h:QfV V n p):0<=n/\n<=5/\1<=p/\p<=32:=by unfold QfV at h;omega
theorem Qhk {V n p:Int}(h:QfV V n p)(h1:p<=V)(h2:V<=16):QfV V (n+1) (p*2):=by unfold QfV at *;omega
theorem Qih {V n p:Int}(h:QfV V n p)(h0:1<=V)(h1:V<p)(h2:V<=16):n=lv V:=by
 unfold QfV at h;unfold lv
 split<;>(try split)<;>(try split)<;>(try split)<;>omega
theorem QH (V S T:Int)(h:Rt V S T)(w:World):
 Calls Tryz.prog 52 #[vL V S T] w fun e w'=>e=.returned (I (lv V))/\Below w.heap.size w w':=by
 have h1:=h.v1;have h2:=h.v2
 go_enter Tryz.func52,Tryz.ntmps52
 go_wp2_with fail
 go_loop [3,4] (fun n p=>∃ i j:Int,QfV V i j/\n=I i/\p=I j) (fun _ p=>(32-intOf p).toNat)
 case atStart=>exact⟨0,1,Or.inl ⟨rfl,rfl⟩,rfl,rfl⟩
 case round=>
  obtain⟨i,j,hp,rfl,rfl⟩:=hrel;have hb:=QjZ hp;have b1:0<=i:=hb.1;have b2:i<=5:=hb.2.1;have b3:1<=j:=hb.2.2.1;have b4:j<=32:=hb.2.2.2;clear hb;have HP:=q9 hp;clear hp
  by_cases hle:j<=V
  . go_wp2_with fail
    go_round
    case rel=>exact⟨_,_,Qhk HP.out hle h2,rfl,rfl⟩
    case measure=>simp [intOf];omega
  . go_wp2_with fail
    go_ret
    exact⟨QgD (Qih HP h1 (by omega) h2),(Below.refl _ _).alloc (Nat.le_refl _) _⟩
theorem Qb5 {w W w1:World}{V S T:Int}{n:Nat}(hb:Below W.heap.size W w1)(h:W.cell? (I1 w.heap.size 0)=some (I V)/\W.cell? (I1 w.heap.size 1)=some (I S)/\W.cell? (I1 w.heap.size 2)=some (I T)/\W.there (w.heap.size+1) 0 n/\w.heap.size+1<W.heap.size/\Below w.heap.size w W):w1.cell? (I1 w.heap.size 0)=some (I V)/\w1.cell? (I1 w.heap.size 1)=some (I S)/\w1.cell? (I1 w.heap.size 2)=some (I T)/\w1.there (w.heap.size+1) 0 n/\w.heap.size+1<w1.heap.size/\Below w.heap.size w w1:=by
 obtain⟨x0,x1,x2,x3,x4,x5⟩:=h;exact⟨(hb.cell (p:=(I1 w.heap.size 0)) (Nat.lt_of_succ_lt x4)).trans x0,(hb.cell (p:=(I1 w.heap.size 1)) (Nat.lt_of_succ_lt x4)).trans x1,(hb.cell (p:=(I1 w.heap.size 2)) (Nat.lt_of_succ_lt x4)).trans x2,QP hb x4 x3,Nat.lt_of_lt_of_le x4 hb.size,QK x5 hb (Nat.le_of_lt (Nat.lt_of_succ_lt x4))⟩
theorem QcW {w W:World}{V S T:Int}{n:Nat}(h:W.cell? (I1 w.heap.size 0)=some (I V)/\W.cell? (I1 w.heap.size 1)=some (I S)/\W.cell? (I1 w.heap.size 2)=some (I T)/\W.there (w.heap.size+1) 0 n/\w.heap.size+1<W.heap.size/\Below w.heap.size w W):W.drew.cell? (I1 w.heap.size 0)=some (I V)/\W.drew.cell? (I1 w.heap.size 1)=some (I S)/\W.drew.cell? (I1 w.heap.size 2)=some (I T)/\W.drew.there (w.heap.size+1) 0 n/\w.heap.size+1<W.drew.heap.size/\Below w.heap.size w W.drew:=
 ⟨h.1,h.2.1,h.2.2.1,h.2.2.2.1,h.2.2.2.2.1,h.2.2.2.2.2.drew⟩
theorem QiU {w W:World}{V S T:Int}{n:Nat}(vs:List Value)(h:W.cell? (I1 w.heap.size 0)=some (I V)/\W.cell? (I1 w.heap.size 1)=some (I S)/\W.cell? (I1 w.heap.size 2)=some (I T)/\W.there (w.heap.size+1) 0 n/\w.heap.size+1<W.heap.size/\Below w.heap.size w W):(W.setCells (w.heap.size+1) 0 vs).cell? (I1 w.heap.size 0)=some (I V)/\(W.setCells (w.heap.size+1) 0 vs).cell? (I1 w.heap.size 1)=some (I S)/\(W.setCells (w.heap.size+1) 0 vs).cell? (I1 w.heap.size 2)=some (I T)/\(W.setCells (w.heap.size+1) 0 vs).there (w.heap.size+1) 0 n/\w.heap.size+1<(W.setCells (w.heap.size+1) 0 vs).heap.size/\Below w.heap.size w (W.setCells (w.heap.size+1) 0 vs):=by
 obtain⟨x0,x1,x2,x3,x4,x5⟩:=h
 exact⟨(Qae (by omega)).trans x0,(Qae (by omega)).trans x1,(Qae (by omega)).trans x2,World.there_setCells x3 _ _ _,by rw[Qcj];exact x4,QbT x5 (by omega) _ _⟩
theorem QcV {w W:World}{V S T:Int}{n:Nat}(a b c d e:Value)(h:W.cell? (I1 w.heap.size 0)=some (I V)/\W.cell? (I1 w.heap.size 1)=some (I S)/\W.cell? (I1 w.heap.size 2)=some (I T)/\W.there (w.heap.size+1) 0 n/\w.heap.size+1<W.heap.size/\Below w.heap.size w W):(((((W.setCell ⟨w.heap.size+1,0,none⟩ a).setCell ⟨w.heap.size+1,1,none⟩ b).setCell ⟨w.heap.size+1,2,none⟩ c).setCell ⟨w.heap.size+1,3,none⟩ d).setCell ⟨w.heap.size+1,4,none⟩ e).cell? (I1 w.heap.size 0)=some (I V)/\(((((W.setCell ⟨w.heap.size+1,0,none⟩ a).setCell ⟨w.heap.size+1,1,none⟩ b).setCell ⟨w.heap.size+1,2,none⟩ c).setCell ⟨w.heap.size+1,3,none⟩ d).setCell ⟨w.heap.size+1,4,none⟩ e).cell? (I1 w.heap.size 1)=some (I S)/\(((((W.setCell ⟨w.heap.size+1,0,none⟩ a).setCell ⟨w.heap.size+1,1,none⟩ b).setCell ⟨w.heap.size+1,2,none⟩ c).setCell ⟨w.heap.size+1,3,none⟩ d).setCell ⟨w.heap.size+1,4,none⟩ e).cell? (I1 w.heap.size 2)=some (I T)/\(((((W.setCell ⟨w.heap.size+1,0,none⟩ a).setCell ⟨w.heap.size+1,1,none⟩ b).setCell ⟨w.heap.size+1,2,none⟩ c).setCell ⟨w.heap.size+1,3,none⟩ d).setCell ⟨w.heap.size+1,4,none⟩ e).there (w.heap.size+1) 0 n/\w.heap.size+1<(((((W.setCell ⟨w.heap.size+1,0,none⟩ a).setCell ⟨w.heap.size+1,1,none⟩ b).setCell ⟨w.heap.size+1,2,none⟩ c).setCell ⟨w.heap.size+1,3,none⟩ d).setCell ⟨w.heap.size+1,4,none⟩ e).heap.size/\Below w.heap.size w (((((W.setCell ⟨w.heap.size+1,0,none⟩ a).setCell ⟨w.heap.size+1,1,none⟩ b).setCell ⟨w.heap.size+1,2,none⟩ c).setCell ⟨w.heap.size+1,3,none⟩ d).setCell ⟨w.heap.size+1,4,none⟩ e):=
 QiU [a,b,c,d,e] h
theorem QdG {w W:World}{V S T:Int}{n:Nat}(a b c d e:Value)(h:W.cell? (I1 w.heap.size 0)=some (I V)/\W.cell? (I1 w.heap.size 1)=some (I S)/\W.cell? (I1 w.heap.size 2)=some (I T)/\W.there (w.heap.size+1) 0 n/\w.heap.size+1<W.heap.size/\Below w.heap.size w W):(((((W.setCell ⟨w.heap.size+1,0,none⟩ a).setCell ⟨w.heap.size+1,1,none⟩ b).setCell ⟨w.heap.size+1,2,none⟩ c).setCell ⟨w.heap.size+1,3,none⟩ d).setCell ⟨w.heap.size+1,4,none⟩ e).drew.cell? (I1 w.heap.size 0)=some (I V)/\(((((W.setCell ⟨w.heap.size+1,0,none⟩ a).setCell ⟨w.heap.size+1,1,none⟩ b).setCell ⟨w.heap.size+1,2,none⟩ c).setCell ⟨w.heap.size+1,3,none⟩ d).setCell ⟨w.heap.size+1,4,none⟩ e).drew.cell? (I1 w.heap.size 1)=some (I S)/\(((((W.setCell ⟨w.heap.size+1,0,none⟩ a).setCell ⟨w.heap.size+1,1,none⟩ b).setCell ⟨w.heap.size+1,2,none⟩ c).setCell ⟨w.heap.size+1,3,none⟩ d).setCell ⟨w.heap.size+1,4,none⟩ e).drew.cell? (I1 w.heap.size 2)=some (I T)/\(((((W.setCell ⟨w.heap.size+1,0,none⟩ a).setCell ⟨w.heap.size+1,1,none⟩ b).setCell ⟨w.heap.size+1,2,none⟩ c).setCell ⟨w.heap.size+1,3,none⟩ d).setCell ⟨w.heap.size+1,4,none⟩ e).drew.there (w.heap.size+1) 0 n/\w.heap.size+1<(((((W.setCell ⟨w.heap.size+1,0,none⟩ a).setCell ⟨w.heap.size+1,1,none⟩ b).setCell ⟨w.heap.size+1,2,none⟩ c).setCell ⟨w.heap.size+1,3,none⟩ d).setCell ⟨w.heap.size+1,4,none⟩ e).drew.heap.size/\Below w.heap.size w (((((W.setCell ⟨w.heap.size+1,0,none⟩ a).setCell ⟨w.heap.size+1,1,none⟩ b).setCell ⟨w.heap.size+1,2,none⟩ c).setCell ⟨w.heap.size+1,3,none⟩ d).setCell ⟨w.heap.size+1,4,none⟩ e).drew:=
 QcW (QcV a b c d e h)
abbrev vT (arc:Bool)(l v s d:Int):Value:=.agg #[.bool arc,I l,I v,I s,I d]
theorem QeL (V S T x:Int)(h1:x<1)(w:World):
 Calls Tryz.prog 45 #[vL V S T,I x] w fun e w'=>e=.returned (.tuple #[vT false 0 0 0 0,.bool false])/\Below w.heap.size w w':=by
 go_enter Tryz.func45,Tryz.ntmps45
 go_wp2_with fail
 exact bodyPost_ret (v:=.tuple #[vT false 0 0 0 0,.bool false]) (by simp [results,Tryz.results45,go_sem]) rfl ⟨rfl,((Below.refl _ _).alloc (Nat.le_refl _) _).alloc (by simp) _⟩
set_option maxHeartbeats 2000000 in
theorem QdB (V S T x:Int)(h:Rt V S T)(h1:1<=x)(h2:x-1<vn V)(w:World):
 Calls Tryz.prog 45 #[vL V S T,I x] w fun e w'=>e=.returned (.tuple #[vT false ((x-1) / V) ((x-1) % V) 0 0,.bool true])/\Below w.heap.size w w':=by
 have h3:vn V<=nd V S:=by have:=(sizes h).ss1;unfold nd;omega
 have hz:=sizes h;have z1:=hz.vn1;have z2:=hz.vn2;have z3:=hz.sn1;have z4:=hz.sn2;have z5:=hz.nd2;have v1:=h.v1;have v2:=h.v2
 have h5:1<=x:=by omega
 have h6:x<=nd V S:=by omega
 have H:=q9 h;clear h hz
 have d0:¬ V=0:=by omega
 have d1:0<=(x-1) / V:=Int.ediv_nonneg (by omega) (by omega)
 have d2:(x-1) / V<=560:=by have:=Int.ediv_le_self V (show 0<=(x-1) by omega);omega
 have d3:0<=(x-1) % V:=Int.emod_nonneg _ (by omega)
 have d4:(x-1) % V<V:=Int.emod_lt_of_pos _ (by omega)
 have t1:(x-1).tdiv V=(x-1) / V:=Int.tdiv_eq_ediv_of_nonneg (by omega)
 have t2:(x-1).tmod V=(x-1) % V:=Int.tmod_eq_emod_of_nonneg (by omega)
 have wq1:IntKind.i64.wrap ((x-1) / V)=(x-1) / V:=IntWalk.i64_in _ (by omega)
 have wq2:IntKind.i64.wrap ((x-1) % V)=(x-1) % V:=IntWalk.i64_in _ (by omega)
 go_enter Tryz.func45,Tryz.ntmps45
 go_wp2_with fail
 refine(Q3 V S T H _).mono ?_;rintro e w1 ⟨rfl,hb1⟩;obtain⟨hc1,hf1⟩:=QcC hb1
 have hs1:w.heap.size<w1.heap.size:=by have:=hb1.size;simp at this;omega
 go_wp2_with fail
 refine(QA V S T H _).mono ?_;rintro e w2 ⟨rfl,hb2⟩;obtain⟨hc2,hf2⟩:=QcC hb2;go_wp2_with fail
 have hsz:w.heap.size+1<w2.heap.size:=by have:=hb1.size;have:=hb2.size;simp at *;omega
 have hB:Below w.heap.size w w2:=QK (QK (((Below.refl _ _).alloc (Nat.le_refl _) _).alloc (by simp) _) hb1) hb2 (by have:=hb1.size;simp at this;omega)
 have y0:w2.cell? (I1 w.heap.size 0)=some (I V):=by simp [*,go_sem]
 have y1:w2.cell? (I1 w.heap.size 1)=some (I S):=by simp [*,go_sem]
 have y2:w2.cell? (I1 w.heap.size 2)=some (I T):=by simp [*,go_sem]
 have y3:w2.there (w.heap.size+1) 0 5:=by
  refine QP hb2 (by have:=hb1.size;simp at this;omega) (QP hb1 (by simp) (fun j hj=>?_))
  have:j=0\/j=1\/j=2\/j=3\/j=4:=by omega
  rcases this with rfl|rfl|rfl|rfl|rfl<;>exact⟨by simp [go_sem],by simp [go_sem]⟩
 have HT:=q9 y3;clear hc1 hf1 hb1 hc2 hf2 hb2;have HS:=q9 (And.intro y0 (And.intro y1 (And.intro y2 (And.intro y3 (And.intro hsz hB)))));clear y0 y1 y2 hB
 have hz:∀ W:World,W.there (w.heap.size+1) 0 5->W.cell? ⟨w.heap.size+1,0,none⟩=some (zAt W (w.heap.size+1) 0)/\W.cell? ⟨w.heap.size+1,1,none⟩=some (zAt W (w.heap.size+1) 1)/\W.cell? ⟨w.heap.size+1,2,none⟩=some (zAt W (w.heap.size+1) 2)/\W.cell? ⟨w.heap.size+1,3,none⟩=some (zAt W (w.heap.size+1) 3)/\W.cell? ⟨w.heap.size+1,4,none⟩=some (zAt W (w.heap.size+1) 4):=
  fun W ht=>⟨Qo ht (i:=0) (by omega),Qo ht (i:=1) (by omega),Qo ht (i:=2) (by omega),Qo ht (i:=3) (by omega),Qo ht (i:=4) (by omega)⟩
 have hzf:∀ W:World,W.there (w.heap.size+1) 0 5->W.frozen? ⟨w.heap.size+1,0,none⟩=false/\W.frozen? ⟨w.heap.size+1,1,none⟩=false/\W.frozen? ⟨w.heap.size+1,2,none⟩=false/\W.frozen? ⟨w.heap.size+1,3,none⟩=false/\W.frozen? ⟨w.heap.size+1,4,none⟩=false:=
  fun W ht=>⟨Qy ht (i:=0) (by omega),Qy ht (i:=1) (by omega),Qy ht (i:=2) (by omega),Qy ht (i:=3) (by omega),Qy ht (i:=4) (by omega)⟩
 go_region_held3 (fun w'=>w'.cell? (I1 w.heap.size 0)=some (I V)/\w'.cell? (I1 w.heap.size 1)=some (I S)/\w'.cell? (I1 w.heap.size 2)=some (I T)/\w'.there (w.heap.size+1) 0 5/\w.heap.size+1<w'.heap.size/\Below w.heap.size w w') (first|(with_reducible assumption)|(with_reducible exact QcV _ _ _ _ _ (by assumption))|(with_reducible exact QdG _ _ _ _ _ HS.out)|(with_reducible exact Qb5 hb (by assumption))|(with_reducible exact QcW HS.out))
  (first
   |fail)
 have hfin:=And.right (And.right (And.right (And.right (And.right (by assumption)))))
 have ht:=hz _ HT.out;clear hz hzf;go_wp2_with fail
 exact bodyPost_ret (v:=.tuple #[vT false ((x-1) / V) ((x-1) % V) 0 0,.bool true]) (by simp [results,Tryz.results45,go_sem,ht]) rfl ⟨rfl,hfin⟩
set_option maxHeartbeats 2000000 in
theorem Qj6 (V S T x:Int)(h:Rt V S T)(h1:x<=nd V S)(h2:vn V<=x-1)(w:World):
 Calls Tryz.prog 45 #[vL V S T,I x] w fun e w'=>e=.returned (.tuple #[vT true ((x-1-vn V) % sn V / 2) 0 ((x-1-vn V) / sn V) ((x-1-vn V) % 2),.bool true])/\Below w.heap.size w w':=by
 have hz:=sizes h;have z1:=hz.vn1;have z2:=hz.vn2;have z3:=hz.sn1;have z4:=hz.sn2;have z5:=hz.nd2;have v1:=h.v1;have v2:=h.v2
 have h5:1<=x:=by have:=(sizes h).vn1;omega
 have h6:x<=nd V S:=by omega
 have H:=q9 h;clear h hz
 have d0:¬ (sn V)=0:=by omega
 have d1:0<=(x-1-vn V) / (sn V):=Int.ediv_nonneg (by omega) (by omega)
 have d2:(x-1-vn V) / (sn V)<=560:=by have:=Int.ediv_le_self (sn V) (show 0<=(x-1-vn V) by omega);omega
 have d3:0<=(x-1-vn V) % (sn V):=Int.emod_nonneg _ (by omega)
 have d4:(x-1-vn V) % (sn V)<(sn V):=Int.emod_lt_of_pos _ (by omega)
 have t1:(x-1-vn V).tdiv (sn V)=(x-1-vn V) / (sn V):=Int.tdiv_eq_ediv_of_nonneg (by omega)
 have t2:(x-1-vn V).tmod (sn V)=(x-1-vn V) % (sn V):=Int.tmod_eq_emod_of_nonneg (by omega)
 have wq1:IntKind.i64.wrap ((x-1-vn V) / (sn V))=(x-1-vn V) / (sn V):=IntWalk.i64_in _ (by omega)
 have wq2:IntKind.i64.wrap ((x-1-vn V) % (sn V))=(x-1-vn V) % (sn V):=IntWalk.i64_in _ (by omega)
 have t3:((x-1-vn V) % sn V).tdiv 2=(x-1-vn V) % sn V / 2:=Int.tdiv_eq_ediv_of_nonneg d3
 have t4:(x-1-vn V).tmod 2=(x-1-vn V) % 2:=Int.tmod_eq_emod_of_nonneg (by omega)
 have wq3:IntKind.i64.wrap ((x-1-vn V) % sn V / 2)=(x-1-vn V) % sn V / 2:=IntWalk.i64_in _ (by omega)
 have wq4:IntKind.i64.wrap ((x-1-vn V) % 2)=(x-1-vn V) % 2:=IntWalk.i64_in _ (by omega)
 go_enter Tryz.func45,Tryz.ntmps45
 go_wp2_with fail
 refine(Q3 V S T H _).mono ?_;rintro e w1 ⟨rfl,hb1⟩;obtain⟨hc1,hf1⟩:=QcC hb1
 have hs1:w.heap.size<w1.heap.size:=by have:=hb1.size;simp at this;omega
 go_wp2_with fail
 refine(QA V S T H _).mono ?_;rintro e w2 ⟨rfl,hb2⟩;obtain⟨hc2,hf2⟩:=QcC hb2;go_wp2_with fail
 have hs2:w.heap.size<w2.heap.size:=by have:=hb2.size;omega
 refine(QA V S T H _).mono ?_;rintro e w3 ⟨rfl,hb3⟩;obtain⟨hc3,hf3⟩:=QcC hb3;go_wp2_with fail
 have hsz:w.heap.size+1<w3.heap.size:=by have:=hb1.size;have:=hb2.size;have:=hb3.size;simp at *;omega
 have hB:Below w.heap.size w w3:=QK (QK (QK (((Below.refl _ _).alloc (Nat.le_refl _) _).alloc (by simp) _) hb1) hb2 (by omega)) hb3 (by omega)
 have y0:w3.cell? (I1 w.heap.size 0)=some (I V):=by simp [*,go_sem]
 have y1:w3.cell? (I1 w.heap.size 1)=some (I S):=by simp [*,go_sem]
 have y2:w3.cell? (I1 w.heap.size 2)=some (I T):=by simp [*,go_sem]
 have y3:w3.there (w.heap.size+1) 0 5:=by
  refine QP hb3 (by have:=hb1.size;have:=hb2.size;simp at *;omega) (QP hb2 (by have:=hb1.size;simp at this;omega) (QP hb1 (by simp) (fun j hj=>?_)))
  have:j=0\/j=1\/j=2\/j=3\/j=4:=by omega
  rcases this with rfl|rfl|rfl|rfl|rfl<;>exact⟨by simp [go_sem],by simp [go_sem]⟩
 clear hc1 hf1 hb1 hc2 hf2 hb2 hc3 hf3 hb3;have HS:=q9 (And.intro y0 (And.intro y1 (And.intro y2 (And.intro y3 (And.intro hsz hB)))));clear y0 y1 y2 hB
 have hz:∀ W:World,W.there (w.heap.size+1) 0 5->W.cell? ⟨w.heap.size+1,0,none⟩=some (zAt W (w.heap.size+1) 0)/\W.cell? ⟨w.heap.size+1,1,none⟩=some (zAt W (w.heap.size+1) 1)/\W.cell? ⟨w.heap.size+1,2,none⟩=some (zAt W (w.heap.size+1) 2)/\W.cell? ⟨w.heap.size+1,3,none⟩=some (zAt W (w.heap.size+1) 3)/\W.cell? ⟨w.heap.size+1,4,none⟩=some (zAt W (w.heap.size+1) 4):=
  fun W ht=>⟨Qo ht (i:=0) (by omega),Qo ht (i:=1) (by omega),Qo ht (i:=2) (by omega),Qo ht (i:=3) (by omega),Qo ht (i:=4) (by omega)⟩
 have hzf:∀ W:World,W.there (w.heap.size+1) 0 5->W.frozen? ⟨w.heap.size+1,0,none⟩=false/\W.frozen? ⟨w.heap.size+1,1,none⟩=false/\W.frozen? ⟨w.heap.size+1,2,none⟩=false/\W.frozen? ⟨w.heap.size+1,3,none⟩=false/\W.frozen? ⟨w.heap.size+1,4,none⟩=false:=
  fun W ht=>⟨Qy ht (i:=0) (by omega),Qy ht (i:=1) (by omega),Qy ht (i:=2) (by omega),Qy ht (i:=3) (by omega),Qy ht (i:=4) (by omega)⟩
 go_region_held3 (fun w'=>w'.cell? (I1 w.heap.size 0)=some (I V)/\w'.cell? (I1 w.heap.size 1)=some (I S)/\w'.cell? (I1 w.heap.size 2)=some (I T)/\w'.there (w.heap.size+1) 0 5/\w.heap.size+1<w'.heap.size/\Below w.heap.size w w') (first|(with_reducible assumption)|(with_reducible exact QcV _ _ _ _ _ (by assumption))|(with_reducible exact QdG _ _ _ _ _ HS.out)|(with_reducible exact Qb5 hb (by assumption))|(with_reducible exact QcW HS.out))
  (first
   |(go_at_call 75;refine(QaB V S T H _).mono ?_;rintro e w' ⟨rfl,hb⟩;have HT:=q9 (Qb5 hb (by assumption)).2.2.2.1))
 have hfin:=And.right (And.right (And.right (And.right (And.right (by assumption)))))
 have ht:=hz _ HT.out;clear hz hzf;go_wp2_with fail
 exact bodyPost_ret (v:=.tuple #[vT true ((x-1-vn V) % sn V / 2) 0 ((x-1-vn V) / sn V) ((x-1-vn V) % 2),.bool true]) (by simp [results,Tryz.results45,go_sem,ht]) rfl ⟨rfl,hfin⟩
end Go.Proofs.YtaooglagddphnaaGreat
