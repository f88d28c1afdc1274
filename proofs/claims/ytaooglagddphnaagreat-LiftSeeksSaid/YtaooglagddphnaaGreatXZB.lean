/- ZB -/
import Derived.Test.YtaooglagddphnaaGreatRows
import Derived.WalkKit
import Derived.ProofKit
import Derived.OpenShut
import Derived.WalkSpells
import Derived.WalkLawsBesides
import Derived.Laws.BitsAllLaws
import Derived.Lib.Hide
import Derived.Test.YtaooglagddphnaaGreatXZA
import Derived.ArgAppend
namespace Go.Proofs.YtaooglagddphnaaGreat
open Go.RowKit
theorem Qjf {W w1:World}(hb:Below W.heap.size W w1):(∀ b o,b<W.heap.size->w1.cell? (I1 b o)=W.cell? (I1 b o))/\(∀ b o,b<W.heap.size->w1.frozen? (I1 b o)=W.frozen? (I1 b o)):=
 ⟨fun b o h=>hb.cell (p:=(I1 b o)) h,fun b o h=>hb.frozen (p:=(I1 b o)) h⟩
def isIx (x:Int):Bool:=decide (0<=x/\x<=65535)
def isTh (x:Int):Bool:=decide (0<=x/\x<=8)
def isTg (x:Int):Bool:=decide (0<=x/\x<=16777215)
theorem Qa9 (x:Int)(w:World):
 Calls Tryz.prog 165 #[I x] w fun e w'=>e=.returned (.bool (isIx x))/\w=w':=by
 by_cases h0:0<=x
 . by_cases h1:x<=65535
   . have hr:isIx x=true:=by simp [isIx,h0,h1]
     rw[hr];clear hr
     go_enter Tryz.func165,Tryz.ntmps165
     go_wp2
     go_ret;exact⟨rfl,rfl⟩
   . have hr:isIx x=false:=by simp [isIx,h1]
     rw[hr];clear hr
     go_enter Tryz.func165,Tryz.ntmps165
     go_wp2
     go_ret;exact⟨rfl,rfl⟩
 . have hr:isIx x=false:=by simp [isIx,h0]
   rw[hr];clear hr
   go_enter Tryz.func165,Tryz.ntmps165
   go_wp2
   go_ret;exact⟨rfl,rfl⟩
theorem Qfx (x:Int)(w:World):
 Calls Tryz.prog 166 #[I x] w fun e w'=>e=.returned (.bool (isTh x))/\w=w':=by
 by_cases h0:0<=x
 . by_cases h1:x<=8
   . have hr:isTh x=true:=by simp [isTh,h0,h1]
     rw[hr];clear hr
     go_enter Tryz.func166,Tryz.ntmps166
     go_wp2
     go_ret;exact⟨rfl,rfl⟩
   . have hr:isTh x=false:=by simp [isTh,h1]
     rw[hr];clear hr
     go_enter Tryz.func166,Tryz.ntmps166
     go_wp2
     go_ret;exact⟨rfl,rfl⟩
 . have hr:isTh x=false:=by simp [isTh,h0]
   rw[hr];clear hr
   go_enter Tryz.func166,Tryz.ntmps166
   go_wp2
   go_ret;exact⟨rfl,rfl⟩
theorem QiN (x:Int)(w:World):
 Calls Tryz.prog 167 #[I x] w fun e w'=>e=.returned (.bool (isTg x))/\w=w':=by
 by_cases h0:0<=x
 . by_cases h1:x<=16777215
   . have hr:isTg x=true:=by simp [isTg,h0,h1]
     rw[hr];clear hr
     go_enter Tryz.func167,Tryz.ntmps167
     go_wp2
     go_ret;exact⟨rfl,rfl⟩
   . have hr:isTg x=false:=by simp [isTg,h1]
     rw[hr];clear hr
     go_enter Tryz.func167,Tryz.ntmps167
     go_wp2
     go_ret;exact⟨rfl,rfl⟩
 . have hr:isTg x=false:=by simp [isTg,h0]
   rw[hr];clear hr
   go_enter Tryz.func167,Tryz.ntmps167
   go_wp2
   go_ret;exact⟨rfl,rfl⟩
abbrev vW (o n th tg:Int):Value:=.agg #[I o,I n,I th,I tg]
def QO (o n th tg:Int):Bool:=
 if th=0 then decide (n=o/\tg=0/\0<=n/\n<=65535) else decide (0<=o/\o<=65535/\0<=n/\n<=65535/\0<=th/\th<=8/\0<=tg/\tg<=16777215)
set_option maxHeartbeats 400000 in
theorem QcK (o n th tg:Int)(w:World):
 Calls Tryz.prog 164 #[vW o n th tg] w fun e w'=>e=.returned (.bool (QO o n th tg))/\Below w.heap.size w w':=by
 by_cases h0:th=0
 . subst h0
   by_cases h1:n=o
   . subst h1
     by_cases h2:tg=0
     . subst h2
       have hr:QO n n 0 0=isIx n:=by simp [QO,isIx]
       rw[hr];clear hr
       go_enter Tryz.func164,Tryz.ntmps164
       go_wp2_with (go_at_call 165;refine(Qa9 _ _).mono ?_;rintro e w' ⟨rfl,rfl⟩)
       go_ret;exact⟨rfl,(Below.refl _ _).alloc (Nat.le_refl _) _⟩
     . have hr:QO n n 0 tg=false:=by simp [QO,h2]
       rw[hr];clear hr
       have h3:(tg==0)=false:=by simpa using h2
       go_enter Tryz.func164,Tryz.ntmps164
       go_wp2_with (go_at_call 165;refine(Qa9 _ _).mono ?_;rintro e w' ⟨rfl,rfl⟩)
       go_ret;exact⟨rfl,(Below.refl _ _).alloc (Nat.le_refl _) _⟩
   . have hr:QO o n 0 tg=false:=by simp [QO,h1]
     rw[hr];clear hr
     have h3:(n==o)=false:=by simpa using h1
     go_enter Tryz.func164,Tryz.ntmps164
     go_wp2_with (go_at_call 165;refine(Qa9 _ _).mono ?_;rintro e w' ⟨rfl,rfl⟩)
     go_ret;exact⟨rfl,(Below.refl _ _).alloc (Nat.le_refl _) _⟩
 . have hr:QO o n th tg=(isIx o && isIx n && isTh th && isTg tg):=by
    simp only[QO,isIx,isTh,isTg,if_neg h0,<-Bool.decide_and];congr 1;simp only[and_assoc]
   rw[hr];clear hr
   have h3:(th==0)=false:=by simpa using h0
   go_enter Tryz.func164,Tryz.ntmps164
   go_wp2_with (first|(go_at_call 165;refine(Qa9 _ _).mono ?_;rintro e w' ⟨rfl,rfl⟩)|(go_at_call 166;refine(Qfx _ _).mono ?_;rintro e w' ⟨rfl,rfl⟩)|(go_at_call 167;refine(QiN _ _).mono ?_;rintro e w' ⟨rfl,rfl⟩))
   all_goals (go_ret;exact⟨by simp_all,(Below.refl _ _).alloc (Nat.le_refl _) _⟩)
theorem QgG (i k x y:Nat)(hk:2 ^ i=k)(hy:y<k)(hm:x*k+y<18446744073709551616):
 bits .or .u64 ((x*k:Nat):Int) (y:Int)=((x*k+y:Nat):Int):=by
 subst hk
 rw[u64_or_nat _ _ (by omega) (by omega),nat_join i _ _ (by simp) hy]
theorem Qik (o n th tg:Int)(h1:0<=o)(h2:o<=65535)(h3:0<=n)(h4:n<=65535)(h5:0<=th)(h6:th<=8)(h7:0<=tg)(h8:tg<=16777215):
 bits .or .u64 (bits .or .u64 (bits .or .u64 (tg*1099511627776) (th*4294967296)) (o*65536)) n=((tg*256+th)*65536+o)*65536+n:=by
 obtain⟨o,rfl⟩:=Int.eq_ofNat_of_zero_le h1;obtain⟨n,rfl⟩:=Int.eq_ofNat_of_zero_le h3;obtain⟨th,rfl⟩:=Int.eq_ofNat_of_zero_le h5;obtain⟨tg,rfl⟩:=Int.eq_ofNat_of_zero_le h7
 have e1:=QgG 40 1099511627776 tg (th*4294967296) rfl (by omega) (by omega)
 have e2:=QgG 32 4294967296 (tg*256+th) (o*65536) rfl (by omega) (by omega)
 have e3:=QgG 16 65536 ((tg*256+th)*65536+o) n rfl (by omega) (by omega)
 have f1:(tg:Int)*1099511627776=((tg*1099511627776:Nat):Int):=by omega
 have f2:(th:Int)*4294967296=((th*4294967296:Nat):Int):=by omega
 have f3:(o:Int)*65536=((o*65536:Nat):Int):=by omega
 have g1:tg*1099511627776+th*4294967296=(tg*256+th)*4294967296:=by omega
 have g2:(tg*256+th)*4294967296+o*65536=((tg*256+th)*65536+o)*65536:=by rw[show (4294967296:Nat)=65536*65536 from rfl,<-Nat.mul_assoc,<-Nat.add_mul]
 rw[f1,f2,f3,e1,g1,e2,g2,e3];omega
theorem or_1 (t:Int)(h1:0<=t)(h2:t<=16777215):bits .or .u64 (t*2) 1=t*2+1:=by
 obtain⟨t,rfl⟩:=Int.eq_ofNat_of_zero_le h1
 have e:=QgG 1 2 t 1 rfl (by omega) (by omega)
 rw[show (t:Int)*2=((t*2:Nat):Int) by omega]
 refine Eq.trans e ?_;omega
theorem Qcb (i k m x:Nat)(hk:2 ^ i=k)(hm:k=m+1)(hx:x<18446744073709551616)(hi:m<18446744073709551616):
 bits .and .u64 (x:Int) (m:Int)=((x % k:Nat):Int):=by
 rw[u64_and_nat _ _ hx hi];subst hk
 have:m=2 ^ i-1:=by omega
 rw[this,Nat.and_two_pow_sub_one_eq_mod]
theorem QcD (v:Int)(h1:0<=v)(h2:v<18446744073709551616):bits .and .u64 v 65535=v % 65536:=by
 obtain⟨x,rfl⟩:=Int.eq_ofNat_of_zero_le h1
 exact Qcb 16 65536 65535 x rfl rfl (by omega) (by omega)
theorem Qe1 (v:Int)(h1:0<=v)(h2:v<18446744073709551616):bits .and .u64 v 255=v % 256:=by
 obtain⟨x,rfl⟩:=Int.eq_ofNat_of_zero_le h1
 exact Qcb 8 256 255 x rfl rfl (by omega) (by omega)
theorem Qn8 (v:Int)(h1:0<=v)(h2:v<18446744073709551616):bits .and .u64 v 1=v % 2:=by
 obtain⟨x,rfl⟩:=Int.eq_ofNat_of_zero_le h1
 exact Qcb 1 2 1 x rfl rfl (by omega) (by omega)
theorem QeF {o n th tg:Int}(h:QO o n th tg=true):0<=o/\o<=65535/\0<=n/\n<=65535/\0<=th/\th<=8/\0<=tg/\tg<=16777215:=by
 unfold QO at h;split at h<;>(have:=of_decide_eq_true h;omega)
theorem QjW {a b:Int}(h:a=b)(c:Int):Ending.returned (.tuple #[I2 a,I c])=.returned (.tuple #[I2 b,I c]):=by rw[h]
set_option maxHeartbeats 400000 in
theorem Qj1 (o n th tg:Int)(w:World)(h:QO o n th tg=true):
 Calls Tryz.prog 163 #[vW o n th tg] w fun e w'=>e=.returned (.tuple #[I2 (((tg*256+th)*65536+o)*65536+n),I 0])/\Below w.heap.size w w':=by
 obtain⟨h1,h2,h3,h4,h5,h6,h7,h8⟩:=QeF h
 go_enter Tryz.func163,Tryz.ntmps163
 go_wp2_with (go_at_call 164;refine(QcK _ _ _ _ _).mono ?_;rintro e w1 ⟨rfl,hb⟩;obtain⟨hc,hf⟩:=Qjf hb)
 go_ret2
 exact⟨QjW (Qik o n th tg h1 h2 h3 h4 h5 h6 h7 h8) 0,((Below.refl _ _).alloc (Nat.le_refl _) _).trans (hb.mono (by simp))⟩
def QZ (v:Int):Bool:=QO (v / 65536 % 65536) (v % 65536) (v / 4294967296 % 256) (v / 1099511627776)
set_option maxHeartbeats 400000 in
theorem Qeb (v:Int)(w:World)(h1:0<=v)(h2:v<=18446744073709551615)(h:QZ v=true):
 Calls Tryz.prog 162 #[I2 v] w fun e w'=>e=.returned (.tuple #[vW (v / 65536 % 65536) (v % 65536) (v / 4294967296 % 256) (v / 1099511627776),I 0])/\Below w.heap.size w w':=by
 unfold QZ at h
 have q1:=QcD v h1 (by omega)
 have q2:=QcD (v / 65536) (by omega) (by omega)
 have q3:=Qe1 (v / 4294967296) (by omega) (by omega)
 go_enter Tryz.func162,Tryz.ntmps162
 go_wp2_with (go_at_call 164;refine(QcK _ _ _ _ _).mono ?_;rintro e w1 ⟨rfl,hb⟩;obtain⟨hc,hf⟩:=Qjf hb)
 have c0:(w1.cell? (I1 w.heap.size 0)).isSome=true:=by rw[hc _ _ (by simp;omega)];simp [go_sem]
 have c1:(w1.cell? (I1 w.heap.size 1)).isSome=true:=by rw[hc _ _ (by simp;omega)];simp [go_sem]
 have c2:(w1.cell? (I1 w.heap.size 2)).isSome=true:=by rw[hc _ _ (by simp;omega)];simp [go_sem]
 have c3:(w1.cell? (I1 w.heap.size 3)).isSome=true:=by rw[hc _ _ (by simp;omega)];simp [go_sem]
 clear hc hf
 exact bodyPost_ret (v:=.tuple #[vW (v / 65536 % 65536) (v % 65536) (v / 4294967296 % 256) (v / 1099511627776),I 0]) (by simp [results,Tryz.results162,go_sem,c0,c1,c2,c3]) rfl ⟨rfl,(((((((Below.refl _ _).alloc (Nat.le_refl _) _).alloc (by simp) _).trans (hb.mono (by simp;omega))).setCell (by simp) _).setCell (by simp) _).setCell (by simp) _).setCell (by simp) _⟩
set_option maxHeartbeats 400000 in
theorem QhR (v:Int)(w:World)(h1:0<=v)(h2:v<=18446744073709551615)(h:QZ v=false):
 Calls Tryz.prog 162 #[I2 v] w fun e w'=>e=.returned (.tuple #[vW 0 0 0 0,I 21])/\Below w.heap.size w w':=by
 unfold QZ at h
 have q1:=QcD v h1 (by omega)
 have q2:=QcD (v / 65536) (by omega) (by omega)
 have q3:=Qe1 (v / 4294967296) (by omega) (by omega)
 go_enter Tryz.func162,Tryz.ntmps162
 go_wp2_with (go_at_call 164;refine(QcK _ _ _ _ _).mono ?_;rintro e w1 ⟨rfl,hb⟩;obtain⟨hc,hf⟩:=Qjf hb)
 have c0:(w1.cell? (I1 w.heap.size 0)).isSome=true:=by rw[hc _ _ (by simp;omega)];simp [go_sem]
 have c1:(w1.cell? (I1 w.heap.size 1)).isSome=true:=by rw[hc _ _ (by simp;omega)];simp [go_sem]
 have c2:(w1.cell? (I1 w.heap.size 2)).isSome=true:=by rw[hc _ _ (by simp;omega)];simp [go_sem]
 have c3:(w1.cell? (I1 w.heap.size 3)).isSome=true:=by rw[hc _ _ (by simp;omega)];simp [go_sem]
 clear hc hf
 exact bodyPost_ret (v:=.tuple #[vW 0 0 0 0,I 21]) (by simp [results,Tryz.results162,go_sem,c0,c1,c2,c3]) rfl ⟨rfl,(((((((Below.refl _ _).alloc (Nat.le_refl _) _).alloc (by simp) _).trans (hb.mono (by simp;omega))).setCell (by simp) _).setCell (by simp) _).setCell (by simp) _).setCell (by simp) _⟩
theorem Qie (o n th tg:Int):QO o n th tg=decide ((th=0->n=o/\tg=0)/\0<=o/\o<=65535/\0<=n/\n<=65535/\0<=th/\th<=8/\0<=tg/\tg<=16777215):=by
 unfold QO;split<;>(rw[decide_eq_decide];omega)
set_option maxHeartbeats 1000000 in
theorem Qhf (v:Int)(w:World)(h1:0<=v)(h2:v<=18446744073709551615):
 Calls Tryz.prog 141 #[I2 v] w fun e w'=>e=.returned (vW (v / 65536 % 65536) (v % 65536) (v / 4294967296 % 256) (v / 1099511627776))/\Below w.heap.size w w':=by
 go_enter Tryz.func141,Tryz.ntmps141
 go_wp2
 have e1:v / 65536 / 65536=v / 4294967296:=by omega
 have e2:v / 65536 / 65536 / 256=v / 1099511627776:=by omega
 rw[<-e2,<-e1]
 exact bodyPost_ret (v:=vW (v / 65536 % 65536) (v % 65536) (v / 65536 / 65536 % 256) (v / 65536 / 65536 / 256)) (by simp [results,Tryz.results141,go_sem]) rfl ⟨rfl,((Below.refl _ _).alloc (Nat.le_refl _) _).alloc (by simp) _⟩
def Qa3 (o n th tg:Int):Int:=((tg*256+th)*65536+o)*65536+n
theorem Qca {o n th tg:Int}(h:QO o n th tg=true):
 0<=Qa3 o n th tg/\Qa3 o n th tg<=18446744073709551615/\Qa3 o n th tg / 65536 % 65536=o/\Qa3 o n th tg % 65536=n/\Qa3 o n th tg / 4294967296 % 256=th/\Qa3 o n th tg / 1099511627776=tg:=by
 obtain⟨h1,h2,h3,h4,h5,h6,h7,h8⟩:=QeF h
 have e:Qa3 o n th tg=tg*1099511627776+th*4294967296+o*65536+n:=by unfold Qa3;omega
 rw[e];clear e;refine⟨?_,?_,?_,?_,?_,?_⟩<;>omega
theorem Qm5 (o n th tg:Int)(w:World)(h:QO o n th tg=true):
 Calls Tryz.prog 163 #[vW o n th tg] w fun e w'=>e=.returned (.tuple #[I2 (Qa3 o n th tg),I 0])/\Below w.heap.size w w':=
 Qj1 o n th tg w h
theorem QjG (o n th tg:Int)(w:World)(h:QO o n th tg=true):
 Calls Tryz.prog 162 #[I2 (Qa3 o n th tg)] w fun e w'=>e=.returned (.tuple #[vW o n th tg,I 0])/\Below w.heap.size w w':=by
 obtain⟨h1,h2,h3,h4,h5,h6⟩:=Qca h
 have k:=Qeb (Qa3 o n th tg) w h1 h2 (by unfold QZ;rw[h3,h4,h5,h6];exact h)
 rw[h3,h4,h5,h6] at k;exact k
theorem QkN (v:Int):Qa3 (v / 65536 % 65536) (v % 65536) (v / 4294967296 % 256) (v / 1099511627776)=v:=by
 unfold Qa3
 have e1:v / 4294967296=v / 65536 / 65536:=by omega
 have e2:v / 1099511627776=v / 65536 / 65536 / 256:=by omega
 rw[e1,e2];generalize hx:v / 65536=x;generalize hy:x / 65536=y;omega
set_option maxRecDepth 100000
theorem Qaa (k:Nat)(v:Value)(W:World):Sem.run Tryz.prog (method (k+1) 84 v "Store") W=.ok (186,v) W:=by kernel_rfl
theorem QaF (k:Nat)(v:Value)(W:World):Sem.run Tryz.prog (method (k+1) 84 v "Load") W=.ok (185,v) W:=by kernel_rfl
theorem Qa1 (k:Nat)(v:Value)(W:World):Sem.run Tryz.prog (nilAhead (k+1) 84 v "Store") W=.ok (some false) W:=by kernel_rfl
theorem Qcp (k:Nat)(v:Value)(W:World):Sem.run Tryz.prog (nilAhead (k+1) 84 v "Load") W=.ok (some false) W:=by kernel_rfl
abbrev pmV (p:Nat):Value:=.agg #[.pointer (some (I1 p 0))]
theorem QlK (p:Nat)(w:World):Calls Tryz.prog 32 #[.pointer (some (I1 p 0))] w fun e w'=>e=.returned (pmV p)/\Below w.heap.size w w':=by
 unfold pmV
 go_enter Tryz.func32,Tryz.ntmps32
 go_wp2_with fail
 exact bodyPost_ret (v:=.agg #[.pointer (some (I1 p 0))]) (by simp [results,Tryz.results32,go_sem]) rfl ⟨rfl,(Below.refl _ _).alloc (Nat.le_refl _) _⟩
section
variable {w:World}{p g n cap k m:Nat}{c f:Nat->Int}
theorem QcS (A:Ar w p g n cap c f)(hk:k<n)(hm:CB c m)(hb:m<=100000000):
 Calls Tryz.prog 185 #[pmV p,I (k:Int)] w fun e w'=>e=.returned (I2 (f k))/\Ar w' p g n cap (upd c 0 (c 0+1)) f/\Only p g w w':=by
 unfold pmV;have HA:=q9 A;clear A;have HM:=q9 hm;clear hm
 go_enter Tryz.func185,Tryz.ntmps185
 go_wp2_with fail
 refine(QgL (HA.alloc _) hk HM hb).mono ?_;rintro e w1 ⟨rfl,A1,O1⟩;go_wp2_with fail
 go_ret;exact⟨rfl,A1,((Only.refl _ _ _).alloc _).trans O1⟩
theorem Qdc (A:Ar w p g n cap c f)(hk:k<n){x:Int}(hx0:0<=x)(hx1:x<=18446744073709551615)(hm:CB c m)(hb:m<=100000000):
 Calls Tryz.prog 186 #[pmV p,I (k:Int),I2 x] w fun e w'=>e=.returned (.tuple #[])/\Ar w' p g n cap (upd c 1 (c 1+1)) (upd f k x)/\Only p g w w':=by
 unfold pmV;have HA:=q9 A;clear A;have HM:=q9 hm;clear hm
 go_enter Tryz.func186,Tryz.ntmps186
 go_wp2_with fail
 refine(Qfa (HA.alloc _) hk hx0 hx1 HM hb).mono ?_;rintro e w1 ⟨rfl,A1,O1⟩;go_wp2_with fail
 go_end0
 exact⟨rfl,A1,((Only.refl _ _ _).alloc _).trans O1⟩
end
section
variable {w:World}{q p g n cap:Nat}{c f:Nat->Int}
theorem Ar.q_far (A:Ar w p g n cap c f)(h1:q≠p)(h2:q≠g){j:Nat}(u:Value):Ar (w.setCell (I1 q j) u) p g n cap c f:=by
 obtain⟨zs,hz,he⟩:=A.cells
 exact⟨A.own.far (fun e=>h1 e.symm) _,⟨zs,hz.far (fun e=>h2 e.symm) _,he⟩,A.le,A.few,A.fit⟩
end
theorem Only.set_new {p g:Nat}{a w:World}(h:Only p g a w){q:Nat}(hq:a.heap.size<=q){j:Nat}(u:Value):Only p g a (w.setCell (I1 q j) u):=
 ⟨h.os,h.tape,h.output,by simpa [World.setCell] using h.size,fun i hi h1 h2=>(Below.heap_setCell w (I1 q j) u i (by simp only;omega)).trans (h.block i hi h1 h2)⟩
theorem QgH {w w':World}{p g n cap:Nat}{c f:Nat->Int}{cs:Array Value}{t:TypeId}(A:Ar w p g n cap c f)(ho:Only p g (w.alloc (.cells cs t)) w'):Blk w' w.heap.size t cs:=by
 have h1:=A.p_lt;have h2:=A.g_lt
 exact(Blk.new w t cs).only ho (by omega) (by omega)
theorem Blk.four {w:World}{g:Nat}{t:TypeId}{x0 x1 x2 x3:Value}(h:Blk w g t #[x0,x1,x2,x3])(a b c d:Value):Blk ((((w.setCell (I1 g 0) a).setCell (I1 g 1) b).setCell (I1 g 2) c).setCell (I1 g 3) d) g t #[a,b,c,d]:=
 (((h.set_ 0 a).set_ 1 b).set_ 2 c).set_ 3 d
theorem Blk.cells4 {w:World}{g:Nat}{t:TypeId}{a b c d:Value}(h:Blk w g t #[a,b,c,d]):w.cell? (I1 g 0)=some a/\w.cell? (I1 g 1)=some b/\w.cell? (I1 g 2)=some c/\w.cell? (I1 g 3)=some d:=
 ⟨h.cell 0,h.cell 1,h.cell 2,h.cell 3⟩
def rO (v:Int):Int:=if QZ v then v / 65536 % 65536 else 0
def rN (v:Int):Int:=if QZ v then v % 65536 else 0
def rT (v:Int):Int:=if QZ v then v / 4294967296 % 256 else 0
def rG (v:Int):Int:=if QZ v then v / 1099511627776 else 0
structure IsW (v o n th tg:Int):Prop where
 o:rO v=o
 n:rN v=n
 th:rT v=th
 tg:rG v=tg
theorem QiM (v:Int):IsW v (rO v) (rN v) (rT v) (rG v):=⟨rfl,rfl,rfl,rfl⟩
theorem IsW.right {v o n th tg:Int}(h:IsW v o n th tg):QO o n th tg=true:=by
 obtain⟨rfl,rfl,rfl,rfl⟩:=h;unfold rO rN rT rG
 cases hv:QZ v
 . rfl
 . exact hv
theorem Qkt {o n th tg:Int}(h:QO o n th tg=true):IsW (Qa3 o n th tg) o n th tg/\QZ (Qa3 o n th tg)=true:=by
 obtain⟨_,_,h3,h4,h5,h6⟩:=Qca h
 have hv:QZ (Qa3 o n th tg)=true:=by unfold QZ;rw[h3,h4,h5,h6];exact h
 exact⟨⟨by simp only[rO,hv,if_true,h3],by simp only[rN,hv,if_true,h4],by simp only[rT,hv,if_true,h5],by simp only[rG,hv,if_true,h6]⟩,hv⟩
theorem IsW.bits {v o n th tg:Int}(h:IsW v o n th tg)(hv:QZ v=true):v=Qa3 o n th tg:=by
 obtain⟨rfl,rfl,rfl,rfl⟩:=h;simp only[rO,rN,rT,rG,hv,if_true];exact(QkN v).symm
theorem Ql1 {v:Int}(hv:QZ v=false):IsW v 0 0 0 0:=⟨by simp [rO,hv],by simp [rN,hv],by simp [rT,hv],by simp [rG,hv]⟩
section
variable {w:World}{p g n cap k m:Nat}{c f:Nat->Int}{o x th tg:Int}
set_option maxHeartbeats 1000000 in
theorem QjX (A:Ar w p g n cap c f)(hk:k<n)(hI:IsW (f k) o x th tg)(hm:CB c m)(hb:m<=100000000):
 Calls Tryz.prog 161 #[.iface 84 (pmV p),I (k:Int)] w fun e w'=>e=.returned (vW o x th tg)/\Ar w' p g n cap (upd c 0 (c 0+1)) f/\Only p g w w':=by
 obtain⟨rfl,rfl,rfl,rfl⟩:=hI;have ml:=QaF;have nl:=Qcp;have ft:=A.fit k hk;have HA:=q9 A;have HM:=q9 hm;clear A hm
 cases hv:QZ (f k)
 . have hI:=q9 (Ql1 hv)
   have HV:=q9 hv;rw[hI.out.o,hI.out.n,hI.out.th,hI.out.tg];clear hv
   go_enter Tryz.func161,Tryz.ntmps161
   go_wp2_with fail
   refine(QcS (HA.alloc _) hk HM hb).mono ?_;rintro e w1 ⟨rfl,A1,O1⟩;have HA1:=q9 A1;have HO1:=q9 (((Only.refl p g w).alloc (.cells #[I 0,I 0,I 0,I 0] 197)).trans O1);have hc0:=QgH (w:=w) (cs:=#[I 0,I 0,I 0,I 0]) (t:=197) HA.out O1;clear A1 O1;go_wp2_with fail
   refine(QhR _ _ ft.1 ft.2 HV).mono ?_;rintro e w2 ⟨rfl,hb2⟩;have hc2:Blk w2 w.heap.size 197 #[I 0,I 0,I 0,I 0]:=hc0.below hb2 hc0.lt;have HA2:=q9 (HA1.below hb2 (Nat.le_refl _));have HO2:=q9 (HO1.trans (Only.of_below hb2));have hl2:=hc2.lt;have d0:=hc2.cell 0;have d1:=hc2.cell 1;have d2:=hc2.cell 2;have d3:=hc2.cell 3;have g0:=hc2.frozen 0;have g1:=hc2.frozen 1;have g2:=hc2.frozen 2;have g3:=hc2.frozen 3;have HC:=q9 hc2;have HP:=q9 (And.intro HA.p_lt HA.g_lt);clear hc0 hb2 hc2;go_wp2_with fail
   have hq1:w.heap.size≠p:=by have:=HP.1;omega
   have hq2:w.heap.size≠g:=by have:=HP.2;omega
   obtain⟨b0,b1,b2,b3⟩:=((HC.four (I 0) (I 0) (I 0) (I 0)).alloc (.cells #[I 0,I 0,I 0,I 0] 197)).cells4
   exact bodyPost_ret (v:=vW 0 0 0 0) (by simp [results,Tryz.results161,go_sem,b0,b1,b2,b3]) rfl ⟨rfl,((((HA2.q_far hq1 hq2 _).q_far hq1 hq2 _).q_far hq1 hq2 _).q_far hq1 hq2 _).alloc _,((((HO2.set_new (Nat.le_refl _) _).set_new (Nat.le_refl _) _).set_new (Nat.le_refl _) _).set_new (Nat.le_refl _) _).alloc _⟩
 . have HV:=q9 hv
   have e1:rO (f k)=f k / 65536 % 65536:=by simp [rO,hv]
   have e2:rN (f k)=f k % 65536:=by simp [rN,hv]
   have e3:rT (f k)=f k / 4294967296 % 256:=by simp [rT,hv]
   have e4:rG (f k)=f k / 1099511627776:=by simp [rG,hv]
   rw[e1,e2,e3,e4];clear hv e1 e2 e3 e4
   go_enter Tryz.func161,Tryz.ntmps161
   go_wp2_with fail
   refine(QcS (HA.alloc _) hk HM hb).mono ?_;rintro e w1 ⟨rfl,A1,O1⟩;have HA1:=q9 A1;have HO1:=q9 (((Only.refl p g w).alloc (.cells #[I 0,I 0,I 0,I 0] 197)).trans O1);have hc0:=QgH (w:=w) (cs:=#[I 0,I 0,I 0,I 0]) (t:=197) HA.out O1;clear A1 O1;go_wp2_with fail
   refine(Qeb _ _ ft.1 ft.2 HV).mono ?_;rintro e w2 ⟨rfl,hb2⟩;have hc2:Blk w2 w.heap.size 197 #[I 0,I 0,I 0,I 0]:=hc0.below hb2 hc0.lt;have HA2:=q9 (HA1.below hb2 (Nat.le_refl _));have HO2:=q9 (HO1.trans (Only.of_below hb2));have hl2:=hc2.lt;have d0:=hc2.cell 0;have d1:=hc2.cell 1;have d2:=hc2.cell 2;have d3:=hc2.cell 3;have g0:=hc2.frozen 0;have g1:=hc2.frozen 1;have g2:=hc2.frozen 2;have g3:=hc2.frozen 3;have HC:=q9 hc2;have HP:=q9 (And.intro HA.p_lt HA.g_lt);clear hc0 hb2 hc2;go_wp2_with fail
   have hq1:w.heap.size≠p:=by have:=HP.1;omega
   have hq2:w.heap.size≠g:=by have:=HP.2;omega
   obtain⟨b0,b1,b2,b3⟩:=((HC.four (I (f k / 65536 % 65536)) (I (f k % 65536)) (I (f k / 4294967296 % 256)) (I (f k / 1099511627776))).alloc (.cells #[I (f k / 65536 % 65536),I (f k % 65536),I (f k / 4294967296 % 256),I (f k / 1099511627776)] 197)).cells4
   exact bodyPost_ret (v:=vW (f k / 65536 % 65536) (f k % 65536) (f k / 4294967296 % 256) (f k / 1099511627776)) (by simp [results,Tryz.results161,go_sem,b0,b1,b2,b3]) rfl ⟨rfl,((((HA2.q_far hq1 hq2 _).q_far hq1 hq2 _).q_far hq1 hq2 _).q_far hq1 hq2 _).alloc _,((((HO2.set_new (Nat.le_refl _) _).set_new (Nat.le_refl _) _).set_new (Nat.le_refl _) _).set_new (Nat.le_refl _) _).alloc _⟩
end
theorem Q8 (w:World)(t1 t2:TypeId)(c1 c2:Array Value):Blk ((w.alloc (.cells c1 t1)).alloc (.cells c2 t2)) (w.heap.size+1) t2 c2:=by
 have:=Blk.new (w.alloc (.cells c1 t1)) t2 c2;simpa using this
section
variable {w:World}{p g n cap k m t:Nat}{c f:Nat->Int}{o x th tg V T:Int}{S:Nat}
theorem QlR (A:Ar w p g n cap c f)(hk:k<n)(hI:IsW (f k) o x th tg)(hm:CB c m)(hb:m<=100000000):
 Calls Tryz.prog 148 #[.iface 84 (pmV p),I (k:Int)] w fun e w'=>e=.returned (I x)/\Ar w' p g n cap (upd c 0 (c 0+1)) f/\Only p g w w':=by
 have HA:=q9 A;have HM:=q9 hm;have HI:=q9 hI;clear A hm hI
 have fl:∀ W,(Instr.field 197 (vW o x th tg) 1).run Tryz.prog W=.ok (I x) W:=fun W=>by kernel_rfl
 go_enter Tryz.func148,Tryz.ntmps148
 go_wp2_with fail
 refine(QjX HA hk HI HM hb).mono ?_;rintro e w1 ⟨rfl,A1,O1⟩;have HA1:=q9 A1;have HO1:=q9 O1;clear A1 O1;go_wp2_with fail
 go_ret;exact⟨rfl,HA1,HO1⟩
end
abbrev vP (th tg:Int):Value:=.agg #[I th,I tg]
def wrO (o x th0 tg0 th tg:Int):Int:=if th0=th/\tg0=tg then o else x
theorem Blk.ne_p {w:World}{p g n cap q:Nat}{c f:Nat->Int}{ty:TypeId}{cs:Array Value}(h:Blk w q ty cs)(A:Ar w p g n cap c f)(h1:ty≠127):q≠p:=h.ne_ A.own h1
theorem Blk.ne_g {w:World}{p g n cap q:Nat}{c f:Nat->Int}{ty:TypeId}{cs:Array Value}(h:Blk w q ty cs)(A:Ar w p g n cap c f)(h1:ty≠88):q≠g:=by
 obtain⟨zs,hz,_⟩:=A.cells;exact h.ne_ hz h1
theorem Blk.arena {w w':World}{p g n cap q:Nat}{c f:Nat->Int}{ty:TypeId}{cs:Array Value}(h:Blk w q ty cs)(A:Ar w p g n cap c f)(ho:Only p g w w')(h1:ty≠127)(h2:ty≠88):Blk w' q ty cs:=h.only ho (h.ne_p A h1) (h.ne_g A h2)
theorem Blk.later {w w':World}{q:Nat}{ty:TypeId}{cs:Array Value}(h:Blk w q ty cs)(hb:Below w.heap.size w w'):Blk w' q ty cs:=h.below hb h.lt
section
variable {w:World}{p g n cap k m t pb xb:Nat}{c f:Nat->Int}{o x th0 tg0 th tg V T y:Int}{S:Nat}
theorem QmA (hP:Blk w pb 41 #[I th,I tg])(hX:Blk w xb 3 #[I y]):
 Calls Tryz.prog 153 #[vW o x th0 tg0,.pointer (some (I1 pb 0)),.pointer (some (I1 xb 0))] w fun e w'=>e=.returned (vW (wrO o x th0 tg0 th tg) y th tg)/\Below w.heap.size w w':=by
 have p0:=hP.cell 0;have p1:=hP.cell 1;have x0:=hX.cell 0;have pl:=hP.lt;have xl:=hX.lt;clear hP hX
 by_cases h1:th0=th
 . subst h1
   by_cases h2:tg0=tg
   . subst h2
     have hr:wrO o x th0 tg0 th0 tg0=o:=if_pos ⟨rfl,rfl⟩;rw[hr];clear hr
     go_enter Tryz.func153,Tryz.ntmps153
     go_wp2_with fail
     exact bodyPost_ret (v:=vW o y th0 tg0) (by simp [results,Tryz.results153,go_sem]) rfl ⟨rfl,((Below.refl _ _).alloc (Nat.le_refl _) _).alloc (by simp) _⟩
   . have hr:wrO o x th0 tg0 th0 tg=x:=if_neg fun e=>h2 e.2
     rw[hr];clear hr
     go_enter Tryz.func153,Tryz.ntmps153
     go_wp2_with fail
     exact bodyPost_ret (v:=vW x y th0 tg) (by simp [results,Tryz.results153,go_sem]) rfl ⟨rfl,((Below.refl _ _).alloc (Nat.le_refl _) _).alloc (by simp) _⟩
 . have hr:wrO o x th0 tg0 th tg=x:=if_neg fun e=>h1 e.1
   rw[hr];clear hr
   go_enter Tryz.func153,Tryz.ntmps153
   go_wp2_with fail
   exact bodyPost_ret (v:=vW x y th tg) (by simp [results,Tryz.results153,go_sem]) rfl ⟨rfl,((Below.refl _ _).alloc (Nat.le_refl _) _).alloc (by simp) _⟩
theorem QhS {v:Int}(h:IsW v o x th tg)(hv:QZ v=true):
 Calls Tryz.prog 162 #[I2 v] w fun e w'=>e=.returned (.tuple #[vW o x th tg,I 0])/\Below w.heap.size w w':=by
 have e:=h.bits hv;have hR:=h.right;clear h hv;subst e;exact QjG o x th tg w hR
set_option maxHeartbeats 1000000 in
theorem QfM (hP:Blk w pb 41 #[I th,I tg])(hX:Blk w xb 3 #[I y])(A:Ar w p g n cap c f)(hk:k<n)(hI:IsW (f k) o x th0 tg0)(hv:QZ (f k)=true)(hr:QO (wrO o x th0 tg0 th tg) y th tg=true)(hm:CB c m)(hb:m<=99999990):
 Calls Tryz.prog 152 #[.iface 84 (pmV p),I (k:Int),.func (.func 153) #[] #[.pointer (some (I1 pb 0)),.pointer (some (I1 xb 0))]] w fun e w'=>
  e=.returned (.tuple #[])/\Ar w' p g n cap (upd (upd c 0 (c 0+1)) 1 (upd c 0 (c 0+1) 1+1)) (upd f k (Qa3 (wrO o x th0 tg0 th tg) y th tg))/\Only p g w w':=by
 have ml:=QaF;have nl:=Qcp;have ms:=Qaa;have ns:=Qa1;obtain⟨bd0,bd1,_⟩:=Qca hr;have HA:=q9 A;have HM:=q9 hm;have HI:=q9 hI;have HV:=q9 hv;have HR:=q9 hr;have HP:=q9 hP;have HX:=q9 hX;clear A hm hI hv hr hP hX
 go_enter Tryz.func152,Tryz.ntmps152
 go_wp2_with fail
 refine(QcS HA hk HM (by omega)).mono ?_;rintro e w1 ⟨rfl,A1,O1⟩
 have HP1:=q9 (HP.arena HA.out O1 (by decide) (by decide))
 have HX1:=q9 (HX.arena HA.out O1 (by decide) (by decide))
 have HA1:=q9 A1;have HO1:=q9 O1;clear A1 O1;go_wp2_with fail
 refine(QhS HI HV).mono ?_;rintro e w2 ⟨rfl,hb2⟩;have HP2:=q9 (HP1.later hb2);have HX2:=q9 (HX1.later hb2);have HA2:=q9 (HA1.below hb2 (Nat.le_refl _));have HO2:=q9 (HO1.trans (Only.of_below hb2));clear hb2;go_wp2_with fail
 refine(QmA (HP2.alloc _) (HX2.alloc _)).mono ?_;rintro e w3 ⟨rfl,hb3⟩;have HA3:=q9 ((HA2.alloc _).below hb3 (Nat.le_refl _));have HO3:=q9 ((HO2.alloc _).trans (Only.of_below hb3));clear hb3;go_wp2_with fail
 refine(Qm5 _ _ _ _ _ HR).mono ?_;rintro e w4 ⟨rfl,hb4⟩;have HA4:=q9 (HA3.below hb4 (Nat.le_refl _));have HO4:=q9 (HO3.trans (Only.of_below hb4));clear hb4;go_wp2_with fail
 refine(Qdc HA4 hk bd0 bd1 (HM.upd 0) (by omega)).mono ?_;rintro e w5 ⟨rfl,A5,O5⟩
 go_wp2_with fail
 go_end0
 exact⟨rfl,A5,HO4.trans O5⟩
end
section
variable {w:World}{p g n cap k m t pb xb:Nat}{c f:Nat->Int}{o x th0 tg0 th tg V T y:Int}{S:Nat}
theorem QhO (A:Ar w p g n cap c f)(hk:k<n)(hI:IsW (f k) o x th0 tg0)(hv:QZ (f k)=true)(hr:QO (wrO o x th0 tg0 th tg) y th tg=true)(hm:CB c m)(hb:m<=99999990):
 Calls Tryz.prog 129 #[vP th tg,.iface 84 (pmV p),I (k:Int),I y] w fun e w'=>
  e=.returned (.tuple #[])/\Ar w' p g n cap (upd (upd c 0 (c 0+1)) 1 (upd c 0 (c 0+1) 1+1)) (upd f k (Qa3 (wrO o x th0 tg0 th tg) y th tg))/\Only p g w w':=by
 have HA:=q9 A;have HM:=q9 hm;have HI:=q9 hI;have HV:=q9 hv;have HR:=q9 hr;clear A hm hI hv hr
 go_enter Tryz.func129,Tryz.ntmps129
 go_wp2_with fail
 refine(QfM ((Blk.new w 41 #[I th,I tg]).alloc _) (Q8 w _ _ _ _) ((HA.alloc _).alloc _) hk HI HV HR HM hb).mono ?_;rintro e w1 ⟨rfl,A1,O1⟩;go_wp2_with fail
 go_end0
 exact⟨rfl,A1,(((Only.refl p g w).alloc _).alloc _).trans O1⟩
end
theorem Qel:(Tryz.prog.info? 3).map (fun i=>(i.zero,i.size,i.bytes))=some (some (I 0),1,8):=by kernel_rfl
def bk:Value->Option Nat
 |.slice (some a) _ (_+1)=>some a.block
 |_=>none
theorem Qby {b off n cap:Nat}(h:0<cap):bk (I3 (I1 b off) n cap)=some b:=by
 cases cap with
 |zero=>omega
 |succ c=>rfl
theorem Qgp (a:Option Addr)(n:Nat):bk (.slice a n 0)=none:=by cases a<;>rfl
def LI (w:World)(v:Value)(l:List Nat):Prop:=
 ∃ a cap,v=.slice a l.length cap/\cap<=maxLen/\l.length<=cap/\(a=none->cap=0)/\
  (0<cap->∃ b off zs,a=some (I1 b off)/\Blk w b 3 zs/\off+cap<=zs.size/\∀ (k x:Nat),l[k]?=some x->zs[off+k]?=some (I (x:Int)))
section
variable {w w':World}{v:Value}{l:List Nat}
theorem LI.nil (w:World):LI w (.slice none 0 0) []:=⟨none,0,rfl,by simp [maxLen],Nat.le_refl _,fun _=>rfl,fun h=>absurd h (Nat.lt_irrefl _)⟩
theorem LI.keep (h:LI w v l)(hb:∀ b,bk v=some b->w'.heap[b]?=w.heap[b]?):LI w' v l:=by
 obtain⟨a,cap,rfl,h1,h2,h3,h4⟩:=h
 refine⟨a,cap,rfl,h1,h2,h3,fun hc=>?_⟩
 obtain⟨b,off,zs,rfl,hz,rest⟩:=h4 hc;exact⟨b,off,zs,rfl,(hb b (Qby hc)).trans hz,rest⟩
theorem LI.lt (h:LI w v l):∀ b,bk v=some b->b<w.heap.size:=by
 intro b hb;obtain⟨a,cap,rfl,h1,h2,h3,h4⟩:=h
 rcases Nat.eq_zero_or_pos cap with rfl|hc
 . rw[Qgp] at hb;cases hb
 . obtain⟨b',off,zs,rfl,hz,rest⟩:=h4 hc
   rw[Qby hc] at hb
   cases hb
   exact hz.lt
theorem LI.alloc (h:LI w v l)(o:Obj):LI (w.alloc o) v l:=h.keep fun b hb=>Below.heap_alloc w o b (h.lt b hb)
theorem LI.drew (h:LI w v l):LI w.drew v l:=h
theorem LI.below (h:LI w v l)(hb:Below w.heap.size w w'):LI w' v l:=h.keep fun b hb'=>hb.block b (h.lt b hb')
theorem LI.only {p g:Nat}(h:LI w v l)(ho:Only p g w w')(h1:bk v≠some p)(h2:bk v≠some g):LI w' v l:=
 h.keep fun b hb=>ho.block b (h.lt b hb) (by rintro rfl;exact h1 hb) (by rintro rfl;exact h2 hb)
theorem LI.ne_blk (h:LI w v l){i:Nat}{ty:TypeId}{cs:Array Value}(hi:Blk w i ty cs)(hty:3≠ty):bk v≠some i:=by
 intro e;obtain⟨a,cap,rfl,h1,h2,h3,h4⟩:=h
 rcases Nat.eq_zero_or_pos cap with rfl|hc
 . rw[Qgp] at e;cases e
 . obtain⟨b',off,zs,rfl,hz,rest⟩:=h4 hc
   rw[Qby hc] at e
   cases e
   exact hz.ne_ hi hty rfl
theorem LI.open_ (h:LI w v l)(hl:l≠[]):∃ b off cap,v=I3 (I1 b off) l.length cap/\cap<=maxLen/\l.length<=cap/\0<cap/\∀ (k x:Nat),l[k]?=some x->w.cell? (I1 b (off+k))=some (I (x:Int)):=by
 obtain⟨a,cap,rfl,h1,h2,h3,h4⟩:=h;have hp:0<l.length:=List.length_pos_iff.2 hl
 obtain⟨b,off,zs,rfl,hz,hs,hx⟩:=h4 (by omega)
 exact⟨b,off,cap,rfl,h1,h2,by omega,fun k x hk=>(hz.cell _).trans (hx k x hk)⟩
theorem LI.shape (h:LI w v l):∃ a cap,v=.slice a l.length cap/\l.length<=cap/\cap<=maxLen:=by
 obtain⟨a,cap,rfl,h1,h2,_⟩:=h;exact⟨a,cap,rfl,h2,h1⟩
theorem LI.of_owns {base:Nat}{v:Value}(h:w.ownsRow base 3 1 v l.length (l.map fun s:Nat=>I (s:Int))):LI w v l/\∀ b,bk v=some b->base<=b:=by
 rcases h.2 with ⟨rfl,h0⟩|⟨g,cap,cur,rfl,hg,hh,hnc,hcm,hcs,htake⟩
 . have:l=[]:=List.eq_nil_of_length_eq_zero h0
   subst this
   exact⟨LI.nil w,fun b hb=>by simp [bk] at hb⟩
 . refine⟨⟨some (I1 g 0),cap,rfl,hcm,hnc,(by intro e;cases e),fun hc=>⟨g,0,cur,rfl,hh,by omega,fun k x hk=>?_⟩⟩,fun b hb=>?_⟩
   . have hk':=(List.getElem?_eq_some_iff.1 hk).1
     have h1:(cur.toList.take (l.length*1))[k]?=some (I (x:Int)):=by rw[htake];simp [hk]
     rw[List.getElem?_take_of_lt (by omega)] at h1
     simpa using h1
   . rcases Nat.eq_zero_or_pos cap with rfl|hc
     . rw[Qgp] at hb;cases hb
     . rw[Qby hc] at hb;cases hb;exact hg
end
theorem Qau (w:World){ops:Array Oper}{rest:List Oper}{o:Oper}{a:Act}{Q:Exit->Act->World->Prop}(hgd:o.guard=none)(s x:Operand)
 (ho:o.op=.call { callee:=.builtin .append,args:=#[s,x],argTypes:=#[36,36]})
 {v:Value} {l:List Nat} (hs:a.eval s=v) (h:LI w v l) (ad:Addr) (c z:Nat) (hx:a.eval x=.slice (some ad) 1 c) (hc:w.cell? (ad.add 0)=some (I (z:Int))) (hl:l.length<=100000)
 (hK:∀ v' w',LI w' v' (l++[z])->w.grownBy w' (bk v)->(bk v'=bk v\/∃ k,bk v'=some k/\w.heap.size<=k)->wpList Tryz.prog ops Q rest (a.put o.dst v') w'):wpList Tryz.prog ops Q (o :: rest) a w:=by
 obtain⟨i0,hi0,hz0,hz1,hz2⟩:=info_parts Qel
 have hnews:∀ (j:Nat) (u:Value),[I (z:Int)][j]?=some u->w.cell? (ad.add j)=some u:=by
  intro j u hj
  match j,hj with
  |0,hj=>simp at hj;subst hj;exact hc
 have hone:∀ u∈[I (z:Int)],u.oneCell'=true:=by simp;rfl
 obtain⟨ao,cap,rfl,h1,h2,h3,h4⟩:=h
 have fresh:∀ v' w',w'.ownsRow w.heap.size 3 1 v' (l.length+1) ((l.map fun s:Nat=>I (s:Int))++[I (z:Int)])->w.grownBy w' none->wpList Tryz.prog ops Q rest (a.put o.dst v') w':=by
  intro v' w' hown hgrow
  have hown':w'.ownsRow w.heap.size 3 1 v' (l++[z]).length ((l++[z]).map fun s:Nat=>I (s:Int)):=by simpa using hown
  obtain⟨hli,hb⟩:=LI.of_owns hown'
  refine hK v' w' hli ⟨hgrow.os,hgrow.tape,hgrow.output,hgrow.size,fun k hk _=>hgrow.block k hk (by simp)⟩ ?_
  cases e:bk v' with
  |none=>
   exfalso
   obtain⟨a',cap',rfl,g1,g2,g3,g4⟩:=hli
   obtain⟨b',off',zs',rfl,_⟩:=g4 (by simp at g2;omega)
   rw[Qby (by simp at g2;omega)] at e
   cases e
  |some k=>exact .inr ⟨k,rfl,hb k e⟩
 rcases Nat.eq_zero_or_pos cap with rfl|hcap
 . have hl0:l=[]:=List.eq_nil_of_length_eq_zero (by omega)
   subst hl0
   exact wpList_append_grows w hgd s x 36 ho 3 i0 _ 1 8 Tryz.underlying36 hi0 hz0 hz1 hz2 rfl (by omega) ao 0 0 [] hs (fun _=>⟨rfl,rfl⟩) rfl (fun b _ j u hj=>by simp at hj)
    ad 1 c [I (z:Int)] hx rfl hnews hone (by omega) (by simp [maxLen]) (by omega) (fun v' w' h1 h2=>fresh v' w' (by simpa using h1) h2)
 . obtain⟨b,off,zs,rfl,hz,hsz,hel⟩:=h4 hcap
   refine wpList_append_arg w hgd s x 36 ho 3 i0 _ 1 8 Tryz.underlying36 hi0 hz0 hz1 hz2 rfl (by omega) b off l.length cap (l.map fun s:Nat=>I (s:Int)) hs (by simp) ?_
    ad 1 c [I (z:Int)] hx rfl hnews hone ?_ (by simp only[maxLen];omega) (by omega) ?_ ?_
   . intro j u hj
     obtain⟨x',hx',rfl⟩:∃ x',l[j]?=some x'/\u=I (x':Int):=by
      simp only[List.getElem?_map,Option.map_eq_some_iff] at hj;obtain⟨y,hy,e⟩:=hj;exact⟨y,hy,e.symm⟩
     exact(hz.cell _).trans (hel j x' hx')
   . intro hroom j hj
     have:j=0:=by simpa using hj
     subst this;refine⟨?_,hz.frozen _⟩
     rw[hz.cell,Array.getElem?_eq_getElem (by omega)]
     rfl
   . intro hroom
     refine hK _ _ ?_ ?_ (.inl ?_)
     . refine⟨some (I1 b off),cap,by simp,h1,by simp;omega,(by intro e;cases e),fun _=>⟨b,off,_,rfl,hz.set_ (off+l.length*1) (I (z:Int)),by simp;omega,fun k y hk=>?_⟩⟩
       by_cases e:k=l.length
       . subst e
         have:y=z:=by simpa using hk.symm
         subst this
         rw[Nat.mul_one,Array.getElem?_setIfInBounds_self_of_lt (by omega)]
       . have hlt:k<l.length:=by have:=(List.getElem?_eq_some_iff.1 hk).1;simp at this;omega
         rw[List.getElem?_append_left hlt] at hk
         rw[Array.getElem?_setIfInBounds_ne (by omega)]
         exact hel k y hk
     . rw[Qby hcap]
       exact⟨rfl,rfl,rfl,by simp [World.setCells,World.setCell],fun k hk hne=>Below.heap_setCell w (I1 b (off+l.length*1)) _ k (by rintro rfl;exact hne rfl)⟩
     . rw[Qby hcap,Qby hcap]
   . exact fun hgrow v' w' h1 h2=>fresh v' w' h1 h2
def lenV:Value->Nat
 |.slice _ n _=>n
 |_=>0
theorem Q5 (w:World)(x:Value)(t:TypeId):(w.alloc (.cells #[x] t)).cell? (((I1 w.heap.size 0):Addr).add 0)=some x:=by
 rw[Addr.add_lit];exact(Blk.new w t #[x]).cell 0
section
variable {w w' w0:World}{r:Option Nat}{i p g n cap:Nat}{t:TypeId}{cs:Array Value}{c f:Nat->Int}
theorem Blk.grown (h:Blk w i t cs)(hg:w.grownBy w' r)(hne:r≠some i):Blk w' i t cs:=(hg.block i h.lt (fun e=>hne e.symm)).trans h
theorem Ar.grown (A:Ar w p g n cap c f)(hg:w.grownBy w' r)(h1:r≠some p)(h2:r≠some g):Ar w' p g n cap c f:=by
 obtain⟨zs,hz,he⟩:=A.cells;exact⟨A.own.grown hg h1,⟨zs,hz.grown hg h2,he⟩,A.le,A.few,A.fit⟩
theorem Only.grown (h:Only p g w0 w)(hg:w.grownBy w' r)(hr:∀ i,r=some i->w0.heap.size<=i):Only p g w0 w':=
 ⟨hg.os.trans h.os,hg.tape.trans h.tape,hg.output.trans h.output,Nat.le_trans h.size hg.size,fun i hi h1 h2=>(hg.block i (Nat.lt_of_lt_of_le hi h.size) (fun e=>by have:=hr i e.symm;omega)).trans (h.block i hi h1 h2)⟩
end
theorem Qpz:(Tryz.prog.info? 88).map (fun i=>(i.zero,i.size,i.bytes))=some (some (I2 0),1,8):=by kernel_rfl
def LU (w:World)(v:Value)(l:List Nat):Prop:=
 ∃ a cap,v=.slice a l.length cap/\cap<=maxLen/\l.length<=cap/\(a=none->cap=0)/\
  (0<cap->∃ b off zs,a=some (I1 b off)/\Blk w b 88 zs/\off+cap<=zs.size/\∀ (k x:Nat),l[k]?=some x->zs[off+k]?=some (I2 (x:Int)))
section
variable {w w':World}{v:Value}{l:List Nat}
theorem LU.nil (w:World):LU w (.slice none 0 0) []:=⟨none,0,rfl,by simp [maxLen],Nat.le_refl _,fun _=>rfl,fun h=>absurd h (Nat.lt_irrefl _)⟩
theorem LU.keep (h:LU w v l)(hb:∀ b,bk v=some b->w'.heap[b]?=w.heap[b]?):LU w' v l:=by
 obtain⟨a,cap,rfl,h1,h2,h3,h4⟩:=h
 refine⟨a,cap,rfl,h1,h2,h3,fun hc=>?_⟩
 obtain⟨b,off,zs,rfl,hz,rest⟩:=h4 hc;exact⟨b,off,zs,rfl,(hb b (Qby hc)).trans hz,rest⟩
theorem LU.lt (h:LU w v l):∀ b,bk v=some b->b<w.heap.size:=by
 intro b hb;obtain⟨a,cap,rfl,h1,h2,h3,h4⟩:=h
 rcases Nat.eq_zero_or_pos cap with rfl|hc
 . rw[Qgp] at hb;cases hb
 . obtain⟨b',off,zs,rfl,hz,rest⟩:=h4 hc
   rw[Qby hc] at hb
   cases hb
   exact hz.lt
theorem LU.alloc (h:LU w v l)(o:Obj):LU (w.alloc o) v l:=h.keep fun b hb=>Below.heap_alloc w o b (h.lt b hb)
theorem LU.below (h:LU w v l)(hb:Below w.heap.size w w'):LU w' v l:=h.keep fun b hb'=>hb.block b (h.lt b hb')
theorem LU.only {p g:Nat}(h:LU w v l)(ho:Only p g w w')(h1:bk v≠some p)(h2:bk v≠some g):LU w' v l:=
 h.keep fun b hb=>ho.block b (h.lt b hb) (by rintro rfl;exact h1 hb) (by rintro rfl;exact h2 hb)
theorem LU.ne_blk (h:LU w v l){i:Nat}{ty:TypeId}{cs:Array Value}(hi:Blk w i ty cs)(hty:88≠ty):bk v≠some i:=by
 intro e;obtain⟨a,cap,rfl,h1,h2,h3,h4⟩:=h
 rcases Nat.eq_zero_or_pos cap with rfl|hc
 . rw[Qgp] at e;cases e
 . obtain⟨b',off,zs,rfl,hz,rest⟩:=h4 hc
   rw[Qby hc] at e
   cases e
   exact hz.ne_ hi hty rfl
theorem LU.shape (h:LU w v l):∃ a cap,v=.slice a l.length cap/\l.length<=cap/\cap<=maxLen:=by
 obtain⟨a,cap,rfl,h1,h2,_⟩:=h;exact⟨a,cap,rfl,h2,h1⟩
theorem LU.of_owns {base:Nat}{v:Value}(h:w.ownsRow base 88 1 v l.length (l.map fun s:Nat=>I2 (s:Int))):LU w v l/\∀ b,bk v=some b->base<=b:=by
 rcases h.2 with ⟨rfl,h0⟩|⟨g,cap,cur,rfl,hg,hh,hnc,hcm,hcs,htake⟩
 . have:l=[]:=List.eq_nil_of_length_eq_zero h0
   subst this
   exact⟨LU.nil w,fun b hb=>by simp [bk] at hb⟩
 . refine⟨⟨some (I1 g 0),cap,rfl,hcm,hnc,(by intro e;cases e),fun hc=>⟨g,0,cur,rfl,hh,by omega,fun k x hk=>?_⟩⟩,fun b hb=>?_⟩
   . have hk':=(List.getElem?_eq_some_iff.1 hk).1
     have h1:(cur.toList.take (l.length*1))[k]?=some (I2 (x:Int)):=by rw[htake];simp [hk]
     rw[List.getElem?_take_of_lt (by omega)] at h1
     simpa using h1
   . rcases Nat.eq_zero_or_pos cap with rfl|hc
     . rw[Qgp] at hb;cases hb
     . rw[Qby hc] at hb;cases hb;exact hg
end
theorem Qoq (w:World){ops:Array Oper}{rest:List Oper}{o:Oper}{a:Act}{Q:Exit->Act->World->Prop}(hgd:o.guard=none)(s x:Operand)
 (ho:o.op=.call { callee:=.builtin .append,args:=#[s,x],argTypes:=#[24,24]})
 {v:Value} {l:List Nat} (hs:a.eval s=v) (h:LU w v l) (ad:Addr) (c z:Nat) (hx:a.eval x=.slice (some ad) 1 c) (hc:w.cell? (ad.add 0)=some (I2 (z:Int))) (hl:l.length<=100000)
 (hK:∀ v' w',LU w' v' (l++[z])->w.grownBy w' (bk v)->(bk v'=bk v\/∃ k,bk v'=some k/\w.heap.size<=k)->wpList Tryz.prog ops Q rest (a.put o.dst v') w'):wpList Tryz.prog ops Q (o :: rest) a w:=by
 obtain⟨i0,hi0,hz0,hz1,hz2⟩:=info_parts Qpz
 have hnews:∀ (j:Nat) (u:Value),[I2 (z:Int)][j]?=some u->w.cell? (ad.add j)=some u:=by
  intro j u hj
  match j,hj with
  |0,hj=>simp at hj;subst hj;exact hc
 have hone:∀ u∈[I2 (z:Int)],u.oneCell'=true:=by simp;rfl
 obtain⟨ao,cap,rfl,h1,h2,h3,h4⟩:=h
 have fresh:∀ v' w',w'.ownsRow w.heap.size 88 1 v' (l.length+1) ((l.map fun s:Nat=>I2 (s:Int))++[I2 (z:Int)])->w.grownBy w' none->wpList Tryz.prog ops Q rest (a.put o.dst v') w':=by
  intro v' w' hown hgrow
  have hown':w'.ownsRow w.heap.size 88 1 v' (l++[z]).length ((l++[z]).map fun s:Nat=>I2 (s:Int)):=by simpa using hown
  obtain⟨hli,hb⟩:=LU.of_owns hown'
  refine hK v' w' hli ⟨hgrow.os,hgrow.tape,hgrow.output,hgrow.size,fun k hk _=>hgrow.block k hk (by simp)⟩ ?_
  cases e:bk v' with
  |none=>
   exfalso
   obtain⟨a',cap',rfl,g1,g2,g3,g4⟩:=hli
   obtain⟨b',off',zs',rfl,_⟩:=g4 (by simp at g2;omega)
   rw[Qby (by simp at g2;omega)] at e
   cases e
  |some k=>exact .inr ⟨k,rfl,hb k e⟩
 rcases Nat.eq_zero_or_pos cap with rfl|hcap
 . have hl0:l=[]:=List.eq_nil_of_length_eq_zero (by omega)
   subst hl0
   exact wpList_append_grows w hgd s x 24 ho 88 i0 _ 1 8 Tryz.underlying24 hi0 hz0 hz1 hz2 rfl (by omega) ao 0 0 [] hs (fun _=>⟨rfl,rfl⟩) rfl (fun b _ j u hj=>by simp at hj)
    ad 1 c [I2 (z:Int)] hx rfl hnews hone (by omega) (by simp [maxLen]) (by omega) (fun v' w' h1 h2=>fresh v' w' (by simpa using h1) h2)
 . obtain⟨b,off,zs,rfl,hz,hsz,hel⟩:=h4 hcap
   refine wpList_append_arg w hgd s x 24 ho 88 i0 _ 1 8 Tryz.underlying24 hi0 hz0 hz1 hz2 rfl (by omega) b off l.length cap (l.map fun s:Nat=>I2 (s:Int)) hs (by simp) ?_
    ad 1 c [I2 (z:Int)] hx rfl hnews hone ?_ (by simp only[maxLen];omega) (by omega) ?_ ?_
   . intro j u hj
     obtain⟨x',hx',rfl⟩:∃ x',l[j]?=some x'/\u=I2 (x':Int):=by
      simp only[List.getElem?_map,Option.map_eq_some_iff] at hj;obtain⟨y,hy,e⟩:=hj;exact⟨y,hy,e.symm⟩
     exact(hz.cell _).trans (hel j x' hx')
   . intro hroom j hj
     have:j=0:=by simpa using hj
     subst this;refine⟨?_,hz.frozen _⟩
     rw[hz.cell,Array.getElem?_eq_getElem (by omega)]
     rfl
   . intro hroom
     refine hK _ _ ?_ ?_ (.inl ?_)
     . refine⟨some (I1 b off),cap,by simp,h1,by simp;omega,(by intro e;cases e),fun _=>⟨b,off,_,rfl,hz.set_ (off+l.length*1) (I2 (z:Int)),by simp;omega,fun k y hk=>?_⟩⟩
       by_cases e:k=l.length
       . subst e
         have:y=z:=by simpa using hk.symm
         subst this
         rw[Nat.mul_one,Array.getElem?_setIfInBounds_self_of_lt (by omega)]
       . have hlt:k<l.length:=by have:=(List.getElem?_eq_some_iff.1 hk).1;simp at this;omega
         rw[List.getElem?_append_left hlt] at hk
         rw[Array.getElem?_setIfInBounds_ne (by omega)]
         exact hel k y hk
     . rw[Qby hcap]
       exact⟨rfl,rfl,rfl,by simp [World.setCells,World.setCell],fun k hk hne=>Below.heap_setCell w (I1 b (off+l.length*1)) _ k (by rintro rfl;exact hne rfl)⟩
     . rw[Qby hcap,Qby hcap]
   . exact fun hgrow v' w' h1 h2=>fresh v' w' h1 h2
theorem LU.at {w:World}{a:Option Addr}{n c k x:Nat}{l:List Nat}(h:LU w (.slice a n c) l)(hx:l[k]?=some x):∃ b off,a=some (I1 b off)/\w.cell? (I1 b (off+k))=some (I2 (x:Int)):=by
 obtain⟨a',cap,e,h1,h2,h3,h4⟩:=h;injection e with e1 e2 e3;subst e1 e3;have hk:=(List.getElem?_eq_some_iff.1 hx).1
 obtain⟨b,off,zs,rfl,hz,hs,he⟩:=h4 (by omega)
 exact⟨b,off,rfl,(hz.cell (off+k)).trans (he k x hx)⟩
end Go.Proofs.YtaooglagddphnaaGreat
