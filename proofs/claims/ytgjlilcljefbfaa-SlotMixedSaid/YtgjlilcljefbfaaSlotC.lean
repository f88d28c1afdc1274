/- Contracts of links, and of what takes and gives have in common. -/
import Derived.Test.YtgjlilcljefbfaaLayF
import Derived.Test.YtgjlilcljefbfaaWordM
import Derived.Test.YtgjlilcljefbfaaSlotB
import Derived.Test.YtgjlilcljefbfaaTrB
namespace Go.Proofs.Ytgjlilcljefbfaa
open Go.RowKit

set_option maxRecDepth 100000

/-- The slot that a link leads to, and whether there is one. -/
def lkF (S : Nat) (v : Int) : Int := if 1 ≤ v ∧ v ≤ S then v - 1 else 0
def lkB (S : Nat) (v : Int) : Bool := decide (1 ≤ v ∧ v ≤ S)
/-- The link of a slot. -/
def lnF (S : Nat) (s : Int) : Int := if 0 ≤ s ∧ s < S then s + 1 else 0

theorem slotF_in {S : Nat} {T a k : Int} (h1 : 0 ≤ a) (h2 : a < S) (h3 : 0 ≤ k) (h4 : k < 7) : slotF S T a k = T + 1 + a * 7 + k := if_pos ⟨h1, h2, h3, h4⟩
theorem slotF_out {S : Nat} {T a k : Int} (h : a < 0 ∨ (S : Int) ≤ a) : slotF S T a k = -1 := if_neg (by omega)

theorem linked_any {V T : Int} {S : Nat} (h : Rt V S T) {v : Int} (h0 : 0 ≤ v) (h1 : v ≤ 1000000) (w : World) :
    Calls Try.prog 28 #[vL V S T, .int .u64 v] w fun e w' => e = .returned (.tuple #[.int .i64 (lkF S v), .bool (lkB S v)]) ∧ Below w.heap.size w w' := by
  have s2 := h.s2
  have t1 := h.t1
  have t2 := h.t2
  by_cases hv : 1 ≤ v ∧ v ≤ S
  · have e1 : lkF S v = v - 1 := if_pos hv
    have e2 : lkB S v = true := decide_eq_true hv
    have e3 := slotF_in (S := S) (T := T) (a := v - 1) (k := 0) (by omega) (by omega) (by omega) (by omega)
    rw [e1, e2]
    have HE := Lib.hid e3
    have HV := Lib.hid hv
    have H := Lib.hid h
    clear e1 e2 e3 hv h
    go_enter Try.func28, Try.ntmps28
    go_wp2_with fail
    refine (nextFree_yes V S T (v - 1) H.out _).mono ?_; rintro e w1 ⟨rfl, hb1⟩; rw [HE.out]
    have h5 : ¬ (T + 1 + (v - 1) * 7 + 0 < 0) := by have := HV.out; omega
    go_wp2_with fail
    go_ret2
    exact ⟨rfl, keepL ((Below.refl _ _).alloc (Nat.le_refl _) _) hb1⟩
  · have e1 : lkF S v = 0 := if_neg hv
    have e2 : lkB S v = false := decide_eq_false hv
    have e3 := slotF_out (S := S) (T := T) (a := v - 1) (k := 0) (by omega)
    rw [e1, e2]
    have HE := Lib.hid e3
    have H := Lib.hid h
    clear e1 e2 e3 hv h
    go_enter Try.func28, Try.ntmps28
    go_wp2_with fail
    refine (nextFree_yes V S T (v - 1) H.out _).mono ?_; rintro e w1 ⟨rfl, hb1⟩; rw [HE.out]
    go_wp2_with fail
    go_ret2
    exact ⟨rfl, keepL ((Below.refl _ _).alloc (Nat.le_refl _) _) hb1⟩

theorem link_any {V T : Int} {S : Nat} (h : Rt V S T) {s : Int} (h0 : -1000000 ≤ s) (h1 : s ≤ 1000000) (w : World) :
    Calls Try.prog 31 #[vL V S T, .int .i64 s] w fun e w' => e = .returned (.int .u64 (lnF S s)) ∧ Below w.heap.size w w' := by
  have s2 := h.s2
  have t1 := h.t1
  have t2 := h.t2
  by_cases hv : 0 ≤ s ∧ s < S
  · have e1 : lnF S s = s + 1 := if_pos hv
    have e3 := slotF_in (S := S) (T := T) (a := s) (k := 0) (by omega) (by omega) (by omega) (by omega)
    rw [e1]
    have h5 : 0 ≤ s := hv.1
    have HE := Lib.hid e3
    have H := Lib.hid h
    clear e1 e3 hv h
    go_enter Try.func31, Try.ntmps31
    go_wp2_with fail
    refine (nextFree_yes V S T s H.out _).mono ?_; rintro e w1 ⟨rfl, hb1⟩; rw [HE.out]
    have h6 : ¬ (T + 1 + s * 7 + 0 < 0) := by omega
    go_wp2_with fail
    go_ret
    exact ⟨rfl, keepL ((Below.refl _ _).alloc (Nat.le_refl _) _) hb1⟩
  · have e1 : lnF S s = 0 := if_neg hv
    have e3 := slotF_out (S := S) (T := T) (a := s) (k := 0) (by omega)
    rw [e1]
    have HE := Lib.hid e3
    have H := Lib.hid h
    clear e1 e3 hv h
    go_enter Try.func31, Try.ntmps31
    go_wp2_with fail
    refine (nextFree_yes V S T s H.out _).mono ?_; rintro e w1 ⟨rfl, hb1⟩; rw [HE.out]
    go_wp2_with fail
    go_ret
    exact ⟨rfl, keepL ((Below.refl _ _).alloc (Nat.le_refl _) _) hb1⟩

/-- A program of two parts in memory: its lay, the step that comes next, the head that it loaded; and one thing more. -/
def Pg (w : World) (q : Nat) (ty : TypeId) (V : Int) (S : Nat) (T a h : Int) (x : Value) : Prop :=
  (ty = 77 ∨ ty = 71) ∧ Blk w q ty #[.int .i64 V, .int .i64 S, .int .i64 T, .int .i64 a, .int .u64 h, x]

section
variable {w w' : World} {q p g n cap : Nat} {ty : TypeId} {V T a h : Int} {S : Nat} {x : Value} {c f : Nat → Int}
theorem Pg.lt (P : Pg w q ty V S T a h x) : q < w.heap.size := P.2.lt
theorem Pg.below {B : Nat} (P : Pg w q ty V S T a h x) (hb : Below B w w') (hB : w.heap.size ≤ B) : Pg w' q ty V S T a h x := ⟨P.1, P.2.below hb (by have := P.lt; omega)⟩
theorem Pg.alloc (P : Pg w q ty V S T a h x) (o : Obj) : Pg (w.alloc o) q ty V S T a h x := ⟨P.1, P.2.alloc o⟩
theorem Pg.drew (P : Pg w q ty V S T a h x) : Pg w.drew q ty V S T a h x := P
theorem Pg.ne_p (P : Pg w q ty V S T a h x) (A : Ar w p g n cap c f) : q ≠ p := P.2.ne_ A.own (by rcases P.1 with h | h <;> rw [h] <;> decide)
theorem Pg.ne_g (P : Pg w q ty V S T a h x) (A : Ar w p g n cap c f) : q ≠ g := by
  obtain ⟨zs, hz, _⟩ := A.cells
  exact P.2.ne_ hz (by rcases P.1 with h | h <;> rw [h] <;> decide)
theorem Pg.c0 (P : Pg w q ty V S T a h x) : w.cell? ⟨q, 0, none⟩ = some (.int .i64 V) := P.2.cell 0
theorem Pg.c1 (P : Pg w q ty V S T a h x) : w.cell? ⟨q, 1, none⟩ = some (.int .i64 S) := P.2.cell 1
theorem Pg.c2 (P : Pg w q ty V S T a h x) : w.cell? ⟨q, 2, none⟩ = some (.int .i64 T) := P.2.cell 2
theorem Pg.c3 (P : Pg w q ty V S T a h x) : w.cell? ⟨q, 3, none⟩ = some (.int .i64 a) := P.2.cell 3
theorem Pg.c4 (P : Pg w q ty V S T a h x) : w.cell? ⟨q, 4, none⟩ = some (.int .u64 h) := P.2.cell 4
theorem Pg.c5 (P : Pg w q ty V S T a h x) : w.cell? ⟨q, 5, none⟩ = some x := P.2.cell 5
theorem Pg.fz (P : Pg w q ty V S T a h x) (i : Nat) : w.frozen? ⟨q, i, none⟩ = false := P.2.frozen i
theorem Pg.set3 (P : Pg w q ty V S T a h x) (a' : Int) : Pg (w.setCell ⟨q, 3, none⟩ (.int .i64 a')) q ty V S T a' h x := ⟨P.1, P.2.set_ 3 _⟩
theorem Pg.set4 (P : Pg w q ty V S T a h x) (h' : Int) : Pg (w.setCell ⟨q, 4, none⟩ (.int .u64 h')) q ty V S T a h' x := ⟨P.1, P.2.set_ 4 _⟩
theorem Pg.set5 (P : Pg w q ty V S T a h x) (x' : Value) : Pg (w.setCell ⟨q, 5, none⟩ x') q ty V S T a h x' := ⟨P.1, P.2.set_ 5 _⟩
theorem Pg.only (P : Pg w q ty V S T a h x) (A : Ar w p g n cap c f) (ho : Only p g w w') : Pg w' q ty V S T a h x := ⟨P.1, P.2.only ho (P.ne_p A) (P.ne_g A)⟩
theorem Ar.q_far (A : Ar w p g n cap c f) (h1 : q ≠ p) (h2 : q ≠ g) {j : Nat} (u : Value) : Ar (w.setCell ⟨q, j, none⟩ u) p g n cap c f := by
  obtain ⟨zs, hz, he⟩ := A.cells
  exact ⟨A.own.far (fun e => h1 e.symm) _, ⟨zs, hz.far (fun e => h2 e.symm) _, he⟩, A.le, A.few, A.fit⟩
end

section
variable {w : World} {q p g n cap t m : Nat} {ty : TypeId} {V T a h : Int} {S : Nat} {x : Value} {c f : Nat → Int}

/-- It loads the head. -/
theorem load_pg (hR : Rt V S T) (ht : T = (t : Int)) (A : Ar w p g n cap c f) (P : Pg w q ty V S T a h x) (hn : t < n) (hm : CB c m) (hb : m ≤ 1000000) :
    Calls Try.prog 32 #[.pointer (some ⟨q, 0, none⟩), .pointer (some ⟨p, 0, none⟩)] w fun e w' =>
      e = .returned (.tuple #[]) ∧ Ar w' p g n cap (upd c 0 (c 0 + 1)) f ∧ Pg w' q ty V S T 1 (f t) x ∧ OnlyT q p g none w w' := by
  subst ht
  have h1 := P.ne_p A
  have h2 := P.ne_g A
  have y0 := P.c0
  have y1 := P.c1
  have y2 := P.c2
  have y3 := P.c3
  have y4 := P.c4
  have y5 := P.c5
  have f3 := P.fz 3
  have f4 := P.fz 4
  have hlt := P.lt
  have HR := Lib.hid hR
  have HA := Lib.hid A
  have HP := Lib.hid P
  have HM := Lib.hid hm
  clear hR A P hm
  go_enter Try.func32, Try.ntmps32
  go_wp2_with fail
  refine (free_yes V S t HR.out _).mono ?_; rintro e w1 ⟨rfl, hb1⟩
  have A1 := Lib.hid (HA.out.below hb1 (Nat.le_refl _))
  have P1 := Lib.hid (HP.out.below hb1 (Nat.le_refl _))
  go_wp2_with fail
  refine (load_yes A1.out hn HM.out hb).mono ?_; rintro e w2 ⟨rfl, A2, O2⟩
  have P2 := P1.out.only A1.out O2
  have z3 := P2.c3
  have z4 := P2.c4
  have g3 := P2.fz 3
  have g4 := P2.fz 4
  have hlt2 := P2.lt
  have HA2 := Lib.hid A2
  have HP2 := Lib.hid P2
  have HO2 := Lib.hid O2
  clear A2 P2 O2
  go_wp2_with fail
  go_end0
  refine ⟨rfl, (HA2.out.q_far h1 h2 _).q_far h1 h2 _, (HP2.out.set4 _).set3 _, ?_⟩
  exact ((((OnlyT.of_only (Only.of_below hb1)).trans (OnlyT.of_only HO2.out))).set_t _).set_t _
end
end Go.Proofs.Ytgjlilcljefbfaa
