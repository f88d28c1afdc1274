/- Contracts of the head's slot, and of the swap. -/
import Derived.Test.YtgjlilcljefbfaaSlotC
namespace Go.Proofs.Ytgjlilcljefbfaa
open Go.RowKit

set_option maxRecDepth 100000

/-- A program in memory, and all else as it was. -/
def PgB (w0 : World) (q : Nat) (ty : TypeId) (V : Int) (S : Nat) (T a h : Int) (x : Value) (w : World) : Prop := Pg w q ty V S T a h x ∧ Below w0.heap.size w0 w
section
variable {w0 w w' : World} {q p g n cap : Nat} {ty : TypeId} {V T a h : Int} {S : Nat} {x : Value} {c f : Nat → Int}
theorem PgB.start (P : Pg w q ty V S T a h x) : PgB w q ty V S T a h x w := ⟨P, Below.refl _ _⟩
theorem PgB.drew (P : PgB w0 q ty V S T a h x w) : PgB w0 q ty V S T a h x w.drew := ⟨P.1, P.2.drew⟩
theorem PgB.later (P : PgB w0 q ty V S T a h x w) (hb : Below w.heap.size w w') : PgB w0 q ty V S T a h x w' := ⟨P.1.below hb (Nat.le_refl _), P.2.trans (hb.mono P.2.size)⟩
theorem PgB.cells (P : PgB w0 q ty V S T a h x w) : w.cell? ⟨q, 0, none⟩ = some (.int .i64 V) ∧ w.cell? ⟨q, 1, none⟩ = some (.int .i64 S) ∧ w.cell? ⟨q, 2, none⟩ = some (.int .i64 T) ∧ w.cell? ⟨q, 3, none⟩ = some (.int .i64 a) ∧ w.cell? ⟨q, 4, none⟩ = some (.int .u64 h) ∧ w.cell? ⟨q, 5, none⟩ = some x :=
  ⟨P.1.c0, P.1.c1, P.1.c2, P.1.c3, P.1.c4, P.1.c5⟩
end

section
variable {w : World} {q p g n cap t m : Nat} {ty : TypeId} {V T a h : Int} {S : Nat} {x : Value} {c f : Nat → Int}

/-- The slot of the head that was loaded. -/
theorem first_pg (hR : Rt V S T) {k : Nat} (hk : h % 65536 = k) (h0 : 0 ≤ h) (h1 : h < 18446744073709551616) (P : Pg w q ty V S T a h x) :
    Calls Try.prog 35 #[.pointer (some ⟨q, 0, none⟩)] w fun e w' => e = .returned (.tuple #[.int .i64 (lkF S k), .bool (lkB S k)]) ∧ Below w.heap.size w w' := by
  have e1 : bits .and .u64 h 65535 = (k : Int) := (and_65535 h h0 h1).trans hk
  have k1 : (k : Int) ≤ 1000000 := by omega
  have k0 : 0 ≤ (k : Int) := by omega
  have y0 := P.c0
  have y1 := P.c1
  have y2 := P.c2
  have y4 := P.c4
  have HS := Lib.hid (PgB.start P)
  have HR := Lib.hid hR
  clear P hR hk
  have hq : ∀ W : World, PgB w q ty V S T a h x W → W.cell? ⟨q, 0, none⟩ = some (.int .i64 V) ∧ W.cell? ⟨q, 1, none⟩ = some (.int .i64 S) ∧ W.cell? ⟨q, 2, none⟩ = some (.int .i64 T) ∧ W.cell? ⟨q, 3, none⟩ = some (.int .i64 a) ∧ W.cell? ⟨q, 4, none⟩ = some (.int .u64 h) ∧ W.cell? ⟨q, 5, none⟩ = some x := fun W h => h.cells
  go_enter Try.func35, Try.ntmps35
  go_wp2_with fail
  go_region_held3 (PgB w q ty V S T a h x) (first | (with_reducible assumption) | (with_reducible exact HS.out.drew) | (with_reducible exact PgB.later (by assumption) hb))
    (first
      | (go_at_call 28; ((with_reducible refine (linked_any HR.out k0 k1 _).mono ?_); rintro e w' ⟨rfl, hb⟩)))
  go_wp2_with fail
  go_ret2
  exact ⟨rfl, And.right (by assumption)⟩

set_option maxHeartbeats 1000000 in
theorem swap_hit_pg (hR : Rt V S T) (ht : T = (t : Int)) {v : Int} (A : Ar w p g n cap c f) (P : Pg w q ty V S T a h x) (hn : t < n) (hu : (f t == h) = true) (hv0 : 0 ≤ v) (hv1 : v < 65536) (h0 : 0 ≤ h) (h1 : h < 1000000 * 65536) (hm : CB c m) (hb : m ≤ 1000000) :
    Calls Try.prog 34 #[.pointer (some ⟨q, 0, none⟩), .pointer (some ⟨p, 0, none⟩), .int .u64 v] w fun e w' =>
      e = .returned (.tuple #[]) ∧ Ar w' p g n cap (upd c 2 (c 2 + 1)) (upd f t ((h / 65536 + 1) * 65536 + v)) ∧ Pg w' q ty V S T 3 h x ∧ OnlyT q p g none w w' := by
  subst ht
  have q1 := P.ne_p A
  have q2 := P.ne_g A
  have y0 := P.c0
  have y1 := P.c1
  have y2 := P.c2
  have y3 := P.c3
  have y4 := P.c4
  have f3 := P.fz 3
  have hlt := P.lt
  have e1 : bits .or .u64 (IntKind.u64.wrap ((h / 65536 + 1) * 65536)) v = (h / 65536 + 1) * 65536 + v := by
    have ew : IntKind.u64.wrap ((h / 65536 + 1) * 65536) = (h / 65536 + 1) * 65536 := by
      show ((h / 65536 + 1) * 65536) % 18446744073709551616 = _
      omega
    rw [ew]
    obtain ⟨k, hk⟩ := Int.eq_ofNat_of_zero_le (show 0 ≤ h / 65536 + 1 by omega)
    obtain ⟨j, rfl⟩ := Int.eq_ofNat_of_zero_le hv0
    have := or_nat 16 65536 k j rfl (by omega) (by omega)
    rw [hk, show (k : Int) * 65536 = ((k * 65536 : Nat) : Int) by omega, this]
    omega
  have e2 : 0 ≤ h / 65536 := by omega
  have e3 : h / 65536 ≤ 1000000 := by omega
  generalize hh : h / 65536 = hd at e1 e2 e3 ⊢
  have b0 : 0 ≤ bits .or .u64 (IntKind.u64.wrap ((hd + 1) * 65536)) v := by rw [e1]; omega
  have b1 : bits .or .u64 (IntKind.u64.wrap ((hd + 1) * 65536)) v ≤ 18446744073709551615 := by rw [e1]; omega
  have HB0 := Lib.hid b0
  have HB1 := Lib.hid b1
  have HR := Lib.hid hR
  have HA := Lib.hid A
  have HP := Lib.hid P
  have HM := Lib.hid hm
  have HU := Lib.hid hu
  have HE1 := Lib.hid e1
  clear hR A P hm hu e1 b0 b1
  have hq : ∀ W : World, Pg W q ty V S t 0 h x → W.cell? ⟨q, 0, none⟩ = some (.int .i64 V) ∧ W.cell? ⟨q, 1, none⟩ = some (.int .i64 S) ∧ W.cell? ⟨q, 2, none⟩ = some (.int .i64 (t : Int)) ∧ W.cell? ⟨q, 3, none⟩ = some (.int .i64 0) ∧ W.cell? ⟨q, 4, none⟩ = some (.int .u64 h) ∧ W.cell? ⟨q, 5, none⟩ = some x := fun W h => ⟨h.c0, h.c1, h.c2, h.c3, h.c4, h.c5⟩
  go_enter Try.func34, Try.ntmps34
  go_wp2_with fail
  have HP1 := Lib.hid ((HP.out.set3 0))
  have HA1 := Lib.hid (HA.out.q_far q1 q2 (j := 3) (.int .i64 0))
  have HO1 := Lib.hid ((OnlyT.refl (t := q) (p := p) (g := g) (r := none) w).set_t (j := 3) (.int .i64 0))
  have z0 := HP1.out.c0
  have z1 := HP1.out.c1
  have z2 := HP1.out.c2
  have z4 := HP1.out.c4
  have hlt2 := HP1.out.lt
  have f3' := HP1.out.fz 3
  clear y0 y1 y2 y3 y4 f3 hlt HP HA
  generalize w.setCell ⟨q, 3, none⟩ (.int .i64 0) = W0 at HP1 HA1 HO1 z0 z1 z2 z4 hlt2 f3' ⊢
  go_region_held3 (fun W => Pg W q ty V S t 0 h x) (first | (with_reducible assumption) | (with_reducible exact HP1.out.drew) | (with_reducible exact Pg.below (by assumption) hb1 (Nat.le_refl _)) | (with_reducible exact Pg.only (by assumption) A1 O2))
    (first
      | (go_at_call 29; ((with_reducible refine (free_yes V S t HR.out _).mono ?_); rintro e w1 ⟨rfl, hb1⟩; have A1 := HA1.out.drew.below hb1 (Nat.le_refl _); have O1 := HO1.out.drew.trans (OnlyT.of_only (Only.of_below hb1))))
      | (go_at_call 41; ((with_reducible refine (swap_hit A1 hn HU.out HB0.out HB1.out HM.out hb).mono ?_); rintro e w2 ⟨rfl, A2, O2⟩; have P2 := Lib.hid (Pg.only (by assumption) A1 O2))))
  all_goals
    have O3 := Lib.hid (O1.trans (OnlyT.of_only O2))
    have HA2 := Lib.hid A2
    clear z0 z1 z2 z4 f3' hlt2 A1 O1 A2 O2
    have z3 := P2.out.c3
    have f3 := P2.out.fz 3
    have hlt3 := P2.out.lt
    go_wp2_with fail
    go_end0
    rw [HE1.out] at HA2; exact ⟨rfl, HA2.out.q_far q1 q2 _, P2.out.set3 _, O3.out.set_t _⟩

set_option maxHeartbeats 1000000 in
theorem swap_miss_pg (hR : Rt V S T) (ht : T = (t : Int)) {v : Int} (A : Ar w p g n cap c f) (P : Pg w q ty V S T a h x) (hn : t < n) (hu : (f t == h) = false) (hv0 : 0 ≤ v) (hv1 : v < 65536) (h0 : 0 ≤ h) (h1 : h < 1000000 * 65536) (hm : CB c m) (hb : m ≤ 1000000) :
    Calls Try.prog 34 #[.pointer (some ⟨q, 0, none⟩), .pointer (some ⟨p, 0, none⟩), .int .u64 v] w fun e w' =>
      e = .returned (.tuple #[]) ∧ Ar w' p g n cap (upd c 3 (c 3 + 1)) f ∧ Pg w' q ty V S T 0 h x ∧ OnlyT q p g none w w' := by
  subst ht
  have q1 := P.ne_p A
  have q2 := P.ne_g A
  have y0 := P.c0
  have y1 := P.c1
  have y2 := P.c2
  have y3 := P.c3
  have y4 := P.c4
  have f3 := P.fz 3
  have hlt := P.lt
  have e1 : bits .or .u64 (IntKind.u64.wrap ((h / 65536 + 1) * 65536)) v = (h / 65536 + 1) * 65536 + v := by
    have ew : IntKind.u64.wrap ((h / 65536 + 1) * 65536) = (h / 65536 + 1) * 65536 := by
      show ((h / 65536 + 1) * 65536) % 18446744073709551616 = _
      omega
    rw [ew]
    obtain ⟨k, hk⟩ := Int.eq_ofNat_of_zero_le (show 0 ≤ h / 65536 + 1 by omega)
    obtain ⟨j, rfl⟩ := Int.eq_ofNat_of_zero_le hv0
    have := or_nat 16 65536 k j rfl (by omega) (by omega)
    rw [hk, show (k : Int) * 65536 = ((k * 65536 : Nat) : Int) by omega, this]
    omega
  have e2 : 0 ≤ h / 65536 := by omega
  have e3 : h / 65536 ≤ 1000000 := by omega
  generalize hh : h / 65536 = hd at e1 e2 e3 ⊢
  have b0 : 0 ≤ bits .or .u64 (IntKind.u64.wrap ((hd + 1) * 65536)) v := by rw [e1]; omega
  have b1 : bits .or .u64 (IntKind.u64.wrap ((hd + 1) * 65536)) v ≤ 18446744073709551615 := by rw [e1]; omega
  have HB0 := Lib.hid b0
  have HB1 := Lib.hid b1
  have HR := Lib.hid hR
  have HA := Lib.hid A
  have HP := Lib.hid P
  have HM := Lib.hid hm
  have HU := Lib.hid hu
  have HE1 := Lib.hid e1
  clear hR A P hm hu e1 b0 b1
  have hq : ∀ W : World, Pg W q ty V S t 0 h x → W.cell? ⟨q, 0, none⟩ = some (.int .i64 V) ∧ W.cell? ⟨q, 1, none⟩ = some (.int .i64 S) ∧ W.cell? ⟨q, 2, none⟩ = some (.int .i64 (t : Int)) ∧ W.cell? ⟨q, 3, none⟩ = some (.int .i64 0) ∧ W.cell? ⟨q, 4, none⟩ = some (.int .u64 h) ∧ W.cell? ⟨q, 5, none⟩ = some x := fun W h => ⟨h.c0, h.c1, h.c2, h.c3, h.c4, h.c5⟩
  go_enter Try.func34, Try.ntmps34
  go_wp2_with fail
  have HP1 := Lib.hid ((HP.out.set3 0))
  have HA1 := Lib.hid (HA.out.q_far q1 q2 (j := 3) (.int .i64 0))
  have HO1 := Lib.hid ((OnlyT.refl (t := q) (p := p) (g := g) (r := none) w).set_t (j := 3) (.int .i64 0))
  have z0 := HP1.out.c0
  have z1 := HP1.out.c1
  have z2 := HP1.out.c2
  have z4 := HP1.out.c4
  have hlt2 := HP1.out.lt
  have f3' := HP1.out.fz 3
  clear y0 y1 y2 y3 y4 f3 hlt HP HA
  generalize w.setCell ⟨q, 3, none⟩ (.int .i64 0) = W0 at HP1 HA1 HO1 z0 z1 z2 z4 hlt2 f3' ⊢
  go_region_held3 (fun W => Pg W q ty V S t 0 h x) (first | (with_reducible assumption) | (with_reducible exact HP1.out.drew) | (with_reducible exact Pg.below (by assumption) hb1 (Nat.le_refl _)) | (with_reducible exact Pg.only (by assumption) A1 O2))
    (first
      | (go_at_call 29; ((with_reducible refine (free_yes V S t HR.out _).mono ?_); rintro e w1 ⟨rfl, hb1⟩; have A1 := HA1.out.drew.below hb1 (Nat.le_refl _); have O1 := HO1.out.drew.trans (OnlyT.of_only (Only.of_below hb1))))
      | (go_at_call 41; ((with_reducible refine (swap_miss A1 hn HU.out HM.out hb).mono ?_); rintro e w2 ⟨rfl, A2, O2⟩; have P2 := Lib.hid (Pg.only (by assumption) A1 O2))))
  all_goals
    have O3 := Lib.hid (O1.trans (OnlyT.of_only O2))
    have HA2 := Lib.hid A2
    clear z0 z1 z2 z4 f3' hlt2 A1 O1 A2 O2
    have z3 := P2.out.c3
    have f3 := P2.out.fz 3
    have hlt3 := P2.out.lt
    go_wp2_with fail
    go_end0
    exact ⟨rfl, HA2.out, P2.out, O3.out⟩
end
end Go.Proofs.Ytgjlilcljefbfaa
