/- Contracts of New, of what a word means, and of Means. -/
import Derived.Test.YtipjbgkfhkidkaaPtrA
namespace Go.Proofs.Ytipjbgkfhkidkaa
open Go.RowKit

set_option maxRecDepth 100000

/-- The second of two blocks that are new. -/
theorem new_next (w : World) (t1 t2 : TypeId) (c1 c2 : Array Value) : Blk ((w.alloc (.cells c1 t1)).alloc (.cells c2 t2)) (w.heap.size + 1) t2 c2 := by
  have := Blk.new (w.alloc (.cells c1 t1)) t2 c2
  simpa using this

/-- What a word means, by its thread's state's bits. -/
def mnS (o n th tg s : Int) : Int := if s < 33554432 then meansW o n th tg (s / 2) (s % 2 != 0) else 0

section
variable {w : World} {p g n cap k m t : Nat} {c f : Nat → Int} {o x th tg V T : Int} {S : Nat}

theorem new_any (A : Ar w p g n cap c f) (hk : k < n) (hI : IsW (f k) o x th tg) (hm : CB c m) (hb : m ≤ 1000000) :
    Calls Try.prog 20 #[.iface 28 (pmV p), .int .i64 (k : Int)] w fun e w' => e = .returned (.int .i64 x) ∧ Ar w' p g n cap (upd c 0 (c 0 + 1)) f ∧ Only p g w w' := by
  have HA := Lib.hid A
  have HM := Lib.hid hm
  have HI := Lib.hid hI
  clear A hm hI
  have fl : ∀ W, (Instr.field 94 (vW o x th tg) 1).run Try.prog W = .ok (.int .i64 x) W := fun W => by kernel_rfl
  go_enter Try.func20, Try.ntmps20
  go_wp2_with fail
  refine (read_any HA.out hk HI.out HM.out hb).mono ?_; rintro e w1 ⟨rfl, A1, O1⟩
  have HA1 := Lib.hid A1
  have HO1 := Lib.hid O1
  clear A1 O1
  go_wp2_with fail
  go_ret
  exact ⟨rfl, HA1.out, HO1.out⟩

set_option maxHeartbeats 1000000 in
theorem meaning_any (hR : Rt V S T) (hW : rightW o x th tg = true) (hth : th = (t : Int) + 1) (htT : th ≤ T) (A : Ar w p g n cap c f) (hk : t < n) (hm : CB c m) (hb : m ≤ 1000000) :
    Calls Try.prog 46 #[.iface 28 (pmV p), vL V S T, vW o x th tg] w fun e w' => e = .returned (.int .i64 (mnS o x th tg (f t))) ∧ Ar w' p g n cap (upd c 0 (c 0 + 1)) f ∧ Only p g w w' := by
  have ml := methp_load
  have nl := nilp_load
  have ft := A.fit t hk
  obtain ⟨h1, h2, h3, h4, h5, h6, h7, h8⟩ := right_bd hW
  have e1 : stateF T th = (t : Int) := by unfold stateF; rw [if_pos (by omega)]; omega
  have HE := Lib.hid e1
  have HR := Lib.hid hR
  have HA := Lib.hid A
  have HM := Lib.hid hm
  have HT := Lib.hid hth
  have hp := Lib.hid (And.intro A.p_lt A.g_lt)
  clear A hm hR e1 hth hW
  by_cases hs : f t < 33554432
  · have hr : mnS o x th tg (f t) = meansW o x th tg (f t / 2) (f t % 2 != 0) := if_pos hs
    rw [hr]; clear hr
    have HS := Lib.hid hs; clear hs
    go_enter Try.func46, Try.ntmps46
    go_wp2_with fail
    refine (state_yes V S T th (by omega) (by omega) HR.out _).mono ?_; rintro e w1 ⟨rfl, hb1⟩; rw [HE.out]
    have B0 : Below w.heap.size w w1 := keepL (((Below.refl _ _).alloc (Nat.le_refl _) _).alloc (by simp) _) hb1
    have HA1 := Lib.hid (HA.out.below B0 (Nat.le_refl _))
    have HO1 := Lib.hid (Only.of_below (p := p) (g := g) B0)
    have B1 : Blk w1 (w.heap.size + 1) 94 #[.int .i64 o, .int .i64 x, .int .i64 th, .int .i64 tg] := (new_next w _ _ _ _).below hb1 (by simp)
    have hl1 := B1.lt
    have HB1 := Lib.hid B1
    obtain ⟨d0, d1, d2, d3⟩ := B1.cells4
    clear B1 B0 hb1
    go_wp2_with fail
    refine (pm_load HA1.out hk HM.out hb).mono ?_; rintro e w2 ⟨rfl, A2, O2⟩
    have hq1 : w.heap.size + 1 ≠ p := by have := hp.out.1; omega
    have hq2 : w.heap.size + 1 ≠ g := by have := hp.out.2; omega
    have HB2 := Lib.hid (HB1.out.only O2 hq1 hq2)
    have HA2 := Lib.hid A2
    have HO2 := Lib.hid (HO1.out.trans O2)
    clear A2 O2 d0 d1 d2 d3 hl1
    go_wp2_with fail
    refine (tag_yes (f t) _ ft.1 HS.out).mono ?_; rintro e w3 ⟨rfl, rfl⟩
    have hl2 := HB2.out.lt
    obtain ⟨d0, d1, d2, d3⟩ := HB2.out.cells4
    go_wp2_with fail
    refine (means_any o x th tg _ _ _).mono ?_; rintro e w4 ⟨rfl, hb4⟩
    go_wp2_with fail
    go_ret
    exact ⟨rfl, HA2.out.below hb4 (Nat.le_refl _), HO2.out.trans (Only.of_below hb4)⟩
  · have hr : mnS o x th tg (f t) = 0 := if_neg hs
    rw [hr]; clear hr
    have HS := Lib.hid hs; clear hs
    go_enter Try.func46, Try.ntmps46
    go_wp2_with fail
    refine (state_yes V S T th (by omega) (by omega) HR.out _).mono ?_; rintro e w1 ⟨rfl, hb1⟩; rw [HE.out]
    have B0 : Below w.heap.size w w1 := keepL (((Below.refl _ _).alloc (Nat.le_refl _) _).alloc (by simp) _) hb1
    have HA1 := Lib.hid (HA.out.below B0 (Nat.le_refl _))
    have HO1 := Lib.hid (Only.of_below (p := p) (g := g) B0)
    have B1 : Blk w1 (w.heap.size + 1) 94 #[.int .i64 o, .int .i64 x, .int .i64 th, .int .i64 tg] := (new_next w _ _ _ _).below hb1 (by simp)
    have hl1 := B1.lt
    obtain ⟨d0, d1, d2, d3⟩ := B1.cells4
    clear B1 B0 hb1
    go_wp2_with fail
    refine (pm_load HA1.out hk HM.out hb).mono ?_; rintro e w2 ⟨rfl, A2, O2⟩
    have HA2 := Lib.hid A2
    have HO2 := Lib.hid (HO1.out.trans O2)
    clear A2 O2 d0 d1 d2 d3 hl1
    go_wp2_with fail
    refine (tag_no (f t) _ (by have := HS.out; omega) ft.2).mono ?_; rintro e w3 ⟨rfl, rfl⟩
    go_wp2_with fail
    go_ret
    exact ⟨rfl, HA2.out, HO2.out⟩
end
end Go.Proofs.Ytipjbgkfhkidkaa
