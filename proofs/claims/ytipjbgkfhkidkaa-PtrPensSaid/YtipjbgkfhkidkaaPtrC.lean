/- Contracts of Means. -/
import Derived.Test.YtipjbgkfhkidkaaPtrB
namespace Go.Proofs.Ytipjbgkfhkidkaa
open Go.RowKit

set_option maxRecDepth 100000

section
variable {w : World} {p g n cap k m t : Nat} {c f : Nat → Int} {o x th tg V T : Int} {S : Nat}

set_option maxHeartbeats 1000000 in
theorem Means_plain (A : Ar w p g n cap c f) (hk : k < n) (hI : IsW (f k) o x 0 tg) (hm : CB c m) (hb : m ≤ 1000000) :
    Calls Try.prog 19 #[.iface 28 (pmV p), vL V S T, .int .i64 (k : Int)] w fun e w' => e = .returned (.int .i64 x) ∧ Ar w' p g n cap (upd c 0 (c 0 + 1)) f ∧ Only p g w w' := by
  have HW := Lib.hid hI.right
  have HA := Lib.hid A
  have HM := Lib.hid hm
  have HI := Lib.hid hI
  clear A hm hI
  go_enter Try.func19, Try.ntmps19
  go_wp2_with fail
  refine (read_any (HA.out.alloc _) hk HI.out HM.out hb).mono ?_; rintro e w1 ⟨rfl, A1, O1⟩
  have HA1 := Lib.hid A1
  have HO1 := Lib.hid (((Only.refl p g w).alloc _).trans O1)
  clear A1 O1
  go_wp2_with fail
  refine (plain_any o x 0 tg _).mono ?_; rintro e w2 ⟨rfl, hb2⟩
  have B1 : Blk w2 w1.heap.size 94 #[.int .i64 o, .int .i64 x, .int .i64 0, .int .i64 tg] := (Blk.new w1 _ _).below hb2 (by simp)
  obtain ⟨d0, d1, d2, d3⟩ := B1.cells4
  have hl1 := B1.lt
  have HA2 := Lib.hid ((HA1.out.alloc _).below hb2 (Nat.le_refl _))
  have HO2 := Lib.hid ((HO1.out.alloc _).trans (Only.of_below hb2))
  have hpl : (rightW o x 0 tg && (0 : Int) == 0) = true := by rw [HW.out]; rfl
  rw [hpl]
  clear B1 hb2 hpl
  go_wp2_with fail
  go_ret
  exact ⟨rfl, HA2.out, HO2.out⟩

set_option maxHeartbeats 1000000 in
theorem Means_word (hR : Rt V S T) (hth : th = (t : Int) + 1) (htT : th ≤ T) (A : Ar w p g n cap c f) (hk : k < n) (ht : t < n) (hI : IsW (f k) o x th tg) (hm : CB c m) (hb : m ≤ 999990) :
    Calls Try.prog 19 #[.iface 28 (pmV p), vL V S T, .int .i64 (k : Int)] w fun e w' => e = .returned (.int .i64 (mnS o x th tg (f t))) ∧ Ar w' p g n cap (upd (upd c 0 (c 0 + 1)) 0 (upd c 0 (c 0 + 1) 0 + 1)) f ∧ Only p g w w' := by
  have HR := Lib.hid hR
  have HW := Lib.hid hI.right
  have HA := Lib.hid A
  have HM := Lib.hid hm
  have HI := Lib.hid hI
  have HT := Lib.hid hth
  have hp := Lib.hid (And.intro A.p_lt A.g_lt)
  have hpl : (rightW o x th tg && th == 0) = false := by
    have : (th == 0) = false := by rw [beq_eq_false_iff_ne]; omega
    rw [this, Bool.and_false]
  have HPL := Lib.hid hpl
  clear A hm hI hR hpl hth
  go_enter Try.func19, Try.ntmps19
  go_wp2_with fail
  refine (read_any (HA.out.alloc _) hk HI.out HM.out (by omega)).mono ?_; rintro e w1 ⟨rfl, A1, O1⟩
  have HL1 := Lib.hid (only_new HA.out O1)
  have HA1 := Lib.hid A1
  have HO1 := Lib.hid (((Only.refl p g w).alloc _).trans O1)
  clear A1 O1
  go_wp2_with fail
  refine (plain_any o x th tg _).mono ?_; rintro e w2 ⟨rfl, hb2⟩
  have B1 : Blk w2 w1.heap.size 94 #[.int .i64 o, .int .i64 x, .int .i64 th, .int .i64 tg] := (Blk.new w1 _ _).below hb2 (by simp)
  obtain ⟨d0, d1, d2, d3⟩ := B1.cells4
  have hl1 := B1.lt
  have L1 : Blk w2 w.heap.size 31 #[.int .i64 V, .int .i64 S, .int .i64 T] := (HL1.out.alloc _).below hb2 (HL1.out.alloc _).lt
  have y0 := L1.cell 0
  have y1 := L1.cell 1
  have y2 := L1.cell 2
  have hl2 := L1.lt
  have HA2 := Lib.hid ((HA1.out.alloc _).below hb2 (Nat.le_refl _))
  have HO2 := Lib.hid ((HO1.out.alloc _).trans (Only.of_below hb2))
  rw [HPL.out]
  clear B1 hb2 L1
  go_wp2_with fail
  refine (meaning_any HR.out HW.out HT.out htT HA2.out ht (HM.out.upd 0) (by omega)).mono ?_; rintro e w3 ⟨rfl, A3, O3⟩
  go_wp2_with fail
  go_ret
  exact ⟨rfl, A3, HO2.out.trans O3⟩
end

/-- What the cells' bits mean, by the states that stand at the cells from 0 on. -/
def mnF (f : Nat → Int) (v : Int) : Int := if rT v = 0 then rN v else mnS (rO v) (rN v) (rT v) (rG v) (f (rT v - 1).toNat)

section
variable {w : World} {p g n cap k m : Nat} {c f : Nat → Int} {V : Int} {S : Nat}
/-- What Means leaves. -/
def Meant (x : Int) (p g n cap : Nat) (c f : Nat → Int) (m : Nat) (w : World) (e : Ending) (w' : World) : Prop :=
  e = .returned (.int .i64 x) ∧ ∃ c', Ar w' p g n cap c' f ∧ CB c' (m + 2) ∧ c' 1 = c 1 ∧ Only p g w w'
theorem Means_any (hR : Rt V S 8) (A : Ar w p g n cap c f) (hk : k < n) (hn : 8 ≤ n) (hm : CB c m) (hb : m ≤ 999990) :
    Calls Try.prog 19 #[.iface 28 (pmV p), vL V S 8, .int .i64 (k : Int)] w (Meant (mnF f (f k)) p g n cap c f m w) := by
  have hI := isW_any (f k)
  obtain ⟨h1, h2, h3, h4, h5, h6, h7, h8⟩ := right_bd hI.right
  by_cases h0 : rT (f k) = 0
  · have e : mnF f (f k) = rN (f k) := if_pos h0
    rw [e]
    rw [h0] at hI
    refine (Means_plain A hk hI hm (by omega)).mono ?_
    rintro e w' ⟨rfl, A', O'⟩
    exact ⟨rfl, _, A', (hm.upd 0).more (by omega), upd_other _ _ (by omega), O'⟩
  · have e : mnF f (f k) = mnS (rO (f k)) (rN (f k)) (rT (f k)) (rG (f k)) (f (rT (f k) - 1).toNat) := if_neg h0
    rw [e]
    refine (Means_word (t := (rT (f k) - 1).toNat) hR (by omega) (by omega) A hk (by omega) hI hm hb).mono ?_
    rintro e w' ⟨rfl, A', O'⟩
    exact ⟨rfl, _, A', ((hm.upd 0).upd 0), by rw [upd_other _ _ (by omega), upd_other _ _ (by omega)], O'⟩
end
end Go.Proofs.Ytipjbgkfhkidkaa
