/- Contracts of Write, Clean, Begin, Commit and End. -/
import Derived.Test.YtipjbgkfhkidkaaPtrD
namespace Go.Proofs.Ytipjbgkfhkidkaa
open Go.RowKit

set_option maxRecDepth 100000

theorem cutI_in {x : Int} (h1 : 0 ≤ x) (h2 : x ≤ 65535) : cutI x = x := by unfold cutI; rw [if_neg (by omega), if_pos h2]
theorem right_plain {x : Int} (h1 : 0 ≤ x) (h2 : x ≤ 65535) : rightW x x 0 0 = true := by rw [rightW_eq]; exact decide_eq_true (by omega)

section
variable {w : World} {p g n cap k m t pb xb : Nat} {c f : Nat → Int} {o x th0 tg0 th tg V T y : Int} {S : Nat}

set_option maxHeartbeats 1000000 in
theorem change_clean (A : Ar w p g n cap c f) (hk : k < n) (hI : IsW (f k) o x th0 tg0) (hv : rightV (f k) = true) (hm : CB c m) (hb : m ≤ 999990) :
    Calls Try.prog 40 #[.iface 28 (pmV p), .int .i64 (k : Int), .func (.func 42) #[] #[]] w fun e w' =>
      e = .returned (.tuple #[]) ∧ Ar w' p g n cap (upd (upd c 0 (c 0 + 1)) 1 (upd c 0 (c 0 + 1) 1 + 1)) (upd f k (bitsW x x 0 0)) ∧ Only p g w w' := by
  have ml := methp_load
  have nl := nilp_load
  have ms := methp_store
  have ns := nilp_store
  obtain ⟨h1, h2, h3, h4, h5, h6, h7, h8⟩ := right_bd hI.right
  have hr := right_plain h3 h4
  have HC := Lib.hid (cutI_in h3 h4)
  obtain ⟨bd0, bd1, _⟩ := bitsW_parts hr
  have HA := Lib.hid A
  have HM := Lib.hid hm
  have HI := Lib.hid hI
  have HV := Lib.hid hv
  have HR := Lib.hid hr
  clear A hm hI hv hr h1 h2 h5 h6 h7 h8
  go_enter Try.func40, Try.ntmps40
  go_wp2_with fail
  refine (pm_load HA.out hk HM.out (by omega)).mono ?_; rintro e w1 ⟨rfl, A1, O1⟩
  have HA1 := Lib.hid A1
  have HO1 := Lib.hid O1
  clear A1 O1
  go_wp2_with fail
  refine (unpack_is HI.out HV.out).mono ?_; rintro e w2 ⟨rfl, hb2⟩
  have HA2 := Lib.hid (HA1.out.below hb2 (Nat.le_refl _))
  have HO2 := Lib.hid (HO1.out.trans (Only.of_below hb2))
  clear hb2
  go_wp2_with fail
  refine (cleanC (o := o) (x := x) (th0 := th0) (tg0 := tg0)).mono ?_; rintro e w3 ⟨rfl, hb3⟩; rw [HC.out]
  have HA3 := Lib.hid ((HA2.out.alloc _).below hb3 (Nat.le_refl _))
  have HO3 := Lib.hid ((HO2.out.alloc _).trans (Only.of_below hb3))
  clear hb3
  go_wp2_with fail
  refine (pack_w _ _ _ _ _ HR.out).mono ?_; rintro e w4 ⟨rfl, hb4⟩
  have HA4 := Lib.hid (HA3.out.below hb4 (Nat.le_refl _))
  have HO4 := Lib.hid (HO3.out.trans (Only.of_below hb4))
  clear hb4
  go_wp2_with fail
  refine (pm_store HA4.out hk bd0 bd1 (HM.out.upd 0) (by omega)).mono ?_; rintro e w5 ⟨rfl, A5, O5⟩
  go_wp2_with fail
  go_end0
  exact ⟨rfl, A5, HO4.out.trans O5⟩

/-- Where there is no word nothing is stored. -/
theorem change_no (A : Ar w p g n cap c f) (hk : k < n) (hv : rightV (f k) = false) (F : FuncId) (cs : Array Value) (hm : CB c m) (hb : m ≤ 999990) :
    Calls Try.prog 40 #[.iface 28 (pmV p), .int .i64 (k : Int), .func (.func F) #[] cs] w fun e w' =>
      e = .returned (.tuple #[]) ∧ Ar w' p g n cap (upd c 0 (c 0 + 1)) f ∧ Only p g w w' := by
  have ml := methp_load
  have nl := nilp_load
  have ft := A.fit k hk
  have HA := Lib.hid A
  have HM := Lib.hid hm
  have HV := Lib.hid hv
  clear A hm hv
  go_enter Try.func40, Try.ntmps40
  go_wp2_with fail
  refine (pm_load HA.out hk HM.out (by omega)).mono ?_; rintro e w1 ⟨rfl, A1, O1⟩
  have HA1 := Lib.hid A1
  have HO1 := Lib.hid O1
  clear A1 O1
  go_wp2_with fail
  refine (unpack_no _ _ ft.1 ft.2 HV.out).mono ?_; rintro e w2 ⟨rfl, hb2⟩
  have HA2 := Lib.hid (HA1.out.below hb2 (Nat.le_refl _))
  have HO2 := Lib.hid (HO1.out.trans (Only.of_below hb2))
  clear hb2
  go_wp2_with fail
  exact bodyPost_ret (v := .tuple #[]) (by simp [results, Try.results40, go_sem]) rfl ⟨rfl, HA2.out.alloc _, HO2.out.alloc _⟩

theorem write_yes (A : Ar w p g n cap c f) (hk : k < n) (hI : IsW (f k) o x th0 tg0) (hv : rightV (f k) = true) (hr : rightW (wrO o x th0 tg0 th tg) y th tg = true) (hm : CB c m) (hb : m ≤ 999990) :
    Calls Try.prog 15 #[vP th tg, .iface 28 (pmV p), .int .i64 (k : Int), .int .i64 y] w fun e w' =>
      e = .returned (.tuple #[]) ∧ Ar w' p g n cap (upd (upd c 0 (c 0 + 1)) 1 (upd c 0 (c 0 + 1) 1 + 1)) (upd f k (bitsW (wrO o x th0 tg0 th tg) y th tg)) ∧ Only p g w w' := by
  have HA := Lib.hid A
  have HM := Lib.hid hm
  have HI := Lib.hid hI
  have HV := Lib.hid hv
  have HR := Lib.hid hr
  clear A hm hI hv hr
  go_enter Try.func15, Try.ntmps15
  go_wp2_with fail
  refine (change_write ((Blk.new w 41 #[.int .i64 th, .int .i64 tg]).alloc _) (new_next w _ _ _ _) ((HA.out.alloc _).alloc _) hk HI.out HV.out HR.out HM.out hb).mono ?_; rintro e w1 ⟨rfl, A1, O1⟩
  go_wp2_with fail
  go_end0
  exact ⟨rfl, A1, (((Only.refl p g w).alloc _).alloc _).trans O1⟩

theorem write_no (A : Ar w p g n cap c f) (hk : k < n) (hv : rightV (f k) = false) (hm : CB c m) (hb : m ≤ 999990) :
    Calls Try.prog 15 #[vP th tg, .iface 28 (pmV p), .int .i64 (k : Int), .int .i64 y] w fun e w' =>
      e = .returned (.tuple #[]) ∧ Ar w' p g n cap (upd c 0 (c 0 + 1)) f ∧ Only p g w w' := by
  have HA := Lib.hid A
  have HM := Lib.hid hm
  have HV := Lib.hid hv
  clear A hm hv
  go_enter Try.func15, Try.ntmps15
  go_wp2_with fail
  refine (change_no ((HA.out.alloc _).alloc _) hk HV.out _ _ HM.out hb).mono ?_; rintro e w1 ⟨rfl, A1, O1⟩
  go_wp2_with fail
  go_end0
  exact ⟨rfl, A1, (((Only.refl p g w).alloc _).alloc _).trans O1⟩

theorem clean_yes (A : Ar w p g n cap c f) (hk : k < n) (hI : IsW (f k) o x th0 tg0) (hv : rightV (f k) = true) (hm : CB c m) (hb : m ≤ 999990) :
    Calls Try.prog 17 #[vP th tg, .iface 28 (pmV p), .int .i64 (k : Int)] w fun e w' =>
      e = .returned (.tuple #[]) ∧ Ar w' p g n cap (upd (upd c 0 (c 0 + 1)) 1 (upd c 0 (c 0 + 1) 1 + 1)) (upd f k (bitsW x x 0 0)) ∧ Only p g w w' := by
  have HA := Lib.hid A
  have HM := Lib.hid hm
  have HI := Lib.hid hI
  have HV := Lib.hid hv
  clear A hm hI hv
  go_enter Try.func17, Try.ntmps17
  go_wp2_with fail
  refine (change_clean (HA.out.alloc _) hk HI.out HV.out HM.out hb).mono ?_; rintro e w1 ⟨rfl, A1, O1⟩
  go_wp2_with fail
  go_end0
  exact ⟨rfl, A1, ((Only.refl p g w).alloc _).trans O1⟩

set_option maxHeartbeats 1000000 in
theorem turn_any (hR : Rt V S T) (hth : th = (t : Int) + 1) (htT : th ≤ T) (d : Bool) (A : Ar w p g n cap c f) (hk : t < n) (g0 : 0 ≤ tg) (g1 : tg ≤ 16777215) (hm : CB c m) (hb : m ≤ 999990) :
    Calls Try.prog 39 #[vP th y, .iface 28 (pmV p), vL V S T, .int .i64 tg, .bool d] w fun e w' =>
      e = .returned (.tuple #[]) ∧ Ar w' p g n cap (upd c 1 (c 1 + 1)) (upd f t (stateV tg d)) ∧ Only p g w w' := by
  have ms := methp_store
  have ns := nilp_store
  have t8 := hR.t2
  have e1 : stateF T th = (t : Int) := by unfold stateF; rw [if_pos (by omega)]; omega
  have v0 : 0 ≤ stateV tg d := by unfold stateV; cases d <;> simp <;> omega
  have v1 : stateV tg d ≤ 18446744073709551615 := by unfold stateV; cases d <;> simp <;> omega
  have HE := Lib.hid e1
  have HR := Lib.hid hR
  have HA := Lib.hid A
  have HM := Lib.hid hm
  have HT := Lib.hid hth
  clear A hm hR e1 hth
  go_enter Try.func39, Try.ntmps39
  go_wp2_with fail
  refine (state_yes V S T th (by have := HT.out; omega) (by omega) HR.out _).mono ?_; rintro e w1 ⟨rfl, hb1⟩; rw [HE.out]
  have B0 : Below w.heap.size w w1 := keepL (((Below.refl _ _).alloc (Nat.le_refl _) _).alloc (by simp) _) hb1
  have HA1 := Lib.hid (HA.out.below B0 (Nat.le_refl _))
  have HO1 := Lib.hid (Only.of_below (p := p) (g := g) B0)
  clear B0 hb1
  go_wp2_with fail
  refine (wstate_yes tg d _ g0 g1).mono ?_; rintro e w2 ⟨rfl, rfl⟩
  go_wp2_with fail
  refine (pm_store HA1.out hk v0 v1 HM.out (by omega)).mono ?_; rintro e w5 ⟨rfl, A5, O5⟩
  go_wp2_with fail
  go_end0
  exact ⟨rfl, A5, HO1.out.trans O5⟩
end
end Go.Proofs.Ytipjbgkfhkidkaa
