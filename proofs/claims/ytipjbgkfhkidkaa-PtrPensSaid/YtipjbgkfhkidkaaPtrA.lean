/- Pointer cells: what their bits tell; contracts of read and New. -/
import Derived.Test.YtipjbgkfhkidkaaWordG
import Derived.Test.YtipjbgkfhkidkaaPm
namespace Go.Proofs.Ytipjbgkfhkidkaa
open Go.RowKit

set_option maxRecDepth 100000

/-- What bits tell: a word's parts, or those of the plain word of 0. -/
def rO (v : Int) : Int := if rightV v then v / 65536 % 65536 else 0
def rN (v : Int) : Int := if rightV v then v % 65536 else 0
def rT (v : Int) : Int := if rightV v then v / 4294967296 % 256 else 0
def rG (v : Int) : Int := if rightV v then v / 1099511627776 else 0
structure IsW (v o n th tg : Int) : Prop where
  o : rO v = o
  n : rN v = n
  th : rT v = th
  tg : rG v = tg
theorem isW_any (v : Int) : IsW v (rO v) (rN v) (rT v) (rG v) := ⟨rfl, rfl, rfl, rfl⟩
theorem IsW.right {v o n th tg : Int} (h : IsW v o n th tg) : rightW o n th tg = true := by
  obtain ⟨rfl, rfl, rfl, rfl⟩ := h
  unfold rO rN rT rG
  cases hv : rightV v
  · rfl
  · exact hv
theorem isW_bits {o n th tg : Int} (h : rightW o n th tg = true) : IsW (bitsW o n th tg) o n th tg ∧ rightV (bitsW o n th tg) = true := by
  obtain ⟨_, _, h3, h4, h5, h6⟩ := bitsW_parts h
  have hv : rightV (bitsW o n th tg) = true := by unfold rightV; rw [h3, h4, h5, h6]; exact h
  exact ⟨⟨by simp only [rO, hv, if_true, h3], by simp only [rN, hv, if_true, h4], by simp only [rT, hv, if_true, h5], by simp only [rG, hv, if_true, h6]⟩, hv⟩
theorem IsW.bits {v o n th tg : Int} (h : IsW v o n th tg) (hv : rightV v = true) : v = bitsW o n th tg := by
  obtain ⟨rfl, rfl, rfl, rfl⟩ := h
  simp only [rO, rN, rT, rG, hv, if_true]
  exact (bitsW_of v).symm
theorem isW_bad {v : Int} (hv : rightV v = false) : IsW v 0 0 0 0 := ⟨by simp [rO, hv], by simp [rN, hv], by simp [rT, hv], by simp [rG, hv]⟩

section
variable {w : World} {p g n cap k m : Nat} {c f : Nat → Int} {o x th tg : Int}

set_option maxHeartbeats 1000000 in
theorem read_any (A : Ar w p g n cap c f) (hk : k < n) (hI : IsW (f k) o x th tg) (hm : CB c m) (hb : m ≤ 1000000) :
    Calls Try.prog 44 #[.iface 28 (pmV p), .int .i64 (k : Int)] w fun e w' => e = .returned (vW o x th tg) ∧ Ar w' p g n cap (upd c 0 (c 0 + 1)) f ∧ Only p g w w' := by
  obtain ⟨rfl, rfl, rfl, rfl⟩ := hI
  have ml := methp_load
  have nl := nilp_load
  have ft := A.fit k hk
  have HA := Lib.hid A
  have HM := Lib.hid hm
  clear A hm
  cases hv : rightV (f k)
  · have hI := Lib.hid (isW_bad hv)
    have HV := Lib.hid hv
    rw [hI.out.o, hI.out.n, hI.out.th, hI.out.tg]
    clear hv
    go_enter Try.func44, Try.ntmps44
    go_wp2_with fail
    refine (pm_load (HA.out.alloc _) hk HM.out hb).mono ?_; rintro e w1 ⟨rfl, A1, O1⟩
    have HA1 := Lib.hid A1
    have HO1 := Lib.hid (((Only.refl p g w).alloc (.cells #[.int .i64 0, .int .i64 0, .int .i64 0, .int .i64 0] 94)).trans O1)
    have hc0 := only_new (w := w) (cs := #[.int .i64 0, .int .i64 0, .int .i64 0, .int .i64 0]) (t := 94) HA.out O1
    clear A1 O1
    go_wp2_with fail
    refine (unpack_no _ _ ft.1 ft.2 HV.out).mono ?_; rintro e w2 ⟨rfl, hb2⟩
    have hc2 : Blk w2 w.heap.size 94 #[.int .i64 0, .int .i64 0, .int .i64 0, .int .i64 0] := hc0.below hb2 hc0.lt
    have HA2 := Lib.hid (HA1.out.below hb2 (Nat.le_refl _))
    have HO2 := Lib.hid (HO1.out.trans (Only.of_below hb2))
    have hl2 := hc2.lt
    have d0 := hc2.cell 0
    have d1 := hc2.cell 1
    have d2 := hc2.cell 2
    have d3 := hc2.cell 3
    have g0 := hc2.frozen 0
    have g1 := hc2.frozen 1
    have g2 := hc2.frozen 2
    have g3 := hc2.frozen 3
    have HC := Lib.hid hc2
    have HP := Lib.hid (And.intro HA.out.p_lt HA.out.g_lt)
    clear hc0 hb2 hc2
    go_wp2_with fail
    have hq1 : w.heap.size ≠ p := by have := HP.out.1; omega
    have hq2 : w.heap.size ≠ g := by have := HP.out.2; omega
    obtain ⟨b0, b1, b2, b3⟩ := ((HC.out.four (.int .i64 0) (.int .i64 0) (.int .i64 0) (.int .i64 0)).alloc (.cells #[.int .i64 0, .int .i64 0, .int .i64 0, .int .i64 0] 94)).cells4
    exact bodyPost_ret (v := vW 0 0 0 0) (by simp [results, Try.results44, go_sem, b0, b1, b2, b3]) rfl ⟨rfl, ((((HA2.out.q_far hq1 hq2 _).q_far hq1 hq2 _).q_far hq1 hq2 _).q_far hq1 hq2 _).alloc _, ((((HO2.out.set_new (Nat.le_refl _) _).set_new (Nat.le_refl _) _).set_new (Nat.le_refl _) _).set_new (Nat.le_refl _) _).alloc _⟩
  · have HV := Lib.hid hv
    have e1 : rO (f k) = f k / 65536 % 65536 := by simp [rO, hv]
    have e2 : rN (f k) = f k % 65536 := by simp [rN, hv]
    have e3 : rT (f k) = f k / 4294967296 % 256 := by simp [rT, hv]
    have e4 : rG (f k) = f k / 1099511627776 := by simp [rG, hv]
    rw [e1, e2, e3, e4]
    clear hv e1 e2 e3 e4
    go_enter Try.func44, Try.ntmps44
    go_wp2_with fail
    refine (pm_load (HA.out.alloc _) hk HM.out hb).mono ?_; rintro e w1 ⟨rfl, A1, O1⟩
    have HA1 := Lib.hid A1
    have HO1 := Lib.hid (((Only.refl p g w).alloc (.cells #[.int .i64 0, .int .i64 0, .int .i64 0, .int .i64 0] 94)).trans O1)
    have hc0 := only_new (w := w) (cs := #[.int .i64 0, .int .i64 0, .int .i64 0, .int .i64 0]) (t := 94) HA.out O1
    clear A1 O1
    go_wp2_with fail
    refine (unpack_yes _ _ ft.1 ft.2 HV.out).mono ?_; rintro e w2 ⟨rfl, hb2⟩
    have hc2 : Blk w2 w.heap.size 94 #[.int .i64 0, .int .i64 0, .int .i64 0, .int .i64 0] := hc0.below hb2 hc0.lt
    have HA2 := Lib.hid (HA1.out.below hb2 (Nat.le_refl _))
    have HO2 := Lib.hid (HO1.out.trans (Only.of_below hb2))
    have hl2 := hc2.lt
    have d0 := hc2.cell 0
    have d1 := hc2.cell 1
    have d2 := hc2.cell 2
    have d3 := hc2.cell 3
    have g0 := hc2.frozen 0
    have g1 := hc2.frozen 1
    have g2 := hc2.frozen 2
    have g3 := hc2.frozen 3
    have HC := Lib.hid hc2
    have HP := Lib.hid (And.intro HA.out.p_lt HA.out.g_lt)
    clear hc0 hb2 hc2
    go_wp2_with fail
    have hq1 : w.heap.size ≠ p := by have := HP.out.1; omega
    have hq2 : w.heap.size ≠ g := by have := HP.out.2; omega
    obtain ⟨b0, b1, b2, b3⟩ := ((HC.out.four (.int .i64 (f k / 65536 % 65536)) (.int .i64 (f k % 65536)) (.int .i64 (f k / 4294967296 % 256)) (.int .i64 (f k / 1099511627776))).alloc (.cells #[.int .i64 (f k / 65536 % 65536), .int .i64 (f k % 65536), .int .i64 (f k / 4294967296 % 256), .int .i64 (f k / 1099511627776)] 94)).cells4
    exact bodyPost_ret (v := vW (f k / 65536 % 65536) (f k % 65536) (f k / 4294967296 % 256) (f k / 1099511627776)) (by simp [results, Try.results44, go_sem, b0, b1, b2, b3]) rfl ⟨rfl, ((((HA2.out.q_far hq1 hq2 _).q_far hq1 hq2 _).q_far hq1 hq2 _).q_far hq1 hq2 _).alloc _, ((((HO2.out.set_new (Nat.le_refl _) _).set_new (Nat.le_refl _) _).set_new (Nat.le_refl _) _).set_new (Nat.le_refl _) _).alloc _⟩
end
end Go.Proofs.Ytipjbgkfhkidkaa
