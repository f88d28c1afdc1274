/- Walks of ScanClasses, ScanCounts and ScanTells. -/
import Derived.Test.YtboagdmjibdlhaaDoorScanL
namespace Go.Proofs.YtboagdmjibdlhaaDoor
set_option maxRecDepth 100000
open Go.RowKit

theorem scanClasses_walk (c : Int) (h0 : -2147483648 ≤ c) (h1 : c ≤ 2147483647) (w : World) :
    Calls Tryd.prog 5 #[.int .i32 c] w fun e w' => e = .returned (.bool true) ∧ Below w.heap.size w w' := by
  have HA := Lib.hid lawake_any
  by_cases hn : c < 0
  · go_enter Tryd.func5, Tryd.ntmps5
    go_wp2_with fail
    refine (HA.out _).mono ?_; rintro e w1 ⟨rfl, b1⟩
    go_wp2_with fail
    go_ret
    exact ⟨rfl, b1⟩
  · have n0 : decide (c < 0) = false := decide_eq_false hn
    by_cases hm : 1114111 < c
    · go_enter Tryd.func5, Tryd.ntmps5
      go_wp2_with fail
      refine (HA.out _).mono ?_; rintro e w1 ⟨rfl, b1⟩
      go_wp2_with fail
      go_ret
      exact ⟨rfl, b1⟩
    · have n1 : decide (1114111 < c) = false := decide_eq_false hm
      obtain ⟨u, rfl⟩ := Int.eq_ofNat_of_zero_le (show 0 ≤ c by omega)
      have H1 := Lib.hid (class_any u (by omega))
      have H2 := Lib.hid (refclass_any u (by omega))
      clear hn hm
      generalize cls u = k at *
      go_enter Tryd.func5, Tryd.ntmps5
      go_wp2_with fail
      refine (H1.out _).mono ?_; rintro e w1 ⟨rfl, rfl⟩
      go_wp2_with fail
      refine (H2.out _).mono ?_; rintro e w1 ⟨rfl, rfl⟩
      go_wp2_with fail
      refine (HA.out _).mono ?_; rintro e w1 ⟨rfl, b1⟩
      go_wp2_with fail
      go_ret
      exact ⟨rfl, b1⟩

theorem scanCounts_walk (s : ByteArray) (w : World) :
    Calls Tryd.prog 6 #[.string s] w fun e w' => e = .returned (.bool true) ∧ Below w.heap.size w w' := by
  have HA := Lib.hid lawake_any
  by_cases hl : 300 < s.size
  · go_enter Tryd.func6, Tryd.ntmps6
    go_wp2_with fail
    refine (HA.out _).mono ?_; rintro e w1 ⟨rfl, b1⟩
    go_wp2_with fail
    go_ret
    exact ⟨rfl, b1⟩
  · have H1 := Lib.hid (fun w => count_any s w (by omega))
    have H2 := Lib.hid (fun w => refcount_any s w (by omega))
    have H3 := Lib.hid (fun w => scan_any s w (by omega))
    obtain ⟨r1, r2⟩ := res_cnt (bl s)
    have hs : (s.size : Int) ≤ 300 := by omega
    generalize hC : cnt (bl s) = C at *
    generalize hR : res (bl s) = R at *
    clear hC hR hl
    obtain ⟨n, k⟩ := C
    obtain ⟨t, p, e⟩ := R
    simp only [Told] at r1 r2 H1 H2 H3
    by_cases hk : k = 0
    · subst hk
      have e40 : ((e : Int) != 40) = true := by
        rw [bne_iff_ne]; intro h; exact r2 (by omega) rfl
      clear r1 r2
      go_enter Tryd.func6, Tryd.ntmps6
      go_wp2_with fail
      refine (H1.out _).mono ?_; rintro e w1 ⟨rfl, b1⟩
      have B1 := Lib.hid b1; clear b1
      go_wp2_with fail
      refine (H2.out _).mono ?_; rintro e w2 ⟨rfl, b2⟩
      have B2 := Lib.hid (keepB B1.out b2); clear B1 b2
      go_wp2_with fail
      refine (H3.out _).mono ?_; rintro e w3 ⟨a, c, rfl, _, b3⟩
      have B3 := Lib.hid (keepB B2.out b3); clear B2 b3
      go_wp2_with fail
      refine (HA.out _).mono ?_; rintro e w4 ⟨rfl, b4⟩
      have B4 := Lib.hid (keepB B3.out b4); clear B3 b4
      go_wp2_with fail
      go_ret
      exact ⟨rfl, B4.out⟩
    · have k0 : ((k : Int) == 0) = false := beq_eq_false_iff_ne.2 (by omega)
      have k1 : ((k : Int) != 0) = true := by rw [bne_iff_ne]; omega
      have e0 : ((e : Int) != 0) = true := by
        rw [bne_iff_ne]; intro h; exact hk (r1 (by omega))
      clear r1 r2 hk
      go_enter Tryd.func6, Tryd.ntmps6
      go_wp2_with fail
      refine (H1.out _).mono ?_; rintro e w1 ⟨rfl, b1⟩
      have B1 := Lib.hid b1; clear b1
      go_wp2_with fail
      refine (H2.out _).mono ?_; rintro e w2 ⟨rfl, b2⟩
      have B2 := Lib.hid (keepB B1.out b2); clear B1 b2
      go_wp2_with fail
      refine (H3.out _).mono ?_; rintro e w3 ⟨a, c, rfl, _, b3⟩
      have B3 := Lib.hid (keepB B2.out b3); clear B2 b3
      go_wp2_with fail
      refine (HA.out _).mono ?_; rintro e w4 ⟨rfl, b4⟩
      have B4 := Lib.hid (keepB B3.out b4); clear B3 b4
      go_wp2_with fail
      go_ret
      exact ⟨rfl, B4.out⟩

theorem scanTells_walk (s : ByteArray) (w : World) :
    Calls Tryd.prog 4 #[.string s] w fun e w' => e = .returned (.bool true) ∧ Below w.heap.size w w' := by
  have HA := Lib.hid lawake_any
  by_cases hl : 300 < s.size
  · go_enter Tryd.func4, Tryd.ntmps4
    go_wp2_with fail
    refine (HA.out _).mono ?_; rintro e w1 ⟨rfl, b1⟩
    go_wp2_with fail
    go_ret
    exact ⟨rfl, b1⟩
  · have H1 := Lib.hid (fun w => scan_any s w (by omega))
    have H2 := Lib.hid (fun w => refscan_any s w (by omega))
    have hc := res_count_le s
    have HO := Lib.hid (res_tok (bl s))
    have hs : (s.size : Int) ≤ 300 := by omega
    generalize hR : res (bl s) = R at *
    clear hR
    obtain ⟨t, p, e⟩ := R
    simp only [Told, ToldT] at H1 H2 hc HO
    go_enter Tryd.func4, Tryd.ntmps4
    go_wp2_with fail
    refine (H1.out _).mono ?_; rintro e w1 ⟨a, c, rfl, o1, b1⟩
    have B1 := Lib.hid b1; have L1 := Lib.hid (lies_ownA o1); clear b1 o1
    go_wp2_with fail
    refine (H2.out _).mono ?_; rintro e w2 ⟨a2, c2, rfl, o2, b2⟩
    have B2 := Lib.hid (keepB B1.out b2); have L2 := Lib.hid (L1.out.keep (Keeps.below b2)); have T2 := Lib.hid (lies_ownT o2)
    clear B1 L1 b2 o2
    go_wp2_with fail
    refine (same_tokens a a2 c c2 t w2 L2.out T2.out (by omega) HO.out).mono ?_; rintro e w3 ⟨rfl, b3⟩
    have B3 := Lib.hid (keepB B2.out b3); clear B2 L2 T2 b3
    go_wp2_with fail
    refine (HA.out _).mono ?_; rintro e w4 ⟨rfl, b4⟩
    have B4 := Lib.hid (keepB B3.out b4); clear B3 b4
    go_wp2_with fail
    go_ret
    exact ⟨rfl, B4.out⟩
end Go.Proofs.YtboagdmjibdlhaaDoor
