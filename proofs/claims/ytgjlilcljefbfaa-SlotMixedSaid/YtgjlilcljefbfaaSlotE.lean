/- Contracts of one step of a take, of a give. Printed by wip/tools/slote.py. -/
import Derived.Test.YtgjlilcljefbfaaSlotD
namespace Go.Proofs.Ytgjlilcljefbfaa
open Go.RowKit

set_option maxRecDepth 100000

section
variable {w : World} {q p g n cap t m : Nat} {V T a h : Int} {S : Nat} {x : Value} {c f : Nat → Int} {v : Int}


theorem take_done (P : Pg w q 77 V S T a h x) :
    Calls Try.prog 22 #[.pointer (some ⟨q, 0, none⟩)] w fun e w' => e = .returned (.bool (a == 3)) ∧ w = w' := by
  have y3 := P.c3
  clear P
  go_enter Try.func22, Try.ntmps22
  go_wp2
  go_ret
  exact ⟨rfl, rfl⟩


theorem give_done (P : Pg w q 71 V S T a h x) :
    Calls Try.prog 23 #[.pointer (some ⟨q, 0, none⟩)] w fun e w' => e = .returned (.bool (a == 3)) ∧ w = w' := by
  have y3 := P.c3
  clear P
  go_enter Try.func23, Try.ntmps23
  go_wp2
  go_ret
  exact ⟨rfl, rfl⟩


set_option maxHeartbeats 1000000 in
theorem take_0 (hR : Rt V S T) (ht : T = (t : Int)) (A : Ar w p g n cap c f) (P : Pg w q 77 V S T 0 h x) (hn : t < n) {k : Nat} (hk : f t % 65536 = k) (h0 : 0 ≤ f t) (h1 : f t < 18446744073709551616) (hkb : lkB S k = true) (hm : CB c m) (hb : m ≤ 1000000) :
    Calls Try.prog 16 #[.pointer (some ⟨q, 0, none⟩), .pointer (some ⟨p, 0, none⟩)] w fun e w' =>
      e = .returned (.bool false) ∧ Ar w' p g n cap (upd c 0 (c 0 + 1)) f ∧ Pg w' q 77 V S T 1 (f t) x ∧ OnlyT q p g none w w' := by
  subst ht
  have q1 := P.ne_p A
  have q2 := P.ne_g A
  have y0 := P.c0
  have y1 := P.c1
  have y2 := P.c2
  have y3 := P.c3
  have y4 := P.c4
  have y5 := P.c5
  have hlt := P.lt
  have HK := Lib.hid hk
  have HKB := Lib.hid hkb
  clear hk hkb
  have HR := Lib.hid hR
  have HA := Lib.hid A
  have HP := Lib.hid P
  have HM := Lib.hid hm
  clear hR A P hm
  go_enter Try.func16, Try.ntmps16
  go_wp2_with fail
  refine (load_pg HR.out rfl HA.out HP.out hn HM.out hb).mono ?_; rintro e w1 ⟨rfl, A1, P1, O1⟩
  clear y0 y1 y2 y3 y4 y5 hlt
  have HA1 := Lib.hid A1
  have HP1 := Lib.hid P1
  have HO1 := Lib.hid O1
  clear A1 P1 O1
  go_wp2_with fail
  refine (first_pg HR.out HK.out h0 h1 HP1.out).mono ?_; rintro e w2 ⟨rfl, hb2⟩
  rw [HKB.out]
  have HA2 := Lib.hid (HA1.out.below hb2 (Nat.le_refl _))
  have HP2 := Lib.hid (HP1.out.below hb2 (Nat.le_refl _))
  have HO2 := Lib.hid (HO1.out.trans (OnlyT.of_only (Only.of_below hb2)))
  clear hb2
  go_wp2_with fail
  refine (take_done HP2.out).mono ?_; rintro e w9 ⟨rfl, rfl⟩
  go_wp2_with fail
  go_ret
  exact ⟨rfl, HA2.out, HP2.out, HO2.out⟩


set_option maxHeartbeats 1000000 in
theorem take_0none (hR : Rt V S T) (ht : T = (t : Int)) (A : Ar w p g n cap c f) (P : Pg w q 77 V S T 0 h x) (hn : t < n) {k : Nat} (hk : f t % 65536 = k) (h0 : 0 ≤ f t) (h1 : f t < 18446744073709551616) (hkb : lkB S k = false) (hm : CB c m) (hb : m ≤ 1000000) :
    Calls Try.prog 16 #[.pointer (some ⟨q, 0, none⟩), .pointer (some ⟨p, 0, none⟩)] w fun e w' =>
      e = .returned (.bool true) ∧ Ar w' p g n cap (upd c 0 (c 0 + 1)) f ∧ Pg w' q 77 V S T 3 (f t) x ∧ OnlyT q p g none w w' := by
  subst ht
  have q1 := P.ne_p A
  have q2 := P.ne_g A
  have y0 := P.c0
  have y1 := P.c1
  have y2 := P.c2
  have y3 := P.c3
  have y4 := P.c4
  have y5 := P.c5
  have hlt := P.lt
  have HK := Lib.hid hk
  have HKB := Lib.hid hkb
  clear hk hkb
  have HR := Lib.hid hR
  have HA := Lib.hid A
  have HP := Lib.hid P
  have HM := Lib.hid hm
  clear hR A P hm
  go_enter Try.func16, Try.ntmps16
  go_wp2_with fail
  refine (load_pg HR.out rfl HA.out HP.out hn HM.out hb).mono ?_; rintro e w1 ⟨rfl, A1, P1, O1⟩
  clear y0 y1 y2 y3 y4 y5 hlt
  have HA1 := Lib.hid A1
  have HP1 := Lib.hid P1
  have HO1 := Lib.hid O1
  clear A1 P1 O1
  go_wp2_with fail
  refine (first_pg HR.out HK.out h0 h1 HP1.out).mono ?_; rintro e w2 ⟨rfl, hb2⟩
  rw [HKB.out]
  have HA2 := Lib.hid (HA1.out.below hb2 (Nat.le_refl _))
  have HP2 := Lib.hid (HP1.out.below hb2 (Nat.le_refl _))
  have HO2 := Lib.hid (HO1.out.trans (OnlyT.of_only (Only.of_below hb2)))
  clear hb2
  have z3 := HP2.out.c3
  have f3 := HP2.out.fz 3
  have hlt2 := HP2.out.lt
  go_wp2_with fail
  refine (take_done (HP2.out.set3 3)).mono ?_; rintro e w9 ⟨rfl, rfl⟩
  go_wp2_with fail
  go_ret
  exact ⟨rfl, HA2.out.q_far q1 q2 _, HP2.out.set3 3, HO2.out.set_t _⟩


set_option maxHeartbeats 1000000 in
theorem take_1 (hR : Rt V S T) (ht : T = (t : Int)) (A : Ar w p g n cap c f) (P : Pg w q 77 V S T 1 h x) {k : Nat} (hk : h % 65536 = k) (h0 : 0 ≤ h) (h1 : h < 18446744073709551616) (k1 : 1 ≤ k) (k2 : k ≤ S) (hn : t + 1 + (k - 1) * 7 < n) (hm : CB c m) (hb : m ≤ 1000000) :
    Calls Try.prog 16 #[.pointer (some ⟨q, 0, none⟩), .pointer (some ⟨p, 0, none⟩)] w fun e w' =>
      e = .returned (.bool false) ∧ Ar w' p g n cap (upd c 0 (c 0 + 1)) f ∧ Pg w' q 77 V S T 2 h (.int .u64 (f (t + 1 + (k - 1) * 7))) ∧ OnlyT q p g none w w' := by
  subst ht
  have q1 := P.ne_p A
  have q2 := P.ne_g A
  have y0 := P.c0
  have y1 := P.c1
  have y2 := P.c2
  have y3 := P.c3
  have y4 := P.c4
  have y5 := P.c5
  have hlt := P.lt
  have f3 := P.fz 3
  have f5 := P.fz 5
  have HK := Lib.hid hk
  have e1 : lkF S (k : Int) = (k : Int) - 1 := if_pos ⟨by omega, by omega⟩
  have e2 : slotF S (t : Int) ((k : Int) - 1) 0 = ((t + 1 + (k - 1) * 7 : Nat) : Int) := by rw [slotF_in (by omega) (by omega) (by omega) (by omega)]; omega
  have HE1 := Lib.hid e1
  have HE2 := Lib.hid e2
  clear e1 e2 hk
  have HR := Lib.hid hR
  have HA := Lib.hid A
  have HP := Lib.hid P
  have HM := Lib.hid hm
  clear hR A P hm
  go_enter Try.func16, Try.ntmps16
  go_wp2_with fail
  refine (first_pg HR.out HK.out h0 h1 HP.out).mono ?_; rintro e w2 ⟨rfl, hb2⟩
  rw [HE1.out]
  have HA2 := Lib.hid (HA.out.below hb2 (Nat.le_refl _))
  have HP2 := Lib.hid (HP.out.below hb2 (Nat.le_refl _))
  have HO2 := Lib.hid (OnlyT.of_only (p := p) (g := g) (t := q) (r := none) (Only.of_below hb2))
  clear hb2 y0 y1 y2 y3 y4 y5 hlt f3 f5 HA HP
  have y0 := HP2.out.c0
  have y1 := HP2.out.c1
  have y2 := HP2.out.c2
  go_wp2_with fail
  refine (nextFree_yes V S t ((k : Int) - 1) HR.out _).mono ?_; rintro e w3 ⟨rfl, hb3⟩
  rw [HE2.out]
  have HA3 := Lib.hid (HA2.out.below hb3 (Nat.le_refl _))
  have HP3 := Lib.hid (HP2.out.below hb3 (Nat.le_refl _))
  have HO3 := Lib.hid (HO2.out.trans (OnlyT.of_only (Only.of_below hb3)))
  clear hb3 y0 y1 y2 HA2 HP2 HO2
  go_wp2_with fail
  refine (load_yes HA3.out hn HM.out hb).mono ?_; rintro e w4 ⟨rfl, A4, O4⟩
  have HP4 := Lib.hid (HP3.out.only HA3.out O4)
  have HO4 := Lib.hid (HO3.out.trans (OnlyT.of_only O4))
  have HA4 := Lib.hid A4
  clear A4 O4 HA3 HP3 HO3
  have z3 := HP4.out.c3
  have z5 := HP4.out.c5
  have f3 := HP4.out.fz 3
  have f5 := HP4.out.fz 5
  have hlt4 := HP4.out.lt
  go_wp2_with fail
  refine (take_done ((HP4.out.set5 _).set3 2)).mono ?_; rintro e w9 ⟨rfl, rfl⟩
  go_wp2_with fail
  go_ret
  exact ⟨rfl, (HA4.out.q_far q1 q2 _).q_far q1 q2 _, (HP4.out.set5 _).set3 2, (HO4.out.set_t _).set_t _⟩


set_option maxHeartbeats 1000000 in
theorem take_2hit (hR : Rt V S T) (ht : T = (t : Int)) (A : Ar w p g n cap c f) (P : Pg w q 77 V S T 2 h (.int .u64 v)) (hn : t < n) (hu : (f t == h) = true) (hv0 : 0 ≤ v) (hv1 : v < 65536) (h0 : 0 ≤ h) (h1 : h < 1000000 * 65536) (hm : CB c m) (hb : m ≤ 1000000) :
    Calls Try.prog 16 #[.pointer (some ⟨q, 0, none⟩), .pointer (some ⟨p, 0, none⟩)] w fun e w' =>
      e = .returned (.bool true) ∧ Ar w' p g n cap (upd c 2 (c 2 + 1)) (upd f t ((h / 65536 + 1) * 65536 + v)) ∧ Pg w' q 77 V S T 3 h (.int .u64 v) ∧ OnlyT q p g none w w' := by
  subst ht
  have q1 := P.ne_p A
  have q2 := P.ne_g A
  have y0 := P.c0
  have y1 := P.c1
  have y2 := P.c2
  have y3 := P.c3
  have y4 := P.c4
  have y5 := P.c5
  have hlt := P.lt
  have HU := Lib.hid hu
  clear hu
  have HO := Lib.hid (OnlyT.refl (t := q) (p := p) (g := g) (r := none) w)
  have HPB := Lib.hid P.drew
  have HR := Lib.hid hR
  have HA := Lib.hid A
  have HP := Lib.hid P
  have HM := Lib.hid hm
  clear hR A P hm
  go_enter Try.func16, Try.ntmps16
  go_wp2_with fail
  go_region_held3 (fun W => W.cell? ⟨q, 5, none⟩ = some (.int .u64 v)) (first | (with_reducible assumption) | (with_reducible exact HPB.out.c5) | (with_reducible exact P2.c5))
    (first
      | (go_at_call 34; ((with_reducible refine (swap_hit_pg HR.out rfl HA.out.drew HPB.out hn HU.out hv0 hv1 h0 h1 HM.out hb).mono ?_); rintro e w2 ⟨rfl, A2, P2, O2⟩)))
  have HA2 := Lib.hid A2
  have HP2 := Lib.hid P2
  have HO2 := Lib.hid (HO.out.drew.trans O2)
  clear A2 P2 O2 y0 y1 y2 y3 y4 y5 hlt
  go_wp2_with fail
  refine (take_done HP2.out).mono ?_; rintro e w9 ⟨rfl, rfl⟩
  go_wp2_with fail
  go_ret
  exact ⟨rfl, HA2.out, HP2.out, HO2.out⟩


set_option maxHeartbeats 1000000 in
theorem take_2miss (hR : Rt V S T) (ht : T = (t : Int)) (A : Ar w p g n cap c f) (P : Pg w q 77 V S T 2 h (.int .u64 v)) (hn : t < n) (hu : (f t == h) = false) (hv0 : 0 ≤ v) (hv1 : v < 65536) (h0 : 0 ≤ h) (h1 : h < 1000000 * 65536) (hm : CB c m) (hb : m ≤ 1000000) :
    Calls Try.prog 16 #[.pointer (some ⟨q, 0, none⟩), .pointer (some ⟨p, 0, none⟩)] w fun e w' =>
      e = .returned (.bool false) ∧ Ar w' p g n cap (upd c 3 (c 3 + 1)) f ∧ Pg w' q 77 V S T 0 h (.int .u64 v) ∧ OnlyT q p g none w w' := by
  subst ht
  have q1 := P.ne_p A
  have q2 := P.ne_g A
  have y0 := P.c0
  have y1 := P.c1
  have y2 := P.c2
  have y3 := P.c3
  have y4 := P.c4
  have y5 := P.c5
  have hlt := P.lt
  have HU := Lib.hid hu
  clear hu
  have HO := Lib.hid (OnlyT.refl (t := q) (p := p) (g := g) (r := none) w)
  have HPB := Lib.hid P.drew
  have HR := Lib.hid hR
  have HA := Lib.hid A
  have HP := Lib.hid P
  have HM := Lib.hid hm
  clear hR A P hm
  go_enter Try.func16, Try.ntmps16
  go_wp2_with fail
  go_region_held3 (fun W => W.cell? ⟨q, 5, none⟩ = some (.int .u64 v)) (first | (with_reducible assumption) | (with_reducible exact HPB.out.c5) | (with_reducible exact P2.c5))
    (first
      | (go_at_call 34; ((with_reducible refine (swap_miss_pg HR.out rfl HA.out.drew HPB.out hn HU.out hv0 hv1 h0 h1 HM.out hb).mono ?_); rintro e w2 ⟨rfl, A2, P2, O2⟩)))
  have HA2 := Lib.hid A2
  have HP2 := Lib.hid P2
  have HO2 := Lib.hid (HO.out.drew.trans O2)
  clear A2 P2 O2 y0 y1 y2 y3 y4 y5 hlt
  go_wp2_with fail
  refine (take_done HP2.out).mono ?_; rintro e w9 ⟨rfl, rfl⟩
  go_wp2_with fail
  go_ret
  exact ⟨rfl, HA2.out, HP2.out, HO2.out⟩

end
end Go.Proofs.Ytgjlilcljefbfaa