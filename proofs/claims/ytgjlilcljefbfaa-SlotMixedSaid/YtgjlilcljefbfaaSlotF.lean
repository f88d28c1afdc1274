/- Contracts of one step of a give, and of what makes both. Printed by wip/tools/slotf.py. -/
import Derived.Test.YtgjlilcljefbfaaSlotE
namespace Go.Proofs.Ytgjlilcljefbfaa
open Go.RowKit

set_option maxRecDepth 100000

theorem Blk.newAt {w : World} {k : Nat} (h : w.heap.size = k) (t : TypeId) (cs : Array Value) : Blk (w.alloc (.cells cs t)) k t cs := by subst h; exact Blk.new w t cs

section
variable {w : World} {q p g n cap t m s : Nat} {V T a h : Int} {S : Nat} {x : Value} {c f : Nat → Int}


set_option maxHeartbeats 1000000 in
theorem give_0 (hR : Rt V S T) (ht : T = (t : Int)) (A : Ar w p g n cap c f) (P : Pg w q 71 V S T 0 h x) (hn : t < n) (hm : CB c m) (hb : m ≤ 1000000) :
    Calls Try.prog 13 #[.pointer (some ⟨q, 0, none⟩), .pointer (some ⟨p, 0, none⟩)] w fun e w' =>
      e = .returned (.bool false) ∧ Ar w' p g n cap (upd c 0 (c 0 + 1)) f ∧ Pg w' q 71 V S T 1 (f t) x ∧ OnlyT q p g none w w' := by
  subst ht
  have q1 := P.ne_p A
  have q2 := P.ne_g A
  have y0 := P.c0
  have y1 := P.c1
  have y2 := P.c2
  have y3 := P.c3
  have y4 := P.c4
  have y5 := P.c5
  have hlt := P.lt
  have HR := Lib.hid hR
  have HA := Lib.hid A
  have HP := Lib.hid P
  have HM := Lib.hid hm
  clear hR A P hm
  go_enter Try.func13, Try.ntmps13
  go_wp2_with fail
  refine (load_pg HR.out rfl HA.out HP.out hn HM.out hb).mono ?_; rintro e w1 ⟨rfl, A1, P1, O1⟩
  clear y0 y1 y2 y3 y4 y5 hlt
  have HA1 := Lib.hid A1
  have HP1 := Lib.hid P1
  have HO1 := Lib.hid O1
  clear A1 P1 O1
  go_wp2_with fail
  refine (give_done HP1.out).mono ?_; rintro e w9 ⟨rfl, rfl⟩
  go_wp2_with fail
  go_ret
  exact ⟨rfl, HA1.out, HP1.out, HO1.out⟩


set_option maxHeartbeats 1000000 in
theorem give_1 (hR : Rt V S T) (ht : T = (t : Int)) (A : Ar w p g n cap c f) (P : Pg w q 71 V S T 1 h (.int .i64 (s : Int))) {k : Nat} (hk : h % 65536 = k) (h0 : 0 ≤ h) (h1 : h < 18446744073709551616) (hs : s < S) {j : Nat} (hj : j = t + 1 + s * 7) (hn : j < n) (hm : CB c m) (hb : m ≤ 1000000) :
    Calls Try.prog 13 #[.pointer (some ⟨q, 0, none⟩), .pointer (some ⟨p, 0, none⟩)] w fun e w' =>
      e = .returned (.bool false) ∧ Ar w' p g n cap (upd c 1 (c 1 + 1)) (upd f j (k : Int)) ∧ Pg w' q 71 V S T 2 h (.int .i64 (s : Int)) ∧ OnlyT q p g none w w' := by
  subst ht
  have q1 := P.ne_p A
  have q2 := P.ne_g A
  have y0 := P.c0
  have y1 := P.c1
  have y2 := P.c2
  have y3 := P.c3
  have y4 := P.c4
  have y5 := P.c5
  have hlt := P.lt
  have hq : ∀ W : World, Pg W q 71 V S t 1 h (.int .i64 (s : Int)) → W.cell? ⟨q, 0, none⟩ = some (.int .i64 V) ∧ W.cell? ⟨q, 1, none⟩ = some (.int .i64 S) ∧ W.cell? ⟨q, 2, none⟩ = some (.int .i64 (t : Int)) ∧ W.cell? ⟨q, 3, none⟩ = some (.int .i64 1) ∧ W.cell? ⟨q, 4, none⟩ = some (.int .u64 h) ∧ W.cell? ⟨q, 5, none⟩ = some (.int .i64 (s : Int)) := fun W h => ⟨h.c0, h.c1, h.c2, h.c3, h.c4, h.c5⟩
  have e1 : bits .and .u64 h 65535 = (k : Int) := (and_65535 h h0 h1).trans hk
  have e2 : slotF S (t : Int) (s : Int) 0 = (j : Int) := by rw [slotF_in (by omega) (by omega) (by omega) (by omega)]; omega
  have HE2 := Lib.hid e2
  have k0 : 0 ≤ (k : Int) := by omega
  have k1 : (k : Int) ≤ 18446744073709551615 := by omega
  clear e2 hk hj
  have HR := Lib.hid hR
  have HA := Lib.hid A
  have HP := Lib.hid P
  have HM := Lib.hid hm
  clear hR A P hm
  go_enter Try.func13, Try.ntmps13
  go_wp2_with fail
  go_region_held3 (fun W => Pg W q 71 V S t 1 h (.int .i64 (s : Int))) (first | (with_reducible assumption) | (with_reducible exact HP.out.drew) | (with_reducible exact Pg.below (by assumption) hb1 (Nat.le_refl _)) | (with_reducible exact Pg.only (by assumption) A1 O2))
    (first
      | (go_at_call 30; ((with_reducible refine (nextFree_yes V S t (s : Int) HR.out _).mono ?_); rintro e w1 ⟨rfl, hb1⟩; rw [HE2.out]; have A1 := HA.out.drew.below hb1 (Nat.le_refl _); have O1 := (OnlyT.of_only (t := q) (p := p) (g := g) (r := none) (Only.of_below (w := w1) (a := w) ((Below.refl _ _).drew.trans hb1)))))
      | (go_at_call 33; ((with_reducible refine (store_yes A1 hn k0 k1 HM.out hb).mono ?_); rintro e w2 ⟨rfl, A2, O2⟩; have P2 := Lib.hid (Pg.only (by assumption) A1 O2))))
  all_goals
    have HA2 := Lib.hid A2
    have HO2 := Lib.hid (O1.trans (OnlyT.of_only O2))
    clear A1 A2 O1 O2 y0 y1 y2 y3 y4 y5 hlt
    have z3 := P2.out.c3
    have f3 := P2.out.fz 3
    have hlt2 := P2.out.lt
    go_wp2_with fail
    refine (give_done (P2.out.set3 2)).mono ?_; rintro e w9 ⟨rfl, rfl⟩
    go_wp2_with fail
    go_ret
    exact ⟨rfl, HA2.out.q_far q1 q2 _, P2.out.set3 2, HO2.out.set_t _⟩


set_option maxHeartbeats 1000000 in
theorem give_2hit (hR : Rt V S T) (ht : T = (t : Int)) (A : Ar w p g n cap c f) (P : Pg w q 71 V S T 2 h (.int .i64 (s : Int))) (hn : t < n) (hu : (f t == h) = true) (hs : s < S) (h0 : 0 ≤ h) (h1 : h < 1000000 * 65536) (hm : CB c m) (hb : m ≤ 1000000) :
    Calls Try.prog 13 #[.pointer (some ⟨q, 0, none⟩), .pointer (some ⟨p, 0, none⟩)] w fun e w' =>
      e = .returned (.bool true) ∧ Ar w' p g n cap (upd c 2 (c 2 + 1)) (upd f t ((h / 65536 + 1) * 65536 + ((s : Int) + 1))) ∧ Pg w' q 71 V S T 3 h (.int .i64 (s : Int)) ∧ OnlyT q p g none w w' := by
  subst ht
  have q1 := P.ne_p A
  have q2 := P.ne_g A
  have y0 := P.c0
  have y1 := P.c1
  have y2 := P.c2
  have y3 := P.c3
  have y4 := P.c4
  have y5 := P.c5
  have hlt := P.lt
  have HU := Lib.hid hu
  clear hu
  have s2 := hR.s2
  have e2 : lnF S (s : Int) = (s : Int) + 1 := if_pos ⟨by omega, by omega⟩
  have HE2 := Lib.hid e2
  have v0 : 0 ≤ (s : Int) + 1 := by omega
  have v1 : (s : Int) + 1 < 65536 := by omega
  have s3 : -1000000 ≤ (s : Int) := by omega
  have s4 : (s : Int) ≤ 1000000 := by omega
  clear e2 s2
  have HO := Lib.hid (OnlyT.refl (t := q) (p := p) (g := g) (r := none) w)
  have HPB := Lib.hid P.drew
  have HR := Lib.hid hR
  have HA := Lib.hid A
  have HP := Lib.hid P
  have HM := Lib.hid hm
  clear hR A P hm
  go_enter Try.func13, Try.ntmps13
  go_wp2_with fail
  go_region_held3 (fun W => W.cell? ⟨q, 0, none⟩ = some (.int .i64 V) ∧ W.cell? ⟨q, 1, none⟩ = some (.int .i64 S) ∧ W.cell? ⟨q, 2, none⟩ = some (.int .i64 (t : Int)) ∧ W.cell? ⟨q, 5, none⟩ = some (.int .i64 (s : Int))) (first | (with_reducible assumption) | (with_reducible exact ⟨HPB.out.c0, HPB.out.c1, HPB.out.c2, HPB.out.c5⟩) | (with_reducible exact ⟨P1.out.c0, P1.out.c1, P1.out.c2, P1.out.c5⟩) | (with_reducible exact ⟨P2.c0, P2.c1, P2.c2, P2.c5⟩))
    (first
      | (go_at_call 31; ((with_reducible refine (link_any HR.out s3 s4 _).mono ?_); rintro e w1 ⟨rfl, hb1⟩; rw [HE2.out]; have P1 := Lib.hid (HPB.out.below hb1 (Nat.le_refl _)); have A1 := Lib.hid (HA.out.drew.below hb1 (Nat.le_refl _)); have O1 := Lib.hid (HO.out.drew.trans (OnlyT.of_only (Only.of_below hb1)))))
      | (go_at_call 34; ((with_reducible refine (swap_hit_pg HR.out rfl A1.out P1.out hn HU.out v0 v1 h0 h1 HM.out hb).mono ?_); rintro e w2 ⟨rfl, A2, P2, O2⟩)))
  all_goals
    have HA2 := Lib.hid A2
    have HP2 := Lib.hid P2
    have HO2 := Lib.hid (O1.out.trans O2)
    clear A2 P2 O2 y0 y1 y2 y3 y4 y5 hlt
    go_wp2_with fail
    refine (give_done HP2.out).mono ?_; rintro e w9 ⟨rfl, rfl⟩
    go_wp2_with fail
    go_ret
    exact ⟨rfl, HA2.out, HP2.out, HO2.out⟩


set_option maxHeartbeats 1000000 in
theorem give_2miss (hR : Rt V S T) (ht : T = (t : Int)) (A : Ar w p g n cap c f) (P : Pg w q 71 V S T 2 h (.int .i64 (s : Int))) (hn : t < n) (hu : (f t == h) = false) (hs : s < S) (h0 : 0 ≤ h) (h1 : h < 1000000 * 65536) (hm : CB c m) (hb : m ≤ 1000000) :
    Calls Try.prog 13 #[.pointer (some ⟨q, 0, none⟩), .pointer (some ⟨p, 0, none⟩)] w fun e w' =>
      e = .returned (.bool false) ∧ Ar w' p g n cap (upd c 3 (c 3 + 1)) f ∧ Pg w' q 71 V S T 0 h (.int .i64 (s : Int)) ∧ OnlyT q p g none w w' := by
  subst ht
  have q1 := P.ne_p A
  have q2 := P.ne_g A
  have y0 := P.c0
  have y1 := P.c1
  have y2 := P.c2
  have y3 := P.c3
  have y4 := P.c4
  have y5 := P.c5
  have hlt := P.lt
  have HU := Lib.hid hu
  clear hu
  have s2 := hR.s2
  have e2 : lnF S (s : Int) = (s : Int) + 1 := if_pos ⟨by omega, by omega⟩
  have HE2 := Lib.hid e2
  have v0 : 0 ≤ (s : Int) + 1 := by omega
  have v1 : (s : Int) + 1 < 65536 := by omega
  have s3 : -1000000 ≤ (s : Int) := by omega
  have s4 : (s : Int) ≤ 1000000 := by omega
  clear e2 s2
  have HO := Lib.hid (OnlyT.refl (t := q) (p := p) (g := g) (r := none) w)
  have HPB := Lib.hid P.drew
  have HR := Lib.hid hR
  have HA := Lib.hid A
  have HP := Lib.hid P
  have HM := Lib.hid hm
  clear hR A P hm
  go_enter Try.func13, Try.ntmps13
  go_wp2_with fail
  go_region_held3 (fun W => W.cell? ⟨q, 0, none⟩ = some (.int .i64 V) ∧ W.cell? ⟨q, 1, none⟩ = some (.int .i64 S) ∧ W.cell? ⟨q, 2, none⟩ = some (.int .i64 (t : Int)) ∧ W.cell? ⟨q, 5, none⟩ = some (.int .i64 (s : Int))) (first | (with_reducible assumption) | (with_reducible exact ⟨HPB.out.c0, HPB.out.c1, HPB.out.c2, HPB.out.c5⟩) | (with_reducible exact ⟨P1.out.c0, P1.out.c1, P1.out.c2, P1.out.c5⟩) | (with_reducible exact ⟨P2.c0, P2.c1, P2.c2, P2.c5⟩))
    (first
      | (go_at_call 31; ((with_reducible refine (link_any HR.out s3 s4 _).mono ?_); rintro e w1 ⟨rfl, hb1⟩; rw [HE2.out]; have P1 := Lib.hid (HPB.out.below hb1 (Nat.le_refl _)); have A1 := Lib.hid (HA.out.drew.below hb1 (Nat.le_refl _)); have O1 := Lib.hid (HO.out.drew.trans (OnlyT.of_only (Only.of_below hb1)))))
      | (go_at_call 34; ((with_reducible refine (swap_miss_pg HR.out rfl A1.out P1.out hn HU.out v0 v1 h0 h1 HM.out hb).mono ?_); rintro e w2 ⟨rfl, A2, P2, O2⟩)))
  all_goals
    have HA2 := Lib.hid A2
    have HP2 := Lib.hid P2
    have HO2 := Lib.hid (O1.out.trans O2)
    clear A2 P2 O2 y0 y1 y2 y3 y4 y5 hlt
    go_wp2_with fail
    refine (give_done HP2.out).mono ?_; rintro e w9 ⟨rfl, rfl⟩
    go_wp2_with fail
    go_ret
    exact ⟨rfl, HA2.out, HP2.out, HO2.out⟩


theorem give_3 (P : Pg w q 71 V S T 3 h x) :
    Calls Try.prog 13 #[.pointer (some ⟨q, 0, none⟩), .pointer (some ⟨p, 0, none⟩)] w fun e w' => e = .returned (.bool true) ∧ w = w' := by
  have y3 := P.c3
  have HP := Lib.hid P
  clear P
  go_enter Try.func13, Try.ntmps13
  go_wp2_with fail
  refine (give_done HP.out).mono ?_; rintro e w9 ⟨rfl, rfl⟩
  go_wp2_with fail
  go_ret
  exact ⟨rfl, rfl⟩

theorem newTake_any (V T : Int) (S : Nat) (w : World) :
    Calls Try.prog 15 #[vL V S T] w fun e w' => ∃ q, e = .returned (.pointer (some ⟨q, 0, none⟩)) ∧ w.heap.size ≤ q ∧ Pg w' q 77 V S T 0 0 (.int .u64 0) ∧ Below w.heap.size w w' := by
  go_enter Try.func15, Try.ntmps15
  go_wp2_with fail
  go_ret
  exact ⟨_, rfl, by simp, ⟨.inl rfl, Blk.newAt (by simp) _ _⟩, ((Below.refl _ _).alloc (Nat.le_refl _) _).alloc (by simp) _⟩

theorem newGive_yes (hR : Rt V S T) (hs : s < S) (w : World) :
    Calls Try.prog 12 #[vL V S T, .int .i64 (s : Int)] w fun e w' => ∃ q, e = .returned (.pointer (some ⟨q, 0, none⟩)) ∧ w.heap.size ≤ q ∧ Pg w' q 71 V S T 0 0 (.int .i64 (s : Int)) ∧ Below w.heap.size w w' := by
  have s2 := hR.s2
  have e2 : lnF S (s : Int) = (s : Int) + 1 := if_pos ⟨by omega, by omega⟩
  have HE2 := Lib.hid e2
  have s3 : -1000000 ≤ (s : Int) := by omega
  have s4 : (s : Int) ≤ 1000000 := by omega
  have HR := Lib.hid hR
  have hne : ¬ ((s : Int) + 1 = 0) := by omega
  clear e2 s2 hR hs
  go_enter Try.func12, Try.ntmps12
  go_wp2_with fail
  refine (link_any HR.out s3 s4 _).mono ?_; rintro e w1 ⟨rfl, hb1⟩
  rw [HE2.out]
  go_wp2_with fail
  go_ret
  refine ⟨_, rfl, ?_, ⟨.inr rfl, Blk.below (Blk.newAt (by simp) _ _) hb1 (by simp)⟩, keepL (((Below.refl _ _).alloc (Nat.le_refl _) _).alloc (by simp) _) hb1⟩
  simp

theorem slot_pg (hR : Rt V S T) {k : Nat} (hk : h % 65536 = k) (h0 : 0 ≤ h) (h1 : h < 18446744073709551616) (P : Pg w q 77 V S T 3 h x) :
    Calls Try.prog 17 #[.pointer (some ⟨q, 0, none⟩)] w fun e w' => e = .returned (.tuple #[.int .i64 (lkF S k), .bool (lkB S k)]) ∧ Below w.heap.size w w' := by
  have HR := Lib.hid hR
  have HP := Lib.hid P
  have HK := Lib.hid hk
  clear hR P hk
  go_enter Try.func17, Try.ntmps17
  go_wp2_with fail
  refine (take_done HP.out).mono ?_; rintro e w9 ⟨rfl, rfl⟩
  go_wp2_with fail
  refine (first_pg HR.out HK.out h0 h1 HP.out).mono ?_; rintro e w2 ⟨rfl, hb2⟩
  go_wp2_with fail
  go_ret2
  exact ⟨rfl, hb2⟩
end
end Go.Proofs.Ytgjlilcljefbfaa