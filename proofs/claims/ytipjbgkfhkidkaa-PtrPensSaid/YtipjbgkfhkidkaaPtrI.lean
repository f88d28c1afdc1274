/- The fixed answer. Printed by wip/tools/ptri.py. -/
import Derived.Test.YtipjbgkfhkidkaaPtrH
namespace Go.Proofs.Ytipjbgkfhkidkaa
open Go.RowKit

set_option maxRecDepth 100000

section
variable {w : World} {p g n cap k m t : Nat} {c f : Nat → Int} {o x th0 tg0 th tg y z V : Int} {S : Nat}
theorem write_is (A : Ar w p g n cap c f) (hk : k < n) (hI : IsW (f k) o x th0 tg0) (hv : rightV (f k) = true) (ho : wrO o x th0 tg0 th tg = z) (hr : rightW z y th tg = true) (hm : CB c m) (hb : m ≤ 999990) :
    Calls Try.prog 15 #[vP th tg, .iface 28 (pmV p), .int .i64 (k : Int), .int .i64 y] w fun e w' =>
      e = .returned (.tuple #[]) ∧ Ar w' p g n cap (upd (upd c 0 (c 0 + 1)) 1 (upd c 0 (c 0 + 1) 1 + 1)) (upd f k (bitsW z y th tg)) ∧ Only p g w w' := by
  subst ho
  exact write_yes A hk hI hv hr hm hb
theorem Means_is (hR : Rt V S 8) (A : Ar w p g n cap c f) (hk : k < n) (hn : 8 ≤ n) (hx : mnF f (f k) = x) (hm : CB c m) (hb : m ≤ 999990) :
    Calls Try.prog 19 #[.iface 28 (pmV p), vL V S 8, .int .i64 (k : Int)] w (Meant x p g n cap c f m w) := by
  subst hx
  exact Means_any hR A hk hn hm hb
end
theorem at_0 {w : World} : Calls Try.prog 12 #[.int .i64 0] w fun e w' => e = .returned (.int .i64 (atK 0 : Int)) ∧ Below w.heap.size w w' := at_is (by omega) rfl
theorem at_1 {w : World} : Calls Try.prog 12 #[.int .i64 1] w fun e w' => e = .returned (.int .i64 (atK 1 : Int)) ∧ Below w.heap.size w w' := at_is (by omega) rfl
theorem Means_8 {w : World} {p g cap k m : Nat} {c f : Nat → Int} {x : Int} (A : Ar w p g 42 cap c f) (hk : k < 42) (hx : mnF f (f k) = x) (hm : CB c m) (hb : m ≤ 999990) :
    Calls Try.prog 19 #[.iface 28 (pmV p), vL 2 0 8, .int .i64 (k : Int)] w (Meant x p g 42 cap c f m w) := Means_is (S := 0) rt8 A hk (by omega) hx hm hb
theorem look_8 {w : World} {k : Nat} : Calls Try.prog 26 #[vL 2 0 8, .int .i64 (k : Int)] w (Fresh 2 0 8 k w) := look_new (S := 0)
theorem cb_zero : CB zeroF 0 := fun j => by simp [zeroF]

/-- The fixed answer's memory, step by step. -/
def a1 : Nat → Int := upd zeroF (atK 0) (3 * 65537)
def a2 : Nat → Int := upd a1 0 (stateV 4 false)
def a3 : Nat → Int := upd a2 (atK 0) (bitsW 3 5 1 4)
def a4 : Nat → Int := upd a3 0 (stateV 4 true)
def a5 : Nat → Int := upd a4 (atK 0) (bitsW 5 5 0 0)
def a6 : Nat → Int := upd a5 0 (stateV (4 + 1) false)
theorem a2_w : IsW (a2 (atK 0)) 3 3 0 0 := ⟨by decide, by decide, by decide, by decide⟩
theorem a2_r : rightV (a2 (atK 0)) = true := by decide
theorem a3_m : mnF a3 (a3 (atK 0)) = 3 := by decide
theorem a4_m : mnF a4 (a4 (atK 0)) = 5 := by decide
theorem a4_w : IsW (a4 (atK 0)) 3 5 1 4 := ⟨by decide, by decide, by decide, by decide⟩
theorem a4_r : rightV (a4 (atK 0)) = true := by decide
theorem a4_s : mnS 3 5 1 4 (a4 0) = 5 := by decide
theorem a6_w : IsW (a6 (atK 0)) 5 5 0 0 := ⟨by decide, by decide, by decide, by decide⟩
theorem a6_m : mnF a6 (a6 (atK 0)) = 5 := by decide
theorem a6_v : a6 (atK 0) = 327685 := by decide

section
variable {w : World} {p g n cap k m : Nat} {c f : Nat → Int} {v : Int}
theorem load_is (A : Ar w p g n cap c f) (hk : k < n) (hv : f k = v) (hm : CB c m) (hb : m ≤ 1000000) :
    Calls Try.prog 31 #[.pointer (some ⟨p, 0, none⟩), .int .i64 (k : Int)] w fun e w' => e = .returned (.tuple #[.int .u64 v, .int .i64 0]) ∧ Ar w' p g n cap (upd c 0 (c 0 + 1)) f ∧ Only p g w w' := by
  subst hv
  exact load_yes A hk hm hb
end

set_option maxHeartbeats 2000000 in
theorem awake_any (w : World) :
    Calls Try.prog 7 #[] w fun e w' => e = .returned (.bool true) ∧ Below w.heap.size w w' := by
  go_enter Try.func7, Try.ntmps7
  go_wp2_with fail
  refine begun_any.mono ?_; rintro e w1 ⟨p, g, rfl, np, ng, A1, hb1⟩
  have HA := Lib.hid A1
  have HN := Lib.hid (And.intro np ng)
  have HB := Lib.hid hb1
  clear A1 np ng hb1
  go_wp2_with fail
  refine (pm_of p _).mono ?_; rintro e w2 ⟨rfl, hb2⟩
  have HA2 := Lib.hid (HA.out.below hb2 (Nat.le_refl _))
  have HB2 := Lib.hid (keepL HB.out hb2 HB.out.size)
  clear hb2 HA HB
  go_wp2_with fail
  refine small_any.mono ?_; rintro e w3 ⟨rfl, hb3⟩
  have HP0 := Lib.hid (PS.vars (th := 1) (tg := 4) (HA2.out.below hb3 (Nat.le_refl _)) cb_zero (keepL HB2.out hb3 HB2.out.size) HN.out.1 HN.out.2)
  clear hb3 HA2 HB2
  go_wp2_with fail
  refine (at_is (i := 0) (by omega) rfl).mono ?_; rintro e w4 ⟨rfl, hb4⟩
  have HP1 := Lib.hid (HP0.out.below hb4)
  clear hb4
  generalize w3.heap.size = mb at HP1 ⊢
  obtain ⟨v0, v1, v2, v3, v4, v5⟩ := HP1.out.vs.cells
  obtain ⟨l0, l1, l2⟩ := HP1.out.vs.lts
  go_wp2_with fail
  refine (rplain_any 3 _ (by omega) (by omega)).mono ?_; rintro e w5 ⟨rfl, rfl⟩
  go_wp2_with fail
  refine (store_yes HP1.out.ar (atK_lt (by omega)) (by omega) (by omega) HP1.out.cb (by omega)).mono ?_; rintro e w5 ⟨rfl, A5, O5⟩
  have HP2 : Hid (PS w p g mb (mb + 1) (mb + 2) _ 1 4 _ a1 w5) := Lib.hid (HP1.out.arena A5 (HP1.out.cb.upd 1) O5)
  clear A5 O5
  clear v0 v1 v2 v3 v4 v5 l0 l1 l2
  obtain ⟨v0, v1, v2, v3, v4, v5⟩ := HP2.out.vs.cells
  obtain ⟨l0, l1, l2⟩ := HP2.out.vs.lts
  go_wp2_with fail
  refine (begin_any rt8 (t := 0) (by rfl) (by omega) HP2.out.ar (by omega) (by omega) (by omega) HP2.out.cb (by omega)).mono ?_; rintro e w6 ⟨rfl, A5, O5⟩
  have HP3 : Hid (PS w p g mb (mb + 1) (mb + 2) _ 1 4 _ a2 w6) := Lib.hid (HP2.out.arena A5 (HP2.out.cb.upd 1) O5)
  clear A5 O5
  clear v0 v1 v2 v3 v4 v5 l0 l1 l2
  obtain ⟨v0, v1, v2, v3, v4, v5⟩ := HP3.out.vs.cells
  obtain ⟨l0, l1, l2⟩ := HP3.out.vs.lts
  have hvs : ∀ W, VS mb (mb + 1) (mb + 2) p 1 4 W → W.cell? ⟨mb, 0, none⟩ = some (.pointer (some ⟨p, 0, none⟩)) ∧ W.cell? ⟨mb + 1, 0, none⟩ = some (.int .i64 2) ∧ W.cell? ⟨mb + 1, 1, none⟩ = some (.int .i64 0) ∧ W.cell? ⟨mb + 1, 2, none⟩ = some (.int .i64 8) ∧ W.cell? ⟨mb + 2, 0, none⟩ = some (.int .i64 1) ∧ W.cell? ⟨mb + 2, 1, none⟩ = some (.int .i64 4) := fun W h => h.cells
  clear v0 v1 v2 v3 v4 v5 l0 l1 l2
  go_wp2_with fail
  have HP3d := Lib.hid HP3.out.drew
  go_region_held3 (VS mb (mb + 1) (mb + 2) p 1 4) (first | (with_reducible assumption) | (with_reducible exact HP3d.out.vs) | (with_reducible exact HP3t.out.vs) | (with_reducible exact HP4.out.vs))
    (first
      | (go_at_call 12; ((with_reducible refine at_0.mono ?_); rintro e w' ⟨rfl, hb9⟩; have HP3t := Lib.hid (PS.below HP3d.out hb9)))
      | (go_at_call 15; ((with_reducible refine (write_is HP3t.out.ar (atK_lt (by omega)) a2_w a2_r (z := 3) (by decide) (by decide) HP3t.out.cb (by omega)).mono ?_); rintro e w7 ⟨rfl, A5, O5⟩; have HP4 : Hid (PS w p g mb (mb + 1) (mb + 2) _ 1 4 _ a3 w7) := Lib.hid (HP3t.out.arena A5 ((HP3t.out.cb.upd 0).upd 1) O5); clear A5 O5)))
  clear HP3d HP3t
  go_wp2_with fail
  have HP4d := Lib.hid HP4.out.drew
  go_region_held3 (VS mb (mb + 1) (mb + 2) p 1 4) (first | (with_reducible assumption) | (with_reducible exact HP4d.out.vs) | (with_reducible exact HP4t.out.vs) | (with_reducible exact HP5.out.vs))
    (first
      | (go_at_call 12; ((with_reducible refine at_0.mono ?_); rintro e w' ⟨rfl, hb9⟩; have HP4t := Lib.hid (PS.below HP4d.out hb9)))
      | (go_at_call 19; ((with_reducible refine (Means_8 HP4t.out.ar (atK_lt (by omega)) a3_m HP4t.out.cb (by omega)).mono ?_); rintro e w8 ⟨rfl, c5, A5, C5, _, O5⟩; have HP5 : Hid (PS w p g mb (mb + 1) (mb + 2) _ 1 4 _ a3 w8) := Lib.hid (HP4t.out.arena A5 C5 O5); clear A5 C5 O5)))
  clear HP4d HP4t
  obtain ⟨v0, v1, v2, v3, v4, v5⟩ := HP5.out.vs.cells
  obtain ⟨l0, l1, l2⟩ := HP5.out.vs.lts
  go_wp2_with fail
  refine (commit_any rt8 (t := 0) (by rfl) (by omega) HP5.out.ar (by omega) (by omega) (by omega) HP5.out.cb (by omega)).mono ?_; rintro e w9 ⟨rfl, A5, O5⟩
  have HP6 : Hid (PS w p g mb (mb + 1) (mb + 2) _ 1 4 _ a4 w9) := Lib.hid (HP5.out.arena A5 (HP5.out.cb.upd 1) O5)
  clear A5 O5
  clear v0 v1 v2 v3 v4 v5 l0 l1 l2
  obtain ⟨v0, v1, v2, v3, v4, v5⟩ := HP6.out.vs.cells
  obtain ⟨l0, l1, l2⟩ := HP6.out.vs.lts
  clear v0 v1 v2 v3 v4 v5 l0 l1 l2
  go_wp2_with fail
  have HP6d := Lib.hid HP6.out.drew
  go_region_held3 (VS mb (mb + 1) (mb + 2) p 1 4) (first | (with_reducible assumption) | (with_reducible exact HP6d.out.vs) | (with_reducible exact HPx.out.vs) | (with_reducible exact HP7.out.vs) | (with_reducible exact HP8.out.vs))
    (first
      | (go_at_call 12; ((with_reducible refine at_0.mono ?_); rintro e w10 ⟨rfl, hb9⟩; have HPx := Lib.hid (PS.below (Hid.out (by assumption : Hid (PS w p g mb (mb + 1) (mb + 2) _ 1 4 _ a4 _))) hb9)))
      | (go_at_call 19; ((with_reducible refine (Means_8 HPx.out.ar (atK_lt (by omega)) a4_m HPx.out.cb (by omega)).mono ?_); rintro e w8 ⟨rfl, c5, A5, C5, _, O5⟩; have HP7 : Hid (PS w p g mb (mb + 1) (mb + 2) _ 1 4 _ a4 w8) := Lib.hid (HPx.out.arena A5 C5 O5); clear A5 C5 O5))
      | (go_at_call 26; ((with_reducible refine look_8.mono ?_); rintro e w11 ⟨q, rfl, hq, L5, hb9⟩; have HP8 := Lib.hid (HPx.out.below hb9); have HL8 := Lib.hid L5; have HQ := Lib.hid (Nat.le_trans HPx.out.be.size hq); clear L5 hq)))
  clear hvs HP6d HPx
  go_wp2_with fail
  refine (look_0word HP8.out.ar HL8.out (atK_lt (by omega)) a4_w (by omega) HP8.out.cb (by omega)).mono ?_; rintro e w12 ⟨rfl, A5, L5, O5⟩
  have HP9 := Lib.hid (HP8.out.look HL8.out HQ.out A5 (HP8.out.cb.upd 0) O5)
  have HL9 := Lib.hid L5
  clear A5 L5 O5
  go_wp2_with fail
  refine (look_1 (t := 0) rt8 (by decide) (by rfl) (by omega) HP9.out.ar (by omega) HL9.out HP9.out.cb (by omega)).mono ?_; rintro e w13 ⟨rfl, A5, L5, O5⟩
  have HP10 := Lib.hid (HP9.out.look HL9.out HQ.out A5 (HP9.out.cb.upd 0) O5)
  rw [a4_s] at L5
  have HL10 := Lib.hid L5
  clear A5 L5 O5
  go_wp2_with fail
  refine (look_value HL10.out).mono ?_; rintro e w14 ⟨rfl, rfl⟩
  go_wp2_with fail
  refine (look_done HL10.out).mono ?_; rintro e w14 ⟨rfl, rfl⟩
  have HP11 : Hid (PS w p g mb (mb + 1) (mb + 2) _ 1 4 _ a4 w13) := HP10
  have hvs : ∀ W, VS mb (mb + 1) (mb + 2) p 1 4 W → W.cell? ⟨mb, 0, none⟩ = some (.pointer (some ⟨p, 0, none⟩)) ∧ W.cell? ⟨mb + 1, 0, none⟩ = some (.int .i64 2) ∧ W.cell? ⟨mb + 1, 1, none⟩ = some (.int .i64 0) ∧ W.cell? ⟨mb + 1, 2, none⟩ = some (.int .i64 8) ∧ W.cell? ⟨mb + 2, 0, none⟩ = some (.int .i64 1) ∧ W.cell? ⟨mb + 2, 1, none⟩ = some (.int .i64 4) := fun W h => h.cells
  go_wp2_with fail
  have HP11d := Lib.hid HP11.out.drew
  go_region_held3 (VS mb (mb + 1) (mb + 2) p 1 4) (first | (with_reducible assumption) | (with_reducible exact HP11d.out.vs) | (with_reducible exact HP11t.out.vs) | (with_reducible exact HP12.out.vs))
    (first
      | (go_at_call 12; ((with_reducible refine at_0.mono ?_); rintro e w' ⟨rfl, hb9⟩; have HP11t := Lib.hid (PS.below HP11d.out hb9)))
      | (go_at_call 17; ((with_reducible refine (clean_yes HP11t.out.ar (atK_lt (by omega)) a4_w a4_r HP11t.out.cb (by omega)).mono ?_); rintro e w15 ⟨rfl, A5, O5⟩; have HP12 : Hid (PS w p g mb (mb + 1) (mb + 2) _ 1 4 _ a5 w15) := Lib.hid (HP11t.out.arena A5 ((HP11t.out.cb.upd 0).upd 1) O5); clear A5 O5)))
  clear HP11d HP11t
  clear hvs
  obtain ⟨v0, v1, v2, v3, v4, v5⟩ := HP12.out.vs.cells
  obtain ⟨l0, l1, l2⟩ := HP12.out.vs.lts
  go_wp2_with fail
  refine (end_any rt8 (t := 0) (by rfl) (by omega) HP12.out.ar (by omega) (by omega) (by omega) HP12.out.cb (by omega)).mono ?_; rintro e w16 ⟨rfl, A5, O5⟩
  have HP13 : Hid (PS w p g mb (mb + 1) (mb + 2) _ 1 4 _ a6 w16) := Lib.hid (HP12.out.arena A5 (HP12.out.cb.upd 1) O5)
  clear A5 O5
  clear v0 v1 v2 v3 v4 v5 l0 l1 l2
  obtain ⟨v0, v1, v2, v3, v4, v5⟩ := HP13.out.vs.cells
  obtain ⟨l0, l1, l2⟩ := HP13.out.vs.lts
  clear v0 v1 v2 v3 v4 v5 l0 l1 l2
  go_wp2_with fail
  refine at_0.mono ?_; rintro e w17 ⟨rfl, hb9⟩
  have HP14 := Lib.hid (HP13.out.below hb9)
  clear hb9
  go_wp2_with fail
  refine (load_is (v := 327685) HP14.out.ar (atK_lt (by omega)) a6_v HP14.out.cb (by omega)).mono ?_; rintro e w18 ⟨rfl, A5, O5⟩
  have HP15 := Lib.hid (HP14.out.arena A5 (HP14.out.cb.upd 0) O5)
  clear A5 O5
  have hvs : ∀ W, VS mb (mb + 1) (mb + 2) p 1 4 W → W.cell? ⟨mb, 0, none⟩ = some (.pointer (some ⟨p, 0, none⟩)) ∧ W.cell? ⟨mb + 1, 0, none⟩ = some (.int .i64 2) ∧ W.cell? ⟨mb + 1, 1, none⟩ = some (.int .i64 0) ∧ W.cell? ⟨mb + 1, 2, none⟩ = some (.int .i64 8) ∧ W.cell? ⟨mb + 2, 0, none⟩ = some (.int .i64 1) ∧ W.cell? ⟨mb + 2, 1, none⟩ = some (.int .i64 4) := fun W h => h.cells
  go_wp2_with fail
  have HP15d := Lib.hid HP15.out.drew
  go_region_held3 (VS mb (mb + 1) (mb + 2) p 1 4) (first | (with_reducible assumption) | (with_reducible exact HP15d.out.vs) | (with_reducible exact HPx.out.vs) | (with_reducible exact HP16.out.vs) | (with_reducible exact HP17.out.vs))
    (first
      | (go_at_call 12; ((with_reducible refine at_0.mono ?_); rintro e w19 ⟨rfl, hb9⟩; have HPx := Lib.hid (PS.below (Hid.out (by assumption : Hid (PS w p g mb (mb + 1) (mb + 2) _ 1 4 _ a6 _))) hb9)))
      | (go_at_call 20; ((with_reducible refine (new_any HPx.out.ar (atK_lt (by omega)) a6_w HPx.out.cb (by omega)).mono ?_); rintro e w20 ⟨rfl, A5, O5⟩; have HP16 : Hid (PS w p g mb (mb + 1) (mb + 2) _ 1 4 _ a6 w20) := Lib.hid (HPx.out.arena A5 (HPx.out.cb.upd 0) O5); clear A5 O5))
      | (go_at_call 13; ((with_reducible refine (rplain_any 5 _ (by omega) (by omega)).mono ?_); rintro e w22 ⟨rfl, rfl⟩))
      | (go_at_call 19; ((with_reducible refine (Means_8 HPx.out.ar (atK_lt (by omega)) a6_m HPx.out.cb (by omega)).mono ?_); rintro e w21 ⟨rfl, c5, A5, C5, _, O5⟩; have HP17 : Hid (PS w p g mb (mb + 1) (mb + 2) _ 1 4 _ a6 w21) := Lib.hid (HPx.out.arena A5 C5 O5); clear A5 C5 O5)))
  go_wp2_with fail
  go_ret
  exact ⟨rfl, HP17.out.be⟩
end Go.Proofs.Ytipjbgkfhkidkaa
