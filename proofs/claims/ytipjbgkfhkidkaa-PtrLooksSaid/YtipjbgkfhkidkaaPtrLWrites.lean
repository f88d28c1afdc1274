/- PtrWrites: the walk. Printed by wip/tools/ptrlw.py. -/
import Derived.Test.YtipjbgkfhkidkaaPtrI
namespace Go.Proofs.Ytipjbgkfhkidkaa
open Go.RowKit

set_option maxRecDepth 100000

/-- Counts of so many loads and stores. -/
def kc (l s : Int) : Nat → Int := upd (upd zeroF 0 l) 1 s
theorem kc_load (l s : Int) : upd (kc l s) 0 (kc l s 0 + 1) = kc (l + 1) s := by
  funext i; unfold kc upd zeroF; by_cases h0 : i = 0
  · subst h0; simp
  · by_cases h1 : i = 1 <;> simp [h0, h1]
theorem kc_store (l s : Int) : upd (kc l s) 1 (kc l s 1 + 1) = kc l (s + 1) := by
  funext i; unfold kc upd zeroF; by_cases h0 : i = 0
  · subst h0; simp
  · by_cases h1 : i = 1 <;> simp [h0, h1]
theorem kc_zero : zeroF = kc 0 0 := by
  funext i; unfold kc upd zeroF; simp
theorem right_word {z x th tg : Int} (h1 : 0 ≤ z) (h2 : z ≤ 65535) (h3 : 0 ≤ x) (h4 : x ≤ 65535) (h5 : 1 ≤ th) (h6 : th ≤ 8) (h7 : 0 ≤ tg) (h8 : tg ≤ 16777215) : rightW z x th tg = true := by
  rw [rightW_eq]; exact decide_eq_true (by omega)

section
variable {w w' W : World} {p g n cap k m wb nb : Nat} {c f : Nat → Int} {v o x y z th0 tg0 th tg l s : Int}
theorem counts_kc (A : Ar w p g n cap (kc l s) f) :
    Calls Try.prog 30 #[.pointer (some ⟨p, 0, none⟩)] w fun e w' => e = .returned (.agg #[.int .i64 l, .int .i64 s, .int .i64 0, .int .i64 0, .int .i64 0]) ∧ Below w.heap.size w w' := counts_any A
theorem rparts_is (h0 : 0 ≤ v) (h1 : v ≤ 18446744073709551615) (e1 : v / 65536 % 65536 = o) (e2 : v % 65536 = x) (e3 : v / 4294967296 % 256 = th) (e4 : v / 1099511627776 = tg) :
    Calls Try.prog 21 #[.int .u64 v] w fun e w' => e = .returned (vW o x th tg) ∧ Below w.heap.size w w' := by
  subst e1 e2 e3 e4
  exact rparts_any v w h0 h1
theorem wrright_is {b : Bool} (hb : rightW o x th tg = b) :
    Calls Try.prog 22 #[vW o x th tg] w fun e w' => e = .returned (.bool b) ∧ Below w.heap.size w w' := by
  subst hb
  exact wrright_any o x th tg w
theorem write_kc (A : Ar w p g n cap (kc l s) f) (hk : k < n) (hI : IsW (f k) o x th0 tg0) (hv : rightV (f k) = true) (ho : wrO o x th0 tg0 th tg = z) (hr : rightW z y th tg = true) (hm : CB (kc l s) m) (hb : m ≤ 999990) :
    Calls Try.prog 15 #[vP th tg, .iface 28 (pmV p), .int .i64 (k : Int), .int .i64 y] w fun e w' =>
      e = .returned (.tuple #[]) ∧ Ar w' p g n cap (kc (l + 1) (s + 1)) (upd f k (bitsW z y th tg)) ∧ CB (kc (l + 1) (s + 1)) (m + 2) ∧ Only p g w w' := by
  refine (write_is A hk hI hv ho hr hm hb).mono ?_
  rintro e w' ⟨rfl, A', O'⟩
  have hc := (hm.upd 0).upd 1
  rw [kc_load, kc_store] at A' hc
  exact ⟨rfl, A', hc, O'⟩
theorem write_kcno (A : Ar w p g n cap (kc l s) f) (hk : k < n) (hv : rightV (f k) = false) (hm : CB (kc l s) m) (hb : m ≤ 999990) :
    Calls Try.prog 15 #[vP th tg, .iface 28 (pmV p), .int .i64 (k : Int), .int .i64 y] w fun e w' =>
      e = .returned (.tuple #[]) ∧ Ar w' p g n cap (kc (l + 1) s) f ∧ CB (kc (l + 1) s) (m + 1) ∧ Only p g w w' := by
  refine (write_no A hk hv hm hb).mono ?_
  rintro e w' ⟨rfl, A', O'⟩
  have hc := hm.upd 0
  rw [kc_load] at A' hc
  exact ⟨rfl, A', hc, O'⟩
theorem clean_kc (A : Ar w p g n cap (kc l s) f) (hk : k < n) (hI : IsW (f k) o x th0 tg0) (hv : rightV (f k) = true) (hm : CB (kc l s) m) (hb : m ≤ 999990) :
    Calls Try.prog 17 #[vP th tg, .iface 28 (pmV p), .int .i64 (k : Int)] w fun e w' =>
      e = .returned (.tuple #[]) ∧ Ar w' p g n cap (kc (l + 1) (s + 1)) (upd f k (bitsW x x 0 0)) ∧ CB (kc (l + 1) (s + 1)) (m + 2) ∧ Only p g w w' := by
  refine (clean_yes A hk hI hv hm hb).mono ?_
  rintro e w' ⟨rfl, A', O'⟩
  have hc := (hm.upd 0).upd 1
  rw [kc_load, kc_store] at A' hc
  exact ⟨rfl, A', hc, O'⟩
theorem load_kc (A : Ar w p g n cap (kc l s) f) (hk : k < n) (hv : f k = v) (hm : CB (kc l s) m) (hb : m ≤ 999990) :
    Calls Try.prog 31 #[.pointer (some ⟨p, 0, none⟩), .int .i64 (k : Int)] w fun e w' => e = .returned (.tuple #[.int .u64 v, .int .i64 0]) ∧ Ar w' p g n cap (kc (l + 1) s) f ∧ CB (kc (l + 1) s) (m + 1) ∧ Only p g w w' := by
  refine (load_is A hk hv hm (by omega)).mono ?_
  rintro e w' ⟨rfl, A', O'⟩
  have hc := hm.upd 0
  rw [kc_load] at A' hc
  exact ⟨rfl, A', hc, O'⟩
theorem store_kc (A : Ar w p g n cap (kc l s) f) (hk : k < n) (hv0 : 0 ≤ v) (hv1 : v ≤ 18446744073709551615) (hm : CB (kc l s) m) (hb : m ≤ 999990) :
    Calls Try.prog 11 #[.pointer (some ⟨p, 0, none⟩), .int .i64 (k : Int), .int .u64 v] w fun e w' => e = .returned (.int .i64 0) ∧ Ar w' p g n cap (kc l (s + 1)) (upd f k v) ∧ CB (kc l (s + 1)) (m + 1) ∧ Only p g w w' := by
  refine (store_yes A hk hv0 hv1 hm (by omega)).mono ?_
  rintro e w' ⟨rfl, A', O'⟩
  have hc := hm.upd 1
  rw [kc_store] at A' hc
  exact ⟨rfl, A', hc, O'⟩
theorem begin_kc {t : Nat} (hth : th = (t : Int) + 1) (htT : th ≤ 8) (A : Ar w p g n cap (kc l s) f) (hk : t < n) (g0 : 0 ≤ tg) (g1 : tg ≤ 16777215) (hm : CB (kc l s) m) (hb : m ≤ 999990) :
    Calls Try.prog 14 #[vP th tg, .iface 28 (pmV p), vL 2 0 8] w fun e w' =>
      e = .returned (.tuple #[]) ∧ Ar w' p g n cap (kc l (s + 1)) (upd f t (stateV tg false)) ∧ CB (kc l (s + 1)) (m + 1) ∧ Only p g w w' := by
  refine (begin_any (S := 0) rt8 hth htT A hk g0 g1 hm hb).mono ?_
  rintro e w' ⟨rfl, A', O'⟩
  have hc := hm.upd 1
  rw [kc_store] at A' hc
  exact ⟨rfl, A', hc, O'⟩
theorem commit_kc {t : Nat} (hth : th = (t : Int) + 1) (htT : th ≤ 8) (A : Ar w p g n cap (kc l s) f) (hk : t < n) (g0 : 0 ≤ tg) (g1 : tg ≤ 16777215) (hm : CB (kc l s) m) (hb : m ≤ 999990) :
    Calls Try.prog 16 #[vP th tg, .iface 28 (pmV p), vL 2 0 8] w fun e w' =>
      e = .returned (.tuple #[]) ∧ Ar w' p g n cap (kc l (s + 1)) (upd f t (stateV tg true)) ∧ CB (kc l (s + 1)) (m + 1) ∧ Only p g w w' := by
  refine (commit_any (S := 0) rt8 hth htT A hk g0 g1 hm hb).mono ?_
  rintro e w' ⟨rfl, A', O'⟩
  have hc := hm.upd 1
  rw [kc_store] at A' hc
  exact ⟨rfl, A', hc, O'⟩
theorem end_kc {t : Nat} (hth : th = (t : Int) + 1) (htT : th ≤ 8) (A : Ar w p g n cap (kc l s) f) (hk : t < n) (g0 : 0 ≤ tg) (g1 : tg + 1 ≤ 16777215) (hm : CB (kc l s) m) (hb : m ≤ 999990) :
    Calls Try.prog 18 #[vP th tg, .iface 28 (pmV p), vL 2 0 8] w fun e w' =>
      e = .returned (.tuple #[]) ∧ Ar w' p g n cap (kc l (s + 1)) (upd f t (stateV (tg + 1) false)) ∧ CB (kc l (s + 1)) (m + 1) ∧ Only p g w w' := by
  refine (end_any (S := 0) rt8 hth htT A hk g0 g1 hm hb).mono ?_
  rintro e w' ⟨rfl, A', O'⟩
  have hc := hm.upd 1
  rw [kc_store] at A' hc
  exact ⟨rfl, A', hc, O'⟩
/-- The parts that were told, and counts. -/
structure XS (wb nb : Nat) (o x th tg l s : Int) (W : World) : Prop where
  w : Blk W wb 56 #[.int .i64 o, .int .i64 x, .int .i64 th, .int .i64 tg]
  n : Blk W nb 66 #[.int .i64 l, .int .i64 s, .int .i64 0, .int .i64 0, .int .i64 0]
theorem XS.later (h : XS wb nb o x th tg l s W) (hb : Below W.heap.size W w') : XS wb nb o x th tg l s w' := ⟨h.w.later hb, h.n.later hb⟩
theorem XS.alloc (h : XS wb nb o x th tg l s W) (O : Obj) : XS wb nb o x th tg l s (W.alloc O) := ⟨h.w.alloc O, h.n.alloc O⟩
theorem XS.arena (h : XS wb nb o x th tg l s W) (A : Ar W p g n cap c f) (ho : Only p g W w') : XS wb nb o x th tg l s w' := ⟨h.w.arena A ho (by decide) (by decide), h.n.arena A ho (by decide) (by decide)⟩
theorem XS.cells (h : XS wb nb o x th tg l s W) : W.cell? ⟨wb, 0, none⟩ = some (.int .i64 o) ∧ W.cell? ⟨wb, 1, none⟩ = some (.int .i64 x) ∧ W.cell? ⟨wb, 2, none⟩ = some (.int .i64 th) ∧ W.cell? ⟨wb, 3, none⟩ = some (.int .i64 tg) ∧ W.cell? ⟨nb, 0, none⟩ = some (.int .i64 l) ∧ W.cell? ⟨nb, 1, none⟩ = some (.int .i64 s) :=
  ⟨h.w.cell 0, h.w.cell 1, h.w.cell 2, h.w.cell 3, h.n.cell 0, h.n.cell 1⟩
theorem XS.lts (h : XS wb nb o x th tg l s W) : wb < W.heap.size ∧ nb < W.heap.size := ⟨h.w.lt, h.n.lt⟩
end

theorem writes_out (v x tg : Int) (w : World) (h : x < 0 ∨ 65535 < x ∨ tg < 0 ∨ 16777215 ≤ tg) :
    Calls Try.prog 5 #[.int .u64 v, .int .i64 x, .int .i64 tg] w fun e w' => e = .returned (.bool true) ∧ Below w.heap.size w w' := by
  by_cases h1 : x < 0
  · clear h
    go_enter Try.func5, Try.ntmps5
    go_wp2_with fail
    refine (awake_any _).mono ?_; rintro e w1 ⟨rfl, hb1⟩
    go_wp2_with fail
    go_ret
    exact ⟨rfl, hb1⟩
  · by_cases h2 : 65535 < x
    · clear h
      go_enter Try.func5, Try.ntmps5
      go_wp2_with fail
      refine (awake_any _).mono ?_; rintro e w1 ⟨rfl, hb1⟩
      go_wp2_with fail
      go_ret
      exact ⟨rfl, hb1⟩
    · by_cases h3 : tg < 0
      · clear h
        go_enter Try.func5, Try.ntmps5
        go_wp2_with fail
        refine (awake_any _).mono ?_; rintro e w1 ⟨rfl, hb1⟩
        go_wp2_with fail
        go_ret
        exact ⟨rfl, hb1⟩
      · have h4 : 16777215 ≤ tg := by omega
        clear h
        go_enter Try.func5, Try.ntmps5
        go_wp2_with fail
        refine (awake_any _).mono ?_; rintro e w1 ⟨rfl, hb1⟩
        go_wp2_with fail
        go_ret
        exact ⟨rfl, hb1⟩

set_option maxHeartbeats 4000000 in
theorem writes_no (v x tg : Int) (w : World) (hv0 : 0 ≤ v) (hv1 : v ≤ 18446744073709551615) (xl : 0 ≤ x) (xh : x ≤ 65535) (tl : 0 ≤ tg) (th1 : tg < 16777215) (hr : rightV v = false) :
    Calls Try.prog 5 #[.int .u64 v, .int .i64 x, .int .i64 tg] w fun e w' => e = .returned (.bool true) ∧ Below w.heap.size w w' := by
  have HR := Lib.hid hr
  clear hr
  obtain ⟨o, e1⟩ : ∃ o, v / 65536 % 65536 = o := ⟨_, rfl⟩
  obtain ⟨y, e2⟩ : ∃ o, v % 65536 = o := ⟨_, rfl⟩
  obtain ⟨th, e3⟩ : ∃ o, v / 4294967296 % 256 = o := ⟨_, rfl⟩
  obtain ⟨t0, e4⟩ : ∃ o, v / 1099511627776 = o := ⟨_, rfl⟩
  have HRW : Hid (rightW o y th t0 = false) := Lib.hid (by have := HR.out; unfold rightV at this; rw [e1, e2, e3, e4] at this; exact this)
  have HE := Lib.hid (And.intro e1 (And.intro e2 (And.intro e3 e4)))
  clear e1 e2 e3 e4
  go_enter Try.func5, Try.ntmps5
  go_wp2_with fail
  refine begun_any.mono ?_; rintro e w1 ⟨p, g, rfl, np, ng, A1, hb1⟩
  rw [kc_zero] at A1
  have HA := Lib.hid A1
  have HN := Lib.hid (And.intro np ng)
  have HB := Lib.hid hb1
  clear A1 np ng hb1
  go_wp2_with fail
  refine (pm_of p _).mono ?_; rintro e w2 ⟨rfl, hb2⟩
  have HA2 := Lib.hid (HA.out.below hb2 (Nat.le_refl _))
  have HB2 := Lib.hid (keepL HB.out hb2 HB.out.size)
  clear hb2 HA HB
  go_wp2_with fail
  refine small_any.mono ?_; rintro e w3 ⟨rfl, hb3⟩
  have HC0 : Hid (CB (kc 0 0) 0) := Lib.hid (kc_zero ▸ cb_zero)
  have HP0 := Lib.hid (PS.vars (th := 3) (tg := tg) (HA2.out.below hb3 (Nat.le_refl _)) HC0.out (keepL HB2.out hb3 HB2.out.size) HN.out.1 HN.out.2)
  clear hb3 HA2 HB2 HC0
  go_wp2_with fail
  refine at_1.mono ?_; rintro e w4 ⟨rfl, hb4⟩
  have HP1 := Lib.hid (HP0.out.below hb4)
  clear hb4
  generalize w3.heap.size = mb at HP1 ⊢
  obtain ⟨v0, v1, v2, v3, v4, v5⟩ := HP1.out.vs.cells
  obtain ⟨l0, l1, l2⟩ := HP1.out.vs.lts
  go_wp2_with fail
  refine (store_kc HP1.out.ar (atK_lt (by omega)) hv0 hv1 HP1.out.cb (by omega)).mono ?_; rintro e w2 ⟨rfl, A5, C5, O5⟩
  have HP2 := Lib.hid (HP1.out.arena A5 C5 O5)
  clear A5 C5 O5
  clear v0 v1 v2 v3 v4 v5 l0 l1 l2
  obtain ⟨v0, v1, v2, v3, v4, v5⟩ := HP2.out.vs.cells
  obtain ⟨l0, l1, l2⟩ := HP2.out.vs.lts
  go_wp2_with fail
  refine (rparts_is hv0 hv1 HE.out.1 HE.out.2.1 HE.out.2.2.1 HE.out.2.2.2).mono ?_; rintro e w3 ⟨rfl, hb⟩
  have HP3 := Lib.hid (HP2.out.below hb)
  clear hb
  clear v0 v1 v2 v3 v4 v5 l0 l1 l2
  obtain ⟨v0, v1, v2, v3, v4, v5⟩ := HP3.out.vs.cells
  obtain ⟨l0, l1, l2⟩ := HP3.out.vs.lts
  have HW3 := Lib.hid (Blk.new w3 56 #[.int .i64 o, .int .i64 y, .int .i64 th, .int .i64 t0])
  have HP4 := Lib.hid (HP3.out.alloc (.cells #[.int .i64 o, .int .i64 y, .int .i64 th, .int .i64 t0] 56))
  go_wp2_with fail
  refine (counts_kc HP4.out.ar).mono ?_; rintro e w5 ⟨rfl, hb⟩
  have HX5 : Hid (XS w3.heap.size w5.heap.size o y th t0 0 1 (w5.alloc (.cells #[.int .i64 0, .int .i64 1, .int .i64 0, .int .i64 0, .int .i64 0] 66))) := Lib.hid ⟨(HW3.out.later hb).alloc _, Blk.new _ _ _⟩
  have HP5 := Lib.hid ((HP4.out.below hb).alloc (.cells #[.int .i64 0, .int .i64 1, .int .i64 0, .int .i64 0, .int .i64 0] 66))
  clear hb HW3
  generalize w3.heap.size = wb at HX5 ⊢
  clear v0 v1 v2 v3 v4 v5 l0 l1 l2
  have hvs : ∀ W, VS mb (mb + 1) (mb + 2) p 3 tg W → W.cell? ⟨mb, 0, none⟩ = some (.pointer (some ⟨p, 0, none⟩)) ∧ W.cell? ⟨mb + 1, 0, none⟩ = some (.int .i64 2) ∧ W.cell? ⟨mb + 1, 1, none⟩ = some (.int .i64 0) ∧ W.cell? ⟨mb + 1, 2, none⟩ = some (.int .i64 8) ∧ W.cell? ⟨mb + 2, 0, none⟩ = some (.int .i64 3) ∧ W.cell? ⟨mb + 2, 1, none⟩ = some (.int .i64 tg) := fun W h => h.cells
  obtain ⟨v0, v1, v2, v3, v4, v5⟩ := (HP5.out.vs).cells
  obtain ⟨l0, l1, l2⟩ := HP5.out.vs.lts
  obtain ⟨x0, x1, x2, x3, x4, x5⟩ := HX5.out.cells
  obtain ⟨k0, k1⟩ := HX5.out.lts
  have HF : Hid (upd (kc 0 0) (atK 1) v (atK 1) = v) := Lib.hid (upd_same _ _ _)
  have HFR : Hid (rightV (upd (kc 0 0) (atK 1) v (atK 1)) = false) := Lib.hid (by rw [upd_same]; exact HR.out)
  go_wp2_with fail
  have HPd := Lib.hid HP5.out.drew
  have HXd := Lib.hid (HX5.out.later (Below.refl _ _).drew)
  go_region_held3 (VS mb (mb + 1) (mb + 2) p 3 tg) (first | (with_reducible assumption) | (with_reducible exact HPd.out.vs) | (with_reducible exact HPt.out.vs) | (with_reducible exact HP6.out.vs))
    (first
      | (go_at_call 12; ((with_reducible refine at_1.mono ?_); rintro e w9 ⟨rfl, hb⟩; have HPt := Lib.hid (HPd.out.below hb); have HXt := Lib.hid (HXd.out.later hb); clear hb))
      | (go_at_call 15; ((with_reducible refine (write_kcno HPt.out.ar (atK_lt (by omega)) HFR.out HPt.out.cb (by omega)).mono ?_); rintro e w6 ⟨rfl, A5, C5, O5⟩; have HP6 := Lib.hid (HPt.out.arena A5 C5 O5); have HX6 := Lib.hid (HXt.out.arena HPt.out.ar O5); clear A5 C5 O5)))
  clear HPd HPt HXd HXt
  clear v0 v1 v2 v3 v4 v5 l0 l1 l2 x0 x1 x2 x3 x4 x5 k0 k1
  obtain ⟨v0, v1, v2, v3, v4, v5⟩ := HP6.out.vs.cells
  obtain ⟨l0, l1, l2⟩ := HP6.out.vs.lts
  obtain ⟨x0, x1, x2, x3, x4, x5⟩ := HX6.out.cells
  obtain ⟨k0, k1⟩ := HX6.out.lts
  clear hvs
  go_wp2_with fail
  refine (at_1).mono ?_; rintro e w7 ⟨rfl, hb⟩
  have HP7 := Lib.hid (HP6.out.below hb)
  have HX7 := Lib.hid (HX6.out.later hb)
  clear hb
  clear v0 v1 v2 v3 v4 v5 l0 l1 l2 x0 x1 x2 x3 x4 x5 k0 k1
  obtain ⟨v0, v1, v2, v3, v4, v5⟩ := HP7.out.vs.cells
  obtain ⟨l0, l1, l2⟩ := HP7.out.vs.lts
  obtain ⟨x0, x1, x2, x3, x4, x5⟩ := HX7.out.cells
  obtain ⟨k0, k1⟩ := HX7.out.lts
  go_wp2_with fail
  refine (load_kc HP7.out.ar (atK_lt (by omega)) HF.out HP7.out.cb (by omega)).mono ?_; rintro e w8 ⟨rfl, A5, C5, O5⟩
  have HP8 := Lib.hid (HP7.out.arena A5 C5 O5)
  have HX8 := Lib.hid (HX7.out.arena HP7.out.ar O5)
  clear A5 C5 O5
  clear v0 v1 v2 v3 v4 v5 l0 l1 l2 x0 x1 x2 x3 x4 x5 k0 k1
  obtain ⟨v0, v1, v2, v3, v4, v5⟩ := HP8.out.vs.cells
  obtain ⟨l0, l1, l2⟩ := HP8.out.vs.lts
  obtain ⟨x0, x1, x2, x3, x4, x5⟩ := HX8.out.cells
  obtain ⟨k0, k1⟩ := HX8.out.lts
  go_wp2_with fail
  refine (wrright_is HRW.out).mono ?_; rintro e w9 ⟨rfl, hb⟩
  have HP9 := Lib.hid (HP8.out.below hb)
  have HX9 := Lib.hid (HX8.out.later hb)
  clear hb
  clear v0 v1 v2 v3 v4 v5 l0 l1 l2 x0 x1 x2 x3 x4 x5 k0 k1
  obtain ⟨v0, v1, v2, v3, v4, v5⟩ := HP9.out.vs.cells
  obtain ⟨l0, l1, l2⟩ := HP9.out.vs.lts
  obtain ⟨x0, x1, x2, x3, x4, x5⟩ := HX9.out.cells
  obtain ⟨k0, k1⟩ := HX9.out.lts
  go_wp2_with fail
  refine (counts_kc HP9.out.ar).mono ?_; rintro e w10 ⟨rfl, hb⟩
  have HP20 := Lib.hid (HP9.out.below hb)
  have HX20 := Lib.hid (HX9.out.later hb)
  clear hb
  clear v0 v1 v2 v3 v4 v5 l0 l1 l2 x0 x1 x2 x3 x4 x5 k0 k1
  obtain ⟨v0, v1, v2, v3, v4, v5⟩ := HP20.out.vs.cells
  obtain ⟨l0, l1, l2⟩ := HP20.out.vs.lts
  obtain ⟨x0, x1, x2, x3, x4, x5⟩ := HX20.out.cells
  obtain ⟨k0, k1⟩ := HX20.out.lts
  go_wp2_with fail
  refine (awake_any _).mono ?_; rintro e w11 ⟨rfl, hb⟩
  have HP21 := Lib.hid ((HP20.out.alloc _).below hb)
  clear hb
  go_wp2_with fail
  go_ret
  exact ⟨rfl, HP21.out.be⟩

theorem bits_plain (x : Int) : bitsW x x 0 0 = x * 65537 := by unfold bitsW; omega
theorem f6_at (f : Nat → Int) (b s1 s2 s3 : Int) : upd (upd (upd (upd f (atK 1) b) 2 s1) 2 s2) 2 s3 (atK 1) = b := by
  rw [upd_other _ _ (by decide), upd_other _ _ (by decide), upd_other _ _ (by decide), upd_same]
theorem st_3 {w : World} : Calls Try.prog 23 #[vL 2 0 8, .int .i64 3] w fun e w' => e = .returned (.int .i64 2) ∧ Below w.heap.size w w' := state_yes 2 ((0 : Nat) : Int) 8 3 (by omega) (by omega) rt8 w
theorem isW_at {v o x th tg : Int} (f : Nat → Int) (k : Nat) (h : IsW v o x th tg) : IsW (upd f k v k) o x th tg := by rw [upd_same]; exact h
theorem rightV_at {v : Int} (f : Nat → Int) (k : Nat) (h : rightV v = true) : rightV (upd f k v k) = true := by rw [upd_same]; exact h
theorem isW_parts {v o y th t0 : Int} (e1 : v / 65536 % 65536 = o) (e2 : v % 65536 = y) (e3 : v / 4294967296 % 256 = th) (e4 : v / 1099511627776 = t0) (hv : rightV v = true) : IsW v o y th t0 :=
  ⟨by simp only [rO, hv, if_true, e1], by simp only [rN, hv, if_true, e2], by simp only [rT, hv, if_true, e3], by simp only [rG, hv, if_true, e4]⟩

set_option maxHeartbeats 4000000 in
theorem writes_a (v x tg o y : Int) (w : World) (hv0 : 0 ≤ v) (hv1 : v ≤ 18446744073709551615) (xl : 0 ≤ x) (xh : x ≤ 65535) (tl : 0 ≤ tg) (th1 : tg < 16777215) (e1 : v / 65536 % 65536 = o) (e2 : v % 65536 = y) (e3 : v / 4294967296 % 256 = 3) (e4 : v / 1099511627776 = tg) (hr : rightV v = true) :
    Calls Try.prog 5 #[.int .u64 v, .int .i64 x, .int .i64 tg] w fun e w' => e = .returned (.bool true) ∧ Below w.heap.size w w' := by
  have hI := isW_parts e1 e2 e3 e4 hr
  obtain ⟨h1, h2, h3, h4, h5, h6, h7, h8⟩ := right_bd hI.right
  have HRW := Lib.hid hI.right
  have HI := Lib.hid hI
  have HV := Lib.hid hr
  have HE := Lib.hid (And.intro e1 (And.intro e2 (And.intro e3 e4)))
  have hz : wrO o y 3 tg 3 tg = o := by
    unfold wrO
    rw [if_pos ⟨rfl, rfl⟩]
  have HZ := Lib.hid hz
  have HWZ : Hid (rightW o x 3 tg = true) := Lib.hid (right_word (by omega) (by omega) xl xh (by omega) (by omega) tl (by omega))
  clear e1 e2 e3 e4 hI hr hz h1 h2 h3 h4 h5 h6 h7 h8
  go_enter Try.func5, Try.ntmps5
  go_wp2_with fail
  refine begun_any.mono ?_; rintro e w1 ⟨p, g, rfl, np, ng, A1, hb1⟩
  rw [kc_zero] at A1
  have HA := Lib.hid A1
  have HN := Lib.hid (And.intro np ng)
  have HB := Lib.hid hb1
  clear A1 np ng hb1
  go_wp2_with fail
  refine (pm_of p _).mono ?_; rintro e w2 ⟨rfl, hb2⟩
  have HA2 := Lib.hid (HA.out.below hb2 (Nat.le_refl _))
  have HB2 := Lib.hid (keepL HB.out hb2 HB.out.size)
  clear hb2 HA HB
  go_wp2_with fail
  refine small_any.mono ?_; rintro e w3 ⟨rfl, hb3⟩
  have HC0 : Hid (CB (kc 0 0) 0) := Lib.hid (kc_zero ▸ cb_zero)
  have HP0 := Lib.hid (PS.vars (th := 3) (tg := tg) (HA2.out.below hb3 (Nat.le_refl _)) HC0.out (keepL HB2.out hb3 HB2.out.size) HN.out.1 HN.out.2)
  clear hb3 HA2 HB2 HC0
  go_wp2_with fail
  refine at_1.mono ?_; rintro e w4 ⟨rfl, hb4⟩
  have HP1 := Lib.hid (HP0.out.below hb4)
  clear hb4
  generalize w3.heap.size = mb at HP1 ⊢
  obtain ⟨v0, v1, v2, v3, v4, v5⟩ := HP1.out.vs.cells
  obtain ⟨l0, l1, l2⟩ := HP1.out.vs.lts
  go_wp2_with fail
  refine (store_kc HP1.out.ar (atK_lt (by omega)) hv0 hv1 HP1.out.cb (by omega)).mono ?_; rintro e w2 ⟨rfl, A5, C5, O5⟩
  have HP2 := Lib.hid (HP1.out.arena A5 C5 O5)
  clear A5 C5 O5
  clear v0 v1 v2 v3 v4 v5 l0 l1 l2
  obtain ⟨v0, v1, v2, v3, v4, v5⟩ := HP2.out.vs.cells
  obtain ⟨l0, l1, l2⟩ := HP2.out.vs.lts
  go_wp2_with fail
  refine (rparts_is hv0 hv1 HE.out.1 HE.out.2.1 HE.out.2.2.1 HE.out.2.2.2).mono ?_; rintro e w3 ⟨rfl, hb⟩
  have HP3 := Lib.hid (HP2.out.below hb)
  clear hb
  clear v0 v1 v2 v3 v4 v5 l0 l1 l2
  obtain ⟨v0, v1, v2, v3, v4, v5⟩ := HP3.out.vs.cells
  obtain ⟨l0, l1, l2⟩ := HP3.out.vs.lts
  have HW3 := Lib.hid (Blk.new w3 56 #[.int .i64 o, .int .i64 y, .int .i64 3, .int .i64 tg])
  have HP4 := Lib.hid (HP3.out.alloc (.cells #[.int .i64 o, .int .i64 y, .int .i64 3, .int .i64 tg] 56))
  go_wp2_with fail
  refine (counts_kc HP4.out.ar).mono ?_; rintro e w5 ⟨rfl, hb⟩
  have HX5 : Hid (XS w3.heap.size w5.heap.size o y 3 tg 0 1 (w5.alloc (.cells #[.int .i64 0, .int .i64 1, .int .i64 0, .int .i64 0, .int .i64 0] 66))) := Lib.hid ⟨(HW3.out.later hb).alloc _, Blk.new _ _ _⟩
  have HP5 := Lib.hid ((HP4.out.below hb).alloc (.cells #[.int .i64 0, .int .i64 1, .int .i64 0, .int .i64 0, .int .i64 0] 66))
  clear hb HW3
  generalize w3.heap.size = wb at HX5 ⊢
  clear v0 v1 v2 v3 v4 v5 l0 l1 l2
  have hvs : ∀ W, VS mb (mb + 1) (mb + 2) p 3 tg W → W.cell? ⟨mb, 0, none⟩ = some (.pointer (some ⟨p, 0, none⟩)) ∧ W.cell? ⟨mb + 1, 0, none⟩ = some (.int .i64 2) ∧ W.cell? ⟨mb + 1, 1, none⟩ = some (.int .i64 0) ∧ W.cell? ⟨mb + 1, 2, none⟩ = some (.int .i64 8) ∧ W.cell? ⟨mb + 2, 0, none⟩ = some (.int .i64 3) ∧ W.cell? ⟨mb + 2, 1, none⟩ = some (.int .i64 tg) := fun W h => h.cells
  obtain ⟨v0, v1, v2, v3, v4, v5⟩ := (HP5.out.vs).cells
  obtain ⟨l0, l1, l2⟩ := HP5.out.vs.lts
  obtain ⟨x0, x1, x2, x3, x4, x5⟩ := HX5.out.cells
  obtain ⟨k0, k1⟩ := HX5.out.lts
  go_wp2_with fail
  have HPd := Lib.hid HP5.out.drew
  have HXd := Lib.hid (HX5.out.later (Below.refl _ _).drew)
  go_region_held3 (VS mb (mb + 1) (mb + 2) p 3 tg) (first | (with_reducible assumption) | (with_reducible exact HPd.out.vs) | (with_reducible exact HPt.out.vs) | (with_reducible exact HP6.out.vs))
    (first
      | (go_at_call 12; ((with_reducible refine at_1.mono ?_); rintro e w9 ⟨rfl, hb⟩; have HPt := Lib.hid (HPd.out.below hb); have HXt := Lib.hid (HXd.out.later hb); clear hb))
      | (go_at_call 15; ((with_reducible refine (write_kc HPt.out.ar (atK_lt (by omega)) (isW_at _ _ HI.out) (rightV_at _ _ HV.out) HZ.out HWZ.out HPt.out.cb (by omega)).mono ?_); rintro e w6 ⟨rfl, A5, C5, O5⟩; have HP6 := Lib.hid (HPt.out.arena A5 C5 O5); have HX6 := Lib.hid (HXt.out.arena HPt.out.ar O5); clear A5 C5 O5)))
  clear HPd HPt HXd HXt
  clear v0 v1 v2 v3 v4 v5 l0 l1 l2 x0 x1 x2 x3 x4 x5 k0 k1
  obtain ⟨v0, v1, v2, v3, v4, v5⟩ := HP6.out.vs.cells
  obtain ⟨l0, l1, l2⟩ := HP6.out.vs.lts
  obtain ⟨x0, x1, x2, x3, x4, x5⟩ := HX6.out.cells
  obtain ⟨k0, k1⟩ := HX6.out.lts
  go_wp2_with fail
  refine (at_1).mono ?_; rintro e w7 ⟨rfl, hb⟩
  have HP7 := Lib.hid (HP6.out.below hb)
  have HX7 := Lib.hid (HX6.out.later hb)
  clear hb
  clear v0 v1 v2 v3 v4 v5 l0 l1 l2 x0 x1 x2 x3 x4 x5 k0 k1
  obtain ⟨v0, v1, v2, v3, v4, v5⟩ := HP7.out.vs.cells
  obtain ⟨l0, l1, l2⟩ := HP7.out.vs.lts
  obtain ⟨x0, x1, x2, x3, x4, x5⟩ := HX7.out.cells
  obtain ⟨k0, k1⟩ := HX7.out.lts
  go_wp2_with fail
  refine (load_kc HP7.out.ar (atK_lt (by omega)) (upd_same _ _ _) HP7.out.cb (by omega)).mono ?_; rintro e w8 ⟨rfl, A5, C5, O5⟩
  have HP8 := Lib.hid (HP7.out.arena A5 C5 O5)
  have HX8 := Lib.hid (HX7.out.arena HP7.out.ar O5)
  clear A5 C5 O5
  clear v0 v1 v2 v3 v4 v5 l0 l1 l2 x0 x1 x2 x3 x4 x5 k0 k1
  obtain ⟨v0, v1, v2, v3, v4, v5⟩ := HP8.out.vs.cells
  obtain ⟨l0, l1, l2⟩ := HP8.out.vs.lts
  obtain ⟨x0, x1, x2, x3, x4, x5⟩ := HX8.out.cells
  obtain ⟨k0, k1⟩ := HX8.out.lts
  go_wp2_with fail
  refine (wrright_is HRW.out).mono ?_; rintro e w9 ⟨rfl, hb⟩
  have HP9 := Lib.hid (HP8.out.below hb)
  have HX9 := Lib.hid (HX8.out.later hb)
  clear hb
  clear v0 v1 v2 v3 v4 v5 l0 l1 l2 x0 x1 x2 x3 x4 x5 k0 k1
  obtain ⟨v0, v1, v2, v3, v4, v5⟩ := HP9.out.vs.cells
  obtain ⟨l0, l1, l2⟩ := HP9.out.vs.lts
  obtain ⟨x0, x1, x2, x3, x4, x5⟩ := HX9.out.cells
  obtain ⟨k0, k1⟩ := HX9.out.lts
  go_wp2_with fail
  refine (rbits_w o x 3 tg _ HWZ.out).mono ?_; rintro e w10 ⟨rfl, hb⟩
  have HP10 := Lib.hid (HP9.out.below hb)
  have HX10 := Lib.hid (HX9.out.later hb)
  clear hb
  clear v0 v1 v2 v3 v4 v5 l0 l1 l2 x0 x1 x2 x3 x4 x5 k0 k1
  obtain ⟨v0, v1, v2, v3, v4, v5⟩ := HP10.out.vs.cells
  obtain ⟨l0, l1, l2⟩ := HP10.out.vs.lts
  obtain ⟨x0, x1, x2, x3, x4, x5⟩ := HX10.out.cells
  obtain ⟨k0, k1⟩ := HX10.out.lts
  go_wp2_with fail
  have HPd := Lib.hid HP10.out.drew
  have HXd := Lib.hid (HX10.out.later (Below.refl _ _).drew)
  go_region_held3 (VS mb (mb + 1) (mb + 2) p 3 tg) (first | (with_reducible assumption) | (with_reducible exact HPd.out.vs) | (with_reducible exact HPt.out.vs) | (with_reducible exact HP11.out.vs))
    (first
      | (go_at_call 12; ((with_reducible refine at_1.mono ?_); rintro e w9 ⟨rfl, hb⟩; have HPt := Lib.hid (HPd.out.below hb); have HXt := Lib.hid (HXd.out.later hb); clear hb))
      | (go_at_call 17; ((with_reducible refine (clean_kc HPt.out.ar (atK_lt (by omega)) (isW_at _ _ (isW_bits HWZ.out).1) (rightV_at _ _ (isW_bits HWZ.out).2) HPt.out.cb (by omega)).mono ?_); rintro e w11 ⟨rfl, A5, C5, O5⟩; have HP11 := Lib.hid (HPt.out.arena A5 C5 O5); have HX11 := Lib.hid (HXt.out.arena HPt.out.ar O5); clear A5 C5 O5)))
  clear HPd HPt HXd HXt
  clear v0 v1 v2 v3 v4 v5 l0 l1 l2 x0 x1 x2 x3 x4 x5 k0 k1
  obtain ⟨v0, v1, v2, v3, v4, v5⟩ := HP11.out.vs.cells
  obtain ⟨l0, l1, l2⟩ := HP11.out.vs.lts
  obtain ⟨x0, x1, x2, x3, x4, x5⟩ := HX11.out.cells
  obtain ⟨k0, k1⟩ := HX11.out.lts
  go_wp2_with fail
  refine (begin_kc (t := 2) (by rfl) (by omega) HP11.out.ar (by omega) (by omega) (by omega) HP11.out.cb (by omega)).mono ?_; rintro e w12 ⟨rfl, A5, C5, O5⟩
  have HP12 := Lib.hid (HP11.out.arena A5 C5 O5)
  have HX12 := Lib.hid (HX11.out.arena HP11.out.ar O5)
  clear A5 C5 O5
  clear v0 v1 v2 v3 v4 v5 l0 l1 l2 x0 x1 x2 x3 x4 x5 k0 k1
  obtain ⟨v0, v1, v2, v3, v4, v5⟩ := HP12.out.vs.cells
  obtain ⟨l0, l1, l2⟩ := HP12.out.vs.lts
  obtain ⟨x0, x1, x2, x3, x4, x5⟩ := HX12.out.cells
  obtain ⟨k0, k1⟩ := HX12.out.lts
  go_wp2_with fail
  refine (st_3).mono ?_; rintro e w13 ⟨rfl, hb⟩
  have HP13 := Lib.hid (HP12.out.below hb)
  have HX13 := Lib.hid (HX12.out.later hb)
  clear hb
  clear v0 v1 v2 v3 v4 v5 l0 l1 l2 x0 x1 x2 x3 x4 x5 k0 k1
  obtain ⟨v0, v1, v2, v3, v4, v5⟩ := HP13.out.vs.cells
  obtain ⟨l0, l1, l2⟩ := HP13.out.vs.lts
  obtain ⟨x0, x1, x2, x3, x4, x5⟩ := HX13.out.cells
  obtain ⟨k0, k1⟩ := HX13.out.lts
  go_wp2_with fail
  refine (load_kc (k := 2) HP13.out.ar (by omega) (upd_same _ _ _) HP13.out.cb (by omega)).mono ?_; rintro e w14 ⟨rfl, A5, C5, O5⟩
  have HP14 := Lib.hid (HP13.out.arena A5 C5 O5)
  have HX14 := Lib.hid (HX13.out.arena HP13.out.ar O5)
  clear A5 C5 O5
  clear v0 v1 v2 v3 v4 v5 l0 l1 l2 x0 x1 x2 x3 x4 x5 k0 k1
  obtain ⟨v0, v1, v2, v3, v4, v5⟩ := HP14.out.vs.cells
  obtain ⟨l0, l1, l2⟩ := HP14.out.vs.lts
  obtain ⟨x0, x1, x2, x3, x4, x5⟩ := HX14.out.cells
  obtain ⟨k0, k1⟩ := HX14.out.lts
  go_wp2_with fail
  refine (commit_kc (t := 2) (by rfl) (by omega) HP14.out.ar (by omega) (by omega) (by omega) HP14.out.cb (by omega)).mono ?_; rintro e w15 ⟨rfl, A5, C5, O5⟩
  have HP15 := Lib.hid (HP14.out.arena A5 C5 O5)
  have HX15 := Lib.hid (HX14.out.arena HP14.out.ar O5)
  clear A5 C5 O5
  clear v0 v1 v2 v3 v4 v5 l0 l1 l2 x0 x1 x2 x3 x4 x5 k0 k1
  obtain ⟨v0, v1, v2, v3, v4, v5⟩ := HP15.out.vs.cells
  obtain ⟨l0, l1, l2⟩ := HP15.out.vs.lts
  obtain ⟨x0, x1, x2, x3, x4, x5⟩ := HX15.out.cells
  obtain ⟨k0, k1⟩ := HX15.out.lts
  go_wp2_with fail
  refine (st_3).mono ?_; rintro e w16 ⟨rfl, hb⟩
  have HP16 := Lib.hid (HP15.out.below hb)
  have HX16 := Lib.hid (HX15.out.later hb)
  clear hb
  clear v0 v1 v2 v3 v4 v5 l0 l1 l2 x0 x1 x2 x3 x4 x5 k0 k1
  obtain ⟨v0, v1, v2, v3, v4, v5⟩ := HP16.out.vs.cells
  obtain ⟨l0, l1, l2⟩ := HP16.out.vs.lts
  obtain ⟨x0, x1, x2, x3, x4, x5⟩ := HX16.out.cells
  obtain ⟨k0, k1⟩ := HX16.out.lts
  go_wp2_with fail
  refine (load_kc (k := 2) HP16.out.ar (by omega) (upd_same _ _ _) HP16.out.cb (by omega)).mono ?_; rintro e w17 ⟨rfl, A5, C5, O5⟩
  have HP17 := Lib.hid (HP16.out.arena A5 C5 O5)
  have HX17 := Lib.hid (HX16.out.arena HP16.out.ar O5)
  clear A5 C5 O5
  clear v0 v1 v2 v3 v4 v5 l0 l1 l2 x0 x1 x2 x3 x4 x5 k0 k1
  obtain ⟨v0, v1, v2, v3, v4, v5⟩ := HP17.out.vs.cells
  obtain ⟨l0, l1, l2⟩ := HP17.out.vs.lts
  obtain ⟨x0, x1, x2, x3, x4, x5⟩ := HX17.out.cells
  obtain ⟨k0, k1⟩ := HX17.out.lts
  go_wp2_with fail
  refine (end_kc (t := 2) (by rfl) (by omega) HP17.out.ar (by omega) (by omega) (by omega) HP17.out.cb (by omega)).mono ?_; rintro e w18 ⟨rfl, A5, C5, O5⟩
  have HP18 := Lib.hid (HP17.out.arena A5 C5 O5)
  have HX18 := Lib.hid (HX17.out.arena HP17.out.ar O5)
  clear A5 C5 O5
  clear v0 v1 v2 v3 v4 v5 l0 l1 l2 x0 x1 x2 x3 x4 x5 k0 k1
  obtain ⟨v0, v1, v2, v3, v4, v5⟩ := HP18.out.vs.cells
  obtain ⟨l0, l1, l2⟩ := HP18.out.vs.lts
  obtain ⟨x0, x1, x2, x3, x4, x5⟩ := HX18.out.cells
  obtain ⟨k0, k1⟩ := HX18.out.lts
  go_wp2_with fail
  refine (st_3).mono ?_; rintro e w19 ⟨rfl, hb⟩
  have HP19 := Lib.hid (HP18.out.below hb)
  have HX19 := Lib.hid (HX18.out.later hb)
  clear hb
  clear v0 v1 v2 v3 v4 v5 l0 l1 l2 x0 x1 x2 x3 x4 x5 k0 k1
  obtain ⟨v0, v1, v2, v3, v4, v5⟩ := HP19.out.vs.cells
  obtain ⟨l0, l1, l2⟩ := HP19.out.vs.lts
  obtain ⟨x0, x1, x2, x3, x4, x5⟩ := HX19.out.cells
  obtain ⟨k0, k1⟩ := HX19.out.lts
  go_wp2_with fail
  refine (load_kc (k := 2) HP19.out.ar (by omega) (upd_same _ _ _) HP19.out.cb (by omega)).mono ?_; rintro e w20 ⟨rfl, A5, C5, O5⟩
  have HP20 := Lib.hid (HP19.out.arena A5 C5 O5)
  have HX20 := Lib.hid (HX19.out.arena HP19.out.ar O5)
  clear A5 C5 O5
  clear v0 v1 v2 v3 v4 v5 l0 l1 l2 x0 x1 x2 x3 x4 x5 k0 k1
  obtain ⟨v0, v1, v2, v3, v4, v5⟩ := HP20.out.vs.cells
  obtain ⟨l0, l1, l2⟩ := HP20.out.vs.lts
  obtain ⟨x0, x1, x2, x3, x4, x5⟩ := HX20.out.cells
  obtain ⟨k0, k1⟩ := HX20.out.lts
  go_wp2_with fail
  refine (at_1).mono ?_; rintro e w21 ⟨rfl, hb⟩
  have HP21 := Lib.hid (HP20.out.below hb)
  have HX21 := Lib.hid (HX20.out.later hb)
  clear hb
  clear v0 v1 v2 v3 v4 v5 l0 l1 l2 x0 x1 x2 x3 x4 x5 k0 k1
  obtain ⟨v0, v1, v2, v3, v4, v5⟩ := HP21.out.vs.cells
  obtain ⟨l0, l1, l2⟩ := HP21.out.vs.lts
  obtain ⟨x0, x1, x2, x3, x4, x5⟩ := HX21.out.cells
  obtain ⟨k0, k1⟩ := HX21.out.lts
  go_wp2_with fail
  refine (load_kc HP21.out.ar (atK_lt (by omega)) ((f6_at _ _ _ _ _).trans (bits_plain x)) HP21.out.cb (by omega)).mono ?_; rintro e w22 ⟨rfl, A5, C5, O5⟩
  have HP22 := Lib.hid (HP21.out.arena A5 C5 O5)
  have HX22 := Lib.hid (HX21.out.arena HP21.out.ar O5)
  clear A5 C5 O5
  clear v0 v1 v2 v3 v4 v5 l0 l1 l2 x0 x1 x2 x3 x4 x5 k0 k1
  obtain ⟨v0, v1, v2, v3, v4, v5⟩ := HP22.out.vs.cells
  obtain ⟨l0, l1, l2⟩ := HP22.out.vs.lts
  obtain ⟨x0, x1, x2, x3, x4, x5⟩ := HX22.out.cells
  obtain ⟨k0, k1⟩ := HX22.out.lts
  go_wp2_with fail
  refine (counts_kc HP22.out.ar).mono ?_; rintro e w10 ⟨rfl, hb⟩
  have HP50 := Lib.hid ((HP22.out.below hb).alloc (.cells #[.int .i64 (0 + 1 + 1 + 1 + 1 + 1 + 1 + 1), .int .i64 (0 + 1 + 1 + 1 + 1 + 1 + 1), .int .i64 0, .int .i64 0, .int .i64 0] 66))
  have HX50 := Lib.hid (HX22.out.later hb)
  clear hb
  clear v0 v1 v2 v3 v4 v5 l0 l1 l2 x0 x1 x2 x3 x4 x5 k0 k1
  obtain ⟨x0, x1, x2, x3, x4, x5⟩ := HX50.out.cells
  obtain ⟨k0, k1⟩ := HX50.out.lts
  go_wp2_with fail
  refine (rplain_any x _ xl xh).mono ?_; rintro e w60 ⟨rfl, rfl⟩
  go_wp2_with fail
  refine (rstate_any tg false _ tl (by omega)).mono ?_; rintro e w60 ⟨rfl, rfl⟩
  go_wp2_with fail
  refine (rstate_any tg true _ tl (by omega)).mono ?_; rintro e w60 ⟨rfl, rfl⟩
  go_wp2_with fail
  refine (rstate_any (tg + 1) false _ (by omega) (by omega)).mono ?_; rintro e w60 ⟨rfl, rfl⟩
  go_wp2_with fail
  refine (awake_any _).mono ?_; rintro e w11 ⟨rfl, hb⟩
  go_wp2_with fail
  go_ret
  exact ⟨rfl, (HP50.out.below hb).be⟩

set_option maxHeartbeats 4000000 in
theorem writes_b (v x tg o y t0 : Int) (w : World) (hv0 : 0 ≤ v) (hv1 : v ≤ 18446744073709551615) (xl : 0 ≤ x) (xh : x ≤ 65535) (tl : 0 ≤ tg) (th1 : tg < 16777215) (e1 : v / 65536 % 65536 = o) (e2 : v % 65536 = y) (e3 : v / 4294967296 % 256 = 3) (e4 : v / 1099511627776 = t0) (hr : rightV v = true) (hne : (t0 == tg) = false) :
    Calls Try.prog 5 #[.int .u64 v, .int .i64 x, .int .i64 tg] w fun e w' => e = .returned (.bool true) ∧ Below w.heap.size w w' := by
  have hI := isW_parts e1 e2 e3 e4 hr
  obtain ⟨h1, h2, h3, h4, h5, h6, h7, h8⟩ := right_bd hI.right
  have HRW := Lib.hid hI.right
  have HI := Lib.hid hI
  have HV := Lib.hid hr
  have HE := Lib.hid (And.intro e1 (And.intro e2 (And.intro e3 e4)))
  have hz : wrO o y 3 t0 3 tg = y := by
    unfold wrO
    rw [if_neg]; rintro ⟨h, h9⟩; subst h9; simp at hne
  have HZ := Lib.hid hz
  have HWZ : Hid (rightW y x 3 tg = true) := Lib.hid (right_word (by omega) (by omega) xl xh (by omega) (by omega) tl (by omega))
  clear e1 e2 e3 e4 hI hr hz h1 h2 h3 h4 h5 h6 h7 h8
  go_enter Try.func5, Try.ntmps5
  go_wp2_with fail
  refine begun_any.mono ?_; rintro e w1 ⟨p, g, rfl, np, ng, A1, hb1⟩
  rw [kc_zero] at A1
  have HA := Lib.hid A1
  have HN := Lib.hid (And.intro np ng)
  have HB := Lib.hid hb1
  clear A1 np ng hb1
  go_wp2_with fail
  refine (pm_of p _).mono ?_; rintro e w2 ⟨rfl, hb2⟩
  have HA2 := Lib.hid (HA.out.below hb2 (Nat.le_refl _))
  have HB2 := Lib.hid (keepL HB.out hb2 HB.out.size)
  clear hb2 HA HB
  go_wp2_with fail
  refine small_any.mono ?_; rintro e w3 ⟨rfl, hb3⟩
  have HC0 : Hid (CB (kc 0 0) 0) := Lib.hid (kc_zero ▸ cb_zero)
  have HP0 := Lib.hid (PS.vars (th := 3) (tg := tg) (HA2.out.below hb3 (Nat.le_refl _)) HC0.out (keepL HB2.out hb3 HB2.out.size) HN.out.1 HN.out.2)
  clear hb3 HA2 HB2 HC0
  go_wp2_with fail
  refine at_1.mono ?_; rintro e w4 ⟨rfl, hb4⟩
  have HP1 := Lib.hid (HP0.out.below hb4)
  clear hb4
  generalize w3.heap.size = mb at HP1 ⊢
  obtain ⟨v0, v1, v2, v3, v4, v5⟩ := HP1.out.vs.cells
  obtain ⟨l0, l1, l2⟩ := HP1.out.vs.lts
  go_wp2_with fail
  refine (store_kc HP1.out.ar (atK_lt (by omega)) hv0 hv1 HP1.out.cb (by omega)).mono ?_; rintro e w2 ⟨rfl, A5, C5, O5⟩
  have HP2 := Lib.hid (HP1.out.arena A5 C5 O5)
  clear A5 C5 O5
  clear v0 v1 v2 v3 v4 v5 l0 l1 l2
  obtain ⟨v0, v1, v2, v3, v4, v5⟩ := HP2.out.vs.cells
  obtain ⟨l0, l1, l2⟩ := HP2.out.vs.lts
  go_wp2_with fail
  refine (rparts_is hv0 hv1 HE.out.1 HE.out.2.1 HE.out.2.2.1 HE.out.2.2.2).mono ?_; rintro e w3 ⟨rfl, hb⟩
  have HP3 := Lib.hid (HP2.out.below hb)
  clear hb
  clear v0 v1 v2 v3 v4 v5 l0 l1 l2
  obtain ⟨v0, v1, v2, v3, v4, v5⟩ := HP3.out.vs.cells
  obtain ⟨l0, l1, l2⟩ := HP3.out.vs.lts
  have HW3 := Lib.hid (Blk.new w3 56 #[.int .i64 o, .int .i64 y, .int .i64 3, .int .i64 t0])
  have HP4 := Lib.hid (HP3.out.alloc (.cells #[.int .i64 o, .int .i64 y, .int .i64 3, .int .i64 t0] 56))
  go_wp2_with fail
  refine (counts_kc HP4.out.ar).mono ?_; rintro e w5 ⟨rfl, hb⟩
  have HX5 : Hid (XS w3.heap.size w5.heap.size o y 3 t0 0 1 (w5.alloc (.cells #[.int .i64 0, .int .i64 1, .int .i64 0, .int .i64 0, .int .i64 0] 66))) := Lib.hid ⟨(HW3.out.later hb).alloc _, Blk.new _ _ _⟩
  have HP5 := Lib.hid ((HP4.out.below hb).alloc (.cells #[.int .i64 0, .int .i64 1, .int .i64 0, .int .i64 0, .int .i64 0] 66))
  clear hb HW3
  generalize w3.heap.size = wb at HX5 ⊢
  clear v0 v1 v2 v3 v4 v5 l0 l1 l2
  have hvs : ∀ W, VS mb (mb + 1) (mb + 2) p 3 tg W → W.cell? ⟨mb, 0, none⟩ = some (.pointer (some ⟨p, 0, none⟩)) ∧ W.cell? ⟨mb + 1, 0, none⟩ = some (.int .i64 2) ∧ W.cell? ⟨mb + 1, 1, none⟩ = some (.int .i64 0) ∧ W.cell? ⟨mb + 1, 2, none⟩ = some (.int .i64 8) ∧ W.cell? ⟨mb + 2, 0, none⟩ = some (.int .i64 3) ∧ W.cell? ⟨mb + 2, 1, none⟩ = some (.int .i64 tg) := fun W h => h.cells
  obtain ⟨v0, v1, v2, v3, v4, v5⟩ := (HP5.out.vs).cells
  obtain ⟨l0, l1, l2⟩ := HP5.out.vs.lts
  obtain ⟨x0, x1, x2, x3, x4, x5⟩ := HX5.out.cells
  obtain ⟨k0, k1⟩ := HX5.out.lts
  go_wp2_with fail
  have HPd := Lib.hid HP5.out.drew
  have HXd := Lib.hid (HX5.out.later (Below.refl _ _).drew)
  go_region_held3 (VS mb (mb + 1) (mb + 2) p 3 tg) (first | (with_reducible assumption) | (with_reducible exact HPd.out.vs) | (with_reducible exact HPt.out.vs) | (with_reducible exact HP6.out.vs))
    (first
      | (go_at_call 12; ((with_reducible refine at_1.mono ?_); rintro e w9 ⟨rfl, hb⟩; have HPt := Lib.hid (HPd.out.below hb); have HXt := Lib.hid (HXd.out.later hb); clear hb))
      | (go_at_call 15; ((with_reducible refine (write_kc HPt.out.ar (atK_lt (by omega)) (isW_at _ _ HI.out) (rightV_at _ _ HV.out) HZ.out HWZ.out HPt.out.cb (by omega)).mono ?_); rintro e w6 ⟨rfl, A5, C5, O5⟩; have HP6 := Lib.hid (HPt.out.arena A5 C5 O5); have HX6 := Lib.hid (HXt.out.arena HPt.out.ar O5); clear A5 C5 O5)))
  clear HPd HPt HXd HXt
  clear v0 v1 v2 v3 v4 v5 l0 l1 l2 x0 x1 x2 x3 x4 x5 k0 k1
  obtain ⟨v0, v1, v2, v3, v4, v5⟩ := HP6.out.vs.cells
  obtain ⟨l0, l1, l2⟩ := HP6.out.vs.lts
  obtain ⟨x0, x1, x2, x3, x4, x5⟩ := HX6.out.cells
  obtain ⟨k0, k1⟩ := HX6.out.lts
  go_wp2_with fail
  refine (at_1).mono ?_; rintro e w7 ⟨rfl, hb⟩
  have HP7 := Lib.hid (HP6.out.below hb)
  have HX7 := Lib.hid (HX6.out.later hb)
  clear hb
  clear v0 v1 v2 v3 v4 v5 l0 l1 l2 x0 x1 x2 x3 x4 x5 k0 k1
  obtain ⟨v0, v1, v2, v3, v4, v5⟩ := HP7.out.vs.cells
  obtain ⟨l0, l1, l2⟩ := HP7.out.vs.lts
  obtain ⟨x0, x1, x2, x3, x4, x5⟩ := HX7.out.cells
  obtain ⟨k0, k1⟩ := HX7.out.lts
  go_wp2_with fail
  refine (load_kc HP7.out.ar (atK_lt (by omega)) (upd_same _ _ _) HP7.out.cb (by omega)).mono ?_; rintro e w8 ⟨rfl, A5, C5, O5⟩
  have HP8 := Lib.hid (HP7.out.arena A5 C5 O5)
  have HX8 := Lib.hid (HX7.out.arena HP7.out.ar O5)
  clear A5 C5 O5
  clear v0 v1 v2 v3 v4 v5 l0 l1 l2 x0 x1 x2 x3 x4 x5 k0 k1
  obtain ⟨v0, v1, v2, v3, v4, v5⟩ := HP8.out.vs.cells
  obtain ⟨l0, l1, l2⟩ := HP8.out.vs.lts
  obtain ⟨x0, x1, x2, x3, x4, x5⟩ := HX8.out.cells
  obtain ⟨k0, k1⟩ := HX8.out.lts
  go_wp2_with fail
  refine (wrright_is HRW.out).mono ?_; rintro e w9 ⟨rfl, hb⟩
  have HP9 := Lib.hid (HP8.out.below hb)
  have HX9 := Lib.hid (HX8.out.later hb)
  clear hb
  clear v0 v1 v2 v3 v4 v5 l0 l1 l2 x0 x1 x2 x3 x4 x5 k0 k1
  obtain ⟨v0, v1, v2, v3, v4, v5⟩ := HP9.out.vs.cells
  obtain ⟨l0, l1, l2⟩ := HP9.out.vs.lts
  obtain ⟨x0, x1, x2, x3, x4, x5⟩ := HX9.out.cells
  obtain ⟨k0, k1⟩ := HX9.out.lts
  go_wp2_with fail
  refine (rbits_w y x 3 tg _ HWZ.out).mono ?_; rintro e w10 ⟨rfl, hb⟩
  have HP10 := Lib.hid (HP9.out.below hb)
  have HX10 := Lib.hid (HX9.out.later hb)
  clear hb
  clear v0 v1 v2 v3 v4 v5 l0 l1 l2 x0 x1 x2 x3 x4 x5 k0 k1
  obtain ⟨v0, v1, v2, v3, v4, v5⟩ := HP10.out.vs.cells
  obtain ⟨l0, l1, l2⟩ := HP10.out.vs.lts
  obtain ⟨x0, x1, x2, x3, x4, x5⟩ := HX10.out.cells
  obtain ⟨k0, k1⟩ := HX10.out.lts
  go_wp2_with fail
  have HPd := Lib.hid HP10.out.drew
  have HXd := Lib.hid (HX10.out.later (Below.refl _ _).drew)
  go_region_held3 (VS mb (mb + 1) (mb + 2) p 3 tg) (first | (with_reducible assumption) | (with_reducible exact HPd.out.vs) | (with_reducible exact HPt.out.vs) | (with_reducible exact HP11.out.vs))
    (first
      | (go_at_call 12; ((with_reducible refine at_1.mono ?_); rintro e w9 ⟨rfl, hb⟩; have HPt := Lib.hid (HPd.out.below hb); have HXt := Lib.hid (HXd.out.later hb); clear hb))
      | (go_at_call 17; ((with_reducible refine (clean_kc HPt.out.ar (atK_lt (by omega)) (isW_at _ _ (isW_bits HWZ.out).1) (rightV_at _ _ (isW_bits HWZ.out).2) HPt.out.cb (by omega)).mono ?_); rintro e w11 ⟨rfl, A5, C5, O5⟩; have HP11 := Lib.hid (HPt.out.arena A5 C5 O5); have HX11 := Lib.hid (HXt.out.arena HPt.out.ar O5); clear A5 C5 O5)))
  clear HPd HPt HXd HXt
  clear v0 v1 v2 v3 v4 v5 l0 l1 l2 x0 x1 x2 x3 x4 x5 k0 k1
  obtain ⟨v0, v1, v2, v3, v4, v5⟩ := HP11.out.vs.cells
  obtain ⟨l0, l1, l2⟩ := HP11.out.vs.lts
  obtain ⟨x0, x1, x2, x3, x4, x5⟩ := HX11.out.cells
  obtain ⟨k0, k1⟩ := HX11.out.lts
  go_wp2_with fail
  refine (begin_kc (t := 2) (by rfl) (by omega) HP11.out.ar (by omega) (by omega) (by omega) HP11.out.cb (by omega)).mono ?_; rintro e w12 ⟨rfl, A5, C5, O5⟩
  have HP12 := Lib.hid (HP11.out.arena A5 C5 O5)
  have HX12 := Lib.hid (HX11.out.arena HP11.out.ar O5)
  clear A5 C5 O5
  clear v0 v1 v2 v3 v4 v5 l0 l1 l2 x0 x1 x2 x3 x4 x5 k0 k1
  obtain ⟨v0, v1, v2, v3, v4, v5⟩ := HP12.out.vs.cells
  obtain ⟨l0, l1, l2⟩ := HP12.out.vs.lts
  obtain ⟨x0, x1, x2, x3, x4, x5⟩ := HX12.out.cells
  obtain ⟨k0, k1⟩ := HX12.out.lts
  go_wp2_with fail
  refine (st_3).mono ?_; rintro e w13 ⟨rfl, hb⟩
  have HP13 := Lib.hid (HP12.out.below hb)
  have HX13 := Lib.hid (HX12.out.later hb)
  clear hb
  clear v0 v1 v2 v3 v4 v5 l0 l1 l2 x0 x1 x2 x3 x4 x5 k0 k1
  obtain ⟨v0, v1, v2, v3, v4, v5⟩ := HP13.out.vs.cells
  obtain ⟨l0, l1, l2⟩ := HP13.out.vs.lts
  obtain ⟨x0, x1, x2, x3, x4, x5⟩ := HX13.out.cells
  obtain ⟨k0, k1⟩ := HX13.out.lts
  go_wp2_with fail
  refine (load_kc (k := 2) HP13.out.ar (by omega) (upd_same _ _ _) HP13.out.cb (by omega)).mono ?_; rintro e w14 ⟨rfl, A5, C5, O5⟩
  have HP14 := Lib.hid (HP13.out.arena A5 C5 O5)
  have HX14 := Lib.hid (HX13.out.arena HP13.out.ar O5)
  clear A5 C5 O5
  clear v0 v1 v2 v3 v4 v5 l0 l1 l2 x0 x1 x2 x3 x4 x5 k0 k1
  obtain ⟨v0, v1, v2, v3, v4, v5⟩ := HP14.out.vs.cells
  obtain ⟨l0, l1, l2⟩ := HP14.out.vs.lts
  obtain ⟨x0, x1, x2, x3, x4, x5⟩ := HX14.out.cells
  obtain ⟨k0, k1⟩ := HX14.out.lts
  go_wp2_with fail
  refine (commit_kc (t := 2) (by rfl) (by omega) HP14.out.ar (by omega) (by omega) (by omega) HP14.out.cb (by omega)).mono ?_; rintro e w15 ⟨rfl, A5, C5, O5⟩
  have HP15 := Lib.hid (HP14.out.arena A5 C5 O5)
  have HX15 := Lib.hid (HX14.out.arena HP14.out.ar O5)
  clear A5 C5 O5
  clear v0 v1 v2 v3 v4 v5 l0 l1 l2 x0 x1 x2 x3 x4 x5 k0 k1
  obtain ⟨v0, v1, v2, v3, v4, v5⟩ := HP15.out.vs.cells
  obtain ⟨l0, l1, l2⟩ := HP15.out.vs.lts
  obtain ⟨x0, x1, x2, x3, x4, x5⟩ := HX15.out.cells
  obtain ⟨k0, k1⟩ := HX15.out.lts
  go_wp2_with fail
  refine (st_3).mono ?_; rintro e w16 ⟨rfl, hb⟩
  have HP16 := Lib.hid (HP15.out.below hb)
  have HX16 := Lib.hid (HX15.out.later hb)
  clear hb
  clear v0 v1 v2 v3 v4 v5 l0 l1 l2 x0 x1 x2 x3 x4 x5 k0 k1
  obtain ⟨v0, v1, v2, v3, v4, v5⟩ := HP16.out.vs.cells
  obtain ⟨l0, l1, l2⟩ := HP16.out.vs.lts
  obtain ⟨x0, x1, x2, x3, x4, x5⟩ := HX16.out.cells
  obtain ⟨k0, k1⟩ := HX16.out.lts
  go_wp2_with fail
  refine (load_kc (k := 2) HP16.out.ar (by omega) (upd_same _ _ _) HP16.out.cb (by omega)).mono ?_; rintro e w17 ⟨rfl, A5, C5, O5⟩
  have HP17 := Lib.hid (HP16.out.arena A5 C5 O5)
  have HX17 := Lib.hid (HX16.out.arena HP16.out.ar O5)
  clear A5 C5 O5
  clear v0 v1 v2 v3 v4 v5 l0 l1 l2 x0 x1 x2 x3 x4 x5 k0 k1
  obtain ⟨v0, v1, v2, v3, v4, v5⟩ := HP17.out.vs.cells
  obtain ⟨l0, l1, l2⟩ := HP17.out.vs.lts
  obtain ⟨x0, x1, x2, x3, x4, x5⟩ := HX17.out.cells
  obtain ⟨k0, k1⟩ := HX17.out.lts
  go_wp2_with fail
  refine (end_kc (t := 2) (by rfl) (by omega) HP17.out.ar (by omega) (by omega) (by omega) HP17.out.cb (by omega)).mono ?_; rintro e w18 ⟨rfl, A5, C5, O5⟩
  have HP18 := Lib.hid (HP17.out.arena A5 C5 O5)
  have HX18 := Lib.hid (HX17.out.arena HP17.out.ar O5)
  clear A5 C5 O5
  clear v0 v1 v2 v3 v4 v5 l0 l1 l2 x0 x1 x2 x3 x4 x5 k0 k1
  obtain ⟨v0, v1, v2, v3, v4, v5⟩ := HP18.out.vs.cells
  obtain ⟨l0, l1, l2⟩ := HP18.out.vs.lts
  obtain ⟨x0, x1, x2, x3, x4, x5⟩ := HX18.out.cells
  obtain ⟨k0, k1⟩ := HX18.out.lts
  go_wp2_with fail
  refine (st_3).mono ?_; rintro e w19 ⟨rfl, hb⟩
  have HP19 := Lib.hid (HP18.out.below hb)
  have HX19 := Lib.hid (HX18.out.later hb)
  clear hb
  clear v0 v1 v2 v3 v4 v5 l0 l1 l2 x0 x1 x2 x3 x4 x5 k0 k1
  obtain ⟨v0, v1, v2, v3, v4, v5⟩ := HP19.out.vs.cells
  obtain ⟨l0, l1, l2⟩ := HP19.out.vs.lts
  obtain ⟨x0, x1, x2, x3, x4, x5⟩ := HX19.out.cells
  obtain ⟨k0, k1⟩ := HX19.out.lts
  go_wp2_with fail
  refine (load_kc (k := 2) HP19.out.ar (by omega) (upd_same _ _ _) HP19.out.cb (by omega)).mono ?_; rintro e w20 ⟨rfl, A5, C5, O5⟩
  have HP20 := Lib.hid (HP19.out.arena A5 C5 O5)
  have HX20 := Lib.hid (HX19.out.arena HP19.out.ar O5)
  clear A5 C5 O5
  clear v0 v1 v2 v3 v4 v5 l0 l1 l2 x0 x1 x2 x3 x4 x5 k0 k1
  obtain ⟨v0, v1, v2, v3, v4, v5⟩ := HP20.out.vs.cells
  obtain ⟨l0, l1, l2⟩ := HP20.out.vs.lts
  obtain ⟨x0, x1, x2, x3, x4, x5⟩ := HX20.out.cells
  obtain ⟨k0, k1⟩ := HX20.out.lts
  go_wp2_with fail
  refine (at_1).mono ?_; rintro e w21 ⟨rfl, hb⟩
  have HP21 := Lib.hid (HP20.out.below hb)
  have HX21 := Lib.hid (HX20.out.later hb)
  clear hb
  clear v0 v1 v2 v3 v4 v5 l0 l1 l2 x0 x1 x2 x3 x4 x5 k0 k1
  obtain ⟨v0, v1, v2, v3, v4, v5⟩ := HP21.out.vs.cells
  obtain ⟨l0, l1, l2⟩ := HP21.out.vs.lts
  obtain ⟨x0, x1, x2, x3, x4, x5⟩ := HX21.out.cells
  obtain ⟨k0, k1⟩ := HX21.out.lts
  go_wp2_with fail
  refine (load_kc HP21.out.ar (atK_lt (by omega)) ((f6_at _ _ _ _ _).trans (bits_plain x)) HP21.out.cb (by omega)).mono ?_; rintro e w22 ⟨rfl, A5, C5, O5⟩
  have HP22 := Lib.hid (HP21.out.arena A5 C5 O5)
  have HX22 := Lib.hid (HX21.out.arena HP21.out.ar O5)
  clear A5 C5 O5
  clear v0 v1 v2 v3 v4 v5 l0 l1 l2 x0 x1 x2 x3 x4 x5 k0 k1
  obtain ⟨v0, v1, v2, v3, v4, v5⟩ := HP22.out.vs.cells
  obtain ⟨l0, l1, l2⟩ := HP22.out.vs.lts
  obtain ⟨x0, x1, x2, x3, x4, x5⟩ := HX22.out.cells
  obtain ⟨k0, k1⟩ := HX22.out.lts
  go_wp2_with fail
  refine (counts_kc HP22.out.ar).mono ?_; rintro e w10 ⟨rfl, hb⟩
  have HP50 := Lib.hid ((HP22.out.below hb).alloc (.cells #[.int .i64 (0 + 1 + 1 + 1 + 1 + 1 + 1 + 1), .int .i64 (0 + 1 + 1 + 1 + 1 + 1 + 1), .int .i64 0, .int .i64 0, .int .i64 0] 66))
  have HX50 := Lib.hid (HX22.out.later hb)
  clear hb
  clear v0 v1 v2 v3 v4 v5 l0 l1 l2 x0 x1 x2 x3 x4 x5 k0 k1
  obtain ⟨x0, x1, x2, x3, x4, x5⟩ := HX50.out.cells
  obtain ⟨k0, k1⟩ := HX50.out.lts
  go_wp2_with fail
  refine (rplain_any x _ xl xh).mono ?_; rintro e w60 ⟨rfl, rfl⟩
  go_wp2_with fail
  refine (rstate_any tg false _ tl (by omega)).mono ?_; rintro e w60 ⟨rfl, rfl⟩
  go_wp2_with fail
  refine (rstate_any tg true _ tl (by omega)).mono ?_; rintro e w60 ⟨rfl, rfl⟩
  go_wp2_with fail
  refine (rstate_any (tg + 1) false _ (by omega) (by omega)).mono ?_; rintro e w60 ⟨rfl, rfl⟩
  go_wp2_with fail
  refine (awake_any _).mono ?_; rintro e w11 ⟨rfl, hb⟩
  go_wp2_with fail
  go_ret
  exact ⟨rfl, (HP50.out.below hb).be⟩

set_option maxHeartbeats 4000000 in
theorem writes_c (v x tg o y th t0 : Int) (w : World) (hv0 : 0 ≤ v) (hv1 : v ≤ 18446744073709551615) (xl : 0 ≤ x) (xh : x ≤ 65535) (tl : 0 ≤ tg) (th1 : tg < 16777215) (e1 : v / 65536 % 65536 = o) (e2 : v % 65536 = y) (e3 : v / 4294967296 % 256 = th) (e4 : v / 1099511627776 = t0) (hr : rightV v = true) (hne : (th == 3) = false) :
    Calls Try.prog 5 #[.int .u64 v, .int .i64 x, .int .i64 tg] w fun e w' => e = .returned (.bool true) ∧ Below w.heap.size w w' := by
  have hI := isW_parts e1 e2 e3 e4 hr
  obtain ⟨h1, h2, h3, h4, h5, h6, h7, h8⟩ := right_bd hI.right
  have HRW := Lib.hid hI.right
  have HI := Lib.hid hI
  have HV := Lib.hid hr
  have HE := Lib.hid (And.intro e1 (And.intro e2 (And.intro e3 e4)))
  have hz : wrO o y th t0 3 tg = y := by
    unfold wrO
    rw [if_neg]; rintro ⟨h, h9⟩; subst h; simp at hne
  have HZ := Lib.hid hz
  have HWZ : Hid (rightW y x 3 tg = true) := Lib.hid (right_word (by omega) (by omega) xl xh (by omega) (by omega) tl (by omega))
  clear e1 e2 e3 e4 hI hr hz h1 h2 h3 h4 h5 h6 h7 h8
  go_enter Try.func5, Try.ntmps5
  go_wp2_with fail
  refine begun_any.mono ?_; rintro e w1 ⟨p, g, rfl, np, ng, A1, hb1⟩
  rw [kc_zero] at A1
  have HA := Lib.hid A1
  have HN := Lib.hid (And.intro np ng)
  have HB := Lib.hid hb1
  clear A1 np ng hb1
  go_wp2_with fail
  refine (pm_of p _).mono ?_; rintro e w2 ⟨rfl, hb2⟩
  have HA2 := Lib.hid (HA.out.below hb2 (Nat.le_refl _))
  have HB2 := Lib.hid (keepL HB.out hb2 HB.out.size)
  clear hb2 HA HB
  go_wp2_with fail
  refine small_any.mono ?_; rintro e w3 ⟨rfl, hb3⟩
  have HC0 : Hid (CB (kc 0 0) 0) := Lib.hid (kc_zero ▸ cb_zero)
  have HP0 := Lib.hid (PS.vars (th := 3) (tg := tg) (HA2.out.below hb3 (Nat.le_refl _)) HC0.out (keepL HB2.out hb3 HB2.out.size) HN.out.1 HN.out.2)
  clear hb3 HA2 HB2 HC0
  go_wp2_with fail
  refine at_1.mono ?_; rintro e w4 ⟨rfl, hb4⟩
  have HP1 := Lib.hid (HP0.out.below hb4)
  clear hb4
  generalize w3.heap.size = mb at HP1 ⊢
  obtain ⟨v0, v1, v2, v3, v4, v5⟩ := HP1.out.vs.cells
  obtain ⟨l0, l1, l2⟩ := HP1.out.vs.lts
  go_wp2_with fail
  refine (store_kc HP1.out.ar (atK_lt (by omega)) hv0 hv1 HP1.out.cb (by omega)).mono ?_; rintro e w2 ⟨rfl, A5, C5, O5⟩
  have HP2 := Lib.hid (HP1.out.arena A5 C5 O5)
  clear A5 C5 O5
  clear v0 v1 v2 v3 v4 v5 l0 l1 l2
  obtain ⟨v0, v1, v2, v3, v4, v5⟩ := HP2.out.vs.cells
  obtain ⟨l0, l1, l2⟩ := HP2.out.vs.lts
  go_wp2_with fail
  refine (rparts_is hv0 hv1 HE.out.1 HE.out.2.1 HE.out.2.2.1 HE.out.2.2.2).mono ?_; rintro e w3 ⟨rfl, hb⟩
  have HP3 := Lib.hid (HP2.out.below hb)
  clear hb
  clear v0 v1 v2 v3 v4 v5 l0 l1 l2
  obtain ⟨v0, v1, v2, v3, v4, v5⟩ := HP3.out.vs.cells
  obtain ⟨l0, l1, l2⟩ := HP3.out.vs.lts
  have HW3 := Lib.hid (Blk.new w3 56 #[.int .i64 o, .int .i64 y, .int .i64 th, .int .i64 t0])
  have HP4 := Lib.hid (HP3.out.alloc (.cells #[.int .i64 o, .int .i64 y, .int .i64 th, .int .i64 t0] 56))
  go_wp2_with fail
  refine (counts_kc HP4.out.ar).mono ?_; rintro e w5 ⟨rfl, hb⟩
  have HX5 : Hid (XS w3.heap.size w5.heap.size o y th t0 0 1 (w5.alloc (.cells #[.int .i64 0, .int .i64 1, .int .i64 0, .int .i64 0, .int .i64 0] 66))) := Lib.hid ⟨(HW3.out.later hb).alloc _, Blk.new _ _ _⟩
  have HP5 := Lib.hid ((HP4.out.below hb).alloc (.cells #[.int .i64 0, .int .i64 1, .int .i64 0, .int .i64 0, .int .i64 0] 66))
  clear hb HW3
  generalize w3.heap.size = wb at HX5 ⊢
  clear v0 v1 v2 v3 v4 v5 l0 l1 l2
  have hvs : ∀ W, VS mb (mb + 1) (mb + 2) p 3 tg W → W.cell? ⟨mb, 0, none⟩ = some (.pointer (some ⟨p, 0, none⟩)) ∧ W.cell? ⟨mb + 1, 0, none⟩ = some (.int .i64 2) ∧ W.cell? ⟨mb + 1, 1, none⟩ = some (.int .i64 0) ∧ W.cell? ⟨mb + 1, 2, none⟩ = some (.int .i64 8) ∧ W.cell? ⟨mb + 2, 0, none⟩ = some (.int .i64 3) ∧ W.cell? ⟨mb + 2, 1, none⟩ = some (.int .i64 tg) := fun W h => h.cells
  obtain ⟨v0, v1, v2, v3, v4, v5⟩ := (HP5.out.vs).cells
  obtain ⟨l0, l1, l2⟩ := HP5.out.vs.lts
  obtain ⟨x0, x1, x2, x3, x4, x5⟩ := HX5.out.cells
  obtain ⟨k0, k1⟩ := HX5.out.lts
  go_wp2_with fail
  have HPd := Lib.hid HP5.out.drew
  have HXd := Lib.hid (HX5.out.later (Below.refl _ _).drew)
  go_region_held3 (VS mb (mb + 1) (mb + 2) p 3 tg) (first | (with_reducible assumption) | (with_reducible exact HPd.out.vs) | (with_reducible exact HPt.out.vs) | (with_reducible exact HP6.out.vs))
    (first
      | (go_at_call 12; ((with_reducible refine at_1.mono ?_); rintro e w9 ⟨rfl, hb⟩; have HPt := Lib.hid (HPd.out.below hb); have HXt := Lib.hid (HXd.out.later hb); clear hb))
      | (go_at_call 15; ((with_reducible refine (write_kc HPt.out.ar (atK_lt (by omega)) (isW_at _ _ HI.out) (rightV_at _ _ HV.out) HZ.out HWZ.out HPt.out.cb (by omega)).mono ?_); rintro e w6 ⟨rfl, A5, C5, O5⟩; have HP6 := Lib.hid (HPt.out.arena A5 C5 O5); have HX6 := Lib.hid (HXt.out.arena HPt.out.ar O5); clear A5 C5 O5)))
  clear HPd HPt HXd HXt
  clear v0 v1 v2 v3 v4 v5 l0 l1 l2 x0 x1 x2 x3 x4 x5 k0 k1
  obtain ⟨v0, v1, v2, v3, v4, v5⟩ := HP6.out.vs.cells
  obtain ⟨l0, l1, l2⟩ := HP6.out.vs.lts
  obtain ⟨x0, x1, x2, x3, x4, x5⟩ := HX6.out.cells
  obtain ⟨k0, k1⟩ := HX6.out.lts
  go_wp2_with fail
  refine (at_1).mono ?_; rintro e w7 ⟨rfl, hb⟩
  have HP7 := Lib.hid (HP6.out.below hb)
  have HX7 := Lib.hid (HX6.out.later hb)
  clear hb
  clear v0 v1 v2 v3 v4 v5 l0 l1 l2 x0 x1 x2 x3 x4 x5 k0 k1
  obtain ⟨v0, v1, v2, v3, v4, v5⟩ := HP7.out.vs.cells
  obtain ⟨l0, l1, l2⟩ := HP7.out.vs.lts
  obtain ⟨x0, x1, x2, x3, x4, x5⟩ := HX7.out.cells
  obtain ⟨k0, k1⟩ := HX7.out.lts
  go_wp2_with fail
  refine (load_kc HP7.out.ar (atK_lt (by omega)) (upd_same _ _ _) HP7.out.cb (by omega)).mono ?_; rintro e w8 ⟨rfl, A5, C5, O5⟩
  have HP8 := Lib.hid (HP7.out.arena A5 C5 O5)
  have HX8 := Lib.hid (HX7.out.arena HP7.out.ar O5)
  clear A5 C5 O5
  clear v0 v1 v2 v3 v4 v5 l0 l1 l2 x0 x1 x2 x3 x4 x5 k0 k1
  obtain ⟨v0, v1, v2, v3, v4, v5⟩ := HP8.out.vs.cells
  obtain ⟨l0, l1, l2⟩ := HP8.out.vs.lts
  obtain ⟨x0, x1, x2, x3, x4, x5⟩ := HX8.out.cells
  obtain ⟨k0, k1⟩ := HX8.out.lts
  go_wp2_with fail
  refine (wrright_is HRW.out).mono ?_; rintro e w9 ⟨rfl, hb⟩
  have HP9 := Lib.hid (HP8.out.below hb)
  have HX9 := Lib.hid (HX8.out.later hb)
  clear hb
  clear v0 v1 v2 v3 v4 v5 l0 l1 l2 x0 x1 x2 x3 x4 x5 k0 k1
  obtain ⟨v0, v1, v2, v3, v4, v5⟩ := HP9.out.vs.cells
  obtain ⟨l0, l1, l2⟩ := HP9.out.vs.lts
  obtain ⟨x0, x1, x2, x3, x4, x5⟩ := HX9.out.cells
  obtain ⟨k0, k1⟩ := HX9.out.lts
  go_wp2_with fail
  refine (rbits_w y x 3 tg _ HWZ.out).mono ?_; rintro e w10 ⟨rfl, hb⟩
  have HP10 := Lib.hid (HP9.out.below hb)
  have HX10 := Lib.hid (HX9.out.later hb)
  clear hb
  clear v0 v1 v2 v3 v4 v5 l0 l1 l2 x0 x1 x2 x3 x4 x5 k0 k1
  obtain ⟨v0, v1, v2, v3, v4, v5⟩ := HP10.out.vs.cells
  obtain ⟨l0, l1, l2⟩ := HP10.out.vs.lts
  obtain ⟨x0, x1, x2, x3, x4, x5⟩ := HX10.out.cells
  obtain ⟨k0, k1⟩ := HX10.out.lts
  go_wp2_with fail
  have HPd := Lib.hid HP10.out.drew
  have HXd := Lib.hid (HX10.out.later (Below.refl _ _).drew)
  go_region_held3 (VS mb (mb + 1) (mb + 2) p 3 tg) (first | (with_reducible assumption) | (with_reducible exact HPd.out.vs) | (with_reducible exact HPt.out.vs) | (with_reducible exact HP11.out.vs))
    (first
      | (go_at_call 12; ((with_reducible refine at_1.mono ?_); rintro e w9 ⟨rfl, hb⟩; have HPt := Lib.hid (HPd.out.below hb); have HXt := Lib.hid (HXd.out.later hb); clear hb))
      | (go_at_call 17; ((with_reducible refine (clean_kc HPt.out.ar (atK_lt (by omega)) (isW_at _ _ (isW_bits HWZ.out).1) (rightV_at _ _ (isW_bits HWZ.out).2) HPt.out.cb (by omega)).mono ?_); rintro e w11 ⟨rfl, A5, C5, O5⟩; have HP11 := Lib.hid (HPt.out.arena A5 C5 O5); have HX11 := Lib.hid (HXt.out.arena HPt.out.ar O5); clear A5 C5 O5)))
  clear HPd HPt HXd HXt
  clear v0 v1 v2 v3 v4 v5 l0 l1 l2 x0 x1 x2 x3 x4 x5 k0 k1
  obtain ⟨v0, v1, v2, v3, v4, v5⟩ := HP11.out.vs.cells
  obtain ⟨l0, l1, l2⟩ := HP11.out.vs.lts
  obtain ⟨x0, x1, x2, x3, x4, x5⟩ := HX11.out.cells
  obtain ⟨k0, k1⟩ := HX11.out.lts
  go_wp2_with fail
  refine (begin_kc (t := 2) (by rfl) (by omega) HP11.out.ar (by omega) (by omega) (by omega) HP11.out.cb (by omega)).mono ?_; rintro e w12 ⟨rfl, A5, C5, O5⟩
  have HP12 := Lib.hid (HP11.out.arena A5 C5 O5)
  have HX12 := Lib.hid (HX11.out.arena HP11.out.ar O5)
  clear A5 C5 O5
  clear v0 v1 v2 v3 v4 v5 l0 l1 l2 x0 x1 x2 x3 x4 x5 k0 k1
  obtain ⟨v0, v1, v2, v3, v4, v5⟩ := HP12.out.vs.cells
  obtain ⟨l0, l1, l2⟩ := HP12.out.vs.lts
  obtain ⟨x0, x1, x2, x3, x4, x5⟩ := HX12.out.cells
  obtain ⟨k0, k1⟩ := HX12.out.lts
  go_wp2_with fail
  refine (st_3).mono ?_; rintro e w13 ⟨rfl, hb⟩
  have HP13 := Lib.hid (HP12.out.below hb)
  have HX13 := Lib.hid (HX12.out.later hb)
  clear hb
  clear v0 v1 v2 v3 v4 v5 l0 l1 l2 x0 x1 x2 x3 x4 x5 k0 k1
  obtain ⟨v0, v1, v2, v3, v4, v5⟩ := HP13.out.vs.cells
  obtain ⟨l0, l1, l2⟩ := HP13.out.vs.lts
  obtain ⟨x0, x1, x2, x3, x4, x5⟩ := HX13.out.cells
  obtain ⟨k0, k1⟩ := HX13.out.lts
  go_wp2_with fail
  refine (load_kc (k := 2) HP13.out.ar (by omega) (upd_same _ _ _) HP13.out.cb (by omega)).mono ?_; rintro e w14 ⟨rfl, A5, C5, O5⟩
  have HP14 := Lib.hid (HP13.out.arena A5 C5 O5)
  have HX14 := Lib.hid (HX13.out.arena HP13.out.ar O5)
  clear A5 C5 O5
  clear v0 v1 v2 v3 v4 v5 l0 l1 l2 x0 x1 x2 x3 x4 x5 k0 k1
  obtain ⟨v0, v1, v2, v3, v4, v5⟩ := HP14.out.vs.cells
  obtain ⟨l0, l1, l2⟩ := HP14.out.vs.lts
  obtain ⟨x0, x1, x2, x3, x4, x5⟩ := HX14.out.cells
  obtain ⟨k0, k1⟩ := HX14.out.lts
  go_wp2_with fail
  refine (commit_kc (t := 2) (by rfl) (by omega) HP14.out.ar (by omega) (by omega) (by omega) HP14.out.cb (by omega)).mono ?_; rintro e w15 ⟨rfl, A5, C5, O5⟩
  have HP15 := Lib.hid (HP14.out.arena A5 C5 O5)
  have HX15 := Lib.hid (HX14.out.arena HP14.out.ar O5)
  clear A5 C5 O5
  clear v0 v1 v2 v3 v4 v5 l0 l1 l2 x0 x1 x2 x3 x4 x5 k0 k1
  obtain ⟨v0, v1, v2, v3, v4, v5⟩ := HP15.out.vs.cells
  obtain ⟨l0, l1, l2⟩ := HP15.out.vs.lts
  obtain ⟨x0, x1, x2, x3, x4, x5⟩ := HX15.out.cells
  obtain ⟨k0, k1⟩ := HX15.out.lts
  go_wp2_with fail
  refine (st_3).mono ?_; rintro e w16 ⟨rfl, hb⟩
  have HP16 := Lib.hid (HP15.out.below hb)
  have HX16 := Lib.hid (HX15.out.later hb)
  clear hb
  clear v0 v1 v2 v3 v4 v5 l0 l1 l2 x0 x1 x2 x3 x4 x5 k0 k1
  obtain ⟨v0, v1, v2, v3, v4, v5⟩ := HP16.out.vs.cells
  obtain ⟨l0, l1, l2⟩ := HP16.out.vs.lts
  obtain ⟨x0, x1, x2, x3, x4, x5⟩ := HX16.out.cells
  obtain ⟨k0, k1⟩ := HX16.out.lts
  go_wp2_with fail
  refine (load_kc (k := 2) HP16.out.ar (by omega) (upd_same _ _ _) HP16.out.cb (by omega)).mono ?_; rintro e w17 ⟨rfl, A5, C5, O5⟩
  have HP17 := Lib.hid (HP16.out.arena A5 C5 O5)
  have HX17 := Lib.hid (HX16.out.arena HP16.out.ar O5)
  clear A5 C5 O5
  clear v0 v1 v2 v3 v4 v5 l0 l1 l2 x0 x1 x2 x3 x4 x5 k0 k1
  obtain ⟨v0, v1, v2, v3, v4, v5⟩ := HP17.out.vs.cells
  obtain ⟨l0, l1, l2⟩ := HP17.out.vs.lts
  obtain ⟨x0, x1, x2, x3, x4, x5⟩ := HX17.out.cells
  obtain ⟨k0, k1⟩ := HX17.out.lts
  go_wp2_with fail
  refine (end_kc (t := 2) (by rfl) (by omega) HP17.out.ar (by omega) (by omega) (by omega) HP17.out.cb (by omega)).mono ?_; rintro e w18 ⟨rfl, A5, C5, O5⟩
  have HP18 := Lib.hid (HP17.out.arena A5 C5 O5)
  have HX18 := Lib.hid (HX17.out.arena HP17.out.ar O5)
  clear A5 C5 O5
  clear v0 v1 v2 v3 v4 v5 l0 l1 l2 x0 x1 x2 x3 x4 x5 k0 k1
  obtain ⟨v0, v1, v2, v3, v4, v5⟩ := HP18.out.vs.cells
  obtain ⟨l0, l1, l2⟩ := HP18.out.vs.lts
  obtain ⟨x0, x1, x2, x3, x4, x5⟩ := HX18.out.cells
  obtain ⟨k0, k1⟩ := HX18.out.lts
  go_wp2_with fail
  refine (st_3).mono ?_; rintro e w19 ⟨rfl, hb⟩
  have HP19 := Lib.hid (HP18.out.below hb)
  have HX19 := Lib.hid (HX18.out.later hb)
  clear hb
  clear v0 v1 v2 v3 v4 v5 l0 l1 l2 x0 x1 x2 x3 x4 x5 k0 k1
  obtain ⟨v0, v1, v2, v3, v4, v5⟩ := HP19.out.vs.cells
  obtain ⟨l0, l1, l2⟩ := HP19.out.vs.lts
  obtain ⟨x0, x1, x2, x3, x4, x5⟩ := HX19.out.cells
  obtain ⟨k0, k1⟩ := HX19.out.lts
  go_wp2_with fail
  refine (load_kc (k := 2) HP19.out.ar (by omega) (upd_same _ _ _) HP19.out.cb (by omega)).mono ?_; rintro e w20 ⟨rfl, A5, C5, O5⟩
  have HP20 := Lib.hid (HP19.out.arena A5 C5 O5)
  have HX20 := Lib.hid (HX19.out.arena HP19.out.ar O5)
  clear A5 C5 O5
  clear v0 v1 v2 v3 v4 v5 l0 l1 l2 x0 x1 x2 x3 x4 x5 k0 k1
  obtain ⟨v0, v1, v2, v3, v4, v5⟩ := HP20.out.vs.cells
  obtain ⟨l0, l1, l2⟩ := HP20.out.vs.lts
  obtain ⟨x0, x1, x2, x3, x4, x5⟩ := HX20.out.cells
  obtain ⟨k0, k1⟩ := HX20.out.lts
  go_wp2_with fail
  refine (at_1).mono ?_; rintro e w21 ⟨rfl, hb⟩
  have HP21 := Lib.hid (HP20.out.below hb)
  have HX21 := Lib.hid (HX20.out.later hb)
  clear hb
  clear v0 v1 v2 v3 v4 v5 l0 l1 l2 x0 x1 x2 x3 x4 x5 k0 k1
  obtain ⟨v0, v1, v2, v3, v4, v5⟩ := HP21.out.vs.cells
  obtain ⟨l0, l1, l2⟩ := HP21.out.vs.lts
  obtain ⟨x0, x1, x2, x3, x4, x5⟩ := HX21.out.cells
  obtain ⟨k0, k1⟩ := HX21.out.lts
  go_wp2_with fail
  refine (load_kc HP21.out.ar (atK_lt (by omega)) ((f6_at _ _ _ _ _).trans (bits_plain x)) HP21.out.cb (by omega)).mono ?_; rintro e w22 ⟨rfl, A5, C5, O5⟩
  have HP22 := Lib.hid (HP21.out.arena A5 C5 O5)
  have HX22 := Lib.hid (HX21.out.arena HP21.out.ar O5)
  clear A5 C5 O5
  clear v0 v1 v2 v3 v4 v5 l0 l1 l2 x0 x1 x2 x3 x4 x5 k0 k1
  obtain ⟨v0, v1, v2, v3, v4, v5⟩ := HP22.out.vs.cells
  obtain ⟨l0, l1, l2⟩ := HP22.out.vs.lts
  obtain ⟨x0, x1, x2, x3, x4, x5⟩ := HX22.out.cells
  obtain ⟨k0, k1⟩ := HX22.out.lts
  go_wp2_with fail
  refine (counts_kc HP22.out.ar).mono ?_; rintro e w10 ⟨rfl, hb⟩
  have HP50 := Lib.hid ((HP22.out.below hb).alloc (.cells #[.int .i64 (0 + 1 + 1 + 1 + 1 + 1 + 1 + 1), .int .i64 (0 + 1 + 1 + 1 + 1 + 1 + 1), .int .i64 0, .int .i64 0, .int .i64 0] 66))
  have HX50 := Lib.hid (HX22.out.later hb)
  clear hb
  clear v0 v1 v2 v3 v4 v5 l0 l1 l2 x0 x1 x2 x3 x4 x5 k0 k1
  obtain ⟨x0, x1, x2, x3, x4, x5⟩ := HX50.out.cells
  obtain ⟨k0, k1⟩ := HX50.out.lts
  go_wp2_with fail
  refine (rplain_any x _ xl xh).mono ?_; rintro e w60 ⟨rfl, rfl⟩
  go_wp2_with fail
  refine (rstate_any tg false _ tl (by omega)).mono ?_; rintro e w60 ⟨rfl, rfl⟩
  go_wp2_with fail
  refine (rstate_any tg true _ tl (by omega)).mono ?_; rintro e w60 ⟨rfl, rfl⟩
  go_wp2_with fail
  refine (rstate_any (tg + 1) false _ (by omega) (by omega)).mono ?_; rintro e w60 ⟨rfl, rfl⟩
  go_wp2_with fail
  refine (awake_any _).mono ?_; rintro e w11 ⟨rfl, hb⟩
  go_wp2_with fail
  go_ret
  exact ⟨rfl, (HP50.out.below hb).be⟩

theorem ptrWrites_any (v : Int) (hv0 : 0 ≤ v) (hv1 : v ≤ 18446744073709551615) (x : Int) (_b1 : -9223372036854775808 ≤ x) (_b2 : x ≤ 9223372036854775807) (tg : Int) (_b3 : -9223372036854775808 ≤ tg) (_b4 : tg ≤ 9223372036854775807) (w : World) :
    Calls Try.prog 5 #[.int .u64 v, .int .i64 x, .int .i64 tg] w fun e w' => e = .returned (.bool true) ∧ Below w.heap.size w w' := by
  by_cases h : x < 0 ∨ 65535 < x ∨ tg < 0 ∨ 16777215 ≤ tg
  · exact writes_out v x tg w h
  · cases hr : rightV v
    · exact writes_no v x tg w hv0 hv1 (by omega) (by omega) (by omega) (by omega) hr
    · obtain ⟨o, e1⟩ : ∃ o, v / 65536 % 65536 = o := ⟨_, rfl⟩
      obtain ⟨y, e2⟩ : ∃ o, v % 65536 = o := ⟨_, rfl⟩
      obtain ⟨th, e3⟩ : ∃ o, v / 4294967296 % 256 = o := ⟨_, rfl⟩
      obtain ⟨t0, e4⟩ : ∃ o, v / 1099511627776 = o := ⟨_, rfl⟩
      by_cases h3 : th = 3
      · subst h3
        by_cases h4 : t0 = tg
        · subst h4
          exact writes_a v x t0 o y w hv0 hv1 (by omega) (by omega) (by omega) (by omega) e1 e2 e3 e4 hr
        · exact writes_b v x tg o y t0 w hv0 hv1 (by omega) (by omega) (by omega) (by omega) e1 e2 e3 e4 hr (by simpa using h4)
      · exact writes_c v x tg o y th t0 w hv0 hv1 (by omega) (by omega) (by omega) (by omega) e1 e2 e3 e4 hr (by simpa using h3)
end Go.Proofs.Ytipjbgkfhkidkaa
