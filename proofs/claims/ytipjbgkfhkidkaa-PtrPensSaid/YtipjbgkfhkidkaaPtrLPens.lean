/- PtrPens: the walk. Printed by wip/tools/ptrlp.py. -/
import Derived.Test.YtipjbgkfhkidkaaPtrR
namespace Go.Proofs.Ytipjbgkfhkidkaa
open Go.RowKit

set_option maxRecDepth 100000

theorem pens_outa (a0 : Option Addr) (n0 c0 : Nat) (a1 : Option Addr) (n1 c1 : Nat) (w : World) (h : (4 : Int) < (n0 : Int)) :
    Calls Try.prog 3 #[.slice a0 n0 c0, .slice a1 n1 c1] w fun e w' => e = .returned (.bool true) ∧ Below w.heap.size w w' := by
  go_enter Try.func3, Try.ntmps3
  go_wp2_with fail
  refine (awake_any _).mono ?_; rintro e w1 ⟨rfl, hb1⟩
  go_wp2_with fail
  go_ret
  exact ⟨rfl, hb1⟩

theorem pens_outb (a0 : Option Addr) (n0 c0 : Nat) (a1 : Option Addr) (n1 c1 : Nat) (w : World) (g0 : (n0 : Int) ≤ 4) (h : (60 : Int) < (n1 : Int)) :
    Calls Try.prog 3 #[.slice a0 n0 c0, .slice a1 n1 c1] w fun e w' => e = .returned (.bool true) ∧ Below w.heap.size w w' := by
  go_enter Try.func3, Try.ntmps3
  go_wp2_with fail
  refine (awake_any _).mono ?_; rintro e w1 ⟨rfl, hb1⟩
  go_wp2_with fail
  go_ret
  exact ⟨rfl, hb1⟩

set_option maxHeartbeats 8000000 in
theorem pens_in (a0 : Option Addr) (n0 c0 : Nat) (zs : List Int) (a1 : Option Addr) (n1 c1 : Nat) (q1 : Nat → Op4) (w : World) (hr : IsRow .i64 w a0 n0 c0 zs) (h1 : IsOp4 w a1 n1 q1) (g0 : (n0 : Int) ≤ 4) (g1 : (n1 : Int) ≤ 60) :
    Calls Try.prog 3 #[.slice a0 n0 c0, .slice a1 n1 c1] w fun e w' => e = .returned (.bool true) ∧ Below w.heap.size w w' := by
  have HR := Lib.hid hr
  have HO1 := Lib.hid h1
  clear hr h1
  go_enter Try.func3, Try.ntmps3
  go_wp2_with fail
  refine begun_any.mono ?_; rintro e w1 ⟨p, g, rfl, np, ng, A1, hb⟩
  have HP0 := Lib.hid (P0.first A1 hb np ng)
  clear A1 np ng hb
  go_wp2_with fail
  refine (pm_of p _).mono ?_; rintro e w2 ⟨rfl, hb⟩
  have HP1 := Lib.hid (HP0.out.below hb)
  clear hb HP0
  go_wp2_with fail
  refine small_any.mono ?_; rintro e w3 ⟨rfl, hb⟩
  have HP2 := Lib.hid (HP1.out.below hb).vars2
  clear hb HP1
  go_wp2_with fail
  have HN0 : Hid (NB (((w3.alloc (.cells #[.pointer (some ⟨p, 0, none⟩)] 28)).alloc (.cells #[.int .i64 2, .int .i64 0, .int .i64 8] 31)).alloc (.cells #[.int .i64 0, .int .i64 0, .int .i64 0, .int .i64 0] 33)) (w3.heap.size + 2) zeroF) := Lib.hid (by
    have k := Blk.new ((w3.alloc (.cells #[.pointer (some ⟨p, 0, none⟩)] 28)).alloc (.cells #[.int .i64 2, .int .i64 0, .int .i64 8] 31)) 33 #[.int .i64 0, .int .i64 0, .int .i64 0, .int .i64 0]
    unfold NB
    simpa [zeroF] using k)
  have HP3 := Lib.hid (HP2.out.alloc (.cells #[.int .i64 0, .int .i64 0, .int .i64 0, .int .i64 0] 33))
  have HNB : Hid (w.heap.size ≤ w3.heap.size + 2) := Lib.hid (by have k := HP2.out.ks.be.size; simp at k; omega)
  clear HP2
  generalize ((w3.alloc (.cells #[.pointer (some ⟨p, 0, none⟩)] 28)).alloc (.cells #[.int .i64 2, .int .i64 0, .int .i64 8] 31)).alloc (.cells #[.int .i64 0, .int .i64 0, .int .i64 0, .int .i64 0] 33) = w5 at HN0 HP3 ⊢
  generalize w3.heap.size = mb at HN0 HNB HP3 ⊢
  go_loopw [45] (fun v wr => ∃ k : Nat, k ≤ n0 ∧ v = .int .i64 (k : Int) ∧ ∃ n, P0 w p g k (LM p mb (mb + 1)) (Sx0 n) wr ∧ NB wr (mb + 2) n) (fun v _ => n0 - (intOf v).toNat)
  case atStart => exact ⟨0, Nat.zero_le _, rfl, zeroF, HP3.out, HN0.out⟩
  case round =>
    clear HP3 HN0
    obtain ⟨k, hk, rfl, n, P, N⟩ := hrel
    have HP4 := Lib.hid P
    have HN4 := Lib.hid N
    clear P N
    by_cases hlt : k < n0
    · have hk4 : k < 4 := by omega
      obtain ⟨b, off, z, ha, hc, hz0, hz1⟩ := isRow_ati HR.out hlt
      subst ha
      have hcw := cell_later HP4.out.ks.be hc
      clear hc
      have k0 : (0 : Int) ≤ (k : Int) := Int.natCast_nonneg _
      have k1 : (k : Int) < (n0 : Int) := by omega
      have k4 : (k : Int) < 4 := by omega
      obtain ⟨⟨cn, nl⟩, fn⟩ := HN4.out.ns hk4
      by_cases z0 : z < 0
      · skip
        as_aux_lemma =>
          have HN5 := Lib.hid (HN4.out.set_ hk4 0)
          have HP5 := Lib.hid (HP4.out.setN (j := k) HN4.out HNB.out lm_types4 (.int .i64 0))
          go_wp2_with fail
          clear cn nl fn hcw
          generalize wr.setCell ⟨mb + 2, k, none⟩ (.int .i64 0) = w6 at HN5 HP5 ⊢
          have hvs : ∀ W, NS (mb + 2) k 0 W → W.cell? ⟨mb + 2, k, none⟩ = some (.int .i64 0) ∧ mb + 2 < W.heap.size := fun W h => h
          have HPd := Lib.hid HP5.out.drew
          have HNd : Hid (NB w6.drew (mb + 2) _) := Lib.hid HN5.out
          have HSd : Hid (NS (mb + 2) k 0 w6.drew) := Lib.hid (by have q := (HNd.out.ns hk4).1; rwa [upd_same] at q)
          go_region_held3 (NS (mb + 2) k 0) (first | (with_reducible assumption) | (with_reducible exact HSd.out) | (with_reducible exact HSt.out) | (with_reducible exact HS6.out) | fail)
            (first
              | (go_at_call 12; ((with_reducible refine (at_any hk4).mono ?_); rintro e wt ⟨rfl, hb⟩; have HPt := Lib.hid (HPd.out.below hb); have HNt := Lib.hid (HNd.out.later hb); have HSt : Hid (NS (mb + 2) k 0 wt) := Lib.hid (by have q := (HNt.out.ns hk4).1; rwa [upd_same] at q); clear hb))
              | (go_at_call 13; ((with_reducible refine (rplain_any 0 _ (by omega) (by omega)).mono ?_); rintro e wu ⟨rfl, rfl⟩))
              | (go_at_call 11; ((with_reducible refine (p0_plainv (z := 0) HPt.out hk4 (by omega) (by omega) (by omega) (by omega)).mono ?_); rintro e w7 ⟨rfl, P5, O5⟩; have HP6 := Lib.hid P5; have HN6 := Lib.hid (HNt.out.arena HPt.out.ma O5); have HS6 : Hid (NS (mb + 2) k 0 w7) := Lib.hid (by have q := (HN6.out.ns hk4).1; rwa [upd_same] at q); clear P5 O5)))
          go_wp2_with fail
          go_roundw
          case rel => exact ⟨k + 1, by omega, by go_num, _, HP6.out, HN6.out⟩
          case measure => simp [intOf]; omega
      · by_cases z1 : z ≤ 65535
        · have z2 : 0 ≤ z := by omega
          as_aux_lemma =>
            have HN5 := Lib.hid (HN4.out.set_ hk4 z)
            have HP5 := Lib.hid (HP4.out.setN (j := k) HN4.out HNB.out lm_types4 (.int .i64 z))
            go_wp2_with fail
            clear cn nl fn hcw
            generalize wr.setCell ⟨mb + 2, k, none⟩ (.int .i64 z) = w6 at HN5 HP5 ⊢
            have hvs : ∀ W, NS (mb + 2) k z W → W.cell? ⟨mb + 2, k, none⟩ = some (.int .i64 z) ∧ mb + 2 < W.heap.size := fun W h => h
            have HPd := Lib.hid HP5.out.drew
            have HNd : Hid (NB w6.drew (mb + 2) _) := Lib.hid HN5.out
            have HSd : Hid (NS (mb + 2) k z w6.drew) := Lib.hid (by have q := (HNd.out.ns hk4).1; rwa [upd_same] at q)
            go_region_held3 (NS (mb + 2) k z) (first | (with_reducible assumption) | (with_reducible exact HSd.out) | (with_reducible exact HSt.out) | (with_reducible exact HS6.out) | fail)
              (first
                | (go_at_call 12; ((with_reducible refine (at_any hk4).mono ?_); rintro e wt ⟨rfl, hb⟩; have HPt := Lib.hid (HPd.out.below hb); have HNt := Lib.hid (HNd.out.later hb); have HSt : Hid (NS (mb + 2) k z wt) := Lib.hid (by have q := (HNt.out.ns hk4).1; rwa [upd_same] at q); clear hb))
                | (go_at_call 13; ((with_reducible refine (rplain_any z _ z2 z1).mono ?_); rintro e wu ⟨rfl, rfl⟩))
                | (go_at_call 11; ((with_reducible refine (p0_plainv (z := z) HPt.out hk4 (by omega) z2 z1 (by omega)).mono ?_); rintro e w7 ⟨rfl, P5, O5⟩; have HP6 := Lib.hid P5; have HN6 := Lib.hid (HNt.out.arena HPt.out.ma O5); have HS6 : Hid (NS (mb + 2) k z w7) := Lib.hid (by have q := (HN6.out.ns hk4).1; rwa [upd_same] at q); clear P5 O5)))
            go_wp2_with fail
            go_roundw
            case rel => exact ⟨k + 1, by omega, by go_num, _, HP6.out, HN6.out⟩
            case measure => simp [intOf]; omega
        · skip
          as_aux_lemma =>
            have HN5 := Lib.hid (HN4.out.set_ hk4 65535)
            have HP5 := Lib.hid (HP4.out.setN (j := k) HN4.out HNB.out lm_types4 (.int .i64 65535))
            go_wp2_with fail
            clear cn nl fn hcw
            generalize wr.setCell ⟨mb + 2, k, none⟩ (.int .i64 65535) = w6 at HN5 HP5 ⊢
            have hvs : ∀ W, NS (mb + 2) k 65535 W → W.cell? ⟨mb + 2, k, none⟩ = some (.int .i64 65535) ∧ mb + 2 < W.heap.size := fun W h => h
            have HPd := Lib.hid HP5.out.drew
            have HNd : Hid (NB w6.drew (mb + 2) _) := Lib.hid HN5.out
            have HSd : Hid (NS (mb + 2) k 65535 w6.drew) := Lib.hid (by have q := (HNd.out.ns hk4).1; rwa [upd_same] at q)
            go_region_held3 (NS (mb + 2) k 65535) (first | (with_reducible assumption) | (with_reducible exact HSd.out) | (with_reducible exact HSt.out) | (with_reducible exact HS6.out) | fail)
              (first
                | (go_at_call 12; ((with_reducible refine (at_any hk4).mono ?_); rintro e wt ⟨rfl, hb⟩; have HPt := Lib.hid (HPd.out.below hb); have HNt := Lib.hid (HNd.out.later hb); have HSt : Hid (NS (mb + 2) k 65535 wt) := Lib.hid (by have q := (HNt.out.ns hk4).1; rwa [upd_same] at q); clear hb))
                | (go_at_call 13; ((with_reducible refine (rplain_any 65535 _ (by omega) (by omega)).mono ?_); rintro e wu ⟨rfl, rfl⟩))
                | (go_at_call 11; ((with_reducible refine (p0_plainv (z := 65535) HPt.out hk4 (by omega) (by omega) (by omega) (by omega)).mono ?_); rintro e w7 ⟨rfl, P5, O5⟩; have HP6 := Lib.hid P5; have HN6 := Lib.hid (HNt.out.arena HPt.out.ma O5); have HS6 : Hid (NS (mb + 2) k 65535 w7) := Lib.hid (by have q := (HN6.out.ns hk4).1; rwa [upd_same] at q); clear P5 O5)))
            go_wp2_with fail
            go_roundw
            case rel => exact ⟨k + 1, by omega, by go_num, _, HP6.out, HN6.out⟩
            case measure => simp [intOf]; omega
    · have : k = n0 := by omega
      subst this
      have hmm := @run_makeMap Try.prog
      go_wp2_with fail
      have HW0 : Hid (PW w p g k 0 2 (LA p mb (mb + 1) (wr.heap.size + 4) (fun q => wr.heap.size + 1 + 2 * q)) (mb + 2) (fun q => wr.heap.size + 1 + 2 * q) (fun q => wr.heap.size + 2 * q) (Sx0 n) n (Sx0 n) (((((wr.alloc (.map #[] 0)).alloc (.cells #[.int .i64 1, .int .i64 0, .map (some wr.heap.size), .bool false] 44)).alloc (.map #[] 0)).alloc (.cells #[.int .i64 2, .int .i64 0, .map (some (wr.heap.size + 1 + 1)), .bool false] 44)).alloc (.cells #[.pointer (some ⟨wr.heap.size + 1, 0, none⟩), .pointer (some ⟨wr.heap.size + 1 + 1 + 1, 0, none⟩)] 39))) := Lib.hid (HP4.out.pw HN4.out HNB.out)
      have HX : Hid ((∀ r, (Sx0 n).g r = 0) ∧ (∀ r, (Sx0 n).s r = false) ∧ ∀ i, n i = (Sx0 n).mean i) := Lib.hid ⟨fun _ => rfl, fun _ => rfl, fun _ => rfl⟩
      clear HP4 HN4 HR
      generalize (((((wr.alloc (.map #[] 0)).alloc (.cells #[.int .i64 1, .int .i64 0, .map (some wr.heap.size), .bool false] 44)).alloc (.map #[] 0)).alloc (.cells #[.int .i64 2, .int .i64 0, .map (some (wr.heap.size + 1 + 1)), .bool false] 44)).alloc (.cells #[.pointer (some ⟨wr.heap.size + 1, 0, none⟩), .pointer (some ⟨wr.heap.size + 1 + 1 + 1, 0, none⟩)] 39)) = wa at HW0 ⊢
      generalize wr.heap.size = s0 at HW0 ⊢
      generalize Sx0 n = x0 at HW0 HX
      generalize (fun q => s0 + 1 + 2 * q) = bb at HW0
      generalize (fun q => s0 + 2 * q) = mp0 at HW0
      go_loopw [75] (fun v wr => ∃ k2 : Nat, k2 ≤ 2 ∧ v = .int .i64 (k2 : Int) ∧ PW w p g (10 + k2) 0 2 (LA p mb (mb + 1) (s0 + 4) bb) (mb + 2) bb mp0 x0 n x0 wr) (fun v _ => 2 - (intOf v).toNat)
      case atStart => exact ⟨0, Nat.zero_le _, rfl, HW0.out.more (by omega) (by omega)⟩
      case round =>
        clear HW0
        obtain ⟨q, hq2, rfl, P⟩ := hrel
        have HW1 := Lib.hid P
        clear P
        by_cases hq : q < 2
        · as_aux_lemma =>
            obtain ⟨l0, l1, l2, lm, la⟩ := la_cells HW1.out.ks.k
            obtain ⟨b0, b1, b2⟩ := la_lts HW1.out.ks.k
            have laq := la q hq
            have j0 : (0 : Int) ≤ (q : Int) := Int.natCast_nonneg _
            have j1 : (q : Int) < 2 := by omega
            clear la
            go_wp2_with fail
            clear l0 l1 l2 lm laq b0 b1 b2
            have hvs : ∀ W, PS2 w (LA p mb (mb + 1) (s0 + 4) bb) (bb q) q (x0.g q) (mp0 q) (x0.s q) W → W.cell? ⟨bb q, 0, none⟩ = some (.int .i64 ((q : Int) + 1)) ∧ W.cell? ⟨bb q, 1, none⟩ = some (.int .i64 (x0.g q : Int)) ∧ W.cell? ⟨mb, 0, none⟩ = some (.pointer (some ⟨p, 0, none⟩)) ∧ W.cell? ⟨mb + 1, 0, none⟩ = some (.int .i64 2) ∧ W.cell? ⟨mb + 1, 1, none⟩ = some (.int .i64 0) ∧ W.cell? ⟨mb + 1, 2, none⟩ = some (.int .i64 8) := fun W h => have k := la_cells h.ks.k; ⟨Blk.cell h.au 0, Blk.cell h.au 1, k.2.2.2.1, k.1, k.2.1, k.2.2.1⟩
            have HWd := Lib.hid HW1.out.drew
            go_region_held3 (PS2 w (LA p mb (mb + 1) (s0 + 4) bb) (bb q) q (x0.g q) (mp0 q) (x0.s q)) (first | (with_reducible assumption) | (with_reducible exact HWd.out.ps2 hq) | (with_reducible exact HW3.out.ps2 hq) | fail)
              (first
                | (go_at_call 14; ((with_reducible refine (ma_begin HWd.out.ma hq (HX.out.2.1 q) rfl rfl (by omega)).mono ?_); rintro e w6 ⟨rfl, M5, O5⟩; have HW3 := Lib.hid (HWd.out.arena M5 O5); clear M5 O5)))
            go_wp2_with fail
            go_roundw
            case rel => exact ⟨q + 1, by omega, by go_num, HW3.out.more (by omega) (by omega)⟩
            case measure => simp [intOf]; omega
        · have : q = 2 := by omega
          subst this
          rw [show ((2 : Nat) : Int) = (2 : Int) from rfl]
          go_wp2_with fail
          go_loopw [90] (fun v wr => ∃ j : Nat, j ≤ n1 ∧ v = .int .i64 (j : Int) ∧ ∃ (x : Sx) (mn : Nat → Int) (mp : Nat → Nat), PW w p g (20 + 30 * j) (j) 2 (LA p mb (mb + 1) (s0 + 4) bb) (mb + 2) bb mp x mn x wr ∧ (∀ i, i < 4 → mn i = x.mean i) ∧ (∀ r, r < 2 → x.g r ≤ j)) (fun v _ => n1 - (intOf v).toNat)
          case atStart => exact ⟨0, Nat.zero_le _, rfl, x0, n, mp0, HW1.out.more (by omega) (by omega), fun i _ => HX.out.2.2 i, fun r _ => by rw [HX.out.1 r]; exact Nat.zero_le _⟩
          case round =>
            clear HW1 HX
            obtain ⟨j, hj, rfl, x, mn, mp, P, hmn, hgx⟩ := hrel
            have HS1 := Lib.hid P
            have HMN := Lib.hid hmn
            have HG := Lib.hid hgx
            clear P hmn hgx
            by_cases hlt3 : j < n1
            · obtain ⟨b, off, ha, hc⟩ := HO1.out (by omega)
              subst ha
              obtain ⟨d0, d1, d2, d3, hfit⟩ := hc j hlt3
              have hB := HS1.out.ks.be
              have f0 := cell_later hB d0
              have f1 := cell_later hB d1
              have f2 := cell_later hB d2
              have f3 := cell_later hB d3
              clear d0 d1 d2 d3 hc hB hfit
              have j0 : (0 : Int) ≤ (j : Int) := Int.natCast_nonneg _
              have j1 : (j : Int) < (n1 : Int) := by omega
              have hj60 : j ≤ 60 := by omega
              have hand := lowB_and (q1 j).p
              have hiand := lowB_and (q1 j).i
              have hq := lowB_lt (q1 j).p
              have hb2 := lowB_lt (q1 j).i
              obtain ⟨sq, hsq⟩ : ∃ s, lowB (q1 j).p = s := ⟨_, rfl⟩
              obtain ⟨sb, hsb⟩ : ∃ s, lowB (q1 j).i = s := ⟨_, rfl⟩
              rw [hsq] at hand hq
              rw [hsb] at hiand hb2
              clear hsq hsb
              have sq0 : (0 : Int) ≤ (sq : Int) := Int.natCast_nonneg _
              have sq1 : (sq : Int) < 2 := by omega
              obtain ⟨au0, au1, au2, au3, aul, auf1, auf2, auf3⟩ := HS1.out.cellA hq
              obtain ⟨l0, l1, l2, lm, la⟩ := la_cells HS1.out.ks.k
              obtain ⟨b0, b1, b2⟩ := la_lts HS1.out.ks.k
              have laq := la sq hq
              clear la
              by_cases hk1 : (q1 j).k = 1
              · have e1 : ((q1 j).k == 1) = true := beq_iff_eq.2 hk1
                clear hk1
                cases hs : x.s sq
                · rw [hs] at au3
                  have HSS : Hid (x.s sq = false) := Lib.hid hs
                  clear hs
                  by_cases xl : (q1 j).x < 0
                  · skip
                    as_aux_lemma =>
                      go_wp2_with fail
                      go_roundw
                      case rel => exact ⟨j + 1, by omega, by go_num, x, mn, mp, (HS1.out.alloc _).more (by omega) (by omega), HMN.out, fun r hr => Nat.le_succ_of_le (HG.out r hr)⟩
                      case measure => simp [intOf]; omega
                  · by_cases xh : 65535 < (q1 j).x
                    · skip
                      as_aux_lemma =>
                        go_wp2_with fail
                        go_roundw
                        case rel => exact ⟨j + 1, by omega, by go_num, x, mn, mp, (HS1.out.alloc _).more (by omega) (by omega), HMN.out, fun r hr => Nat.le_succ_of_le (HG.out r hr)⟩
                        case measure => simp [intOf]; omega
                    · skip
                      as_aux_lemma =>
                        have h0 : 0 ≤ (q1 j).x := by omega
                        have h1 : (q1 j).x ≤ 65535 := by omega
                        obtain ⟨jj, hjj⟩ : ∃ s : Nat, s = 2 * sq + sb := ⟨_, rfl⟩
                        have hj4 : jj < 4 := by omega
                        have hjq : jj / 2 = sq := by omega
                        have wr1 : IntKind.i64.wrap (2 * (sq : Int)) = 2 * (sq : Int) := IntWalk.i64_in _ (by omega)
                        have wr2 : IntKind.i64.wrap (2 * (sq : Int) + (sb : Int)) = (jj : Int) := (IntWalk.i64_in _ (by omega)).trans (by omega)
                        clear hjj
                        go_wp2_with fail
                        have HP0 : Hid (PW w p g (20 + 30 * j) (j) 2 (LO p mb (mb + 1) (s0 + 4) bb wr.heap.size (q1 j).k (q1 j).p (q1 j).i (q1 j).x) (mb + 2) bb mp x mn x (wr.alloc (.cells #[.int .i64 (q1 j).k, .int .i64 (q1 j).p, .int .i64 (q1 j).i, .int .i64 (q1 j).x] 48))) := Lib.hid HS1.out.var
                        clear f0 f1 f2 f3 au0 au1 au2 au3 aul auf1 auf2 auf3 l0 l1 l2 lm b0 b1 b2 laq
                        generalize wr.alloc (.cells #[.int .i64 (q1 j).k, .int .i64 (q1 j).p, .int .i64 (q1 j).i, .int .i64 (q1 j).x] 48) = wo at HP0 ⊢
                        generalize wr.heap.size = ob at HP0 ⊢
                        clear HS1
                        have hvs : ∀ W, PS2 w (LO p mb (mb + 1) (s0 + 4) bb ob (q1 j).k (q1 j).p (q1 j).i (q1 j).x) (bb sq) sq (x.g sq) (mp sq) (x.s sq) W → W.cell? ⟨bb sq, 0, none⟩ = some (.int .i64 ((sq : Nat) + 1)) ∧ W.cell? ⟨bb sq, 1, none⟩ = some (.int .i64 (x.g sq : Int)) ∧ W.cell? ⟨bb sq, 2, none⟩ = some (.map (some (mp sq))) ∧ W.cell? ⟨mb, 0, none⟩ = some (.pointer (some ⟨p, 0, none⟩)) ∧ W.cell? ⟨mb + 1, 0, none⟩ = some (.int .i64 2) ∧ W.cell? ⟨mb + 1, 1, none⟩ = some (.int .i64 0) ∧ W.cell? ⟨mb + 1, 2, none⟩ = some (.int .i64 8) ∧ W.cell? ⟨ob, 3, none⟩ = some (.int .i64 (q1 j).x) := fun W h => have k := la_cells h.ks.k.tl; ⟨Blk.cell h.au 0, Blk.cell h.au 1, Blk.cell h.au 2, k.2.2.2.1, k.1, k.2.1, k.2.2.1, (lo_cells h.ks.k).2.2.2.1⟩
                        have HPd := Lib.hid HP0.out.drew
                        go_region_held3 (PS2 w (LO p mb (mb + 1) (s0 + 4) bb ob (q1 j).k (q1 j).p (q1 j).i (q1 j).x) (bb sq) sq (x.g sq) (mp sq) (x.s sq)) (first | (with_reducible assumption) | (with_reducible exact HPd.out.ps2 hq) | (with_reducible exact HPt.out.ps2 hq) | (with_reducible exact HP3.out.ps2 hq) | fail)
                          (first
                            | (go_at_call 12; ((with_reducible refine (at_any hj4).mono ?_); rintro e wt ⟨rfl, hb⟩; have HPt := Lib.hid (HPd.out.below hb); clear hb))
                            | (go_at_call 15; ((with_reducible refine (ma_write HPt.out.ma hj4 hjq rfl rfl h0 h1 (by omega)).mono ?_); rintro e w8 ⟨rfl, M5, O5⟩; have HP3 := Lib.hid (HPt.out.arena M5 O5); clear M5 O5)))
                        clear HPd HPt HP0
                        go_wp2_with fail
                        have HPd := Lib.hid HP3.out.drew
                        obtain ⟨wf, hrunm, MF, GF⟩ := (HPd.out.mm sq hq (by omega)).store (X := (q1 j).x) (by omega) hj4 hjq h0 h1
                        have HPf := Lib.hid ((HPd.out.setM hq GF MF (by omega) rfl rfl (fun i _ hi => by have : i ≠ jj := (fun e => hi (by rw [e]; exact hjq)); simp [Sx.write, this]) (fun i _ hi => by have : i ≠ jj := (fun e => hi (by rw [e]; exact hjq)); simp [Sx.write, this])).more (m' := 20 + 30 * j + 2) (kk' := j + 1) (by omega) (by omega))
                        have HQf : Hid (PS2 w (LO p mb (mb + 1) (s0 + 4) bb ob (q1 j).k (q1 j).p (q1 j).i (q1 j).x) (bb sq) sq (x.g sq) (mp sq) (x.s sq) wf) := Lib.hid ⟨HPf.out.ks, HPf.out.au sq hq⟩
                        clear MF GF
                        go_region_held3 (PS2 w (LO p mb (mb + 1) (s0 + 4) bb ob (q1 j).k (q1 j).p (q1 j).i (q1 j).x) (bb sq) sq (x.g sq) (mp sq) (x.s sq)) (first | (with_reducible assumption) | (with_reducible exact HPd.out.ps2 hq) | (with_reducible exact HQf.out) | fail)
                          (first
                            | fail)
                        have HM2 : Hid (∀ i, i < 4 → mn i = (x.write jj (q1 j).x).mean i) := Lib.hid (fun i hi => by rw [mean_write (by rw [hjq]; exact HSS.out)]; exact HMN.out i hi)
                        have HG2 : Hid (∀ r, r < 2 → (x.write jj (q1 j).x).g r ≤ j + 1) := Lib.hid (fun r hr => Nat.le_succ_of_le (HG.out r hr))
                        clear hvs hrunm HPd HP3 HQf HMN HG
                        obtain ⟨nn0, _, nnl⟩ := HPf.out.cellN (j := 0) (by omega)
                        obtain ⟨nn1, _, _⟩ := HPf.out.cellN (j := 1) (by omega)
                        obtain ⟨nn2, _, _⟩ := HPf.out.cellN (j := 2) (by omega)
                        obtain ⟨nn3, _, _⟩ := HPf.out.cellN (j := 3) (by omega)
                        go_wp2_with fail
                        clear nn0 nn1 nn2 nn3 nnl
                        go_loopw [222] (fun v wr => ∃ k6 : Nat, k6 ≤ 4 ∧ v = .int .i64 (k6 : Int) ∧ PW w p g (20 + 30 * j + 2 + 3 * k6) (j + 1) 2 (LO p mb (mb + 1) (s0 + 4) bb ob (q1 j).k (q1 j).p (q1 j).i (q1 j).x) (mb + 2) bb mp (x.write jj (q1 j).x) mn (x.write jj (q1 j).x) wr) (fun v _ => 4 - (intOf v).toNat)
                        case atStart => exact ⟨0, Nat.zero_le _, rfl, HPf.out.more (by omega) (by omega)⟩
                        case round =>
                          clear HPf
                          obtain ⟨k6, hk6, rfl, P6⟩ := hrel
                          have HC1 := Lib.hid P6
                          clear P6
                          by_cases hlt6 : k6 < 4
                          · have i60 : (0 : Int) ≤ (k6 : Int) := Int.natCast_nonneg _
                            have i61 : (k6 : Int) < 4 := by omega
                            have hidx := fun W => run_four (n := mn) hlt6 W
                            obtain ⟨l0, l1, l2, lm, la⟩ := la_cells HC1.out.ks.k.tl
                            obtain ⟨b0, b1, b2⟩ := la_lts HC1.out.ks.k.tl
                            clear la
                            go_wp2_with fail
                            clear l0 l1 l2 lm b0 b1 b2
                            have hvs : ∀ W, PS2 w (LO p mb (mb + 1) (s0 + 4) bb ob (q1 j).k (q1 j).p (q1 j).i (q1 j).x) (bb 0) 0 ((x.write jj (q1 j).x).g 0) (mp 0) ((x.write jj (q1 j).x).s 0) W → W.cell? ⟨mb, 0, none⟩ = some (.pointer (some ⟨p, 0, none⟩)) ∧ W.cell? ⟨mb + 1, 0, none⟩ = some (.int .i64 2) ∧ W.cell? ⟨mb + 1, 1, none⟩ = some (.int .i64 0) ∧ W.cell? ⟨mb + 1, 2, none⟩ = some (.int .i64 8) := fun W h => have k := la_cells h.ks.k.tl; ⟨k.2.2.2.1, k.1, k.2.1, k.2.2.1⟩
                            have HCd := Lib.hid HC1.out.drew
                            go_region_held3 (PS2 w (LO p mb (mb + 1) (s0 + 4) bb ob (q1 j).k (q1 j).p (q1 j).i (q1 j).x) (bb 0) 0 ((x.write jj (q1 j).x).g 0) (mp 0) ((x.write jj (q1 j).x).s 0)) (first | (with_reducible assumption) | (with_reducible exact HCd.out.ps2 (by omega)) | (with_reducible exact HCt.out.ps2 (by omega)) | (with_reducible exact HC3.out.ps2 (by omega)) | fail)
                              (first
                                | (go_at_call 12; ((with_reducible refine (at_any hlt6).mono ?_); rintro e wt ⟨rfl, hb⟩; have HCt := Lib.hid (HCd.out.below hb); clear hb))
                                | (go_at_call 19; ((with_reducible refine (ma_means_is HCt.out.ma hlt6 (HM2.out k6 hlt6).symm (by omega)).mono ?_); rintro e w6 ⟨rfl, M5, O5⟩; have HC3 := Lib.hid (HCt.out.arena M5 O5); clear M5 O5)))
                            clear HCd HCt HC1
                            obtain ⟨q6, hq6⟩ : ∃ q6, q6 = k6 / 2 := ⟨_, rfl⟩
                            have hq62 : q6 < 2 := by omega
                            have q60 : (0 : Int) ≤ (q6 : Int) := Int.natCast_nonneg _
                            have q61 : (q6 : Int) < 2 := by omega
                            have tq6 : (k6 : Int).tdiv 2 = (q6 : Int) := by rw [Int.tdiv_eq_ediv_of_nonneg i60]; omega
                            have dq6 : (k6 : Int) / 2 = (q6 : Int) := by omega
                            have wq6 : IntKind.i64.wrap (q6 : Int) = (q6 : Int) := IntWalk.i64_in _ (by omega)
                            obtain ⟨au0, au1, au2, au3, aul, _, _, _⟩ := HC3.out.cellA hq62
                            obtain ⟨l0, l1, l2, lm, la⟩ := la_cells HC3.out.ks.k.tl
                            obtain ⟨b0, b1, b2⟩ := la_lts HC3.out.ks.k.tl
                            have laq := la q6 hq62
                            clear la
                            obtain ⟨cv, hrunl, hcb, hcv⟩ := (HC3.out.mm q6 hq62 (by omega)).look (i := k6) hlt6
                            have eok : (decide (k6 / 2 = q6) && (x.write jj (q1 j).x).wr k6) = (x.write jj (q1 j).x).wr k6 := by rw [decide_eq_true hq6.symm, Bool.true_and]
                            rw [eok] at hrunl
                            have HCV : Hid ((x.write jj (q1 j).x).wr k6 = true → cv = (x.write jj (q1 j).x).n k6) := Lib.hid (hcv hq6.symm)
                            clear hq6 eok hcb hcv
                            cases hok : (x.write jj (q1 j).x).wr k6
                            · rw [hok] at hrunl
                              go_wp2_with fail
                              clear au0 au1 au2 au3 aul l0 l1 l2 lm b0 b1 b2 laq hrunl
                              have HCd := Lib.hid HC3.out.drew
                              refine wp_region_held_drew (S := (PS2 w (LO p mb (mb + 1) (s0 + 4) bb ob (q1 j).k (q1 j).p (q1 j).i (q1 j).x) (bb 0) 0 ((x.write jj (q1 j).x).g 0) (mp 0) ((x.write jj (q1 j).x).s 0))) (by kernel_rfl) ?_ (fun hHeld => ?_)
                              · exact HCd.out.ps2 (by omega)
                              refine wpAnyH_take (i := 0) (v := ?_) rfl (by kernel_rfl) (by kernel_rfl) (by kernel_rfl) (fun _ _ _ h => h) (Or.inl ⟨by rfl, ?_⟩) (by assumption) ?_
                              rotate_left
                              · (intro w hSw; (try dsimp only at hSw); go_simp; try with_reducible rfl)
                              try simp only [Act.put, List.setIfInBounds_toArray, List.set_cons_zero, List.set_cons_succ, List.getElem_toArray, List.getElem_cons_zero]
                              refine wpAnyH_take (i := 1) (v := ?_) rfl (by kernel_rfl) (by kernel_rfl) (by kernel_rfl) (fun _ _ _ h => h) (Or.inl ⟨by rfl, ?_⟩) (by assumption) ?_
                              rotate_left
                              · (intro w hSw; (try dsimp only at hSw); go_simp; try with_reducible rfl)
                              try simp only [Act.put, List.setIfInBounds_toArray, List.set_cons_zero, List.set_cons_succ, List.getElem_toArray, List.getElem_cons_zero, List.getElem_cons_succ]
                              refine wpAnyH_take (i := 2) rfl (by kernel_rfl) (by kernel_rfl) (by kernel_rfl) (fun _ _ _ h => h) (Or.inr ⟨by rfl, rfl⟩) (by assumption) ?_
                              try simp only [Act.put, List.setIfInBounds_toArray, List.set_cons_zero, List.set_cons_succ, List.getElem_toArray, List.getElem_cons_zero, List.getElem_cons_succ]
                              refine wpAnyH_take (i := 3) rfl (by kernel_rfl) (by kernel_rfl) (by kernel_rfl) (fun _ _ _ h => h) (Or.inr ⟨by rfl, rfl⟩) (by assumption) ?_
                              try simp only [Act.put, List.setIfInBounds_toArray, List.set_cons_zero, List.set_cons_succ, List.getElem_toArray, List.getElem_cons_zero, List.getElem_cons_succ]
                              refine wpAnyH_take (i := 4) rfl (by kernel_rfl) (by kernel_rfl) (by kernel_rfl) (fun _ _ _ h => h) (Or.inr ⟨by rfl, rfl⟩) (by assumption) ?_
                              try simp only [Act.put, List.setIfInBounds_toArray, List.set_cons_zero, List.set_cons_succ, List.getElem_toArray, List.getElem_cons_zero, List.getElem_cons_succ]
                              refine wpAnyH_take (i := 5) rfl (by kernel_rfl) (by kernel_rfl) (by kernel_rfl) (fun _ _ _ h => h) (Or.inr ⟨by rfl, rfl⟩) (by assumption) ?_
                              try simp only [Act.put, List.setIfInBounds_toArray, List.set_cons_zero, List.set_cons_succ, List.getElem_toArray, List.getElem_cons_zero, List.getElem_cons_succ]
                              refine wpAnyH_take (i := 6) rfl (by kernel_rfl) (by kernel_rfl) (by kernel_rfl) (fun _ _ _ h => h) (Or.inr ⟨by rfl, rfl⟩) (by assumption) ?_
                              try simp only [Act.put, List.setIfInBounds_toArray, List.set_cons_zero, List.set_cons_succ, List.getElem_toArray, List.getElem_cons_zero, List.getElem_cons_succ]
                              refine wpAnyH_take (i := 7) rfl (by kernel_rfl) (by kernel_rfl) (by kernel_rfl) (fun _ _ _ h => h) (Or.inr ⟨by rfl, rfl⟩) (by assumption) ?_
                              try simp only [Act.put, List.setIfInBounds_toArray, List.set_cons_zero, List.set_cons_succ, List.getElem_toArray, List.getElem_cons_zero, List.getElem_cons_succ]
                              refine wpAnyH_take (i := 8) rfl (by kernel_rfl) (by kernel_rfl) (by kernel_rfl) (fun _ _ _ h => h) (Or.inr ⟨by rfl, rfl⟩) (by assumption) ?_
                              try simp only [Act.put, List.setIfInBounds_toArray, List.set_cons_zero, List.set_cons_succ, List.getElem_toArray, List.getElem_cons_zero, List.getElem_cons_succ]
                              refine wpAnyH_take (i := 9) (v := ?_) rfl (by kernel_rfl) (by kernel_rfl) (by kernel_rfl) (fun _ _ _ h => h) (Or.inl ⟨by rfl, ?_⟩) (by assumption) ?_
                              rotate_left
                              · (intro w hSw; (try dsimp only at hSw); go_simp; try with_reducible rfl)
                              try simp only [Act.put, List.setIfInBounds_toArray, List.set_cons_zero, List.set_cons_succ, List.getElem_toArray, List.getElem_cons_zero, List.getElem_cons_succ]
                              refine wpAnyH_done (by kernel_rfl) ?_ _
                              go_wp2_with fail
                              go_roundw
                              case rel => exact ⟨k6 + 1, by omega, by go_num, HCd.out.more (by omega) (by omega)⟩
                              case measure => simp [intOf]; omega
                            · rw [hok] at hrunl
                              have hcv := HCV.out hok
                              subst hcv
                              go_wp2_with fail
                              clear au0 au1 au2 au3 aul l0 l1 l2 lm b0 b1 b2 laq hrunl
                              have HCd := Lib.hid HC3.out.drew
                              go_region_held3 (PS2 w (LO p mb (mb + 1) (s0 + 4) bb ob (q1 j).k (q1 j).p (q1 j).i (q1 j).x) (bb 0) 0 ((x.write jj (q1 j).x).g 0) (mp 0) ((x.write jj (q1 j).x).s 0)) (first | (with_reducible assumption) | (with_reducible exact HCd.out.ps2 (by omega)) | (with_reducible exact HCt.out.ps2 (by omega)) | (with_reducible exact HC4.out.ps2 (by omega)) | fail)
                                (first
                                  | (go_at_call 12; ((with_reducible refine (at_any hlt6).mono ?_); rintro e wt ⟨rfl, hb⟩; have HCt := Lib.hid (HCd.out.below hb); clear hb))
                                  | (go_at_call 20; ((with_reducible refine (ma_new HCt.out.ma hlt6 (by omega)).mono ?_); rintro e w7 ⟨rfl, M5, O5⟩; have HC4 := Lib.hid (HCt.out.arena M5 O5); clear M5 O5)))
                              go_wp2_with fail
                              go_roundw
                              case rel => exact ⟨k6 + 1, by omega, by go_num, HC4.out.more (by omega) (by omega)⟩
                              case measure => simp [intOf]; omega
                          · have : k6 = 4 := by omega
                            subst this
                            go_wp2_with fail
                            go_roundw
                            case rel => exact ⟨j + 1, by omega, by go_num, _, _, _, HC1.out.tl.more (by omega) (by omega), HM2.out, HG2.out⟩
                            case measure => simp [intOf]; omega
                · rw [hs] at au3
                  clear hs
                  as_aux_lemma =>
                    go_wp2_with fail
                    go_roundw
                    case rel => exact ⟨j + 1, by omega, by go_num, x, mn, mp, (HS1.out.alloc _).more (by omega) (by omega), HMN.out, fun r hr => Nat.le_succ_of_le (HG.out r hr)⟩
                    case measure => simp [intOf]; omega
              · have e1 : ((q1 j).k == 1) = false := beq_eq_false_iff_ne.2 hk1
                clear hk1
                by_cases hk2 : (q1 j).k = 2
                · have e2 : ((q1 j).k == 2) = true := beq_iff_eq.2 hk2
                  clear hk2
                  as_aux_lemma =>
                    go_wp2_with fail
                    have HP0 : Hid (PW w p g (20 + 30 * j) (j) 2 (LO p mb (mb + 1) (s0 + 4) bb wr.heap.size (q1 j).k (q1 j).p (q1 j).i (q1 j).x) (mb + 2) bb mp x mn x (wr.alloc (.cells #[.int .i64 (q1 j).k, .int .i64 (q1 j).p, .int .i64 (q1 j).i, .int .i64 (q1 j).x] 48))) := Lib.hid HS1.out.var
                    clear f0 f1 f2 f3 au0 au1 au2 au3 aul auf1 auf2 auf3 l0 l1 l2 lm b0 b1 b2 laq
                    generalize wr.alloc (.cells #[.int .i64 (q1 j).k, .int .i64 (q1 j).p, .int .i64 (q1 j).i, .int .i64 (q1 j).x] 48) = wo at HP0 ⊢
                    generalize wr.heap.size = ob at HP0 ⊢
                    clear HS1
                    have hvs : ∀ W, PS2 w (LO p mb (mb + 1) (s0 + 4) bb ob (q1 j).k (q1 j).p (q1 j).i (q1 j).x) (bb sq) sq (x.g sq) (mp sq) (x.s sq) W → W.cell? ⟨bb sq, 0, none⟩ = some (.int .i64 ((sq : Nat) + 1)) ∧ W.cell? ⟨bb sq, 1, none⟩ = some (.int .i64 (x.g sq : Int)) ∧ W.cell? ⟨bb sq, 2, none⟩ = some (.map (some (mp sq))) ∧ W.cell? ⟨mb, 0, none⟩ = some (.pointer (some ⟨p, 0, none⟩)) ∧ W.cell? ⟨mb + 1, 0, none⟩ = some (.int .i64 2) ∧ W.cell? ⟨mb + 1, 1, none⟩ = some (.int .i64 0) ∧ W.cell? ⟨mb + 1, 2, none⟩ = some (.int .i64 8) ∧ W.cell? ⟨ob, 3, none⟩ = some (.int .i64 (q1 j).x) := fun W h => have k := la_cells h.ks.k.tl; ⟨Blk.cell h.au 0, Blk.cell h.au 1, Blk.cell h.au 2, k.2.2.2.1, k.1, k.2.1, k.2.2.1, (lo_cells h.ks.k).2.2.2.1⟩
                    have HPd := Lib.hid HP0.out.drew
                    go_region_held3 (PS2 w (LO p mb (mb + 1) (s0 + 4) bb ob (q1 j).k (q1 j).p (q1 j).i (q1 j).x) (bb sq) sq (x.g sq) (mp sq) (x.s sq)) (first | (with_reducible assumption) | (with_reducible exact HPd.out.ps2 hq) | (with_reducible exact HP3.out.ps2 hq) | fail)
                      (first
                        | (go_at_call 16; ((with_reducible refine (ma_commit HPd.out.ma hq rfl rfl (by omega)).mono ?_); rintro e w8 ⟨rfl, M5, O5⟩; have HP3 := Lib.hid (HPd.out.arena M5 O5); clear M5 O5)))
                    clear HPd HP0 hvs
                    obtain ⟨au0, au1, au2, au3, aul, _, _, _⟩ := HP3.out.cellA hq
                    obtain ⟨D, o1, o2, o3⟩ := HP3.out.mm sq hq (by omega)
                    obtain ⟨wg, hrunr, hrg, hgr, hszr⟩ := o1.range mapLawI Try.underlying42
                    have HPz := Lib.hid ((HP3.out.without sq).grown hgr (fun i hi => by cases hi))
                    have HOF := Lib.hid (And.intro HP3.out.ks.be.size (HP3.out.without sq).off_new)
                    have HRG := Lib.hid hrg
                    have HO2 := Lib.hid o2
                    have HO3 := Lib.hid o3
                    clear o1 o2 o3 hrg hgr hszr
                    go_wp2_with fail
                    clear hrunr au0 au1 au2 au3 aul HP3
                    generalize w8.heap.size = rb at HRG HOF ⊢
                    go_loopw [19] (fun _ wr => ∃ (left : Lit → Bool) (cnt : Nat) (mn2 : Nat → Int), wr.ranges Try.prog 3 (plainElem Try.prog 3) (mp sq) rb j D left cnt ∧ PW w p g (20 + 30 * j + 1) (j) sq (LO p mb (mb + 1) (s0 + 4) bb ob (q1 j).k (q1 j).p (q1 j).i (q1 j).x) (mb + 2) bb mp (x.commit sq) mn2 x wr ∧ (∀ i : Nat, i < 4 → mn2 i = if i / 2 = sq ∧ x.wr i = true ∧ left (.int .i64 (i : Int)) = false then x.n i else mn i) ∧ (∀ kl, left kl = true → Maps.has D kl = true)) (fun _ wr => wr.rangeLeft (mp sq) rb)
                    case atStart => exact ⟨_, _, mn, HRG.out, HPz.out, fun i hi => by
                      rw [if_neg]
                      rintro ⟨a1, a2, a3⟩
                      rw [HO2.out] at a3
                      exact (of_decide_eq_false a3) ⟨i, hi, a1, a2, rfl⟩, fun _ h => h⟩
                    case round =>
                      clear HRG HPz
                      obtain ⟨left, cnt, mn2, hrg, P4, hmn2, hle⟩ := hrel
                      have HP4 := Lib.hid P4
                      have HM2 := Lib.hid hmn2
                      have HLE := Lib.hid hle
                      have HRG := Lib.hid hrg
                      clear P4 hmn2 hle
                      rcases hrg.next mapLawI 0 with ⟨h0, hl0, hrunn⟩ | ⟨key, v, kl, yy, w9, cnt1, hkey, hlk, hv, hat, hrunn, hrg1, hlt1, hgr1, hsz1, hen⟩
                      · clear hrg
                        have HL0 := Lib.hid hl0
                        clear hl0
                        obtain ⟨au0, au1, au2, au3, aul, auf1, auf2, auf3⟩ := HP4.out.cellA hq
                        have HP5 := Lib.hid (((HP4.out.with_ ⟨D, HRG.out.owns, HO2.out, HO3.out⟩).seen hq).more (m' := 20 + 30 * j + 1) (kk' := j + 1) (by omega) (by omega))
                        have HM3 : Hid (∀ i, i < 4 → mn2 i = (x.commit sq).mean i) := Lib.hid (fun i hi => by
                          rw [HM2.out i hi, mean_commit, HL0.out]
                          by_cases e : i / 2 = sq ∧ x.wr i = true
                          · rw [if_pos ⟨e.1, e.2, rfl⟩, if_pos e]
                          · rw [if_neg (fun h => e ⟨h.1, h.2.1⟩), if_neg e]; exact HMN.out i hi)
                        have HG3 : Hid (∀ r, r < 2 → (x.commit sq).g r ≤ j + 1) := Lib.hid (fun r hr => Nat.le_succ_of_le (HG.out r hr))
                        generalize hw5 : wr.setCell ⟨bb sq, 3, none⟩ (.bool true) = w5 at HP5
                        obtain ⟨nn0, _, nnl⟩ := HP5.out.cellN (j := 0) (by omega)
                        obtain ⟨nn1, _, _⟩ := HP5.out.cellN (j := 1) (by omega)
                        obtain ⟨nn2, _, _⟩ := HP5.out.cellN (j := 2) (by omega)
                        obtain ⟨nn3, _, _⟩ := HP5.out.cellN (j := 3) (by omega)
                        clear HM2 HLE HRG HO2 HO3 HMN HG HL0
                        go_wp2_with fail
                        clear nn0 nn1 nn2 nn3 nnl au0 au1 au2 au3 aul auf1 auf2 auf3 hrunn hw5 HP4
                        obtain ⟨nn0, _, nnl⟩ := HP5.out.cellN (j := 0) (by omega)
                        obtain ⟨nn1, _, _⟩ := HP5.out.cellN (j := 1) (by omega)
                        obtain ⟨nn2, _, _⟩ := HP5.out.cellN (j := 2) (by omega)
                        obtain ⟨nn3, _, _⟩ := HP5.out.cellN (j := 3) (by omega)
                        go_wp2_with fail
                        clear nn0 nn1 nn2 nn3 nnl
                        go_loopw [222] (fun v wr => ∃ k6 : Nat, k6 ≤ 4 ∧ v = .int .i64 (k6 : Int) ∧ PW w p g (20 + 30 * j + 1 + 3 * k6) (j + 1) 2 (LO p mb (mb + 1) (s0 + 4) bb ob (q1 j).k (q1 j).p (q1 j).i (q1 j).x) (mb + 2) bb mp (x.commit sq) mn2 (x.commit sq) wr) (fun v _ => 4 - (intOf v).toNat)
                        case atStart => exact ⟨0, Nat.zero_le _, rfl, HP5.out.more (by omega) (by omega)⟩
                        case round =>
                          clear HP5
                          obtain ⟨k6, hk6, rfl, P6⟩ := hrel
                          have HC1 := Lib.hid P6
                          clear P6
                          by_cases hlt6 : k6 < 4
                          · have i60 : (0 : Int) ≤ (k6 : Int) := Int.natCast_nonneg _
                            have i61 : (k6 : Int) < 4 := by omega
                            have hidx := fun W => run_four (n := mn2) hlt6 W
                            obtain ⟨l0, l1, l2, lm, la⟩ := la_cells HC1.out.ks.k.tl
                            obtain ⟨b0, b1, b2⟩ := la_lts HC1.out.ks.k.tl
                            clear la
                            go_wp2_with fail
                            clear l0 l1 l2 lm b0 b1 b2
                            have hvs : ∀ W, PS2 w (LO p mb (mb + 1) (s0 + 4) bb ob (q1 j).k (q1 j).p (q1 j).i (q1 j).x) (bb 0) 0 ((x.commit sq).g 0) (mp 0) ((x.commit sq).s 0) W → W.cell? ⟨mb, 0, none⟩ = some (.pointer (some ⟨p, 0, none⟩)) ∧ W.cell? ⟨mb + 1, 0, none⟩ = some (.int .i64 2) ∧ W.cell? ⟨mb + 1, 1, none⟩ = some (.int .i64 0) ∧ W.cell? ⟨mb + 1, 2, none⟩ = some (.int .i64 8) := fun W h => have k := la_cells h.ks.k.tl; ⟨k.2.2.2.1, k.1, k.2.1, k.2.2.1⟩
                            have HCd := Lib.hid HC1.out.drew
                            go_region_held3 (PS2 w (LO p mb (mb + 1) (s0 + 4) bb ob (q1 j).k (q1 j).p (q1 j).i (q1 j).x) (bb 0) 0 ((x.commit sq).g 0) (mp 0) ((x.commit sq).s 0)) (first | (with_reducible assumption) | (with_reducible exact HCd.out.ps2 (by omega)) | (with_reducible exact HCt.out.ps2 (by omega)) | (with_reducible exact HC3.out.ps2 (by omega)) | fail)
                              (first
                                | (go_at_call 12; ((with_reducible refine (at_any hlt6).mono ?_); rintro e wt ⟨rfl, hb⟩; have HCt := Lib.hid (HCd.out.below hb); clear hb))
                                | (go_at_call 19; ((with_reducible refine (ma_means_is HCt.out.ma hlt6 (HM3.out k6 hlt6).symm (by omega)).mono ?_); rintro e w6 ⟨rfl, M5, O5⟩; have HC3 := Lib.hid (HCt.out.arena M5 O5); clear M5 O5)))
                            clear HCd HCt HC1
                            obtain ⟨q6, hq6⟩ : ∃ q6, q6 = k6 / 2 := ⟨_, rfl⟩
                            have hq62 : q6 < 2 := by omega
                            have q60 : (0 : Int) ≤ (q6 : Int) := Int.natCast_nonneg _
                            have q61 : (q6 : Int) < 2 := by omega
                            have tq6 : (k6 : Int).tdiv 2 = (q6 : Int) := by rw [Int.tdiv_eq_ediv_of_nonneg i60]; omega
                            have dq6 : (k6 : Int) / 2 = (q6 : Int) := by omega
                            have wq6 : IntKind.i64.wrap (q6 : Int) = (q6 : Int) := IntWalk.i64_in _ (by omega)
                            obtain ⟨au0, au1, au2, au3, aul, _, _, _⟩ := HC3.out.cellA hq62
                            obtain ⟨l0, l1, l2, lm, la⟩ := la_cells HC3.out.ks.k.tl
                            obtain ⟨b0, b1, b2⟩ := la_lts HC3.out.ks.k.tl
                            have laq := la q6 hq62
                            clear la
                            obtain ⟨cv, hrunl, hcb, hcv⟩ := (HC3.out.mm q6 hq62 (by omega)).look (i := k6) hlt6
                            have eok : (decide (k6 / 2 = q6) && (x.commit sq).wr k6) = (x.commit sq).wr k6 := by rw [decide_eq_true hq6.symm, Bool.true_and]
                            rw [eok] at hrunl
                            have HCV : Hid ((x.commit sq).wr k6 = true → cv = (x.commit sq).n k6) := Lib.hid (hcv hq6.symm)
                            clear hq6 eok hcb hcv
                            cases hok : (x.commit sq).wr k6
                            · rw [hok] at hrunl
                              go_wp2_with fail
                              clear au0 au1 au2 au3 aul l0 l1 l2 lm b0 b1 b2 laq hrunl
                              have HCd := Lib.hid HC3.out.drew
                              refine wp_region_held_drew (S := (PS2 w (LO p mb (mb + 1) (s0 + 4) bb ob (q1 j).k (q1 j).p (q1 j).i (q1 j).x) (bb 0) 0 ((x.commit sq).g 0) (mp 0) ((x.commit sq).s 0))) (by kernel_rfl) ?_ (fun hHeld => ?_)
                              · exact HCd.out.ps2 (by omega)
                              refine wpAnyH_take (i := 0) (v := ?_) rfl (by kernel_rfl) (by kernel_rfl) (by kernel_rfl) (fun _ _ _ h => h) (Or.inl ⟨by rfl, ?_⟩) (by assumption) ?_
                              rotate_left
                              · (intro w hSw; (try dsimp only at hSw); go_simp; try with_reducible rfl)
                              try simp only [Act.put, List.setIfInBounds_toArray, List.set_cons_zero, List.set_cons_succ, List.getElem_toArray, List.getElem_cons_zero]
                              refine wpAnyH_take (i := 1) (v := ?_) rfl (by kernel_rfl) (by kernel_rfl) (by kernel_rfl) (fun _ _ _ h => h) (Or.inl ⟨by rfl, ?_⟩) (by assumption) ?_
                              rotate_left
                              · (intro w hSw; (try dsimp only at hSw); go_simp; try with_reducible rfl)
                              try simp only [Act.put, List.setIfInBounds_toArray, List.set_cons_zero, List.set_cons_succ, List.getElem_toArray, List.getElem_cons_zero, List.getElem_cons_succ]
                              refine wpAnyH_take (i := 2) rfl (by kernel_rfl) (by kernel_rfl) (by kernel_rfl) (fun _ _ _ h => h) (Or.inr ⟨by rfl, rfl⟩) (by assumption) ?_
                              try simp only [Act.put, List.setIfInBounds_toArray, List.set_cons_zero, List.set_cons_succ, List.getElem_toArray, List.getElem_cons_zero, List.getElem_cons_succ]
                              refine wpAnyH_take (i := 3) rfl (by kernel_rfl) (by kernel_rfl) (by kernel_rfl) (fun _ _ _ h => h) (Or.inr ⟨by rfl, rfl⟩) (by assumption) ?_
                              try simp only [Act.put, List.setIfInBounds_toArray, List.set_cons_zero, List.set_cons_succ, List.getElem_toArray, List.getElem_cons_zero, List.getElem_cons_succ]
                              refine wpAnyH_take (i := 4) rfl (by kernel_rfl) (by kernel_rfl) (by kernel_rfl) (fun _ _ _ h => h) (Or.inr ⟨by rfl, rfl⟩) (by assumption) ?_
                              try simp only [Act.put, List.setIfInBounds_toArray, List.set_cons_zero, List.set_cons_succ, List.getElem_toArray, List.getElem_cons_zero, List.getElem_cons_succ]
                              refine wpAnyH_take (i := 5) rfl (by kernel_rfl) (by kernel_rfl) (by kernel_rfl) (fun _ _ _ h => h) (Or.inr ⟨by rfl, rfl⟩) (by assumption) ?_
                              try simp only [Act.put, List.setIfInBounds_toArray, List.set_cons_zero, List.set_cons_succ, List.getElem_toArray, List.getElem_cons_zero, List.getElem_cons_succ]
                              refine wpAnyH_take (i := 6) rfl (by kernel_rfl) (by kernel_rfl) (by kernel_rfl) (fun _ _ _ h => h) (Or.inr ⟨by rfl, rfl⟩) (by assumption) ?_
                              try simp only [Act.put, List.setIfInBounds_toArray, List.set_cons_zero, List.set_cons_succ, List.getElem_toArray, List.getElem_cons_zero, List.getElem_cons_succ]
                              refine wpAnyH_take (i := 7) rfl (by kernel_rfl) (by kernel_rfl) (by kernel_rfl) (fun _ _ _ h => h) (Or.inr ⟨by rfl, rfl⟩) (by assumption) ?_
                              try simp only [Act.put, List.setIfInBounds_toArray, List.set_cons_zero, List.set_cons_succ, List.getElem_toArray, List.getElem_cons_zero, List.getElem_cons_succ]
                              refine wpAnyH_take (i := 8) rfl (by kernel_rfl) (by kernel_rfl) (by kernel_rfl) (fun _ _ _ h => h) (Or.inr ⟨by rfl, rfl⟩) (by assumption) ?_
                              try simp only [Act.put, List.setIfInBounds_toArray, List.set_cons_zero, List.set_cons_succ, List.getElem_toArray, List.getElem_cons_zero, List.getElem_cons_succ]
                              refine wpAnyH_take (i := 9) (v := ?_) rfl (by kernel_rfl) (by kernel_rfl) (by kernel_rfl) (fun _ _ _ h => h) (Or.inl ⟨by rfl, ?_⟩) (by assumption) ?_
                              rotate_left
                              · (intro w hSw; (try dsimp only at hSw); go_simp; try with_reducible rfl)
                              try simp only [Act.put, List.setIfInBounds_toArray, List.set_cons_zero, List.set_cons_succ, List.getElem_toArray, List.getElem_cons_zero, List.getElem_cons_succ]
                              refine wpAnyH_done (by kernel_rfl) ?_ _
                              go_wp2_with fail
                              go_roundw
                              case rel => exact ⟨k6 + 1, by omega, by go_num, HCd.out.more (by omega) (by omega)⟩
                              case measure => simp [intOf]; omega
                            · rw [hok] at hrunl
                              have hcv := HCV.out hok
                              subst hcv
                              go_wp2_with fail
                              clear au0 au1 au2 au3 aul l0 l1 l2 lm b0 b1 b2 laq hrunl
                              have HCd := Lib.hid HC3.out.drew
                              go_region_held3 (PS2 w (LO p mb (mb + 1) (s0 + 4) bb ob (q1 j).k (q1 j).p (q1 j).i (q1 j).x) (bb 0) 0 ((x.commit sq).g 0) (mp 0) ((x.commit sq).s 0)) (first | (with_reducible assumption) | (with_reducible exact HCd.out.ps2 (by omega)) | (with_reducible exact HCt.out.ps2 (by omega)) | (with_reducible exact HC4.out.ps2 (by omega)) | fail)
                                (first
                                  | (go_at_call 12; ((with_reducible refine (at_any hlt6).mono ?_); rintro e wt ⟨rfl, hb⟩; have HCt := Lib.hid (HCd.out.below hb); clear hb))
                                  | (go_at_call 20; ((with_reducible refine (ma_new HCt.out.ma hlt6 (by omega)).mono ?_); rintro e w7 ⟨rfl, M5, O5⟩; have HC4 := Lib.hid (HCt.out.arena M5 O5); clear M5 O5)))
                              go_wp2_with fail
                              go_roundw
                              case rel => exact ⟨k6 + 1, by omega, by go_num, HC4.out.more (by omega) (by omega)⟩
                              case measure => simp [intOf]; omega
                          · have : k6 = 4 := by omega
                            subst this
                            go_wp2_with fail
                            go_roundw
                            case rel => exact ⟨j + 1, by omega, by go_num, _, _, _, HC1.out.tl.more (by omega) (by omega), HM3.out, HG3.out⟩
                            case measure => simp [intOf]; omega
                      · obtain ⟨xk, rfl, rfl, hwx⟩ := Maps.keyOf_int_inv Try.underlying3 hkey
                        obtain ⟨cv, rfl, rfl, hwc⟩ := plainElem_int_inv Try.underlying3 hv
                        have hx1 := HLE.out _ hlk
                        rw [HO2.out] at hx1
                        obtain ⟨ii, hi4, hiq, hiw, rfl⟩ := of_decide_eq_true hx1
                        have hcv : cv = x.n ii := by
                          have k1 := hat (.lit (.int .i64 0))
                          rw [HO3.out ii hi4 hiq hiw] at k1
                          injection k1 with k1
                          injection k1 with _ k1
                          exact k1.symm
                        subst hcv
                        have HP5 := Lib.hid (HP4.out.grown hgr1 (fun i hi => by cases hi; exact HOF.out))
                        obtain ⟨cn, fn, nl⟩ := HP5.out.cellN hi4
                        have HP6 := Lib.hid (HP5.out.setN hi4 (x.n ii))
                        have HR6 := Lib.hid (hrg1.kept (grown_set w9 (mb + 2) ii (.int .i64 (x.n ii))) (fun e => by injection e with e; exact (WM.ne_blk ⟨D, hrg1.owns, HO2.out, HO3.out⟩ HP5.out.nbk) e.symm) (fun e => by injection e with e; exact HOF.out.2.2.2.1 e))
                        have HM6 : Hid (∀ i : Nat, i < 4 → upd mn2 ii (x.n ii) i = if i / 2 = sq ∧ x.wr i = true ∧ (left (.int .i64 (i : Int)) && !(Lit.int .i64 (i : Int)).sameKey (.int .i64 (ii : Int))) = false then x.n i else mn i) := Lib.hid (fun i hi => by
                          by_cases e : i = ii
                          · subst e
                            rw [upd_same, if_pos ⟨hiq, hiw, by rw [Go.WideAt.sameKey_self keyII]; simp⟩]
                          · rw [upd_other _ _ e, HM2.out i hi, Go.Maps.sameKey_ne (fun h => e (by injection h with _ h; omega))]
                            simp)
                        have HLT : Hid (cnt1 < cnt) := Lib.hid hlt1
                        have HL6 : Hid (∀ kl, (left kl && !kl.sameKey (.int .i64 (ii : Int))) = true → Maps.has D kl = true) := Lib.hid (fun kl h => HLE.out kl (Bool.and_eq_true _ _ ▸ h).1)
                        have ii0 : (0 : Int) ≤ (ii : Int) := Int.natCast_nonneg _
                        have ii1 : (ii : Int) < 4 := by omega
                        clear hkey hv hat hlk hx1 hwx hwc hrg1 hlt1 hgr1 hsz1 hrg
                        go_wp2_with fail
                        go_roundw
                        case rel => exact ⟨_, cnt1, _, HR6.out, HP6.out, HM6.out, HL6.out⟩
                        case measure => rw [HR6.out.left_eq, HRG.out.left_eq]; exact HLT.out
                · have e2 : ((q1 j).k == 2) = false := beq_eq_false_iff_ne.2 hk2
                  clear hk2
                  cases hs : x.s sq
                  · rw [hs] at au3
                    clear hs
                    as_aux_lemma =>
                      go_wp2_with fail
                      go_roundw
                      case rel => exact ⟨j + 1, by omega, by go_num, x, mn, mp, (HS1.out.alloc _).more (by omega) (by omega), HMN.out, fun r hr => Nat.le_succ_of_le (HG.out r hr)⟩
                      case measure => simp [intOf]; omega
                  · rw [hs] at au3
                    have HSS : Hid (x.s sq = true) := Lib.hid hs
                    clear hs
                    as_aux_lemma =>
                      go_wp2_with fail
                      have HP0 : Hid (PW w p g (20 + 30 * j) (j) 2 (LO p mb (mb + 1) (s0 + 4) bb wr.heap.size (q1 j).k (q1 j).p (q1 j).i (q1 j).x) (mb + 2) bb mp x mn x (wr.alloc (.cells #[.int .i64 (q1 j).k, .int .i64 (q1 j).p, .int .i64 (q1 j).i, .int .i64 (q1 j).x] 48))) := Lib.hid HS1.out.var
                      clear f0 f1 f2 f3 au0 au1 au2 au3 aul auf1 auf2 auf3 l0 l1 l2 lm b0 b1 b2 laq
                      generalize wr.alloc (.cells #[.int .i64 (q1 j).k, .int .i64 (q1 j).p, .int .i64 (q1 j).i, .int .i64 (q1 j).x] 48) = wo at HP0 ⊢
                      generalize wr.heap.size = ob at HP0 ⊢
                      clear HS1
                      go_loopw [108] (fun v wr => ∃ k5 : Nat, k5 ≤ 4 ∧ v = .int .i64 (k5 : Int) ∧ PW w p g (20 + 30 * j + 2 * k5) (j) 2 (LO p mb (mb + 1) (s0 + 4) bb ob (q1 j).k (q1 j).p (q1 j).i (q1 j).x) (mb + 2) bb mp (clrTo x sq k5) mn x wr) (fun v _ => 4 - (intOf v).toNat)
                      case atStart => exact ⟨0, Nat.zero_le _, rfl, by rw [clrTo_0]; exact HP0.out⟩
                      case round =>
                        clear HP0
                        obtain ⟨k5, hk5, rfl, P5⟩ := hrel
                        have HP1 := Lib.hid P5
                        clear P5
                        by_cases hlt5 : k5 < 4
                        · have i50 : (0 : Int) ≤ (k5 : Int) := Int.natCast_nonneg _
                          have i51 : (k5 : Int) < 4 := by omega
                          obtain ⟨au0, au1, au2, au3, aul, _, _, _⟩ := HP1.out.cellA hq
                          obtain ⟨cv, hrunl, _, _⟩ := (HP1.out.mm sq hq (by omega)).look (i := k5) hlt5
                          cases hok : (decide (k5 / 2 = sq) && x.wr k5)
                          · rw [hok] at hrunl
                            have HK := Lib.hid (clrTo_no hok)
                            clear hok
                            go_wp2_with fail
                            go_roundw
                            case rel => exact ⟨k5 + 1, by omega, by go_num, by rw [HK.out]; exact HP1.out.more (by omega) (by omega)⟩
                            case measure => simp [intOf]; omega
                          · rw [hok] at hrunl
                            have HK : Hid ((clrTo x sq k5).clean k5 = clrTo x sq (k5 + 1)) := Lib.hid (clrTo_yes (of_decide_eq_true (Bool.and_eq_true _ _ ▸ hok).1))
                            clear hok
                            go_wp2_with fail
                            clear au0 au1 au2 au3 aul hrunl
                            have hvs : ∀ W, PS2 w (LO p mb (mb + 1) (s0 + 4) bb ob (q1 j).k (q1 j).p (q1 j).i (q1 j).x) (bb sq) sq (x.g sq) (mp sq) (x.s sq) W → W.cell? ⟨bb sq, 0, none⟩ = some (.int .i64 ((sq : Nat) + 1)) ∧ W.cell? ⟨bb sq, 1, none⟩ = some (.int .i64 (x.g sq : Int)) ∧ W.cell? ⟨bb sq, 2, none⟩ = some (.map (some (mp sq))) ∧ W.cell? ⟨mb, 0, none⟩ = some (.pointer (some ⟨p, 0, none⟩)) ∧ W.cell? ⟨mb + 1, 0, none⟩ = some (.int .i64 2) ∧ W.cell? ⟨mb + 1, 1, none⟩ = some (.int .i64 0) ∧ W.cell? ⟨mb + 1, 2, none⟩ = some (.int .i64 8) ∧ W.cell? ⟨ob, 3, none⟩ = some (.int .i64 (q1 j).x) := fun W h => have k := la_cells h.ks.k.tl; ⟨Blk.cell h.au 0, Blk.cell h.au 1, Blk.cell h.au 2, k.2.2.2.1, k.1, k.2.1, k.2.2.1, (lo_cells h.ks.k).2.2.2.1⟩
                            have HPd := Lib.hid HP1.out.drew
                            go_region_held3 (PS2 w (LO p mb (mb + 1) (s0 + 4) bb ob (q1 j).k (q1 j).p (q1 j).i (q1 j).x) (bb sq) sq (x.g sq) (mp sq) (x.s sq)) (first | (with_reducible assumption) | (with_reducible exact HPd.out.ps2 hq) | (with_reducible exact HPt.out.ps2 hq) | (with_reducible exact HP3.out.ps2 hq) | fail)
                              (first
                                | (go_at_call 12; ((with_reducible refine (at_any hlt5).mono ?_); rintro e wt ⟨rfl, hb⟩; have HPt := Lib.hid (HPd.out.below hb); clear hb))
                                | (go_at_call 17; ((with_reducible refine (ma_clean HPt.out.ma hlt5 (by omega)).mono ?_); rintro e w8 ⟨rfl, M5, O5⟩; have HP3 := Lib.hid (HPt.out.arena M5 O5); clear M5 O5)))
                            go_wp2_with fail
                            go_roundw
                            case rel => exact ⟨k5 + 1, by omega, by go_num, by rw [← HK.out]; exact HP3.out.more (by omega) (by omega)⟩
                            case measure => simp [intOf]; omega
                        · have : k5 = 4 := by omega
                          subst this
                          rw [show ((4 : Nat) : Int) = (4 : Int) from rfl]
                          go_wp2_with fail
                          have HE1 : Hid ((clrTo x sq 4).g sq + 1 ≤ 1000000) := Lib.hid (by have := HG.out sq hq; show x.g sq + 1 ≤ 1000000; omega)
                          have HE3 : Hid ((x.g sq : Int) = ((clrTo x sq 4).g sq : Int)) := Lib.hid rfl
                          have HE2 : Hid (∀ i, i < 4 → i / 2 = sq → (clrTo x sq 4).wr i = false) := Lib.hid (fun i hi hiq => if_pos ⟨hi, hiq⟩)
                          have hvs : ∀ W, PS2 w (LO p mb (mb + 1) (s0 + 4) bb ob (q1 j).k (q1 j).p (q1 j).i (q1 j).x) (bb sq) sq (x.g sq) (mp sq) (x.s sq) W → W.cell? ⟨bb sq, 0, none⟩ = some (.int .i64 ((sq : Nat) + 1)) ∧ W.cell? ⟨bb sq, 1, none⟩ = some (.int .i64 (x.g sq : Int)) ∧ W.cell? ⟨bb sq, 2, none⟩ = some (.map (some (mp sq))) ∧ W.cell? ⟨mb, 0, none⟩ = some (.pointer (some ⟨p, 0, none⟩)) ∧ W.cell? ⟨mb + 1, 0, none⟩ = some (.int .i64 2) ∧ W.cell? ⟨mb + 1, 1, none⟩ = some (.int .i64 0) ∧ W.cell? ⟨mb + 1, 2, none⟩ = some (.int .i64 8) ∧ W.cell? ⟨ob, 3, none⟩ = some (.int .i64 (q1 j).x) := fun W h => have k := la_cells h.ks.k.tl; ⟨Blk.cell h.au 0, Blk.cell h.au 1, Blk.cell h.au 2, k.2.2.2.1, k.1, k.2.1, k.2.2.1, (lo_cells h.ks.k).2.2.2.1⟩
                          have HPd := Lib.hid HP1.out.drew
                          go_region_held3 (PS2 w (LO p mb (mb + 1) (s0 + 4) bb ob (q1 j).k (q1 j).p (q1 j).i (q1 j).x) (bb sq) sq (x.g sq) (mp sq) (x.s sq)) (first | (with_reducible assumption) | (with_reducible exact HPd.out.ps2 hq) | (with_reducible exact HP3.out.ps2 hq) | fail)
                            (first
                              | (go_at_call 18; ((with_reducible refine (ma_end HPd.out.ma hq HE1.out HE2.out rfl HE3.out (by omega)).mono ?_); rintro e w8 ⟨rfl, M5, O5⟩; have HP3 := Lib.hid (HPd.out.arena M5 O5); clear M5 O5)))
                          clear HPd HP1 hvs HE1 HE2 HE3
                          obtain ⟨au0, au1, au2, au3, aul, auf1, auf2, auf3⟩ := HP3.out.cellA hq
                          have hgq := HG.out sq hq
                          have wg1 : IntKind.i64.wrap ((x.g sq : Int) + 1) = ((x.g sq + 1 : Nat) : Int) := (IntWalk.i64_in _ (by omega)).trans (by omega)
                          have HPf : Hid (PW w p g (20 + 30 * j + 9) (j + 1) 2 (LO p mb (mb + 1) (s0 + 4) bb ob (q1 j).k (q1 j).p (q1 j).i (q1 j).x) (mb + 2) bb (fun i => if i = sq then w8.heap.size else mp i) ((clrTo x sq 4).end_ sq) mn ((clrTo x sq 4).end_ sq) ((((w8.setCell ⟨bb sq, 1, none⟩ (.int .i64 ((x.g sq + 1 : Nat) : Int))).alloc (.map #[] 0)).setCell ⟨bb sq, 2, none⟩ (.map (some w8.heap.size))).setCell ⟨bb sq, 3, none⟩ (.bool false))) := Lib.hid ((HP3.out.day hq).more (m' := 20 + 30 * j + 9) (kk' := j + 1) (by omega) (by omega))
                          have eW : ((((w8.setCell ⟨bb sq, 1, none⟩ (.int .i64 ((x.g sq + 1 : Nat) : Int))).alloc (.map #[] 0)).setCell ⟨bb sq, 2, none⟩ (.map (some w8.heap.size))).setCell ⟨bb sq, 3, none⟩ (.bool false)) = ((((w8.setCell ⟨bb sq, 1, none⟩ (.int .i64 ((x.g sq : Int) + 1))).setCell ⟨bb sq, 2, none⟩ (.map (some w8.heap.size))).setCell ⟨bb sq, 3, none⟩ (.bool false)).alloc (.map #[] 0)) := by simp [World.setCell_alloc_past, aul]
                          have HEW := Lib.hid eW
                          clear eW
                          have HM2 : Hid (∀ i, i < 4 → mn i = ((clrTo x sq 4).end_ sq).mean i) := Lib.hid (fun i hi => by rw [mean_end HSS.out i hi]; exact HMN.out i hi)
                          have HG2 : Hid (∀ r, r < 2 → ((clrTo x sq 4).end_ sq).g r ≤ j + 1) := Lib.hid (fun r hr => by
                            have := HG.out r hr
                            show (if r = sq then x.g sq + 1 else x.g r) ≤ j + 1
                            split
                            · rename_i e; subst e; omega
                            · omega)
                          obtain ⟨nn0, _, nnl⟩ := HP3.out.cellN (j := 0) (by omega)
                          obtain ⟨nn1, _, _⟩ := HP3.out.cellN (j := 1) (by omega)
                          obtain ⟨nn2, _, _⟩ := HP3.out.cellN (j := 2) (by omega)
                          obtain ⟨nn3, _, _⟩ := HP3.out.cellN (j := 3) (by omega)
                          have hnab : mb + 2 ≠ bb sq := HP3.out.nbk.ne_ (HP3.out.au sq hq) (by decide)
                          have hmm := @run_makeMap Try.prog
                          clear hgq HMN HG
                          go_wp2_with fail
                          clear nn0 nn1 nn2 nn3 nnl hnab au0 au1 au2 au3 aul auf1 auf2 auf3 HP3
                          rw [HEW.out] at HPf
                          clear HEW
                          generalize ((((w8.setCell ⟨bb sq, 1, none⟩ (.int .i64 ((x.g sq : Int) + 1))).setCell ⟨bb sq, 2, none⟩ (.map (some w8.heap.size))).setCell ⟨bb sq, 3, none⟩ (.bool false)).alloc (.map #[] 0)) = w10 at HPf ⊢
                          generalize (fun i => if i = sq then w8.heap.size else mp i) = mp2 at HPf
                          obtain ⟨nn0, _, nnl⟩ := HPf.out.cellN (j := 0) (by omega)
                          obtain ⟨nn1, _, _⟩ := HPf.out.cellN (j := 1) (by omega)
                          obtain ⟨nn2, _, _⟩ := HPf.out.cellN (j := 2) (by omega)
                          obtain ⟨nn3, _, _⟩ := HPf.out.cellN (j := 3) (by omega)
                          go_wp2_with fail
                          clear nn0 nn1 nn2 nn3 nnl
                          go_loopw [222] (fun v wr => ∃ k6 : Nat, k6 ≤ 4 ∧ v = .int .i64 (k6 : Int) ∧ PW w p g (20 + 30 * j + 9 + 3 * k6) (j + 1) 2 (LO p mb (mb + 1) (s0 + 4) bb ob (q1 j).k (q1 j).p (q1 j).i (q1 j).x) (mb + 2) bb mp2 ((clrTo x sq 4).end_ sq) mn ((clrTo x sq 4).end_ sq) wr) (fun v _ => 4 - (intOf v).toNat)
                          case atStart => exact ⟨0, Nat.zero_le _, rfl, HPf.out.more (by omega) (by omega)⟩
                          case round =>
                            clear HPf
                            obtain ⟨k6, hk6, rfl, P6⟩ := hrel
                            have HC1 := Lib.hid P6
                            clear P6
                            by_cases hlt6 : k6 < 4
                            · have i60 : (0 : Int) ≤ (k6 : Int) := Int.natCast_nonneg _
                              have i61 : (k6 : Int) < 4 := by omega
                              have hidx := fun W => run_four (n := mn) hlt6 W
                              obtain ⟨l0, l1, l2, lm, la⟩ := la_cells HC1.out.ks.k.tl
                              obtain ⟨b0, b1, b2⟩ := la_lts HC1.out.ks.k.tl
                              clear la
                              go_wp2_with fail
                              clear l0 l1 l2 lm b0 b1 b2
                              have hvs : ∀ W, PS2 w (LO p mb (mb + 1) (s0 + 4) bb ob (q1 j).k (q1 j).p (q1 j).i (q1 j).x) (bb 0) 0 (((clrTo x sq 4).end_ sq).g 0) (mp2 0) (((clrTo x sq 4).end_ sq).s 0) W → W.cell? ⟨mb, 0, none⟩ = some (.pointer (some ⟨p, 0, none⟩)) ∧ W.cell? ⟨mb + 1, 0, none⟩ = some (.int .i64 2) ∧ W.cell? ⟨mb + 1, 1, none⟩ = some (.int .i64 0) ∧ W.cell? ⟨mb + 1, 2, none⟩ = some (.int .i64 8) := fun W h => have k := la_cells h.ks.k.tl; ⟨k.2.2.2.1, k.1, k.2.1, k.2.2.1⟩
                              have HCd := Lib.hid HC1.out.drew
                              go_region_held3 (PS2 w (LO p mb (mb + 1) (s0 + 4) bb ob (q1 j).k (q1 j).p (q1 j).i (q1 j).x) (bb 0) 0 (((clrTo x sq 4).end_ sq).g 0) (mp2 0) (((clrTo x sq 4).end_ sq).s 0)) (first | (with_reducible assumption) | (with_reducible exact HCd.out.ps2 (by omega)) | (with_reducible exact HCt.out.ps2 (by omega)) | (with_reducible exact HC3.out.ps2 (by omega)) | fail)
                                (first
                                  | (go_at_call 12; ((with_reducible refine (at_any hlt6).mono ?_); rintro e wt ⟨rfl, hb⟩; have HCt := Lib.hid (HCd.out.below hb); clear hb))
                                  | (go_at_call 19; ((with_reducible refine (ma_means_is HCt.out.ma hlt6 (HM2.out k6 hlt6).symm (by omega)).mono ?_); rintro e w6 ⟨rfl, M5, O5⟩; have HC3 := Lib.hid (HCt.out.arena M5 O5); clear M5 O5)))
                              clear HCd HCt HC1
                              obtain ⟨q6, hq6⟩ : ∃ q6, q6 = k6 / 2 := ⟨_, rfl⟩
                              have hq62 : q6 < 2 := by omega
                              have q60 : (0 : Int) ≤ (q6 : Int) := Int.natCast_nonneg _
                              have q61 : (q6 : Int) < 2 := by omega
                              have tq6 : (k6 : Int).tdiv 2 = (q6 : Int) := by rw [Int.tdiv_eq_ediv_of_nonneg i60]; omega
                              have dq6 : (k6 : Int) / 2 = (q6 : Int) := by omega
                              have wq6 : IntKind.i64.wrap (q6 : Int) = (q6 : Int) := IntWalk.i64_in _ (by omega)
                              obtain ⟨au0, au1, au2, au3, aul, _, _, _⟩ := HC3.out.cellA hq62
                              obtain ⟨l0, l1, l2, lm, la⟩ := la_cells HC3.out.ks.k.tl
                              obtain ⟨b0, b1, b2⟩ := la_lts HC3.out.ks.k.tl
                              have laq := la q6 hq62
                              clear la
                              obtain ⟨cv, hrunl, hcb, hcv⟩ := (HC3.out.mm q6 hq62 (by omega)).look (i := k6) hlt6
                              have eok : (decide (k6 / 2 = q6) && ((clrTo x sq 4).end_ sq).wr k6) = ((clrTo x sq 4).end_ sq).wr k6 := by rw [decide_eq_true hq6.symm, Bool.true_and]
                              rw [eok] at hrunl
                              have HCV : Hid (((clrTo x sq 4).end_ sq).wr k6 = true → cv = ((clrTo x sq 4).end_ sq).n k6) := Lib.hid (hcv hq6.symm)
                              clear hq6 eok hcb hcv
                              cases hok : ((clrTo x sq 4).end_ sq).wr k6
                              · rw [hok] at hrunl
                                go_wp2_with fail
                                clear au0 au1 au2 au3 aul l0 l1 l2 lm b0 b1 b2 laq hrunl
                                have HCd := Lib.hid HC3.out.drew
                                refine wp_region_held_drew (S := (PS2 w (LO p mb (mb + 1) (s0 + 4) bb ob (q1 j).k (q1 j).p (q1 j).i (q1 j).x) (bb 0) 0 (((clrTo x sq 4).end_ sq).g 0) (mp2 0) (((clrTo x sq 4).end_ sq).s 0))) (by kernel_rfl) ?_ (fun hHeld => ?_)
                                · exact HCd.out.ps2 (by omega)
                                refine wpAnyH_take (i := 0) (v := ?_) rfl (by kernel_rfl) (by kernel_rfl) (by kernel_rfl) (fun _ _ _ h => h) (Or.inl ⟨by rfl, ?_⟩) (by assumption) ?_
                                rotate_left
                                · (intro w hSw; (try dsimp only at hSw); go_simp; try with_reducible rfl)
                                try simp only [Act.put, List.setIfInBounds_toArray, List.set_cons_zero, List.set_cons_succ, List.getElem_toArray, List.getElem_cons_zero]
                                refine wpAnyH_take (i := 1) (v := ?_) rfl (by kernel_rfl) (by kernel_rfl) (by kernel_rfl) (fun _ _ _ h => h) (Or.inl ⟨by rfl, ?_⟩) (by assumption) ?_
                                rotate_left
                                · (intro w hSw; (try dsimp only at hSw); go_simp; try with_reducible rfl)
                                try simp only [Act.put, List.setIfInBounds_toArray, List.set_cons_zero, List.set_cons_succ, List.getElem_toArray, List.getElem_cons_zero, List.getElem_cons_succ]
                                refine wpAnyH_take (i := 2) rfl (by kernel_rfl) (by kernel_rfl) (by kernel_rfl) (fun _ _ _ h => h) (Or.inr ⟨by rfl, rfl⟩) (by assumption) ?_
                                try simp only [Act.put, List.setIfInBounds_toArray, List.set_cons_zero, List.set_cons_succ, List.getElem_toArray, List.getElem_cons_zero, List.getElem_cons_succ]
                                refine wpAnyH_take (i := 3) rfl (by kernel_rfl) (by kernel_rfl) (by kernel_rfl) (fun _ _ _ h => h) (Or.inr ⟨by rfl, rfl⟩) (by assumption) ?_
                                try simp only [Act.put, List.setIfInBounds_toArray, List.set_cons_zero, List.set_cons_succ, List.getElem_toArray, List.getElem_cons_zero, List.getElem_cons_succ]
                                refine wpAnyH_take (i := 4) rfl (by kernel_rfl) (by kernel_rfl) (by kernel_rfl) (fun _ _ _ h => h) (Or.inr ⟨by rfl, rfl⟩) (by assumption) ?_
                                try simp only [Act.put, List.setIfInBounds_toArray, List.set_cons_zero, List.set_cons_succ, List.getElem_toArray, List.getElem_cons_zero, List.getElem_cons_succ]
                                refine wpAnyH_take (i := 5) rfl (by kernel_rfl) (by kernel_rfl) (by kernel_rfl) (fun _ _ _ h => h) (Or.inr ⟨by rfl, rfl⟩) (by assumption) ?_
                                try simp only [Act.put, List.setIfInBounds_toArray, List.set_cons_zero, List.set_cons_succ, List.getElem_toArray, List.getElem_cons_zero, List.getElem_cons_succ]
                                refine wpAnyH_take (i := 6) rfl (by kernel_rfl) (by kernel_rfl) (by kernel_rfl) (fun _ _ _ h => h) (Or.inr ⟨by rfl, rfl⟩) (by assumption) ?_
                                try simp only [Act.put, List.setIfInBounds_toArray, List.set_cons_zero, List.set_cons_succ, List.getElem_toArray, List.getElem_cons_zero, List.getElem_cons_succ]
                                refine wpAnyH_take (i := 7) rfl (by kernel_rfl) (by kernel_rfl) (by kernel_rfl) (fun _ _ _ h => h) (Or.inr ⟨by rfl, rfl⟩) (by assumption) ?_
                                try simp only [Act.put, List.setIfInBounds_toArray, List.set_cons_zero, List.set_cons_succ, List.getElem_toArray, List.getElem_cons_zero, List.getElem_cons_succ]
                                refine wpAnyH_take (i := 8) rfl (by kernel_rfl) (by kernel_rfl) (by kernel_rfl) (fun _ _ _ h => h) (Or.inr ⟨by rfl, rfl⟩) (by assumption) ?_
                                try simp only [Act.put, List.setIfInBounds_toArray, List.set_cons_zero, List.set_cons_succ, List.getElem_toArray, List.getElem_cons_zero, List.getElem_cons_succ]
                                refine wpAnyH_take (i := 9) (v := ?_) rfl (by kernel_rfl) (by kernel_rfl) (by kernel_rfl) (fun _ _ _ h => h) (Or.inl ⟨by rfl, ?_⟩) (by assumption) ?_
                                rotate_left
                                · (intro w hSw; (try dsimp only at hSw); go_simp; try with_reducible rfl)
                                try simp only [Act.put, List.setIfInBounds_toArray, List.set_cons_zero, List.set_cons_succ, List.getElem_toArray, List.getElem_cons_zero, List.getElem_cons_succ]
                                refine wpAnyH_done (by kernel_rfl) ?_ _
                                go_wp2_with fail
                                go_roundw
                                case rel => exact ⟨k6 + 1, by omega, by go_num, HCd.out.more (by omega) (by omega)⟩
                                case measure => simp [intOf]; omega
                              · rw [hok] at hrunl
                                have hcv := HCV.out hok
                                subst hcv
                                go_wp2_with fail
                                clear au0 au1 au2 au3 aul l0 l1 l2 lm b0 b1 b2 laq hrunl
                                have HCd := Lib.hid HC3.out.drew
                                go_region_held3 (PS2 w (LO p mb (mb + 1) (s0 + 4) bb ob (q1 j).k (q1 j).p (q1 j).i (q1 j).x) (bb 0) 0 (((clrTo x sq 4).end_ sq).g 0) (mp2 0) (((clrTo x sq 4).end_ sq).s 0)) (first | (with_reducible assumption) | (with_reducible exact HCd.out.ps2 (by omega)) | (with_reducible exact HCt.out.ps2 (by omega)) | (with_reducible exact HC4.out.ps2 (by omega)) | fail)
                                  (first
                                    | (go_at_call 12; ((with_reducible refine (at_any hlt6).mono ?_); rintro e wt ⟨rfl, hb⟩; have HCt := Lib.hid (HCd.out.below hb); clear hb))
                                    | (go_at_call 20; ((with_reducible refine (ma_new HCt.out.ma hlt6 (by omega)).mono ?_); rintro e w7 ⟨rfl, M5, O5⟩; have HC4 := Lib.hid (HCt.out.arena M5 O5); clear M5 O5)))
                                go_wp2_with fail
                                go_roundw
                                case rel => exact ⟨k6 + 1, by omega, by go_num, HC4.out.more (by omega) (by omega)⟩
                                case measure => simp [intOf]; omega
                            · have : k6 = 4 := by omega
                              subst this
                              go_wp2_with fail
                              go_roundw
                              case rel => exact ⟨j + 1, by omega, by go_num, _, _, _, HC1.out.tl.more (by omega) (by omega), HM2.out, HG2.out⟩
                              case measure => simp [intOf]; omega
            · have : j = n1 := by omega
              subst this
              go_wp2_with fail
              refine (awake_any _).mono ?_; rintro e w9 ⟨rfl, hb⟩
              have HW9 := Lib.hid (HS1.out.below hb)
              clear hb
              go_wp2_with fail
              go_ret
              exact ⟨rfl, HW9.out.ks.be⟩

theorem ptrPens_any (a0 : Option Addr) (n0 c0 : Nat) (zs : List Int) (a1 : Option Addr) (n1 c1 : Nat) (q1 : Nat → Op4) (w : World) (hr : IsRow .i64 w a0 n0 c0 zs) (h1 : IsOp4 w a1 n1 q1) :
    Calls Try.prog 3 #[.slice a0 n0 c0, .slice a1 n1 c1] w fun e w' => e = .returned (.bool true) ∧ Below w.heap.size w w' := by
  by_cases g0 : (4 : Int) < (n0 : Int)
  · exact pens_outa a0 n0 c0 a1 n1 c1 w g0
  · by_cases g1 : (60 : Int) < (n1 : Int)
    · exact pens_outb a0 n0 c0 a1 n1 c1 w (by omega) g1
    · exact pens_in a0 n0 c0 zs a1 n1 c1 q1 w hr h1 (by omega) (by omega)
end Go.Proofs.Ytipjbgkfhkidkaa
