/- Walk of MemTraces. -/
import Derived.Test.YtjnnohajmblfkaaTrN
import Derived.Deep.RegionHeldLaw
import Derived.Deep.AppendLies
namespace Go.Proofs.Ytjnnohajmblfkaa
open Go.RowKit

theorem info_u64'' : (Try.prog.info? 32).map (fun i => (i.zero, i.size, i.bytes)) = some (some (.int .u64 0), 1, 8) := by kernel_rfl

theorem TS.more {D : Dm} {w wr : World} {c f c3 F1 F2 : Nat → Int} {v u : Value} {xs1 xs2 : List AccV} {m m' : Nat} {zs : List Int} (H : TS D w wr c f c3 F1 v xs1 F2 u xs2 m zs) (hm : m ≤ m') : TS D w wr c f c3 F1 v xs1 F2 u xs2 m' zs :=
  ⟨H.A, H.W, H.T, H.L, H.R, H.M.more hm, H.ra, H.B⟩
theorem TS.below {D : Dm} {w wr w' : World} {c f c3 F1 F2 : Nat → Int} {v u : Value} {xs1 xs2 : List AccV} {m : Nat} {zs : List Int} (H : TS D w wr c f c3 F1 v xs1 F2 u xs2 m zs) (hb : Below wr.heap.size wr w') : TS D w w' c f c3 F1 v xs1 F2 u xs2 m zs :=
  H.rest ⟨hb.os, hb.tape, hb.output, hb.size, fun k hk _ => hb.block k hk⟩
theorem TS.drewN {D : Dm} {w wr : World} {c f c3 F1 F2 : Nat → Int} {v u : Value} {xs1 xs2 : List AccV} {m : Nat} {zs : List Int} (H : TS D w wr c f c3 F1 v xs1 F2 u xs2 m zs) (q : Nat) : TS D w (wr.drewN q) c f c3 F1 v xs1 F2 u xs2 m zs :=
  H.rest ⟨rfl, rfl, rfl, Nat.le_refl _, fun _ _ _ => rfl⟩

/-- What is kept of a rising list's items: the last one so far. -/
def lastOf (ys : List Int) (j : Nat) : Int := if j = 0 then -1 else ys.getD (j - 1) 0
theorem lastOf_succ {ys : List Int} {j : Nat} {y : Int} (h : ys[j]? = some y) : lastOf ys (j + 1) = y := by simp [lastOf, h]
theorem lastOf_lt {ys : List Int} {j : Nat} {y : Int} (hs : ys.Pairwise (· < ·)) (h : ys[j]? = some y) (h0 : 0 ≤ y) : lastOf ys j < y := by
  obtain ⟨hj, rfl⟩ := List.getElem?_eq_some_iff.1 h
  unfold lastOf
  by_cases e : j = 0
  · rw [if_pos e]; omega
  · rw [if_neg e]
    have := List.pairwise_iff_getElem.1 hs (j - 1) j (by omega) hj (by omega)
    simpa [List.getD, List.getElem?_eq_getElem (show j - 1 < ys.length by omega)] using this
theorem rowI_acc {w : World} {base : Nat} {a : Option Addr} {cap : Nat} {ys : List Int} (R : RowI w base (.slice a ys.length cap) ys) (hne : ys ≠ []) : ∃ g, a = some ⟨g, 0, none⟩ ∧ ∀ (j : Nat) y, ys[j]? = some y → w.cell? ⟨g, j, none⟩ = some (.int .i64 y) := by
  rcases R.shape with ⟨_, h⟩ | ⟨g, cap', cs, hv, _, hb, _, _, _, ht⟩
  · exact absurd h hne
  · cases hv
    refine ⟨g, rfl, fun j y hy => ?_⟩
    have hj := (List.getElem?_eq_some_iff.1 hy).1
    rw [hb.cell, ← Array.getElem?_toList, ← List.getElem?_take_of_lt hj, ht]
    simp [hy]

set_option maxRecDepth 100000 in
set_option maxHeartbeats 4000000 in
theorem memTraces_out (a1 : Option Addr) (n cap1 : Nat) (a2 : Option Addr) (len cap2 : Nat) (w : World) (h : (60 : Int) < (n : Int) ∨ (80 : Int) < (len : Int)) :
    Calls Try.prog 3 #[.slice a1 n cap1, .slice a2 len cap2] w fun e w' => e = .returned (.bool true) ∧ Below w.heap.size w w' := by
  by_cases h1 : (60 : Int) < (n : Int)
  · clear h
    go_enter Try.func3, Try.ntmps3
    go_wp2_with fail
    refine (awake_any _).mono ?_; rintro e w3 ⟨rfl, hb3⟩
    go_wp2_with fail
    go_ret
    exact ⟨rfl, hb3⟩
  · have h2 : (80 : Int) < (len : Int) := by omega
    clear h
    go_enter Try.func3, Try.ntmps3
    go_wp2_with fail
    refine (awake_any _).mono ?_; rintro e w3 ⟨rfl, hb3⟩
    go_wp2_with fail
    go_ret
    exact ⟨rfl, hb3⟩

/-- What holds at each head of the first loop. -/
def TrRel (D : Dm) (w : World) (c f : Nat → Int) (os : List AccV) (rv i : Value) (wr : World) : Prop :=
  ∃ (k : Nat) (c3 : Nat → Int) (v : Value), k ≤ os.length ∧ i = .int .i64 k ∧ TS D w wr c f c3 (playT D.n f (os.take k)).1 v (playT D.n f (os.take k)).2 (playT D.n f (os.take k)).1 rv (playT D.n f (os.take k)).2 k (storedOf (playT D.n f (os.take k)).2) ∧ CB c3 (D.n + k)

set_option maxRecDepth 100000 in
set_option maxHeartbeats 16000000 in
theorem memTraces_main (a1 : Option Addr) (n cap1 : Nat) (f : Nat → Int) (h0 : a1 = none → n = 0 ∧ cap1 = 0) (a2 : Option Addr) (os : List AccV) (cap2 : Nat) (w : World) (h1 : (n : Int) ≤ 60) (h2 : (os.length : Int) ≤ 80) (hs1 : Nums w a1 n f) (hs2 : Ops w a2 os) :
    Calls Try.prog 3 #[.slice a1 n cap1, .slice a2 os.length cap2] w fun e w' => e = .returned (.bool true) ∧ Below w.heap.size w w' := by
  obtain ⟨i0, hi0, hz0, hz1, hz2⟩ := info_parts info_u64''
  obtain ⟨j0, hj0, yz0, yz1, yz2⟩ := info_parts info_acc
  have hmm := @run_makeMap Try.prog
  have H0 := Lib.hid h0; clear h0
  have HS1 := Lib.hid hs1; clear hs1
  have HS2 := Lib.hid hs2; clear hs2
  go_enter Try.func3, Try.ntmps3
  go_wp2_with fail
  refine (begun_any a1 n cap1 f _ (by omega) HS1.out).mono ?_; rintro e w1 ⟨p, g, cp, c, rfl, hp, hg, A1, m1, B1⟩
  have M1 := Lib.hid m1; clear m1
  have q1 := A1.p_lt
  have q2 := A1.g_lt
  have q3 := B1.size
  go_wp2_with fail
  refine (copy_any A1).mono ?_; rintro e w2 ⟨pw, gw, cw, rfl, hpw, hgw, W2, B2⟩
  have A2 := A1.below B2 (Nat.le_refl _)
  have K2 := keepB B1 B2
  have q4 := W2.p_lt
  have q5 := W2.g_lt
  have q6 := B2.size
  clear A1 B1 B2
  go_wp2_with fail
  refine (over_any A2).mono ?_; rintro e w3 ⟨t, pt, gt, ct, rfl, hpt, hgt, htt, T3, B3⟩
  have A3 := A2.below B3 (Nat.le_refl _)
  have W3 := W2.below B3 (Nat.le_refl _)
  have K3 := keepB K2 B3
  have q7 := T3.ar.g_lt
  have q8 := B3.size
  have HA3 := Lib.hid A3; clear A3
  have HW3 := Lib.hid W3; clear W3
  have HT3 := Lib.hid T3; clear T3
  have HK3 := Lib.hid K3; clear K3
  clear A2 W2 K2 B3
  go_wp2_with (at_builtin
               refine wpList_append_opt _ rfl _ _ 22 rfl w3.heap.size 32 i0 _ 1 8 Try.underlying22 hi0 hz0 hz1 hz2 rfl (by omega) _ 0 [] rfl
                 (World.ownsRow_made w3 #[] 0 (Nat.le_refl _) (Nat.zero_le _) rfl) a1 n cap1 ((List.range n).map fun k => Value.int .u64 (f k)) rfl ?c0 (by simp) ?c1 nums_one (by simp only [maxLen]; omega) (by omega) (by simp) ?_)
  case c0 => exact H0.out
  case c1 => exact nums_news (HS1.out.later (HK3.out.alloc HK3.out.size _))
  intro v' w4 hown hgrow hnil _
  obtain ⟨gl, cl, rfl, hgl, L4⟩ := Rw.of_owns (by simpa using hown) (fun e => by cases hnil e)
  have B4 : Below w3.heap.size w3 w4 := ((Below.refl _ w3).alloc (Nat.le_refl _) _).grown hgrow (by simp) (by intro k hk; simp [Value.ownBlock] at hk; omega)
  have A4 := HA3.out.below B4 (Nat.le_refl _)
  have W4 := HW3.out.below B4 (Nat.le_refl _)
  have T4 := HT3.out.below B4 (Nat.le_refl _)
  have K4 := keepB HK3.out B4
  have q9 := B4.size
  clear hown hgrow hnil B4 HA3 HW3 HT3 HK3
  have ok : Dm.ok ⟨w2.heap.size, p, g, cp, pw, gw, cw, t, pt, gt, ct, gl, w4.heap.size, n⟩ w.heap.size := ⟨by simp only; omega, by simp only; omega, by simp only; omega, ⟨htt, hpt, hgt⟩, by simp only; omega⟩
  have bl4 : Below w4.heap.size w4 (w4.alloc (.map #[] 0)) := (Below.refl _ w4).alloc (Nat.le_refl _) _
  have H5 : TS ⟨w2.heap.size, p, g, cp, pw, gw, cw, t, pt, gt, ct, gl, w4.heap.size, n⟩ w (w4.alloc (.map #[] 0)) c f c f (.slice none 0 0) [] f (.slice none 0 0) [] 0 [] :=
    ⟨A4.alloc _, W4.alloc _, T4.alloc _, L4.alloc _, RowA.nil _ _, Sets.made w4, RA.nil _, keepB K4 bl4⟩
  clear A4 W4 T4 L4 K4 bl4 hp hg hpw hgw hpt hgt htt hgl q1 q2 q3 q4 q5 q6 q7 q8 q9
  have OK := Lib.hid ok; clear ok
  go_wp2_with fail
  go_loopw [9, 45] (fun rv i wr => TrRel ⟨w2.heap.size, p, g, cp, pw, gw, cw, t, pt, gt, ct, gl, w4.heap.size, n⟩ w c f os rv i wr) (fun _ i _ => os.length - (intOf i).toNat)
  case atStart => exact ⟨0, c, _, Nat.zero_le _, rfl, H5, M1.out⟩
  case round =>
    clear H5
    obtain ⟨k, c3, v1, hk, rfl, H, hm⟩ := hrel
    simp only at H hm
    by_cases hlt : k < os.length
    · obtain ⟨b, off, rfl, hcells⟩ := HS2.out.acc (by intro h; rw [h] at hlt; exact absurd hlt (Nat.not_lt_zero _))
      obtain ⟨⟨s, xc, v⟩, hxk⟩ : ∃ x, os[k]? = some x := ⟨_, List.getElem?_eq_getElem hlt⟩
      obtain ⟨x0, x1, x2⟩ := hcells k _ hxk
      have hfx := Lib.hid (HS2.out.fit _ (List.mem_of_getElem? hxk))
      clear hcells
      have y0 := cell_later H.B x0
      have y1 := cell_later H.B x1
      have y2 := cell_later H.B x2
      clear x0 x1 x2
      simp only at y0 y1 y2
      have HT := Lib.hid (playT_take n f os hxk)
      have hlen := (playT_inv n f (os.take k)).2.2.1
      rw [List.length_take] at hlen
      have hlen' : (playT n f (os.take k)).2.length ≤ 80 := by omega
      clear hlen hxk
      obtain ⟨⟨F, xs⟩, hFx⟩ : ∃ y, playT n f (os.take k) = y := ⟨_, rfl⟩
      rw [hFx] at H hlen'
      have HF := Lib.hid hFx; clear hFx
      simp only at H hlen'
      have HM := Lib.hid hm; clear hm
      by_cases hr : 0 ≤ xc ∧ xc < n
      · obtain ⟨j, rfl⟩ := Int.eq_ofNat_of_zero_le hr.1
        have hj : j < n := by omega
        clear hr
        cases s with
        | true =>
          have HPL : Hid (playT n f (os.take (k + 1)) = (upd F j v, xs ++ [⟨true, (j : Int), v⟩])) := Lib.hid (by rw [HT.out, HF.out]; simp [stT, stepF, rowOf, hj])
          clear HT
          have HH := Lib.hid (H.alloc (.cells #[.bool true, .int .i64 (j : Int), .int .u64 v] 34))
          have X0 := Blk.new wr 34 #[.bool true, .int .i64 (j : Int), .int .u64 v]
          clear H
          go_wp2_with fail
          refine (tstore_yes HH.out.T hj hfx.out.2.1 hfx.out.2.2 HM.out (by first | omega | (simp only; omega)) (by omega)).mono ?_; rintro e w3 ⟨c3', v3, rfl, T3, mm3, O3, hv3⟩
          have m3 := Lib.hid mm3; clear mm3
          have H3 := HH.out.stepT OK.out T3 O3 hv3
          have X3 := X0.byT HH.out O3
          have z1 : w3.cell? ⟨wr.heap.size, 1, none⟩ = some (.int .i64 (j : Int)) := X3.cell 1
          have z2 : w3.cell? ⟨wr.heap.size, 2, none⟩ = some (.int .u64 v) := X3.cell 2
          have lc := H3.L.cell hj
          have lf := H3.L.fz j
          have H4 := H3.stepL OK.out (grown_set w3 gl j (.int .u64 v)) (H3.L.set_ hj v)
          have hne : wr.heap.size ≠ gl := by obtain ⟨_, h4⟩ := H3.L.blk; exact X3.ne_ h4 (by decide)
          have X4 := Lib.hid (X3.far (p := ⟨gl, j, none⟩) hne (.int .u64 v))
          have HH4 := Lib.hid H4
          clear H4 H3 X3 T3 O3 HH X0
          go_wp2_with (first | (at_mapUpdate; refine wpList_sets _ rfl _ _ _ rfl w4.heap.size k (storedOf xs) rfl HH4.out.M (by simp only [maxLen]; omega) (j : Int) (by omega) rfl rfl ?_) | fail)
          intro w5 hM5 hg5
          have HHR := Lib.hid (HH4.out.stepM OK.out hg5 hM5)
          have X5 := X4.out.grownK hg5 (sne (fun e => HH4.out.M.ne_blk X4.out e.symm))
          have z1 : w5.cell? ⟨wr.heap.size, 1, none⟩ = some (.int .i64 (j : Int)) := X5.cell 1
          have z2 : w5.cell? ⟨wr.heap.size, 2, none⟩ = some (.int .u64 v) := X5.cell 2
          have HRW := Lib.hid HHR.out.R
          clear X5 X4 HH4 hM5 hg5 lc lf
          go_wp2_with (at_builtin
                       refine wpList_append_own_at _ rfl _ _ 30 rfl w.heap.size 37 j0 _ 3 24 Try.underlying30 hj0 yz0 yz1 yz2 rfl (by omega) _ xs.length (flat xs) rfl
                         (HRW.out.alloc _) ⟨w5.heap.size, 0, none⟩ 1 1 [.bool true, .int .i64 (j : Int), .int .u64 v] rfl rfl ?c1 ?c2 (by simp only [maxLen]; omega) (by omega) (by have := HHR.out.B.size; simp; exact Nat.le_succ_of_le this) ?_)
          case c1 => exact acc_new w5 ⟨true, j, v⟩ _
          case c2 => intro u hu; simp at hu; rcases hu with rfl | rfl | rfl <;> rfl
          intro v' w6 hown hgrow _ hat
          have R6 : RowA w6 w.heap.size v' (xs ++ [⟨true, j, v⟩]) := by
            unfold RowA
            rw [List.length_append, List.length_singleton, flat_append, flat_one]
            exact hown
          have H6 := (HHR.out.alloc (.cells #[.bool true, .int .i64 (j : Int), .int .u64 v] 37)).stepR hgrow R6 (hat.imp id fun h => ⟨_, h, by simp⟩)
          have HR : Hid (TrRel ⟨w2.heap.size, p, g, cp, pw, gw, cw, t, pt, gt, ct, gl, w4.heap.size, n⟩ w c f os v' (.int .i64 ((k : Int) + 1)) w6) := by
            refine ⟨k + 1, c3', v3, by omega, by go_num, ?_, m3.out.more (by first | omega | (simp only; omega))⟩
            simp only
            rw [HPL.out]
            have e : storedOf (xs ++ [⟨true, (j : Int), v⟩]) = storedOf xs ++ [(j : Int)] := by simp [storedOf]
            rw [e]
            exact H6
          clear hown hgrow hat R6 H6 HHR HRW HPL HF
          go_wp2_with fail
          exact ⟨HR.out, by simp [intOf]; omega⟩
        | false =>
          have HPL : Hid (playT n f (os.take (k + 1)) = (F, xs ++ [⟨false, (j : Int), F j⟩])) := Lib.hid (by rw [HT.out, HF.out]; simp [stT, stepF, rowOf, hj])
          clear HT
          have HH := Lib.hid (H.alloc (.cells #[.bool false, .int .i64 (j : Int), .int .u64 v] 34))
          have X0 := Blk.new wr 34 #[.bool false, .int .i64 (j : Int), .int .u64 v]
          clear H
          go_wp2_with fail
          generalize wr.alloc (.cells #[.bool false, .int .i64 (j : Int), .int .u64 v] 34) = W at HH X0 ⊢
          generalize wr.heap.size = h at X0 ⊢
          have z1 : W.cell? ⟨h, 1, none⟩ = some (.int .i64 (j : Int)) := X0.cell 1
          have lc := HH.out.L.cell hj
          clear y0 y1 y2
          go_region_held3 (fun w' => w'.cell? ⟨h, 1, none⟩ = some (.int .i64 (j : Int)) ∧ w'.cell? ⟨gl, j, none⟩ = some (.int .u64 (F j)))
            (first | assumption | exact ⟨z1, lc⟩ | exact ⟨z3, l3⟩)
            (first | ((with_reducible refine (tload_yes HH.out.drew.T hj HM.out (by first | omega | (simp only; omega)) (by omega)).mono ?_); rintro e w3 ⟨c3', v3, rfl, T3, mm3, O3, hv3⟩; have H3 := HH.out.drew.stepT OK.out T3 O3 hv3; have X3 := X0.drew.byT HH.out.drew O3; have z3 : w3.cell? ⟨h, 1, none⟩ = some (.int .i64 (j : Int)) := X3.cell 1; have l3 := H3.L.cell hj))
          all_goals
            have H3 := HH.out.drew.stepT OK.out T3 O3 hv3
            have X3 := X0.drew.byT HH.out.drew O3
            have z3 : w3.cell? ⟨h, 1, none⟩ = some (.int .i64 (j : Int)) := X3.cell 1
            have l3 := H3.L.cell hj
            have m3 := Lib.hid mm3
            have e1 : (F j != F j) = false := by simp
            have HHR := Lib.hid H3.drew
            have HRW := Lib.hid HHR.out.R
            have XX := X3
            clear H3 X3 T3 O3 mm3 HH X0 z1 lc
            go_wp2_with fail
            have hbase : w.heap.size ≤ (w3.alloc (.cells #[.bool false, .int .i64 (j : Int), .int .u64 (F j)] 37)).drew.heap.size := by have := HHR.out.B.size; show w.heap.size ≤ (w3.alloc _).heap.size; simp; exact Nat.le_succ_of_le this
            have hsz : (w3.alloc (.cells #[.bool false, .int .i64 (j : Int), .int .u64 (F j)] 37)).drew.heap.size = w3.heap.size + 1 := by show (w3.alloc _).heap.size = _; simp
            have hmx : xs.length + 1 ≤ maxLen := by simp only [maxLen]; omega
            have hby : (xs.length + 1) * 24 ≤ 140737488355328 := by omega
            have hnw : ∀ (i : Nat) u, [Value.bool false, .int .i64 (j : Int), .int .u64 (F j)][i]? = some u → (w3.alloc (.cells #[.bool false, .int .i64 (j : Int), .int .u64 (F j)] 37)).drew.cell? ((⟨w3.heap.size, 0, none⟩ : Addr).add i) = some u := acc_new w3 ⟨false, j, F j⟩ _
            have hoc : ∀ u ∈ [Value.bool false, .int .i64 (j : Int), .int .u64 (F j)], u.oneCell' = true := by intro u hu; simp at hu; rcases hu with rfl | rfl | rfl <;> rfl
            have hrw : (w3.alloc (.cells #[.bool false, .int .i64 (j : Int), .int .u64 (F j)] 37)).drew.ownsRow w.heap.size 37 3 u9 xs.length (flat xs) := (HRW.out.alloc (.cells #[.bool false, .int .i64 (j : Int), .int .u64 (F j)] 37))
            have XH := Lib.hid XX
            have hkeep : ∀ w', (w3.alloc (.cells #[.bool false, .int .i64 (j : Int), .int .u64 (F j)] 37)).drew.grownBy w' u9.ownBlock → w'.cell? ⟨h, 1, none⟩ = some (.int .i64 (j : Int)) ∧ w'.cell? ⟨gl, j, none⟩ = some (.int .u64 (F j)) := fun w' hg => by
              have X7 := (XH.out.alloc (.cells #[.bool false, .int .i64 (j : Int), .int .u64 (F j)] 37)).drew.grownK hg (HRW.out.ne_blk XH.out.drew (by decide))
              have H7 := (HHR.out.alloc (.cells #[.bool false, .int .i64 (j : Int), .int .u64 (F j)] 37)).L
              obtain ⟨_, h4⟩ := HHR.out.L.blk
              exact ⟨X7.cell 1, (Rw.grownK (w := (w3.alloc (.cells #[.bool false, .int .i64 (j : Int), .int .u64 (F j)] 37)).drew) H7 hg (HRW.out.ne_blk h4 (by decide))).cell hj⟩
            have hh3 : h < w3.heap.size := XH.out.lt
            have hg3 : gl < w3.heap.size := HHR.out.L.lt
            clear XX
            go_region_held3 (fun w' => w'.cell? ⟨h, 1, none⟩ = some (.int .i64 (j : Int)) ∧ w'.cell? ⟨gl, j, none⟩ = some (.int .u64 (F j))) (first | go_keep | exact hkeep _ hgrow)
              ((refine step_append_lies _ (by rfl) _ _ _ (by rfl) w.heap.size 37 j0 _ 3 24 Try.underlying30 hj0 yz0 yz1 yz2 rfl (Nat.succ_pos 2) u9 xs.length (flat xs) rfl hrw ⟨w3.heap.size, 0, none⟩ 1 1 [.bool false, .int .i64 (j : Int), .int .u64 (F j)] rfl rfl hnw hoc (Nat.succ_pos 0) hmx hby hbase (w3.heap.size + 1) hsz ?_; intro g7 cap7 w6 hown hgrow hat hlt7))
            all_goals
              have hgrow' : (w3.drew.alloc (.cells #[.bool false, .int .i64 (j : Int), .int .u64 (F j)] 37)).grownBy w6 u9.ownBlock := hgrow
              have R6 : RowA w6 w.heap.size (.slice (some ⟨g7, 0, none⟩) (xs.length + 1) cap7) (xs ++ [⟨false, j, F j⟩]) := by
                unfold RowA
                rw [List.length_append, List.length_singleton, flat_append, flat_one]
                exact hown
              have H6 := (HHR.out.alloc (.cells #[.bool false, .int .i64 (j : Int), .int .u64 (F j)] 37)).stepR hgrow' R6 (hat.imp (fun e => e.symm) fun e => ⟨g7, rfl, by simp; omega⟩)
              have HR : Hid (TrRel ⟨w2.heap.size, p, g, cp, pw, gw, cw, t, pt, gt, ct, gl, w4.heap.size, n⟩ w c f os (.slice (some ⟨g7, 0, none⟩) (xs.length + 1) cap7) (.int .i64 ((k : Int) + 1)) w6) := by
                refine ⟨k + 1, c3', v3, by omega, by go_num, ?_, m3.out.more (by first | omega | (simp only; omega))⟩
                simp only
                rw [HPL.out]
                have e : storedOf (xs ++ [⟨false, (j : Int), F j⟩]) = storedOf xs := by simp [storedOf]
                rw [e]
                exact H6.more (by omega)
              clear hown hgrow hgrow' hat R6 H6 HHR HRW HPL HF hbase hkeep XH hrw hnw hoc hlt7
              go_wp2_with fail
              exact ⟨HR.out, by simp [intOf]; omega⟩
      · by_cases hneg : xc < 0
        · have hi : xc < 0 ∨ (n : Int) ≤ xc := by omega
          clear hr
          have HI := Lib.hid hi; clear hi
          cases s with
          | true =>
            have hI : ¬ (0 ≤ xc ∧ xc < n) := by have := HI.out; omega
            have HPL : Hid (playT n f (os.take (k + 1)) = (F, xs)) := Lib.hid (by
              rw [HT.out, HF.out]
              simp only [stT, stepF, rowOf, if_neg hI, List.append_nil]
              rw [if_neg (fun h => hI h.2)])
            clear hI
            clear HT
            have HH := Lib.hid (H.alloc (.cells #[.bool true, .int .i64 xc, .int .u64 v] 34))
            have X0 := Blk.new wr 34 #[.bool true, .int .i64 xc, .int .u64 v]
            clear H
            go_wp2_with fail
            refine (tstore_no HH.out.T HI.out v HM.out).mono ?_; rintro e w3 ⟨c3', v3, rfl, T3, mm3, O3, hv3⟩
            have H3 := HH.out.stepT OK.out T3 O3 hv3
            have X3 := X0.byT HH.out O3
            have z1 : w3.cell? ⟨wr.heap.size, 1, none⟩ = some (.int .i64 xc) := X3.cell 1
            have HR : Hid (TrRel ⟨w2.heap.size, p, g, cp, pw, gw, cw, t, pt, gt, ct, gl, w4.heap.size, n⟩ w c f os u9 (.int .i64 ((k : Int) + 1)) w3) := by
              refine ⟨k + 1, c3', v3, by omega, by go_num, ?_, mm3.more (by first | omega | (simp only; omega))⟩
              simp only
              rw [HPL.out]
              exact H3.more (by omega)
            clear H3 X3 T3 O3 mm3 HH X0
            go_wp2_with fail
            exact ⟨HR.out, by simp [intOf]; omega⟩
          | false =>
            have hI : ¬ (0 ≤ xc ∧ xc < n) := by have := HI.out; omega
            have HPL : Hid (playT n f (os.take (k + 1)) = (F, xs)) := Lib.hid (by
              rw [HT.out, HF.out]
              simp only [stT, stepF, rowOf, if_neg hI, List.append_nil]
              rw [if_neg (fun h => hI h.2)])
            clear hI
            clear HT
            have HH := Lib.hid (H.alloc (.cells #[.bool false, .int .i64 xc, .int .u64 v] 34))
            have X0 := Blk.new wr 34 #[.bool false, .int .i64 xc, .int .u64 v]
            clear H
            go_wp2_with fail
            refine (tload_no HH.out.T HI.out HM.out).mono ?_; rintro e w3 ⟨c3', v3, rfl, T3, mm3, O3, hv3⟩
            have H3 := HH.out.stepT OK.out T3 O3 hv3
            have X3 := X0.byT HH.out O3
            have z1 : w3.cell? ⟨wr.heap.size, 1, none⟩ = some (.int .i64 xc) := X3.cell 1
            have HR : Hid (TrRel ⟨w2.heap.size, p, g, cp, pw, gw, cw, t, pt, gt, ct, gl, w4.heap.size, n⟩ w c f os u9 (.int .i64 ((k : Int) + 1)) w3) := by
              refine ⟨k + 1, c3', v3, by omega, by go_num, ?_, mm3.more (by first | omega | (simp only; omega))⟩
              simp only
              rw [HPL.out]
              exact H3.more (by omega)
            clear H3 X3 T3 O3 mm3 HH X0
            go_wp2_with fail
            exact ⟨HR.out, by simp [intOf]; omega⟩
        · have hge : (n : Int) ≤ xc := by omega
          have hge0 : 0 ≤ xc := by omega
          have hnl : ¬ xc < (n : Int) := by omega
          have hi : xc < 0 ∨ (n : Int) ≤ xc := by omega
          clear hr hneg
          have HI := Lib.hid hi; clear hi
          cases s with
          | true =>
            have hI : ¬ (0 ≤ xc ∧ xc < n) := by have := HI.out; omega
            have HPL : Hid (playT n f (os.take (k + 1)) = (F, xs)) := Lib.hid (by
              rw [HT.out, HF.out]
              simp only [stT, stepF, rowOf, if_neg hI, List.append_nil]
              rw [if_neg (fun h => hI h.2)])
            clear hI
            clear HT
            have HH := Lib.hid (H.alloc (.cells #[.bool true, .int .i64 xc, .int .u64 v] 34))
            have X0 := Blk.new wr 34 #[.bool true, .int .i64 xc, .int .u64 v]
            clear H
            go_wp2_with fail
            refine (tstore_no HH.out.T HI.out v HM.out).mono ?_; rintro e w3 ⟨c3', v3, rfl, T3, mm3, O3, hv3⟩
            have H3 := HH.out.stepT OK.out T3 O3 hv3
            have X3 := X0.byT HH.out O3
            have z1 : w3.cell? ⟨wr.heap.size, 1, none⟩ = some (.int .i64 xc) := X3.cell 1
            have HR : Hid (TrRel ⟨w2.heap.size, p, g, cp, pw, gw, cw, t, pt, gt, ct, gl, w4.heap.size, n⟩ w c f os u9 (.int .i64 ((k : Int) + 1)) w3) := by
              refine ⟨k + 1, c3', v3, by omega, by go_num, ?_, mm3.more (by first | omega | (simp only; omega))⟩
              simp only
              rw [HPL.out]
              exact H3.more (by omega)
            clear H3 X3 T3 O3 mm3 HH X0
            go_wp2_with fail
            exact ⟨HR.out, by simp [intOf]; omega⟩
          | false =>
            have hI : ¬ (0 ≤ xc ∧ xc < n) := by have := HI.out; omega
            have HPL : Hid (playT n f (os.take (k + 1)) = (F, xs)) := Lib.hid (by
              rw [HT.out, HF.out]
              simp only [stT, stepF, rowOf, if_neg hI, List.append_nil]
              rw [if_neg (fun h => hI h.2)])
            clear hI
            clear HT
            have HH := Lib.hid (H.alloc (.cells #[.bool false, .int .i64 xc, .int .u64 v] 34))
            have X0 := Blk.new wr 34 #[.bool false, .int .i64 xc, .int .u64 v]
            clear H
            go_wp2_with fail
            refine (tload_no HH.out.T HI.out HM.out).mono ?_; rintro e w3 ⟨c3', v3, rfl, T3, mm3, O3, hv3⟩
            have H3 := HH.out.stepT OK.out T3 O3 hv3
            have X3 := X0.byT HH.out O3
            have z1 : w3.cell? ⟨wr.heap.size, 1, none⟩ = some (.int .i64 xc) := X3.cell 1
            have HR : Hid (TrRel ⟨w2.heap.size, p, g, cp, pw, gw, cw, t, pt, gt, ct, gl, w4.heap.size, n⟩ w c f os u9 (.int .i64 ((k : Int) + 1)) w3) := by
              refine ⟨k + 1, c3', v3, by omega, by go_num, ?_, mm3.more (by first | omega | (simp only; omega))⟩
              simp only
              rw [HPL.out]
              exact H3.more (by omega)
            clear H3 X3 T3 O3 mm3 HH X0
            go_wp2_with fail
            exact ⟨HR.out, by simp [intOf]; omega⟩
    · have hkl : k = os.length := by omega
      subst hkl
      rw [List.take_length] at H
      obtain ⟨i1, i2, i3, i4⟩ := playT_inv n f os
      obtain ⟨⟨F, xs⟩, hFx⟩ : ∃ y, playT n f os = y := ⟨_, rfl⟩
      rw [hFx] at H i3 i4
      clear hFx i1 i2
      simp only at H i3 i4
      have I4 := Lib.hid i4; clear i4
      obtain ⟨au, cu, hu⟩ := H.R.slice
      subst hu
      have HH := Lib.hid H; clear H
      go_wp2_with fail
      refine (row_any HH.out.T (by omega)).mono ?_; rintro e w5 ⟨v9, rfl, R5, B5⟩
      obtain ⟨a9, cp9, rfl⟩ := R5.slice
      have H5 := HH.out.below B5
      have HR5 := Lib.hid R5; clear R5 B5 HH
      have HH := Lib.hid H5; clear H5
      have e7 : ((xs.length : Int) != (xs.length : Int)) = false := by simp
      go_wp2_with fail
      refine (aequal_any HH.out.W HH.out.A).mono ?_
      rw [show sameB n f f = true from by unfold sameB; exact decide_eq_true fun _ _ => rfl]
      rintro e w6 ⟨rfl, q6, rfl⟩
      have I5 : Hid (IsAcc w5 a9 xs) := isAcc_rowA HR5.out
      have I6 : Hid (IsAcc w5 au xs) := isAcc_rowA HH.out.R
      clear HR5
      go_wp2_with fail
      go_loopw [135] (fun i wr => ∃ j q : Nat, j ≤ xs.length ∧ i = .int .i64 j ∧ wr = w5.drewN q) (fun i _ => xs.length - (intOf i).toNat)
      case atStart => exact ⟨0, q6, Nat.zero_le _, rfl, rfl⟩
      case round =>
        obtain ⟨j, q, hj, rfl, rfl⟩ := hrel
        by_cases hlt : j < xs.length
        · have hne : xs ≠ [] := by intro h; rw [h] at hlt; exact absurd hlt (Nat.not_lt_zero _)
          obtain ⟨b9, o9, rfl, hc9⟩ := I5.out hne
          obtain ⟨b10, o10, rfl, hc10⟩ := I6.out hne
          obtain ⟨⟨s, xc, v⟩, hxk⟩ : ∃ x, xs[j]? = some x := ⟨_, List.getElem?_eq_getElem hlt⟩
          obtain ⟨p0, p1, p2⟩ := hc9 j _ hxk
          obtain ⟨r0, r1, r2⟩ := hc10 j _ hxk
          clear hc9 hc10 hxk hne
          simp only at p0 p1 p2 r0 r1 r2
          go_wp2_with fail
          go_quiet (fail)
          go_wp2_with fail
          go_roundw
          case rel => exact ⟨j + 1, _, by omega, by go_num, rfl⟩
          case measure => simp [intOf]; omega
        · clear I5 I6
          go_wp2_with fail
          refine (changed_any (HH.out.T.drewN q) (by omega)).mono ?_; rintro e w7 ⟨a7, cap7, rfl, RI, B7⟩
          have H7 := (HH.out.drewN q).below B7
          have HB := Lib.hid H7.B
          have HM7 := Lib.hid H7.M
          have hmem : Hid (∀ y ∈ risen (storedOf xs), 0 ≤ y ∧ y ≤ 100 ∧ y ∈ storedOf xs) := by
            intro y hy
            have h3 := (mem_risen _ _).1 hy
            obtain ⟨x, hx, hxy⟩ := List.mem_filterMap.1 h3
            have h4 := I4.out x hx
            by_cases hs : x.s = true
            · simp only [hs, if_true, Option.some.injEq] at hxy
              exact ⟨by omega, by omega, h3⟩
            · simp only [hs] at hxy
              cases hxy
          have hasc := Lib.hid (risen_rises (storedOf xs))
          have hyl : (risen (storedOf xs)).length ≤ 80 := Nat.le_trans (risen_length _) (Nat.le_trans (storedOf_length xs) (by omega))
          have hlen : ∀ ty, (Builtin.len_ #[31] ty #[.map (some w4.heap.size)]).run Try.prog w7 = .ok (.int .i64 ((risen (storedOf xs)).length : Nat)) w7 := fun ty => H7.M.len ty
          have HRI := Lib.hid RI
          clear H7 RI B7 HH
          obtain ⟨ys, hys⟩ : ∃ ys, risen (storedOf xs) = ys := ⟨_, rfl⟩
          rw [hys] at hmem hasc HRI hlen hyl ⊢
          clear hys
          go_wp2_with fail
          go_loopw [16, 17, 151] (fun lv nv i wr => ∃ j : Nat, j ≤ ys.length ∧ i = .int .i64 j ∧ nv = .int .i64 j ∧ lv = .int .i64 (lastOf ys j) ∧ w7 = wr) (fun _ _ i _ => ys.length - (intOf i).toNat)
          case atStart => exact ⟨0, Nat.zero_le _, rfl, rfl, rfl, rfl⟩
          case round =>
            obtain ⟨j, hj, rfl, rfl, rfl, rfl⟩ := hrel
            by_cases hlt : j < ys.length
            · obtain ⟨g7, rfl, hc7⟩ := rowI_acc HRI.out (by intro h; rw [h] at hlt; exact absurd hlt (Nat.not_lt_zero _))
              obtain ⟨y, hyk⟩ : ∃ y, ys[j]? = some y := ⟨_, List.getElem?_eq_getElem hlt⟩
              have yc := hc7 j y hyk
              obtain ⟨y1, y2, y3⟩ := hmem.out y (List.mem_of_getElem? hyk)
              have hl2 := lastOf_lt hasc.out hyk y1
              have hl3 := Lib.hid (lastOf_succ hyk)
              have hlook := HM7.out.look (i := y) (by omega)
              rw [decide_eq_true y3] at hlook
              generalize lastOf ys j = L at hl2 ⊢
              have hl4 : ¬ y ≤ L := by omega
              clear hc7 y3 hyk hl2
              go_wp2_with fail
              exact ⟨⟨j + 1, by omega, by go_num, by go_num, by rw [hl3.out], trivial⟩, by simp [intOf]; omega⟩
            · have hjl : j = ys.length := by omega
              subst hjl
              generalize lastOf ys ys.length = L
              have hT : (ys.length == ys.length) = true := by simp
              go_wp2_with fail
              refine (awake_any _).mono ?_; rintro e w8 ⟨rfl, B8⟩
              go_wp2_with fail
              go_ret
              exact ⟨rfl, keepB HB.out B8⟩

theorem memTraces_walk (a1 : Option Addr) (n cap1 : Nat) (f : Nat → Int) (a2 : Option Addr) (os : List AccV) (cap2 : Nat) (w : World) (s1 : Nums w a1 n f ∧ (a1 = none → n = 0 ∧ cap1 = 0)) (s2 : Ops w a2 os) :
    Calls Try.prog 3 #[.slice a1 n cap1, .slice a2 os.length cap2] w fun e w' => e = .returned (.bool true) ∧ Below w.heap.size w w' := by
  by_cases h : (60 : Int) < (n : Int) ∨ (80 : Int) < (os.length : Int)
  · exact memTraces_out a1 n cap1 a2 os.length cap2 w h
  · exact memTraces_main a1 n cap1 f s1.2 a2 os cap2 w (by omega) (by omega) s1.1 s2
end Go.Proofs.Ytjnnohajmblfkaa
