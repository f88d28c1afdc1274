/- Walk of MemApart. -/
import Derived.Test.YtjnnohajmblfkaaTrO
namespace Go.Proofs.Ytjnnohajmblfkaa
open Go.RowKit

/-- Two slices lie apart. -/
def RA (v u : Value) : Prop := ∀ i, v.ownBlock = some i → u.ownBlock ≠ some i
theorem RA.nil (u : Value) : RA (.slice none 0 0) u := fun i hi => by cases hi
theorem RA.symm {v u : Value} (h : RA v u) : RA u v := fun i hi hv => h i hv hi
theorem RA.step {v u v1 : Value} {sz : Nat} (h : RA v u) (hs : v1.ownBlock = v.ownBlock ∨ ∃ i, v1.ownBlock = some i ∧ sz ≤ i) (hu : ∀ i, u.ownBlock = some i → i < sz) : RA v1 u := by
  intro i hi hui
  rcases hs with hs | ⟨j, hj, hz⟩
  · exact h i (hs ▸ hi) hui
  · rw [hj] at hi
    cases hi
    have := hu _ hui
    omega

/-- The blocks of three traces. -/
structure Dim where
  b1 : Nat
  b2 : Nat
  b3 : Nat
  ts : Nat
  ps : Nat
  gs : Nat
  cs : Nat
  tt : Nat
  pt : Nat
  gt : Nat
  ct : Nat
  tl : Nat
  pl : Nat
  gl : Nat
  cl : Nat
  n : Nat
structure Dim.ok (D : Dim) (z : Nat) : Prop where
  z1 : z ≤ D.b1
  s1 : D.b1 ≤ D.ts ∧ D.b1 ≤ D.ps ∧ D.b1 ≤ D.gs
  s2 : D.ts < D.b2 ∧ D.ps < D.b2 ∧ D.gs < D.b2
  t1 : D.b2 ≤ D.tt ∧ D.b2 ≤ D.pt ∧ D.b2 ≤ D.gt
  t2 : D.tt < D.b3 ∧ D.pt < D.b3 ∧ D.gt < D.b3
  l1 : D.b3 ≤ D.tl ∧ D.b3 ≤ D.pl ∧ D.b3 ≤ D.gl

/-- Three traces in memory. -/
structure Three (D : Dim) (w wr : World) (c1 c2 c3 F1 F2 F3 : Nat → Int) (v1 v2 v3 : Value) (x1 x2 x3 : List AccV) : Prop where
  S : Tr wr D.b1 D.ts D.ps D.gs D.n D.cs c1 F1 v1 x1
  T : Tr wr D.b2 D.tt D.pt D.gt D.n D.ct c2 F2 v2 x2
  L : Tr wr D.b3 D.tl D.pl D.gl D.n D.cl c3 F3 v3 x3
  a12 : RA v1 v2
  a13 : RA v1 v3
  a23 : RA v2 v3
  B : Below w.heap.size w wr

section
variable {D : Dim} {w wr w' : World} {c1 c2 c3 F1 F2 F3 c' F' : Nat → Int} {v1 v2 v3 v' : Value} {x1 x2 x3 x' : List AccV}
theorem Three.drew (H : Three D w wr c1 c2 c3 F1 F2 F3 v1 v2 v3 x1 x2 x3) : Three D w wr.drew c1 c2 c3 F1 F2 F3 v1 v2 v3 x1 x2 x3 :=
  ⟨H.S.drew, H.T.drew, H.L.drew, H.a12, H.a13, H.a23, ⟨H.B.os, H.B.tape, H.B.output, H.B.size, H.B.block⟩⟩
theorem Three.below (H : Three D w wr c1 c2 c3 F1 F2 F3 v1 v2 v3 x1 x2 x3) (hb : Below wr.heap.size wr w') : Three D w w' c1 c2 c3 F1 F2 F3 v1 v2 v3 x1 x2 x3 :=
  ⟨H.S.below hb (Nat.le_refl _), H.T.below hb (Nat.le_refl _), H.L.below hb (Nat.le_refl _), H.a12, H.a13, H.a23, keepB H.B hb⟩
theorem Three.only {p g cap n : Nat} {c f : Nat → Int} (H : Three D w wr c1 c2 c3 F1 F2 F3 v1 v2 v3 x1 x2 x3) (ok : D.ok w.heap.size) (A : Ar wr p g n cap c f) (ho : Only p g wr w') (hp : w.heap.size ≤ p ∧ p < D.b1) (hg : w.heap.size ≤ g ∧ g < D.b1) : Three D w w' c1 c2 c3 F1 F2 F3 v1 v2 v3 x1 x2 x3 := by
  obtain ⟨k0, k1, k2, k3, k4, k5⟩ := ok
  exact ⟨H.S.only A ho (by omega) (by omega), H.T.only A ho (by omega) (by omega), H.L.only A ho (by omega) (by omega), H.a12, H.a13, H.a23, ho.below H.B H.B.size hp.1 hg.1⟩
theorem Three.stepS (H : Three D w wr c1 c2 c3 F1 F2 F3 v1 v2 v3 x1 x2 x3) (ok : D.ok w.heap.size) (hT : Tr w' D.b1 D.ts D.ps D.gs D.n D.cs c' F' v' x') (O : OnlyT D.ts D.ps D.gs v1.ownBlock wr w') (hv : v'.ownBlock = v1.ownBlock ∨ ∃ i, v'.ownBlock = some i ∧ wr.heap.size ≤ i) :
    Three D w w' c' c2 c3 F' F2 F3 v' v2 v3 x' x2 x3 := by
  obtain ⟨k0, k1, k2, k3, k4, k5⟩ := ok
  exact ⟨hT, H.T.onlyT H.S O (by omega) (by omega) (by omega) H.a12.symm, H.L.onlyT H.S O (by omega) (by omega) (by omega) H.a13.symm, H.a12.step hv fun i hi => (H.T.row.lt i hi).2, H.a13.step hv fun i hi => (H.L.row.lt i hi).2, H.a23,
    O.below H.B H.B.size (by omega) (by omega) (by omega) fun i hi => by have := (H.S.row.lt i hi).1; omega⟩
theorem Three.stepT (H : Three D w wr c1 c2 c3 F1 F2 F3 v1 v2 v3 x1 x2 x3) (ok : D.ok w.heap.size) (hT : Tr w' D.b2 D.tt D.pt D.gt D.n D.ct c' F' v' x') (O : OnlyT D.tt D.pt D.gt v2.ownBlock wr w') (hv : v'.ownBlock = v2.ownBlock ∨ ∃ i, v'.ownBlock = some i ∧ wr.heap.size ≤ i) :
    Three D w w' c1 c' c3 F1 F' F3 v1 v' v3 x1 x' x3 := by
  obtain ⟨k0, k1, k2, k3, k4, k5⟩ := ok
  exact ⟨H.S.onlyT H.T O (by omega) (by omega) (by omega) H.a12, hT, H.L.onlyT H.T O (by omega) (by omega) (by omega) H.a23.symm, (H.a12.symm.step hv fun i hi => (H.S.row.lt i hi).2).symm, H.a13, H.a23.step hv fun i hi => (H.L.row.lt i hi).2,
    O.below H.B H.B.size (by omega) (by omega) (by omega) fun i hi => by have := (H.T.row.lt i hi).1; omega⟩
theorem Three.stepL (H : Three D w wr c1 c2 c3 F1 F2 F3 v1 v2 v3 x1 x2 x3) (ok : D.ok w.heap.size) (hT : Tr w' D.b3 D.tl D.pl D.gl D.n D.cl c' F' v' x') (O : OnlyT D.tl D.pl D.gl v3.ownBlock wr w') (hv : v'.ownBlock = v3.ownBlock ∨ ∃ i, v'.ownBlock = some i ∧ wr.heap.size ≤ i) :
    Three D w w' c1 c2 c' F1 F2 F' v1 v2 v' x1 x2 x' := by
  obtain ⟨k0, k1, k2, k3, k4, k5⟩ := ok
  exact ⟨H.S.onlyT H.L O (by omega) (by omega) (by omega) H.a13, H.T.onlyT H.L O (by omega) (by omega) (by omega) H.a23, hT, H.a12, (H.a13.symm.step hv fun i hi => (H.S.row.lt i hi).2).symm, (H.a23.symm.step hv fun i hi => (H.T.row.lt i hi).2).symm,
    O.below H.B H.B.size (by omega) (by omega) (by omega) fun i hi => by have := (H.L.row.lt i hi).1; omega⟩
end

theorem isAcc_rowA {w : World} {base : Nat} {a : Option Addr} {cap : Nat} {xs : List AccV} (R : RowA w base (.slice a xs.length cap) xs) : IsAcc w a xs := by
  intro hne
  rcases R.shape with ⟨_, h⟩ | ⟨r, cap', cs, hv, _, hb, _, _, hcs⟩
  · exact absurd h hne
  · cases hv
    refine ⟨r, 0, rfl, fun k x hx => ?_⟩
    have := hcs k x hx
    rw [hb.cell, hb.cell, hb.cell]
    simpa using this

theorem stT_len (n : Nat) (f : Nat → Int) (xs : List AccV) (o : AccV) {m : Nat} (h : xs.length ≤ m) : (stT n (f, xs) o).2.length ≤ m + 1 := by
  simp only [stT, rowOf]
  split <;> simp <;> omega

set_option maxRecDepth 100000 in
set_option maxHeartbeats 4000000 in
theorem memApart_out (a1 : Option Addr) (n cap1 : Nat) (a2 : Option Addr) (la cap2 : Nat) (a3 : Option Addr) (lb cap3 : Nat) (w : World) (h : (60 : Int) < (n : Int) ∨ (60 : Int) < (la : Int) ∨ (60 : Int) < (lb : Int)) :
    Calls Try.prog 6 #[.slice a1 n cap1, .slice a2 la cap2, .slice a3 lb cap3] w fun e w' => e = .returned (.bool true) ∧ Below w.heap.size w w' := by
  by_cases h1 : (60 : Int) < (n : Int)
  · clear h
    go_enter Try.func6, Try.ntmps6
    go_wp2_with fail
    refine (awake_any _).mono ?_; rintro e w3 ⟨rfl, hb3⟩
    go_wp2_with fail
    go_ret
    exact ⟨rfl, hb3⟩
  · by_cases h2 : (60 : Int) < (la : Int)
    · clear h
      go_enter Try.func6, Try.ntmps6
      go_wp2_with fail
      refine (awake_any _).mono ?_; rintro e w3 ⟨rfl, hb3⟩
      go_wp2_with fail
      go_ret
      exact ⟨rfl, hb3⟩
    · have h3 : (60 : Int) < (lb : Int) := by omega
      clear h
      go_enter Try.func6, Try.ntmps6
      go_wp2_with fail
      refine (awake_any _).mono ?_; rintro e w3 ⟨rfl, hb3⟩
      go_wp2_with fail
      go_ret
      exact ⟨rfl, hb3⟩

/-- What holds at each head of the first loop. -/
def FillRel (D : Dim) (w : World) (p g cap : Nat) (m : Nat) (c1 c2 c3 f : Nat → Int) (v1 v2 v3 : Value) (i : Value) (wr : World) : Prop :=
  ∃ (k : Nat) (c F : Nat → Int), k ≤ D.n ∧ i = .int .i64 k ∧ Three D w wr c1 c2 c3 f f f v1 v2 v3 [] [] [] ∧ Ar wr p g D.n cap c F ∧ CB c (m + k)

/-- What holds at each head of the second loop. -/
def ApRel (D : Dim) (w : World) (m M : Nat) (i : Value) (wr : World) : Prop :=
  ∃ (k : Nat) (c1 c2 c3 F F2 : Nat → Int) (v1 v2 v3 : Value) (xs xt : List AccV), k ≤ M ∧ i = .int .i64 k ∧ Three D w wr c1 c2 c3 F F2 F v1 v2 v3 xs xt xs ∧ CB c1 (m + k) ∧ CB c2 (m + k) ∧ CB c3 (m + k) ∧ xs.length ≤ k ∧ xt.length ≤ k

set_option maxRecDepth 100000 in
set_option maxHeartbeats 16000000 in
theorem memApart_main (a1 : Option Addr) (n cap1 : Nat) (f : Nat → Int) (a2 : Option Addr) (oa : List AccV) (cap2 : Nat) (a3 : Option Addr) (ob : List AccV) (cap3 : Nat) (w : World) (h1 : (n : Int) ≤ 60) (h2 : (oa.length : Int) ≤ 60) (h3 : (ob.length : Int) ≤ 60) (hs1 : Nums w a1 n f) (hs2 : Ops w a2 oa) (hs3 : Ops w a3 ob) :
    Calls Try.prog 6 #[.slice a1 n cap1, .slice a2 oa.length cap2, .slice a3 ob.length cap3] w fun e w' => e = .returned (.bool true) ∧ Below w.heap.size w w' := by
  have HS1 := Lib.hid hs1; clear hs1
  have HS2 := Lib.hid hs2; clear hs2
  have HS3 := Lib.hid hs3; clear hs3
  go_enter Try.func6, Try.ntmps6
  go_wp2_with fail
  refine (begun_any a1 n cap1 f _ (by omega) HS1.out).mono ?_; rintro e w1 ⟨p, g, cp, c, rfl, hp, hg, A1, m1, B1⟩
  have lp := A1.p_lt
  have lg := A1.g_lt
  have zz := B1.size
  go_wp2_with fail
  refine (over_any A1).mono ?_; rintro e w2 ⟨ts, ps, gs, cs, rfl, hps, hgs, hts, T2, B2⟩
  have A2 := A1.below B2 (Nat.le_refl _)
  have K2 := keepB B1 B2
  have l1 := T2.t_lt
  have l2 := T2.ar.p_lt
  have l3 := T2.ar.g_lt
  clear A1 B1 B2
  go_wp2_with fail
  refine (over_any A2).mono ?_; rintro e w3 ⟨tt, pt, gt, ct, rfl, hpt, hgt, htt, T3, B3⟩
  have A3 := A2.below B3 (Nat.le_refl _)
  have K3 := keepB K2 B3
  have S3 := T2.below B3 (Nat.le_refl _)
  have l4 := T3.t_lt
  have l5 := T3.ar.p_lt
  have l6 := T3.ar.g_lt
  clear A2 K2 T2 B3
  go_wp2_with fail
  refine (over_any A3).mono ?_; rintro e w4 ⟨tl, pl, gl, cl, rfl, hpl, hgl, htl, L4, B4⟩
  have A4 := A3.below B4 (Nat.le_refl _)
  have K4 := keepB K3 B4
  have S4 := S3.below B4 (Nat.le_refl _)
  have T4 := T3.below B4 (Nat.le_refl _)
  clear A3 K3 S3 T3 B4
  have ok : Dim.ok ⟨w1.heap.size, w2.heap.size, w3.heap.size, ts, ps, gs, cs, tt, pt, gt, ct, tl, pl, gl, cl, n⟩ w.heap.size := ⟨zz, ⟨hts, hps, hgs⟩, ⟨l1, l2, l3⟩, ⟨htt, hpt, hgt⟩, ⟨l4, l5, l6⟩, ⟨htl, hpl, hgl⟩⟩
  have H4 : Three ⟨w1.heap.size, w2.heap.size, w3.heap.size, ts, ps, gs, cs, tt, pt, gt, ct, tl, pl, gl, cl, n⟩ w w4 c c c f f f (.slice none 0 0) (.slice none 0 0) (.slice none 0 0) [] [] [] :=
    ⟨S4, T4, L4, RA.nil _, RA.nil _, RA.nil _, K4⟩
  have hpp : w.heap.size ≤ p ∧ p < w1.heap.size := ⟨hp, lp⟩
  have hgg : w.heap.size ≤ g ∧ g < w1.heap.size := ⟨hg, lg⟩
  clear S4 T4 L4 K4 hts hps hgs l1 l2 l3 htt hpt hgt l4 l5 l6 htl hpl hgl hp hg lp lg zz
  have OK := Lib.hid ok; clear ok
  have M1 := Lib.hid m1
  go_wp2_with fail
  go_loopw [52] (fun i wr => FillRel ⟨w1.heap.size, w2.heap.size, w3.heap.size, ts, ps, gs, cs, tt, pt, gt, ct, tl, pl, gl, cl, n⟩ w p g cp n c c c f (.slice none 0 0) (.slice none 0 0) (.slice none 0 0) i wr) (fun i _ => n - (intOf i).toNat)
  case atStart => exact ⟨0, c, f, Nat.zero_le _, rfl, H4, A4, m1⟩
  case round =>
    clear H4 A4 m1
    obtain ⟨k, cc, F, hk, rfl, H, A, hm⟩ := hrel
    simp only at hk A
    by_cases hlt : k < n
    · go_wp2_with fail
      refine (store_yes A hlt (v := 99) (by omega) (by omega) hm (by omega)).mono ?_; rintro e w5 ⟨rfl, A5, O5⟩
      have HR : Hid (FillRel ⟨w1.heap.size, w2.heap.size, w3.heap.size, ts, ps, gs, cs, tt, pt, gt, ct, tl, pl, gl, cl, n⟩ w p g cp n c c c f (.slice none 0 0) (.slice none 0 0) (.slice none 0 0) (.int .i64 ((k : Int) + 1)) w5) :=
        ⟨k + 1, _, _, by simp only; omega, by go_num, H.only OK.out A O5 hpp hgg, A5, hm.upd 1⟩
      clear H A A5 O5 hm
      go_wp2_with fail
      exact ⟨HR.out, by simp [intOf]; omega⟩
    · clear A hm
      have HH := Lib.hid H; clear H
      go_wp2_with fail
      obtain ⟨M, hM, hM60⟩ : ∃ M : Nat, max (oa.length : Int) (ob.length : Int) = (M : Int) ∧ M ≤ 60 := ⟨max oa.length ob.length, by omega, by omega⟩
      rw [hM]
      clear hM
      go_loopw [64] (fun i wr => ApRel ⟨w1.heap.size, w2.heap.size, w3.heap.size, ts, ps, gs, cs, tt, pt, gt, ct, tl, pl, gl, cl, n⟩ w n M i wr) (fun i _ => M - (intOf i).toNat)
      case atStart => exact ⟨0, c, c, c, f, f, _, _, _, [], [], Nat.zero_le _, rfl, HH.out, M1.out, M1.out, M1.out, by simp, by simp⟩
      case round =>
        clear HH
        obtain ⟨k, c1, c2, c3, F, F2, v1, v2, v3, xs, xt, hk, rfl, H, hm1, hm2, hm3, hl1, hl2⟩ := hrel
        have HM1 := Lib.hid hm1; clear hm1
        have HM3 := Lib.hid hm3; clear hm3
        have HH := Lib.hid H; clear H
        by_cases hlt : k < M
        · by_cases ubh : k < ob.length
          · obtain ⟨ubb, uboff, rfl, hcells⟩ := HS3.out.acc (by intro h; rw [h] at ubh; exact absurd ubh (Nat.not_lt_zero _))
            obtain ⟨⟨ubs, ubc, ubv⟩, hxk⟩ : ∃ x, ob[k]? = some x := ⟨_, List.getElem?_eq_getElem ubh⟩
            obtain ⟨ubx0, ubx1, ubx2⟩ := hcells k _ hxk
            have ubf := Lib.hid (HS3.out.fit _ (List.mem_of_getElem? hxk))
            clear hcells hxk
            simp only at ubx0 ubx1 ubx2
            have uby0 := cell_later HH.out.B ubx0
            have uby1 := cell_later HH.out.B ubx1
            have uby2 := cell_later HH.out.B ubx2
            cases ubs with
            | true =>
              go_wp2_with fail
              go_region_held3 (fun w' => w'.cell? ⟨ubb, uboff + k * 3 + 1, none⟩ = some (.int .i64 ubc) ∧ w'.cell? ⟨ubb, uboff + k * 3 + 2, none⟩ = some (.int .u64 ubv))
                (first | assumption | exact ⟨uby1, uby2⟩ | exact ⟨cell_later H5.B ubx1, cell_later H5.B ubx2⟩)
                (first | ((with_reducible refine (tstore_st (o := ⟨true, ubc, ubv⟩) HH.out.drew.T rfl ubf.out hm2 (by omega) (by omega)).mono ?_); rintro e w5 ⟨c5, v5, rfl, T5, m5, O5, hv5⟩; have H5 := HH.out.drew.stepT OK.out T5 O5 hv5))
              have H5 := Lib.hid (HH.out.drew.stepT OK.out T5 O5 hv5)
              have hl2' := stT_len n F2 xt ⟨true, ubc, ubv⟩ hl2
              have hm2' := Lib.hid (m5.more (m' := n + (k + 1)) (by omega))
              clear T5 O5 HH m5 hm2 hl2 ubx0 ubx1 ubx2 uby0 uby1 uby2
              have HH := H5; clear H5
              have hm2 := hm2'; clear hm2'
              have hl2 := hl2'; clear hl2'
              by_cases uah : k < oa.length
              · obtain ⟨uab, uaoff, rfl, hcells⟩ := HS2.out.acc (by intro h; rw [h] at uah; exact absurd uah (Nat.not_lt_zero _))
                obtain ⟨⟨uas, uac, uav⟩, hxk⟩ : ∃ x, oa[k]? = some x := ⟨_, List.getElem?_eq_getElem uah⟩
                obtain ⟨uax0, uax1, uax2⟩ := hcells k _ hxk
                have uaf := Lib.hid (HS2.out.fit _ (List.mem_of_getElem? hxk))
                clear hcells hxk
                simp only at uax0 uax1 uax2
                have uay0 := cell_later HH.out.B uax0
                have uay1 := cell_later HH.out.B uax1
                have uay2 := cell_later HH.out.B uax2
                cases uas with
                | true =>
                  go_wp2_with fail
                  go_region_held3 (fun w' => w'.cell? ⟨uab, uaoff + k * 3 + 1, none⟩ = some (.int .i64 uac) ∧ w'.cell? ⟨uab, uaoff + k * 3 + 2, none⟩ = some (.int .u64 uav))
                    (first | assumption | exact ⟨uay1, uay2⟩ | exact ⟨cell_later H6.B uax1, cell_later H6.B uax2⟩)
                    (first | ((with_reducible refine (tstore_st (o := ⟨true, uac, uav⟩) HH.out.drew.S rfl uaf.out HM1.out (by omega) (by omega)).mono ?_); rintro e w6 ⟨c6, v6, rfl, T6, m6, O6, hv6⟩; have H6 := HH.out.drew.stepS OK.out T6 O6 hv6))
                  have H6 := HH.out.drew.stepS OK.out T6 O6 hv6
                  have z1 := cell_later H6.B uax1
                  have z2 := cell_later H6.B uax2
                  have H6' := Lib.hid H6
                  have m6' := Lib.hid m6
                  clear uay0 uay1 uay2 HH T6 O6 m6 H6
                  go_wp2_with fail
                  go_region_held3 (fun w' => w'.cell? ⟨uab, uaoff + k * 3 + 1, none⟩ = some (.int .i64 uac) ∧ w'.cell? ⟨uab, uaoff + k * 3 + 2, none⟩ = some (.int .u64 uav))
                    (first | assumption | exact ⟨z1, z2⟩ | exact ⟨cell_later H7.B uax1, cell_later H7.B uax2⟩)
                    (first | ((with_reducible refine (tstore_st (o := ⟨true, uac, uav⟩) H6'.out.drew.L rfl uaf.out HM3.out (by omega) (by omega)).mono ?_); rintro e w7 ⟨c7, v7, rfl, T7, m7, O7, hv7⟩; have H7 := H6'.out.drew.stepL OK.out T7 O7 hv7))
                  have H7 := H6'.out.drew.stepL OK.out T7 O7 hv7
                  have HR : Hid (ApRel ⟨w1.heap.size, w2.heap.size, w3.heap.size, ts, ps, gs, cs, tt, pt, gt, ct, tl, pl, gl, cl, n⟩ w n M (.int .i64 ((k : Int) + 1)) w7) := ⟨k + 1, _, _, _, _, _, _, _, _, _, _, by omega, by go_num, H7, m6'.out.more (by omega), hm2.out, m7.more (by omega), stT_len n F xs _ hl1, hl2⟩
                  clear H7 T7 O7 m7 uax0 uax1 uax2 z1 z2
                  go_wp2_with fail
                  exact ⟨HR.out, by simp [intOf]; omega⟩
                | false =>
                  go_wp2_with fail
                  have e8 : (readN n F uac != readN n F uac) = false := by simp
                  go_region_held3 (fun w' => w'.cell? ⟨uab, uaoff + k * 3 + 1, none⟩ = some (.int .i64 uac))
                    (first | assumption | exact cell_later H6.B uax1 | exact cell_later H7.B uax1)
                    (first
                      | ((with_reducible refine (tload_st (o := ⟨false, uac, uav⟩) HH.out.drew.S rfl HM1.out (by omega) (by omega)).mono ?_); rintro e w6 ⟨c6, v6, rfl, T6, m6, O6, hv6⟩; have H6 := HH.out.drew.stepS OK.out T6 O6 hv6)
                      | ((with_reducible refine (tload_st (o := ⟨false, uac, uav⟩) H6.L rfl HM3.out (by omega) (by omega)).mono ?_); rintro e w7 ⟨c7, v7, rfl, T7, m7, O7, hv7⟩; have H7 := H6.stepL OK.out T7 O7 hv7))
                  all_goals
                    have H6 := HH.out.drew.stepS OK.out T6 O6 hv6
                    have H7 := H6.stepL OK.out T7 O7 hv7
                    have HR : Hid (ApRel ⟨w1.heap.size, w2.heap.size, w3.heap.size, ts, ps, gs, cs, tt, pt, gt, ct, tl, pl, gl, cl, n⟩ w n M (.int .i64 ((k : Int) + 1)) w7) := ⟨k + 1, _, _, _, _, _, _, _, _, _, _, by omega, by go_num, H7, m6.more (by omega), hm2.out, m7.more (by omega), stT_len n F xs _ hl1, hl2⟩
                    clear H6 H7 T6 O6 m6 T7 O7 m7 uax0 uax1 uax2 uay0 uay1 uay2 HH
                    go_wp2_with fail
                    exact ⟨HR.out, by simp [intOf]; omega⟩
              · have HR : Hid (ApRel ⟨w1.heap.size, w2.heap.size, w3.heap.size, ts, ps, gs, cs, tt, pt, gt, ct, tl, pl, gl, cl, n⟩ w n M (.int .i64 ((k : Int) + 1)) w5) := ⟨k + 1, _, _, _, _, _, _, _, _, _, _, by omega, by go_num, HH.out, HM1.out.more (by omega), hm2.out, HM3.out.more (by omega), by omega, hl2⟩
                clear HH
                go_wp2_with fail
                exact ⟨HR.out, by simp [intOf]; omega⟩
            | false =>
              go_wp2_with fail
              refine (tload_st (o := ⟨false, ubc, ubv⟩) HH.out.T rfl hm2 (by omega) (by omega)).mono ?_; rintro e w5 ⟨c5, v5, rfl, T5, m5, O5, hv5⟩
              have H5 := Lib.hid (HH.out.stepT OK.out T5 O5 hv5)
              have hl2' := stT_len n F2 xt ⟨false, ubc, ubv⟩ hl2
              have hm2' := Lib.hid (m5.more (m' := n + (k + 1)) (by omega))
              clear T5 O5 HH m5 hm2 hl2 ubx0 ubx1 ubx2 uby0 uby1 uby2
              have HH := H5; clear H5
              have hm2 := hm2'; clear hm2'
              have hl2 := hl2'; clear hl2'
              by_cases uah : k < oa.length
              · obtain ⟨uab, uaoff, rfl, hcells⟩ := HS2.out.acc (by intro h; rw [h] at uah; exact absurd uah (Nat.not_lt_zero _))
                obtain ⟨⟨uas, uac, uav⟩, hxk⟩ : ∃ x, oa[k]? = some x := ⟨_, List.getElem?_eq_getElem uah⟩
                obtain ⟨uax0, uax1, uax2⟩ := hcells k _ hxk
                have uaf := Lib.hid (HS2.out.fit _ (List.mem_of_getElem? hxk))
                clear hcells hxk
                simp only at uax0 uax1 uax2
                have uay0 := cell_later HH.out.B uax0
                have uay1 := cell_later HH.out.B uax1
                have uay2 := cell_later HH.out.B uax2
                cases uas with
                | true =>
                  go_wp2_with fail
                  go_region_held3 (fun w' => w'.cell? ⟨uab, uaoff + k * 3 + 1, none⟩ = some (.int .i64 uac) ∧ w'.cell? ⟨uab, uaoff + k * 3 + 2, none⟩ = some (.int .u64 uav))
                    (first | assumption | exact ⟨uay1, uay2⟩ | exact ⟨cell_later H6.B uax1, cell_later H6.B uax2⟩)
                    (first | ((with_reducible refine (tstore_st (o := ⟨true, uac, uav⟩) HH.out.drew.S rfl uaf.out HM1.out (by omega) (by omega)).mono ?_); rintro e w6 ⟨c6, v6, rfl, T6, m6, O6, hv6⟩; have H6 := HH.out.drew.stepS OK.out T6 O6 hv6))
                  have H6 := HH.out.drew.stepS OK.out T6 O6 hv6
                  have z1 := cell_later H6.B uax1
                  have z2 := cell_later H6.B uax2
                  have H6' := Lib.hid H6
                  have m6' := Lib.hid m6
                  clear uay0 uay1 uay2 HH T6 O6 m6 H6
                  go_wp2_with fail
                  go_region_held3 (fun w' => w'.cell? ⟨uab, uaoff + k * 3 + 1, none⟩ = some (.int .i64 uac) ∧ w'.cell? ⟨uab, uaoff + k * 3 + 2, none⟩ = some (.int .u64 uav))
                    (first | assumption | exact ⟨z1, z2⟩ | exact ⟨cell_later H7.B uax1, cell_later H7.B uax2⟩)
                    (first | ((with_reducible refine (tstore_st (o := ⟨true, uac, uav⟩) H6'.out.drew.L rfl uaf.out HM3.out (by omega) (by omega)).mono ?_); rintro e w7 ⟨c7, v7, rfl, T7, m7, O7, hv7⟩; have H7 := H6'.out.drew.stepL OK.out T7 O7 hv7))
                  have H7 := H6'.out.drew.stepL OK.out T7 O7 hv7
                  have HR : Hid (ApRel ⟨w1.heap.size, w2.heap.size, w3.heap.size, ts, ps, gs, cs, tt, pt, gt, ct, tl, pl, gl, cl, n⟩ w n M (.int .i64 ((k : Int) + 1)) w7) := ⟨k + 1, _, _, _, _, _, _, _, _, _, _, by omega, by go_num, H7, m6'.out.more (by omega), hm2.out, m7.more (by omega), stT_len n F xs _ hl1, hl2⟩
                  clear H7 T7 O7 m7 uax0 uax1 uax2 z1 z2
                  go_wp2_with fail
                  exact ⟨HR.out, by simp [intOf]; omega⟩
                | false =>
                  go_wp2_with fail
                  have e8 : (readN n F uac != readN n F uac) = false := by simp
                  go_region_held3 (fun w' => w'.cell? ⟨uab, uaoff + k * 3 + 1, none⟩ = some (.int .i64 uac))
                    (first | assumption | exact cell_later H6.B uax1 | exact cell_later H7.B uax1)
                    (first
                      | ((with_reducible refine (tload_st (o := ⟨false, uac, uav⟩) HH.out.drew.S rfl HM1.out (by omega) (by omega)).mono ?_); rintro e w6 ⟨c6, v6, rfl, T6, m6, O6, hv6⟩; have H6 := HH.out.drew.stepS OK.out T6 O6 hv6)
                      | ((with_reducible refine (tload_st (o := ⟨false, uac, uav⟩) H6.L rfl HM3.out (by omega) (by omega)).mono ?_); rintro e w7 ⟨c7, v7, rfl, T7, m7, O7, hv7⟩; have H7 := H6.stepL OK.out T7 O7 hv7))
                  all_goals
                    have H6 := HH.out.drew.stepS OK.out T6 O6 hv6
                    have H7 := H6.stepL OK.out T7 O7 hv7
                    have HR : Hid (ApRel ⟨w1.heap.size, w2.heap.size, w3.heap.size, ts, ps, gs, cs, tt, pt, gt, ct, tl, pl, gl, cl, n⟩ w n M (.int .i64 ((k : Int) + 1)) w7) := ⟨k + 1, _, _, _, _, _, _, _, _, _, _, by omega, by go_num, H7, m6.more (by omega), hm2.out, m7.more (by omega), stT_len n F xs _ hl1, hl2⟩
                    clear H6 H7 T6 O6 m6 T7 O7 m7 uax0 uax1 uax2 uay0 uay1 uay2 HH
                    go_wp2_with fail
                    exact ⟨HR.out, by simp [intOf]; omega⟩
              · have HR : Hid (ApRel ⟨w1.heap.size, w2.heap.size, w3.heap.size, ts, ps, gs, cs, tt, pt, gt, ct, tl, pl, gl, cl, n⟩ w n M (.int .i64 ((k : Int) + 1)) w5) := ⟨k + 1, _, _, _, _, _, _, _, _, _, _, by omega, by go_num, HH.out, HM1.out.more (by omega), hm2.out, HM3.out.more (by omega), by omega, hl2⟩
                clear HH
                go_wp2_with fail
                exact ⟨HR.out, by simp [intOf]; omega⟩
          · have hm2' := Lib.hid (hm2.more (m' := n + (k + 1)) (by omega))
            have hl2' : xt.length ≤ k + 1 := by omega
            clear hm2 hl2
            have hm2 := hm2'; clear hm2'
            have hl2 := hl2'; clear hl2'
            by_cases uah : k < oa.length
            · obtain ⟨uab, uaoff, rfl, hcells⟩ := HS2.out.acc (by intro h; rw [h] at uah; exact absurd uah (Nat.not_lt_zero _))
              obtain ⟨⟨uas, uac, uav⟩, hxk⟩ : ∃ x, oa[k]? = some x := ⟨_, List.getElem?_eq_getElem uah⟩
              obtain ⟨uax0, uax1, uax2⟩ := hcells k _ hxk
              have uaf := Lib.hid (HS2.out.fit _ (List.mem_of_getElem? hxk))
              clear hcells hxk
              simp only at uax0 uax1 uax2
              have uay0 := cell_later HH.out.B uax0
              have uay1 := cell_later HH.out.B uax1
              have uay2 := cell_later HH.out.B uax2
              cases uas with
              | true =>
                go_wp2_with fail
                go_region_held3 (fun w' => w'.cell? ⟨uab, uaoff + k * 3 + 1, none⟩ = some (.int .i64 uac) ∧ w'.cell? ⟨uab, uaoff + k * 3 + 2, none⟩ = some (.int .u64 uav))
                  (first | assumption | exact ⟨uay1, uay2⟩ | exact ⟨cell_later H6.B uax1, cell_later H6.B uax2⟩)
                  (first | ((with_reducible refine (tstore_st (o := ⟨true, uac, uav⟩) HH.out.drew.S rfl uaf.out HM1.out (by omega) (by omega)).mono ?_); rintro e w6 ⟨c6, v6, rfl, T6, m6, O6, hv6⟩; have H6 := HH.out.drew.stepS OK.out T6 O6 hv6))
                have H6 := HH.out.drew.stepS OK.out T6 O6 hv6
                have z1 := cell_later H6.B uax1
                have z2 := cell_later H6.B uax2
                have H6' := Lib.hid H6
                have m6' := Lib.hid m6
                clear uay0 uay1 uay2 HH T6 O6 m6 H6
                go_wp2_with fail
                go_region_held3 (fun w' => w'.cell? ⟨uab, uaoff + k * 3 + 1, none⟩ = some (.int .i64 uac) ∧ w'.cell? ⟨uab, uaoff + k * 3 + 2, none⟩ = some (.int .u64 uav))
                  (first | assumption | exact ⟨z1, z2⟩ | exact ⟨cell_later H7.B uax1, cell_later H7.B uax2⟩)
                  (first | ((with_reducible refine (tstore_st (o := ⟨true, uac, uav⟩) H6'.out.drew.L rfl uaf.out HM3.out (by omega) (by omega)).mono ?_); rintro e w7 ⟨c7, v7, rfl, T7, m7, O7, hv7⟩; have H7 := H6'.out.drew.stepL OK.out T7 O7 hv7))
                have H7 := H6'.out.drew.stepL OK.out T7 O7 hv7
                have HR : Hid (ApRel ⟨w1.heap.size, w2.heap.size, w3.heap.size, ts, ps, gs, cs, tt, pt, gt, ct, tl, pl, gl, cl, n⟩ w n M (.int .i64 ((k : Int) + 1)) w7) := ⟨k + 1, _, _, _, _, _, _, _, _, _, _, by omega, by go_num, H7, m6'.out.more (by omega), hm2.out, m7.more (by omega), stT_len n F xs _ hl1, hl2⟩
                clear H7 T7 O7 m7 uax0 uax1 uax2 z1 z2
                go_wp2_with fail
                exact ⟨HR.out, by simp [intOf]; omega⟩
              | false =>
                go_wp2_with fail
                have e8 : (readN n F uac != readN n F uac) = false := by simp
                go_region_held3 (fun w' => w'.cell? ⟨uab, uaoff + k * 3 + 1, none⟩ = some (.int .i64 uac))
                  (first | assumption | exact cell_later H6.B uax1 | exact cell_later H7.B uax1)
                  (first
                    | ((with_reducible refine (tload_st (o := ⟨false, uac, uav⟩) HH.out.drew.S rfl HM1.out (by omega) (by omega)).mono ?_); rintro e w6 ⟨c6, v6, rfl, T6, m6, O6, hv6⟩; have H6 := HH.out.drew.stepS OK.out T6 O6 hv6)
                    | ((with_reducible refine (tload_st (o := ⟨false, uac, uav⟩) H6.L rfl HM3.out (by omega) (by omega)).mono ?_); rintro e w7 ⟨c7, v7, rfl, T7, m7, O7, hv7⟩; have H7 := H6.stepL OK.out T7 O7 hv7))
                all_goals
                  have H6 := HH.out.drew.stepS OK.out T6 O6 hv6
                  have H7 := H6.stepL OK.out T7 O7 hv7
                  have HR : Hid (ApRel ⟨w1.heap.size, w2.heap.size, w3.heap.size, ts, ps, gs, cs, tt, pt, gt, ct, tl, pl, gl, cl, n⟩ w n M (.int .i64 ((k : Int) + 1)) w7) := ⟨k + 1, _, _, _, _, _, _, _, _, _, _, by omega, by go_num, H7, m6.more (by omega), hm2.out, m7.more (by omega), stT_len n F xs _ hl1, hl2⟩
                  clear H6 H7 T6 O6 m6 T7 O7 m7 uax0 uax1 uax2 uay0 uay1 uay2 HH
                  go_wp2_with fail
                  exact ⟨HR.out, by simp [intOf]; omega⟩
            · have HR : Hid (ApRel ⟨w1.heap.size, w2.heap.size, w3.heap.size, ts, ps, gs, cs, tt, pt, gt, ct, tl, pl, gl, cl, n⟩ w n M (.int .i64 ((k : Int) + 1)) wr) := ⟨k + 1, _, _, _, _, _, _, _, _, _, _, by omega, by go_num, HH.out, HM1.out.more (by omega), hm2.out, HM3.out.more (by omega), by omega, hl2⟩
              clear HH
              go_wp2_with fail
              exact ⟨HR.out, by simp [intOf]; omega⟩
        · clear HM1 hm2 HM3
          have hl : xs.length ≤ 60 := by omega
          clear hl1 hl2
          go_wp2_with fail
          refine (row_any HH.out.S (by omega)).mono ?_; rintro e w5 ⟨v9, rfl, R5, B5⟩
          obtain ⟨a9, cp9, rfl⟩ := R5.slice
          have H5 := Lib.hid (HH.out.below B5)
          have Q5 : Hid (RowA w5 wr.heap.size (.slice a9 xs.length cp9) xs) := R5
          clear HH R5 B5
          go_wp2_with fail
          refine (row_any H5.out.L (by omega)).mono ?_; rintro e w6 ⟨v10, rfl, R6, B6⟩
          obtain ⟨a10, cp10, rfl⟩ := R6.slice
          have I5 : Hid (IsAcc w6 a9 xs) := (isAcc_rowA (Q5.out.kept_of (w' := w6) fun i hi => B6.block i (Q5.out.lt i hi).2))
          have I6 : Hid (IsAcc w6 a10 xs) := isAcc_rowA R6
          have HB := Lib.hid (keepB H5.out.B B6)
          clear H5 Q5 R6 B6
          have e7 : ((xs.length : Int) != (xs.length : Int)) = false := by simp
          go_wp2_with fail
          go_loopw [155] (fun i wr => ∃ j q : Nat, j ≤ xs.length ∧ i = .int .i64 j ∧ wr = w6.drewN q) (fun i _ => xs.length - (intOf i).toNat)
          case atStart => exact ⟨0, 0, Nat.zero_le _, rfl, rfl⟩
          case round =>
            obtain ⟨j, q, hj, rfl, rfl⟩ := hrel
            by_cases hlt : j < xs.length
            · have hne : xs ≠ [] := by intro h; rw [h] at hlt; exact absurd hlt (Nat.not_lt_zero _)
              obtain ⟨b9, o9, rfl, hc9⟩ := I5.out hne
              obtain ⟨b10, o10, rfl, hc10⟩ := I6.out hne
              obtain ⟨⟨s, xc, v⟩, hxk⟩ : ∃ x, xs[j]? = some x := ⟨_, List.getElem?_eq_getElem hlt⟩
              obtain ⟨p0, p1, p2⟩ := hc9 j _ hxk
              obtain ⟨q0, q1, q2⟩ := hc10 j _ hxk
              clear hc9 hc10 hxk hne
              simp only at p0 p1 p2 q0 q1 q2
              go_wp2_with fail
              go_quiet (fail)
              go_wp2_with fail
              go_roundw
              case rel => exact ⟨j + 1, _, by omega, by go_num, rfl⟩
              case measure => simp [intOf]; omega
            · go_wp2_with fail
              refine (awake_any _).mono ?_; rintro e w8 ⟨rfl, B8⟩
              go_wp2_with fail
              go_ret
              exact ⟨rfl, keepB (⟨HB.out.os, HB.out.tape, HB.out.output, HB.out.size, HB.out.block⟩ : Below w.heap.size w (w6.drewN q)) B8⟩

theorem memApart_walk (a1 : Option Addr) (n cap1 : Nat) (f : Nat → Int) (a2 : Option Addr) (oa : List AccV) (cap2 : Nat) (a3 : Option Addr) (ob : List AccV) (cap3 : Nat) (w : World) (s1 : Nums w a1 n f) (s2 : Ops w a2 oa) (s3 : Ops w a3 ob) :
    Calls Try.prog 6 #[.slice a1 n cap1, .slice a2 oa.length cap2, .slice a3 ob.length cap3] w fun e w' => e = .returned (.bool true) ∧ Below w.heap.size w w' := by
  by_cases h : (60 : Int) < (n : Int) ∨ (60 : Int) < (oa.length : Int) ∨ (60 : Int) < (ob.length : Int)
  · exact memApart_out a1 n cap1 a2 oa.length cap2 a3 ob.length cap3 w h
  · exact memApart_main a1 n cap1 f a2 oa cap2 a3 ob cap3 w (by omega) (by omega) (by omega) s1 s2 s3
end Go.Proofs.Ytjnnohajmblfkaa
