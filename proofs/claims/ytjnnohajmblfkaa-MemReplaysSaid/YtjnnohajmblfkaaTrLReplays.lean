/- Walk of MemReplays. -/
import Derived.Test.YtjnnohajmblfkaaTrO
namespace Go.Proofs.Ytjnnohajmblfkaa
open Go.RowKit

set_option maxRecDepth 100000 in
set_option maxHeartbeats 4000000 in
theorem memReplays_out (a1 : Option Addr) (n cap1 : Nat) (a2 : Option Addr) (len cap2 : Nat) (w : World) (h : (60 : Int) < (n : Int) ∨ (80 : Int) < (len : Int)) :
    Calls Try.prog 4 #[.slice a1 n cap1, .slice a2 len cap2] w fun e w' => e = .returned (.bool true) ∧ Below w.heap.size w w' := by
  by_cases h1 : (60 : Int) < (n : Int)
  · clear h
    go_enter Try.func4, Try.ntmps4
    go_wp2_with fail
    refine (awake_any _).mono ?_; rintro e w3 ⟨rfl, hb3⟩
    go_wp2_with fail
    go_ret
    exact ⟨rfl, hb3⟩
  · have h2 : (80 : Int) < (len : Int) := by omega
    clear h
    go_enter Try.func4, Try.ntmps4
    go_wp2_with fail
    refine (awake_any _).mono ?_; rintro e w3 ⟨rfl, hb3⟩
    go_wp2_with fail
    go_ret
    exact ⟨rfl, hb3⟩

/-- What holds at each head of the first loop. -/
def PlayRel (w : World) (base t p g cap p' g' cap' n : Nat) (c' f : Nat → Int) (os : List AccV) (i : Value) (wr : World) : Prop :=
  ∃ (k : Nat) (c : Nat → Int) (v : Value), k ≤ os.length ∧ i = .int .i64 k ∧ Tr wr base t p g n cap c (playT n f (os.take k)).1 v (playT n f (os.take k)).2 ∧ CB c (n + k) ∧ Ar wr p' g' n cap' c' f ∧ Below w.heap.size w wr

/-- What holds at each head of the last loop. -/
def SameRel (w : World) (base t p g cap p' g' cap' n : Nat) (f : Nat → Int) (i : Value) (wr : World) : Prop :=
  ∃ (k : Nat) (c c' : Nat → Int) (v : Value) (xs : List AccV), k ≤ n ∧ i = .int .i64 k ∧ Tr wr base t p g n cap c f v xs ∧ xs.length ≤ 80 + k ∧ CB c (200 + k) ∧ CB c' (200 + k) ∧ Ar wr p' g' n cap' c' f ∧ Below w.heap.size w wr

set_option maxRecDepth 100000 in
set_option maxHeartbeats 16000000 in
theorem memReplays_main (a1 : Option Addr) (n cap1 : Nat) (f : Nat → Int) (a2 : Option Addr) (os : List AccV) (cap2 : Nat) (w : World) (h1 : (n : Int) ≤ 60) (h2 : (os.length : Int) ≤ 80) (hs1 : Nums w a1 n f) (hs2 : Ops w a2 os) :
    Calls Try.prog 4 #[.slice a1 n cap1, .slice a2 os.length cap2] w fun e w' => e = .returned (.bool true) ∧ Below w.heap.size w w' := by
  have HS1 := Lib.hid hs1; clear hs1
  have HS2 := Lib.hid hs2; clear hs2
  go_enter Try.func4, Try.ntmps4
  go_wp2_with fail
  refine (begun_any a1 n cap1 f _ (by omega) HS1.out).mono ?_; rintro e w1 ⟨p', g', cap', c', rfl, hp', hg', A1, m1, B1⟩
  go_wp2_with fail
  refine (over_any A1).mono ?_; rintro e w2 ⟨t, p, g, cap, rfl, hp, hg, ht, T2, B2⟩
  have A2 := A1.below B2 (Nat.le_refl _)
  have lp := A1.p_lt
  have lg := A1.g_lt
  have K2 := keepB B1 B2
  have s1 := B1.size
  clear A1 B1 B2
  go_wp2_with fail
  go_loopw [34] (fun i wr => PlayRel w w1.heap.size t p g cap p' g' cap' n c' f os i wr) (fun i _ => os.length - (intOf i).toNat)
  case atStart => exact ⟨0, _, _, Nat.zero_le _, rfl, T2, m1, A2, K2⟩
  case round =>
    clear T2 A2 K2
    obtain ⟨k, c, v, hk, rfl, T, hm, A, B⟩ := hrel
    by_cases hlt : k < os.length
    · obtain ⟨b, off, rfl, hcells⟩ := HS2.out.acc (by intro h; rw [h] at hlt; exact absurd hlt (Nat.not_lt_zero _))
      obtain ⟨x, hxk⟩ : ∃ x, os[k]? = some x := ⟨_, List.getElem?_eq_getElem hlt⟩
      obtain ⟨x0, x1, x2⟩ := hcells k x hxk
      have hfx := Lib.hid (HS2.out.fit x (List.mem_of_getElem? hxk))
      clear hcells
      have y0 := cell_later B x0
      have y1 := cell_later B x1
      have y2 := cell_later B x2
      clear x0 x1 x2
      have HT : Hid (playT n f (os.take (k + 1)) = stT n (playT n f (os.take k)) x) := playT_take n f os hxk
      have hlen := (playT_inv n f (os.take k)).2.2.1
      rw [List.length_take] at hlen
      have hlen' : (playT n f (os.take k)).2.length ≤ 80 := by omega
      clear hlen hxk
      obtain ⟨⟨F, xs⟩, hFx⟩ : ∃ y, playT n f (os.take k) = y := ⟨_, rfl⟩
      rw [hFx] at T hlen'
      have HF := Lib.hid hFx; clear hFx
      simp only at T hlen'
      have T0 := T.alloc (.cells #[.bool x.s, .int .i64 x.c, .int .u64 x.v] 34)
      have A0 := A.alloc (.cells #[.bool x.s, .int .i64 x.c, .int .u64 x.v] 34)
      have B0 := B.alloc B.size (.cells #[.bool x.s, .int .i64 x.c, .int .u64 x.v] 34)
      clear T A B
      by_cases hs : x.s = true
      · have HSX := Lib.hid hs
        rw [hs] at y0 T0 A0 B0
        clear hs
        go_wp2_with fail
        refine (tstore_st T0 HSX.out hfx.out hm (by omega) (by omega)).mono ?_; rintro e w3 ⟨c3, v3, rfl, T3, m3, O3, _⟩
        have A3 := A0.onlyT T0 O3 (by omega) (by omega)
        have B3 : Below w.heap.size w w3 := O3.below B0 B0.size (by omega) (by omega) (by omega) (by intro i hi; have := (T0.row.lt i hi).1; omega)
        have HR : Hid (PlayRel w w1.heap.size t p g cap p' g' cap' n c' f os (.int .i64 ((k : Int) + 1)) w3) := ⟨k + 1, c3, v3, by omega, by go_num, by rw [HT.out, HF.out]; exact T3, m3.more (by omega), A3, B3⟩
        clear T0 A0 B0 T3 A3 B3 O3 m3
        go_wp2_with fail
        exact ⟨HR.out, by simp [intOf]; omega⟩
      · have hs' : x.s = false := by simpa using hs
        have HSX := Lib.hid hs'
        rw [hs'] at y0 T0 A0 B0
        clear hs hs'
        go_wp2_with fail
        refine (tload_st T0 HSX.out hm (by omega) (by omega)).mono ?_; rintro e w3 ⟨c3, v3, rfl, T3, m3, O3, _⟩
        have A3 := A0.onlyT T0 O3 (by omega) (by omega)
        have B3 : Below w.heap.size w w3 := O3.below B0 B0.size (by omega) (by omega) (by omega) (by intro i hi; have := (T0.row.lt i hi).1; omega)
        have HR : Hid (PlayRel w w1.heap.size t p g cap p' g' cap' n c' f os (.int .i64 ((k : Int) + 1)) w3) := ⟨k + 1, c3, v3, by omega, by go_num, by rw [HT.out, HF.out]; exact T3, m3.more (by omega), A3, B3⟩
        clear T0 A0 B0 T3 A3 B3 O3 m3
        go_wp2_with fail
        exact ⟨HR.out, by simp [intOf]; omega⟩
    · have hkl : k = os.length := by omega
      subst hkl
      rw [List.take_length] at T
      obtain ⟨i1, i2, i3, _⟩ := playT_inv n f os
      have i4 := playT_fit n f os HS2.out.fit
      obtain ⟨⟨F, xs⟩, hFx⟩ : ∃ y, playT n f os = y := ⟨_, rfl⟩
      rw [hFx] at T i1 i2 i3 i4
      clear hFx
      simp only at T i1 i2 i3 i4
      have I1 := Lib.hid i1; clear i1
      have I2 := Lib.hid i2; clear i2
      have I4 := Lib.hid i4; clear i4
      go_wp2_with fail
      refine (row_any T (by omega)).mono ?_; rintro e w3 ⟨v9, rfl, R3, B3⟩
      obtain ⟨a9, cp9, rfl⟩ := R3.slice
      have T3 := T.below B3 (Nat.le_refl _)
      have A3 := A.below B3 (Nat.le_refl _)
      have K3 := keepB B B3
      clear T A B B3
      go_wp2_with fail
      refine (of_any _ _).mono ?_; rintro e w4 ⟨rfl, B4⟩
      have T4 := T3.below B4 (Nat.le_refl _)
      have A4 := A3.below B4 (Nat.le_refl _)
      have R4 : RowA w4 wr.heap.size (.slice a9 xs.length cp9) xs := R3.kept_of fun i hi => B4.block i (R3.lt i hi).2
      have K4 := keepB K3 B4
      clear T3 A3 R3 K3 B4
      go_wp2_with fail
      refine (replay_all _ _ A4 m1 (by omega) (by omega) (isAcc_row R4 A4) I4.out I1.out).mono ?_; rintro e w5 ⟨c5, rfl, A5, m5, O5⟩
      have T5 := T4.only A4 O5 (by omega) (by omega)
      have K5 : Below w.heap.size w w5 := O5.below K4 K4.size (by omega) (by omega)
      rw [I2.out] at A5
      have m5' := m5.more (m' := 200 + 0) (by omega)
      have hm' := hm.more (m' := 200 + 0) (by omega)
      clear T4 A4 R4 K4 O5 m5 hm
      go_wp2_with fail
      go_loopw [71] (fun i wr => SameRel w w1.heap.size t p g cap p' g' cap' n F i wr) (fun i _ => n - (intOf i).toNat)
      case atStart => exact ⟨0, _, _, _, xs, Nat.zero_le _, rfl, T5, by omega, hm', m5', A5, K5⟩
      case round =>
        clear T5 A5 K5 hm' m5'
        obtain ⟨k, c, c', v, xs', hk, rfl, T, hl, hm, hm', A, B⟩ := hrel
        by_cases hlt : k < n
        · go_wp2_with fail
          refine (load_yes A hlt hm' (by omega)).mono ?_; rintro e w6 ⟨rfl, A6, O6⟩
          have T6 := T.only A O6 (by omega) (by omega)
          have K6 : Below w.heap.size w w6 := O6.below B B.size (by omega) (by omega)
          clear A T B O6
          go_wp2_with fail
          refine (tload_yes T6 hlt hm (by omega) (by omega)).mono ?_; rintro e w7 ⟨c7, v7, rfl, T7, m7, O7, _⟩
          have A7 := A6.onlyT T6 O7 (by omega) (by omega)
          have K7 : Below w.heap.size w w7 := O7.below K6 K6.size (by omega) (by omega) (by omega) (by intro i hi; have := (T6.row.lt i hi).1; omega)
          have HR : Hid (SameRel w w1.heap.size t p g cap p' g' cap' n F (.int .i64 ((k : Int) + 1)) w7) := ⟨k + 1, c7, _, v7, _, by omega, by go_num, T7, by simp; omega, m7, hm'.upd 0, A7, K7⟩
          have e1 : (F k != F k) = false := by simp
          clear A6 T6 K6 O7 T7 A7 K7 m7 hm hm'
          go_wp2_with fail
          exact ⟨HR.out, by simp [intOf]; omega⟩
        · clear T A
          have HB := Lib.hid B; clear B
          go_wp2_with fail
          refine (awake_any _).mono ?_; rintro e w8 ⟨rfl, B8⟩
          go_wp2_with fail
          go_ret
          exact ⟨rfl, keepB HB.out B8⟩

theorem memReplays_walk (a1 : Option Addr) (n cap1 : Nat) (f : Nat → Int) (a2 : Option Addr) (os : List AccV) (cap2 : Nat) (w : World) (s1 : Nums w a1 n f) (s2 : Ops w a2 os) :
    Calls Try.prog 4 #[.slice a1 n cap1, .slice a2 os.length cap2] w fun e w' => e = .returned (.bool true) ∧ Below w.heap.size w w' := by
  by_cases h : (60 : Int) < (n : Int) ∨ (80 : Int) < (os.length : Int)
  · exact memReplays_out a1 n cap1 a2 os.length cap2 w h
  · exact memReplays_main a1 n cap1 f a2 os cap2 w (by omega) (by omega) s1 s2
end Go.Proofs.Ytjnnohajmblfkaa
