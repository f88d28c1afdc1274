/- The contract of the fixed answer. -/
import Derived.Test.YtjnnohajmblfkaaTrH
namespace Go.Proofs.Ytjnnohajmblfkaa
open Go.RowKit

def aw1 : List AccV := [⟨true, 0, 5⟩, ⟨false, 0, 5⟩]
def aw2 : List AccV := [⟨false, 0, 5⟩, ⟨false, 1, 5⟩]

theorem aw1_good : GoodL 2 zeroF aw1 := by
  intro k x hx
  match k, hx with
  | 0, hx => simp [aw1] at hx; subst hx; rfl
  | 1, hx => simp [aw1] at hx; subst hx; rfl
  | k + 2, hx => simp [aw1] at hx
theorem aw1_play : playL 2 zeroF aw1 = upd zeroF 0 5 := by
  simp [aw1, playL, stepF]

theorem aw1_changed : (risen (storedOf aw1)).length = 1 := by
  have h1 := mem_risen (storedOf aw1)
  have h2 := risen_rises (storedOf aw1)
  have h3 := risen_length (storedOf aw1)
  have e : storedOf aw1 = [0] := rfl
  rw [e] at h1 h2 h3 ⊢
  have h4 := (h1 0).2 (by simp)
  have h5 : 0 < (risen [0]).length := List.length_pos_of_mem h4
  simp at h3
  omega

theorem aw2_replay {p g cap m : Nat} {c : Nat → Int} {w : World} (a : Option Addr) (cp : Nat) (A : Ar w p g 2 cap c (upd zeroF 0 5)) (hm : CB c m) (hb : m ≤ 100000) (hx : ∀ w', Only p g w w' → IsAcc w' a aw2) :
    Calls Try.prog 16 #[.iface 47 (plainV p), .slice a 2 cp] w fun e w' => e = .returned (.tuple #[.int .i64 1, .bool false]) ∧ Only p g w w' := by
  refine (replay_any (xs := aw2) a cp A hm hb (by decide) hx (by intro x hx hs; simp [aw2] at hx; rcases hx with rfl | rfl <;> simp at hs)).mono ?_
  rintro e w' ⟨k, c', hk, rfl, _, _, O', hok, hbad⟩
  have k1 : k = 1 := by
    match k, hk with
    | 0, _ => have := hbad ⟨false, 0, 5⟩ rfl; exact absurd this (by decide)
    | 1, _ => rfl
    | 2, _ => have := hok 1 ⟨false, 1, 5⟩ (by omega) rfl; exact absurd this (by decide)
    | k + 3, h => simp [aw2] at h
  subst k1
  exact ⟨rfl, O'⟩

theorem isAcc_two {W : World} {b : Nat} {xs : List AccV} (h : ∀ k x, xs[k]? = some x → W.cell? ⟨b, k * 3, none⟩ = some (.bool x.s) ∧ W.cell? ⟨b, k * 3 + 1, none⟩ = some (.int .i64 x.c) ∧ W.cell? ⟨b, k * 3 + 2, none⟩ = some (.int .u64 x.v)) : IsAcc W (some ⟨b, 0, none⟩) xs :=
  fun _ => ⟨b, 0, rfl, fun k x hx => by have := h k x hx; simpa using this⟩

set_option maxRecDepth 100000 in
set_option maxHeartbeats 4000000 in
theorem awake_any (w : World) : Calls Try.prog 7 #[] w fun e w' => e = .returned (.bool true) ∧ Below w.heap.size w w' := by
  go_enter Try.func7, Try.ntmps7
  go_wp2_with fail
  refine (new_yes 2 _ (by omega)).mono ?_; rintro e w1 ⟨rfl, A1, B1⟩
  go_wp2_with fail
  refine (over_any A1).mono ?_; rintro e w2 ⟨t, p, g, cap, rfl, hp, hg, ht, T2, B2⟩
  have A2 := A1.below B2 (Nat.le_refl _)
  have hpa := A1.p_lt
  have hga := A1.g_lt
  have K2 := keepB B1 B2
  have hz := B1.size
  clear A1 B1 B2
  go_wp2_with fail
  refine (tstore_yes T2 (k := 0) (x := 5) (by omega) (by omega) (by omega) few0 (by omega) (by simp)).mono ?_; rintro e w3 ⟨c3, v3, rfl, T3, m3, O3, hv3⟩
  have A3 := A2.onlyT T2 O3 (by omega) (by omega)
  have K3 : Below w.heap.size w w3 := O3.below K2 K2.size (by omega) (by omega) (by omega) (by intro i hi; cases hi)
  have s3 := O3.size
  clear T2 A2 K2 O3
  go_wp2_with fail
  refine (tload_yes T3 (k := 0) (by omega) m3 (by omega) (by simp)).mono ?_; rintro e w4 ⟨c4, v4, he, T4, m4, O4, hv4⟩
  have A4 := A3.onlyT T3 O4 (by omega) (by omega)
  have K4 : Below w.heap.size w w4 := O4.below K3 K3.size (by omega) (by omega) (by omega) (by intro i hi; have := (T3.row.lt i hi).1; omega)
  have s4 := O4.size
  have e5 : upd zeroF 0 5 0 = 5 := rfl
  rw [e5] at he T4
  subst he
  clear T3 A3 K3 O4
  have T4' : Tr w4 w1.heap.size t p g 2 cap c4 (upd zeroF 0 5) v4 aw1 := T4
  clear T4
  go_wp2_with fail
  refine (load_yes A4 (k := 0) (by omega) few0 (by omega)).mono ?_; rintro e w5 ⟨he, A5, O5⟩
  have e0 : zeroF 0 = 0 := rfl
  rw [e0] at he
  subst he
  have T5 := T4'.only A4 O5 (by omega) (by omega)
  have K5 : Below w.heap.size w w5 := O5.below K4 K4.size (by omega) (by omega)
  have s5 := O5.size
  clear T4' A4 K4 O5
  go_wp2_with fail
  refine (row_any T5 (by decide)).mono ?_; rintro e w6 ⟨v6, rfl, R6, B6⟩
  have T6 := T5.below B6 (Nat.le_refl _)
  have A6 := A5.below B6 (Nat.le_refl _)
  have K6 := keepB K5 B6
  have s6 := B6.size
  have hr6 := R6.shape
  clear T5 A5 K5 B6
  rcases hr6 with ⟨_, h⟩ | ⟨r, rc, rs, hv6, hr, hrb, _, _, hcs⟩
  · simp [aw1] at h
  rw [show aw1.length = 2 from rfl] at hv6
  subst hv6
  go_wp2_with fail
  refine (of_any _ _).mono ?_; rintro e w7 ⟨rfl, B7⟩
  have T7 := T6.below B7 (Nat.le_refl _)
  have A7 := A6.below B7 (Nat.le_refl _)
  have K7 := keepB K6 B7
  have R7 : RowA w7 w5.heap.size (.slice (some ⟨r, 0, none⟩) 2 rc) aw1 := R6.kept_of fun i hi => B7.block i (R6.lt i hi).2
  have hrb7 := hrb.below B7 hrb.lt
  have s7 := B7.size
  clear T6 A6 K6 R6 hrb B7
  go_wp2_with fail
  refine (replay_all (xs := aw1) _ rc A7 (few0.upd 0) (by omega) (by decide) (isAcc_row R7 A7) (by intro x hx hs; simp [aw1] at hx; rcases hx with rfl | rfl <;> simp [AccV.fit]) aw1_good).mono ?_
  rintro e w8 ⟨c8, rfl, A8, m8, O8⟩
  have T8 := T7.only A7 O8 (by omega) (by omega)
  have K8 : Below w.heap.size w w8 := O8.below K7 K7.size (by omega) (by omega)
  have hrb8 := hrb7.only O8 (hrb7.ne_ A7.own (by decide)) (by obtain ⟨zs, hz, _⟩ := A7.cells; exact hrb7.ne_ hz (by decide))
  have s8 := O8.size
  rw [aw1_play] at A8
  rw [show aw1.length = 2 from rfl] at m8 ⊢
  clear T7 A7 K7 R7 hrb7 O8
  go_wp2_with fail
  refine (of_any _ _).mono ?_; rintro e w9 ⟨rfl, B9⟩
  have T9 := T8.below B9 (Nat.le_refl _)
  have A9 := A8.below B9 (Nat.le_refl _)
  have K9 := keepB K8 B9
  have hrb9 := hrb8.below B9 hrb8.lt
  have s9 := B9.size
  clear T8 A8 K8 hrb8 B9
  go_wp2_with fail
  refine (pload_st A9 0 m8 (by omega)).mono ?_; rintro e w10 ⟨c10, he, A10, m10, O10⟩
  have e1 : readN 2 (upd zeroF 0 5) 0 = 5 := rfl
  rw [e1] at he
  subst he
  have T10 := T9.only A9 O10 (by omega) (by omega)
  have K10 : Below w.heap.size w w10 := O10.below K9 K9.size (by omega) (by omega)
  have hrb10 := hrb9.only O10 (hrb9.ne_ A9.own (by decide)) (by obtain ⟨zs, hz, _⟩ := A9.cells; exact hrb9.ne_ hz (by decide))
  have s10 := O10.size
  clear T9 A9 K9 hrb9 O10
  go_wp2_with fail
  refine (of_any _ _).mono ?_; rintro e w11 ⟨rfl, B11⟩
  have T11 := T10.below B11 (Nat.le_refl _)
  have A11 := A10.below B11 (Nat.le_refl _)
  have K11 := keepB K10 B11
  have hrb11 := hrb10.below B11 hrb10.lt
  have s11 := B11.size
  clear T10 A10 K10 hrb10 B11
  go_wp2_with fail
  have X12 := Blk.new w11 37 #[.bool false, .int .i64 0, .int .u64 5, .bool false, .int .i64 1, .int .u64 5]
  have A12 := A11.alloc (.cells #[.bool false, .int .i64 0, .int .u64 5, .bool false, .int .i64 1, .int .u64 5] 37)
  have T12 := T11.alloc (.cells #[.bool false, .int .i64 0, .int .u64 5, .bool false, .int .i64 1, .int .u64 5] 37)
  have K12 := K11.alloc K11.size (.cells #[.bool false, .int .i64 0, .int .u64 5, .bool false, .int .i64 1, .int .u64 5] 37)
  have hrb12 := hrb11.alloc (.cells #[.bool false, .int .i64 0, .int .u64 5, .bool false, .int .i64 1, .int .u64 5] 37)
  clear A11 T11 K11 hrb11
  generalize w11.alloc (.cells #[.bool false, .int .i64 0, .int .u64 5, .bool false, .int .i64 1, .int .u64 5] 37) = w12 at X12 A12 T12 K12 hrb12 ⊢
  generalize w11.heap.size = h12 at X12 ⊢
  refine (aw2_replay _ 2 A12 m10 (by omega) (fun w' ho => isAcc_two fun k x hx => ?_)).mono ?_
  · have hb' := X12.only ho (X12.ne_ A12.own (by decide)) (by obtain ⟨zs, hz, _⟩ := A12.cells; exact X12.ne_ hz (by decide))
    rw [hb'.cell, hb'.cell, hb'.cell]
    match k, hx with
    | 0, hx => simp [aw2] at hx; subst hx; exact ⟨rfl, rfl, rfl⟩
    | 1, hx => simp [aw2] at hx; subst hx; exact ⟨rfl, rfl, rfl⟩
    | k + 2, hx => simp [aw2] at hx
  rintro e w13 ⟨rfl, O13⟩
  have T13 := T12.only A12 O13 (by omega) (by omega)
  have K13 : Below w.heap.size w w13 := O13.below K12 K12.size (by omega) (by omega)
  have hrb13 := hrb12.only O13 (hrb12.ne_ A12.own (by decide)) (by obtain ⟨zs, hz, _⟩ := A12.cells; exact hrb12.ne_ hz (by decide))
  have q0 := hcs 0 _ rfl
  have z0 := (hrb13.cell 0).trans q0.1
  have z1 := (hrb13.cell 1).trans q0.2.1
  have z2 := (hrb13.cell 2).trans q0.2.2
  clear T12 K12 hrb12 O13 A12 X12 hcs q0 hrb13
  simp only at z0 z1 z2
  go_wp2_with fail
  refine (changed_any T13 (by decide)).mono ?_; rintro e w14 ⟨a14, cap14, rfl, _, B14⟩
  rw [aw1_changed]
  have K14 := keepB K13 B14
  clear T13 K13 B14
  go_wp2_with fail
  go_ret
  exact ⟨rfl, K14⟩
end Go.Proofs.Ytjnnohajmblfkaa
