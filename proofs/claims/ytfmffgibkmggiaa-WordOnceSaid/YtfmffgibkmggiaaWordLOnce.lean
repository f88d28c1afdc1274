/- Walk of WordOnce. -/
import Derived.Test.YtfmffgibkmggiaaWordG
import Derived.WalkSpells
namespace Go.Proofs.Ytfmffgibkmggiaa
open Go.RowKit

/-- What the walk is told of a slice of integers that came in. -/
def IsRow (k : IntKind) (w : World) (a : Option Addr) (len cap : Nat) (zs : List Int) : Prop :=
  (a = none ∧ len = 0 ∧ cap = 0 ∧ zs = []) ∨
  ∃ x, a = some x ∧ len ≤ cap ∧ cap ≤ maxLen ∧ zs.length = cap ∧ (∀ i, i < zs.length → w.cell? (x.add i) = some (.int k (zs.getD i 0))) ∧ ∀ n ∈ zs, (Lit.int k n).wf = true

theorem meansW_new {o n th tg z : Int} (hR : rightW o n th tg = true) (h : th = 0 ∨ 2 * tg + 1 ≤ z) : meansW o n th tg (z / 2) (z % 2 == 1) = n := by
  unfold meansW
  rw [hR, if_pos]
  simp
  omega
theorem meansW_old {o n th tg z : Int} (h : ¬ (th = 0 ∨ 2 * tg + 1 ≤ z)) : meansW o n th tg (z / 2) (z % 2 == 1) = o := by
  unfold meansW
  rw [if_neg]
  simp
  omega

set_option maxHeartbeats 4000000 in
theorem wordOnce_no (o n th tg : Int) (a : Option Addr) (len cap : Nat) (w : World) (hR : rightW o n th tg = false) :
    Calls Try.prog 7 #[vW o n th tg, .slice a len cap] w fun e w' => e = .returned (.bool true) ∧ Below w.heap.size w w' := by
  have HR := Lib.hid hR; clear hR
  go_enter Try.func7, Try.ntmps7
  go_wp2_with fail
  refine (ref_any _ _ _ _ _).mono ?_; rintro e w1 ⟨rfl, hb1⟩; obtain ⟨hc1, hf1⟩ := bcell hb1
  go_wp2_with fail
  refine (rright_any _ _ _ _ _).mono ?_; rintro e w2 ⟨rfl, hb2⟩; rw [HR.out]
  go_wp2_with fail
  refine (awake_any _).mono ?_; rintro e w3 ⟨rfl, hb3⟩
  go_wp2_with fail
  go_ret
  exact ⟨rfl, keepB (keepB (keepB ((Below.refl _ _).alloc (Nat.le_refl _) _) hb1) hb2) hb3⟩

set_option maxHeartbeats 4000000 in
theorem wordOnce_long (o n th tg : Int) (a : Option Addr) (len cap : Nat) (w : World) (hR : rightW o n th tg = true) (h60 : (60 : Int) < (len : Int)) :
    Calls Try.prog 7 #[vW o n th tg, .slice a len cap] w fun e w' => e = .returned (.bool true) ∧ Below w.heap.size w w' := by
  have HR := Lib.hid hR; clear hR
  go_enter Try.func7, Try.ntmps7
  go_wp2_with fail
  refine (ref_any _ _ _ _ _).mono ?_; rintro e w1 ⟨rfl, hb1⟩; obtain ⟨hc1, hf1⟩ := bcell hb1
  go_wp2_with fail
  refine (rright_any _ _ _ _ _).mono ?_; rintro e w2 ⟨rfl, hb2⟩; rw [HR.out]
  go_wp2_with fail
  refine (awake_any _).mono ?_; rintro e w3 ⟨rfl, hb3⟩
  go_wp2_with fail
  go_ret
  exact ⟨rfl, keepB (keepB (keepB ((Below.refl _ _).alloc (Nat.le_refl _) _) hb1) hb2) hb3⟩

theorem isRow_at {w : World} {a : Option Addr} {len cap : Nat} {zs : List Int} (h : IsRow .i64 w a len cap zs) {k : Nat} (hk : k < len) :
    ∃ (b off : Nat) (z : Int), a = some ⟨b, off, none⟩ ∧ w.cell? ⟨b, off + k, none⟩ = some (.int .i64 z) ∧ -9223372036854775808 ≤ z ∧ z ≤ 9223372036854775807 := by
  rcases h with ⟨_, h0, _⟩ | ⟨x, rfl, hl, _, hz, hcell, hwz⟩
  · omega
  · obtain ⟨b, off, spot⟩ := x
    have hc := hcell k (by omega)
    have hc0 := hcell 0 (by omega)
    have hspot : spot = none := by simpa [Addr.add] using World.cell?_spot hc0
    subst hspot
    have r := range_i64 hwz k
    have e : (Addr.add ⟨b, off, none⟩ k) = ⟨b, off + k, none⟩ := by
      unfold Addr.add
      split
      · rename_i h; subst h; rfl
      · rfl
    rw [e] at hc
    refine ⟨b, off, zs.getD k 0, rfl, hc, ?_, ?_⟩
    · simpa using r.1
    · simpa using r.2

/-- What holds at each round's head. -/
def OnceRel (o n th tg : Int) (len : Nat) (w : World) (last seen i : Value) (wr : World) : Prop :=
  ∃ (k : Nat) (l : Int) (s : Bool), k ≤ len ∧ i = .int .i64 k ∧ last = .int .i64 l ∧ seen = .bool s ∧ -1 ≤ l ∧ l ≤ 33554431 ∧ (s = true → th = 0 ∨ 2 * tg + 1 ≤ l) ∧ Below w.heap.size w wr ∧
    wr.cell? ⟨w.heap.size, 0, none⟩ = some (.int .i64 o) ∧ wr.cell? ⟨w.heap.size, 1, none⟩ = some (.int .i64 n) ∧ wr.cell? ⟨w.heap.size, 2, none⟩ = some (.int .i64 th) ∧ wr.cell? ⟨w.heap.size, 3, none⟩ = some (.int .i64 tg)

set_option maxRecDepth 100000 in
set_option maxHeartbeats 8000000 in
theorem wordOnce_main (o n th tg : Int) (a : Option Addr) (len cap : Nat) (zs : List Int) (w : World) (hR : rightW o n th tg = true) (h60 : (len : Int) ≤ 60) (hs : IsRow .i64 w a len cap zs) :
    Calls Try.prog 7 #[vW o n th tg, .slice a len cap] w fun e w' => e = .returned (.bool true) ∧ Below w.heap.size w w' := by
  have HR := Lib.hid hR
  have HBD := Lib.hid (right_bd hR); clear hR
  have HS := Lib.hid hs; clear hs
  go_enter Try.func7, Try.ntmps7
  go_wp2_with fail
  refine (ref_any _ _ _ _ _).mono ?_; rintro e w1 ⟨rfl, hb1⟩; obtain ⟨hc1, hf1⟩ := bcell hb1
  have hz1 : w.heap.size < w1.heap.size := by have := hb1.size; simp at this; omega
  go_wp2_with fail
  refine (rright_any _ _ _ _ _).mono ?_; rintro e w2 ⟨rfl, hb2⟩; rw [HR.out]; obtain ⟨hc2, hf2⟩ := bcell hb2
  go_wp2_with fail
  have B2 : Below w.heap.size w w2 := keepB (keepB ((Below.refl _ _).alloc (Nat.le_refl _) _) hb1) hb2
  have a0 : w2.cell? ⟨w.heap.size, 0, none⟩ = some (.int .i64 o) := by simp [*, go_sem]
  have a1 : w2.cell? ⟨w.heap.size, 1, none⟩ = some (.int .i64 n) := by simp [*, go_sem]
  have a2 : w2.cell? ⟨w.heap.size, 2, none⟩ = some (.int .i64 th) := by simp [*, go_sem]
  have a3 : w2.cell? ⟨w.heap.size, 3, none⟩ = some (.int .i64 tg) := by simp [*, go_sem]
  clear hc1 hc2 hf1 hf2 hb1 hb2 hz1
  go_loopw [5, 6, 22] (fun last seen i wr => OnceRel o n th tg len w last seen i wr) (fun _ _ i _ => len - (intOf i).toNat)
  case atStart => exact ⟨0, -1, false, Nat.zero_le _, rfl, rfl, rfl, by omega, by omega, (fun h => by cases h), B2, a0, a1, a2, a3⟩
  case round =>
    clear B2 a0 a1 a2 a3
    obtain ⟨k, l, s, hk, rfl, rfl, rfl, hl1, hl2, hsn, hB, a0, a1, a2, a3⟩ := hrel
    have HN := Lib.hid hsn; clear hsn
    by_cases hlt : k < len
    · obtain ⟨b, off, z, rfl, hcz, hz1, hz2⟩ := isRow_at HS.out hlt
      have hcw : wr.cell? ⟨b, off + k, none⟩ = some (.int .i64 z) := cell_later hB hcz
      have hy : w.heap.size < wr.heap.size := World.block_lt_of_cell? _ _ a0
      clear hcz
      by_cases c1 : z < 0
      · go_wp2_with fail
        exact ⟨⟨k + 1, l, s, by omega, by go_num, rfl, rfl, by omega, by omega, HN.out, hB, a0, a1, a2, a3⟩, by simp [intOf]; omega⟩
      · by_cases c2 : 33554431 < z
        · go_wp2_with fail
          exact ⟨⟨k + 1, l, s, by omega, by go_num, rfl, rfl, by omega, by omega, HN.out, hB, a0, a1, a2, a3⟩, by simp [intOf]; omega⟩
        · by_cases c3 : z < l
          · go_wp2_with fail
            exact ⟨⟨k + 1, l, s, by omega, by go_num, rfl, rfl, by omega, by omega, HN.out, hB, a0, a1, a2, a3⟩, by simp [intOf]; omega⟩
          · by_cases hA : tg < z / 2
            · have HC := Lib.hid (show th = 0 ∨ 2 * tg + 1 ≤ z by omega)
              have HM := Lib.hid (meansW_new HR.out HC.out); have HM2 := HM
              cases s
              · go_wp2_with (go_at_call 22; refine (means_any _ _ _ _ _ _ _).mono ?_; rintro e w1 ⟨rfl, hb1⟩; (first | rw [HM.out] | rw [HM2.out]); have b0 := cell_later hb1 a0; have b1 := cell_later hb1 a1; have b2 := cell_later hb1 a2; have b3 := cell_later hb1 a3)
                exact ⟨⟨k + 1, z, true, by omega, by go_num, rfl, rfl, by omega, by omega, (fun _ => HC.out), keepB hB hb1, b0, b1, b2, b3⟩, by simp [intOf]; omega⟩
              · go_wp2_with (go_at_call 22; refine (means_any _ _ _ _ _ _ _).mono ?_; rintro e w1 ⟨rfl, hb1⟩; (first | rw [HM.out] | rw [HM2.out]); have b0 := cell_later hb1 a0; have b1 := cell_later hb1 a1; have b2 := cell_later hb1 a2; have b3 := cell_later hb1 a3)
                exact ⟨⟨k + 1, z, true, by omega, by go_num, rfl, rfl, by omega, by omega, (fun _ => HC.out), keepB hB hb1, b0, b1, b2, b3⟩, by simp [intOf]; omega⟩
            · by_cases hB1 : z / 2 < tg
              · by_cases h0 : th = 0
                · have HC := Lib.hid (show th = 0 ∨ 2 * tg + 1 ≤ z from Or.inl h0)
                  have HM := Lib.hid (meansW_new HR.out HC.out); have HM2 := HM
                  have e0 : (th == 0) = true := beq_iff_eq.2 h0
                  clear h0
                  cases s
                  · go_wp2_with (go_at_call 22; refine (means_any _ _ _ _ _ _ _).mono ?_; rintro e w1 ⟨rfl, hb1⟩; (first | rw [HM.out] | rw [HM2.out]); have b0 := cell_later hb1 a0; have b1 := cell_later hb1 a1; have b2 := cell_later hb1 a2; have b3 := cell_later hb1 a3)
                    exact ⟨⟨k + 1, z, true, by omega, by go_num, rfl, rfl, by omega, by omega, (fun _ => HC.out), keepB hB hb1, b0, b1, b2, b3⟩, by simp [intOf]; omega⟩
                  · go_wp2_with (go_at_call 22; refine (means_any _ _ _ _ _ _ _).mono ?_; rintro e w1 ⟨rfl, hb1⟩; (first | rw [HM.out] | rw [HM2.out]); have b0 := cell_later hb1 a0; have b1 := cell_later hb1 a1; have b2 := cell_later hb1 a2; have b3 := cell_later hb1 a3)
                    exact ⟨⟨k + 1, z, true, by omega, by go_num, rfl, rfl, by omega, by omega, (fun _ => HC.out), keepB hB hb1, b0, b1, b2, b3⟩, by simp [intOf]; omega⟩
                · have hD : ¬ (th = 0 ∨ 2 * tg + 1 ≤ z) := by omega
                  have HM := Lib.hid (meansW_old (o := o) (n := n) hD); have HM2 := HM
                  have e0 : (th == 0) = false := beq_eq_false_iff_ne.2 h0
                  have HD := Lib.hid hD; clear hD h0
                  cases s
                  · go_wp2_with (go_at_call 22; refine (means_any _ _ _ _ _ _ _).mono ?_; rintro e w1 ⟨rfl, hb1⟩; (first | rw [HM.out] | rw [HM2.out]); have b0 := cell_later hb1 a0; have b1 := cell_later hb1 a1; have b2 := cell_later hb1 a2; have b3 := cell_later hb1 a3)
                    exact ⟨⟨k + 1, z, false, by omega, by go_num, rfl, rfl, by omega, by omega, (fun h => by cases h), keepB hB hb1, b0, b1, b2, b3⟩, by simp [intOf]; omega⟩
                  · exfalso; have := HN.out rfl; have := HD.out; omega
              · have q1 : z / 2 ≤ tg := by omega
                have q2 : tg ≤ z / 2 := by omega
                have q3 : (z / 2 == tg) = true := beq_iff_eq.2 (by omega)
                by_cases h2 : z % 2 = 1
                · have e2 : (z % 2 == 1) = true := beq_iff_eq.2 h2
                  have HC := Lib.hid (show th = 0 ∨ 2 * tg + 1 ≤ z by omega)
                  have HM := Lib.hid (meansW_new HR.out HC.out); have hm2 := HM.out
                  rw [e2] at hm2
                  have HM2 := Lib.hid hm2
                  clear h2 hm2
                  cases s
                  · go_wp2_with (go_at_call 22; refine (means_any _ _ _ _ _ _ _).mono ?_; rintro e w1 ⟨rfl, hb1⟩; (first | rw [HM.out] | rw [HM2.out]); have b0 := cell_later hb1 a0; have b1 := cell_later hb1 a1; have b2 := cell_later hb1 a2; have b3 := cell_later hb1 a3)
                    exact ⟨⟨k + 1, z, true, by omega, by go_num, rfl, rfl, by omega, by omega, (fun _ => HC.out), keepB hB hb1, b0, b1, b2, b3⟩, by simp [intOf]; omega⟩
                  · go_wp2_with (go_at_call 22; refine (means_any _ _ _ _ _ _ _).mono ?_; rintro e w1 ⟨rfl, hb1⟩; (first | rw [HM.out] | rw [HM2.out]); have b0 := cell_later hb1 a0; have b1 := cell_later hb1 a1; have b2 := cell_later hb1 a2; have b3 := cell_later hb1 a3)
                    exact ⟨⟨k + 1, z, true, by omega, by go_num, rfl, rfl, by omega, by omega, (fun _ => HC.out), keepB hB hb1, b0, b1, b2, b3⟩, by simp [intOf]; omega⟩
                · have e2 : (z % 2 == 1) = false := beq_eq_false_iff_ne.2 h2
                  by_cases h0 : th = 0
                  · have HC := Lib.hid (show th = 0 ∨ 2 * tg + 1 ≤ z from Or.inl h0)
                    have HM := Lib.hid (meansW_new HR.out HC.out); have hm2 := HM.out
                    rw [e2] at hm2
                    have HM2 := Lib.hid hm2
                    have e0 : (th == 0) = true := beq_iff_eq.2 h0
                    clear h2 h0 hm2
                    cases s
                    · go_wp2_with (go_at_call 22; refine (means_any _ _ _ _ _ _ _).mono ?_; rintro e w1 ⟨rfl, hb1⟩; (first | rw [HM.out] | rw [HM2.out]); have b0 := cell_later hb1 a0; have b1 := cell_later hb1 a1; have b2 := cell_later hb1 a2; have b3 := cell_later hb1 a3)
                      exact ⟨⟨k + 1, z, true, by omega, by go_num, rfl, rfl, by omega, by omega, (fun _ => HC.out), keepB hB hb1, b0, b1, b2, b3⟩, by simp [intOf]; omega⟩
                    · go_wp2_with (go_at_call 22; refine (means_any _ _ _ _ _ _ _).mono ?_; rintro e w1 ⟨rfl, hb1⟩; (first | rw [HM.out] | rw [HM2.out]); have b0 := cell_later hb1 a0; have b1 := cell_later hb1 a1; have b2 := cell_later hb1 a2; have b3 := cell_later hb1 a3)
                      exact ⟨⟨k + 1, z, true, by omega, by go_num, rfl, rfl, by omega, by omega, (fun _ => HC.out), keepB hB hb1, b0, b1, b2, b3⟩, by simp [intOf]; omega⟩
                  · have hD : ¬ (th = 0 ∨ 2 * tg + 1 ≤ z) := by omega
                    have HM := Lib.hid (meansW_old (o := o) (n := n) hD); have hm2 := HM.out
                    rw [e2] at hm2
                    have HM2 := Lib.hid hm2
                    have e0 : (th == 0) = false := beq_eq_false_iff_ne.2 h0
                    have HD := Lib.hid hD; clear hD h2 h0 hm2
                    cases s
                    · go_wp2_with (go_at_call 22; refine (means_any _ _ _ _ _ _ _).mono ?_; rintro e w1 ⟨rfl, hb1⟩; (first | rw [HM.out] | rw [HM2.out]); have b0 := cell_later hb1 a0; have b1 := cell_later hb1 a1; have b2 := cell_later hb1 a2; have b3 := cell_later hb1 a3)
                      exact ⟨⟨k + 1, z, false, by omega, by go_num, rfl, rfl, by omega, by omega, (fun h => by cases h), keepB hB hb1, b0, b1, b2, b3⟩, by simp [intOf]; omega⟩
                    · exfalso; have := HN.out rfl; have := HD.out; omega
    · go_wp2_with (go_at_call 14; refine (awake_any _).mono ?_; rintro e w9 ⟨rfl, hb9⟩)
      go_ret
      exact ⟨rfl, keepB hB hb9⟩

theorem wordOnce_walk (o n th tg : Int) (a : Option Addr) (len cap : Nat) (zs : List Int) (w : World) (hs : IsRow .i64 w a len cap zs) :
    Calls Try.prog 7 #[vW o n th tg, .slice a len cap] w fun e w' => e = .returned (.bool true) ∧ Below w.heap.size w w' := by
  cases hR : rightW o n th tg
  · exact wordOnce_no o n th tg a len cap w hR
  · by_cases h60 : (60 : Int) < (len : Int)
    · exact wordOnce_long o n th tg a len cap w hR h60
    · exact wordOnce_main o n th tg a len cap zs w hR (by omega) hs
end Go.Proofs.Ytfmffgibkmggiaa
