/- Texts, rune by rune: what a text begins with, classes, rows. -/
import Derived.Test.YtboagdmjibdlhaaDoorValA
import Derived.Laws.RangeAny
namespace Go.Proofs.YtboagdmjibdlhaaDoor
open Go.RowKit

/-- A rune out of four bytes, and of which there are. -/
def decB (b0 b1 b2 b3 : Nat) (c1 c2 c3 : Bool) : Nat × Nat :=
  if b0 < 128 then (b0, 1)
  else if b0 / 32 == 6 && c1 then
    if (b0 % 32) * 64 + b1 % 64 ≥ 128 then ((b0 % 32) * 64 + b1 % 64, 2) else (65533, 1)
  else if b0 / 16 == 14 && c1 && c2 then
    if (b0 % 16) * 4096 + (b1 % 64) * 64 + b2 % 64 ≥ 2048 && Utf8.valid (((b0 % 16) * 4096 + (b1 % 64) * 64 + b2 % 64 : Nat) : Int) then ((b0 % 16) * 4096 + (b1 % 64) * 64 + b2 % 64, 3) else (65533, 1)
  else if b0 / 8 == 30 && c1 && c2 && c3 then
    if (b0 % 8) * 262144 + (b1 % 64) * 4096 + (b2 % 64) * 64 + b3 % 64 ≥ 65536 && Utf8.valid (((b0 % 8) * 262144 + (b1 % 64) * 4096 + (b2 % 64) * 64 + b3 % 64 : Nat) : Int) then ((b0 % 8) * 262144 + (b1 % 64) * 4096 + (b2 % 64) * 64 + b3 % 64, 4) else (65533, 1)
  else (65533, 1)

def atL (l : List UInt8) (k : Nat) : Nat := (l.getD k 0).toNat
def contL (l : List UInt8) (k : Nat) : Bool := decide (k < l.length) && (atL l k / 64 == 2)
/-- The rune that a text begins with, and how many bytes it has. -/
def decL (l : List UInt8) : Nat × Nat := decB (atL l 0) (atL l 1) (atL l 2) (atL l 3) (contL l 1) (contL l 2) (contL l 3)

theorem decode_eq (s : ByteArray) (i : Nat) : Utf8.decode s i = decL (s.data.toList.drop i) := by
  have hg : ∀ k, (s.get! (i + k)).toNat = atL (s.data.toList.drop i) k := by
    intro k
    show (s.data[i + k]!).toNat = _
    simp only [atL, List.getD_eq_getElem?_getD, List.getElem?_drop, Array.getElem?_toList]
    rw [getElem!_def]
    cases s.data[i + k]? <;> rfl
  have hc : ∀ k, decide (i + k < s.size) = decide (k < (s.data.toList.drop i).length) := by
    intro k
    have : (i + k < s.size) ↔ (k < (s.data.toList.drop i).length) := by
      rw [List.length_drop, Array.length_toList]; show (i + k < s.data.size) ↔ _; omega
    simp [this]
  unfold Utf8.decode decL decB contL
  simp only [hg, hc, Utf8.runeError]

theorem decB_one (b0 b1 b2 b3 : Nat) (c1 c2 c3 : Bool) (h : (decB b0 b1 b2 b3 c1 c2 c3).2 ≤ 1) : decB b0 b1 b2 b3 c1 c2 c3 = if b0 < 128 then (b0, 1) else (65533, 1) := by
  unfold decB at h ⊢
  repeat' split
  all_goals simp_all
theorem decB_c1 (b0 b1 b2 b3 : Nat) (c2 c3 : Bool) : decB b0 b1 b2 b3 false c2 c3 = if b0 < 128 then (b0, 1) else (65533, 1) := by
  simp [decB]
theorem decB_c2 (b0 b1 b2 b3 : Nat) (c1 c3 : Bool) : decB b0 b1 b2 b3 c1 false c3 = decB b0 b1 0 0 c1 false false := by
  simp [decB]
theorem decB_c3 (b0 b1 b2 b3 : Nat) (c1 c2 : Bool) : decB b0 b1 b2 b3 c1 c2 false = decB b0 b1 b2 0 c1 c2 false := by
  simp [decB]
theorem decB_two (b0 b1 b2 b3 : Nat) (c1 c2 c3 : Bool) (h : (decB b0 b1 b2 b3 c1 c2 c3).2 ≤ 2) : decB b0 b1 b2 b3 c1 c2 c3 = decB b0 b1 0 0 c1 false false := by
  unfold decB at h ⊢
  repeat' split
  all_goals simp_all
theorem decB_three (b0 b1 b2 b3 : Nat) (c1 c2 c3 : Bool) (h : (decB b0 b1 b2 b3 c1 c2 c3).2 ≤ 3) : decB b0 b1 b2 b3 c1 c2 c3 = decB b0 b1 b2 0 c1 c2 false := by
  unfold decB at h ⊢
  repeat' split
  all_goals simp_all
theorem decB_pos (b0 b1 b2 b3 : Nat) (c1 c2 c3 : Bool) : 1 ≤ (decB b0 b1 b2 b3 c1 c2 c3).2 := by
  unfold decB
  repeat' split
  all_goals simp
theorem decB_high (b0 b1 b2 b3 : Nat) (c1 c2 c3 : Bool) (h : 128 ≤ b0) : 128 ≤ (decB b0 b1 b2 b3 c1 c2 c3).1 := by
  unfold decB
  repeat' split
  all_goals simp_all
  all_goals omega
theorem decB_w4 (b0 b1 b2 b3 : Nat) (c1 c2 c3 : Bool) : (decB b0 b1 b2 b3 c1 c2 c3).2 ≤ 4 ∧ ((decB b0 b1 b2 b3 c1 c2 c3).2 = 4 → c3 = true) ∧ ((decB b0 b1 b2 b3 c1 c2 c3).2 = 3 → c2 = true) ∧ ((decB b0 b1 b2 b3 c1 c2 c3).2 = 2 → c1 = true) := by
  unfold decB
  repeat' split
  all_goals simp_all

theorem decL_pos (l : List UInt8) : 1 ≤ (decL l).2 := decB_pos ..
theorem contL_lt {l : List UInt8} {k : Nat} (h : contL l k = true) : k < l.length := by
  simp [contL] at h; exact h.1
theorem decL_len {l : List UInt8} (h : l ≠ []) : (decL l).2 ≤ l.length := by
  have h0 : 0 < l.length := List.length_pos_iff.2 h
  have h1 := decL_pos l
  obtain ⟨h4, k3, k2, k1⟩ := decB_w4 (atL l 0) (atL l 1) (atL l 2) (atL l 3) (contL l 1) (contL l 2) (contL l 3)
  change (decL l).2 ≤ 4 at h4
  change (decL l).2 = 4 → _ at k3
  change (decL l).2 = 3 → _ at k2
  change (decL l).2 = 2 → _ at k1
  rcases Nat.lt_or_ge (decL l).2 2 with h | h
  · omega
  · rcases Nat.lt_or_ge (decL l).2 3 with h' | h'
    · have := contL_lt (k1 (by omega)); omega
    · rcases Nat.lt_or_ge (decL l).2 4 with h'' | h''
      · have := contL_lt (k2 (by omega)); omega
      · have := contL_lt (k3 (by omega)); omega
theorem decL_ascii (b : UInt8) (r : List UInt8) (h : b.toNat < 128) : decL (b :: r) = (b.toNat, 1) := by
  have : atL (b :: r) 0 = b.toNat := rfl
  simp [decL, decB, this, h]
theorem decL_high (b : UInt8) (r : List UInt8) (h : 128 ≤ b.toNat) : 128 ≤ (decL (b :: r)).1 := decB_high _ _ _ _ _ _ _ h

theorem atL_append {p x : List UInt8} {k : Nat} (h : k < p.length) : atL (p ++ x) k = atL p k := by
  simp [atL, List.getD_eq_getElem?_getD, List.getElem?_append_left h]
theorem contL_append {p x : List UInt8} {k : Nat} (h : k < p.length) : contL (p ++ x) k = contL p k := by
  simp only [contL, atL_append h, List.length_append]
  have : k < p.length + x.length := by omega
  simp [h, this]
theorem contL_out {p : List UInt8} {k : Nat} (h : p.length ≤ k) : contL p k = false := by
  simp [contL]; omega

/-- What follows begins no rune's further bytes. -/
def Clean (y : List UInt8) : Prop := ∀ b, y.head? = some b → b.toNat < 128
theorem contL_clean {p y : List UInt8} (h : Clean y) : contL (p ++ y) p.length = false := by
  cases y with
  | nil => exact contL_out (by simp)
  | cons b r =>
    have : b.toNat < 128 := h b rfl
    have e : atL (p ++ b :: r) p.length = b.toNat := by simp [atL, List.getD_eq_getElem?_getD]
    simp only [contL, e]
    have : b.toNat / 64 ≠ 2 := by omega
    simp [this]

theorem decL_cases {p x : List UInt8} (hp : p ≠ []) (h : Clean x ∨ (decL (p ++ x)).2 ≤ p.length) : decL (p ++ x) = decL p := by
  have h0 : 0 < p.length := List.length_pos_iff.2 hp
  have a0 := atL_append (x := x) h0
  rcases Nat.lt_or_ge p.length 2 with hl | hl
  · -- one byte
    have e : p.length = 1 := by omega
    have c1 : contL p 1 = false := contL_out (by omega)
    have r : decL p = if atL p 0 < 128 then (atL p 0, 1) else (65533, 1) := by
      unfold decL; rw [c1]; exact decB_c1 ..
    rw [r]
    rcases h with h | h
    · have := contL_clean (p := p) h
      rw [e] at this
      unfold decL; rw [this, a0]; exact decB_c1 ..
    · rw [e] at h
      have := decB_one _ _ _ _ _ _ _ h
      rw [a0] at this
      unfold decL
      rw [a0]
      exact this
  · have a1 := atL_append (x := x) (show 1 < p.length by omega)
    have k1 := contL_append (x := x) (show 1 < p.length by omega)
    rcases Nat.lt_or_ge p.length 3 with hl3 | hl3
    · have e : p.length = 2 := by omega
      have c2 : contL p 2 = false := contL_out (by omega)
      have r : decL p = decB (atL p 0) (atL p 1) 0 0 (contL p 1) false false := by
        unfold decL; rw [c2]; exact decB_c2 ..
      rw [r]
      rcases h with h | h
      · have := contL_clean (p := p) h
        rw [e] at this
        unfold decL; rw [this, a0, a1, k1]; exact decB_c2 ..
      · rw [e] at h
        have := decB_two _ _ _ _ _ _ _ h
        rw [a0, a1, k1] at this
        unfold decL
        rw [a0, a1, k1]
        exact this
    · have a2 := atL_append (x := x) (show 2 < p.length by omega)
      have k2 := contL_append (x := x) (show 2 < p.length by omega)
      rcases Nat.lt_or_ge p.length 4 with hl4 | hl4
      · have e : p.length = 3 := by omega
        have c3 : contL p 3 = false := contL_out (by omega)
        have r : decL p = decB (atL p 0) (atL p 1) (atL p 2) 0 (contL p 1) (contL p 2) false := by
          unfold decL; rw [c3]; exact decB_c3 ..
        rw [r]
        rcases h with h | h
        · have := contL_clean (p := p) h
          rw [e] at this
          unfold decL; rw [this, a0, a1, a2, k1, k2]; exact decB_c3 ..
        · rw [e] at h
          have := decB_three _ _ _ _ _ _ _ h
          rw [a0, a1, a2, k1, k2] at this
          unfold decL
          rw [a0, a1, a2, k1, k2]
          exact this
      · have a3 := atL_append (x := x) (show 3 < p.length by omega)
        have k3 := contL_append (x := x) (show 3 < p.length by omega)
        unfold decL
        rw [a0, a1, a2, a3, k1, k2, k3]

/-- What a rune is. -/
def cls (c : Nat) : Nat :=
  if c = 32 ∨ c = 9 ∨ c = 10 then 1 else if 48 ≤ c ∧ c ≤ 57 then 2 else if (97 ≤ c ∧ c ≤ 122) ∨ (65 ≤ c ∧ c ≤ 90) ∨ c = 95 ∨ (192 ≤ c ∧ c ≠ 65533) then 3 else if 33 ≤ c ∧ c ≤ 126 then 4 else 0

theorem cls_1 {c : Nat} (h : cls c = 1) : c = 32 ∨ c = 9 ∨ c = 10 := by
  unfold cls at h; repeat' split at h
  all_goals first | assumption | omega
theorem cls_2 {c : Nat} (h : cls c = 2) : 48 ≤ c ∧ c ≤ 57 := by
  unfold cls at h; repeat' split at h
  all_goals first | assumption | omega
theorem cls_4 {c : Nat} (h : cls c = 4) : 33 ≤ c ∧ c ≤ 126 := by
  unfold cls at h; repeat' split at h
  all_goals first | assumption | omega
theorem cls_le (c : Nat) : cls c ≤ 4 := by
  unfold cls; repeat' split
  all_goals omega

/-- How many bytes the rest of a row has. -/
def ext (k : Nat) (l : List UInt8) : Nat :=
  if _h : l = [] then 0 else if cls (decL l).1 = k then (decL l).2 + ext k (l.drop (decL l).2) else 0
termination_by l.length
decreasing_by
  have h0 : 0 < l.length := List.length_pos_iff.2 _h
  have h1 := decL_pos l
  simp only [List.length_drop]
  omega

theorem ext_nil (k : Nat) : ext k [] = 0 := by rw [ext]; simp
theorem ext_hit {k : Nat} {l : List UInt8} (h : l ≠ []) (hk : cls (decL l).1 = k) : ext k l = (decL l).2 + ext k (l.drop (decL l).2) := by
  rw [ext, dif_neg h, if_pos hk]
theorem ext_miss {k : Nat} {l : List UInt8} (hk : cls (decL l).1 ≠ k) : ext k l = 0 := by
  by_cases h : l = []
  · rw [h, ext_nil]
  · rw [ext, dif_neg h, if_neg hk]

theorem len_ind {P : List UInt8 → Prop} (h0 : P []) (h1 : ∀ l, l ≠ [] → (∀ l', l'.length < l.length → P l') → P l) (l : List UInt8) : P l := by
  have : ∀ (n : Nat) (l : List UInt8), l.length ≤ n → P l := by
    intro n
    induction n with
    | zero =>
      intro l hl
      have : l = [] := List.length_eq_zero_iff.1 (by omega)
      rw [this]; exact h0
    | succ n ih =>
      intro l hl
      by_cases h : l = []
      · rw [h]; exact h0
      · exact h1 l h fun l' hl' => ih l' (by omega)
  exact this _ l (Nat.le_refl _)
theorem drop_lt {l : List UInt8} (h : l ≠ []) : (l.drop (decL l).2).length < l.length := by
  have h0 : 0 < l.length := List.length_pos_iff.2 h
  have h1 := decL_pos l
  simp only [List.length_drop]
  omega

theorem ext_le (k : Nat) (l : List UInt8) : ext k l ≤ l.length := by
  induction l using len_ind with
  | h0 => rw [ext_nil]; exact Nat.zero_le _
  | h1 l h ih =>
    by_cases hk : cls (decL l).1 = k
    · rw [ext_hit h hk]
      have := ih _ (drop_lt h)
      have := decL_len h
      simp only [List.length_drop] at *
      omega
    · rw [ext_miss hk]; exact Nat.zero_le _

/-- The class of the row that a text begins with, and how many bytes it has. -/
def rowK (l : List UInt8) : Nat := cls (decL l).1
def rowN (l : List UInt8) : Nat := (decL l).2 + if rowK l = 4 then 0 else ext (rowK l) (l.drop (decL l).2)
theorem rowN_pos (l : List UInt8) : 1 ≤ rowN l := by have := decL_pos l; unfold rowN; omega
theorem rowN_le {l : List UInt8} (h : l ≠ []) : rowN l ≤ l.length := by
  have := decL_len h
  have := ext_le (rowK l) (l.drop (decL l).2)
  simp only [List.length_drop] at this
  unfold rowN
  split <;> omega

/-- A text's runes, and those that are wrong. -/
def cnt (l : List UInt8) : Nat × Nat :=
  if _h : l = [] then (0, 0) else ((cnt (l.drop (decL l).2)).1 + 1, (cnt (l.drop (decL l).2)).2 + if cls (decL l).1 = 0 then 1 else 0)
termination_by l.length
decreasing_by
  all_goals
    have h0 : 0 < l.length := List.length_pos_iff.2 _h
    have h1 := decL_pos l
    simp only [List.length_drop]
    omega
theorem cnt_nil : cnt [] = (0, 0) := by rw [cnt]; simp
theorem cnt_step {l : List UInt8} (h : l ≠ []) : cnt l = ((cnt (l.drop (decL l).2)).1 + 1, (cnt (l.drop (decL l).2)).2 + if cls (decL l).1 = 0 then 1 else 0) := by
  conv => lhs; rw [cnt]
  rw [dif_neg h]
theorem cnt_le (l : List UInt8) : (cnt l).1 ≤ l.length ∧ (cnt l).2 ≤ (cnt l).1 := by
  induction l using len_ind with
  | h0 => rw [cnt_nil]; exact ⟨Nat.le_refl _, Nat.le_refl _⟩
  | h1 l h ih =>
    obtain ⟨a, b⟩ := ih _ (drop_lt h)
    have := drop_lt h
    rw [cnt_step h]
    constructor
    · show _ + 1 ≤ _
      omega
    · show _ + _ ≤ _ + 1
      split <;> omega
end Go.Proofs.YtboagdmjibdlhaaDoor
