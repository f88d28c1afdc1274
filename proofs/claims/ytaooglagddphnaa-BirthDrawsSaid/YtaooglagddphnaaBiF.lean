/- The document's answer: what a cell has at first, by its name. -/
import Derived.Test.YtaooglagddphnaaBiN
import Derived.Test.YtaooglagddphnaaRefD
namespace Go.Proofs.Ytaooglagddphnaa
open Go.RowKit

set_option maxRecDepth 100000

section
variable {V S T : Int} {dl dc k : Nat} {d : Nat → Nat} {m : Nm} {w : World} {da : Option Addr}
/-- What the name's kinds but nodes' make of a cell. -/
theorem bc_low (hR : Rt V S T) (hm : CellAt V S T m k) (hk : m.k ≠ 10) : bcF V S T dl d k = if m.k = 2 ∧ 0 < S then 1 else if m.k = 3 ∧ m.a + 1 < S then m.a + 2 else 0 := by
  obtain ⟨a, b, c⟩ := o_order hR
  have s1 := hR.s1
  have t1 := hR.t1
  have e3 : o3 S T = T + 1 + S * 7 := rfl
  have ln : ∀ s : Int, lnF S.toNat s = if 0 ≤ s ∧ s < S then s + 1 else 0 := fun s => by
    unfold lnF
    by_cases h : 0 ≤ s ∧ s < S
    · rw [if_pos h, if_pos (by omega)]
    · rw [if_neg h, if_neg (by omega)]
  unfold bcF
  unfold CellAt at hm
  rcases hm with ⟨e, _, h1, h2, h3⟩ | ⟨e, _, h3⟩ | ⟨e, _, h1, h2, h3⟩ | ⟨e, _, h1, h2, h3⟩ | ⟨e, _, h1, h2, h3⟩ | ⟨e, _, h1, h2, h4, h3⟩ | ⟨e, _, h1, h2, h4, h3⟩ | ⟨e, _, h1, h2, h4, h5, h3⟩ | ⟨e, _, h1, h2, h4, h3⟩ | ⟨e, _⟩
  · rw [e, if_pos (by omega)]; rfl
  · rw [e, if_neg (by omega), if_pos (by omega), ln]
    by_cases h : 0 < S
    · rw [if_pos (by omega), if_pos ⟨rfl, h⟩]; rfl
    · rw [if_neg (by omega), if_neg (fun q => h q.2), if_neg (fun q => absurd q.1 (by decide))]
  · have hq : ((k : Int) - T - 1) / 7 = m.a := by omega
    have n2 : ¬ ((3 : Int) = 2 ∧ 0 < S) := fun q => absurd q.1 (by decide)
    rw [e, if_neg (by omega), if_neg (by omega), if_pos (by omega), if_pos (by omega), hq, ln, if_neg n2]
    by_cases h : m.a + 1 < S
    · rw [if_pos (show 0 ≤ m.a + 1 ∧ m.a + 1 < S from ⟨by omega, h⟩), if_pos ⟨rfl, h⟩]; omega
    · rw [if_neg (show ¬ (0 ≤ m.a + 1 ∧ m.a + 1 < S) from fun q => h q.2), if_neg (fun q => h q.2)]
  · rw [e, if_neg (by omega), if_neg (by omega), if_pos (by omega), if_neg (by omega)]; rfl
  · rw [e, if_neg (by omega), if_neg (by omega), if_pos (by omega), if_neg (by omega)]; rfl
  · rw [e, if_neg (by omega), if_neg (by omega), if_pos (by omega), if_neg (by omega)]; rfl
  · rw [e, if_neg (by omega), if_neg (by omega), if_pos (by omega), if_neg (by omega)]; rfl
  · have hl := lv_bd V
    have h9 : m.a * lv V + lv V ≤ vn V := by
      have := Int.mul_le_mul_of_nonneg_left (show m.a + 1 ≤ V by omega) (show 0 ≤ lv V by omega)
      rw [Int.mul_add, Int.mul_one, Int.mul_comm (lv V) m.a] at this
      exact this
    have h8 : 0 ≤ m.a * lv V := Int.mul_nonneg h1 (by omega)
    have q4 : o4 V S T = o3 S T + vn V := rfl
    have q5 : o5 V S T = o4 V S T + pr V := rfl
    have := (sizes hR).pr1
    rw [e, if_neg (by omega), if_neg (by omega), if_neg (by omega), if_pos (by omega)]; rfl
  · have g1 := ah_nonneg (V := V) h1 (by omega)
    have g2 := ah_end (V := V) (a := m.a) (by omega)
    have q4 : o4 V S T = o3 S T + vn V := rfl
    have q5 : o5 V S T = o4 V S T + pr V := rfl
    have := (sizes hR).vn1
    rw [e, if_neg (by omega), if_neg (by omega), if_neg (by omega), if_pos (by omega)]; rfl
  · exact absurd e hk
/-- A node's name tells whether it is a vertex, and of which level. -/
theorem nodeAt_nd (hR : Rt V S T) {x : Nat} (h1 : 1 ≤ x) (h : NodeAt V S m (x - 1)) : (m.k = 1 ∧ m.a = 0 ↔ (x : Int) ≤ V) ∧ (m.k = 1 ↔ (x : Int) ≤ vn V) := by
  have hv := hR.v1
  have hl := (lv_bd V).1
  have hvn : vn V = lv V * V := rfl
  have hs : 0 ≤ sn V := by unfold sn; omega
  have hvl : V ≤ vn V := by
    have : 1 * V ≤ lv V * V := Int.mul_le_mul_of_nonneg_right hl (by omega)
    omega
  unfold NodeAt at h
  rcases h with ⟨e, _, a1, a2, a3, a4, a5⟩ | ⟨e, a1, a2, a3, a4, a5, a6⟩
  · have q1 : (m.a + 1) * V ≤ lv V * V := Int.mul_le_mul_of_nonneg_right (by omega) (by omega)
    rw [Int.add_mul, Int.one_mul] at q1
    refine ⟨⟨fun q => ?_, fun q => ⟨e, ?_⟩⟩, ⟨fun _ => by omega, fun _ => e⟩⟩
    · rw [q.2, Int.zero_mul] at a5; omega
    · rcases Int.lt_or_le 0 m.a with g | g
      · have : 1 * V ≤ m.a * V := Int.mul_le_mul_of_nonneg_right (by omega) (by omega)
        omega
      · omega
  · have q1 : 0 ≤ m.a * sn V := Int.mul_nonneg a1 hs
    have n1 : m.k ≠ 1 := by omega
    exact ⟨⟨fun q => absurd q.1 n1, fun q => by omega⟩, ⟨fun q => absurd q n1, fun q => by omega⟩⟩
end

end Go.Proofs.Ytaooglagddphnaa
