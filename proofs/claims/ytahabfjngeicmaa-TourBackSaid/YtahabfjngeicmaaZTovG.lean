/- Two rows that aren't one, and two loose arcs: four trees. -/
import Derived.Test.YtahabfjngeicmaaZTovF
namespace Go.Proofs.Ytahabfjngeicmaa
open Go.RowKit

set_option maxRecDepth 100000

theorem end1_none {e : Option (Nat × Nat)} (h : ¬ 0 ≤ end1 e) : e = none := by
  cases e with
  | none => rfl
  | some ab => obtain ⟨a, b⟩ := ab; exact absurd (Int.natCast_nonneg a) h
theorem four_of {V S T : Int} {L s u v : Nat} {ts : List Tp} {t t2 : Tp} {g : Mg9} {rows : List (List Nat)} {gr : List (Option (Nat × Nat))} {e : Option (Nat × Nat)} {mk : Nat → Nat} (h : Lv V S L ts rows gr) (hR : Rt V S T) (hL : (L : Int) < lv V) (hF : FI V S g mk ts) (hs : (s : Int) < S) (hg : gr[s]? = some e) (he : ¬ 0 ≤ end1 e)
    (ht : t ∈ ts) (hu : Xn V L u ∈ t.row) (ht2 : t2 ∈ ts) (hv : Xn V L v ∈ t2.row) (m1 : t.row ∈ rows) (m2 : t2.row ∈ rows) (hsm : decide (t.root = t2.root) = false) :
    ∃ a1 a2 b1 b2 c0 c1, Four ts t t2 c0 c1 (Xn V L u) (Xn V L v) (An V S L s 0) (An V S L s 1) a1 a2 b1 b2 := by
  rw [end1_none he] at hg
  obtain ⟨a1, a2, r1⟩ := List.append_of_mem hu
  obtain ⟨b1, b2, r2⟩ := List.append_of_mem hv
  obtain ⟨c0, h0, q0⟩ := h.loose s hs hg 0 (by decide)
  obtain ⟨c1, h1, q1⟩ := h.loose s hs hg 1 (by decide)
  refine ⟨a1, a2, b1, b2, c0, c1, ht, ht2, h0, h1, fun e => ?_, h.loose_ne hR hL hF m1 rfl q0, h.loose_ne hR hL hF m1 rfl q1, h.loose_ne hR hL hF m2 rfl q0, h.loose_ne hR hL hF m2 rfl q1, fun e => ?_, r1, r2, q0, q1⟩
  · rw [e] at hsm; exact absurd rfl (of_decide_eq_false hsm)
  · rw [e, q0] at q1
    have := (An_inj hR hL hs (by decide) hs (by decide) (List.cons.inj q1).1).2
    omega
theorem len_beg {a1 a2 l : List Nat} {x : Nat} (h : l = a1 ++ x :: a2) (hl : l.length ≤ 96) : (x :: (a2 ++ a1)).length ≤ 100000 := by
  rw [h] at hl; simp only [List.length_append, List.length_cons] at *; omega
end Go.Proofs.Ytahabfjngeicmaa
