/- Edges and trees over one memory: the cells that are no node's lie in what nodes have, as priorities of nodes that aren't there. -/
import Derived.Test.YtaooglagddphnaaZC
import Derived.Test.YtaooglagddphnaaEdF
namespace Go.Proofs.Ytaooglagddphnaa
open Go.RowKit

set_option maxRecDepth 100000

/-- A cell that is no node's. -/
def rs (V S : Int) (g : Mg9) (i : Nat) : Int := (g (nN V S + 1 + i) 5 : Int)
section
variable {V S T : Int} {w w' : World} {p gb cap m m' : Nat} {f f' : Nat → Int} {g : Mg9} {ls : List E1}
theorem far_node (h : Rt V S T) {i : Nat} (hi : (i : Int) < o5 V S T) : ∀ x k, 1 ≤ x → x ≤ nN V S → 2 ≤ k → k ≤ 6 → i ≠ cN V S T x k := by
  intro x k h1 _ _ _ e
  have := cN_int (k := k) h h1
  omega
theorem Rl.rest (r : Rl V S T f g) (hR : Rt V S T) {i : Nat} (hi : (i : Int) < o5 V S T) : f i = rs V S g i := r.o i (far_node hR hi)
theorem TM.em (A : TM w V S T p gb cap m g) : ∃ f, EM w V S T p gb cap m f ∧ Rl V S T f g := by
  obtain ⟨c, f, A1, C, r⟩ := A.ar
  exact ⟨f, ⟨A.hR, c, A1, C⟩, r⟩
theorem TM.of_em (E : EM w' V S T p gb cap m' f) (r : Rl V S T f g) : TM w' V S T p gb cap m' g := by
  obtain ⟨hR, c, A1, C⟩ := E
  exact ⟨hR, c, f, A1, C, r⟩
theorem o5_cells (h : Rt V S T) {i : Nat} (hi : (i : Int) < o5 V S T) : i < cellsE V S T := by
  have h1 := cellsE_int h
  have h2 := (sizes h).nd1
  have h3 : cn V S T = o5 V S T + nd V S * 7 := by unfold cn o5; omega
  omega
/-- What is turned beside the nodes turns nothing of theirs. -/
theorem TM.back (E : EM w' V S T p gb cap m' f') (r : Rl V S T f g) (hd : ∀ i : Nat, o5 V S T ≤ (i : Int) → f' i = f i) :
    ∃ g', TM w' V S T p gb cap m' g' ∧ (∀ x k, x ≤ nN V S → g' x k = g x k) ∧ ∀ i : Nat, (i : Int) < o5 V S T → rs V S g' i = f' i := by
  obtain ⟨hR, c, A1, C⟩ := E
  have gz : ∀ x k, x ≤ nN V S → (if k = 5 ∧ nN V S < x ∧ ((x - nN V S - 1 : Nat) : Int) < o5 V S T then (f' (x - nN V S - 1)).toNat else g x k) = g x k := fun x k hx => if_neg (by omega)
  have gl : ∀ i : Nat, (i : Int) < o5 V S T → (((if (5 : Nat) = 5 ∧ nN V S < nN V S + 1 + i ∧ ((nN V S + 1 + i - nN V S - 1 : Nat) : Int) < o5 V S T then (f' (nN V S + 1 + i - nN V S - 1)).toNat else g (nN V S + 1 + i) 5) : Nat) : Int) = f' i := fun i hi => by
    have e : nN V S + 1 + i - nN V S - 1 = i := by omega
    rw [e, if_pos ⟨rfl, by omega, hi⟩]
    have := (A1.fit i (o5_cells hR hi)).1
    omega
  have cd : ∀ x k, 1 ≤ x → f' (cN V S T x k) = f (cN V S T x k) := fun x k h1 => hd _ (by have := cN_int (k := k) hR h1; omega)
  refine ⟨fun x k => if k = 5 ∧ nN V S < x ∧ ((x - nN V S - 1 : Nat) : Int) < o5 V S T then (f' (x - nN V S - 1)).toNat else g x k, ⟨hR, c, f', A1, C, ⟨fun k => (gz 0 k (Nat.zero_le _)).trans (r.z k), fun x k h1 h2 h3 h4 => ?_, fun x h1 h2 h3 => ?_, fun x h1 h2 h3 => ?_, fun x hx => ?_, fun i hi => ?_⟩⟩, gz, gl⟩
  · rw [cd x k h1]; show _ = ((_ : Nat) : Int); rw [gz x k h2]; exact r.c x k h1 h2 h3 h4
  · rw [cd x 2 h1]; show _ = ((_ : Nat) : Int); rw [gz x 2 h2]; exact r.a x h1 h2 h3
  · rw [cd x 2 h1]; exact ⟨(r.p x h1 h2 h3).1, by show _ = ((_ : Nat) : Int); rw [gz x 2 h2]; exact (r.p x h1 h2 h3).2⟩
  · rw [gz x 2 hx, gz x 3 hx, gz x 4 hx]; exact r.b x hx
  · by_cases h : (i : Int) < o5 V S T
    · exact (gl i h).symm
    · rw [hd i (by omega), r.o i hi]
      have e : nN V S + 1 + i - nN V S - 1 = i := by omega
      show _ = ((_ : Nat) : Int)
      rw [e, if_neg (by omega)]
/-- Edges are told by cells that are no node's. -/
theorem ER.beside (h : ER V S T f ls) (hR : Rt V S T) (he : ∀ i : Nat, (i : Int) < o5 V S T → f' i = f i) : ER V S T f' ls := by
  have e1 : ∀ u v : Nat, (u : Int) < V → (v : Int) < V → u ≠ v → f' (eC V S T u v) = f (eC V S T u v) := fun u v hu hv hne => he _ (by
    have := eC_lo hR hu hv hne
    have e : o4 V S T + pr V = o5 V S T := by unfold o4 o5; omega
    omega)
  have e2 : ∀ s k : Nat, (s : Int) < S → k < 7 → f' (sC S T s k) = f (sC S T s k) := fun s k hs hk => he _ (by
    have h1 := sC_spec (T := T) hs hk
    have h2 := sC_int hR hs hk
    have h3 := (sizes hR).vn1
    have h4 := (sizes hR).pr1
    unfold o5
    omega)
  refine ⟨h.ok, h.un, fun e hx => ?_, fun u v huv hv hn => ?_⟩
  · obtain ⟨a, b, c, d⟩ := h.ok e hx
    rw [e1 e.u e.v (by omega) b (by omega), e2 e.s 1 c (by omega), e2 e.s 2 c (by omega)]
    exact h.is e hx
  · rw [e1 u v (by omega) hv (by omega)]; exact h.no u v huv hv hn
end
end Go.Proofs.Ytaooglagddphnaa
