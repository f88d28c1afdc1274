/- Gb: what BiPSound leans on. Printed by wip/tools/slim13.py. -/
import Derived.Test.YtaooglagddphnaaSGa

namespace Go.Proofs.Ytaooglagddphnaa
open Go.RowKit

set_option maxRecDepth 100000

/-- The cell behind a side, or a list's head. -/
def nxA (V S T : Int) (v l x : Nat) : Nat := if x = 0 then hC V S T v l else nxC S T x
section
variable {V S T : Int} {w w' w0 : World} {p gb cap m m' k x i s u v l : Nat} {t : Bool} {f f' : Nat → Int} {mk : Nat → Nat} {ts : List Tp} {ls : List E1}
theorem head_int (h : Rt V S T) (hv : (v : Int) < V) (hl : (l : Int) < lv V) : headF V S T (v : Int) (l : Int) = ((hC V S T v l : Nat) : Int) ∧ ((hC V S T v l : Nat) : Int) = o3 S T + v * lv V + l ∧ 0 ≤ (v : Int) * lv V + l ∧ (v : Int) * lv V + l < vn V := by
  obtain ⟨h1, h2, h3⟩ := (head_spec (V := V) (S := S) (T := T) (v : Int) (l : Int)).1 ⟨by omega, hv, by omega, hl⟩
  have h4 := h.s1
  have h5 := h.t1
  have h6 : 0 ≤ o3 S T := by unfold o3; omega
  unfold hC
  refine ⟨?_, ?_, h2, h3⟩ <;> omega
theorem nx_o5 (h : Rt V S T) (h1 : 1 ≤ x) (h2 : (x : Int) ≤ 2 * S) : ((nxC S T x : Nat) : Int) < o5 V S T := sC_o5 h (by omega) (by omega)
theorem pv_o5 (h : Rt V S T) (h1 : 1 ≤ x) (h2 : (x : Int) ≤ 2 * S) : ((pvC S T x : Nat) : Int) < o5 V S T := sC_o5 h (by omega) (by omega)
theorem head_o5 (h : Rt V S T) (hv : (v : Int) < V) (hl : (l : Int) < lv V) : ((hC V S T v l : Nat) : Int) < o5 V S T := by
  have h1 := head_int h hv hl
  have h2 := (sizes h).pr1
  unfold o3 at h1
  unfold o5
  omega
end

end Go.Proofs.Ytaooglagddphnaa

namespace Go.Proofs.Ytaooglagddphnaa
open Go.RowKit

set_option maxRecDepth 100000

/-- A vertex's node. -/
def ndA (V : Int) (v l : Nat) : Nat := (vertexF V (l : Int) (v : Int)).toNat
section
variable {V S T : Int} {w w' w0 : World} {p gb cap m m' k x y z h i s d u v l v2 l2 : Nat} {t : Bool} {f f' : Nat → Int} {mk : Nat → Nat} {ts : List Tp} {ls : List E1}
theorem nd_int (hR : Rt V S T) (hv : (v : Int) < V) (hl : (l : Int) < lv V) : vertexF V (l : Int) (v : Int) = ((ndA V v l : Nat) : Int) ∧ ((ndA V v l : Nat) : Int) = l * V + v + 1 ∧ 1 ≤ ndA V v l ∧ ndA V v l ≤ nN V S := by
  have h1 : pl (l : Int) (lv V) (v : Int) V = (l : Int) * V + v := pl_yes (by omega) hl (by omega) hv
  have h2 : 0 ≤ (l : Int) * V := Int.mul_nonneg (by omega) (by omega)
  have h3 : (l : Int) * V ≤ (lv V - 1) * V := Int.mul_le_mul_of_nonneg_right (by omega) (by omega)
  have h4 : (lv V - 1) * V = vn V - V := by unfold vn; rw [Int.sub_mul]; omega
  have h5 := nN_int hR
  have h6 : nd V S = vn V + S * sn V := rfl
  have h7 := (sizes hR).ss1
  have h8 : vertexF V (l : Int) (v : Int) = (l : Int) * V + v + 1 := by unfold vertexF; rw [h1]
  unfold ndA
  rw [h8]
  refine ⟨?_, ?_, ?_, ?_⟩ <;> omega
theorem nd_inj (hR : Rt V S T) (hv : (v : Int) < V) (hl : (l : Int) < lv V) (hv2 : (v2 : Int) < V) (hl2 : (l2 : Int) < lv V) (e : ndA V v l = ndA V v2 l2) : v = v2 ∧ l = l2 := by
  have h1 := (nd_int hR hv hl).2.1
  have h2 := (nd_int hR hv2 hl2).2.1
  have e2 : (l : Int) * V + v = (l2 : Int) * V + v2 := by omega
  have a1 : ((l : Int) * V + v) / V = l := by rw [Int.add_comm, Int.add_mul_ediv_right _ _ (by omega), Int.ediv_eq_zero_of_lt (by omega) hv]; omega
  have a2 : ((l2 : Int) * V + v2) / V = l2 := by rw [Int.add_comm, Int.add_mul_ediv_right _ _ (by omega), Int.ediv_eq_zero_of_lt (by omega) hv2]; omega
  have hl3 : (l : Int) = l2 := by rw [← a1, ← a2, e2]
  have : l = l2 := by omega
  subst this
  exact ⟨by omega, rfl⟩
end
end Go.Proofs.Ytaooglagddphnaa

namespace Go.Proofs.Ytaooglagddphnaa
open Go.RowKit

set_option maxRecDepth 100000

/-- The cells have these lists. -/
structure LQ (V S T : Int) (f : Nat → Int) (q : Nat → Nat → List Nat) : Prop where
  ou : ∀ v l : Nat, ¬ ((v : Int) < V ∧ (l : Int) < lv V) → q v l = []
  pt : ∀ v l : Nat, (v : Int) < V → (l : Int) < lv V → f (hC V S T v l) = (((q v l).headD 0 : Nat) : Int) ∧ ∃ c, Part S T f 0 ((q v l).headD 0) (q v l) c 0
  nd : ∀ v l, (q v l).Nodup
  rg : ∀ v l x, x ∈ q v l → 1 ≤ x ∧ (x : Int) ≤ 2 * S
  ap : ∀ v l v' l' x, x ∈ q v l → x ∈ q v' l' → v = v' ∧ l = l'
  bd : ∀ x : Nat, 1 ≤ x → (x : Int) ≤ 2 * S → ∃ a b : Nat, f (pvC S T x) = (a : Int) ∧ (a : Int) ≤ 2 * S ∧ f (nxC S T x) = (b : Int) ∧ (b : Int) ≤ 2 * S
  dd : ∀ x : Nat, 1 ≤ x → (x : Int) ≤ 2 * S → (∀ v l, x ∉ q v l) → ∀ y : Nat, 1 ≤ y → f (pvC S T x) = (y : Int) → f (nxC S T y) ≠ (x : Int)
/-- The marks tell which lists are empty. -/
def MQ (V : Int) (mk : Nat → Nat) (q : Nat → Nat → List Nat) : Prop := ∀ v l : Nat, (v : Int) < V → (l : Int) < lv V → hasB (mk (ndA V v l)) 0 = decide (q v l ≠ [])
section
variable {V S T : Int} {f f' f2 : Nat → Int} {q : Nat → Nat → List Nat} {mk : Nat → Nat} {x y z n p s k u v l v2 l2 a b : Nat} {L l1 l3 : List Nat} {ls : List E1}
theorem Part.lastnx {b y : Nat} : ∀ {l : List Nat} {a x : Nat}, Part S T f a x l b y → l ≠ [] → f (nxC S T b) = (y : Int)
  | [], _, _, _, h => absurd rfl h
  | z :: l, a, x, ⟨_, _, _, n, h4, h5⟩, _ => by
    by_cases e : l = []
    · subst e
      obtain ⟨rfl, rfl⟩ := h5
      exact h4
    · exact h5.lastnx e
/-- What a side that is in a list tells. -/
theorem LQ.live (h : LQ V S T f q) (hv : (v : Int) < V) (hl : (l : Int) < lv V) (hq : q v l = l1 ++ x :: l3) :
    f (pvC S T x) = ((l1.getLast?.getD 0 : Nat) : Int) ∧ f (nxC S T x) = ((l3.headD 0 : Nat) : Int) ∧ f (nxA V S T v l (l1.getLast?.getD 0)) = (x : Int) := by
  obtain ⟨g1, c9, g2⟩ := h.pt v l hv hl
  rw [hq] at g1 g2
  obtain ⟨b, y, k1, k2⟩ := g2.split
  have hb := Part.last k1
  obtain ⟨rfl, k3, k4, m, k5, k6⟩ := k2
  have e : m = l3.headD 0 := Part.head' k6
  refine ⟨by rw [← hb]; exact k4, by rw [← e]; exact k5, ?_⟩
  rw [← hb]
  unfold nxA
  by_cases c : b = 0
  · rw [if_pos c]
    cases l1 with
    | nil => rw [g1]; rfl
    | cons a l1 =>
      exfalso
      have hm : b ∈ q v l := by
        rw [hb, hq]
        have : (a :: l1).getLast?.getD 0 ∈ a :: l1 := by
          rw [List.getLast?_eq_some_getLast (by simp)]; exact List.getLast_mem _
        exact List.mem_append_left _ this
      have := (h.rg v l b hm).1
      omega
  · rw [if_neg c]
    exact Part.lastnx k1 fun e => by subst e; exact c k1.1.symm
end
end Go.Proofs.Ytaooglagddphnaa

namespace Go.Proofs.Ytaooglagddphnaa
open Go.RowKit

set_option maxRecDepth 100000
section
variable {V S T : Int} {f f' f2 : Nat → Int} {q : Nat → Nat → List Nat} {mk : Nat → Nat} {x y z n p s k u v l v2 l2 a b : Nat} {L l1 l3 : List Nat} {ls bs : List E1} {on : Bool}
theorem last_mem {L : List Nat} (h : L.getLast?.getD 0 ≠ 0) : L.getLast?.getD 0 ∈ L := by
  by_cases e : L = []
  · subst e; exact absurd rfl h
  · rw [List.getLast?_eq_some_getLast e]; exact List.getLast_mem e
/-- Which edges lie beside: which sides are in which lists. -/
def LK (q : Nat → Nat → List Nat) (bs : List E1) : Prop := ∀ v l x, x ∈ q v l ↔ ∃ e ∈ bs, e.l = l ∧ ((x = 2 * e.s + 1 ∧ e.u = v) ∨ (x = 2 * e.s + 2 ∧ e.v = v))
/-- The document's lists: slots. -/
def dl (q : Nat → Nat → List Nat) (v l : Nat) : List Nat := (q v l).map fun x => (x - 1) / 2
end
end Go.Proofs.Ytaooglagddphnaa
