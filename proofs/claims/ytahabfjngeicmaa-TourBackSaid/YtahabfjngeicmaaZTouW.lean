/- The law's step: a row told anew among rows of one's own; Cut of either order of arcs. -/
import Derived.Test.YtahabfjngeicmaaZTouT
import Derived.Test.YtahabfjngeicmaaZTouV
namespace Go.Proofs.Ytahabfjngeicmaa
open Go.RowKit

section
variable {w w' W : World} {V S T : Int} {base i L s p gb cap m : Nat} {v u : Value} {rows : List (List Nat)} {r : List Nat} {g : Mg9} {ts : List Tp} {t : Tp}
/-- One of the rows is told anew. -/
theorem RsI.set {g n c : Nat} (h : RsI w base (.slice (some ⟨g, 0, none⟩) n c) rows) (hu : LI w u r) : RsI (w.setCell ⟨g, i, none⟩ u) base (.slice (some ⟨g, 0, none⟩) n c) (rows.set i r) := by
  obtain ⟨vs, hr, hlen, hli⟩ := h
  rcases hr.2 with ⟨hn, _⟩ | ⟨g', cap, cur, hv, hb, hg, h1, h2, h3, h4⟩
  · cases hn
  · injection hv with e1 e2 e3
    injection e1 with e1
    injection e1 with e1
    subst e1 e3
    have kp : Kp 3 w (w.setCell ⟨g, i, none⟩ u) := Kp.set hg (by decide) i u
    have hv' : (Value.slice (some ⟨g, 0, none⟩) n c) = .slice (some ⟨g, 0, none⟩) (vs.set i u).length c := by rw [List.length_set, e2]
    refine ⟨vs.set i u, ?_, by simp [hlen], fun j x r' hx hr' => ?_⟩
    · refine ⟨by simp, .inr ⟨g, c, cur.setIfInBounds i u, hv', hb, Blk.set_ hg i u, by rw [List.length_set]; exact h1, h2, by rw [Array.size_setIfInBounds]; exact h3, ?_⟩⟩
      rw [List.length_set, Array.toList_setIfInBounds, List.take_set, h4]
    · by_cases hj : j = i
      · subst hj
        have q1 : j < vs.length := by have := (List.getElem?_eq_some_iff.1 hx).1; simpa using this
        rw [List.getElem?_set_self q1] at hx
        rw [List.getElem?_set_self (by omega)] at hr'
        injection hx with hx
        injection hr' with hr'
        rw [← hx, ← hr']; exact hu.kp kp
      · rw [List.getElem?_set_ne (Ne.symm hj)] at hx hr'
        exact (hli j x r' hx hr').kp kp
theorem tcut {c d : Nat} {pp qq rr : List Nat} (A : FM w V S T p gb cap m g ts) (hL : (L : Int) < lv V) (hs : (s : Int) < S) (ht : t ∈ ts) (ha : Arcs (An V S L) s c d) (hP : Parts t c d pp qq rr) (hm : m ≤ 800000) :
    Calls Try.prog 18 #[vTr V S T p, .int .i64 (L : Int), .int .i64 (s : Int)] w (CtD V S T p gb cap (m + 100 * nN V S + 50) ts t c d qq (pp ++ rr) w) := by
  rcases ha with ⟨rfl, rfl⟩ | ⟨rfl, rfl⟩
  · exact tcut01 A hL hs ht hP hm
  · exact tcut10 A hL hs ht hP hm
end

end Go.Proofs.Ytahabfjngeicmaa
