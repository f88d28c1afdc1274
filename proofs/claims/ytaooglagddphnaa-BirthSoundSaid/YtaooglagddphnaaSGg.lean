/- Gg: what BiPSound leans on. Printed by wip/tools/slim13.py. -/
import Derived.Test.YtaooglagddphnaaSGf
import Derived.Test.YtaooglagddphnaaSGc

namespace Go.Proofs.Ytaooglagddphnaa
open Go.RowKit

set_option maxRecDepth 100000

/-- All levels' rows go around the trees of these graphs. -/
def Lvs (V S : Int) (ts : List Tp) (gr : Nat → List (Option (Nat × Nat))) : Prop := ∀ L : Nat, (L : Int) < lv V → ∃ rows, Lv V S L ts rows (gr L)
/-- A graph's edges join two vertices. -/
def Jn (gr : List (Option (Nat × Nat))) (u v : Nat) : Prop := ∃ E, Lnk gr E ∧ Way E u v
section
variable {w w' w0 : World} {V S T : Int} {L L' s u v p gb cap m : Nat} {f : Nat → Int} {mk : Nat → Nat} {ts ts' : List Tp} {gr gr' : Nat → List (Option (Nat × Nat))} {g : List (Option (Nat × Nat))}
theorem Lnk.same {E F : List (Nat × Nat × Nat)} (h : Lnk g E) (h2 : Lnk g F) (hw : Way E u v) : Way F u v := hw.mono fun ⟨s, a, b⟩ he => (h2 s a b).2 ((h s a b).1 he)
theorem Jn.way {E : List (Nat × Nat × Nat)} (h : Lnk g E) : Jn g u v ↔ Way E u v := ⟨fun ⟨_, h1, h2⟩ => h1.same h h2, fun h2 => ⟨E, h, h2⟩⟩
/-- Rows and what their graph joins. -/
theorem Lv.jn {rows : List (List Nat)} {r : List Nat} (h : Lv V S L ts rows g) (hR : Rt V S T) (hL : (L : Int) < lv V) (hF : FJ V S mk ts) (hr : r ∈ rows) (hu : Xn V L u ∈ r) : Jn g u v ↔ Xn V L v ∈ r := by
  obtain ⟨_, hF⟩ := hF
  obtain ⟨E, hE, _, hj⟩ := h.joined hR hL hF
  rw [Jn.way hE]; exact hj r hr u v hu
theorem Lvs.row (h : Lvs V S ts gr) (hR : Rt V S T) (hL : (L : Int) < lv V) (hF : FJ V S mk ts) (hu : (u : Int) < V) : ∃ t ∈ ts, Xn V L u ∈ t.row ∧ ∀ v : Nat, (Jn (gr L) u v ↔ Xn V L v ∈ t.row) := by
  obtain ⟨rows, hV⟩ := h L hL
  obtain ⟨r, hr, hx⟩ := hV.cov u hu
  obtain ⟨t, ht, e⟩ := hV.has r hr
  exact ⟨t, ht, by rw [e]; exact hx, fun v => by rw [e]; exact hV.jn hR hL hF hr hx⟩
end

end Go.Proofs.Ytaooglagddphnaa

namespace Go.Proofs.Ytaooglagddphnaa
open Go.RowKit

set_option maxRecDepth 100000

section
variable {w w' w0 : World} {V S T : Int} {b p gb cap m m' L s u v : Nat} {f f' : Nat → Int} {mk mk' : Nat → Nat} {ts ts' : List Tp} {gr : Nat → List (Option (Nat × Nat))} {ls : List E1} {q : Nat → Nat → List Nat}
def Kl (V S T : Int) (f f' : Nat → Int) : Prop := (∀ a b : Nat, (a : Int) < V → (b : Int) < lv V → f' (hC V S T a b) = f (hC V S T a b)) ∧ ∀ z : Nat, 1 ≤ z → (z : Int) ≤ 2 * S → f' (pvC S T z) = f (pvC S T z) ∧ f' (nxC S T z) = f (nxC S T z)
section
variable {V S T : Int} {f f' : Nat → Int} {qq : Nat → Nat → List Nat} {e : E1}
theorem LQ.turn (h : LQ V S T f qq) (hk : Kl V S T f f') : LQ V S T f' qq := by
  refine ⟨h.ou, fun v l hv hl => ?_, h.nd, h.rg, h.ap, fun x h1 h2 => ?_, fun x h1 h2 hd y hy e => ?_⟩
  · obtain ⟨g1, c, g2⟩ := h.pt v l hv hl
    exact ⟨by rw [hk.1 v l hv hl]; exact g1, c, g2.cong fun z hz => hk.2 z (h.rg v l z hz).1 (h.rg v l z hz).2⟩
  · rw [(hk.2 x h1 h2).1, (hk.2 x h1 h2).2]; exact h.bd x h1 h2
  · rw [(hk.2 x h1 h2).1] at e
    obtain ⟨a, b, g1, g2, _⟩ := h.bd x h1 h2
    have hy2 : (y : Int) ≤ 2 * S := by omega
    rw [(hk.2 y hy hy2).2]
    exact h.dd x h1 h2 hd y hy e
end
end

end Go.Proofs.Ytaooglagddphnaa
