/- Lists of numbers in slices: one of them, by its place. -/
import Derived.Test.YtaooglagddphnaaZB
namespace Go.Proofs.Ytaooglagddphnaa
open Go.RowKit

theorem LI.at {w : World} {a : Option Addr} {n c k x : Nat} {l : List Nat} (h : LI w (.slice a n c) l) (hx : l[k]? = some x) : ∃ b off, a = some ⟨b, off, none⟩ ∧ w.cell? ⟨b, off + k, none⟩ = some (.int .i64 (x : Int)) := by
  obtain ⟨a', cap, e, h1, h2, h3, h4⟩ := h
  injection e with e1 e2 e3
  subst e1 e3
  have hk := (List.getElem?_eq_some_iff.1 hx).1
  obtain ⟨b, off, zs, rfl, hz, hs, he⟩ := h4 (by omega)
  exact ⟨b, off, rfl, (hz.cell (off + k)).trans (he k x hx)⟩
theorem LI.cell_at {w : World} {b off n c k x : Nat} {l : List Nat} (h : LI w (.slice (some ⟨b, off, none⟩) n c) l) (hx : l[k]? = some x) : w.cell? ⟨b, off + k, none⟩ = some (.int .i64 (x : Int)) := by
  obtain ⟨b', off', e, h1⟩ := h.at hx
  injection e with e
  injection e with e1 e2
  subst e1 e2; exact h1
theorem LI.bk_at {w : World} {b off n c k x : Nat} {l : List Nat} (h : LI w (.slice (some ⟨b, off, none⟩) n c) l) (hx : l[k]? = some x) : bk (.slice (some ⟨b, off, none⟩) n c) = some b := by
  obtain ⟨a', cap, e, h1, h2, h3, h4⟩ := h
  injection e with e1 e2 e3
  subst e3
  have hk := (List.getElem?_eq_some_iff.1 hx).1
  exact bk_some (by omega)

end Go.Proofs.Ytaooglagddphnaa
