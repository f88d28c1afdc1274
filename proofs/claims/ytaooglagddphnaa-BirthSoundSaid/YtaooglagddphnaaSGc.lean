/- Gc: what BiPSound leans on. Printed by wip/tools/slim13.py. -/
import Derived.Test.YtaooglagddphnaaSGb

namespace Go.Proofs.Ytaooglagddphnaa
open Go.RowKit

set_option maxRecDepth 100000

theorem nodup_len12 : ∀ {S : Nat} {l : List Nat}, l.Nodup → (∀ x ∈ l, x < S) → l.length ≤ S
  | 0, l, _, h => by
    cases l with
    | nil => simp
    | cons a l => exact absurd (h a (by simp)) (by omega)
  | S + 1, l, hn, h => by
    have h1 := nodup_len12 (S := S) (l := l.erase S) (hn.erase S) fun x hx => by
      have h2 := (List.Nodup.mem_erase_iff hn).1 hx
      have h3 := h x h2.2
      omega
    have h4 := List.length_erase (a := S) (l := l)
    split at h4 <;> omega
section
variable {V S T : Int} {w w' w0 : World} {p gb cap m s u v l b lb : Nat} {f : Nat → Int} {mk : Nat → Nat} {ts : List Tp} {q : Nat → Nat → List Nat} {bs : List E1} {r : Option Nat}
/-- A list's slots: each once. -/
theorem dl_nodup (h : LK q bs) (hq : LQ V S T (f) q) (hs : bs.Pairwise fun a b => a.s ≠ b.s ∧ ¬ (a.u = b.u ∧ a.v = b.v)) (hne : ∀ e ∈ bs, e.u ≠ e.v) : (dl q v l).Nodup := by
  have uniq : ∀ e ∈ bs, ∀ e' ∈ bs, e.s = e'.s → e = e' := fun e he e' he' es => by
    obtain ⟨i, hi⟩ := List.mem_iff_getElem?.1 he
    obtain ⟨j, hj⟩ := List.mem_iff_getElem?.1 he'
    have ⟨h1, e1⟩ := List.getElem?_eq_some_iff.1 hi
    have ⟨h2, e2⟩ := List.getElem?_eq_some_iff.1 hj
    rcases Nat.lt_trichotomy i j with c | c | c
    · have := (List.pairwise_iff_getElem.1 hs i j h1 h2 c).1
      rw [e1, e2] at this; exact absurd es this
    · subst c; rw [hi] at hj; injection hj
    · have := (List.pairwise_iff_getElem.1 hs j i h2 h1 c).1
      rw [e1, e2] at this; exact absurd es.symm this
  unfold dl
  refine List.pairwise_map.2 (List.Pairwise.imp_of_mem ?_ (hq.nd v l))
  intro a b ha hb hab e
  obtain ⟨e1, g1, g2, g3⟩ := (h v l a).1 ha
  obtain ⟨e2, k1, k2, k3⟩ := (h v l b).1 hb
  have := uniq e1 g1 e2 k1 (by omega)
  subst this
  have := hne e1 g1
  omega
theorem dl_len (hR : Rt V S T) (h : LK q bs) (hq : LQ V S T f q) (hs : bs.Pairwise fun a b => a.s ≠ b.s ∧ ¬ (a.u = b.u ∧ a.v = b.v)) (hne : ∀ e ∈ bs, e.u ≠ e.v) : ((q v l).length : Int) ≤ S := by
  have h1 := nodup_len12 (S := S.toNat) (dl_nodup (v := v) (l := l) h hq hs hne) (fun x hx => by
    obtain ⟨y, hy, rfl⟩ := List.mem_map.1 hx
    have := hq.rg v l y hy
    omega)
  unfold dl at h1
  rw [List.length_map] at h1
  have := hR.s1
  omega
end
end Go.Proofs.Ytaooglagddphnaa
