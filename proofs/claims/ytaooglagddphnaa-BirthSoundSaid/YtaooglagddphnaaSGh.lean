/- Gh: what BiPSound leans on. Printed by wip/tools/slim13.py. -/
import Derived.Test.YtaooglagddphnaaSGg

namespace Go.Proofs.Ytaooglagddphnaa
open Go.RowKit

set_option maxRecDepth 100000

/-- The tree edges of a level and above. -/
def tE (bs : List E1) (L : Nat) : List (Nat × Nat × Nat) := (bs.filter fun e => e.t && decide (L ≤ e.l)).map fun e => (e.s, e.u, e.v)
/-- What is right of lists, forests and marks, for these edges. -/
structure LF (V S T : Int) (f : Nat → Int) (mk : Nat → Nat) (ts : List Tp) (bs : List E1) (q : Nat → Nat → List Nat) : Prop where
  lq : LQ V S T f q
  mq : MQ V mk q
  lk : LK q (bs.filter fun e => !e.t)
  fo : ∃ gr, Lvs V S ts gr ∧ ∀ L : Nat, (L : Int) < lv V → Lnk (gr L) (tE bs L)
  pa : ∀ L s d : Nat, (L : Int) < lv V → (s : Int) < S → d < 2 → (hasB (mk (An V S L s d)) 1 = true ↔ d = 0 ∧ ∃ e ∈ bs, e.s = s ∧ e.t = true ∧ e.l = L) ∧ hasB (mk (An V S L s d)) 0 = false
  px : ∀ L v : Nat, (L : Int) < lv V → (v : Int) < V → hasB (mk (Xn V L v)) 1 = false
/-- All that is right of edges at levels. -/
structure LG (V S T : Int) (f : Nat → Int) (mk : Nat → Nat) (ts : List Tp) (bs : List E1) (q : Nat → Nat → List Nat) : Prop where
  er : ER V S T f bs
  lf : LF V S T f mk ts bs q
section
variable {V S T : Int} {L L' s u v a b i d y k l : Nat} {f f' : Nat → Int} {mk mk' : Nat → Nat} {ts ts' : List Tp} {bs bs' : List E1} {q q' : Nat → Nat → List Nat} {x e x' : E1} {gr : Nat → List (Option (Nat × Nat))} {g : List (Option (Nat × Nat))} {E F : List (Nat × Nat × Nat)}
theorem mem_tE : (s, a, b) ∈ tE bs L ↔ ∃ e ∈ bs, e.t = true ∧ L ≤ e.l ∧ e.s = s ∧ e.u = a ∧ e.v = b := by
  unfold tE
  simp only [List.mem_map, List.mem_filter, Bool.and_eq_true, decide_eq_true_eq, Prod.mk.injEq]
  constructor
  · rintro ⟨e, ⟨h1, h2, h3⟩, h4, h5, h6⟩; exact ⟨e, h1, h2, h3, h4, h5, h6⟩
  · rintro ⟨e, h1, h2, h3, h4, h5, h6⟩; exact ⟨e, ⟨h1, h2, h3⟩, h4, h5, h6⟩
theorem LK.mem (h : LK q bs) (hm : ∀ e, e ∈ bs ↔ e ∈ bs') : LK q bs' := fun v l x => (h v l x).trans ⟨fun ⟨e, a, b⟩ => ⟨e, (hm e).1 a, b⟩, fun ⟨e, a, b⟩ => ⟨e, (hm e).2 a, b⟩⟩
/-- Nodes of vertices. -/
theorem nd_Xn (hR : Rt V S T) (hv : (v : Int) < V) (hl : (l : Int) < lv V) : ndA V v l = Xn V l v := by
  have h1 := nd_int hR hv hl
  have h2 := vxI_int hR hl hv
  rw [Xn_in hv]; omega
theorem Xn_An (hR : Rt V S T) (hL : (L : Int) < lv V) (hL' : (L' : Int) < lv V) (hu : (u : Int) < V) (hs : (s : Int) < S) (hd : d < 2) : Xn V L u ≠ An V S L' s d := fun e => by
  have h1 := (vxI_in hR hL hu).2.2.1
  have h2 := (arI_in hR hL' hs hd).2.2.1
  rw [Xn_in hu, An_in hs hd] at e
  rw [e, h2] at h1; cases h1
theorem An_lvl (hR : Rt V S T) (hL : (L : Int) < lv V) (hL' : (L' : Int) < lv V) (hs : (s : Int) < S) (hu : (u : Int) < S) (hd : d < 2) (hk : k < 2) (e : An V S L s d = An V S L' u k) : L = L' ∧ s = u ∧ d = k := by
  have h1 := lvl_An hR hL hs hd
  have h2 := lvl_An hR hL' hu hk
  rw [e, h2] at h1
  have : L = L' := by omega
  subst this
  exact ⟨rfl, An_inj hR hL hs hd hu hk e⟩
/-- Where cells are turned that are no list's. -/
theorem LF.turn (h : LF V S T f mk ts bs q) (hk : Kl V S T f f') : LF V S T f' mk ts bs q := ⟨h.lq.turn hk, h.mq, h.lk, h.fo, h.pa, h.px⟩
theorem hasB_zero : hasB 0 k = false := by unfold hasB; simp
end

end Go.Proofs.Ytaooglagddphnaa

namespace Go.Proofs.Ytaooglagddphnaa
open Go.RowKit

set_option maxRecDepth 100000

section
variable {w w' w0 W : World} {V S T : Int} {b p gb cap m m' L L' s u v i l : Nat} {f f' : Nat → Int} {mk mk' : Nat → Nat} {ts ts' : List Tp} {bs bs' : List E1} {q q' : Nat → Nat → List Nat} {x e x' : E1} {gr : List (Option (Nat × Nat))} {rows : List (List Nat)} {g : Mg9}
/-- A tree with any row. -/
def anyT : List Nat → Tp
  | [] => .nil
  | x :: l => .node .nil x (anyT l)
theorem anyT_row : ∀ l : List Nat, (anyT l).row = l
  | [] => rfl
  | x :: l => by show Tp.row (.node .nil x (anyT l)) = _; rw [Tp.row_node, anyT_row l]; rfl
theorem LG.way (h : LG V S T f mk ts bs q) (hR : Rt V S T) (hF : FJ V S mk ts) {t : Tp} (hL : (L : Int) < lv V) (ht : t ∈ ts) (hx : Xn V L u ∈ t.row) (hu : (u : Int) < V) (v : Nat) : Way (tE bs L) u v ↔ Xn V L v ∈ t.row := by
  obtain ⟨gr, hV, hg⟩ := h.lf.fo
  obtain ⟨z, hz, hx1, hj⟩ := hV.row hR hL hF hu
  have e := hF.uniq hz ht hx1 hx
  subst e
  rw [← Jn.way (hg L hL)]; exact hj v
theorem ER.len_le (h : ER V S T f bs) : bs.length ≤ S.toNat := by
  have h1 : (bs.map E1.s).Nodup := by
    rw [List.Nodup, List.pairwise_map]
    exact h.un.imp fun h => h.1
  have := nodup_len12 h1 fun y hy => by
    obtain ⟨e, he, rfl⟩ := List.mem_map.1 hy
    have := (h.ok e he).2.2.1
    exact (by omega : e.s < S.toNat)
  rwa [List.length_map] at this
end

end Go.Proofs.Ytaooglagddphnaa

namespace Go.Proofs.Ytaooglagddphnaa
open Go.RowKit

set_option maxRecDepth 100000

section
variable {w w' w0 W : World} {V S T : Int} {b p gb cap m L s u v i l : Nat} {f f' : Nat → Int} {mk mk' : Nat → Nat} {ts ts' : List Tp} {bs bs' : List E1} {q q' : Nat → Nat → List Nat} {x e x' : E1}
theorem LF.qlen (h : LF V S T f mk ts bs q) (hR : Rt V S T) (hu : bs.Pairwise fun a b => a.s ≠ b.s ∧ ¬ (a.u = b.u ∧ a.v = b.v)) (hne : ∀ e ∈ bs, e.u ≠ e.v) (u l : Nat) : ((q u l).length : Int) ≤ S :=
  dl_len hR h.lk h.lq (hu.filter _) fun e he => hne e (List.mem_filter.1 he).1
end

end Go.Proofs.Ytaooglagddphnaa
