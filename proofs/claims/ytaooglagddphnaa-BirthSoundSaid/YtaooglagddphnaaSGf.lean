/- Gf: what BiPSound leans on. Printed by wip/tools/slim13.py. -/
import Derived.Test.YtaooglagddphnaaSGra
import Derived.Test.YtaooglagddphnaaSGb

namespace Go.Proofs.Ytaooglagddphnaa
open Go.RowKit

set_option maxRecDepth 100000

section
variable {V S T : Int} {i k x : Nat} {g : Mg9} {mk : Nat → Nat} {ts ts' L R : List Tp} {t s u z ta tb : Tp} {a b : List Nat}
theorem FI.uniq (hF : FI V S g mk ts) (ht : t ∈ ts) (hs : s ∈ ts) (hx : x ∈ t.row) (hy : x ∈ s.row) : t = s := by
  obtain ⟨i, hi⟩ := List.mem_iff_getElem?.1 ht
  obtain ⟨k, hk⟩ := List.mem_iff_getElem?.1 hs
  by_cases hik : i = k
  · subst hik; rw [hi] at hk; injection hk
  · exfalso
    have := (hF.perm (hF.pair hik hi hk)).nd
    rw [List.flatMap_append, List.nodup_append, flat_two, List.nodup_append] at this
    exact this.1.2.2 x hx x hy rfl
theorem FI.root_in (hF : FI V S g mk ts) (ht : t ∈ ts) : t.root ∈ t.row ∧ t.root ≠ 0 := by
  have h1 : t.root ∈ t.row := by
    cases t with
    | nil => exact absurd rfl (hF.st _ ht).2.2
    | node l x r => simp [Tp.root, Tp.row]
  exact ⟨h1, (hF.nodes ht _ h1).1⟩
end
def vxI (V : Int) (L u : Nat) : Nat := ((L : Int) * V + u + 1).toNat
def arI (V : Int) (L s d : Nat) : Nat := (vn V + (s : Int) * sn V + 2 * L + d + 1).toNat
/-- A vertex's node; numbers above all nodes for what isn't there. -/
def Xn (V : Int) (L u : Nat) : Nat := if (u : Int) < V then vxI V L u else 1000 + 2 * u
/-- A slot's arc. -/
def An (V S : Int) (L s d : Nat) : Nat := if (s : Int) < S ∧ d < 2 then arI V L s d else 1001 + 2 * s
section
variable {V S T : Int} {L L' u v s s' d d' x : Nat}
theorem level_mul (h : Rt V S T) (hL : (L : Int) < lv V) : 0 ≤ (L : Int) * V ∧ (L : Int) * V + V ≤ vn V := by
  have h1 := h.v1
  have e : ((L : Int) + 1) * V ≤ lv V * V := Int.mul_le_mul_of_nonneg_right (by omega) (by omega)
  rw [Int.add_mul] at e
  refine ⟨Int.mul_nonneg (by omega) (by omega), ?_⟩
  unfold vn; omega
theorem slot_mul (h : Rt V S T) (hs : (s : Int) < S) : 0 ≤ (s : Int) * sn V ∧ (s : Int) * sn V + sn V ≤ S * sn V := by
  have z := sizes h
  have h1 := z.sn1
  have e : ((s : Int) + 1) * sn V ≤ S * sn V := Int.mul_le_mul_of_nonneg_right (by omega) (by omega)
  rw [Int.add_mul] at e
  exact ⟨Int.mul_nonneg (by omega) (by omega), by omega⟩
theorem vxI_int (h : Rt V S T) (hL : (L : Int) < lv V) (_hu : (u : Int) < V) : ((vxI V L u : Nat) : Int) = (L : Int) * V + u + 1 := by
  have := level_mul h hL
  unfold vxI; omega
theorem arI_int (h : Rt V S T) (_hL : (L : Int) < lv V) (hs : (s : Int) < S) (_hd : d < 2) : ((arI V L s d : Nat) : Int) = vn V + (s : Int) * sn V + 2 * L + d + 1 := by
  have := slot_mul h hs
  have z := (sizes h).vn1
  unfold arI; omega
theorem vxI_in (h : Rt V S T) (hL : (L : Int) < lv V) (hu : (u : Int) < V) : 1 ≤ vxI V L u ∧ vxI V L u ≤ nN V S ∧ arcN V (vxI V L u) = false ∧ lvN V (vxI V L u) = (L : Int) ∧ (((vxI V L u : Nat) : Int) - 1) % V = u := by
  have h1 := vxI_int h hL hu
  have h2 := level_mul h hL
  have h3 := nN_int h
  have z := sizes h
  have h4 := z.ss1
  have h5 := h.v1
  have e : nd V S = vn V + S * sn V := rfl
  have h6 : ¬ vn V ≤ ((vxI V L u : Nat) : Int) - 1 := by omega
  refine ⟨by omega, by omega, ?_, ?_, ?_⟩
  · unfold arcN; exact decide_eq_false h6
  · unfold lvN
    rw [if_neg h6, h1, show (L : Int) * V + u + 1 - 1 = u + L * V by omega, Int.add_mul_ediv_right _ _ (by omega), Int.ediv_eq_zero_of_lt (by omega) hu, Int.zero_add]
  · rw [h1, show (L : Int) * V + u + 1 - 1 = u + L * V by omega, Int.add_mul_emod_self_right, Int.emod_eq_of_lt (by omega) hu]
theorem arI_in (h : Rt V S T) (hL : (L : Int) < lv V) (hs : (s : Int) < S) (hd : d < 2) : 1 ≤ arI V L s d ∧ arI V L s d ≤ nN V S ∧ arcN V (arI V L s d) = true ∧ lvN V (arI V L s d) = (L : Int) ∧ (((arI V L s d : Nat) : Int) - 1 - vn V) / sn V = s ∧ (((arI V L s d : Nat) : Int) - 1 - vn V) % 2 = d := by
  have h1 := arI_int h hL hs hd
  have h2 := slot_mul h hs
  have h3 := nN_int h
  have z := sizes h
  have h4 := z.vn1
  have h5 := z.sn1
  have e : nd V S = vn V + S * sn V := rfl
  have es : sn V = lv V * 2 := rfl
  have h6 : vn V ≤ ((arI V L s d : Nat) : Int) - 1 := by omega
  have e2 : ((arI V L s d : Nat) : Int) - 1 - vn V = (2 * L + d : Int) + s * sn V := by omega
  refine ⟨by omega, by omega, ?_, ?_, ?_, ?_⟩
  · unfold arcN; exact decide_eq_true h6
  · unfold lvN
    rw [if_pos h6, e2, Int.add_mul_emod_self_right, Int.emod_eq_of_lt (by omega) (by omega)]; omega
  · rw [e2, Int.add_mul_ediv_right _ _ (by omega), Int.ediv_eq_zero_of_lt (by omega) (by omega), Int.zero_add]
  · rw [e2, show (2 * (L : Int) + d + s * sn V) = d + (L + s * lv V) * 2 by rw [es, Int.add_mul, Int.mul_assoc]; omega, Int.add_mul_emod_self_right]; omega
theorem Xn_in (hu : (u : Int) < V) : Xn V L u = vxI V L u := if_pos hu
theorem An_in (hs : (s : Int) < S) (hd : d < 2) : An V S L s d = arI V L s d := if_pos ⟨hs, hd⟩
theorem Xn_node (h : Rt V S T) (hx : Xn V L u ≤ nN V S) : (u : Int) < V := by
  have := nN_le h
  unfold Xn at hx
  split at hx
  · assumption
  · omega
theorem An_node (h : Rt V S T) (hx : An V S L s d ≤ nN V S) : (s : Int) < S ∧ d < 2 := by
  have := nN_le h
  unfold An at hx
  split at hx
  · assumption
  · omega
theorem Xn_inj (h : Rt V S T) (hL : (L : Int) < lv V) : ∀ u v, Xn V L u = Xn V L v → u = v := by
  intro u v e
  have hn := nN_le h
  unfold Xn at e
  split at e <;> split at e
  · rename_i h1 h2
    have a1 := vxI_int h hL h1
    have a2 := vxI_int h hL h2
    rw [e] at a1; omega
  · rename_i h1 h2
    have := vxI_in h hL h1; omega
  · rename_i h1 h2
    have := vxI_in h hL h2; omega
  · omega
theorem An_Xn (h : Rt V S T) (hL : (L : Int) < lv V) : ∀ s i u, An V S L s i ≠ Xn V L u := by
  intro s i u e
  have hn := nN_le h
  unfold Xn An at e
  split at e <;> split at e
  · rename_i h1 h2
    have a1 := (vxI_in h hL h2).2.2.1
    have a2 := (arI_in h hL h1.1 h1.2).2.2.1
    rw [e, a1] at a2; cases a2
  · rename_i h1 h2
    have := arI_in h hL h1.1 h1.2; omega
  · rename_i h1 h2
    have := vxI_in h hL h2; omega
  · omega
theorem An_inj (h : Rt V S T) (hL : (L : Int) < lv V) (h1 : (s : Int) < S) (h2 : d < 2) (h3 : (s' : Int) < S) (h4 : d' < 2) (e : An V S L s d = An V S L s' d') : s = s' ∧ d = d' := by
  rw [An_in h1 h2, An_in h3 h4] at e
  have a := (arI_in h hL h1 h2).2.2.2.2
  have b := (arI_in h hL h3 h4).2.2.2.2
  rw [e] at a; omega
end
/-- All of a level: its rows go around trees of the graph's edges; each is a tree of the forest; arcs that aren't linked are alone. -/
structure Lv (V S : Int) (L : Nat) (ts : List Tp) (rows : List (List Nat)) (gr : List (Option (Nat × Nat))) : Prop where
  tour : ∃ P : List (List Nat × List (Nat × Nat × Nat)), (P.map Prod.fst).Perm rows ∧ (∀ p ∈ P, Tour (Xn V L) (An V S L) p.1 p.2) ∧ Lnk gr (P.flatMap Prod.snd)
  has : ∀ r ∈ rows, ∃ t ∈ ts, t.row = r
  nd : rows.flatten.Nodup
  cov : ∀ u : Nat, (u : Int) < V → ∃ r ∈ rows, Xn V L u ∈ r
  loose : ∀ s : Nat, (s : Int) < S → gr[s]? = some none → ∀ d, d < 2 → ∃ t ∈ ts, t.row = [An V S L s d]
  len : gr.length = S.toNat

section
variable {V S T : Int} {L L' s u v i j k x y : Nat} {ts ts' : List Tp} {rows rows' R : List (List Nat)} {gr gr' : List (Option (Nat × Nat))} {r r' : List Nat} {g g' : Mg9} {mk mk' : Nat → Nat} {t z : Tp}
theorem idx_uniq (h : rows.flatten.Nodup) (hi : rows[i]? = some r) (hj : rows[j]? = some r') (h1 : x ∈ r) (h2 : x ∈ r') : i = j := by
  by_cases e : i = j
  · exact e
  · exfalso
    have hp := (wo_perm2 e (Nat.zero_le _) (Nat.zero_le _) hi hj).flatten.nodup_iff.1 h
    rw [List.flatten_cons, List.flatten_cons, List.nodup_append] at hp
    exact hp.2.2 x h1 x (List.mem_append_left _ h2) rfl
theorem pick {α β : Type} {f : α → β} {P : List α} {x : β} {R : List β} (h : (P.map f).Perm (x :: R)) : ∃ p P', f p = x ∧ P.Perm (p :: P') ∧ (P'.map f).Perm R := by
  obtain ⟨p, hp, e⟩ := List.mem_map.1 (h.mem_iff.2 (List.mem_cons_self ..))
  obtain ⟨a, b, rfl⟩ := List.append_of_mem hp
  refine ⟨p, a ++ b, e, List.perm_middle, ?_⟩
  have h2 : (List.map f (a ++ p :: b)).Perm (x :: List.map f (a ++ b)) := by
    rw [← e, ← List.map_cons]
    exact List.perm_middle.map f
  exact (List.perm_cons x).1 (h2.symm.trans h)
/-- The order of a level's rows is nothing. -/
theorem Lv.perm (h : Lv V S L ts rows gr) (hp : rows.Perm rows') : Lv V S L ts rows' gr := by
  obtain ⟨P, a, b, c⟩ := h.tour
  exact ⟨⟨P, a.trans hp, b, c⟩, fun r hr => h.has r (hp.mem_iff.2 hr), hp.flatten.nodup_iff.1 h.nd, fun u hu => by obtain ⟨r, hr, e⟩ := h.cov u hu; exact ⟨r, hp.mem_iff.1 hr, e⟩, h.loose, h.len⟩
theorem Lv.edges (h : Lv V S L ts rows gr) (hr : r ∈ rows) : ∃ E, Tour (Xn V L) (An V S L) r E ∧ ∀ s a b, (s, a, b) ∈ E → gr[s]? = some (some (a, b)) := by
  obtain ⟨P, hp, ht, hk⟩ := h.tour
  obtain ⟨p, hp1, rfl⟩ := List.mem_map.1 (hp.mem_iff.2 hr)
  exact ⟨p.2, ht p hp1, fun s a b hm => (hk s a b).1 (List.mem_flatMap.2 ⟨p, hp1, hm⟩)⟩
theorem Lv.edge (h : Lv V S L ts rows gr) (hs : gr[s]? = some (some (u, v))) : ∃ r E, r ∈ rows ∧ Tour (Xn V L) (An V S L) r E ∧ (s, u, v) ∈ E := by
  obtain ⟨P, hp, ht, hk⟩ := h.tour
  obtain ⟨p, hp1, hm⟩ := List.mem_flatMap.1 ((hk s u v).2 hs)
  exact ⟨p.1, p.2, hp.mem_iff.1 (List.mem_map_of_mem hp1), ht p hp1, hm⟩
theorem Lv.node_le (h : Lv V S L ts rows gr) (hF : FI V S g mk ts) (hr : r ∈ rows) (hy : y ∈ r) : y ≠ 0 ∧ y ≤ nN V S := by
  obtain ⟨t, ht, e⟩ := h.has r hr
  exact hF.nodes ht y (by rw [e]; exact hy)
theorem Lv.vert (h : Lv V S L ts rows gr) (hR : Rt V S T) (hF : FI V S g mk ts) (hr : r ∈ rows) : ∃ u : Nat, (u : Int) < V ∧ Xn V L u ∈ r := by
  obtain ⟨E, hT, _⟩ := h.edges hr
  obtain ⟨u, hu⟩ := hT.has
  exact ⟨u, Xn_node hR (h.node_le hF hr hu).2, hu⟩
theorem Lv.no_arc (h : Lv V S L ts rows gr) (hR : Rt V S T) (hL : (L : Int) < lv V) (hF : FI V S g mk ts) (hs : (s : Int) < S) (hg : gr[s]? = some none) {d : Nat} (hd : d < 2) (hr : r ∈ rows) : An V S L s d ∉ r := fun hm => by
  obtain ⟨t, ht, e⟩ := h.has r hr
  obtain ⟨c, hc, e2⟩ := h.loose s hs hg d hd
  have := hF.uniq (x := An V S L s d) ht hc (by rw [e]; exact hm) (by rw [e2]; simp)
  subst this
  obtain ⟨u, _, hx⟩ := h.vert hR hF hr
  rw [← e, e2] at hx
  exact An_Xn hR hL s d u (List.mem_singleton.1 hx).symm
theorem Lv.ends (h : Lv V S L ts rows gr) (hR : Rt V S T) (hF : FI V S g mk ts) (hs : gr[s]? = some (some (u, v))) : (u : Int) < V ∧ (v : Int) < V ∧ (s : Int) < S := by
  obtain ⟨r, E, hr, hT, hm⟩ := h.edge hs
  obtain ⟨a, b, c, d⟩ := hT.mem hm
  exact ⟨Xn_node hR (h.node_le hF hr c).2, Xn_node hR (h.node_le hF hr d).2, (An_node hR (h.node_le hF hr a).2).1⟩
/-- A loose arc's tree is none of the rows'. -/
theorem Lv.loose_ne (h : Lv V S L ts rows gr) (hR : Rt V S T) (hL : (L : Int) < lv V) (hF : FI V S g mk ts) (hr : r ∈ rows) (htr : t.row = r) {d : Nat} (hz : z.row = [An V S L s d]) : z ≠ t := fun e => by
  obtain ⟨u, _, hx⟩ := h.vert hR hF hr
  rw [← htr, ← e, hz] at hx
  exact An_Xn hR hL s d u (List.mem_singleton.1 hx).symm
/-- Of two rows the trees aren't one. -/
theorem Lv.rest_ne (h : Lv V S L ts rows gr) (hR : Rt V S T) (hF : FI V S g mk ts) (hp : rows.Perm (r :: R)) (hr' : r' ∈ R) (htr : t.row = r) (hz : z.row = r') : z ≠ t := fun e => by
  have hm : r' ∈ rows := hp.mem_iff.2 (List.mem_cons_of_mem _ hr')
  obtain ⟨u, _, hx⟩ := h.vert hR hF hm
  have hn := hp.flatten.nodup_iff.1 h.nd
  rw [List.flatten_cons, List.nodup_append] at hn
  refine hn.2.2 _ ?_ _ (List.mem_flatten.2 ⟨r', hr', hx⟩) rfl
  rw [← htr, ← e, hz]; exact hx
end
section
variable {V S T : Int} {L L' s u v i j k x y : Nat} {ts ts' : List Tp} {rows rows' R : List (List Nat)} {gr gr' : List (Option (Nat × Nat))} {r r' : List Nat} {g g' : Mg9} {mk mk' : Nat → Nat} {t t2 c0 c1 z : Tp}
/-- What is linked stands in one row, and its arcs part it. -/
theorem Lv.parts (h : Lv V S L ts rows gr) (hR : Rt V S T) (hL : (L : Int) < lv V) (hF : FI V S g mk ts) (hg : gr[s]? = some (some (u, v))) : ∃ r ∈ rows, ∃ c d pp qq rr, Arcs (An V S L) s c d ∧ r = pp ++ c :: (qq ++ d :: rr) ∧ r.Nodup ∧ qq ≠ [] ∧ pp ++ rr ≠ [] := by
  have hs := (h.ends hR hF hg).2.2
  obtain ⟨r, E, hr, hT, hm⟩ := h.edge hg
  obtain ⟨m0, m1, _, _⟩ := hT.mem hm
  have hn : r.Nodup := by
    obtain ⟨t, ht, e⟩ := h.has r hr
    rw [← e]; exact hF.one ht
  have hne : An V S L s 0 ≠ An V S L s 1 := fun e => by have := (An_inj hR hL hs (by decide) hs (by decide) e).2; omega
  obtain ⟨c, d, pp, qq, rr, ha, e⟩ : ∃ c d pp qq rr, Arcs (An V S L) s c d ∧ r = pp ++ c :: (qq ++ d :: rr) := by
    obtain ⟨a, b, e⟩ := List.append_of_mem m0
    rw [e] at m1
    rcases List.mem_append.1 m1 with h1 | h1
    · obtain ⟨a1, a2, e1⟩ := List.append_of_mem h1
      exact ⟨_, _, a1, a2, b, .inr ⟨rfl, rfl⟩, by rw [e, e1]; simp⟩
    · rcases List.mem_cons.1 h1 with h1 | h1
      · exact absurd h1.symm hne
      · obtain ⟨b1, b2, e1⟩ := List.append_of_mem h1
        exact ⟨_, _, a, b1, b2, .inl ⟨rfl, rfl⟩, by rw [e, e1]⟩
  obtain ⟨E1, E2, _, T1, T2, _⟩ := hT.cut (An_Xn hR hL) hn hm e ha
  obtain ⟨u1, h1⟩ := T1.has
  obtain ⟨u2, h2⟩ := T2.has
  exact ⟨r, hr, c, d, pp, qq, rr, ha, e, hn, List.ne_nil_of_mem h1, List.ne_nil_of_mem h2⟩
theorem Lv.cut {c d : Nat} {pp qq rr : List Nat} {ti tu ct dt : Tp} (h : Lv V S L ts rows gr) (hR : Rt V S T) (hL : (L : Int) < lv V) (hF : FI V S g mk ts) (hg : gr[s]? = some (some (u, v))) (ha : Arcs (An V S L) s c d) (hp : rows.Perm ((pp ++ c :: (qq ++ d :: rr)) :: R))
    (htr : t.row = pp ++ c :: (qq ++ d :: rr)) (hti : ti ∈ ts') (htu : tu ∈ ts') (hri : ti.row = qq) (hru : tu.row = pp ++ rr) (hct : ct ∈ ts') (hrc : ct.row = [c]) (hdt : dt ∈ ts') (hrd : dt.row = [d]) (hk : ∀ z ∈ ts, z ≠ t → z ∈ ts') :
    Lv V S L ts' (qq :: (pp ++ rr) :: R) (gr.set s none) ∧ ((Xn V L u ∈ qq ∧ Xn V L v ∈ pp ++ rr) ∨ (Xn V L v ∈ qq ∧ Xn V L u ∈ pp ++ rr)) := by
  have hsl := (List.getElem?_eq_some_iff.1 hg).1
  have hs := (h.ends hR hF hg).2.2
  have h1 := h.perm hp
  have m1 : (pp ++ c :: (qq ++ d :: rr)) ∈ rows := hp.mem_iff.2 (by simp)
  have hpf : rows.flatten.Perm (c :: d :: (qq :: (pp ++ rr) :: R).flatten) := by
    refine hp.flatten.trans ?_
    refine List.perm_iff_count.2 fun z => ?_
    simp only [List.flatten_cons, List.count_append, List.count_cons]
    omega
  have hnd := hpf.nodup_iff.1 h.nd
  rw [List.nodup_cons, List.nodup_cons, List.mem_cons, not_or] at hnd
  obtain ⟨⟨hcd, hc⟩, hd, hn'⟩ := hnd
  have noarc : ∀ {d' : Nat}, d' < 2 → An V S L s d' ∉ (qq :: (pp ++ rr) :: R).flatten := fun hd' hm => by
    rename_i d'
    have : d' = 0 ∨ d' = 1 := by omega
    rcases ha with ⟨rfl, rfl⟩ | ⟨rfl, rfl⟩ <;> rcases this with rfl | rfl
    · exact hc hm
    · exact hd hm
    · exact hd hm
    · exact hc hm
  have hrn : (pp ++ c :: (qq ++ d :: rr)).Nodup := by
    have := hp.flatten.nodup_iff.1 h.nd
    rw [List.flatten_cons, List.nodup_append] at this
    exact this.1
  obtain ⟨P, p1, p2, p3⟩ := h.tour
  obtain ⟨p, P', e1, q1, q2⟩ := pick (p1.trans hp)
  have T1 := p2 p (q1.mem_iff.2 (List.mem_cons_self ..))
  rw [e1] at T1
  have hm : ∀ e, e ∈ P.flatMap Prod.snd ↔ e ∈ p.2 ∨ e ∈ P'.flatMap Prod.snd := fun e => by
    rw [(q1.flatMap_right Prod.snd).mem_iff, List.flatMap_cons, List.mem_append]
  have nP : ∀ {a b : Nat}, (s, a, b) ∉ P'.flatMap Prod.snd := fun hm' => by
    obtain ⟨p', hp', hx⟩ := List.mem_flatMap.1 hm'
    have hin := ((p2 p' (q1.mem_iff.2 (List.mem_cons_of_mem _ hp'))).mem hx).1
    refine noarc (d' := 0) (by decide) (List.mem_flatten.2 ⟨p'.1, ?_, hin⟩)
    exact List.mem_cons_of_mem _ (List.mem_cons_of_mem _ (q2.mem_iff.1 (List.mem_map_of_mem hp')))
  have hin : (s, u, v) ∈ p.2 := by
    rcases (hm _).1 ((p3 s u v).2 hg) with h | h
    · exact h
    · exact absurd h nP
  obtain ⟨E1, E2, pe, TI, TO, hends⟩ := T1.cut (An_Xn hR hL) hrn hin rfl ha
  refine ⟨⟨⟨(qq, E1) :: (pp ++ rr, E2) :: P', by simpa using q2, fun p0 hp0 => ?_, fun s' a b => ?_⟩, fun r hr => ?_, hn', fun w hw => ?_, fun s' hs' hg' d' hd' => ?_, by rw [List.length_set]; exact h.len⟩, hends⟩
  · rcases List.mem_cons.1 hp0 with rfl | hp0
    · exact TI
    · rcases List.mem_cons.1 hp0 with rfl | hp0
      · exact TO
      · exact p2 p0 (q1.mem_iff.2 (List.mem_cons_of_mem _ hp0))
  · rw [List.flatMap_cons, List.flatMap_cons, List.mem_append, List.mem_append]
    by_cases e : s' = s
    · subst e
      rw [List.getElem?_set_self hsl]
      constructor
      · rintro (h | h | h)
        · exact absurd (List.mem_flatten.2 ⟨qq, by simp, (TI.mem h).1⟩) (noarc (by decide))
        · exact absurd (List.mem_flatten.2 ⟨pp ++ rr, by simp, (TO.mem h).1⟩) (noarc (by decide))
        · exact absurd h nP
      · intro h; cases h
    · rw [List.getElem?_set_ne (Ne.symm e), ← p3 s' a b, hm, pe.mem_iff, List.mem_cons, List.mem_append]
      simp [e, or_assoc]
  · rcases List.mem_cons.1 hr with rfl | hr
    · exact ⟨ti, hti, hri⟩
    · rcases List.mem_cons.1 hr with rfl | hr
      · exact ⟨tu, htu, hru⟩
      · obtain ⟨z, hz, e3⟩ := h1.has r (by simp [hr])
        exact ⟨z, hk z hz (h.rest_ne hR hF hp hr htr e3), e3⟩
  · obtain ⟨r, hr, hx⟩ := h1.cov w hw
    rcases List.mem_cons.1 hr with rfl | hr
    · have nx : ∀ {e : Nat}, (e = c ∨ e = d) → Xn V L w ≠ e := fun he => by
        rcases ha with ⟨rfl, rfl⟩ | ⟨rfl, rfl⟩ <;> rcases he with rfl | rfl <;> exact fun e => An_Xn hR hL _ _ _ e.symm
      have n1 := nx (.inl rfl)
      have n2 := nx (.inr rfl)
      simp only [List.mem_append, List.mem_cons, n1, n2, false_or] at hx
      rcases hx with h | h | h
      · exact ⟨pp ++ rr, by simp, by simp [h]⟩
      · exact ⟨qq, by simp, h⟩
      · exact ⟨pp ++ rr, by simp, by simp [h]⟩
    · exact ⟨r, by simp [hr], hx⟩
  · by_cases e : s' = s
    · subst e
      have : d' = 0 ∨ d' = 1 := by omega
      rcases ha with ⟨rfl, rfl⟩ | ⟨rfl, rfl⟩ <;> rcases this with rfl | rfl
      · exact ⟨ct, hct, hrc⟩
      · exact ⟨dt, hdt, hrd⟩
      · exact ⟨dt, hdt, hrd⟩
      · exact ⟨ct, hct, hrc⟩
    · rw [List.getElem?_set_ne (Ne.symm e)] at hg'
      obtain ⟨z, hz, e2⟩ := h.loose s' hs' hg' d' hd'
      exact ⟨z, hk z hz (h.loose_ne hR hL hF m1 htr e2), e2⟩
end
section
variable {V S T : Int} {L s u v i j x y : Nat} {ts : List Tp} {rows : List (List Nat)} {gr : List (Option (Nat × Nat))} {r r' : List Nat} {g : Mg9} {mk : Nat → Nat}
theorem row_nd (h : rows.flatten.Nodup) (hr : r ∈ rows) : r.Nodup := by
  obtain ⟨i, hi⟩ := List.mem_iff_getElem?.1 hr
  have hp := (wo_perm1 (Nat.zero_le _) hi).flatten.nodup_iff.1 h
  rw [List.flatten_cons, List.nodup_append] at hp
  exact hp.1
theorem Lv.joined (h : Lv V S L ts rows gr) (hR : Rt V S T) (hL : (L : Int) < lv V) (hF : FI V S g mk ts) : ∃ E, Lnk gr E ∧ (∀ s a b, (s, a, b) ∈ E → a < V.toNat ∧ b < V.toNat) ∧ ∀ r ∈ rows, ∀ u v, Xn V L u ∈ r → (Way E u v ↔ Xn V L v ∈ r) := by
  obtain ⟨P, p1, p2, p3⟩ := h.tour
  refine ⟨_, p3, fun s a b hm => ?_, fun r hr u v hu => ⟨fun hw => ?_, fun hv => ?_⟩⟩
  · have := h.ends hR hF ((p3 s a b).1 hm)
    omega
  · have one : ∀ {s a b w : Nat}, (s, a, b) ∈ P.flatMap Prod.snd → (w = a ∨ w = b) → Xn V L w ∈ r → Xn V L a ∈ r ∧ Xn V L b ∈ r := by
      intro s a b w hm hw hx
      obtain ⟨p, hp, hm⟩ := List.mem_flatMap.1 hm
      obtain ⟨_, _, ma, mb⟩ := (p2 p hp).mem hm
      have hr2 : p.1 ∈ rows := p1.mem_iff.1 (List.mem_map_of_mem hp)
      obtain ⟨i, hi⟩ := List.mem_iff_getElem?.1 hr
      obtain ⟨j, hj⟩ := List.mem_iff_getElem?.1 hr2
      have hwp : Xn V L w ∈ p.1 := by rcases hw with rfl | rfl; exact ma; exact mb
      have := idx_uniq h.nd hi hj hx hwp
      subst this
      rw [hi] at hj
      injection hj with hj
      rw [hj]; exact ⟨ma, mb⟩
    clear h hF hr p1 p2 p3
    induction hw with
    | refl => exact hu
    | fore _ he ih => exact (one he (.inl rfl) (ih hu)).2
    | back _ he ih => exact (one he (.inr rfl) (ih hu)).1
  · obtain ⟨p, hp, rfl⟩ := List.mem_map.1 (p1.mem_iff.2 hr)
    exact ((p2 p hp).joined (Xn_inj hR hL) (An_Xn hR hL) hu hv).mono fun e he => List.mem_flatMap.2 ⟨p, hp, he⟩
theorem vxN_X (hR : Rt V S T) (hL : (L : Int) < lv V) (hu : (u : Int) < V) : vxN V (Xn V L u) = true := by
  unfold vxN; rw [Xn_in hu, (vxI_in hR hL hu).2.2.1]; rfl
theorem vxN_A (hR : Rt V S T) (hL : (L : Int) < lv V) (hs : (s : Int) < S) {d : Nat} (hd : d < 2) : vxN V (An V S L s d) = false := by
  unfold vxN; rw [An_in hs hd, (arI_in hR hL hs hd).2.2.1]; rfl
/-- A row's node is a vertex's, or an arc's. -/
theorem Lv.kind (h : Lv V S L ts rows gr) (hR : Rt V S T) (hF : FI V S g mk ts) (hr : r ∈ rows) (hy : y ∈ r) : (∃ u : Nat, (u : Int) < V ∧ y = Xn V L u) ∨ ∃ s d : Nat, (s : Int) < S ∧ d < 2 ∧ y = An V S L s d := by
  have hle := (h.node_le hF hr hy).2
  obtain ⟨E, hT, _⟩ := h.edges hr
  rcases hT.node hy with ⟨u, rfl⟩ | ⟨s, a, b, _, e⟩
  · exact .inl ⟨u, Xn_node hR hle, rfl⟩
  · rcases e with rfl | rfl
    · exact .inr ⟨s, 0, (An_node hR hle).1, by decide, rfl⟩
    · exact .inr ⟨s, 1, (An_node hR hle).1, by decide, rfl⟩
theorem Lv.count (h : Lv V S L ts rows gr) (hR : Rt V S T) (hL : (L : Int) < lv V) (hF : FI V S g mk ts) (hr : r ∈ rows) : cntV (vxN V) r = ((List.range V.toNat).filter fun v => decide (Xn V L v ∈ r)).length := by
  unfold cntV
  refine Eq.trans ?_ (List.length_map (Xn V L))
  refine List.Perm.length_eq ((List.perm_ext_iff_of_nodup ?_ ?_).2 fun y => ?_)
  · exact (row_nd h.nd hr).filter _
  · have hn : ((List.range V.toNat).filter fun v => decide (Xn V L v ∈ r)).Nodup := List.nodup_range.filter _
    unfold List.Nodup at hn ⊢
    rw [List.pairwise_map]
    exact hn.imp fun hne e => hne (Xn_inj hR hL _ _ e)
  · rw [List.mem_filter, List.mem_map]
    constructor
    · rintro ⟨hy, hv⟩
      rcases h.kind hR hF hr hy with ⟨u, hu, rfl⟩ | ⟨s, d, hs, hd, rfl⟩
      · exact ⟨u, List.mem_filter.2 ⟨List.mem_range.2 (by omega), decide_eq_true hy⟩, rfl⟩
      · rw [vxN_A hR hL hs hd] at hv; cases hv
    · rintro ⟨u, hu, rfl⟩
      obtain ⟨hu1, hu2⟩ := List.mem_filter.1 hu
      have := List.mem_range.1 hu1
      exact ⟨of_decide_eq_true hu2, vxN_X hR hL (by omega)⟩
end
section
variable {V S T : Int} {n L L' s u v i j k x y : Nat} {ts ts' : List Tp} {rs : Nat → List (List Nat)} {gr : Nat → List (Option (Nat × Nat))} {rows : List (List Nat)} {g : Mg9} {mk : Nat → Nat} {t t2 t' c0 c1 z : Tp} {a1 a2 b1 b2 : List Nat} {r : List Nat}
theorem lvl_An (hR : Rt V S T) (hL : (L : Int) < lv V) (hs : (s : Int) < S) {d : Nat} (hd : d < 2) : lvN V (An V S L s d) = (L : Int) := by
  rw [An_in hs hd]; exact (arI_in hR hL hs hd).2.2.2.1
end

end Go.Proofs.Ytaooglagddphnaa

namespace Go.Proofs.Ytaooglagddphnaa
open Go.RowKit

set_option maxRecDepth 100000

section
variable {w w' w0 W : World} {V S T : Int} {p gb cap m m' i k x y : Nat} {f f' : Nat → Int} {g g' : Mg9} {mk mk' : Nat → Nat} {ts ts' L R : List Tp} {t s u z ta tb : Tp} {a b : List Nat}
/-- A forest over some memory. -/
def FJ (V S : Int) (mk : Nat → Nat) (ts : List Tp) : Prop := ∃ g, FI V S g mk ts
theorem FJ.uniq (h : FJ V S mk ts) (ht : t ∈ ts) (hs : s ∈ ts) (hx : x ∈ t.row) (hy : x ∈ s.row) : t = s := by obtain ⟨_, h⟩ := h; exact h.uniq ht hs hx hy
end

end Go.Proofs.Ytaooglagddphnaa
