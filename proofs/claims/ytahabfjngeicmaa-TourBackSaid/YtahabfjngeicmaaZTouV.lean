/- The law's step, plainly: what a link, a cut and a beginning leave of all levels. -/
import Derived.Test.YtahabfjngeicmaaZH
namespace Go.Proofs.Ytahabfjngeicmaa
open Go.RowKit

section
variable {V S T : Int} {n L L' s u v i j k x y : Nat} {ts ts' : List Tp} {rs : Nat → List (List Nat)} {gr : Nat → List (Option (Nat × Nat))} {rows : List (List Nat)} {g : Mg9} {mk : Nat → Nat} {t t2 t' c0 c1 z : Tp} {a1 a2 b1 b2 : List Nat} {r : List Nat}
theorem lvl_An (hR : Rt V S T) (hL : (L : Int) < lv V) (hs : (s : Int) < S) {d : Nat} (hd : d < 2) : lvN V (An V S L s d) = (L : Int) := by
  rw [An_in hs hd]; exact (arI_in hR hL hs hd).2.2.2.1
theorem LI.cong {W : World} {v : Value} {l l' : List Nat} (h : LI W v l) (e : l = l') : LI W v l' := e ▸ h
/-- Two rows and two loose arcs are four trees. -/
theorem Four.of {gr0 : List (Option (Nat × Nat))} (h : Lv V S L ts rows gr0) (hR : Rt V S T) (hL : (L : Int) < lv V) (hF : FI V S g mk ts) (hik : i ≠ k) (hi : rows[i]? = some (a1 ++ Xn V L u :: a2)) (hk : rows[k]? = some (b1 ++ Xn V L v :: b2)) (hg : gr0[s]? = some none) (hs : (s : Int) < S) :
    ∃ t t2 c0 c1, Four ts t t2 c0 c1 (Xn V L u) (Xn V L v) (An V S L s 0) (An V S L s 1) a1 a2 b1 b2 := by
  have hp := wo_perm2 hik (Nat.zero_le _) (Nat.zero_le _) hi hk
  have m1 := List.mem_of_getElem? hi
  have m2 := List.mem_of_getElem? hk
  obtain ⟨t, ht, rt⟩ := h.has _ m1
  obtain ⟨t2, ht2, rt2⟩ := h.has _ m2
  obtain ⟨c0, h0, r0⟩ := h.loose s hs hg 0 (by decide)
  obtain ⟨c1, h1, r1⟩ := h.loose s hs hg 1 (by decide)
  refine ⟨t, t2, c0, c1, ht, ht2, h0, h1, h.rest_ne hR hF hp (by simp) rt rt2, h.loose_ne hR hL hF m1 rt r0, h.loose_ne hR hL hF m1 rt r1, h.loose_ne hR hL hF m2 rt2 r0, h.loose_ne hR hL hF m2 rt2 r1, fun e => ?_, rt, rt2, r0, r1⟩
  rw [e, r0] at r1
  have := (An_inj hR hL hs (by decide) hs (by decide) (List.cons.inj r1).1).2
  omega
/-- What a link leaves of all levels. -/
theorem Lv.all_link (h : ∀ L, L < n → Lv V S L ts (rs L) (gr L)) (hR : Rt V S T) (hn : (n : Int) = lv V) (hL : L < n) (hF : FI V S g mk ts) (hik : i ≠ k) (hi : (rs L)[i]? = some (a1 ++ Xn V L u :: a2)) (hk : (rs L)[k]? = some (b1 ++ Xn V L v :: b2)) (hg : (gr L)[s]? = some none) (hs : (s : Int) < S)
    (hP : Four ts t t2 c0 c1 (Xn V L u) (Xn V L v) (An V S L s 0) (An V S L s 1) a1 a2 b1 b2) (ht' : t' ∈ ts') (hr' : t'.row = lkRow (Xn V L u) (Xn V L v) (An V S L s 0) (An V S L s 1) a1 a2 b1 b2) (hkp : ∀ z ∈ ts, z ≠ t → z ≠ t2 → z ≠ c0 → z ≠ c1 → z ∈ ts') :
    ∀ y, y < n → Lv V S y ts' ((fun y => if y = L then wo i k 0 (rs L) ++ [lkRow (Xn V L u) (Xn V L v) (An V S L s 0) (An V S L s 1) a1 a2 b1 b2] else rs y) y) ((fun y => if y = L then (gr L).set s (some (u, v)) else gr y) y) := by
  intro y hy
  have hLI : (L : Int) < lv V := by omega
  have hyI : (y : Int) < lv V := by omega
  have hp := wo_perm2 hik (Nat.zero_le _) (Nat.zero_le _) hi hk
  by_cases e : y = L
  · subst e
    show Lv V S y ts' (if y = y then _ else _) (if y = y then _ else _)
    rw [if_pos rfl, if_pos rfl]
    exact ((h y hL).link hR hLI hF hp hs hg hP.rt hP.rs hP.r0 hP.r1 ht' hr' hkp).perm (List.perm_append_comm (l₁ := [_]) (l₂ := wo i k 0 (rs y)))
  · show Lv V S y ts' (if y = L then _ else _) (if y = L then _ else _)
    rw [if_neg e, if_neg e]
    refine (h y hy).other hR hyI hF fun z hz hx => hkp z hz ?_ ?_ ?_ ?_
    · exact lvl_ne (fun e' => e e'.symm) (fun x hx' => (h L hL).lvl hR hLI hF (List.mem_of_getElem? hi) (by rw [← hP.rt]; exact hx')) hx
    · exact lvl_ne (fun e' => e e'.symm) (fun x hx' => (h L hL).lvl hR hLI hF (List.mem_of_getElem? hk) (by rw [← hP.rs]; exact hx')) hx
    · refine lvl_ne (fun e' => e e'.symm) (fun x hx' => ?_) hx
      rw [hP.r0, List.mem_singleton] at hx'
      rw [hx']; exact lvl_An hR hLI hs (by decide)
    · refine lvl_ne (fun e' => e e'.symm) (fun x hx' => ?_) hx
      rw [hP.r1, List.mem_singleton] at hx'
      rw [hx']; exact lvl_An hR hLI hs (by decide)
/-- What a cut leaves of all levels. -/
theorem Lv.all_cut {c d : Nat} {pp qq rr : List Nat} {ti tu ct dt : Tp} (h : ∀ L, L < n → Lv V S L ts (rs L) (gr L)) (hR : Rt V S T) (hn : (n : Int) = lv V) (hL : L < n) (hF : FI V S g mk ts) (hi : (rs L)[i]? = some (pp ++ c :: (qq ++ d :: rr))) (hg : (gr L)[s]? = some (some (u, v))) (ha : Arcs (An V S L) s c d)
    (htr : t.row = pp ++ c :: (qq ++ d :: rr)) (hti : ti ∈ ts') (htu : tu ∈ ts') (hri : ti.row = qq) (hru : tu.row = pp ++ rr) (hct : ct ∈ ts') (hrc : ct.row = [c]) (hdt : dt ∈ ts') (hrd : dt.row = [d]) (hkp : ∀ z ∈ ts, z ≠ t → z ∈ ts') :
    ∀ y, y < n → Lv V S y ts' ((fun y => if y = L then wo i i 0 (rs L) ++ [qq, pp ++ rr] else rs y) y) ((fun y => if y = L then (gr L).set s none else gr y) y) := by
  intro y hy
  have hLI : (L : Int) < lv V := by omega
  have hyI : (y : Int) < lv V := by omega
  have hp := wo_perm1 (Nat.zero_le _) hi
  by_cases e : y = L
  · subst e
    show Lv V S y ts' (if y = y then _ else _) (if y = y then _ else _)
    rw [if_pos rfl, if_pos rfl]
    exact ((h y hL).cut hR hLI hF hg ha hp htr hti htu hri hru hct hrc hdt hrd hkp).1.perm (List.perm_append_comm (l₁ := [_, _]) (l₂ := wo i i 0 (rs y)))
  · show Lv V S y ts' (if y = L then _ else _) (if y = L then _ else _)
    rw [if_neg e, if_neg e]
    refine (h y hy).other hR hyI hF fun z hz hx => hkp z hz ?_
    exact lvl_ne (fun e' => e e'.symm) (fun x hx' => (h L hL).lvl hR hLI hF (List.mem_of_getElem? hi) (by rw [← htr]; exact hx')) hx
/-- What a beginning leaves of all levels. -/
theorem Lv.all_begun {a b : List Nat} (h : ∀ L, L < n → Lv V S L ts (rs L) (gr L)) (hR : Rt V S T) (hn : (n : Int) = lv V) (hL : L < n) (hF : FI V S g mk ts) (hi : (rs L)[i]? = some (a ++ x :: b)) (htr : t.row = a ++ x :: b) (ht' : t' ∈ ts') (hr' : t'.row = x :: (b ++ a)) (hkp : ∀ z ∈ ts, z ≠ t → z ∈ ts') :
    ∀ y, y < n → Lv V S y ts' ((fun y => if y = L then (rs L).set i (x :: (b ++ a)) else rs y) y) (gr y) := by
  intro y hy
  have hLI : (L : Int) < lv V := by omega
  have hyI : (y : Int) < lv V := by omega
  by_cases e : y = L
  · subst e
    show Lv V S y ts' (if y = y then _ else _) _
    rw [if_pos rfl]
    exact ((h y hL).begun hR hLI hF (wo_perm1 (Nat.zero_le _) hi) htr ht' hr' hkp).perm (set_perm hi).symm
  · show Lv V S y ts' (if y = L then _ else _) _
    rw [if_neg e]
    refine (h y hy).other hR hyI hF fun z hz hx => hkp z hz ?_
    exact lvl_ne (fun e' => e e'.symm) (fun x hx' => (h L hL).lvl hR hLI hF (List.mem_of_getElem? hi) (by rw [← htr]; exact hx')) hx
end

end Go.Proofs.Ytahabfjngeicmaa
