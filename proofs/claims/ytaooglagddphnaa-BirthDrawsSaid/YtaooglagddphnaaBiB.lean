/- Memory at first, plainly: which cells have what; one node more. -/
import Derived.Test.YtaooglagddphnaaBiA
import Derived.Test.YtaooglagddphnaaBiS
import Derived.Test.YtaooglagddphnaaZF
import Derived.Test.YtaooglagddphnaaEdB
namespace Go.Proofs.Ytaooglagddphnaa
open Go.RowKit

set_option maxRecDepth 100000

/-- What a node's field has at first; what a cell has; what the cells have when the nodes below x are made. -/
def ndF (V : Int) (dl : Nat) (d : Nat → Nat) (x k : Nat) : Int :=
  if k = 0 then (if (x : Int) ≤ V then 0 else 65535) else if k = 5 then (if dl = 0 then 0 else (d (x % dl) : Int)) else if k = 6 then (if (x : Int) ≤ vn V then 65537 else 1) else 0
def bcF (V S T : Int) (dl : Nat) (d : Nat → Nat) (i : Nat) : Int :=
  if (i : Int) < T then 0 else if (i : Int) = T then lnF S.toNat 0 else if (i : Int) < o3 S T then (if ((i : Int) - T - 1) % 7 = 0 then lnF S.toNat (((i : Int) - T - 1) / 7 + 1) else 0)
  else if (i : Int) < o5 V S T then 0 else ndF V dl d ((((i : Int) - o5 V S T) / 7).toNat + 1) ((((i : Int) - o5 V S T) % 7).toNat)
def bcX (V S T : Int) (dl : Nat) (d : Nat → Nat) (x : Nat) (i : Nat) : Int := if (i : Int) < o5 V S T + ((x : Int) - 1) * 7 then bcF V S T dl d i else 0
section
variable {V S T : Int} {dl x y k i : Nat} {d : Nat → Nat} {f f' : Nat → Int} {g : Mg9}
theorem o_order (hR : Rt V S T) : 0 ≤ T ∧ T + 1 ≤ o3 S T ∧ o3 S T ≤ o5 V S T := by
  have z := sizes hR
  have a1 := z.vn1
  have a2 := hR.s1
  have a3 := hR.t1
  have a4 := z.pr1
  unfold o5 o3; omega
theorem bc_node (hR : Rt V S T) (h1 : 1 ≤ x) (hk : k < 7) : bcF V S T dl d (cN V S T x k) = ndF V dl d x k := by
  have e := cN_int (k := k) hR h1
  obtain ⟨a, b, c⟩ := o_order hR
  unfold bcF
  rw [if_neg (by omega), if_neg (by omega), if_neg (by omega), if_neg (by omega)]
  have e1 : (((cN V S T x k : Nat) : Int) - o5 V S T) / 7 = (x : Int) - 1 := by omega
  have e2 : (((cN V S T x k : Nat) : Int) - o5 V S T) % 7 = (k : Int) := by omega
  rw [e1, e2, show ((x : Int) - 1).toNat + 1 = x by omega, show ((k : Int)).toNat = k by omega]
theorem bcX_node (hR : Rt V S T) (h1 : 1 ≤ y) (hk : k < 7) : bcX V S T dl d x (cN V S T y k) = if y < x then ndF V dl d y k else 0 := by
  have e := cN_int (k := k) hR h1
  unfold bcX
  by_cases h : y < x
  · rw [if_pos h, if_pos (by omega), bc_node hR h1 hk]
  · rw [if_neg h, if_neg (by omega)]
theorem bcX_low (h1 : 1 ≤ x) (h : (i : Int) < o5 V S T) : bcX V S T dl d x i = bcF V S T dl d i := if_pos (by omega)
/-- A cell is ahead of the nodes' cells, or one of them. -/
theorem cell_which (hR : Rt V S T) (i : Nat) : (i : Int) < o5 V S T ∨ ∃ y k, 1 ≤ y ∧ k < 7 ∧ i = cN V S T y k := by
  by_cases h : (i : Int) < o5 V S T
  · exact .inl h
  · refine .inr ⟨(((i : Int) - o5 V S T) / 7).toNat + 1, (((i : Int) - o5 V S T) % 7).toNat, by omega, by omega, ?_⟩
    have e := cN_int (x := (((i : Int) - o5 V S T) / 7).toNat + 1) (k := (((i : Int) - o5 V S T) % 7).toNat) hR (by omega)
    omega
theorem lnF_le (hR : Rt V S T) (s : Int) : 0 ≤ lnF S.toNat s ∧ lnF S.toNat s ≤ 18446744073709551615 := lnF_bd _ _ (by have := hR.s2; omega)
theorem ndF_bd (hd : ∀ j, j < dl → d j ≤ 18446744073709551615) : 0 ≤ ndF V dl d x k ∧ ndF V dl d x k ≤ 18446744073709551615 := by
  unfold ndF
  split
  · split <;> omega
  · split
    · split
      · omega
      · have := hd (x % dl) (Nat.mod_lt _ (by omega)); omega
    · split
      · split <;> omega
      · omega
theorem bcF_bd (hR : Rt V S T) (hd : ∀ j, j < dl → d j ≤ 18446744073709551615) (i : Nat) : 0 ≤ bcF V S T dl d i ∧ bcF V S T dl d i ≤ 18446744073709551615 := by
  unfold bcF
  split
  · omega
  · split
    · exact lnF_le hR _
    · split
      · split
        · exact lnF_le hR _
        · omega
      · split
        · omega
        · exact ndF_bd hd
theorem bcX_bd (hR : Rt V S T) (hd : ∀ j, j < dl → d j ≤ 18446744073709551615) (i : Nat) : 0 ≤ bcX V S T dl d x i ∧ bcX V S T dl d x i ≤ 18446744073709551615 := by
  unfold bcX
  split
  · exact bcF_bd hR hd i
  · omega
/-- What Init leaves is the cells of no nodes. -/
theorem bcX_first (hR : Rt V S T) {t Sn : Nat} (ht : T = (t : Int)) (hS : S = (Sn : Int)) (h0 : f t = lnF Sn 0) (h1 : ∀ s, s < Sn → f (t + 1 + s * 7) = lnF Sn ((s : Int) + 1)) (h2 : ∀ k, k ≠ t → (∀ s, s < Sn → k ≠ t + 1 + s * 7) → f k = 0) : f = bcX V S T dl d 1 := by
  have eS : S.toNat = Sn := by omega
  obtain ⟨a, b, c⟩ := o_order hR
  have e3 : o3 S T = T + 1 + S * 7 := rfl
  funext i
  unfold bcX
  by_cases h : (i : Int) < o5 V S T
  · rw [if_pos (by omega)]
    unfold bcF
    rw [eS]
    by_cases g1 : (i : Int) < T
    · rw [if_pos g1]; exact h2 i (by omega) fun s _ => by omega
    · rw [if_neg g1]
      by_cases g2 : (i : Int) = T
      · rw [if_pos g2, show i = t by omega]; exact h0
      · rw [if_neg g2]
        by_cases g3 : (i : Int) < o3 S T
        · rw [if_pos g3]
          by_cases g4 : ((i : Int) - T - 1) % 7 = 0
          · rw [if_pos g4]
            have := h1 ((((i : Int) - T - 1) / 7).toNat) (by omega)
            rw [show t + 1 + (((i : Int) - T - 1) / 7).toNat * 7 = i by omega] at this
            rw [this]
            congr 1
            omega
          · rw [if_neg g4]; exact h2 i (by omega) fun s _ => by omega
        · rw [if_neg g3, if_pos h]; exact h2 i (by omega) fun s _ => by omega
  · rw [if_neg (by omega)]
    exact h2 i (by omega) fun s _ => by omega
theorem aloneG_sum {vx : Nat → Bool} (h0 : ∀ k, g 0 k = 0) (hx : x ≠ 0) : aloneG vx g x x 6 = if vx x then 65537 else 1 := by
  have e3 : setP (up2 (up2 g x 3 0) x 4 0) x 0 x 3 = 0 := by rw [setP_field _ _ _ _ (by decide), up2_field _ _ _ _ (by decide), up2_same]
  have e4 : setP (up2 (up2 g x 3 0) x 4 0) x 0 x 4 = 0 := by rw [setP_field _ _ _ _ (by decide), up2_same]
  have e0 : setP (up2 (up2 g x 3 0) x 4 0) x 0 0 6 = 0 := by rw [setP_other _ _ _ (Ne.symm hx), up2_node _ _ _ _ (Ne.symm hx), up2_node _ _ _ _ (Ne.symm hx)]; exact h0 6
  unfold aloneG reckG
  rw [up2_same, e3, e4, e0]
  cases vx x <;> rfl
theorem aloneG_own (hx : x ≠ 0) {vx : Nat → Bool} : aloneG vx g x x 2 = 0 ∧ aloneG vx g x x 3 = 0 ∧ aloneG vx g x x 4 = 0 ∧ aloneG vx g x x 5 = g x 5 := by
  refine ⟨?_, ?_, ?_, aloneG_pri⟩ <;> unfold aloneG <;> rw [reckG_field _ _ _ _ _ (by decide)]
  · exact setP_same _ _ hx
  · rw [setP_field _ _ _ _ (by decide), up2_field _ _ _ _ (by decide), up2_same]
  · rw [setP_field _ _ _ _ (by decide), up2_same]
theorem ndF_sum : (((if vxN V y then 65537 else 1 : Nat)) : Int) = ndF V dl d y 6 := by
  have e6 : ndF V dl d y 6 = if (y : Int) ≤ vn V then 65537 else 1 := rfl
  rw [e6]
  unfold vxN arcN
  by_cases e : vn V ≤ (y : Int) - 1
  · rw [decide_eq_true e, if_neg (show ¬ (y : Int) ≤ vn V by omega)]; rfl
  · rw [decide_eq_false e, if_pos (show (y : Int) ≤ vn V by omega)]; rfl
/-- What the nodes have, out of the cells; beside x all pointer cells are known. -/
def gB (V S T : Int) (f : Nat → Int) (x : Nat) : Mg9 := fun y k => if y = 0 then 0 else if y ≤ nN V S then (if k = 2 then 0 else if k = 7 then (f (cN V S T y 2)).toNat else if k = 8 then (if y = x then 0 else 1) else (f (cN V S T y k)).toNat) else if k = 5 then (f (y - nN V S - 1)).toNat else 0
theorem gB_in (h1 : 1 ≤ y) (h2 : y ≤ nN V S) : gB V S T f x y k = if k = 2 then 0 else if k = 7 then (f (cN V S T y 2)).toNat else if k = 8 then (if y = x then 0 else 1) else (f (cN V S T y k)).toNat := by
  unfold gB; rw [if_neg (by omega), if_pos h2]
theorem gB_rl (h0 : ∀ i, 0 ≤ f i) (hz : ∀ y, 1 ≤ y → y ≤ nN V S → f (cN V S T y 2) = 0 ∧ f (cN V S T y 3) = 0 ∧ f (cN V S T y 4) = 0) : Rlf V S T f (gB V S T f x) := by
  refine ⟨fun k => if_pos rfl, fun y k h1 h2 h3 h4 => ?_, fun y h1 h2 _ => ?_, fun y h1 h2 _ => ?_, fun y hy => ?_, fun i hi => ?_, fun y h1 h2 _ _ => ?_⟩
  · rw [gB_in h1 h2, if_neg (by omega), if_neg (by omega), if_neg (by omega)]
    have := h0 (cN V S T y k); omega
  · rw [gB_in h1 h2, if_pos rfl]; exact (hz y h1 h2).1
  · rw [gB_in h1 h2, if_pos rfl, (hz y h1 h2).1]; exact ⟨by rfl, by rfl⟩
  · by_cases e : y = 0
    · subst e
      have e0 : ∀ k, gB V S T f x 0 k = 0 := fun k => if_pos rfl
      rw [e0, e0, e0]
      exact ⟨Nat.zero_le _, Nat.zero_le _, Nat.zero_le _⟩
    · have h1 : 1 ≤ y := by omega
      obtain ⟨a, b, c⟩ := hz y h1 hy
      rw [gB_in h1 hy, gB_in h1 hy, gB_in h1 hy, if_pos rfl, if_neg (by decide), if_neg (by decide), if_neg (by decide), if_neg (by decide), if_neg (by decide), if_neg (by decide), b, c]
      exact ⟨Nat.zero_le _, Nat.zero_le _, Nat.zero_le _⟩
  · unfold gB
    rw [if_neg (by omega), if_neg (by omega), if_pos rfl, show nN V S + 1 + i - nN V S - 1 = i by omega]
    have := h0 i; omega
  · rw [gB_in h1 h2, if_neg (by decide), if_pos rfl]
    have := h0 (cN V S T y 2); omega
/-- The node x, made, and cleaned: one more. -/
theorem bcX_next (hR : Rt V S T) (h1 : 1 ≤ x) (h2 : x ≤ nN V S) (hd : ∀ j, j < dl → d j ≤ 18446744073709551615) (hf : f = upd (upd (bcX V S T dl d x) (cN V S T x 0) (ndF V dl d x 0)) (cN V S T x 5) (ndF V dl d x 5))
    (hr : Rlf V S T f' (aloneG (vxN V) (gB V S T f x) x)) {F : Nat → Int} (hF : ∀ i, i ≠ cN V S T x 2 → F i = f' i) (h0 : F (cN V S T x 2) = 0) : F = bcX V S T dl d (x + 1) := by
  have hx0 : x ≠ 0 := by omega
  have f0 : ∀ i, 0 ≤ f i := fun i => by
    rw [hf]
    unfold upd
    split
    · exact (ndF_bd hd).1
    · split
      · exact (ndF_bd hd).1
      · exact (bcX_bd hR hd i).1
  have fo : ∀ i, i ≠ cN V S T x 0 → i ≠ cN V S T x 5 → f i = bcX V S T dl d x i := fun i a b => by rw [hf, upd_other _ _ b, upd_other _ _ a]
  have g0 : ∀ k, gB V S T f x 0 k = 0 := fun k => if_pos rfl
  -- what is none of the nodes' fields from 2 on
  have rest : ∀ i, (∀ y k, 1 ≤ y → y ≤ nN V S → 2 ≤ k → k ≤ 6 → i ≠ cN V S T y k) → f' i = f i := fun i hi => by
    rw [hr.o i hi, aloneG_other _ (by omega)]
    unfold gB
    rw [if_neg (by omega), if_neg (by omega), if_pos rfl, show nN V S + 1 + i - nN V S - 1 = i by omega]
    have := f0 i; omega
  funext i
  rcases cell_which hR i with h | ⟨y, k, y1, k7, rfl⟩
  · have far : ∀ y k, 1 ≤ y → i ≠ cN V S T y k := fun y k y1 e => by have := cN_int (k := k) hR y1; omega
    rw [hF _ (far _ _ h1), rest i fun y k y1 _ _ _ => far y k y1, fo i (far _ _ h1) (far _ _ h1), bcX_low h1 h, bcX_low (by omega) h]
  · rw [bcX_node hR y1 k7]
    have inj : ∀ {z j : Nat}, 1 ≤ z → j < 7 → (cN V S T y k = cN V S T z j ↔ y = z ∧ k = j) := fun z1 j7 => ⟨cN_inj hR y1 z1 k7 j7, fun e => by rw [e.1, e.2]⟩
    by_cases hy : y = x
    · subst hy
      rw [if_pos (by omega)]
      by_cases k2 : k = 2
      · subst k2; rw [h0]; rfl
      · rw [hF _ fun e => k2 ((inj h1 (by omega)).1 e).2]
        by_cases kl : k < 2
        · rw [rest _ fun z j z1 _ j2 _ e => by have := ((inj z1 (by omega)).1 e).2; omega]
          rcases (by omega : k = 0 ∨ k = 1) with rfl | rfl
          · rw [hf, upd_other _ _ fun e => absurd ((inj h1 (by omega)).1 e).2 (by omega), upd_same]
          · rw [fo _ (fun e => absurd ((inj h1 (by omega)).1 e).2 (by omega)) fun e => absurd ((inj h1 (by omega)).1 e).2 (by omega), bcX_node hR h1 (by omega), if_neg (by omega)]; rfl
        · rw [hr.c y k y1 h2 (by omega) (by omega)]
          obtain ⟨_, a3, a4, a5⟩ := aloneG_own (g := gB V S T f y) (vx := vxN V) hx0
          rcases (by omega : k = 3 ∨ k = 4 ∨ k = 5 ∨ k = 6) with rfl | rfl | rfl | rfl
          · rw [a3]; rfl
          · rw [a4]; rfl
          · rw [a5, gB_in h1 h2, if_neg (by decide), if_neg (by decide), if_neg (by decide), hf, upd_same]
            have := (ndF_bd (V := V) (x := y) (k := 5) hd).1; omega
          · rw [aloneG_sum g0 hx0]; exact ndF_sum
    · have n2 : cN V S T y k ≠ cN V S T x 2 := fun e => hy ((inj h1 (by omega)).1 e).1
      have n0 : cN V S T y k ≠ cN V S T x 0 := fun e => hy ((inj h1 (by omega)).1 e).1
      have n5 : cN V S T y k ≠ cN V S T x 5 := fun e => hy ((inj h1 (by omega)).1 e).1
      have same : f (cN V S T y k) = if y < x + 1 then ndF V dl d y k else 0 := by
        rw [fo _ n0 n5, bcX_node hR y1 k7]
        by_cases e : y < x
        · rw [if_pos e, if_pos (by omega)]
        · rw [if_neg e, if_neg (by omega)]
      rw [hF _ n2, ← same]
      by_cases yN : y ≤ nN V S
      · by_cases kl : k < 2
        · exact rest _ fun z j z1 _ j2 _ e => by have := ((inj z1 (by omega)).1 e).2; omega
        · by_cases k2 : k = 2
          · subst k2
            cases hp : isP V y with
            | true =>
              rw [hr.e y y1 yN hp (by rw [aloneG_other _ hy, gB_in y1 yN, if_neg (by decide), if_neg (by decide), if_pos rfl, if_neg hy]), aloneG_other _ hy, gB_in y1 yN, if_neg (by decide), if_pos rfl]
              have := f0 (cN V S T y 2); omega
            | false =>
              rw [hr.a y y1 yN hp, aloneG_other _ hy, gB_in y1 yN, if_pos rfl, same]
              split <;> rfl
          · rw [hr.c y k y1 yN (by omega) (by omega), aloneG_other _ hy, gB_in y1 yN, if_neg k2, if_neg (by omega), if_neg (by omega)]
            have := f0 (cN V S T y k); omega
      · exact rest _ fun z j z1 zN _ _ e => by have := ((inj z1 (by omega)).1 e).1; omega
theorem gB_ready (hR : Rt V S T) (h1 : 1 ≤ x) (hd : ∀ j, j < dl → d j ≤ 18446744073709551615) (hf : f = upd (upd (bcX V S T dl d x) (cN V S T x 0) (ndF V dl d x 0)) (cN V S T x 5) (ndF V dl d x 5)) : Rlf V S T f (gB V S T f x) := by
  have hz : ∀ y k, 1 ≤ y → k = 2 ∨ k = 3 ∨ k = 4 → f (cN V S T y k) = 0 := fun y k y1 hk => by
    rw [hf, upd_other _ _ fun e => by have := (cN_inj hR y1 h1 (by omega) (by omega) e).2; omega, upd_other _ _ fun e => by have := (cN_inj hR y1 h1 (by omega) (by omega) e).2; omega, bcX_node hR y1 (by omega)]
    split
    · rcases hk with rfl | rfl | rfl <;> rfl
    · rfl
  refine gB_rl (fun i => ?_) fun y y1 _ => ⟨hz y 2 y1 (.inl rfl), hz y 3 y1 (.inr (.inl rfl)), hz y 4 y1 (.inr (.inr rfl))⟩
  rw [hf]
  unfold upd
  split
  · exact (ndF_bd hd).1
  · split
    · exact (ndF_bd hd).1
    · exact (bcX_bd hR hd i).1
end

end Go.Proofs.Ytaooglagddphnaa
