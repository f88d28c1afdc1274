/- The walk of BirthDraws. Printed by wip/tools/bild.py. -/
import Derived.Test.YtaooglagddphnaaBiW
namespace Go.Proofs.Ytaooglagddphnaa
open Go.RowKit

set_option maxRecDepth 100000

/-- Draws as values; twice the same ones. -/
def drL (d : Nat → Nat) (n : Nat) : List Value := (List.range n).map fun j => .int .u64 (d j : Int)
def d2F (dl : Nat) (d : Nat → Nat) (j : Nat) : Nat := if j < dl then d j else d (j - dl)
section
variable {w w' w0 W : World} {V S T : Int} {dl dc p gb p2 g2 cap m k n x y i base : Nat} {d : Nat → Nat} {da : Option Addr} {f : Nat → Int} {v : Value} {xs : List Value}
theorem drL_len : (drL d n).length = n := by simp [drL]
theorem drL_at (h : k < n) : (drL d n)[k]? = some (.int .u64 (d k : Int)) := by unfold drL; rw [List.getElem?_map, List.getElem?_range h]; rfl
theorem step_app_many15 {ops : Array Oper} {o : Oper} {a : Act} {K : Act → World → Prop} {Q : Exit → Act → World → Prop} {F : Prop} (hgd : o.guard = none) (s z : Operand)
    (ho : o.op = .call { callee := .builtin .append, args := #[s, z], argTypes := #[62, 62] })
    (hs : a.eval s = v) (h : w.ownsRow base 51 1 v n xs) {ad : Addr} (hx : a.eval z = .slice (some ad) dl dc) (hD : IsNum w (some ad) dl d) (h1 : 1 ≤ dl) {r : Nat} (hr : r = n + dl) (hl : r ≤ 10000) (hb : base ≤ w.heap.size)
    (hK : ∀ g cap w', w'.ownsRow base 51 1 (.slice (some ⟨g, 0, none⟩) r cap) r (xs ++ drL d dl) → w.grownBy w' v.ownBlock → g < w'.heap.size → K (a.put o.dst (.slice (some ⟨g, 0, none⟩) r cap)) w') :
    if Region.wanted o (yielded ops a.tmps) = true then Oper.wp Try.prog o a w K Q else F := by
  subst hr
  obtain ⟨i0, hi0, hz0, hz1, hz2⟩ := info_parts info_u64
  have hm : (n + dl) * 8 ≤ 10000 * 8 := Nat.mul_le_mul hl (Nat.le_refl _)
  obtain ⟨db, off, e, hcell⟩ := hD (by omega)
  obtain rfl : ad = ⟨db, off, none⟩ := by injection e
  refine step_append_lies w hgd s z 62 ho base 51 i0 _ 1 8 Try.underlying62 hi0 hz0 hz1 hz2 rfl (by omega) v n xs hs h ⟨db, off, none⟩ dl dc (drL d dl) hx (by rw [drL_len]; omega) ?_ ?_ (by omega) (by simp only [maxLen]; omega) (by omega) hb w.heap.size rfl ?_
  · intro j u hj
    have hjl : j < dl := by have := (List.getElem?_eq_some_iff.1 hj).1; rw [drL_len] at this; exact this
    rw [drL_at hjl] at hj
    injection hj with hj
    subst hj
    rw [Addr.add_lit]
    exact (hcell j hjl).1
  · intro u hu
    obtain ⟨j, _, rfl⟩ := List.mem_map.1 hu
    rfl
  · intro g cap w' h2 h3 _ h5
    exact hK g cap w' h2 h3 h5
/-- An empty row of one's own. -/
theorem own_empty15 (w : World) : (w.alloc (.cells #[] 51)).ownsRow w.heap.size 51 1 (.slice (some ⟨w.heap.size, 0, none⟩) 0 0) 0 [] :=
  ⟨rfl, .inr ⟨_, 0, #[], rfl, Nat.le_refl _, Blk.new w _ _, Nat.le_refl _, by simp [maxLen], rfl, rfl⟩⟩
theorem own_empty15d (w : World) : (w.alloc (.cells #[] 51)).drew.ownsRow w.heap.size 51 1 (.slice (some ⟨w.heap.size, 0, none⟩) 0 0) 0 [] := own_empty15 w
/-- .. of the draws, twice. -/
theorem num2 {g cap e2 : Nat} (he2 : e2 = dl + dl) (h : w.ownsRow base 51 1 (.slice (some ⟨g, 0, none⟩) e2 cap) e2 ([] ++ drL d dl ++ drL d dl)) (hd : ∀ j, j < dl → d j ≤ 18446744073709551615) : IsNum w (some ⟨g, 0, none⟩) e2 (d2F dl d) := fun h0 => by
  have hlen : ([] ++ drL d dl ++ drL d dl).length = e2 := by rw [he2]; simp [drL_len]
  obtain ⟨g1, cap1, zs, e, _, hz, hv⟩ := own_open15 (xs := [] ++ drL d dl ++ drL d dl) (by rw [hlen]; exact h) (by rw [hlen]; exact h0)
  injection e with e _ _
  injection e with e
  injection e with e _ _
  subst e
  refine ⟨g, 0, rfl, fun k hk => ?_⟩
  rw [Nat.zero_add]
  unfold d2F
  by_cases hkl : k < dl
  · rw [if_pos hkl]
    refine ⟨(hz.cell k).trans (hv k _ ?_), hd k hkl⟩
    rw [List.nil_append, List.getElem?_append_left (by rw [drL_len]; exact hkl)]
    exact drL_at hkl
  · rw [if_neg hkl]
    refine ⟨(hz.cell k).trans (hv k _ ?_), hd _ (by omega)⟩
    rw [List.nil_append, List.getElem?_append_right (by rw [drL_len]; omega), drL_len]
    exact drL_at (by omega)
theorem em_far (h : EM w V S T p2 g2 cap m f) (ho : Only p gb w w') (h1 : p2 ≠ p) (h2 : p2 ≠ gb) (h3 : g2 ≠ p) (h4 : g2 ≠ gb) : EM w' V S T p2 g2 cap m f := by
  obtain ⟨hR, c, A, C⟩ := h
  exact ⟨hR, c, A.only ho h1 h2 h3 h4, C⟩
theorem em_astore (h : EM w V S T p gb cap m f) (hk : k < cellsE V S T) {z : Int} (h0 : 0 ≤ z) (h1 : z ≤ 18446744073709551615) (hb : m ≤ 100000000) {kI : Int} (hI : kI = (k : Int)) :
    Calls Try.prog 36 #[.pointer (some ⟨p, 0, none⟩), .int .i64 kI, .int .u64 z] w fun e w' => e = .returned (.int .i64 0) ∧ EM w' V S T p gb cap (m + 1) (upd f k z) ∧ Only p gb w w' := by
  subst hI
  obtain ⟨hR, c, A, C⟩ := h
  refine (store_yes A hk h0 h1 C hb).mono ?_
  rintro e w' ⟨rfl, A1, O1⟩
  exact ⟨rfl, ⟨hR, _, A1, C.upd 1⟩, O1⟩
theorem em_equal {cap2 m2 : Nat} {f2 : Nat → Int} (h : EM w V S T p gb cap m f) (h2 : EM w V S T p2 g2 cap2 m2 f2) (he : ∀ k, k < cellsE V S T → f k = f2 k) :
    Calls Try.prog 34 #[.pointer (some ⟨p, 0, none⟩), .pointer (some ⟨p2, 0, none⟩)] w fun e w' => e = .returned (.bool true) ∧ Below w.heap.size w w' := by
  obtain ⟨_, c, A, _⟩ := h
  obtain ⟨_, c2, A2, _⟩ := h2
  refine (aequal_any A A2).mono ?_
  rintro e w' ⟨rfl, q, rfl⟩
  refine ⟨?_, ⟨rfl, rfl, rfl, Nat.le_refl _, fun _ _ => rfl⟩⟩
  unfold sameB
  rw [decide_eq_true he]
theorem prN_two {e2 : Nat} (he2 : e2 = dl + dl) : prN e2 (d2F dl d) x = prN dl d x := by
  subst he2
  unfold prN
  by_cases h : dl = 0
  · subst h; rfl
  · rw [if_neg (by omega), if_neg h]
    have e : x % (dl + dl) % dl = x % dl := Nat.mod_mod_of_dvd x ⟨2, by omega⟩
    have hl := Nat.mod_lt x (show 0 < dl + dl by omega)
    unfold d2F
    by_cases h2 : x % (dl + dl) < dl
    · rw [if_pos h2]
      rw [Nat.mod_eq_of_lt h2] at e
      rw [e]
    · rw [if_neg h2]
      have e3 : x % (dl + dl) % dl = x % (dl + dl) - dl := by
        rw [Nat.mod_eq_sub_mod (by omega), Nat.mod_eq_of_lt (by omega)]
      rw [← e, e3]
theorem ndF_two {e2 : Nat} (he2 : e2 = dl + dl) : ndF V e2 (d2F dl d) x k = ndF V dl d x k := by
  by_cases h : k = 5
  · subst h
    have := prN_two (d := d) (x := x) he2
    rw [prN_nd (V := V), prN_nd (V := V)] at this
    exact this
  · unfold ndF
    rw [if_neg h, if_neg h]
theorem bcX_two {e2 : Nat} (he2 : e2 = dl + dl) : bcX V S T e2 (d2F dl d) x = bcX V S T dl d x := by
  funext i
  unfold bcX bcF
  rw [ndF_two he2]
/-- Behind so many priorities set to 0. -/
def zX (V S T : Int) (dl : Nat) (d : Nat → Nat) (x i : Nat) : Int := if (i : Int) < o5 V S T + ((x : Int) - 1) * 7 then bcX V S T 0 d (nN V S + 1) i else bcX V S T dl d (nN V S + 1) i
theorem zX_first : zX V S T dl d 1 = bcX V S T dl d (nN V S + 1) := by
  funext i
  unfold zX
  split
  · rename_i h
    rw [bcX_low (by omega) (by omega), bcX_low (by omega) (by omega)]
    unfold bcF
    rw [if_pos (show (i : Int) < o5 V S T by omega), if_pos (show (i : Int) < o5 V S T by omega)]
  · rfl
theorem zX_last (hR : Rt V S T) (hk : k < cellsE V S T) : zX V S T dl d (nN V S + 1) k = bcX V S T 0 d (nN V S + 1) k := by
  have h1 := cellsE_int hR
  have h2 := nN_int hR
  have h3 : cn V S T = o5 V S T + nd V S * 7 := by unfold cn o5; omega
  unfold zX
  rw [if_pos (by omega)]
theorem bcX_nil {d2 : Nat → Nat} : bcX V S T 0 d x = bcX V S T 0 d2 x := by
  funext i
  unfold bcX bcF ndF
  rfl
theorem zX_next (hR : Rt V S T) (h1 : 1 ≤ x) (h2 : x ≤ nN V S) : upd (zX V S T dl d x) (cN V S T x 5) 0 = zX V S T dl d (x + 1) := by
  funext i
  rcases cell_which hR i with h | ⟨y, k, y1, k7, rfl⟩
  · rw [upd_other _ _ fun e => by have := cN_int (k := 5) hR h1; omega]
    unfold zX
    rw [if_pos (by omega), if_pos (by omega)]
  · have e := cN_int (k := k) hR y1
    by_cases hy : y = x
    · subst hy
      have e2 : zX V S T dl d (y + 1) (cN V S T y k) = ndF V 0 d y k := by
        unfold zX
        rw [if_pos (by omega), bcX_node hR y1 k7, if_pos (by omega)]
      have e1 : zX V S T dl d y (cN V S T y k) = ndF V dl d y k := by
        unfold zX
        rw [if_neg (by omega), bcX_node hR y1 k7, if_pos (by omega)]
      rw [e2]
      by_cases h5 : k = 5
      · subst h5; rw [upd_same]; rfl
      · rw [upd_other _ _ fun q => h5 (cN_inj hR y1 h1 k7 (by omega) q).2, e1]
        unfold ndF
        rw [if_neg h5, if_neg h5]
    · rw [upd_other _ _ fun q => hy (cN_inj hR y1 h1 k7 (by omega) q).1]
      unfold zX
      by_cases hl : y < x
      · rw [if_pos (by omega), if_pos (by omega)]
      · rw [if_neg (by omega), if_neg (by omega)]
/-- Behind so many nodes. -/
def KD15 (w0 : World) (V S T : Int) (p gb cap dl : Nat) (d : Nat → Nat) (i : Value) (W : World) : Prop :=
  ∃ x, 1 ≤ x ∧ x ≤ nN V S + 1 ∧ i = .int .i64 ((x : Nat) : Int) ∧ EM W V S T p gb cap (12000 + x) (zX V S T dl d x) ∧ Only p gb w0 W
/-- Nothing to be looked at beyond these sizes. -/
theorem ldraws_out (V S T : Int) (da : Option Addr) (dl dc : Nat) (h : ¬ (rtB V S T = true ∧ 1 ≤ dl ∧ dl ≤ 128)) (w : World) :
    Calls Try.prog 9 #[vL V S T, .slice da dl dc] w fun e w' => e = .returned (.bool true) ∧ Below w.heap.size w w' := by
  have HB0 : Hid (Below w.heap.size w (w.alloc (.cells #[.int .i64 V, .int .i64 S, .int .i64 T] 23))) := Lib.hid ((Below.refl _ _).alloc (Nat.le_refl _) _)
  have HL0 : Hid (Blk (w.alloc (.cells #[.int .i64 V, .int .i64 S, .int .i64 T] 23)) w.heap.size 23 #[.int .i64 V, .int .i64 S, .int .i64 T]) := Lib.hid (Blk.new _ _ _)
  by_cases hr : rtB V S T = true
  · have HRB := Lib.hid hr
    by_cases hv : (dl : Int) < 1
    · clear h hr
      go_enter Try.func9, Try.ntmps9
      go_wp2_with fail
      generalize w.heap.size = lb at HL0 ⊢
      generalize w.alloc (.cells #[.int .i64 V, .int .i64 S, .int .i64 T] 23) = w1 at HB0 HL0 ⊢
      refine (ref15 V S T _).mono ?_; rintro e w2 ⟨rfl, hb2⟩
      have HL2 := Lib.hid (HL0.out.below hb2 HL0.out.lt)
      have HB2 := Lib.hid (HB0.out.trans (hb2.mono HB0.out.size))
      clear HL0 HB0 hb2
      go_wp2_with fail
      refine (rright_any V S T _).mono ?_; rintro e w3 ⟨rfl, hb3⟩; rw [HRB.out]
      have HL3 := Lib.hid (HL2.out.below hb3 HL2.out.lt)
      have HB3 := Lib.hid (HB2.out.trans (hb3.mono HB2.out.size))
      clear HL2 HB2 hb3
      have l0 : w3.cell? ⟨lb, 0, none⟩ = some (.int .i64 V) := HL3.out.cell 0
      have l1 : w3.cell? ⟨lb, 1, none⟩ = some (.int .i64 S) := HL3.out.cell 1
      have l2 : w3.cell? ⟨lb, 2, none⟩ = some (.int .i64 T) := HL3.out.cell 2
      have llt := HL3.out.lt
      go_wp2_with fail
      refine (awake15 _).mono ?_; rintro e w4 ⟨rfl, hb4⟩
      have HB4 := Lib.hid (HB3.out.trans (hb4.mono HB3.out.size))
      go_wp2_with fail
      go_ret
      exact ⟨rfl, HB4.out⟩
    · have hd : (128 : Int) < (dl : Int) := by
        rcases Nat.lt_or_ge 128 dl with q | q
        · omega
        · exact absurd ⟨hr, by omega, q⟩ h
      clear h hr
      go_enter Try.func9, Try.ntmps9
      go_wp2_with fail
      generalize w.heap.size = lb at HL0 ⊢
      generalize w.alloc (.cells #[.int .i64 V, .int .i64 S, .int .i64 T] 23) = w1 at HB0 HL0 ⊢
      refine (ref15 V S T _).mono ?_; rintro e w2 ⟨rfl, hb2⟩
      have HL2 := Lib.hid (HL0.out.below hb2 HL0.out.lt)
      have HB2 := Lib.hid (HB0.out.trans (hb2.mono HB0.out.size))
      clear HL0 HB0 hb2
      go_wp2_with fail
      refine (rright_any V S T _).mono ?_; rintro e w3 ⟨rfl, hb3⟩; rw [HRB.out]
      have HL3 := Lib.hid (HL2.out.below hb3 HL2.out.lt)
      have HB3 := Lib.hid (HB2.out.trans (hb3.mono HB2.out.size))
      clear HL2 HB2 hb3
      have l0 : w3.cell? ⟨lb, 0, none⟩ = some (.int .i64 V) := HL3.out.cell 0
      have l1 : w3.cell? ⟨lb, 1, none⟩ = some (.int .i64 S) := HL3.out.cell 1
      have l2 : w3.cell? ⟨lb, 2, none⟩ = some (.int .i64 T) := HL3.out.cell 2
      have llt := HL3.out.lt
      go_wp2_with fail
      refine (awake15 _).mono ?_; rintro e w4 ⟨rfl, hb4⟩
      have HB4 := Lib.hid (HB3.out.trans (hb4.mono HB3.out.size))
      go_wp2_with fail
      go_ret
      exact ⟨rfl, HB4.out⟩
  · have HRB : Hid (rtB V S T = false) := Lib.hid (by simpa using hr)
    clear h hr
    go_enter Try.func9, Try.ntmps9
    go_wp2_with fail
    generalize w.heap.size = lb at HL0 ⊢
    generalize w.alloc (.cells #[.int .i64 V, .int .i64 S, .int .i64 T] 23) = w1 at HB0 HL0 ⊢
    refine (ref15 V S T _).mono ?_; rintro e w2 ⟨rfl, hb2⟩
    have HL2 := Lib.hid (HL0.out.below hb2 HL0.out.lt)
    have HB2 := Lib.hid (HB0.out.trans (hb2.mono HB0.out.size))
    clear HL0 HB0 hb2
    go_wp2_with fail
    refine (rright_any V S T _).mono ?_; rintro e w3 ⟨rfl, hb3⟩; rw [HRB.out]
    have HL3 := Lib.hid (HL2.out.below hb3 HL2.out.lt)
    have HB3 := Lib.hid (HB2.out.trans (hb3.mono HB2.out.size))
    clear HL2 HB2 hb3
    have l0 : w3.cell? ⟨lb, 0, none⟩ = some (.int .i64 V) := HL3.out.cell 0
    have l1 : w3.cell? ⟨lb, 1, none⟩ = some (.int .i64 S) := HL3.out.cell 1
    have l2 : w3.cell? ⟨lb, 2, none⟩ = some (.int .i64 T) := HL3.out.cell 2
    have llt := HL3.out.lt
    go_wp2_with fail
    refine (awake15 _).mono ?_; rintro e w4 ⟨rfl, hb4⟩
    have HB4 := Lib.hid (HB3.out.trans (hb4.mono HB3.out.size))
    go_wp2_with fail
    go_ret
    exact ⟨rfl, HB4.out⟩
set_option maxHeartbeats 8000000 in
theorem ldraws_in (V S T : Int) (da : Option Addr) (dl dc : Nat) (d : Nat → Nat) (hR : Rt V S T) (h1 : 1 ≤ dl) (hdl : dl ≤ 128) (w : World) (hD : IsNum w da dl d) :
    Calls Try.prog 9 #[vL V S T, .slice da dl dc] w fun e w' => e = .returned (.bool true) ∧ Below w.heap.size w w' := by
  have HB0 : Hid (Below w.heap.size w (w.alloc (.cells #[.int .i64 V, .int .i64 S, .int .i64 T] 23))) := Lib.hid ((Below.refl _ _).alloc (Nat.le_refl _) _)
  have HL0 : Hid (Blk (w.alloc (.cells #[.int .i64 V, .int .i64 S, .int .i64 T] 23)) w.heap.size 23 #[.int .i64 V, .int .i64 S, .int .i64 T]) := Lib.hid (Blk.new _ _ _)
  obtain ⟨ad, rfl⟩ : ∃ ad, da = some ad := by
    obtain ⟨b, off, e, _⟩ := hD (by omega)
    exact ⟨_, e⟩
  have HR := Lib.hid hR
  have HRB := Lib.hid hR.yes
  have HD0 := Lib.hid hD
  have H256 : Hid (dl ≤ 256) := Lib.hid (by omega)
  obtain ⟨e2, he2⟩ : ∃ e, e = dl + dl := ⟨_, rfl⟩
  have H512 : Hid (e2 ≤ 256) := Lib.hid (by omega)
  have HE2 := Lib.hid he2
  have HD1 : Hid (dl = 0 + dl) := Lib.hid (Nat.zero_add dl).symm
  clear he2
  have H1 := Lib.hid h1
  have hv : ¬ (dl : Int) < 1 := by omega
  have hd2 : ¬ (128 : Int) < (dl : Int) := by omega
  have hd : ∀ j, j < dl → d j ≤ 18446744073709551615 := fun j hj => by
    obtain ⟨_, _, _, h⟩ := hD (by omega)
    exact (h j hj).2
  have HDD := Lib.hid hd
  clear hR hD hd
  go_enter Try.func9, Try.ntmps9
  go_wp2_with fail
  generalize w.heap.size = lb at HL0 ⊢
  generalize w.alloc (.cells #[.int .i64 V, .int .i64 S, .int .i64 T] 23) = w1 at HB0 HL0 ⊢
  refine (ref15 V S T _).mono ?_; rintro e w2 ⟨rfl, hb2⟩
  have HL2 := Lib.hid (HL0.out.below hb2 HL0.out.lt)
  have HB2 := Lib.hid (HB0.out.trans (hb2.mono HB0.out.size))
  clear HL0 HB0 hb2
  go_wp2_with fail
  refine (rright_any V S T _).mono ?_; rintro e w3 ⟨rfl, hb3⟩; rw [HRB.out]
  have HL3 := Lib.hid (HL2.out.below hb3 HL2.out.lt)
  have HB3 := Lib.hid (HB2.out.trans (hb3.mono HB2.out.size))
  clear HL2 HB2 hb3
  have l0 : w3.cell? ⟨lb, 0, none⟩ = some (.int .i64 V) := HL3.out.cell 0
  have l1 : w3.cell? ⟨lb, 1, none⟩ = some (.int .i64 S) := HL3.out.cell 1
  have l2 : w3.cell? ⟨lb, 2, none⟩ = some (.int .i64 T) := HL3.out.cell 2
  have llt := HL3.out.lt
  go_wp2_with fail
  refine (new_born HR.out (HD0.out.below HB3.out) H256.out).mono ?_; rintro e w4 ⟨p, gb, cap, rfl, hE, hp, hg, hb4⟩
  have HL4 := Lib.hid (HL3.out.below hb4 HL3.out.lt)
  have HB4 := Lib.hid (HB3.out.trans (hb4.mono HB3.out.size))
  have HE4 := Lib.hid hE
  have HPG : Hid (w.heap.size ≤ p ∧ w.heap.size ≤ gb) := Lib.hid ⟨Nat.le_trans HB3.out.size hp, Nat.le_trans HB3.out.size hg⟩
  have HLT4 : Hid (p < w4.heap.size ∧ gb < w4.heap.size) := Lib.hid ⟨hE.p_lt, hE.g_lt⟩
  clear HL3 HB3 hb4 hE hp hg l0 l1 l2 llt
  have l0 : w4.cell? ⟨lb, 0, none⟩ = some (.int .i64 V) := HL4.out.cell 0
  have l1 : w4.cell? ⟨lb, 1, none⟩ = some (.int .i64 S) := HL4.out.cell 1
  have l2 : w4.cell? ⟨lb, 2, none⟩ = some (.int .i64 T) := HL4.out.cell 2
  have llt := HL4.out.lt
  go_wp2_with fail
  refine (new_born (dl := 0) (d := d) (da := none) HR.out (fun h => absurd h (Nat.lt_irrefl _)) (by decide)).mono ?_; rintro e w5 ⟨p2, g2, cap2, rfl, hE, hp, hg, hb5⟩
  have HL5 := Lib.hid (HL4.out.below hb5 HL4.out.lt)
  have HB5 := Lib.hid (HB4.out.trans (hb5.mono HB4.out.size))
  have HE5 := Lib.hid (HE4.out.below hb5)
  have HF5 := Lib.hid hE
  have HNE : Hid ((p2 ≠ p ∧ p2 ≠ gb) ∧ g2 ≠ p ∧ g2 ≠ gb) := Lib.hid (by have := HLT4.out; exact ⟨⟨by omega, by omega⟩, by omega, by omega⟩)
  clear HL4 HB4 HE4 HLT4 hb5 hE hp hg l0 l1 l2 llt
  have l0 : w5.cell? ⟨lb, 0, none⟩ = some (.int .i64 V) := HL5.out.cell 0
  have l1 : w5.cell? ⟨lb, 1, none⟩ = some (.int .i64 S) := HL5.out.cell 1
  have l2 : w5.cell? ⟨lb, 2, none⟩ = some (.int .i64 T) := HL5.out.cell 2
  have llt := HL5.out.lt
  go_wp2_with fail
  clear l0 l1 l2 llt
  have hrule : ∀ W : World, Below w5.heap.size w5 W → W.cell? ⟨lb, 0, none⟩ = some (.int .i64 V) ∧ W.cell? ⟨lb, 1, none⟩ = some (.int .i64 S) ∧ W.cell? ⟨lb, 2, none⟩ = some (.int .i64 T) := fun W h => ⟨(HL5.out.below h HL5.out.lt).cell 0, (HL5.out.below h HL5.out.lt).cell 1, (HL5.out.below h HL5.out.lt).cell 2⟩
  refine wp_region_held_drew (S := (fun W => Below w5.heap.size w5 W)) (by kernel_rfl) ?_ (fun hHeld => ?_)
  · exact (Below.refl _ _).drew
  refine wpAnyH_take (i := 0) (v := ?_) rfl (by kernel_rfl) (by kernel_rfl) (by kernel_rfl) (fun _ _ _ h => h) (Or.inl ⟨by rfl, ?_⟩) (by assumption) ?_
  rotate_left
  · (intro w hSw; (try dsimp only at hSw); go_simp; try with_reducible rfl)
  try simp only [Act.put, List.setIfInBounds_toArray, List.set_cons_zero, List.set_cons_succ, List.getElem_toArray, List.getElem_cons_zero]
  refine wpAnyH_take (i := 2) (v := ?_) rfl (by kernel_rfl) (by kernel_rfl) (by kernel_rfl) (fun _ _ _ h => h) (Or.inl ⟨by rfl, ?_⟩) (by assumption) ?_
  rotate_left
  · (intro w hSw; (try dsimp only at hSw); go_simp; try with_reducible rfl)
  try simp only [Act.put, List.setIfInBounds_toArray, List.set_cons_zero, List.set_cons_succ, List.getElem_toArray, List.getElem_cons_zero, List.getElem_cons_succ]
  refine wpAnyH_take (i := 4) (v := ?_) rfl (by kernel_rfl) (by kernel_rfl) (by kernel_rfl) (fun _ _ _ h => h) (Or.inl ⟨by rfl, ?_⟩) (by assumption) ?_
  rotate_left
  · (intro w hSw; (try dsimp only at hSw); go_simp; try with_reducible rfl)
  try simp only [Act.put, List.setIfInBounds_toArray, List.set_cons_zero, List.set_cons_succ, List.getElem_toArray, List.getElem_cons_zero, List.getElem_cons_succ]
  refine wpAnyH_ready (rs := [1]) (by kernel_rfl) (by simp) ?_
  refine AllReadyH.cons rfl (fun K hK => ?_) ?_
  rotate_left
  · exact AllReadyH.nil
  go_simp
  refine hK.out _ _ ?_ (fun hHeld => ?_)
  · (try dsimp only); (first | exact HB9.out | exact HB8.out | exact HB7.out | exact ((Below.refl w5.heap.size w5).alloc (Nat.le_refl _) _).drew | exact (Below.refl w5.heap.size w5).alloc (Nat.le_refl _) _)
  clear hK K
  try simp only [Act.put, List.setIfInBounds_toArray, List.set_cons_zero, List.set_cons_succ, List.getElem_toArray, List.getElem_cons_zero, List.getElem_cons_succ]
  refine wpAnyH_ready (rs := [3]) (by kernel_rfl) (by simp) ?_
  refine AllReadyH.cons rfl (fun K hK => ?_) ?_
  rotate_left
  · exact AllReadyH.nil
  refine step_app_many15 (base := w5.heap.size) (d := d) (by rfl) _ _ (by rfl) (by rfl) (own_empty15d w5) (by rfl) (HD0.out.below (HB5.out.alloc HB5.out.size _).drew) H1.out HD1.out (by omega) (by simp) ?_
  intro g9 cap9 w7 h7 hg7 _
  have HB7 := Lib.hid (below_grown15 (own_empty15d w5) ((Below.refl w5.heap.size w5).alloc (Nat.le_refl _) (.cells #[] 51)).drew hg7)
  have HR7 := Lib.hid h7
  clear h7 hg7
  refine hK.out _ _ ?_ (fun hHeld => ?_)
  · (try dsimp only); (first | exact HB9.out | exact HB8.out | exact HB7.out | exact ((Below.refl w5.heap.size w5).alloc (Nat.le_refl _) _).drew | exact (Below.refl w5.heap.size w5).alloc (Nat.le_refl _) _)
  clear hK K
  try simp only [Act.put, List.setIfInBounds_toArray, List.set_cons_zero, List.set_cons_succ, List.getElem_toArray, List.getElem_cons_zero, List.getElem_cons_succ]
  refine wpAnyH_ready (rs := [5]) (by kernel_rfl) (by simp) ?_
  refine AllReadyH.cons rfl (fun K hK => ?_) ?_
  rotate_left
  · exact AllReadyH.nil
  refine step_app_many15 (base := w5.heap.size) (d := d) (by rfl) _ _ (by rfl) (by rfl) HR7.out (by rfl) (HD0.out.below (HB5.out.trans (HB7.out.mono HB5.out.size))) H1.out HE2.out (by have := H512.out; omega) HB7.out.size ?_
  intro g8 cap8 w8 h8 hg8 _
  have HB8 := Lib.hid (below_grown15 HR7.out HB7.out hg8)
  have HN8 := Lib.hid (num2 HE2.out h8 HDD.out)
  clear h8 hg8
  refine hK.out _ _ ?_ (fun hHeld => ?_)
  · (try dsimp only); (first | exact HB9.out | exact HB8.out | exact HB7.out | exact ((Below.refl w5.heap.size w5).alloc (Nat.le_refl _) _).drew | exact (Below.refl w5.heap.size w5).alloc (Nat.le_refl _) _)
  clear hK K
  try simp only [Act.put, List.setIfInBounds_toArray, List.set_cons_zero, List.set_cons_succ, List.getElem_toArray, List.getElem_cons_zero, List.getElem_cons_succ]
  refine wpAnyH_ready (rs := [6]) (by kernel_rfl) (by simp) ?_
  refine AllReadyH.cons rfl (fun K hK => ?_) ?_
  rotate_left
  · exact AllReadyH.nil
  go_simp
  (refine (new_born HR.out HN8.out H512.out).mono ?_; rintro e w9 ⟨p3, g3, cap3, rfl, hE9, hp9, hg9, hb9⟩; rw [bcX_two HE2.out] at hE9; have HE9 := Lib.hid hE9; have HP9 : Hid (w5.heap.size ≤ p3 ∧ w5.heap.size ≤ g3) := Lib.hid ⟨Nat.le_trans HB8.out.size hp9, Nat.le_trans HB8.out.size hg9⟩; have HB9 := Lib.hid (HB8.out.trans (hb9.mono HB8.out.size)); clear hE9 hp9 hg9 hb9)
  go_wp2_with fail
  refine hK.out _ _ ?_ (fun hHeld => ?_)
  · (try dsimp only); (first | exact HB9.out | exact HB8.out | exact HB7.out | exact ((Below.refl w5.heap.size w5).alloc (Nat.le_refl _) _).drew | exact (Below.refl w5.heap.size w5).alloc (Nat.le_refl _) _)
  clear hK K
  try simp only [Act.put, List.setIfInBounds_toArray, List.set_cons_zero, List.set_cons_succ, List.getElem_toArray, List.getElem_cons_zero, List.getElem_cons_succ]
  refine wpAnyH_take (i := 7) (v := ?_) rfl (by kernel_rfl) (by kernel_rfl) (by kernel_rfl) (fun _ _ _ h => h) (Or.inl ⟨by rfl, ?_⟩) (by assumption) ?_
  rotate_left
  · (intro w hSw; (try dsimp only at hSw); go_simp; try with_reducible rfl)
  try simp only [Act.put, List.setIfInBounds_toArray, List.set_cons_zero, List.set_cons_succ, List.getElem_toArray, List.getElem_cons_zero, List.getElem_cons_succ]
  refine wpAnyH_take (i := 8) (v := ?_) rfl (by kernel_rfl) (by kernel_rfl) (by kernel_rfl) (fun _ _ _ h => h) (Or.inl ⟨by rfl, ?_⟩) (by assumption) ?_
  rotate_left
  · (intro w hSw; (try dsimp only at hSw); go_simp; try with_reducible rfl)
  try simp only [Act.put, List.setIfInBounds_toArray, List.set_cons_zero, List.set_cons_succ, List.getElem_toArray, List.getElem_cons_zero, List.getElem_cons_succ]
  refine wpAnyH_take (i := 9) (v := ?_) rfl (by kernel_rfl) (by kernel_rfl) (by kernel_rfl) (fun _ _ _ h => h) (Or.inl ⟨by rfl, ?_⟩) (by assumption) ?_
  rotate_left
  · (intro w hSw; (try dsimp only at hSw); go_simp; try with_reducible rfl)
  try simp only [Act.put, List.setIfInBounds_toArray, List.set_cons_zero, List.set_cons_succ, List.getElem_toArray, List.getElem_cons_zero, List.getElem_cons_succ]
  refine wpAnyH_take (i := 10) (v := ?_) rfl (by kernel_rfl) (by kernel_rfl) (by kernel_rfl) (fun _ _ _ h => h) (Or.inl ⟨by rfl, ?_⟩) (by assumption) ?_
  rotate_left
  · (intro w hSw; (try dsimp only at hSw); go_simp; try with_reducible rfl)
  try simp only [Act.put, List.setIfInBounds_toArray, List.set_cons_zero, List.set_cons_succ, List.getElem_toArray, List.getElem_cons_zero, List.getElem_cons_succ]
  refine wpAnyH_take (i := 11) (v := ?_) rfl (by kernel_rfl) (by kernel_rfl) (by kernel_rfl) (fun _ _ _ h => h) (Or.inl ⟨by rfl, ?_⟩) (by assumption) ?_
  rotate_left
  · (intro w hSw; (try dsimp only at hSw); go_simp; try with_reducible rfl)
  try simp only [Act.put, List.setIfInBounds_toArray, List.set_cons_zero, List.set_cons_succ, List.getElem_toArray, List.getElem_cons_zero, List.getElem_cons_succ]
  refine wpAnyH_done (by kernel_rfl) ?_ _
  have HL9 := Lib.hid (HL5.out.below HB9.out HL5.out.lt)
  have HA9 := Lib.hid (HB5.out.trans (HB9.out.mono HB5.out.size))
  have HEa := Lib.hid (HE5.out.below HB9.out)
  have HEb := Lib.hid (HF5.out.below HB9.out)
  clear HL5 HB5 HE5 HF5 HR7 HB7 HB8 HN8 HB9 hrule
  go_wp2_with fail
  refine (em_equal HEa.out HE9.out fun _ _ => rfl).mono ?_; rintro e w10 ⟨rfl, hb10⟩
  have HL10 := Lib.hid (HL9.out.below hb10 HL9.out.lt)
  have HB10 := Lib.hid (HA9.out.trans (hb10.mono HA9.out.size))
  have HE10 := Lib.hid (HEa.out.below hb10)
  have HF10 := Lib.hid (HEb.out.below hb10)
  clear HL9 HA9 HEa HEb HE9 hb10
  obtain ⟨n9, hn9⟩ : ∃ n, nN V S = n := ⟨_, rfl⟩
  have HN9 := Lib.hid hn9
  have n560 : n9 ≤ 560 := by rw [← hn9]; exact nN_le HR.out
  have nI : (n9 : Int) ≤ 560 := by omega
  clear hn9
  have HREL : Hid (KD15 w10 V S T p gb cap dl d (.int .i64 1) w10) := Lib.hid ⟨1, Nat.le_refl _, by omega, rfl, by rw [zX_first]; exact HE10.out.more (by omega), Only.refl _ _ _⟩
  go_wp2_with fail
  go_loopw [11] (fun i wr => KD15 w10 V S T p gb cap dl d i wr) (fun i _ => n9 + 1 - (intOf i).toNat)
  case atStart => exact HREL.out
  case round =>
    clear HREL
    obtain ⟨x, hx1, hx2, rfl, hE, hO⟩ := hrel
    rw [HN9.out] at hx2
    have HE := Lib.hid hE
    have HO := Lib.hid hO
    have HLr := Lib.hid (HL10.out.em HE10.out hO (by decide) (by decide))
    clear hE hO
    have l0 : wr.cell? ⟨lb, 0, none⟩ = some (.int .i64 V) := HLr.out.cell 0
    have l1 : wr.cell? ⟨lb, 1, none⟩ = some (.int .i64 S) := HLr.out.cell 1
    have l2 : wr.cell? ⟨lb, 2, none⟩ = some (.int .i64 T) := HLr.out.cell 2
    have llt := HLr.out.lt
    go_wp2_with fail
    refine (lnodes HR.out _).mono ?_; rintro e w11 ⟨rfl, hb11⟩; rw [HN9.out]
    have HL11 := Lib.hid (HLr.out.below hb11 HLr.out.lt)
    have HE11 := Lib.hid (HE.out.below hb11)
    have HO11 := Lib.hid (HO.out.trans (Only.of_below hb11))
    clear HLr HE HO hb11 l0 l1 l2 llt
    have l0 : w11.cell? ⟨lb, 0, none⟩ = some (.int .i64 V) := HL11.out.cell 0
    have l1 : w11.cell? ⟨lb, 1, none⟩ = some (.int .i64 S) := HL11.out.cell 1
    have l2 : w11.cell? ⟨lb, 2, none⟩ = some (.int .i64 T) := HL11.out.cell 2
    have llt := HL11.out.lt
    by_cases hxn : x ≤ n9
    · have kI : (x : Int) ≤ (n9 : Int) := by omega
      have k0 : (1 : Int) ≤ (x : Int) := by omega
      have HXN : Hid (x ≤ nN V S) := Lib.hid (by rw [HN9.out]; exact hxn)
      go_wp2_with fail
      refine (lfield5 HR.out hx1 HXN.out _).mono ?_; rintro e w12 ⟨rfl, hb12⟩
      have HE12 := Lib.hid (HE11.out.below hb12)
      have HO12 := Lib.hid (HO11.out.trans (Only.of_below hb12))
      clear HL11 HE11 HO11 hb12 l0 l1 l2 llt
      go_wp2_with fail
      refine (em_astore (z := 0) HE12.out (cN_lt HR.out hx1 HXN.out (by decide)) (by decide) (by decide) (by omega) rfl).mono ?_; rintro e w13 ⟨rfl, hE13, hO13⟩
      rw [zX_next HR.out hx1 HXN.out] at hE13
      have HE13 := Lib.hid hE13
      have HO13 := Lib.hid (HO12.out.trans hO13)
      clear HE12 HO12 hE13 hO13
      go_wp2_with fail
      go_round
      case rel => exact ⟨x + 1, by omega, by rw [HN9.out]; omega, by go_num, HE13.out, HO13.out⟩
      case measure => simp [intOf]; omega
    · have ex : x = n9 + 1 := by omega
      have kN : ¬ (x : Int) ≤ (n9 : Int) := by omega
      have HXE := Lib.hid ex
      clear ex hxn hx2
      go_wp2_with fail
      have HF11 := Lib.hid (em_far HF10.out HO11.out HNE.out.1.1 HNE.out.1.2 HNE.out.2.1 HNE.out.2.2)
      have HB11 := Lib.hid (Only.below HB10.out HO11.out HB10.out.size HPG.out.1 HPG.out.2)
      refine (em_equal HE11.out HF11.out fun k hk => by rw [HXE.out, ← HN9.out]; exact zX_last HR.out hk).mono ?_; rintro e w12 ⟨rfl, hb12⟩
      have HB12 := Lib.hid (HB11.out.trans (hb12.mono HB11.out.size))
      clear HL11 HE11 HO11 HF11 HB11 hb12 l0 l1 l2 llt
      go_wp2_with fail
      refine (awake15 _).mono ?_; rintro e w13 ⟨rfl, hb13⟩
      have HB13 := Lib.hid (HB12.out.trans (hb13.mono HB12.out.size))
      go_wp2_with fail
      go_ret
      exact ⟨rfl, HB13.out⟩
theorem ldraws (V S T : Int) (da : Option Addr) (dl dc : Nat) (d : Nat → Nat) (w : World) (hD : IsNum w da dl d) :
    Calls Try.prog 9 #[vL V S T, .slice da dl dc] w fun e w' => e = .returned (.bool true) ∧ Below w.heap.size w w' := by
  by_cases h : rtB V S T = true ∧ 1 ≤ dl ∧ dl ≤ 128
  · exact ldraws_in V S T da dl dc d (rtB_yes h.1) h.2.1 h.2.2 w hD
  · exact ldraws_out V S T da dl dc h w
end

end Go.Proofs.Ytaooglagddphnaa
