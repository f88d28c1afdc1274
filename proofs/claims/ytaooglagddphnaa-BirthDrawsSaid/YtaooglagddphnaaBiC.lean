/- Contracts of a node's lock and priority, and of makeNode. -/
import Derived.Test.YtaooglagddphnaaBiB
namespace Go.Proofs.Ytaooglagddphnaa
open Go.RowKit

set_option maxRecDepth 100000

theorem block_lt {W : World} {b o : Nat} {v : Value} (h : W.cell? ⟨b, o, none⟩ = some v) : b < W.heap.size := by
  rcases Nat.lt_or_ge b W.heap.size with h1 | h1
  · exact h1
  · exfalso
    unfold World.cell? at h
    rw [Array.getElem?_eq_none h1] at h
    cases h
/-- A node's lock at first. -/
def lkN (ar : Bool) (l : Int) : Int := if l = 0 ∧ ar = false then 0 else 65535
theorem lock_any (ar : Bool) (l v s d : Int) (w : World) :
    Calls Try.prog 108 #[vT ar l v s d] w fun e w' => e = .returned (.int .u64 (lkN ar l)) ∧ Below w.heap.size w w' := by
  have HB : Hid (Below w.heap.size w (w.alloc (.cells #[.bool ar, .int .i64 l, .int .i64 v, .int .i64 s, .int .i64 d] 161))) := Lib.hid ((Below.refl _ _).alloc (Nat.le_refl _) _)
  by_cases h0 : l = 0
  · subst h0
    cases ar
    · go_enter Try.func108, Try.ntmps108
      go_wp2_with fail
      go_ret
      exact ⟨rfl, HB.out⟩
    · go_enter Try.func108, Try.ntmps108
      go_wp2_with fail
      go_ret
      exact ⟨rfl, HB.out⟩
  · have HK : Hid (lkN ar l = 65535) := Lib.hid (if_neg fun h => h0 h.1)
    rw [HK.out]
    go_enter Try.func108, Try.ntmps108
    go_wp2_with fail
    go_ret
    exact ⟨rfl, HB.out⟩
/-- A node's priority at first. -/
def prN (dl : Nat) (d : Nat → Nat) (x : Nat) : Int := if dl = 0 then 0 else (d (x % dl) : Int)
theorem priority_any {w : World} {da : Option Addr} {dl dc x : Nat} {d : Nat → Nat} (hD : IsNum w da dl d) (hdl : dl ≤ 256) :
    Calls Try.prog 109 #[.int .i64 (x : Int), .slice da dl dc] w fun e w' => e = .returned (.int .u64 (prN dl d x)) ∧ Below w.heap.size w w' := by
  by_cases h0 : dl = 0
  · have HK : Hid (prN dl d x = 0) := Lib.hid (if_pos h0)
    rw [HK.out]
    subst h0
    go_enter Try.func109, Try.ntmps109
    go_wp2_with fail
    go_ret
    exact ⟨rfl, Below.refl _ _⟩
  · obtain ⟨db, off, rfl, hcell⟩ := hD (by omega)
    obtain ⟨j, hj⟩ : ∃ j, x % dl = j := ⟨_, rfl⟩
    have hjl : j < dl := by rw [← hj]; exact Nat.mod_lt _ (by omega)
    have D0 := (hcell j hjl).1
    obtain ⟨P9, hP9⟩ : ∃ P, d j = P := ⟨_, rfl⟩
    rw [hP9] at D0
    have HK : Hid (prN dl d x = (P9 : Int)) := Lib.hid (by unfold prN; rw [if_neg h0, hj, hP9])
    rw [HK.out]
    have hdI : (0 : Int) < (dl : Int) := by omega
    have hd0 : ¬ (dl : Int) = 0 := by omega
    have hd1 : ¬ dl = 0 := by omega
    have htm : (x : Int).tmod (dl : Int) = (j : Int) := by rw [← hj]; exact Int.ofNat_tmod x dl
    have hjw : IntKind.i64.wrap (j : Int) = (j : Int) := IntWalk.i64_in _ (by omega)
    have hj1 : (j : Int) < (dl : Int) := by omega
    have hj0 : (0 : Int) ≤ (j : Int) := by omega
    have dlt : db < w.heap.size := block_lt D0
    clear hP9 hcell hD
    go_enter Try.func109, Try.ntmps109
    go_wp2_with fail
    go_ret
    exact ⟨rfl, Below.refl _ _⟩
/-- makeNode's variables. -/
structure MN (W : World) (b c : Nat) (V S T : Int) (p : Nat) (ar : Bool) (l v s d : Int) : Prop where
  t : TB W b V S T p
  r : Blk W c 161 #[.bool ar, .int .i64 l, .int .i64 v, .int .i64 s, .int .i64 d]
section
variable {w w' w0 : World} {b c p gb cap m dl dc x : Nat} {V S T l v s z : Int} {ar : Bool} {f : Nat → Int} {d : Nat → Nat} {da : Option Addr}
theorem MN.below (h : MN w b c V S T p ar l v s z) (hb : Below w.heap.size w w') : MN w' b c V S T p ar l v s z := ⟨h.t.below hb, h.r.below hb h.r.lt⟩
theorem MN.drew (h : MN w b c V S T p ar l v s z) : MN w.drew b c V S T p ar l v s z := h.below (Below.refl _ _).drew
theorem MN.em (h : MN w b c V S T p ar l v s z) (A : EM w V S T p gb cap m f) (ho : Only p gb w w') : MN w' b c V S T p ar l v s z := ⟨Blk.em h.t A ho (by decide) (by decide), h.r.em A ho (by decide) (by decide)⟩
theorem mn_rule (b c : Nat) (V S T : Int) (p : Nat) (ar : Bool) (l v s z : Int) : ∀ W : World, MN W b c V S T p ar l v s z → W.cell? ⟨b, 0, none⟩ = some (.int .i64 V) ∧ W.cell? ⟨b, 1, none⟩ = some (.int .i64 S) ∧ W.cell? ⟨b, 2, none⟩ = some (.int .i64 T) ∧ W.cell? ⟨b, 3, none⟩ = some (.iface 84 (pmV p)) ∧ W.cell? ⟨b, 4, none⟩ = some (.int .i64 1) ∧ W.cell? ⟨b, 5, none⟩ = some (.int .i64 0) ∧
    W.cell? ⟨c, 0, none⟩ = some (.bool ar) ∧ W.cell? ⟨c, 1, none⟩ = some (.int .i64 l) ∧ W.cell? ⟨c, 2, none⟩ = some (.int .i64 v) ∧ W.cell? ⟨c, 3, none⟩ = some (.int .i64 s) ∧ W.cell? ⟨c, 4, none⟩ = some (.int .i64 z) := fun W h => by
  obtain ⟨y0, y1, y2, y3, y4, y5⟩ := h.t.cells
  exact ⟨y0, y1, y2, y3, y4, y5, h.r.cell 0, h.r.cell 1, h.r.cell 2, h.r.cell 3, h.r.cell 4⟩
theorem MN.arn {n : Nat} {c9 f : Nat → Int} (h : MN w b c V S T p ar l v s z) (A : Ar w p gb n cap c9 f) (ho : Only p gb w w') : MN w' b c V S T p ar l v s z := by
  obtain ⟨zs, hz, _⟩ := A.cells
  exact ⟨Blk.only h.t ho (Blk.ne_ h.t A.own (by decide)) (Blk.ne_ h.t hz (by decide)), h.r.only ho (Blk.ne_ h.r A.own (by decide)) (Blk.ne_ h.r hz (by decide))⟩
/-- Numbers that came in stay. -/
theorem num_only (hD : IsNum w0 da dl d) (hB : Below w0.heap.size w0 w) (hp : w0.heap.size ≤ p) (hg : w0.heap.size ≤ gb) (ho : Only p gb w w') : IsNum w' da dl d := hD.below (Only.below hB ho hB.size hp hg)
theorem cellsNE (V S T : Int) : cellsN V S T = cellsE V S T := rfl
theorem lkN_nd (hR : Rt V S T) (h1 : 1 ≤ x) : lkN (arcN V x) (lvN V x) = ndF V dl d x 0 := by
  have hv := hR.v1
  have hl : V ≤ vn V := by
    have := (lv_bd V).1
    have : 1 * V ≤ lv V * V := Int.mul_le_mul_of_nonneg_right this (by omega)
    unfold vn; omega
  unfold lkN ndF
  rw [if_pos rfl]
  unfold arcN lvN
  by_cases e : vn V ≤ (x : Int) - 1
  · rw [if_neg (by rw [decide_eq_true e]; exact fun h => nomatch h.2), if_neg (by omega)]
  · rw [if_neg e, decide_eq_false e]
    by_cases e2 : (x : Int) ≤ V
    · rw [if_pos e2, if_pos ⟨Int.ediv_eq_zero_of_lt (by omega) (by omega), rfl⟩]
    · rw [if_neg e2, if_neg]
      rintro ⟨h, _⟩
      have h2 := Int.mul_ediv_add_emod ((x : Int) - 1) V
      rw [h, Int.mul_zero] at h2
      have := Int.emod_lt_of_pos ((x : Int) - 1) (by omega : 0 < V)
      omega
theorem prN_nd : prN dl d x = ndF V dl d x 5 := rfl
set_option maxHeartbeats 8000000 in
theorem makeNode_any (hE : EM w V S T p gb cap m (bcX V S T dl d x)) (h1 : 1 ≤ x) (h2 : x ≤ nN V S) (hD : IsNum w0 da dl d) (hdl : dl ≤ 256) (hB : Below w0.heap.size w0 w) (hp : w0.heap.size ≤ p) (hg : w0.heap.size ≤ gb) (hm : m ≤ 99000000) :
    Calls Try.prog 62 #[vTr V S T p, .int .i64 (x : Int), .slice da dl dc] w fun e w' => e = .returned (.tuple #[]) ∧ EM w' V S T p gb cap (m + 20) (bcX V S T dl d (x + 1)) ∧ Only p gb w w' := by
  have hd : ∀ j, j < dl → d j ≤ 18446744073709551615 := fun j hj => by
    obtain ⟨_, _, _, h⟩ := hD (by omega)
    exact (h j hj).2
  have ms := methp_store
  have ns := nilp_store
  have hx560 : x ≤ 560 := Nat.le_trans h2 (nN_le hE.hR)
  have xI : (x : Int) ≤ 560 := by omega
  have HR := Lib.hid hE.hR
  have HDD := Lib.hid hd
  have HX1 := Lib.hid h1
  have HXN := Lib.hid h2
  have HD := Lib.hid hD
  have HDL := Lib.hid hdl
  have HX5 := Lib.hid hx560
  have HPG := Lib.hid (And.intro hp hg)
  obtain ⟨f0, hf0⟩ : ∃ f, bcX V S T dl d x = f := ⟨_, rfl⟩
  have HF0 := Lib.hid hf0
  have HE : Hid (EM w V S T p gb cap m f0) := Lib.hid (by rw [← hf0]; exact hE)
  have HB := Lib.hid hB
  have HL0 : Hid (fieldF V S T (x : Int) 0 = (cN V S T x 0 : Int)) := Lib.hid (field_cN HR.out h1 h2 (k := 0) (by omega))
  have HL5 : Hid (fieldF V S T (x : Int) 5 = (cN V S T x 5 : Int)) := Lib.hid (field_cN HR.out h1 h2 (k := 5) (by omega))
  have HL2 : Hid (fieldF V S T (x : Int) 2 = (cN V S T x 2 : Int)) := Lib.hid (field_cN HR.out h1 h2 (k := 2) (by omega))
  have HC0 : Hid (cN V S T x 0 < cellsE V S T) := Lib.hid (cN_lt HR.out h1 h2 (by omega))
  have HC5 : Hid (cN V S T x 5 < cellsE V S T) := Lib.hid (cN_lt HR.out h1 h2 (by omega))
  have HC2 : Hid (cN V S T x 2 < cellsE V S T) := Lib.hid (cN_lt HR.out h1 h2 (by omega))
  obtain ⟨K0, hK0⟩ : ∃ k, ndF V dl d x 0 = k := ⟨_, rfl⟩
  obtain ⟨K5, hK5⟩ : ∃ k, ndF V dl d x 5 = k := ⟨_, rfl⟩
  have HK0 := Lib.hid hK0
  have HK5 := Lib.hid hK5
  have HLK : Hid (lkN (arcN V x) (lvN V x) = K0) := Lib.hid (by rw [← hK0]; exact lkN_nd HR.out h1)
  have HPR : Hid (prN dl d x = K5) := Lib.hid (by rw [← hK5]; exact prN_nd)
  have HB0 : Hid (0 ≤ K0 ∧ K0 ≤ 18446744073709551615) := Lib.hid (by rw [← hK0]; exact ndF_bd hd)
  have HB5 : Hid (0 ≤ K5 ∧ K5 ≤ 18446744073709551615) := Lib.hid (by rw [← hK5]; exact ndF_bd hd)
  obtain ⟨q0, hq0⟩ : ∃ k, cN V S T x 0 = k := ⟨_, rfl⟩
  obtain ⟨q5, hq5⟩ : ∃ k, cN V S T x 5 = k := ⟨_, rfl⟩
  obtain ⟨q2, hq2⟩ : ∃ k, cN V S T x 2 = k := ⟨_, rfl⟩
  have HQ0 := Lib.hid hq0
  have HQ5 := Lib.hid hq5
  have HQ2 := Lib.hid hq2
  rw [hq0] at HL0 HC0
  rw [hq5] at HL5 HC5
  rw [hq2] at HL2 HC2
  have HM := Lib.hid hm
  clear hE h1 h2 hD hdl hx560 hp hg hf0 hB hK0 hK5 hq0 hq5 hq2 hd
  have HT : Hid (TB (w.alloc (.cells #[.int .i64 V, .int .i64 S, .int .i64 T, .iface 84 (pmV p), .int .i64 1, .int .i64 0] 32)) w.heap.size V S T p) := Lib.hid (TB.new _ _ _ _ _)
  have HEa := Lib.hid (HE.out.below ((Below.refl _ _).alloc (Nat.le_refl _) (.cells #[.int .i64 V, .int .i64 S, .int .i64 T, .iface 84 (pmV p), .int .i64 1, .int .i64 0] 32)))
  have HOa := Lib.hid ((Only.refl p gb w).alloc (.cells #[.int .i64 V, .int .i64 S, .int .i64 T, .iface 84 (pmV p), .int .i64 1, .int .i64 0] 32))
  go_enter Try.func62, Try.ntmps62
  go_wp2_with fail
  generalize hwb : w.heap.size = b at HT ⊢
  generalize hW : w.alloc (.cells #[.int .i64 V, .int .i64 S, .int .i64 T, .iface 84 (pmV p), .int .i64 1, .int .i64 0] 32) = W at HT HEa HOa ⊢
  clear hW hwb
  obtain ⟨y0, y1, y2, y3, y4, y5⟩ := HT.out.cells
  have hlt := HT.out.lt
  refine (node_is HR.out HX1.out HXN.out _).mono ?_; rintro e w1 ⟨⟨v, s, z, rfl⟩, hb1⟩
  obtain ⟨ar, har⟩ : ∃ a, arcN V x = a := ⟨_, rfl⟩
  obtain ⟨l, hl⟩ : ∃ l, lvN V x = l := ⟨_, rfl⟩
  rw [har, hl] at HLK
  rw [har, hl]
  have HLV := Lib.hid hl
  clear har hl
  have HM2 : Hid (MN (w1.alloc (.cells #[.bool ar, .int .i64 l, .int .i64 v, .int .i64 s, .int .i64 z] 161)) b w1.heap.size V S T p ar l v s z) := Lib.hid ⟨(HT.out.below hb1).alloc _, Blk.new _ _ _⟩
  have HE2 := Lib.hid ((HEa.out.below hb1).below ((Below.refl _ _).alloc (Nat.le_refl _) (.cells #[.bool ar, .int .i64 l, .int .i64 v, .int .i64 s, .int .i64 z] 161)))
  have HO2 := Lib.hid ((HOa.out.trans (Only.of_below hb1)).alloc (.cells #[.bool ar, .int .i64 l, .int .i64 v, .int .i64 s, .int .i64 z] 161))
  clear HT HEa HOa hb1 y0 y1 y2 y3 y4 y5 hlt HE
  go_wp2_with fail
  generalize hwc : w1.heap.size = c at HM2 ⊢
  generalize hW : w1.alloc (.cells #[.bool ar, .int .i64 l, .int .i64 v, .int .i64 s, .int .i64 z] 161) = W2 at HM2 HE2 HO2 ⊢
  clear hW hwc
  have hrule := mn_rule b c V S T p ar l v s z
  have HMd := Lib.hid HM2.out.drew
  have HEd := Lib.hid HE2.out.drew
  have HOd := Lib.hid HO2.out.drew
  clear HM2 HE2 HO2
  go_region_held3 (fun W => MN W b c V S T p ar l v s z) (first | (with_reducible assumption) | (with_reducible exact HMd.out) | (with_reducible exact MN.below (by assumption) hb1) | (with_reducible exact MN.em (by assumption) (Hid.out (by assumption : Hid (EM _ V S T p gb cap m f0))) O2))
    (first
      | (go_at_call 37; ((with_reducible refine (field_yes V S T (x : Int) 0 HR.out (by omega) (by omega) _).mono ?_); rintro e w' ⟨rfl, hb1⟩; rw [HL0.out]; have HE3 := Lib.hid (EM.below (Hid.out (by assumption : Hid (EM _ V S T p gb cap m f0))) hb1); have HO3 := Lib.hid (Only.trans (Hid.out (by assumption : Hid (Only p gb w _))) (Only.of_below hb1))))
      | (go_at_call 108; ((with_reducible refine (lock_any ar l v s z _).mono ?_); rintro e w' ⟨rfl, hb1⟩; rw [HLK.out]; have HE3 := Lib.hid (EM.below (Hid.out (by assumption : Hid (EM _ V S T p gb cap m f0))) hb1); have HO3 := Lib.hid (Only.trans (Hid.out (by assumption : Hid (Only p gb w _))) (Only.of_below hb1))))
      | ((with_reducible refine (em_store (Hid.out (by assumption : Hid (EM _ V S T p gb cap m f0))) HC0.out HB0.out.1 HB0.out.2 (by omega) rfl).mono ?_); rintro e w2 ⟨rfl, A2, O2⟩; have HM3 := Lib.hid (MN.em (by assumption) (Hid.out (by assumption : Hid (EM _ V S T p gb cap m f0))) O2); have HF3 := Lib.hid A2; have HP3 := Lib.hid (Only.trans (Hid.out (by assumption : Hid (Only p gb w _))) O2)))
  all_goals
    clear A2 O2 HE3 HO3 HMd HEd HOd
    go_wp2_with fail
    have HMd := Lib.hid HM3.out.drew
    have HEd := Lib.hid HF3.out.drew
    have HOd := Lib.hid HP3.out.drew
    clear HM3 HF3 HP3
    obtain ⟨f1, hf1⟩ : ∃ f, upd f0 q0 K0 = f := ⟨_, rfl⟩
    rw [hf1] at HEd
    have HF1 := Lib.hid hf1
    clear hf1
    go_region_held3 (fun W => MN W b c V S T p ar l v s z) (first | (with_reducible assumption) | (with_reducible exact HMd.out) | (with_reducible exact MN.below (by assumption) hb1) | (with_reducible exact MN.em (by assumption) (Hid.out (by assumption : Hid (EM _ V S T p gb cap (m + 1) f1))) O2))
      (first
        | (go_at_call 37; ((with_reducible refine (field_yes V S T (x : Int) 5 HR.out (by omega) (by omega) _).mono ?_); rintro e w' ⟨rfl, hb1⟩; rw [HL5.out]; have HE4 := Lib.hid (EM.below (Hid.out (by assumption : Hid (EM _ V S T p gb cap (m + 1) f1))) hb1); have HO4 := Lib.hid (Only.trans (Hid.out (by assumption : Hid (Only p gb w _))) (Only.of_below hb1))))
        | (go_at_call 109; ((with_reducible refine (priority_any (num_only HD.out HB.out HPG.out.1 HPG.out.2 (Hid.out (by assumption : Hid (Only p gb w _)))) HDL.out).mono ?_); rintro e w' ⟨rfl, hb1⟩; rw [HPR.out]; have HE4 := Lib.hid (EM.below (Hid.out (by assumption : Hid (EM _ V S T p gb cap (m + 1) f1))) hb1); have HO4 := Lib.hid (Only.trans (Hid.out (by assumption : Hid (Only p gb w _))) (Only.of_below hb1))))
        | ((with_reducible refine (em_store (Hid.out (by assumption : Hid (EM _ V S T p gb cap (m + 1) f1))) HC5.out HB5.out.1 HB5.out.2 (by omega) rfl).mono ?_); rintro e w2 ⟨rfl, A2, O2⟩; have HM4 := Lib.hid (MN.em (by assumption) (Hid.out (by assumption : Hid (EM _ V S T p gb cap (m + 1) f1))) O2); have HF4 := Lib.hid A2; have HP4 := Lib.hid (Only.trans (Hid.out (by assumption : Hid (Only p gb w _))) O2)))
    all_goals
      clear A2 O2 HE4 HO4 HMd HEd HOd
      have HN := HM4.out
      obtain ⟨y0, y1, y2, y3, y4, y5⟩ := HN.t.cells
      have hlt := HN.t.lt
      clear HN
      obtain ⟨_, c4, A4, C4⟩ := HF4.out
      have HFF : Hid (upd f1 q5 K5 = upd (upd (bcX V S T dl d x) (cN V S T x 0) (ndF V dl d x 0)) (cN V S T x 5) (ndF V dl d x 5)) := Lib.hid (by rw [← HF1.out, HQ0.out, HQ5.out, HK0.out, HK5.out, HF0.out])
      have HTM : Hid (TMf w2 V S T p gb cap (m + 2) (gB V S T (upd f1 q5 K5) x)) := Lib.hid ⟨HR.out, c4, _, A4, C4, gB_ready HR.out HX1.out HDD.out HFF.out⟩
      clear A4 C4
      go_wp2_with fail
      refine (talonef HTM.out HX1.out HXN.out (fun _ => by rw [gB_in HX1.out HXN.out, if_neg (by decide), if_neg (by decide), if_pos rfl, if_pos rfl]; decide) (by omega)).mono ?_; rintro e w5 ⟨rfl, A5, O5⟩
      have HM5 := Lib.hid (HM4.out.em HF4.out O5)
      have HP5 := Lib.hid (HP4.out.trans O5)
      obtain ⟨_, c5, f5, A6, C6, r6⟩ := A5
      have HG2 : Hid (aloneG (vxN V) (gB V S T (upd f1 q5 K5) x) x x 2 = 0) := Lib.hid (aloneG_own (by have := HX1.out; omega)).1
      have HA6 := Lib.hid A6
      have HC6 := Lib.hid C6
      have HR6 := Lib.hid r6
      clear O5 A6 C6 r6 HTM HF4 HP4 HM4 y0 y1 y2 y3 y4 y5 hlt
      have HN := HM5.out
      obtain ⟨y0, y1, y2, y3, y4, y5, u0, u1, u2, u3, u4⟩ := mn_rule b c V S T p ar l v s z w5 HN
      have hlt := HN.t.lt
      have ult := HN.r.lt
      clear HN
      by_cases hl0 : l = 0
      · have HIP : Hid (isP V x = true) := Lib.hid (decide_eq_true ⟨by have := HX1.out; omega, HLV.out.trans hl0⟩)
        have HV6 : Hid (rightV (f5 q2) = true) := Lib.hid (by rw [← HQ2.out]; exact (HR6.out.p x HX1.out HXN.out HIP.out).1)
        have HN6 : Hid (rN (f5 q2) = 0) := Lib.hid (by rw [← HQ2.out, (HR6.out.p x HX1.out HXN.out HIP.out).2, HG2.out]; rfl)
        subst hl0
        go_wp2_with fail
        have HMd := Lib.hid HM5.out.drew
        have HAd := Lib.hid HA6.out.drew
        have HOd := Lib.hid HP5.out.drew
        clear y0 y1 y2 y3 y4 y5 u0 u1 u2 u3 u4 hlt ult HM5 HA6 HP5
        go_region_held3 (fun W => MN W b c V S T p ar 0 v s z) (first | (with_reducible assumption) | (with_reducible exact HMd.out) | (with_reducible exact MN.below (by assumption) hb1) | (with_reducible exact MN.arn (by assumption) (Hid.out (by assumption : Hid (Ar _ p gb _ cap c5 f5))) O2))
          (first
            | (go_at_call 37; ((with_reducible refine (field_yes V S T (x : Int) 2 HR.out (by omega) (by omega) _).mono ?_); rintro e w' ⟨rfl, hb1⟩; rw [HL2.out]; have HA7 := Lib.hid (HAd.out.below hb1 (Nat.le_refl _)); have HO7 := Lib.hid (HOd.out.trans (Only.of_below hb1))))
            | (go_at_call 110; ((with_reducible refine (clean_yes HA7.out HC2.out (isW_any _) HV6.out HC6.out (by omega)).mono ?_); rintro e w7 ⟨rfl, A2, O2⟩; have HA8 := Lib.hid A2; have HO8 := Lib.hid (HO7.out.trans O2))))
        go_wp2_with fail
        go_end0
        have hA := HA8.out
        rw [HN6.out] at hA
        have hX := bcX_next HR.out HX1.out HXN.out HDD.out HFF.out HR6.out (F := upd f5 q2 (bitsW 0 0 0 0)) (fun i hi => upd_other _ _ (by rw [← HQ2.out]; exact hi)) (by rw [HQ2.out, upd_same]; rfl)
        rw [hX] at hA
        exact ⟨rfl, ⟨HR.out, _, hA, ((HC6.out.upd 0).upd 1).more (by omega)⟩, HO8.out⟩
      · have HIP : Hid (isP V x = false) := Lib.hid (decide_eq_false fun h => hl0 (HLV.out.symm.trans h.2))
        go_wp2_with fail
        go_end0
        have hX := bcX_next HR.out HX1.out HXN.out HDD.out HFF.out HR6.out (F := f5) (fun i _ => rfl) (by rw [HR6.out.a x HX1.out HXN.out HIP.out, HG2.out]; rfl)
        have hA := HA6.out
        rw [hX] at hA
        exact ⟨rfl, ⟨HR.out, _, hA, HC6.out.more (by omega)⟩, HP5.out⟩
end

end Go.Proofs.Ytaooglagddphnaa
