/- awake: a fixed answer. Printed by wip/tools/edq.py. -/
import Derived.Test.YtahabfjngeicmaaEkO
namespace Go.Proofs.Ytahabfjngeicmaa
open Go.RowKit

set_option maxRecDepth 100000

theorem R431 : Rt 4 3 1 := by constructor <;> decide
theorem E431 : ER 4 3 1 zeroF [] := ER.nil fun _ => rfl
def awF1 : Nat → Int := putF 4 3 1 zeroF ⟨2, 1, 3, 0, true⟩
theorem EA1 : ER 4 3 1 awF1 [⟨2, 1, 3, 0, true⟩] := E431.put (x := ⟨2, 1, 3, 0, true⟩) R431 (by decide) (by decide) (by decide) (by decide) (fun _ h => nomatch h) (fun _ h => nomatch h)
def awF2 : Nat → Int := upd awF1 (eC 4 3 1 1 3) (eV 2 false)
theorem EA2 : ER 4 3 1 awF2 [⟨2, 1, 3, 0, false⟩] := EA1.turn (i := 0) (x := ⟨2, 1, 3, 0, true⟩) R431 rfl false
def awF3 : Nat → Int := upd awF2 (sC 3 1 2 2) ((1 : Nat) : Int)
theorem EA3 : ER 4 3 1 awF3 [⟨2, 1, 3, 1, false⟩] := EA2.lift (i := 0) (x := ⟨2, 1, 3, 0, false⟩) R431 rfl (k := 1) (by decide)
def awF4 : Nat → Int := upd awF3 (eC 4 3 1 3 1) 0
theorem EA4 : ER 4 3 1 awF4 [] := EA3.rem (u := 3) (v := 1) (i := 0) (x := ⟨2, 1, 3, 1, false⟩) R431 rfl ⟨rfl, rfl⟩
section
variable {w w1 w2 : World} {p gb cap m b r : Nat} {a9 : Option Addr} {n9 c9 : Nat} {l : List Nat} {v9 : Value}
theorem aw_put (h : EM w 4 3 1 p gb cap m zeroF) (hm : m ≤ 900000) :
    Calls Try.prog 60 #[vE 4 3 1 p, .int .i64 2, .int .i64 3, .int .i64 1, .int .i64 0, .bool true] w fun e w' => e = .returned (.tuple #[]) ∧ EM w' 4 3 1 p gb cap (m + 3) awF1 ∧ Only p gb w w' :=
  put_any (s := 2) (u := 3) (v := 1) (l := 0) h (by decide) (by decide) (by decide) (by decide) (by decide) hm
theorem aw_find (h : EM w 4 3 1 p gb cap m awF1) (hm : m ≤ 900000) :
    Calls Try.prog 28 #[vE 4 3 1 p, .int .i64 1, .int .i64 3] w fun e w' => e = .returned (.tuple #[.int .i64 2, .bool true, .bool true]) ∧ EM w' 4 3 1 p gb cap (m + 1) awF1 ∧ Only p gb w w' :=
  find_some (u := 1) (v := 3) (x := ⟨2, 1, 3, 0, true⟩) h EA1 (by decide) (by decide) (by decide) (by simp) ⟨rfl, rfl⟩ (by omega)
theorem aw_turn (h : EM w 4 3 1 p gb cap m awF1) (hm : m ≤ 900000) :
    Calls Try.prog 30 #[vE 4 3 1 p, .int .i64 2, .bool false] w fun e w' => e = .returned (.tuple #[]) ∧ EM w' 4 3 1 p gb cap (m + 4) awF2 ∧ Only p gb w w' :=
  turn_yes11 (s := 2) h (EA1.at (x := ⟨2, 1, 3, 0, true⟩) (by simp)) hm
theorem aw_lift (h : EM w 4 3 1 p gb cap m awF2) (hm : m ≤ 900000) :
    Calls Try.prog 31 #[vE 4 3 1 p, .int .i64 2, .int .i64 1] w fun e w' => e = .returned (.tuple #[]) ∧ EM w' 4 3 1 p gb cap (m + 4) awF3 ∧ Only p gb w w' :=
  lift_yes11 (s := 2) (k := 1) h (EA2.at (x := ⟨2, 1, 3, 0, false⟩) (by simp)) (by decide) hm
theorem aw_get (h : EM w 4 3 1 p gb cap m awF3) (hm : m ≤ 900000) :
    Calls Try.prog 29 #[vE 4 3 1 p, .int .i64 2] w fun e w' => e = .returned (.agg #[.int .i64 1, .int .i64 3, .int .i64 1, .bool false]) ∧ EM w' 4 3 1 p gb cap (m + 3) awF3 ∧ Only p gb w w' :=
  get_yes11 (s := 2) h (EA3.at (x := ⟨2, 1, 3, 1, false⟩) (by simp)) hm
theorem aw_all (h : EM w 4 3 1 p gb cap m awF3) (hm : m ≤ 800000) :
    Calls Try.prog 26 #[vE 4 3 1 p] w fun e w' => ∃ v, e = .returned v ∧ RN w' w.heap.size v [2] ∧ EM w' 4 3 1 p gb cap (m + 256) awF3 ∧ Only p gb w w' := by
  have e : allTo [⟨2, 1, 3, 1, false⟩] (4 : Int).toNat (4 : Int).toNat = [2] := by decide
  have h1 := all_any h EA3 hm
  rw [e] at h1
  exact h1
theorem aw_rem (h : EM w 4 3 1 p gb cap m awF3) (hm : m ≤ 900000) :
    Calls Try.prog 61 #[vE 4 3 1 p, .int .i64 3, .int .i64 1] w fun e w' => e = .returned (.tuple #[]) ∧ EM w' 4 3 1 p gb cap (m + 1) awF4 ∧ Only p gb w w' :=
  remove_any (u := 3) (v := 1) h (by decide) (by decide) (by decide) (by omega)
theorem aw_find2 (h : EM w 4 3 1 p gb cap m awF4) (hm : m ≤ 900000) :
    Calls Try.prog 28 #[vE 4 3 1 p, .int .i64 1, .int .i64 3] w fun e w' => e = .returned (.tuple #[.int .i64 0, .bool false, .bool false]) ∧ EM w' 4 3 1 p gb cap (m + 1) awF4 ∧ Only p gb w w' :=
  find_none (u := 1) (v := 3) h EA4 (by decide) (by decide) (by decide) (fun _ h => nomatch h) (by omega)
theorem aw_all2 (h : EM w 4 3 1 p gb cap m awF4) (hm : m ≤ 800000) :
    Calls Try.prog 26 #[vE 4 3 1 p] w fun e w' => ∃ v, e = .returned v ∧ RN w' w.heap.size v [] ∧ EM w' 4 3 1 p gb cap (m + 256) awF4 ∧ Only p gb w w' := by
  have e : allTo [] (4 : Int).toNat (4 : Int).toNat = [] := by decide
  have h1 := all_any h EA4 hm
  rw [e] at h1
  exact h1
theorem RN.at {base k y : Nat} (h : RN w base v9 l) (hk : l[k]? = some y) : ∃ b c, v9 = .slice (some ⟨b, 0, none⟩) l.length c ∧ w.cell? ⟨b, k, none⟩ = some (.int .i64 (y : Int)) ∧ b < w.heap.size := by
  have hkl := (List.getElem?_eq_some_iff.1 hk).1
  rcases h.2 with ⟨_, h0⟩ | ⟨g, cap, cur, rfl, hg, hgg, h1, h2, h3, h4⟩
  · omega
  · have hz : Blk w g 3 cur := hgg
    refine ⟨g, cap, rfl, ?_, hz.lt⟩
    rw [hz.cell, ← Array.getElem?_toList]
    have : (cur.toList.take (l.length * 1))[k]? = some (.int .i64 (y : Int)) := by rw [h4, List.getElem?_map, hk]; rfl
    rwa [List.getElem?_take_of_lt (by omega)] at this
theorem rn_em {V S T : Int} {f : Nat → Int} {base : Nat} (h : RN w base v9 l) (A : EM w V S T p gb cap m f) (ho : Only p gb w w2) : RN w2 base v9 l := by
  refine h.kept_of fun i hi => ?_
  obtain ⟨_, cs, hz⟩ := h.own i hi
  exact (Blk.em hz A ho (by decide) (by decide)).trans hz.symm
/-- Behind a store into a variable. -/
theorem aw_store {f : Nat → Int} {base : Nat} {x0 x1 x2 x3 y0 y1 y2 y3 : Value} (h : EX w1 w b 4 3 1 p gb cap m f) (hr : Blk w r 77 #[x0, x1, x2, x3]) (hl : RN w base v9 l) (hb : w1.heap.size ≤ r) :
    EX w1 ((((w.setCell ⟨r, 0, none⟩ y0).setCell ⟨r, 1, none⟩ y1).setCell ⟨r, 2, none⟩ y2).setCell ⟨r, 3, none⟩ y3) b 4 3 1 p gb cap m f ∧ Blk ((((w.setCell ⟨r, 0, none⟩ y0).setCell ⟨r, 1, none⟩ y1).setCell ⟨r, 2, none⟩ y2).setCell ⟨r, 3, none⟩ y3) r 77 #[y0, y1, y2, y3] ∧ RN ((((w.setCell ⟨r, 0, none⟩ y0).setCell ⟨r, 1, none⟩ y1).setCell ⟨r, 2, none⟩ y2).setCell ⟨r, 3, none⟩ y3) base v9 l := by
  have E0 : EO w1 w b r 4 3 1 p gb cap m f := ⟨h, ⟨x0, x1, x2, x3, hr⟩, hb⟩
  refine ⟨((((E0.set 0 y0).set 1 y1).set 2 y2).set 3 y3).ex, hr.four y0 y1 y2 y3, hl.kept_of fun i hi => ?_⟩
  obtain ⟨_, cs, hz⟩ := hl.own i hi
  have hn := Blk.ne_ hz hr (by decide)
  exact (Blk.far (Blk.far (Blk.far (Blk.far hz hn y0) hn y1) hn y2) hn y3).trans hz.symm
end
set_option maxHeartbeats 8000000 in
theorem awake_any11 (w : World) : Calls Try.prog 22 #[] w fun e w' => e = .returned (.bool true) ∧ Below w.heap.size w w' := by
  have HB0 := Lib.hid (Below.refl w.heap.size w)
  go_enter Try.func22, Try.ntmps22
  go_wp2_with fail
  refine (begun_any11 R431).mono ?_; rintro e w1 ⟨p, gb, rfl, hM, hB, hp, hg⟩
  have HP : Hid (Below w.heap.size w w1 ∧ w.heap.size ≤ p ∧ w.heap.size ≤ gb) := Lib.hid ⟨hB, hp, hg⟩
  have H1 := Lib.hid (EX.new hM)
  clear hM hB hp hg HB0
  go_wp2_with fail
  generalize w1.alloc (.cells #[.int .i64 4, .int .i64 3, .int .i64 1, .iface 95 (pmV p)] 64) = v1 at H1 ⊢
  generalize w1.heap.size = b at H1 ⊢
  refine (aw_put H1.out.m (by omega)).mono ?_; rintro e w2 ⟨rfl, A2, O2⟩
  have H2 := Lib.hid (H1.out.next A2 O2)
  clear H1 A2 O2
  obtain ⟨c0, c1, c2, c3⟩ := H2.out.e.cells
  have blt := H2.out.e.lt
  go_wp2_with fail
  refine (aw_find H2.out.m (by omega)).mono ?_; rintro e w3 ⟨rfl, A3, O3⟩
  have H3 := Lib.hid (H2.out.next A3 O3)
  clear H2 A3 O3 c0 c1 c2 c3 blt
  obtain ⟨c0, c1, c2, c3⟩ := H3.out.e.cells
  have blt := H3.out.e.lt
  go_wp2_with fail
  refine (aw_turn H3.out.m (by omega)).mono ?_; rintro e w4 ⟨rfl, A4, O4⟩
  have H4 := Lib.hid (H3.out.next A4 O4)
  clear H3 A4 O4 c0 c1 c2 c3 blt
  obtain ⟨c0, c1, c2, c3⟩ := H4.out.e.cells
  have blt := H4.out.e.lt
  go_wp2_with fail
  refine (aw_lift H4.out.m (by omega)).mono ?_; rintro e w5 ⟨rfl, A5, O5⟩
  have H5 := Lib.hid (H4.out.next A5 O5)
  clear H4 A5 O5 c0 c1 c2 c3 blt
  obtain ⟨c0, c1, c2, c3⟩ := H5.out.e.cells
  have blt := H5.out.e.lt
  go_wp2_with fail
  clear c0 c1 c2 c3 blt
  have Hd := Lib.hid H5.out.drew
  obtain ⟨c0, c1, c2, c3⟩ := Hd.out.e.cells
  have blt := Hd.out.e.lt
  have hrule := EdB.rule b 4 3 1 p
  have hbig : Hid (∀ W : World, Only p gb w1 W → w1.heap.size ≤ W.heap.size) := Lib.hid fun W h => h.size
  refine wp_region_held_drew (S := (fun W => EdB W b 4 3 1 p)) (by kernel_rfl) ?_ (fun hHeld => ?_)
  · exact Hd.out.e
  refine wpAnyH_take (i := 0) (v := ?_) rfl (by kernel_rfl) (by kernel_rfl) (by kernel_rfl) (fun _ _ _ h => h) (Or.inl ⟨by rfl, ?_⟩) (by assumption) ?_
  rotate_left
  · (intro w hSw; (try dsimp only at hSw); go_simp; try with_reducible rfl)
  try simp only [Act.put, List.setIfInBounds_toArray, List.set_cons_zero, List.set_cons_succ, List.getElem_toArray, List.getElem_cons_zero]
  refine wpAnyH_take (i := 2) (v := ?_) rfl (by kernel_rfl) (by kernel_rfl) (by kernel_rfl) (fun _ _ _ h => h) (Or.inl ⟨by rfl, ?_⟩) (by assumption) ?_
  rotate_left
  · (intro w hSw; (try dsimp only at hSw); go_simp; try with_reducible rfl)
  try simp only [Act.put, List.setIfInBounds_toArray, List.set_cons_zero, List.set_cons_succ, List.getElem_toArray, List.getElem_cons_zero, List.getElem_cons_succ]
  refine wpAnyH_ready (rs := [1, 4]) (by kernel_rfl) (by simp) ?_
  refine AllReadyH.cons rfl (fun K hK => ?_) ?_
  rotate_left
  · refine AllReadyH.cons rfl (fun K hK => ?_) ?_
    rotate_left
    · exact AllReadyH.nil
    go_simp
    refine hK.out _ _ ?_ (fun hHeld => ?_)
    · (try dsimp only); exact (H5.out.below ((Below.refl _ _).alloc (Nat.le_refl _) (.cells #[.int .i64 0, .int .i64 0, .int .i64 0, .bool false] 77))).drew.e
    clear hK K
    try simp only [Act.put, List.setIfInBounds_toArray, List.set_cons_zero, List.set_cons_succ, List.getElem_toArray, List.getElem_cons_zero, List.getElem_cons_succ]
    refine wpAnyH_ready (rs := [1]) (by kernel_rfl) (by simp) ?_
    refine AllReadyH.cons rfl (fun K hK => ?_) ?_
    rotate_left
    · exact AllReadyH.nil
    go_simp
    (refine (aw_get (H5.out.below ((Below.refl _ _).alloc (Nat.le_refl _) (.cells #[.int .i64 0, .int .i64 0, .int .i64 0, .bool false] 77))).drew.m (by omega)).mono ?_; rintro e w6 ⟨rfl, A6, O6⟩; have H6 := Lib.hid ((H5.out.below ((Below.refl _ _).alloc (Nat.le_refl _) (.cells #[.int .i64 0, .int .i64 0, .int .i64 0, .bool false] 77))).drew.next A6 O6); have HR6 : Hid (Blk w6 w5.heap.size 77 #[.int .i64 0, .int .i64 0, .int .i64 0, .bool false]) := Lib.hid (Blk.em (Blk.new w5 77 #[.int .i64 0, .int .i64 0, .int .i64 0, .bool false]).drew (H5.out.below ((Below.refl _ _).alloc (Nat.le_refl _) (.cells #[.int .i64 0, .int .i64 0, .int .i64 0, .bool false] 77))).drew.m O6 (by decide) (by decide)); clear A6 O6)
    go_wp2_with fail
    refine hK.out _ _ ?_ (fun hHeld => ?_)
    · (try dsimp only); exact H6.out.e
    clear hK K
    try simp only [Act.put, List.setIfInBounds_toArray, List.set_cons_zero, List.set_cons_succ, List.getElem_toArray, List.getElem_cons_zero, List.getElem_cons_succ]
    refine wpAnyH_ready (rs := [3]) (by kernel_rfl) (by simp) ?_
    refine AllReadyH.cons rfl (fun K hK => ?_) ?_
    rotate_left
    · exact AllReadyH.nil
    go_simp
    (refine (aw_all H6.out.m (by omega)).mono ?_; rintro e w7 ⟨va, rfl, hR7, A7, O7⟩; obtain ⟨aa, ca, rfl⟩ := hR7.slice; have HL7 := Lib.hid hR7; have H7 := Lib.hid (H6.out.next A7 O7); have HR7 := Lib.hid (Blk.em HR6.out H6.out.m O7 (by decide) (by decide)); clear A7 O7 hR7)
    go_wp2_with fail
    refine hK.out _ _ ?_ (fun hHeld => ?_)
    · (try dsimp only); exact H7.out.e
    clear hK K
    try simp only [Act.put, List.setIfInBounds_toArray, List.set_cons_zero, List.set_cons_succ, List.getElem_toArray, List.getElem_cons_zero, List.getElem_cons_succ]
    refine wpAnyH_ready (rs := [5]) (by kernel_rfl) (by simp) ?_
    refine AllReadyH.cons rfl (fun K hK => ?_) ?_
    rotate_left
    · exact AllReadyH.nil
    have HL8 := HL7
    have H8 := H7
    have hge : w1.heap.size ≤ w5.heap.size := hbig.out _ H5.out.o
    have HF := Lib.hid (aw_store (y0 := .int .i64 1) (y1 := .int .i64 3) (y2 := .int .i64 1) (y3 := .bool false) H8.out HR7.out HL8.out hge)
    have k0 := HR7.out.cell 0
    have k1 := HR7.out.cell 1
    have k2 := HR7.out.cell 2
    have k3 := HR7.out.cell 3
    have f0 := HR7.out.frozen 0
    have f1 := HR7.out.frozen 1
    have f2 := HR7.out.frozen 2
    have f3 := HR7.out.frozen 3
    have klt := HR7.out.lt
    go_simp
    refine hK.out _ _ ?_ (fun hHeld => ?_)
    · (try dsimp only); exact HF.out.1.e
    clear hK K
    try simp only [Act.put, List.setIfInBounds_toArray, List.set_cons_zero, List.set_cons_succ, List.getElem_toArray, List.getElem_cons_zero, List.getElem_cons_succ]
    refine wpAnyH_take (i := 6) (v := ?_) rfl (by kernel_rfl) (by kernel_rfl) (by kernel_rfl) (fun _ _ _ h => h) (Or.inl ⟨by rfl, ?_⟩) (by assumption) ?_
    rotate_left
    · (intro w hSw; (try dsimp only at hSw); go_simp; try with_reducible rfl)
    try simp only [Act.put, List.setIfInBounds_toArray, List.set_cons_zero, List.set_cons_succ, List.getElem_toArray, List.getElem_cons_zero, List.getElem_cons_succ]
    refine wpAnyH_done (by kernel_rfl) ?_ _
    clear c0 c1 c2 c3 blt hrule
    clear k0 k1 k2 k3 f0 f1 f2 f3 klt hge
    generalize h9 : World.setCell (World.setCell (World.setCell (World.setCell _ _ _) _ _) _ _) _ _ = W9 at HF ⊢
    clear h9
    obtain ⟨hX, hR, hL⟩ := HF.out
    have H9 := Lib.hid hX
    have HR9 := Lib.hid hR
    have HL9 := Lib.hid hL
    clear hX hR hL HF
    obtain ⟨c0, c1, c2, c3⟩ := H9.out.e.cells
    have blt := H9.out.e.lt
    go_wp2_with fail
    refine (aw_rem H9.out.m (by omega)).mono ?_; rintro e x1 ⟨rfl, B1, P1⟩
    have H10 := Lib.hid (H9.out.next B1 P1)
    have HR10 := Lib.hid (Blk.em HR9.out H9.out.m P1 (by decide) (by decide))
    have HL10 := Lib.hid (rn_em HL9.out H9.out.m P1)
    clear H9 HR9 HL9 B1 P1 c0 c1 c2 c3 blt
    obtain ⟨c0, c1, c2, c3⟩ := H10.out.e.cells
    have blt := H10.out.e.lt
    go_wp2_with fail
    refine (aw_find2 H10.out.m (by omega)).mono ?_; rintro e x2 ⟨rfl, B2, P2⟩
    have H11 := Lib.hid (H10.out.next B2 P2)
    have HR11 := Lib.hid (Blk.em HR10.out H10.out.m P2 (by decide) (by decide))
    have HL11 := Lib.hid (rn_em HL10.out H10.out.m P2)
    clear H10 HR10 HL10 B2 P2 c0 c1 c2 c3 blt
    obtain ⟨c0, c1, c2, c3⟩ := H11.out.e.cells
    have blt := H11.out.e.lt
    have k0 := HR11.out.cell 0
    have k1 := HR11.out.cell 1
    have k2 := HR11.out.cell 2
    have k3 := HR11.out.cell 3
    have klt := HR11.out.lt
    obtain ⟨lb, lc9, e9, lc, llt⟩ := HL11.out.at (k := 0) rfl
    injection e9 with e91 e92 e93
    subst e91 e93
    clear e92
    have q2 : ((2 : Int) == 2) = true := rfl
    go_wp2_with fail
    refine (aw_all2 H11.out.m (by omega)).mono ?_; rintro e x3 ⟨vb, rfl, hR3, B3, P3⟩
    obtain ⟨ab, cb, rfl⟩ := hR3.slice
    have H12 := Lib.hid (H11.out.next B3 P3)
    clear H11 B3 P3 hR3 c0 c1 c2 c3 blt k0 k1 k2 k3 klt lc llt
    have HE := Lib.hid (Only.below HP.out.1 H12.out.o HP.out.1.size HP.out.2.1 HP.out.2.2)
    go_wp2_with fail
    go_ret
    exact ⟨rfl, HE.out⟩
  go_simp
  (refine (aw_get Hd.out.m (by omega)).mono ?_; rintro e w6 ⟨rfl, A6, O6⟩; have H6 := Lib.hid (Hd.out.next A6 O6); clear A6 O6)
  go_wp2_with fail
  refine hK.out _ _ ?_ (fun hHeld => ?_)
  · (try dsimp only); exact H6.out.e
  clear hK K
  try simp only [Act.put, List.setIfInBounds_toArray, List.set_cons_zero, List.set_cons_succ, List.getElem_toArray, List.getElem_cons_zero, List.getElem_cons_succ]
  refine wpAnyH_ready (rs := [3, 4]) (by kernel_rfl) (by simp) ?_
  refine AllReadyH.cons rfl (fun K hK => ?_) ?_
  rotate_left
  · refine AllReadyH.cons rfl (fun K hK => ?_) ?_
    rotate_left
    · exact AllReadyH.nil
    go_simp
    refine hK.out _ _ ?_ (fun hHeld => ?_)
    · (try dsimp only); exact (H6.out.below ((Below.refl _ _).alloc (Nat.le_refl _) (.cells #[.int .i64 0, .int .i64 0, .int .i64 0, .bool false] 77))).e
    clear hK K
    try simp only [Act.put, List.setIfInBounds_toArray, List.set_cons_zero, List.set_cons_succ, List.getElem_toArray, List.getElem_cons_zero, List.getElem_cons_succ]
    refine wpAnyH_ready (rs := [3]) (by kernel_rfl) (by simp) ?_
    refine AllReadyH.cons rfl (fun K hK => ?_) ?_
    rotate_left
    · exact AllReadyH.nil
    go_simp
    (refine (aw_all (H6.out.below ((Below.refl _ _).alloc (Nat.le_refl _) (.cells #[.int .i64 0, .int .i64 0, .int .i64 0, .bool false] 77))).m (by omega)).mono ?_; rintro e w7 ⟨va, rfl, hR7, A7, O7⟩; obtain ⟨aa, ca, rfl⟩ := hR7.slice; have HL7 := Lib.hid hR7; have H7 := Lib.hid ((H6.out.below ((Below.refl _ _).alloc (Nat.le_refl _) (.cells #[.int .i64 0, .int .i64 0, .int .i64 0, .bool false] 77))).next A7 O7); have HR7 : Hid (Blk w7 w6.heap.size 77 #[.int .i64 0, .int .i64 0, .int .i64 0, .bool false]) := Lib.hid (Blk.em (Blk.new w6 77 #[.int .i64 0, .int .i64 0, .int .i64 0, .bool false]) (H6.out.below ((Below.refl _ _).alloc (Nat.le_refl _) (.cells #[.int .i64 0, .int .i64 0, .int .i64 0, .bool false] 77))).m O7 (by decide) (by decide)); clear A7 O7 hR7)
    go_wp2_with fail
    refine hK.out _ _ ?_ (fun hHeld => ?_)
    · (try dsimp only); exact H7.out.e
    clear hK K
    try simp only [Act.put, List.setIfInBounds_toArray, List.set_cons_zero, List.set_cons_succ, List.getElem_toArray, List.getElem_cons_zero, List.getElem_cons_succ]
    refine wpAnyH_ready (rs := [5]) (by kernel_rfl) (by simp) ?_
    refine AllReadyH.cons rfl (fun K hK => ?_) ?_
    rotate_left
    · exact AllReadyH.nil
    have HL8 := HL7
    have H8 := H7
    have hge : w1.heap.size ≤ w6.heap.size := hbig.out _ H6.out.o
    have HF := Lib.hid (aw_store (y0 := .int .i64 1) (y1 := .int .i64 3) (y2 := .int .i64 1) (y3 := .bool false) H8.out HR7.out HL8.out hge)
    have k0 := HR7.out.cell 0
    have k1 := HR7.out.cell 1
    have k2 := HR7.out.cell 2
    have k3 := HR7.out.cell 3
    have f0 := HR7.out.frozen 0
    have f1 := HR7.out.frozen 1
    have f2 := HR7.out.frozen 2
    have f3 := HR7.out.frozen 3
    have klt := HR7.out.lt
    go_simp
    refine hK.out _ _ ?_ (fun hHeld => ?_)
    · (try dsimp only); exact HF.out.1.e
    clear hK K
    try simp only [Act.put, List.setIfInBounds_toArray, List.set_cons_zero, List.set_cons_succ, List.getElem_toArray, List.getElem_cons_zero, List.getElem_cons_succ]
    refine wpAnyH_take (i := 6) (v := ?_) rfl (by kernel_rfl) (by kernel_rfl) (by kernel_rfl) (fun _ _ _ h => h) (Or.inl ⟨by rfl, ?_⟩) (by assumption) ?_
    rotate_left
    · (intro w hSw; (try dsimp only at hSw); go_simp; try with_reducible rfl)
    try simp only [Act.put, List.setIfInBounds_toArray, List.set_cons_zero, List.set_cons_succ, List.getElem_toArray, List.getElem_cons_zero, List.getElem_cons_succ]
    refine wpAnyH_done (by kernel_rfl) ?_ _
    clear c0 c1 c2 c3 blt hrule
    clear k0 k1 k2 k3 f0 f1 f2 f3 klt hge
    generalize h9 : World.setCell (World.setCell (World.setCell (World.setCell _ _ _) _ _) _ _) _ _ = W9 at HF ⊢
    clear h9
    obtain ⟨hX, hR, hL⟩ := HF.out
    have H9 := Lib.hid hX
    have HR9 := Lib.hid hR
    have HL9 := Lib.hid hL
    clear hX hR hL HF
    obtain ⟨c0, c1, c2, c3⟩ := H9.out.e.cells
    have blt := H9.out.e.lt
    go_wp2_with fail
    refine (aw_rem H9.out.m (by omega)).mono ?_; rintro e x1 ⟨rfl, B1, P1⟩
    have H10 := Lib.hid (H9.out.next B1 P1)
    have HR10 := Lib.hid (Blk.em HR9.out H9.out.m P1 (by decide) (by decide))
    have HL10 := Lib.hid (rn_em HL9.out H9.out.m P1)
    clear H9 HR9 HL9 B1 P1 c0 c1 c2 c3 blt
    obtain ⟨c0, c1, c2, c3⟩ := H10.out.e.cells
    have blt := H10.out.e.lt
    go_wp2_with fail
    refine (aw_find2 H10.out.m (by omega)).mono ?_; rintro e x2 ⟨rfl, B2, P2⟩
    have H11 := Lib.hid (H10.out.next B2 P2)
    have HR11 := Lib.hid (Blk.em HR10.out H10.out.m P2 (by decide) (by decide))
    have HL11 := Lib.hid (rn_em HL10.out H10.out.m P2)
    clear H10 HR10 HL10 B2 P2 c0 c1 c2 c3 blt
    obtain ⟨c0, c1, c2, c3⟩ := H11.out.e.cells
    have blt := H11.out.e.lt
    have k0 := HR11.out.cell 0
    have k1 := HR11.out.cell 1
    have k2 := HR11.out.cell 2
    have k3 := HR11.out.cell 3
    have klt := HR11.out.lt
    obtain ⟨lb, lc9, e9, lc, llt⟩ := HL11.out.at (k := 0) rfl
    injection e9 with e91 e92 e93
    subst e91 e93
    clear e92
    have q2 : ((2 : Int) == 2) = true := rfl
    go_wp2_with fail
    refine (aw_all2 H11.out.m (by omega)).mono ?_; rintro e x3 ⟨vb, rfl, hR3, B3, P3⟩
    obtain ⟨ab, cb, rfl⟩ := hR3.slice
    have H12 := Lib.hid (H11.out.next B3 P3)
    clear H11 B3 P3 hR3 c0 c1 c2 c3 blt k0 k1 k2 k3 klt lc llt
    have HE := Lib.hid (Only.below HP.out.1 H12.out.o HP.out.1.size HP.out.2.1 HP.out.2.2)
    go_wp2_with fail
    go_ret
    exact ⟨rfl, HE.out⟩
  go_simp
  (refine (aw_all H6.out.m (by omega)).mono ?_; rintro e w7 ⟨va, rfl, hR7, A7, O7⟩; obtain ⟨aa, ca, rfl⟩ := hR7.slice; have HL7 := Lib.hid hR7; have H7 := Lib.hid (H6.out.next A7 O7); clear A7 O7 hR7)
  go_wp2_with fail
  refine hK.out _ _ ?_ (fun hHeld => ?_)
  · (try dsimp only); exact H7.out.e
  clear hK K
  try simp only [Act.put, List.setIfInBounds_toArray, List.set_cons_zero, List.set_cons_succ, List.getElem_toArray, List.getElem_cons_zero, List.getElem_cons_succ]
  refine wpAnyH_ready (rs := [4]) (by kernel_rfl) (by simp) ?_
  refine AllReadyH.cons rfl (fun K hK => ?_) ?_
  rotate_left
  · exact AllReadyH.nil
  go_simp
  refine hK.out _ _ ?_ (fun hHeld => ?_)
  · (try dsimp only); exact (H7.out.below ((Below.refl _ _).alloc (Nat.le_refl _) (.cells #[.int .i64 0, .int .i64 0, .int .i64 0, .bool false] 77))).e
  clear hK K
  try simp only [Act.put, List.setIfInBounds_toArray, List.set_cons_zero, List.set_cons_succ, List.getElem_toArray, List.getElem_cons_zero, List.getElem_cons_succ]
  refine wpAnyH_ready (rs := [5]) (by kernel_rfl) (by simp) ?_
  refine AllReadyH.cons rfl (fun K hK => ?_) ?_
  rotate_left
  · exact AllReadyH.nil
  have HF := Lib.hid (And.intro (H7.out.below ((Below.refl _ _).alloc (Nat.le_refl _) (.cells #[.int .i64 1, .int .i64 3, .int .i64 1, .bool false] 77))) (And.intro (Blk.new w7 77 #[.int .i64 1, .int .i64 3, .int .i64 1, .bool false]) (HL7.out.below ((Below.refl _ _).alloc (Nat.le_refl _) (.cells #[.int .i64 1, .int .i64 3, .int .i64 1, .bool false] 77)))))
  have klt : w7.heap.size < w7.heap.size + 1 := Nat.lt_succ_self _
  go_simp
  refine hK.out _ _ ?_ (fun hHeld => ?_)
  · (try dsimp only); exact HF.out.1.e
  clear hK K
  try simp only [Act.put, List.setIfInBounds_toArray, List.set_cons_zero, List.set_cons_succ, List.getElem_toArray, List.getElem_cons_zero, List.getElem_cons_succ]
  refine wpAnyH_take (i := 6) (v := ?_) rfl (by kernel_rfl) (by kernel_rfl) (by kernel_rfl) (fun _ _ _ h => h) (Or.inl ⟨by rfl, ?_⟩) (by assumption) ?_
  rotate_left
  · (intro w hSw; (try dsimp only at hSw); go_simp; try with_reducible rfl)
  try simp only [Act.put, List.setIfInBounds_toArray, List.set_cons_zero, List.set_cons_succ, List.getElem_toArray, List.getElem_cons_zero, List.getElem_cons_succ]
  refine wpAnyH_done (by kernel_rfl) ?_ _
  clear c0 c1 c2 c3 blt hrule klt
  generalize w7.alloc (.cells #[.int .i64 1, .int .i64 3, .int .i64 1, .bool false] 77) = W9 at HF ⊢
  obtain ⟨hX, hR, hL⟩ := HF.out
  have H9 := Lib.hid hX
  have HR9 := Lib.hid hR
  have HL9 := Lib.hid hL
  clear hX hR hL HF
  obtain ⟨c0, c1, c2, c3⟩ := H9.out.e.cells
  have blt := H9.out.e.lt
  go_wp2_with fail
  refine (aw_rem H9.out.m (by omega)).mono ?_; rintro e x1 ⟨rfl, B1, P1⟩
  have H10 := Lib.hid (H9.out.next B1 P1)
  have HR10 := Lib.hid (Blk.em HR9.out H9.out.m P1 (by decide) (by decide))
  have HL10 := Lib.hid (rn_em HL9.out H9.out.m P1)
  clear H9 HR9 HL9 B1 P1 c0 c1 c2 c3 blt
  obtain ⟨c0, c1, c2, c3⟩ := H10.out.e.cells
  have blt := H10.out.e.lt
  go_wp2_with fail
  refine (aw_find2 H10.out.m (by omega)).mono ?_; rintro e x2 ⟨rfl, B2, P2⟩
  have H11 := Lib.hid (H10.out.next B2 P2)
  have HR11 := Lib.hid (Blk.em HR10.out H10.out.m P2 (by decide) (by decide))
  have HL11 := Lib.hid (rn_em HL10.out H10.out.m P2)
  clear H10 HR10 HL10 B2 P2 c0 c1 c2 c3 blt
  obtain ⟨c0, c1, c2, c3⟩ := H11.out.e.cells
  have blt := H11.out.e.lt
  have k0 := HR11.out.cell 0
  have k1 := HR11.out.cell 1
  have k2 := HR11.out.cell 2
  have k3 := HR11.out.cell 3
  have klt := HR11.out.lt
  obtain ⟨lb, lc9, e9, lc, llt⟩ := HL11.out.at (k := 0) rfl
  injection e9 with e91 e92 e93
  subst e91 e93
  clear e92
  have q2 : ((2 : Int) == 2) = true := rfl
  go_wp2_with fail
  refine (aw_all2 H11.out.m (by omega)).mono ?_; rintro e x3 ⟨vb, rfl, hR3, B3, P3⟩
  obtain ⟨ab, cb, rfl⟩ := hR3.slice
  have H12 := Lib.hid (H11.out.next B3 P3)
  clear H11 B3 P3 hR3 c0 c1 c2 c3 blt k0 k1 k2 k3 klt lc llt
  have HE := Lib.hid (Only.below HP.out.1 H12.out.o HP.out.1.size HP.out.2.1 HP.out.2.2)
  go_wp2_with fail
  go_ret
  exact ⟨rfl, HE.out⟩
end Go.Proofs.Ytahabfjngeicmaa
