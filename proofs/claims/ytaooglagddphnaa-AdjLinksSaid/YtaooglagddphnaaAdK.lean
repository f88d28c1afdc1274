/- Add and Remove of lists. Printed by wip/tools/adkb.py. -/
import Derived.Test.YtaooglagddphnaaAdKa
namespace Go.Proofs.Ytaooglagddphnaa
open Go.RowKit

set_option maxRecDepth 100000

/-- What the lists are in the midst of Add, of Remove. -/
def qA (q : Nat → Nat → List Nat) (s u v l j : Nat) : Nat → Nat → List Nat := if j = 0 then q else if j = 1 then qset q u l ((2 * s + 1) :: q u l) else add2 q s u v l
def qR (q : Nat → Nat → List Nat) (s u v l j : Nat) : Nat → Nat → List Nat := if j = 0 then q else if j = 1 then qset q u l ((q u l).erase (2 * s + 1)) else rem2 q s u v l
/-- Of the marks only vertices' first ones may have turned. -/
def MkB (V : Int) (mk mk' : Nat → Nat) : Prop := ∀ y, hasB (mk' y) 1 = hasB (mk y) 1 ∧ ((∀ v l : Nat, (v : Int) < V → (l : Int) < lv V → y ≠ ndA V v l) → mk' y = mk y)
/-- A loop over both lists: behind j of them. -/
def ArRel (Q : Nat → Nat → Nat → List Nat) (w0 : World) (b r : Nat) (V S T : Int) (p gb cap m : Nat) (f : Nat → Int) (mk : Nat → Nat) (ts : List Tp) (u v l : Nat) (i : Value) (W : World) : Prop :=
  ∃ (j : Nat) (f' : Nat → Int) (mk' : Nat → Nat), j ≤ 2 ∧ i = .int .i64 (j : Int) ∧ AX w0 W b V S T p gb cap (m + 2 + j * (16 + 8 * nN V S)) f' mk' ts ∧ Blk W r 105 #[.int .i64 (u : Int), .int .i64 (l : Int), .int .i64 (v : Int), .int .i64 (l : Int)] ∧ LQ V S T f' (Q j) ∧ (MQ V mk' (Q j) ∧ MkB V mk mk') ∧ Ke V S T f f'
/-- What Add, Remove leave. -/
def ArD (V S T : Int) (p gb cap m : Nat) (f : Nat → Int) (mk : Nat → Nat) (ts : List Tp) (q' : Nat → Nat → List Nat) (w : World) (e : Ending) (w' : World) : Prop :=
  ∃ f' mk', e = .returned (.tuple #[]) ∧ TA w' V S T p gb cap m f' mk' ts ∧ LQ V S T f' q' ∧ (MQ V mk' q' ∧ MkB V mk mk') ∧ Ke V S T f f' ∧ Only p gb w w'
section
variable {V S T : Int} {w w' w0 : World} {p gb cap m s u v l : Nat} {f : Nat → Int} {mk : Nat → Nat} {ts : List Tp} {q : Nat → Nat → List Nat}
theorem AX.ay {b gb p cap m v l : Nat} (h : AX w0 w b V S T p gb cap m f mk ts) : AY w0 (w.alloc (.cells #[.int .i64 (v : Int), .int .i64 (l : Int)] 105)) b w.heap.size v l V S T p gb cap m f mk ts := ⟨h.below ((Below.refl _ _).alloc (Nat.le_refl _) _), Blk.new _ _ _⟩
theorem MkB.refl {V : Int} {mk : Nat → Nat} : MkB V mk mk := fun _ => ⟨rfl, fun _ => rfl⟩
theorem MkB.trans {V : Int} {mk mk' mk2 : Nat → Nat} (h : MkB V mk mk') (h2 : MkB V mk' mk2) : MkB V mk mk2 := fun y => ⟨(h2 y).1.trans (h y).1, fun e => ((h2 y).2 e).trans ((h y).2 e)⟩
theorem setB_has1 {s : Nat} {on : Bool} (hs : s < 4) : hasB (setB s 0 on) 1 = hasB s 1 := by
  have : s = 0 ∨ s = 1 ∨ s = 2 ∨ s = 3 := by omega
  cases on <;> rcases this with rfl | rfl | rfl | rfl <;> decide
theorem MkB.turn {V S T : Int} {mk mk' : Nat → Nat} {v l : Nat} (h : MkB V mk mk') (_hR : Rt V S T) (h4 : ∀ x, mk' x < 4) (hv : (v : Int) < V) (hl : (l : Int) < lv V) (on : Bool) : MkB V mk (mkQ mk' (ndA V v l) on) := by
  refine h.trans fun y => ?_
  unfold mkQ
  split
  · exact ⟨rfl, fun _ => rfl⟩
  · unfold mkSet
    by_cases e : y = ndA V v l
    · subst e
      rw [if_pos rfl]
      exact ⟨setB_has1 (h4 _), fun hn => absurd rfl (hn v l hv hl)⟩
    · rw [if_neg e]; exact ⟨rfl, fun _ => rfl⟩
theorem Ke.refl : Ke V S T f f := ⟨fun _ _ _ _ => rfl, fun _ _ _ _ _ => rfl⟩
theorem add_any12 (A : TA w V S T p gb cap m f mk ts) (hQ : LQ V S T f q) (hM : MQ V mk q) (huv : u < v) (hv : (v : Int) < V) (hs : (s : Int) < S) (hl : (l : Int) < lv V) (h1 : f (sC S T s 1) = nV u v) (h2 : f (sC S T s 2) = (l : Int)) (hd1 : ∀ a b, 2 * s + 1 ∉ q a b) (hd2 : ∀ a b, 2 * s + 2 ∉ q a b) (hm : m ≤ 99880000) :
    Calls Try.prog 39 #[vA V S T p, .int .i64 (s : Int)] w (ArD V S T p gb cap (m + 34 + 16 * nN V S) f mk ts (add2 q s u v l) w) := by
  have H := Lib.hid (AX.new A)
  have HR := Lib.hid A.hR
  have hn560 := nN_le A.hR
  have hu : (u : Int) < V := by omega
  have hs48 : s < 48 := by have := A.hR.s2; omega
  have HPRE : Hid (u < v ∧ (f (sC S T s 1) = nV u v ∧ f (sC S T s 2) = (l : Int)) ∧ _ ∧ _) := Lib.hid ⟨huv, ⟨h1, h2⟩, hd1, hd2⟩
  have HQ9 := Lib.hid hQ
  have HM9 := Lib.hid hM
  have s0 : (0 : Int) ≤ (s : Int) := Int.natCast_nonneg _
  clear A hQ hM h1 h2 hd1 hd2
  go_enter Try.func39, Try.ntmps39
  go_wp2_with fail
  generalize (w.alloc (.cells #[.int .i64 V, .int .i64 S, .int .i64 T, .iface 84 (pmV p), .int .i64 1, .int .i64 0, .int .i64 V, .int .i64 S, .int .i64 T, .iface 84 (pmV p)] 38)) = w1 at H ⊢
  generalize w.heap.size = b at H ⊢
  refine (lists_any H.out.m HPRE.out.1 hv hs hl HPRE.out.2.1.1 HPRE.out.2.1.2 (by omega)).mono ?_; rintro e w2 ⟨r, rfl, B2, r2, A2, O2⟩
  have HRel : Hid (ArRel (qA q s u v l) w b r V S T p gb cap m f mk ts u v l (.int .i64 0) w2) := Lib.hid ⟨0, f, mk, by omega, rfl, by
    have := H.out.next A2 O2
    exact ⟨this.e, this.m.more (by omega), this.o⟩, B2, HQ9.out, ⟨HM9.out, MkB.refl⟩, Ke.refl⟩
  clear H B2 r2 A2 O2 HQ9 HM9
  go_wp2_with fail
  go_loopw [12] (fun i wr => ArRel (qA q s u v l) w b r V S T p gb cap m f mk ts u v l i wr) (fun i _ => 2 - (intOf i).toNat)
  case atStart => exact HRel.out
  case round =>
    clear HRel
    obtain ⟨j, f1, mk1, hj, rfl, hX, hB, hQ, ⟨hM, hMB⟩, hK⟩ := hrel
    have HMB := Lib.hid hMB
    clear hMB
    have HX := Lib.hid hX
    clear hX
    rcases (by omega : j = 0 ∨ j = 1 ∨ j = 2) with hj0 | hj0 | hj0
    · subst hj0
      as_aux_lemma =>
        have hA := HX.out
        clear HX
        have HQ0 : Hid (LQ V S T f1 (qA q s u v l 0)) := Lib.hid hQ
        have HM0 : Hid (MQ V mk1 (qA q s u v l 0)) := Lib.hid hM
        have HK0 := Lib.hid hK
        have HB0 := Lib.hid hB
        clear hQ hM hK hB
        obtain ⟨x, hx⟩ : ∃ x, 2 * s + 0 + 1 = x := ⟨_, rfl⟩
        have hx1 : 1 ≤ x := by omega
        have hx2 : (x : Int) ≤ 2 * S := by omega
        have HXX := Lib.hid hx
        have HD9 : Hid (∀ a b, x ∉ qA q s u v l 0 a b) := Lib.hid (by rw [← hx]; exact HPRE.out.2.2.1)
        obtain ⟨c0, c1, c2, c3, c4, c5, c6, c7, c8, c9⟩ := hA.e.cells
        have blt := hA.e.lt
        have HA := Lib.hid hA
        clear hA hx
        have g0 := HB0.out.cell 0
        have g1 := HB0.out.cell 1
        have glt := HB0.out.lt
        go_wp2_with fail
        have HY0 := Lib.hid (HA.out.ay (v := u) (l := l))
        have HB1 := Lib.hid (HB0.out.alloc (.cells #[.int .i64 (u : Int), .int .i64 (l : Int)] 105))
        clear HA HB0 c0 c1 c2 c3 c4 c5 c6 c7 c8 c9 blt g0 g1 glt
        generalize wr.alloc (.cells #[.int .i64 (u : Int), .int .i64 (l : Int)] 105) = W1 at HY0 HB1 ⊢
        generalize wr.heap.size = lb at HY0 ⊢
        refine (number_any (s := s) (d := 0) hs48 (by decide) _).mono ?_; rintro e w2 ⟨rfl, hb2⟩; rw [HXX.out]
        have HY1 := Lib.hid (HY0.out.below hb2)
        have HB2 := Lib.hid (HB1.out.below hb2 HB1.out.lt)
        clear HY0 HB1 hb2
        obtain ⟨c0, c1, c2, c3, c4, c5, c6, c7, c8, c9⟩ := HY1.out.x.e.cells
        have blt := HY1.out.x.e.lt
        obtain ⟨d0, d1⟩ := HY1.out.l.cells
        have dlt := HY1.out.l.lt
        go_wp2_with fail
        refine (has_no14 HY1.out.x.m HQ0.out hu hl (HD9.out u l) (by omega)).mono ?_; rintro e w3 ⟨rfl, A3, O3⟩
        have HY2 := Lib.hid (HY1.out.next A3 O3)
        have HB3 := Lib.hid (Blk.ta HB2.out HY1.out.x.m O3 (by decide) (by decide))
        clear HY1 HB2 A3 O3 c0 c1 c2 c3 c4 c5 c6 c7 c8 c9 blt d0 d1 dlt
        obtain ⟨c0, c1, c2, c3, c4, c5, c6, c7, c8, c9⟩ := HY2.out.x.e.cells
        have blt := HY2.out.x.e.lt
        obtain ⟨d0, d1⟩ := HY2.out.l.cells
        have dlt := HY2.out.l.lt
        go_wp2_with fail
        have hh := (HQ0.out.pt u l hu hl).1
        generalize hn9 : (qA q s u v l 0 u l).headD 0 = nn at hh
        have hnS : (nn : Int) ≤ 2 * S := by rw [← hn9]; exact HQ0.out.head_le HR.out.s1
        have HN9 := Lib.hid hn9
        have HHH : Hid (f1 (nxA V S T u l 0) = (nn : Int)) := Lib.hid (by unfold nxA; rw [if_pos rfl]; exact hh)
        have nn0 : (0 : Int) ≤ (nn : Int) := Int.natCast_nonneg _
        clear hh hn9
        refine (behind_any (x := 0) HY2.out.x.m hu hl (by have := HR.out.s1; omega) (by omega) rfl).mono ?_; rintro e w4 ⟨rfl, A4, O4⟩; rw [HHH.out]
        have HY3 := Lib.hid (HY2.out.next A4 O4)
        have HB4 := Lib.hid (Blk.ta HB3.out HY2.out.x.m O4 (by decide) (by decide))
        clear HY2 HB3 A4 O4 c0 c1 c2 c3 c4 c5 c6 c7 c8 c9 blt d0 d1 dlt
        obtain ⟨c0, c1, c2, c3, c4, c5, c6, c7, c8, c9⟩ := HY3.out.x.e.cells
        have blt := HY3.out.x.e.lt
        obtain ⟨d0, d1⟩ := HY3.out.l.cells
        have dlt := HY3.out.l.lt
        go_wp2_with fail
        refine (join_any (x := 0) (y := x) HY3.out.x.m hu hl (by have := HR.out.s1; omega) hx2 (by omega) rfl rfl).mono ?_; rintro e w5 ⟨rfl, A5, O5⟩
        have HY4 := Lib.hid (HY3.out.next A5 O5)
        have HB5 := Lib.hid (Blk.ta HB4.out HY3.out.x.m O5 (by decide) (by decide))
        clear HY3 HB4 A5 O5 c0 c1 c2 c3 c4 c5 c6 c7 c8 c9 blt d0 d1 dlt
        obtain ⟨c0, c1, c2, c3, c4, c5, c6, c7, c8, c9⟩ := HY4.out.x.e.cells
        have blt := HY4.out.x.e.lt
        obtain ⟨d0, d1⟩ := HY4.out.l.cells
        have dlt := HY4.out.l.lt
        go_wp2_with fail
        refine (join_any (x := x) (y := nn) HY4.out.x.m hu hl hx2 hnS (by omega) rfl rfl).mono ?_; rintro e w6 ⟨rfl, A6, O6⟩
        have HY5 := Lib.hid (HY4.out.next A6 O6)
        have HB6 := Lib.hid (Blk.ta HB5.out HY4.out.x.m O6 (by decide) (by decide))
        clear HY4 HB5 A6 O6 c0 c1 c2 c3 c4 c5 c6 c7 c8 c9 blt d0 d1 dlt
        obtain ⟨c0, c1, c2, c3, c4, c5, c6, c7, c8, c9⟩ := HY5.out.x.e.cells
        have blt := HY5.out.x.e.lt
        obtain ⟨d0, d1⟩ := HY5.out.l.cells
        have dlt := HY5.out.l.lt
        have HL9 := Lib.hid (HQ0.out.add HR.out hu hl hx1 hx2 HD9.out (joinF_is (f := f1) HR.out hu hl (by have := HR.out.s1; omega) hx2) (by rw [HN9.out]; exact joinF_is HR.out hu hl hx2 hnS))
        obtain ⟨f2, hf2⟩ : ∃ f2, joinF V S T (joinF V S T f1 u l 0 x) u l x nn = f2 := ⟨_, rfl⟩
        have HL8 : Hid (LQ V S T f2 (qset (qA q s u v l 0) u l (x :: qA q s u v l 0 u l)) ∧ Ke V S T f1 f2) := Lib.hid (by rw [← hf2]; exact HL9.out)
        have HY6 := HY5
        rw [hf2] at HY6
        have enq : qset (qA q s u v l 0) u l (x :: qA q s u v l 0 u l) = qA q s u v l 1 := by
          rw [← HXX.out]
          rfl
        have HL7 : Hid (LQ V S T f2 (qA q s u v l 1) ∧ Ke V S T f1 f2) := Lib.hid (by rw [← enq]; exact HL8.out)
        have hh2 := (HL7.out.1.pt u l hu hl).1
        have hM2 : MQ V (mkQ mk1 (ndA V u l) (decide ((qA q s u v l 1 u l).headD 0 ≠ 0))) (qA q s u v l 1) := by
          rw [← enq]
          refine HM0.out.turn HR.out (fun x => HY6.out.x.m.mk4 x) hu hl ?_
          rw [enq]
          have := (HL7.out.1.head_zero (v := u) (l := l))
          rw [← enq, qset_at] at this
          rw [← enq, qset_at]
          exact not_congr this
        generalize (qA q s u v l 1 u l).headD 0 = h9 at hh2 hM2
        have HM2 := Lib.hid (And.intro hM2 (HMB.out.turn HR.out (fun x => HY6.out.x.m.mk4 x) hu hl (decide (h9 ≠ 0))))
        have HH2 := Lib.hid hh2
        clear hM2 hh2 enq hf2 HL9 HY5
        go_wp2_with fail
        refine (mark_any HY6.out.x.m hu hl HH2.out (by omega)).mono ?_; rintro e w7 ⟨rfl, A7, O7⟩
        have HR9 : Hid (ArRel (qA q s u v l) w b r V S T p gb cap m f mk ts u v l (.int .i64 1) w7) := Lib.hid ⟨1, f2, _, by omega, rfl, by
          have := HY6.out.x.next A7 O7
          exact ⟨this.e, this.m.more (by omega), this.o⟩, Blk.ta HB6.out HY6.out.x.m O7 (by decide) (by decide), HL7.out.1, HM2.out, HK0.out.trans HL7.out.2⟩
        clear HY6 HB6 A7 O7 HL7 HL8 HM2 HH2 HK0 HM0 HQ0 c0 c1 c2 c3 c4 c5 c6 c7 c8 c9 blt d0 d1 dlt
        go_wp2_with fail
        go_roundw
        case rel => exact HR9.out
        case measure => simp [intOf]
    · subst hj0
      as_aux_lemma =>
        have hA := HX.out
        clear HX
        have HQ0 : Hid (LQ V S T f1 (qA q s u v l 1)) := Lib.hid hQ
        have HM0 : Hid (MQ V mk1 (qA q s u v l 1)) := Lib.hid hM
        have HK0 := Lib.hid hK
        have HB0 := Lib.hid hB
        clear hQ hM hK hB
        obtain ⟨x, hx⟩ : ∃ x, 2 * s + 1 + 1 = x := ⟨_, rfl⟩
        have hx1 : 1 ≤ x := by omega
        have hx2 : (x : Int) ≤ 2 * S := by omega
        have HXX := Lib.hid hx
        have HD9 : Hid (∀ a b, x ∉ qA q s u v l 1 a b) := Lib.hid (by
          intro a b hm
          rcases mem_qset.1 (show x ∈ qset q u l ((2 * s + 1) :: q u l) a b from hm) with ⟨e1, e2, h⟩ | ⟨_, h⟩
          · rcases List.mem_cons.1 h with h | h
            · omega
            · exact HPRE.out.2.2.2 u l (by rw [show 2 * s + 2 = x by omega]; exact h)
          · exact HPRE.out.2.2.2 a b (by rw [show 2 * s + 2 = x by omega]; exact h))
        obtain ⟨c0, c1, c2, c3, c4, c5, c6, c7, c8, c9⟩ := hA.e.cells
        have blt := hA.e.lt
        have HA := Lib.hid hA
        clear hA hx
        have g0 := HB0.out.cell 2
        have g1 := HB0.out.cell 3
        have glt := HB0.out.lt
        go_wp2_with fail
        have HY0 := Lib.hid (HA.out.ay (v := v) (l := l))
        have HB1 := Lib.hid (HB0.out.alloc (.cells #[.int .i64 (v : Int), .int .i64 (l : Int)] 105))
        clear HA HB0 c0 c1 c2 c3 c4 c5 c6 c7 c8 c9 blt g0 g1 glt
        generalize wr.alloc (.cells #[.int .i64 (v : Int), .int .i64 (l : Int)] 105) = W1 at HY0 HB1 ⊢
        generalize wr.heap.size = lb at HY0 ⊢
        refine (number_any (s := s) (d := 1) hs48 (by decide) _).mono ?_; rintro e w2 ⟨rfl, hb2⟩; rw [HXX.out]
        have HY1 := Lib.hid (HY0.out.below hb2)
        have HB2 := Lib.hid (HB1.out.below hb2 HB1.out.lt)
        clear HY0 HB1 hb2
        obtain ⟨c0, c1, c2, c3, c4, c5, c6, c7, c8, c9⟩ := HY1.out.x.e.cells
        have blt := HY1.out.x.e.lt
        obtain ⟨d0, d1⟩ := HY1.out.l.cells
        have dlt := HY1.out.l.lt
        go_wp2_with fail
        refine (has_no14 HY1.out.x.m HQ0.out hv hl (HD9.out v l) (by omega)).mono ?_; rintro e w3 ⟨rfl, A3, O3⟩
        have HY2 := Lib.hid (HY1.out.next A3 O3)
        have HB3 := Lib.hid (Blk.ta HB2.out HY1.out.x.m O3 (by decide) (by decide))
        clear HY1 HB2 A3 O3 c0 c1 c2 c3 c4 c5 c6 c7 c8 c9 blt d0 d1 dlt
        obtain ⟨c0, c1, c2, c3, c4, c5, c6, c7, c8, c9⟩ := HY2.out.x.e.cells
        have blt := HY2.out.x.e.lt
        obtain ⟨d0, d1⟩ := HY2.out.l.cells
        have dlt := HY2.out.l.lt
        go_wp2_with fail
        have hh := (HQ0.out.pt v l hv hl).1
        generalize hn9 : (qA q s u v l 1 v l).headD 0 = nn at hh
        have hnS : (nn : Int) ≤ 2 * S := by rw [← hn9]; exact HQ0.out.head_le HR.out.s1
        have HN9 := Lib.hid hn9
        have HHH : Hid (f1 (nxA V S T v l 0) = (nn : Int)) := Lib.hid (by unfold nxA; rw [if_pos rfl]; exact hh)
        have nn0 : (0 : Int) ≤ (nn : Int) := Int.natCast_nonneg _
        clear hh hn9
        refine (behind_any (x := 0) HY2.out.x.m hv hl (by have := HR.out.s1; omega) (by omega) rfl).mono ?_; rintro e w4 ⟨rfl, A4, O4⟩; rw [HHH.out]
        have HY3 := Lib.hid (HY2.out.next A4 O4)
        have HB4 := Lib.hid (Blk.ta HB3.out HY2.out.x.m O4 (by decide) (by decide))
        clear HY2 HB3 A4 O4 c0 c1 c2 c3 c4 c5 c6 c7 c8 c9 blt d0 d1 dlt
        obtain ⟨c0, c1, c2, c3, c4, c5, c6, c7, c8, c9⟩ := HY3.out.x.e.cells
        have blt := HY3.out.x.e.lt
        obtain ⟨d0, d1⟩ := HY3.out.l.cells
        have dlt := HY3.out.l.lt
        go_wp2_with fail
        refine (join_any (x := 0) (y := x) HY3.out.x.m hv hl (by have := HR.out.s1; omega) hx2 (by omega) rfl rfl).mono ?_; rintro e w5 ⟨rfl, A5, O5⟩
        have HY4 := Lib.hid (HY3.out.next A5 O5)
        have HB5 := Lib.hid (Blk.ta HB4.out HY3.out.x.m O5 (by decide) (by decide))
        clear HY3 HB4 A5 O5 c0 c1 c2 c3 c4 c5 c6 c7 c8 c9 blt d0 d1 dlt
        obtain ⟨c0, c1, c2, c3, c4, c5, c6, c7, c8, c9⟩ := HY4.out.x.e.cells
        have blt := HY4.out.x.e.lt
        obtain ⟨d0, d1⟩ := HY4.out.l.cells
        have dlt := HY4.out.l.lt
        go_wp2_with fail
        refine (join_any (x := x) (y := nn) HY4.out.x.m hv hl hx2 hnS (by omega) rfl rfl).mono ?_; rintro e w6 ⟨rfl, A6, O6⟩
        have HY5 := Lib.hid (HY4.out.next A6 O6)
        have HB6 := Lib.hid (Blk.ta HB5.out HY4.out.x.m O6 (by decide) (by decide))
        clear HY4 HB5 A6 O6 c0 c1 c2 c3 c4 c5 c6 c7 c8 c9 blt d0 d1 dlt
        obtain ⟨c0, c1, c2, c3, c4, c5, c6, c7, c8, c9⟩ := HY5.out.x.e.cells
        have blt := HY5.out.x.e.lt
        obtain ⟨d0, d1⟩ := HY5.out.l.cells
        have dlt := HY5.out.l.lt
        have HL9 := Lib.hid (HQ0.out.add HR.out hv hl hx1 hx2 HD9.out (joinF_is (f := f1) HR.out hv hl (by have := HR.out.s1; omega) hx2) (by rw [HN9.out]; exact joinF_is HR.out hv hl hx2 hnS))
        obtain ⟨f2, hf2⟩ : ∃ f2, joinF V S T (joinF V S T f1 v l 0 x) v l x nn = f2 := ⟨_, rfl⟩
        have HL8 : Hid (LQ V S T f2 (qset (qA q s u v l 1) v l (x :: qA q s u v l 1 v l)) ∧ Ke V S T f1 f2) := Lib.hid (by rw [← hf2]; exact HL9.out)
        have HY6 := HY5
        rw [hf2] at HY6
        have enq : qset (qA q s u v l 1) v l (x :: qA q s u v l 1 v l) = qA q s u v l 2 := by
          rw [← HXX.out]
          show _ = add2 q s u v l; unfold add2; show qset (qset q u l ((2 * s + 1) :: q u l)) v l ((2 * s + 1 + 1) :: qset q u l ((2 * s + 1) :: q u l) v l) = _; rw [qset_ne (by have := HPRE.out.1; omega)]
        have HL7 : Hid (LQ V S T f2 (qA q s u v l 2) ∧ Ke V S T f1 f2) := Lib.hid (by rw [← enq]; exact HL8.out)
        have hh2 := (HL7.out.1.pt v l hv hl).1
        have hM2 : MQ V (mkQ mk1 (ndA V v l) (decide ((qA q s u v l 2 v l).headD 0 ≠ 0))) (qA q s u v l 2) := by
          rw [← enq]
          refine HM0.out.turn HR.out (fun x => HY6.out.x.m.mk4 x) hv hl ?_
          rw [enq]
          have := (HL7.out.1.head_zero (v := v) (l := l))
          rw [← enq, qset_at] at this
          rw [← enq, qset_at]
          exact not_congr this
        generalize (qA q s u v l 2 v l).headD 0 = h9 at hh2 hM2
        have HM2 := Lib.hid (And.intro hM2 (HMB.out.turn HR.out (fun x => HY6.out.x.m.mk4 x) hv hl (decide (h9 ≠ 0))))
        have HH2 := Lib.hid hh2
        clear hM2 hh2 enq hf2 HL9 HY5
        go_wp2_with fail
        refine (mark_any HY6.out.x.m hv hl HH2.out (by omega)).mono ?_; rintro e w7 ⟨rfl, A7, O7⟩
        have HR9 : Hid (ArRel (qA q s u v l) w b r V S T p gb cap m f mk ts u v l (.int .i64 2) w7) := Lib.hid ⟨2, f2, _, by omega, rfl, by
          have := HY6.out.x.next A7 O7
          exact ⟨this.e, this.m.more (by omega), this.o⟩, Blk.ta HB6.out HY6.out.x.m O7 (by decide) (by decide), HL7.out.1, HM2.out, HK0.out.trans HL7.out.2⟩
        clear HY6 HB6 A7 O7 HL7 HL8 HM2 HH2 HK0 HM0 HQ0 c0 c1 c2 c3 c4 c5 c6 c7 c8 c9 blt d0 d1 dlt
        go_wp2_with fail
        go_roundw
        case rel => exact HR9.out
        case measure => simp [intOf]
    · subst hj0
      as_aux_lemma =>
        go_wp2_with fail
        go_end0
        exact ⟨f1, mk1, rfl, HX.out.m.more (by omega), hQ, ⟨hM, HMB.out⟩, hK, HX.out.o⟩
theorem rem_any12 (A : TA w V S T p gb cap m f mk ts) (hQ : LQ V S T f q) (hM : MQ V mk q) (huv : u < v) (hv : (v : Int) < V) (hs : (s : Int) < S) (hl : (l : Int) < lv V) (h1 : f (sC S T s 1) = nV u v) (h2 : f (sC S T s 2) = (l : Int)) (hd1 : 2 * s + 1 ∈ q u l) (hd2 : 2 * s + 2 ∈ q v l) (hn1 : ((q u l).length : Int) ≤ S) (hn2 : ((q v l).length : Int) ≤ S) (hm : m ≤ 99880000) :
    Calls Try.prog 42 #[vA V S T p, .int .i64 (s : Int)] w (ArD V S T p gb cap (m + 34 + 16 * nN V S) f mk ts (rem2 q s u v l) w) := by
  have H := Lib.hid (AX.new A)
  have HR := Lib.hid A.hR
  have hn560 := nN_le A.hR
  have hu : (u : Int) < V := by omega
  have hs48 : s < 48 := by have := A.hR.s2; omega
  have HPRE : Hid (u < v ∧ (f (sC S T s 1) = nV u v ∧ f (sC S T s 2) = (l : Int)) ∧ _ ∧ _) := Lib.hid ⟨huv, ⟨h1, h2⟩, hd1, hd2⟩
  have HNN := Lib.hid (And.intro hn1 hn2)
  have HQ9 := Lib.hid hQ
  have HM9 := Lib.hid hM
  have s0 : (0 : Int) ≤ (s : Int) := Int.natCast_nonneg _
  clear A hQ hM h1 h2 hd1 hd2 hn1 hn2
  go_enter Try.func42, Try.ntmps42
  go_wp2_with fail
  generalize (w.alloc (.cells #[.int .i64 V, .int .i64 S, .int .i64 T, .iface 84 (pmV p), .int .i64 1, .int .i64 0, .int .i64 V, .int .i64 S, .int .i64 T, .iface 84 (pmV p)] 38)) = w1 at H ⊢
  generalize w.heap.size = b at H ⊢
  refine (lists_any H.out.m HPRE.out.1 hv hs hl HPRE.out.2.1.1 HPRE.out.2.1.2 (by omega)).mono ?_; rintro e w2 ⟨r, rfl, B2, r2, A2, O2⟩
  have HRel : Hid (ArRel (qR q s u v l) w b r V S T p gb cap m f mk ts u v l (.int .i64 0) w2) := Lib.hid ⟨0, f, mk, by omega, rfl, by
    have := H.out.next A2 O2
    exact ⟨this.e, this.m.more (by omega), this.o⟩, B2, HQ9.out, ⟨HM9.out, MkB.refl⟩, Ke.refl⟩
  clear H B2 r2 A2 O2 HQ9 HM9
  go_wp2_with fail
  go_loopw [11] (fun i wr => ArRel (qR q s u v l) w b r V S T p gb cap m f mk ts u v l i wr) (fun i _ => 2 - (intOf i).toNat)
  case atStart => exact HRel.out
  case round =>
    clear HRel
    obtain ⟨j, f1, mk1, hj, rfl, hX, hB, hQ, ⟨hM, hMB⟩, hK⟩ := hrel
    have HMB := Lib.hid hMB
    clear hMB
    have HX := Lib.hid hX
    clear hX
    rcases (by omega : j = 0 ∨ j = 1 ∨ j = 2) with hj0 | hj0 | hj0
    · subst hj0
      as_aux_lemma =>
        have hA := HX.out
        clear HX
        have HQ0 : Hid (LQ V S T f1 (qR q s u v l 0)) := Lib.hid hQ
        have HM0 : Hid (MQ V mk1 (qR q s u v l 0)) := Lib.hid hM
        have HK0 := Lib.hid hK
        have HB0 := Lib.hid hB
        clear hQ hM hK hB
        obtain ⟨x, hx⟩ : ∃ x, 2 * s + 0 + 1 = x := ⟨_, rfl⟩
        have hx1 : 1 ≤ x := by omega
        have hx2 : (x : Int) ≤ 2 * S := by omega
        have HXX := Lib.hid hx
        have hmem : x ∈ qR q s u v l 0 u l := by rw [← hx]; exact HPRE.out.2.2.1
        have HMEM := Lib.hid hmem
        have HLEN : Hid (((qR q s u v l 0 u l).length : Int) ≤ S) := Lib.hid HNN.out.1
        obtain ⟨l1, l3, hql⟩ := List.append_of_mem hmem
        have HQL := Lib.hid hql
        obtain ⟨i1, i2, i3⟩ := HQ0.out.live hu hl hql
        have hpS : ((l1.getLast?.getD 0 : Nat) : Int) ≤ 2 * S := by
          by_cases e : l1.getLast?.getD 0 = 0
          · rw [e]; have := HR.out.s1; omega
          · exact (HQ0.out.rg u l _ (by rw [hql]; exact List.mem_append_left _ (last_mem e))).2
        have hnS : ((l3.headD 0 : Nat) : Int) ≤ 2 * S := by
          by_cases e : l3.headD 0 = 0
          · rw [e]; have := HR.out.s1; omega
          · exact (HQ0.out.rg u l _ (by rw [hql]; exact List.mem_append_right _ (List.mem_cons_of_mem _ (headD_mem e)))).2
        have HNA : Hid (f1 (nxA V S T u l x) = ((l3.headD 0 : Nat) : Int)) := Lib.hid (by unfold nxA; rw [if_neg (by omega)]; exact i2)
        have HERA : Hid (l1 ++ l3 = (qR q s u v l 0 u l).erase x) := Lib.hid (by rw [hql, erase_at]; have := HQ0.out.nd u l; rw [hql] at this; exact this)
        clear hmem hql
        generalize hp9 : l1.getLast?.getD 0 = pp at i1 i3 hpS
        generalize hn9 : l3.headD 0 = nn at i2 hnS HNA
        have HI1 := Lib.hid i1
        have HI3 := Lib.hid i3
        have HP9 := Lib.hid hp9
        have HN9 := Lib.hid hn9
        clear i1 i2 i3 hp9 hn9
        have pp0 : (0 : Int) ≤ (pp : Int) := Int.natCast_nonneg _
        have nn0 : (0 : Int) ≤ (nn : Int) := Int.natCast_nonneg _
        obtain ⟨c0, c1, c2, c3, c4, c5, c6, c7, c8, c9⟩ := hA.e.cells
        have blt := hA.e.lt
        have HA := Lib.hid hA
        clear hA hx
        have g0 := HB0.out.cell 0
        have g1 := HB0.out.cell 1
        have glt := HB0.out.lt
        go_wp2_with fail
        have HY0 := Lib.hid (HA.out.ay (v := u) (l := l))
        have HB1 := Lib.hid (HB0.out.alloc (.cells #[.int .i64 (u : Int), .int .i64 (l : Int)] 105))
        clear HA HB0 c0 c1 c2 c3 c4 c5 c6 c7 c8 c9 blt g0 g1 glt
        generalize wr.alloc (.cells #[.int .i64 (u : Int), .int .i64 (l : Int)] 105) = W1 at HY0 HB1 ⊢
        generalize wr.heap.size = lb at HY0 ⊢
        refine (number_any (s := s) (d := 0) hs48 (by decide) _).mono ?_; rintro e w2 ⟨rfl, hb2⟩; rw [HXX.out]
        have HY1 := Lib.hid (HY0.out.below hb2)
        have HB2 := Lib.hid (HB1.out.below hb2 HB1.out.lt)
        clear HY0 HB1 hb2
        obtain ⟨c0, c1, c2, c3, c4, c5, c6, c7, c8, c9⟩ := HY1.out.x.e.cells
        have blt := HY1.out.x.e.lt
        obtain ⟨d0, d1⟩ := HY1.out.l.cells
        have dlt := HY1.out.l.lt
        go_wp2_with fail
        refine (has_yes14 HY1.out.x.m HQ0.out hu hl HMEM.out HLEN.out (by omega)).mono ?_; rintro e w3 ⟨rfl, A3, O3⟩
        have HY2 := Lib.hid (HY1.out.next A3 O3)
        have HB3 := Lib.hid (Blk.ta HB2.out HY1.out.x.m O3 (by decide) (by decide))
        clear HY1 HB2 A3 O3 c0 c1 c2 c3 c4 c5 c6 c7 c8 c9 blt d0 d1 dlt
        obtain ⟨c0, c1, c2, c3, c4, c5, c6, c7, c8, c9⟩ := HY2.out.x.e.cells
        have blt := HY2.out.x.e.lt
        obtain ⟨d0, d1⟩ := HY2.out.l.cells
        have dlt := HY2.out.l.lt
        go_wp2_with fail
        have HD := Lib.hid HY2.out.drew
        have hrule := SA2.rule b lb u l V S T p
        go_region_held3 (fun W => SA2 W b lb u l V S T p) (first | (with_reducible assumption) | (with_reducible exact HZ3.out.sa) | (with_reducible exact HZ2.out.sa) | (with_reducible exact HZ1.out.sa) | (with_reducible exact HD.out.sa))
          (first
            | (go_at_call 96; ((with_reducible refine (ahead_any HD.out.x.m hx1 hx2 (by omega)).mono ?_); rintro e w4 ⟨rfl, A4, O4⟩; rw [HI1.out]; have HZ1 := Lib.hid (HD.out.next A4 O4); have HB4 := Lib.hid (Blk.ta (Blk.drew HB3.out) HD.out.x.m O4 (by decide) (by decide))))
            | (go_at_call 58; ((with_reducible refine (behind_any (x := x) HZ1.out.x.m hu hl hx2 (by omega) rfl).mono ?_); rintro e w5 ⟨rfl, A5, O5⟩; rw [HNA.out]; have HZ2 := Lib.hid (HZ1.out.next A5 O5); have HB5 := Lib.hid (Blk.ta HB4.out HZ1.out.x.m O5 (by decide) (by decide))))
            | (go_at_call 92; ((with_reducible refine (join_any (x := pp) (y := nn) HZ2.out.x.m hu hl hpS hnS (by omega) rfl rfl).mono ?_); rintro e w6 ⟨rfl, A6, O6⟩; have HZ3 := Lib.hid (HZ2.out.next A6 O6); have HB6 := Lib.hid (Blk.ta HB5.out HZ2.out.x.m O6 (by decide) (by decide))))
            | fail)
        clear hrule HD HY2 HB3 HZ1 HZ2 HB4 HB5 A4 O4 A5 O5 A6 O6 c0 c1 c2 c3 c4 c5 c6 c7 c8 c9 blt d0 d1 dlt
        obtain ⟨c0, c1, c2, c3, c4, c5, c6, c7, c8, c9⟩ := HZ3.out.x.e.cells
        have blt := HZ3.out.x.e.lt
        obtain ⟨d0, d1⟩ := HZ3.out.l.cells
        have dlt := HZ3.out.l.lt
        obtain ⟨f2, hf2⟩ : ∃ f2, joinF V S T f1 u l pp nn = f2 := ⟨_, rfl⟩
        have HJ9 : Hid (JF V S T f1 f2 u l pp nn) := Lib.hid (by rw [← hf2]; exact joinF_is HR.out hu hl hpS hnS)
        have HL8 : Hid (LQ V S T f2 (qset (qR q s u v l 0) u l ((qR q s u v l 0 u l).erase x)) ∧ Ke V S T f1 f2) := Lib.hid ⟨by rw [← HERA.out]; exact HQ0.out.rem HR.out hu hl HQL.out (by rw [HP9.out, HN9.out]; exact HJ9.out), HJ9.out.k⟩
        have HY6 := HZ3
        rw [hf2] at HY6
        clear HZ3
        have enq : qset (qR q s u v l 0) u l ((qR q s u v l 0 u l).erase x) = qR q s u v l 1 := by
          rw [← HXX.out]
          rfl
        have HL7 : Hid (LQ V S T f2 (qR q s u v l 1) ∧ Ke V S T f1 f2) := Lib.hid (by rw [← enq]; exact HL8.out)
        have hh2 := (HL7.out.1.pt u l hu hl).1
        have hM2 : MQ V (mkQ mk1 (ndA V u l) (decide ((qR q s u v l 1 u l).headD 0 ≠ 0))) (qR q s u v l 1) := by
          rw [← enq]
          refine HM0.out.turn HR.out (fun x => HY6.out.x.m.mk4 x) hu hl ?_
          rw [enq]
          have := (HL7.out.1.head_zero (v := u) (l := l))
          rw [← enq, qset_at] at this
          rw [← enq, qset_at]
          exact not_congr this
        generalize (qR q s u v l 1 u l).headD 0 = h9 at hh2 hM2
        have HM2 := Lib.hid (And.intro hM2 (HMB.out.turn HR.out (fun x => HY6.out.x.m.mk4 x) hu hl (decide (h9 ≠ 0))))
        have HH2 := Lib.hid hh2
        clear hM2 hh2 enq hf2 
        go_wp2_with fail
        refine (mark_any HY6.out.x.m hu hl HH2.out (by omega)).mono ?_; rintro e w7 ⟨rfl, A7, O7⟩
        have HR9 : Hid (ArRel (qR q s u v l) w b r V S T p gb cap m f mk ts u v l (.int .i64 1) w7) := Lib.hid ⟨1, f2, _, by omega, rfl, by
          have := HY6.out.x.next A7 O7
          exact ⟨this.e, this.m.more (by omega), this.o⟩, Blk.ta HB6.out HY6.out.x.m O7 (by decide) (by decide), HL7.out.1, HM2.out, HK0.out.trans HL7.out.2⟩
        clear HY6 HB6 A7 O7 HL7 HL8 HM2 HH2 HK0 HM0 HQ0 c0 c1 c2 c3 c4 c5 c6 c7 c8 c9 blt d0 d1 dlt
        go_wp2_with fail
        go_roundw
        case rel => exact HR9.out
        case measure => simp [intOf]
    · subst hj0
      as_aux_lemma =>
        have hA := HX.out
        clear HX
        have HQ0 : Hid (LQ V S T f1 (qR q s u v l 1)) := Lib.hid hQ
        have HM0 : Hid (MQ V mk1 (qR q s u v l 1)) := Lib.hid hM
        have HK0 := Lib.hid hK
        have HB0 := Lib.hid hB
        clear hQ hM hK hB
        obtain ⟨x, hx⟩ : ∃ x, 2 * s + 1 + 1 = x := ⟨_, rfl⟩
        have hx1 : 1 ≤ x := by omega
        have hx2 : (x : Int) ≤ 2 * S := by omega
        have HXX := Lib.hid hx
        have hmem : x ∈ qR q s u v l 1 v l := by
          show x ∈ qset q u l ((q u l).erase (2 * s + 1)) v l
          rw [qset_ne (by have := HPRE.out.1; omega), ← hx]; exact HPRE.out.2.2.2
        have HMEM := Lib.hid hmem
        have HLEN : Hid (((qR q s u v l 1 v l).length : Int) ≤ S) := Lib.hid (by show ((qset q u l ((q u l).erase (2 * s + 1)) v l).length : Int) ≤ S; rw [qset_ne (by have := HPRE.out.1; omega)]; exact HNN.out.2)
        obtain ⟨l1, l3, hql⟩ := List.append_of_mem hmem
        have HQL := Lib.hid hql
        obtain ⟨i1, i2, i3⟩ := HQ0.out.live hv hl hql
        have hpS : ((l1.getLast?.getD 0 : Nat) : Int) ≤ 2 * S := by
          by_cases e : l1.getLast?.getD 0 = 0
          · rw [e]; have := HR.out.s1; omega
          · exact (HQ0.out.rg v l _ (by rw [hql]; exact List.mem_append_left _ (last_mem e))).2
        have hnS : ((l3.headD 0 : Nat) : Int) ≤ 2 * S := by
          by_cases e : l3.headD 0 = 0
          · rw [e]; have := HR.out.s1; omega
          · exact (HQ0.out.rg v l _ (by rw [hql]; exact List.mem_append_right _ (List.mem_cons_of_mem _ (headD_mem e)))).2
        have HNA : Hid (f1 (nxA V S T v l x) = ((l3.headD 0 : Nat) : Int)) := Lib.hid (by unfold nxA; rw [if_neg (by omega)]; exact i2)
        have HERA : Hid (l1 ++ l3 = (qR q s u v l 1 v l).erase x) := Lib.hid (by rw [hql, erase_at]; have := HQ0.out.nd v l; rw [hql] at this; exact this)
        clear hmem hql
        generalize hp9 : l1.getLast?.getD 0 = pp at i1 i3 hpS
        generalize hn9 : l3.headD 0 = nn at i2 hnS HNA
        have HI1 := Lib.hid i1
        have HI3 := Lib.hid i3
        have HP9 := Lib.hid hp9
        have HN9 := Lib.hid hn9
        clear i1 i2 i3 hp9 hn9
        have pp0 : (0 : Int) ≤ (pp : Int) := Int.natCast_nonneg _
        have nn0 : (0 : Int) ≤ (nn : Int) := Int.natCast_nonneg _
        obtain ⟨c0, c1, c2, c3, c4, c5, c6, c7, c8, c9⟩ := hA.e.cells
        have blt := hA.e.lt
        have HA := Lib.hid hA
        clear hA hx
        have g0 := HB0.out.cell 2
        have g1 := HB0.out.cell 3
        have glt := HB0.out.lt
        go_wp2_with fail
        have HY0 := Lib.hid (HA.out.ay (v := v) (l := l))
        have HB1 := Lib.hid (HB0.out.alloc (.cells #[.int .i64 (v : Int), .int .i64 (l : Int)] 105))
        clear HA HB0 c0 c1 c2 c3 c4 c5 c6 c7 c8 c9 blt g0 g1 glt
        generalize wr.alloc (.cells #[.int .i64 (v : Int), .int .i64 (l : Int)] 105) = W1 at HY0 HB1 ⊢
        generalize wr.heap.size = lb at HY0 ⊢
        refine (number_any (s := s) (d := 1) hs48 (by decide) _).mono ?_; rintro e w2 ⟨rfl, hb2⟩; rw [HXX.out]
        have HY1 := Lib.hid (HY0.out.below hb2)
        have HB2 := Lib.hid (HB1.out.below hb2 HB1.out.lt)
        clear HY0 HB1 hb2
        obtain ⟨c0, c1, c2, c3, c4, c5, c6, c7, c8, c9⟩ := HY1.out.x.e.cells
        have blt := HY1.out.x.e.lt
        obtain ⟨d0, d1⟩ := HY1.out.l.cells
        have dlt := HY1.out.l.lt
        go_wp2_with fail
        refine (has_yes14 HY1.out.x.m HQ0.out hv hl HMEM.out HLEN.out (by omega)).mono ?_; rintro e w3 ⟨rfl, A3, O3⟩
        have HY2 := Lib.hid (HY1.out.next A3 O3)
        have HB3 := Lib.hid (Blk.ta HB2.out HY1.out.x.m O3 (by decide) (by decide))
        clear HY1 HB2 A3 O3 c0 c1 c2 c3 c4 c5 c6 c7 c8 c9 blt d0 d1 dlt
        obtain ⟨c0, c1, c2, c3, c4, c5, c6, c7, c8, c9⟩ := HY2.out.x.e.cells
        have blt := HY2.out.x.e.lt
        obtain ⟨d0, d1⟩ := HY2.out.l.cells
        have dlt := HY2.out.l.lt
        go_wp2_with fail
        have HD := Lib.hid HY2.out.drew
        have hrule := SA2.rule b lb v l V S T p
        go_region_held3 (fun W => SA2 W b lb v l V S T p) (first | (with_reducible assumption) | (with_reducible exact HZ3.out.sa) | (with_reducible exact HZ2.out.sa) | (with_reducible exact HZ1.out.sa) | (with_reducible exact HD.out.sa))
          (first
            | (go_at_call 96; ((with_reducible refine (ahead_any HD.out.x.m hx1 hx2 (by omega)).mono ?_); rintro e w4 ⟨rfl, A4, O4⟩; rw [HI1.out]; have HZ1 := Lib.hid (HD.out.next A4 O4); have HB4 := Lib.hid (Blk.ta (Blk.drew HB3.out) HD.out.x.m O4 (by decide) (by decide))))
            | (go_at_call 58; ((with_reducible refine (behind_any (x := x) HZ1.out.x.m hv hl hx2 (by omega) rfl).mono ?_); rintro e w5 ⟨rfl, A5, O5⟩; rw [HNA.out]; have HZ2 := Lib.hid (HZ1.out.next A5 O5); have HB5 := Lib.hid (Blk.ta HB4.out HZ1.out.x.m O5 (by decide) (by decide))))
            | (go_at_call 92; ((with_reducible refine (join_any (x := pp) (y := nn) HZ2.out.x.m hv hl hpS hnS (by omega) rfl rfl).mono ?_); rintro e w6 ⟨rfl, A6, O6⟩; have HZ3 := Lib.hid (HZ2.out.next A6 O6); have HB6 := Lib.hid (Blk.ta HB5.out HZ2.out.x.m O6 (by decide) (by decide))))
            | fail)
        clear hrule HD HY2 HB3 HZ1 HZ2 HB4 HB5 A4 O4 A5 O5 A6 O6 c0 c1 c2 c3 c4 c5 c6 c7 c8 c9 blt d0 d1 dlt
        obtain ⟨c0, c1, c2, c3, c4, c5, c6, c7, c8, c9⟩ := HZ3.out.x.e.cells
        have blt := HZ3.out.x.e.lt
        obtain ⟨d0, d1⟩ := HZ3.out.l.cells
        have dlt := HZ3.out.l.lt
        obtain ⟨f2, hf2⟩ : ∃ f2, joinF V S T f1 v l pp nn = f2 := ⟨_, rfl⟩
        have HJ9 : Hid (JF V S T f1 f2 v l pp nn) := Lib.hid (by rw [← hf2]; exact joinF_is HR.out hv hl hpS hnS)
        have HL8 : Hid (LQ V S T f2 (qset (qR q s u v l 1) v l ((qR q s u v l 1 v l).erase x)) ∧ Ke V S T f1 f2) := Lib.hid ⟨by rw [← HERA.out]; exact HQ0.out.rem HR.out hv hl HQL.out (by rw [HP9.out, HN9.out]; exact HJ9.out), HJ9.out.k⟩
        have HY6 := HZ3
        rw [hf2] at HY6
        clear HZ3
        have enq : qset (qR q s u v l 1) v l ((qR q s u v l 1 v l).erase x) = qR q s u v l 2 := by
          rw [← HXX.out]
          show _ = rem2 q s u v l; unfold rem2; show qset (qset q u l ((q u l).erase (2 * s + 1))) v l ((qset q u l ((q u l).erase (2 * s + 1)) v l).erase (2 * s + 1 + 1)) = _; rw [qset_ne (by have := HPRE.out.1; omega)]
        have HL7 : Hid (LQ V S T f2 (qR q s u v l 2) ∧ Ke V S T f1 f2) := Lib.hid (by rw [← enq]; exact HL8.out)
        have hh2 := (HL7.out.1.pt v l hv hl).1
        have hM2 : MQ V (mkQ mk1 (ndA V v l) (decide ((qR q s u v l 2 v l).headD 0 ≠ 0))) (qR q s u v l 2) := by
          rw [← enq]
          refine HM0.out.turn HR.out (fun x => HY6.out.x.m.mk4 x) hv hl ?_
          rw [enq]
          have := (HL7.out.1.head_zero (v := v) (l := l))
          rw [← enq, qset_at] at this
          rw [← enq, qset_at]
          exact not_congr this
        generalize (qR q s u v l 2 v l).headD 0 = h9 at hh2 hM2
        have HM2 := Lib.hid (And.intro hM2 (HMB.out.turn HR.out (fun x => HY6.out.x.m.mk4 x) hv hl (decide (h9 ≠ 0))))
        have HH2 := Lib.hid hh2
        clear hM2 hh2 enq hf2 
        go_wp2_with fail
        refine (mark_any HY6.out.x.m hv hl HH2.out (by omega)).mono ?_; rintro e w7 ⟨rfl, A7, O7⟩
        have HR9 : Hid (ArRel (qR q s u v l) w b r V S T p gb cap m f mk ts u v l (.int .i64 2) w7) := Lib.hid ⟨2, f2, _, by omega, rfl, by
          have := HY6.out.x.next A7 O7
          exact ⟨this.e, this.m.more (by omega), this.o⟩, Blk.ta HB6.out HY6.out.x.m O7 (by decide) (by decide), HL7.out.1, HM2.out, HK0.out.trans HL7.out.2⟩
        clear HY6 HB6 A7 O7 HL7 HL8 HM2 HH2 HK0 HM0 HQ0 c0 c1 c2 c3 c4 c5 c6 c7 c8 c9 blt d0 d1 dlt
        go_wp2_with fail
        go_roundw
        case rel => exact HR9.out
        case measure => simp [intOf]
    · subst hj0
      as_aux_lemma =>
        go_wp2_with fail
        go_end0
        exact ⟨f1, mk1, rfl, HX.out.m.more (by omega), hQ, ⟨hM, HMB.out⟩, hK, HX.out.o⟩
end
end Go.Proofs.Ytaooglagddphnaa
