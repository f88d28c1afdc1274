/- An arena of a lay, all slots free. -/
import Derived.Test.YtgjlilcljefbfaaSlotJ
namespace Go.Proofs.Ytgjlilcljefbfaa
open Go.RowKit

set_option maxRecDepth 100000

/-- An arena with free slots: the cells, their counts, and the plain free slots. -/
def SA (w : World) (p g n cap t S M m : Nat) (c f : Nat → Int) (hd : Nat × Nat) (nx : Nat → Nat) : Prop :=
  Ar w p g n cap c f ∧ Rep t S M f hd nx ∧ CB c m

/-- What begun tells. -/
def Begun (V T : Int) (t S : Nat) (w : World) (e : Ending) (w' : World) : Prop :=
  ∃ p g cap c f, e = .returned (.pointer (some ⟨p, 0, none⟩)) ∧ w.heap.size ≤ p ∧ w.heap.size ≤ g ∧ SA w' p g (cn V S T).toNat cap t S 0 (S + 1) c f (first S).hd (first S).nx ∧ c 2 = 0 ∧ c 3 = 0 ∧ Below w.heap.size w w'

theorem cn_bd {V T : Int} {S t : Nat} (h : Rt V S T) (ht : T = (t : Int)) : 0 ≤ cn V S T ∧ cn V S T ≤ 16384 ∧ t < (cn V S T).toNat ∧ ∀ s, s < S → t + 1 + s * 7 < (cn V S T).toNat := by
  have z := sizes h
  have a1 := h.s1
  have a2 := h.s2
  have a3 := h.t1
  have a4 := h.t2
  have z1 := z.vn1
  have z2 := z.vn2
  have z3 := z.pr1
  have z4 := z.pr2
  have z5 := z.nd1
  have z6 := z.nd2
  clear z h
  unfold cn
  generalize vn V = x1 at *
  generalize pr V = x2 at *
  generalize nd V S = x3 at *
  subst ht
  refine ⟨by omega, by omega, by omega, fun s hs => by omega⟩

theorem begun_yes {V T : Int} {S t : Nat} (hR : Rt V S T) (ht : T = (t : Int)) (w : World) :
    Calls Try.prog 8 #[vL V S T] w (Begun V T t S w) := by
  obtain ⟨b1, b2, b3, b4⟩ := cn_bd hR ht
  subst ht
  obtain ⟨N, hN⟩ := Int.eq_ofNat_of_zero_le b1
  have hN2 : (cn V S t).toNat = N := by omega
  rw [hN2] at b3 b4
  have HN := Lib.hid hN
  have HN2 := Lib.hid hN2
  have HB4 := Lib.hid b4
  have HR := Lib.hid hR
  have hNl : N ≤ 16384 := by omega
  have s2 := hR.s2
  clear hR hN hN2 b4 b1 b2
  go_enter Try.func8, Try.ntmps8
  go_wp2_with fail
  have HL0 : Hid (LyB (w.alloc (.cells #[.int .i64 V, .int .i64 S, .int .i64 (t : Int)] 24)) w.heap.size V S t) := Lib.hid (Blk.new _ _ _)
  have HB0 : Hid (Below w.heap.size w (w.alloc (.cells #[.int .i64 V, .int .i64 S, .int .i64 (t : Int)] 24))) := Lib.hid ((Below.refl _ _).alloc (Nat.le_refl _) _)
  refine (cells_yes V S t HR.out _).mono ?_; rintro e w1 ⟨rfl, hb1⟩
  rw [HN.out]
  have HL1 := Lib.hid (HL0.out.below hb1)
  have HB1 := Lib.hid (keepB HB0.out hb1)
  clear hb1 HL0 HB0
  go_wp2_with fail
  refine (new_yes N _ hNl).mono ?_; rintro e w2 ⟨rfl, A2, hb2⟩
  have hp := A2.p_lt
  have hw1 : w.heap.size < w1.heap.size := by have := HL1.out.lt; omega
  generalize hp' : w1.heap.size + 1 = p at A2 hp ⊢
  have hpw : w.heap.size ≤ p := by omega
  have hgw : w.heap.size ≤ w1.heap.size := by omega
  generalize w1.heap.size = g at A2 hgw
  have HA2 := Lib.hid A2
  have HL2 := Lib.hid (HL1.out.below hb2)
  have HB2 := Lib.hid (keepB HB1.out hb2)
  clear A2 hb2 HL1 HB1 hw1 hp'
  obtain ⟨y0, y1, y2⟩ := HL2.out.cells
  have hlt2 := HL2.out.lt
  go_wp2_with fail
  have hlb : ∀ W : World, LyB W w.heap.size V S t → W.cell? ⟨w.heap.size, 0, none⟩ = some (.int .i64 V) ∧ W.cell? ⟨w.heap.size, 1, none⟩ = some (.int .i64 S) ∧ W.cell? ⟨w.heap.size, 2, none⟩ = some (.int .i64 (t : Int)) := fun W h => h.cells
  have HLd := Lib.hid HL2.out.drew
  have HAd := Lib.hid HA2.out.drew
  have HBd := Lib.hid HB2.out.drew
  have HZ : Hid (CB zeroF 0) := Lib.hid fun j => ⟨by simp [zeroF], by simp [zeroF]⟩
  have hNl2 : N ≤ N := Nat.le_refl _
  go_region_held3 (fun W => LyB W w.heap.size V S t) (first | (with_reducible assumption) | (with_reducible exact HLd.out) | (with_reducible exact LyB.below (by assumption) hb1) | (with_reducible exact HL5.out))
    (first
      | (go_at_call 11; ((with_reducible refine (pm_of p _).mono ?_); rintro e w3 ⟨rfl, hb1⟩; have HA3 := Lib.hid (Ar.below (Hid.out (by assumption : Hid (Ar _ p g N N zeroF zeroF))) hb1 (Nat.le_refl _)); have HB3 := Lib.hid (keepB (Hid.out (by assumption : Hid (Below w.heap.size w _))) hb1)))
      | (go_at_call 26; ((with_reducible refine (init_any HR.out rfl (Hid.out (by assumption : Hid (Ar _ p g N N zeroF zeroF))) b3 HB4.out HZ.out (by omega)).mono ?_); rintro e w4 ⟨rfl, b5, c4, f4, A4, m4, c42, c43, fh, fs, fo, L4, O4⟩; have HL5 := Lib.hid (LyB.only (by assumption) (Hid.out (by assumption : Hid (Ar _ p g N N zeroF zeroF))) O4); have HA4 := Lib.hid A4)))
  all_goals
    have HF : Hid (Begun V (t : Int) t S w (.returned (.pointer (some ⟨p, 0, none⟩))) w4) := by
      refine Lib.hid ⟨p, g, N, c4, f4, rfl, hpw, hgw, ?_, c42, c43, Only.below HB3.out O4 HB3.out.size hpw hgw⟩
      rw [HN2.out]
      refine ⟨HA4.out, ⟨?_, Nat.zero_le _, ?_, fun s hs => ?_, fun s hs => ?_⟩, m4.more (by omega)⟩
      · rw [fh]
        simp only [first, enc, lnF]
        split <;> split <;> omega
      · simp only [first]; split <;> omega
      · rw [fs s hs]
        simp only [first, lnF]
        split <;> split <;> omega
      · simp only [first]; split <;> omega
    clear A4 m4 c42 c43 fh fs fo L4 O4 HL5 HA4 HA3 HB3 hb1 HLd HAd HBd y0 y1 y2 hlt2
    go_wp2_with fail
    go_ret
    exact HF.out
end Go.Proofs.Ytgjlilcljefbfaa
