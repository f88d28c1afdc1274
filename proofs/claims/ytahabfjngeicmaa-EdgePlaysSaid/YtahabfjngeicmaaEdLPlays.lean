/- The law EdgePlays. Printed by wip/tools/edl.py. -/
import Derived.Test.YtahabfjngeicmaaEdS
namespace Go.Proofs.Ytahabfjngeicmaa
open Go.RowKit

set_option maxRecDepth 100000

section
variable {V S T : Int} {oa : Option Addr} {ol oc : Nat} {fo : Nat → O11}
set_option maxHeartbeats 16000000 in
theorem lplays11 (w : World) (hO : IsO11 w oa ol fo) :
    Calls Try.prog 4 #[vL V S T, .slice oa ol oc] w fun e w' => e = .returned (.bool true) ∧ Below w.heap.size w w' := by
  have HO0 := Lib.hid hO
  clear hO
  have HB1 : Hid (Below w.heap.size w (w.alloc (.cells #[.int .i64 V, .int .i64 S, .int .i64 T] 23))) := Lib.hid ((Below.refl _ _).alloc (Nat.le_refl _) _)
  have HL1 : Hid (Blk (w.alloc (.cells #[.int .i64 V, .int .i64 S, .int .i64 T] 23)) w.heap.size 23 #[.int .i64 V, .int .i64 S, .int .i64 T]) := Lib.hid (Blk.new _ _ _)
  go_enter Try.func4, Try.ntmps4
  go_wp2_with fail
  generalize w.heap.size = lb at HL1 ⊢
  generalize (w.alloc (.cells #[.int .i64 V, .int .i64 S, .int .i64 T] 23)) = W1 at HB1 HL1 ⊢
  refine (right_any11 V S T _).mono ?_; rintro e w2 ⟨rfl, hb2⟩
  have HB2 := Lib.hid (HB1.out.trans (hb2.mono HB1.out.size))
  have HL2 := Lib.hid (HL1.out.below hb2 HL1.out.lt)
  clear HB1 HL1 hb2
  have AWK : ∀ e w3, (e = Ending.returned (.bool true) ∧ Below w2.heap.size w2 w3) → e = .returned (.bool true) ∧ Below w.heap.size w w3 := fun e w3 h => ⟨h.1, HB2.out.trans (h.2.mono HB2.out.size)⟩
  cases hr : rgt11 V S T
  · go_wp2_with fail
    refine (awake_any11 _).mono ?_; rintro e w3 ⟨rfl, hb3⟩
    have HB3 := Lib.hid (HB2.out.trans (hb3.mono HB2.out.size))
    go_wp2_with fail
    go_ret
    exact ⟨rfl, HB3.out⟩
  have HG := Lib.hid (rgt11_yes hr)
  clear hr
  by_cases hol : ol ≤ 60
  rotate_left
  · have holI : ¬ (ol : Int) ≤ 60 := by omega
    go_wp2_with fail
    refine (awake_any11 _).mono ?_; rintro e w3 ⟨rfl, hb3⟩
    have HB3 := Lib.hid (HB2.out.trans (hb3.mono HB2.out.size))
    go_wp2_with fail
    go_ret
    exact ⟨rfl, HB3.out⟩
  have holI : (ol : Int) ≤ 60 := by omega
  have HOL := Lib.hid hol
  clear hol AWK
  obtain ⟨a0, a1, a2⟩ : w2.cell? ⟨lb, 0, none⟩ = some (.int .i64 V) ∧ w2.cell? ⟨lb, 1, none⟩ = some (.int .i64 S) ∧ w2.cell? ⟨lb, 2, none⟩ = some (.int .i64 T) := ⟨HL2.out.cell 0, HL2.out.cell 1, HL2.out.cell 2⟩
  have alt := HL2.out.lt
  go_wp2_with fail
  refine (begun_any11 HG.out.1).mono ?_; rintro e w3 ⟨p, gb, rfl, hM, hB, hp, hg⟩
  have HM3 := Lib.hid hM
  have HL3 := Lib.hid (HL2.out.below hB HL2.out.lt)
  have HB3 := Lib.hid hB
  have HPG := Lib.hid (And.intro hp hg)
  clear hM hB hp hg a0 a1 a2 alt
  obtain ⟨a0, a1, a2⟩ : w3.cell? ⟨lb, 0, none⟩ = some (.int .i64 V) ∧ w3.cell? ⟨lb, 1, none⟩ = some (.int .i64 S) ∧ w3.cell? ⟨lb, 2, none⟩ = some (.int .i64 T) := ⟨HL3.out.cell 0, HL3.out.cell 1, HL3.out.cell 2⟩
  have alt := HL3.out.lt
  go_wp2_with fail
  clear a0 a1 a2 alt
  have HB4 : Hid (Below w3.heap.size w3 ((w3.alloc (.cells #[.int .i64 V, .int .i64 S, .int .i64 T, .iface 95 (pmV p)] 64)).alloc (.cells #[.int .i64 V, .int .i64 S, .int .i64 T, .int .i64 V, .int .i64 S, .int .i64 T, .iface 95 (pmV p), .slice none 0 0] 70))) := Lib.hid (((Below.refl _ _).alloc (Nat.le_refl _) _).alloc (by simp) _)
  have HQ4 : Hid (PB11 ((w3.alloc (.cells #[.int .i64 V, .int .i64 S, .int .i64 T, .iface 95 (pmV p)] 64)).alloc (.cells #[.int .i64 V, .int .i64 S, .int .i64 T, .int .i64 V, .int .i64 S, .int .i64 T, .iface 95 (pmV p), .slice none 0 0] 70)) (w3.heap.size + 1) V S T p (.slice none 0 0)) := Lib.hid (new_next _ _ _ _ _)
  have HE4 : Hid (Blk ((w3.alloc (.cells #[.int .i64 V, .int .i64 S, .int .i64 T, .iface 95 (pmV p)] 64)).alloc (.cells #[.int .i64 V, .int .i64 S, .int .i64 T, .int .i64 V, .int .i64 S, .int .i64 T, .iface 95 (pmV p), .slice none 0 0] 70)) w3.heap.size 64 #[.int .i64 V, .int .i64 S, .int .i64 T, .iface 95 (pmV p)]) := Lib.hid ((Blk.new _ _ _).alloc _)
  have HEM := Lib.hid (HM3.out.below HB4.out)
  have HLL := Lib.hid (HL3.out.below HB4.out HL3.out.lt)
  have HBQ : Hid (w2.heap.size ≤ w3.heap.size + 1) := Lib.hid (Nat.le_succ_of_le HB3.out.size)
  have HW : Hid (Below w.heap.size w ((w3.alloc (.cells #[.int .i64 V, .int .i64 S, .int .i64 T, .iface 95 (pmV p)] 64)).alloc (.cells #[.int .i64 V, .int .i64 S, .int .i64 T, .int .i64 V, .int .i64 S, .int .i64 T, .iface 95 (pmV p), .slice none 0 0] 70))) := Lib.hid (HB2.out.trans ((HB3.out.trans (HB4.out.mono HB3.out.size)).mono HB2.out.size))
  have HLT : Hid (lb < w2.heap.size) := Lib.hid HL2.out.lt
  have HWS : Hid (w.heap.size ≤ w2.heap.size) := Lib.hid HB2.out.size
  clear HM3 HL3 HB4 HB3 HL2 HB2
  generalize w3.heap.size + 1 = q at HQ4 HBQ ⊢
  generalize w3.heap.size = eb at HE4 ⊢
  generalize (w3.alloc (.cells #[.int .i64 V, .int .i64 S, .int .i64 T, .iface 95 (pmV p)] 64)).alloc (.cells #[.int .i64 V, .int .i64 S, .int .i64 T, .int .i64 V, .int .i64 S, .int .i64 T, .iface 95 (pmV p), .slice none 0 0] 70) = W4 at HQ4 HE4 HEM HLL HW ⊢
  generalize w2.heap.size = base at HPG HBQ HLT HWS 
  have HRel : Hid (Lp11 W4 base q V S T p gb (cellsE V S T) 264 ol (.int .i64 0) W4) := Lib.hid ⟨0, zeroF, _, [], Nat.zero_le _, rfl, ⟨⟨HQ4.out, HEM.out, OW.nil _ _, HBQ.out, HPG.out.1, HPG.out.2⟩, Below.refl _ _, fun _ _ h => h⟩, ER.nil fun _ => rfl, Nat.le_refl _⟩
  clear HQ4 HEM HBQ
  go_loopw [32] (fun i wr => Lp11 W4 base q V S T p gb (cellsE V S T) 264 ol i wr) (fun i _ => ol - (intOf i).toNat)
  case atStart => exact HRel.out
  case round =>
    clear HRel
    obtain ⟨k, f, vl, ls, hk, rfl, hL, hE, hlen⟩ := hrel
    have HL := Lib.hid hL
    have HE := Lib.hid hE
    have HN := Lib.hid hlen
    have HBW := Lib.hid (HW.out.trans (hL.be.mono HWS.out))
    clear hL hE hlen
    by_cases hkl : k < ol
    · obtain ⟨ob, off, rfl, hcell⟩ := HO0.out (by omega)
      have hc := hcell k hkl
      obtain ⟨o, ho⟩ : ∃ o, fo k = o := ⟨_, rfl⟩
      rw [ho] at hc
      obtain ⟨kd, s, u, v, l, t⟩ := o
      have c0 := cell_later HBW.out hc.1
      have c1 := cell_later HBW.out hc.2.1
      have c2 := cell_later HBW.out hc.2.2.1
      have c3 := cell_later HBW.out hc.2.2.2.1
      have c4 := cell_later HBW.out hc.2.2.2.2.1
      have c5 := cell_later HBW.out hc.2.2.2.2.2
      have hkI : (k : Int) < (ol : Int) := by omega
      have hk0 : (0 : Int) ≤ (k : Int) := by omega
      have HM9 : Hid (264 * k ≤ 800000) := Lib.hid (by have := HOL.out; omega)
      have HN9 : Hid (ls.length ≤ 60) := Lib.hid (by have := HOL.out; have := HN.out; omega)
      have HLa := Lib.hid (HL.out.below ((Below.refl _ _).alloc (Nat.le_refl _) (.cells #[.int .i64 kd, .int .i64 s, .int .i64 u, .int .i64 v, .int .i64 l, .bool t] 72)))
      clear hc ho hcell HL
      go_wp2_with fail
      refine (lstep11 HLa.out HE.out (Nat.le_trans HN9.out (by omega)) HM9.out).mono ?_
      rintro e w5 ⟨rfl, f', vl', ls', hL5, hE5, hl5, _⟩
      have HL5 := Lib.hid hL5
      have HE5 := Lib.hid hE5
      have HN5 := Lib.hid hl5
      clear hL5 hE5 hl5 HLa HE c0 c1 c2 c3 c4 c5
      go_wp2_with fail
      refine (is_any11 HL5.out HE5.out (by have := HN5.out; have := HN9.out; omega) HG.out.2 (by have := HM9.out; omega)).mono ?_
      rintro e w6 ⟨rfl, hL6⟩
      have HL6 := Lib.hid hL6
      clear hL6 HL5
      go_wp2_with fail
      exact ⟨⟨k + 1, f', vl', ls', hkl, by simp, HL6.out.more (by have := HN5.out; have := HN.out; have := HOL.out; omega), HE5.out, by have := HN5.out; have := HN.out; omega⟩, by simp [intOf]; omega⟩
    · have ek : ol = k := by omega
      subst ek
      have hkI : ¬ (ol : Int) < (ol : Int) := by omega
      clear hk hkl HL HE
      go_wp2_with fail
      refine (awake_any11 _).mono ?_; rintro e w9 ⟨rfl, hb9⟩
      have HBE := Lib.hid (HBW.out.trans (hb9.mono HBW.out.size))
      go_wp2_with fail
      go_ret
      exact ⟨rfl, HBE.out⟩
end
end Go.Proofs.Ytahabfjngeicmaa
