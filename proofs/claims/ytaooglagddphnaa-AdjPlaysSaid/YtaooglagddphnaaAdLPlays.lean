/- The law AdjPlays. Printed by wip/tools/adl.py. -/
import Derived.Test.YtaooglagddphnaaAdX
import Derived.Carry
namespace Go.Proofs.Ytaooglagddphnaa
open Go.RowKit

set_option maxRecDepth 100000

section
variable {V S T : Int} {oa : Option Addr} {ol oc : Nat} {fo : Nat → O12}
set_option maxHeartbeats 16000000 in
theorem lplays12 (w : World) (hO : IsO12 w oa ol fo) :
    Calls Try.prog 3 #[vL V S T, .slice oa ol oc] w fun e w' => e = .returned (.bool true) ∧ Below w.heap.size w w' := by
  have HO0 := Lib.hid hO
  clear hO
  have hmm := @run_makeMap Try.prog
  have HB1 : Hid (Below w.heap.size w (w.alloc (.cells #[.int .i64 V, .int .i64 S, .int .i64 T] 23))) := Lib.hid ((Below.refl _ _).alloc (Nat.le_refl _) _)
  have HL1 : Hid (Blk (w.alloc (.cells #[.int .i64 V, .int .i64 S, .int .i64 T] 23)) w.heap.size 23 #[.int .i64 V, .int .i64 S, .int .i64 T]) := Lib.hid (Blk.new _ _ _)
  go_enter Try.func3, Try.ntmps3
  go_wp2_with fail
  generalize w.heap.size = lo at HL1 ⊢
  generalize (w.alloc (.cells #[.int .i64 V, .int .i64 S, .int .i64 T] 23)) = W1 at HB1 HL1 ⊢
  refine (right_any12 V S T _).mono ?_; rintro e w2 ⟨rfl, hb2⟩
  have HB2 := Lib.hid (HB1.out.trans (hb2.mono HB1.out.size))
  have HL2 := Lib.hid (HL1.out.below hb2 HL1.out.lt)

  clear HB1 HL1 hb2 
  cases hr : rgt12 V S T
  · go_wp2_with fail
    refine (awake_any12 _).mono ?_; rintro e w3 ⟨rfl, hb3⟩
    have HB3 := Lib.hid (HB2.out.trans (hb3.mono HB2.out.size))
    go_wp2_with fail
    go_ret
    exact ⟨rfl, HB3.out⟩
  have HG := Lib.hid (rgt12_yes hr)
  clear hr
  by_cases hol : ol ≤ 60
  rotate_left
  · have holI : ¬ (ol : Int) ≤ 60 := by omega
    go_wp2_with fail
    refine (awake_any12 _).mono ?_; rintro e w3 ⟨rfl, hb3⟩
    have HB3 := Lib.hid (HB2.out.trans (hb3.mono HB2.out.size))
    go_wp2_with fail
    go_ret
    exact ⟨rfl, HB3.out⟩
  have holI : (ol : Int) ≤ 60 := by omega
  have HOL := Lib.hid hol
  clear hol
  obtain ⟨a0, a1, a2⟩ : w2.cell? ⟨lo, 0, none⟩ = some (.int .i64 V) ∧ w2.cell? ⟨lo, 1, none⟩ = some (.int .i64 S) ∧ w2.cell? ⟨lo, 2, none⟩ = some (.int .i64 T) := ⟨HL2.out.cell 0, HL2.out.cell 1, HL2.out.cell 2⟩
  have alt := HL2.out.lt
  go_wp2_with fail
  refine (begun_any12 HG.out.1).mono ?_; rintro e w3 ⟨p, gb, rfl, hT, hB, hp, hg⟩
  have HT3 := Lib.hid hT
  have HB3 := Lib.hid hB
  have HL3 := Lib.hid (HL2.out.below hB HL2.out.lt)

  have HPG := Lib.hid (And.intro hp hg)
  clear hT hB hp hg a0 a1 a2 alt
  obtain ⟨a0, a1, a2⟩ : w3.cell? ⟨lo, 0, none⟩ = some (.int .i64 V) ∧ w3.cell? ⟨lo, 1, none⟩ = some (.int .i64 S) ∧ w3.cell? ⟨lo, 2, none⟩ = some (.int .i64 T) := ⟨HL3.out.cell 0, HL3.out.cell 1, HL3.out.cell 2⟩
  have alt := HL3.out.lt
  go_wp2_with fail
  clear a0 a1 a2 alt hmm
  have HP4 := Lib.hid (PM12.start HT3.out HPG.out.1 HPG.out.2 HB3.out.size)
  have HB4 : Hid (Below w3.heap.size w3 ((((w3.alloc (.cells #[.int .i64 V, .int .i64 S, .int .i64 T, .iface 84 (pmV p), .int .i64 1, .int .i64 0, .int .i64 V, .int .i64 S, .int .i64 T, .iface 84 (pmV p)] 38)).alloc (.map #[] 0)).alloc (.map #[] 0)).alloc (.cells #[.int .i64 V, .int .i64 S, .int .i64 T, .int .i64 V, .int .i64 S, .int .i64 T, .iface 84 (pmV p), .int .i64 1, .int .i64 0, .int .i64 V, .int .i64 S, .int .i64 T, .iface 84 (pmV p), .map (some (w3.heap.size + 1)), .map (some (w3.heap.size + 2))] 45))) := Lib.hid (((((Below.refl _ _).alloc (Nat.le_refl _) _).alloc (by simp) _).alloc (by simp; omega) _).alloc (by simp; omega) _)
  have HA4 : Hid (Blk ((((w3.alloc (.cells #[.int .i64 V, .int .i64 S, .int .i64 T, .iface 84 (pmV p), .int .i64 1, .int .i64 0, .int .i64 V, .int .i64 S, .int .i64 T, .iface 84 (pmV p)] 38)).alloc (.map #[] 0)).alloc (.map #[] 0)).alloc (.cells #[.int .i64 V, .int .i64 S, .int .i64 T, .int .i64 V, .int .i64 S, .int .i64 T, .iface 84 (pmV p), .int .i64 1, .int .i64 0, .int .i64 V, .int .i64 S, .int .i64 T, .iface 84 (pmV p), .map (some (w3.heap.size + 1)), .map (some (w3.heap.size + 2))] 45)) w3.heap.size 38 #[.int .i64 V, .int .i64 S, .int .i64 T, .iface 84 (pmV p), .int .i64 1, .int .i64 0, .int .i64 V, .int .i64 S, .int .i64 T, .iface 84 (pmV p)]) := Lib.hid ((((Blk.new _ _ _).alloc _).alloc _).alloc _)
  have HL4 := Lib.hid (HL3.out.below HB4.out HL3.out.lt)

  have HW : Hid (Below w.heap.size w ((((w3.alloc (.cells #[.int .i64 V, .int .i64 S, .int .i64 T, .iface 84 (pmV p), .int .i64 1, .int .i64 0, .int .i64 V, .int .i64 S, .int .i64 T, .iface 84 (pmV p)] 38)).alloc (.map #[] 0)).alloc (.map #[] 0)).alloc (.cells #[.int .i64 V, .int .i64 S, .int .i64 T, .int .i64 V, .int .i64 S, .int .i64 T, .iface 84 (pmV p), .int .i64 1, .int .i64 0, .int .i64 V, .int .i64 S, .int .i64 T, .iface 84 (pmV p), .map (some (w3.heap.size + 1)), .map (some (w3.heap.size + 2))] 45))) := Lib.hid (HB2.out.trans ((HB3.out.trans (HB4.out.mono HB3.out.size)).mono HB2.out.size))
  have HWS : Hid (w.heap.size ≤ w2.heap.size) := Lib.hid HB2.out.size
  clear HT3 HL3 HB4 HB3 HL2 HB2 HPG 
  generalize hq4 : w3.heap.size + 3 = q at HP4 ⊢
  generalize hl4 : w3.heap.size + 2 = lb at HP4 HA4 HL4 HW ⊢
  generalize he4 : w3.heap.size + 1 = eb at HP4 HA4 HL4 HW ⊢
  clear hq4 hl4 he4
  generalize w3.heap.size = ab at HA4 ⊢
  generalize ((((w3.alloc (.cells #[.int .i64 V, .int .i64 S, .int .i64 T, .iface 84 (pmV p), .int .i64 1, .int .i64 0, .int .i64 V, .int .i64 S, .int .i64 T, .iface 84 (pmV p)] 38)).alloc (.map #[] 0)).alloc (.map #[] 0)).alloc (.cells #[.int .i64 V, .int .i64 S, .int .i64 T, .int .i64 V, .int .i64 S, .int .i64 T, .iface 84 (pmV p), .int .i64 1, .int .i64 0, .int .i64 V, .int .i64 S, .int .i64 T, .iface 84 (pmV p), .map (some (eb)), .map (some (lb))] 45)) = W4 at HP4 HA4 HL4 HW ⊢
  generalize w2.heap.size = base at HP4 HWS
  obtain ⟨n9, hn9⟩ : ∃ k, nN V S = k := ⟨_, rfl⟩
  have HN9 := Lib.hid hn9
  have n416 : n9 ≤ 416 := by rw [← hn9]; exact nN8 HG.out.1 HG.out.2
  rw [hn9] at HP4
  clear hn9
  obtain ⟨m0, hm0⟩ : ∃ k, 10 * n9 = k := ⟨_, rfl⟩
  rw [hm0] at HP4
  have m4160 : m0 ≤ 4160 := by omega
  clear hm0
  generalize sing n9 = ts at HP4
  generalize cellsN V S T = cap at HP4
  have HRel : Hid (Lp12 W4 base q eb lb V S T p gb cap m0 15500 ol ts (.int .i64 0) W4) := Lib.hid ⟨0, _, _, _, _, Nat.zero_le _, rfl, HP4.out, ER.nil fun _ => rfl⟩
  clear HP4
  go_loopw [34] (fun i wr => Lp12 W4 base q eb lb V S T p gb cap m0 15500 ol ts i wr) (fun i _ => ol - (intOf i).toNat)
  case atStart => exact HRel.out
  case round =>
    clear HRel
    obtain ⟨k, f, mk, bs, qq, hk, rfl, hL, hE⟩ := hrel
    have HL := Lib.hid hL
    have HE := Lib.hid hE
    have HBW := Lib.hid (HW.out.trans (hL.ps.be.mono HWS.out))
    clear hL hE
    by_cases hkl : k < ol
    · as_aux_lemma =>
      obtain ⟨ob, off, rfl, hcell⟩ := HO0.out (by omega)
      have hc := hcell k hkl
      obtain ⟨o, ho⟩ : ∃ o, fo k = o := ⟨_, rfl⟩
      rw [ho] at hc
      obtain ⟨kd, s, u, v, l⟩ := o
      have c0 := cell_later HBW.out hc.1
      have c1 := cell_later HBW.out hc.2.1
      have c2 := cell_later HBW.out hc.2.2.1
      have c3 := cell_later HBW.out hc.2.2.2.1
      have c4 := cell_later HBW.out hc.2.2.2.2
      have hkI : (k : Int) < (ol : Int) := by omega
      have hk0 : (0 : Int) ≤ (k : Int) := by omega
      have HM9 : Hid (m0 + 15500 * k + 15500 ≤ 99832200) := Lib.hid (by have := HOL.out; omega)
      have HLa := Lib.hid (HL.out.alloc (.cells #[.int .i64 kd, .int .i64 s, .int .i64 u, .int .i64 v, .int .i64 l] 47))
      clear hc ho hcell HL
      go_wp2_with fail
      refine (lstep12 HLa.out HE.out (by have := HM9.out; omega)).mono ?_
      rintro e w5 ⟨rfl, f', mk', bs', qq', hL5, hE5, _⟩
      rw [HN9.out] at hL5
      have HL5 := Lib.hid hL5
      have HE5 := Lib.hid hE5
      clear hL5 hE5 HLa HE c0 c1 c2 c3 c4
      go_wp2_with fail
      refine (lis12 HL5.out HE5.out HG.out.2 (by have := HM9.out; omega)).mono ?_
      rintro e w6 ⟨rfl, hL6⟩
      have HL6 := Lib.hid hL6
      clear hL6 HL5
      go_wp2_with fail
      exact ⟨⟨k + 1, f', mk', bs', qq', hkl, by simp, HL6.out.more (by omega) (by omega), HE5.out⟩, by simp [intOf]; omega⟩
    · have ek : ol = k := by omega
      subst ek
      have hkI : ¬ (ol : Int) < (ol : Int) := by omega
      clear hk hkl
      as_aux_lemma =>
      go_wp2_with fail
      refine (awake_any12 _).mono ?_; rintro e w9 ⟨rfl, hb9⟩
      have HBE := Lib.hid (HBW.out.trans (hb9.mono HBW.out.size))
      go_wp2_with fail
      go_ret
      exact ⟨rfl, HBE.out⟩
end
end Go.Proofs.Ytaooglagddphnaa
