/- The law TreapPlays: its walk. Printed by wip/tools/trqlp.py. -/
import Derived.Test.YtgafnomfdnbblaaZJ
namespace Go.Proofs.Ytgafnomfdnbblaa
open Go.RowKit

set_option maxRecDepth 100000

/-- Between two calls of a case. -/
def LpRel (w0 : World) (zb : Nat) (vc : Array Value) (K : PK9) (pri : Nat → Nat) (ol : Nat) (i : Value) (W : World) : Prop :=
  ∃ k m g mk ts vr vs, k ≤ ol ∧ i = .int .i64 ((k : Nat) : Int) ∧ m ≤ 1000 + 1000 * k ∧ LW w0 W zb vc K m g mk ts vr vs ∧ ∀ x, 1 ≤ x → x ≤ nN K.V K.S → g x 5 = pri x
section
variable {V S T : Int} {da oa : Option Addr} {dl dc ol oc : Nat} {f : Nat → Nat} {fo : Nat → Op5}
set_option maxHeartbeats 16000000 in
theorem lplays (w : World) (hD : IsNum w da dl f) (hO : IsOp5 w oa ol fo) :
    Calls Try.prog 3 #[vC9 V S T da dl dc oa ol oc] w fun e w' => e = .returned (.bool true) ∧ Below w.heap.size w w' := by
  have HD := Lib.hid hD
  have HO := Lib.hid hO
  clear hD hO
  have HB1 : Hid (Below w.heap.size w (w.alloc (.cells #[.int .i64 V, .int .i64 S, .int .i64 T, .slice da dl dc, .slice oa ol oc] 27))) := Lib.hid ((Below.refl _ _).alloc (Nat.le_refl _) _)
  have HZ1 : Hid (Blk (w.alloc (.cells #[.int .i64 V, .int .i64 S, .int .i64 T, .slice da dl dc, .slice oa ol oc] 27)) w.heap.size 27 #[.int .i64 V, .int .i64 S, .int .i64 T, .slice da dl dc, .slice oa ol oc]) := Lib.hid (Blk.new _ _ _)
  go_enter Try.func3, Try.ntmps3
  go_wp2_with fail
  generalize w.heap.size = zb at HZ1 ⊢
  generalize w.alloc (.cells #[.int .i64 V, .int .i64 S, .int .i64 T, .slice da dl dc, .slice oa ol oc] 27) = W1 at HZ1 HB1 ⊢
  refine (right_case V S T da dl dc oa ol oc _).mono ?_; rintro e w2 ⟨rfl, hb2⟩
  have HB2 := Lib.hid (HB1.out.trans (hb2.mono HB1.out.size))
  have HZ2 := Lib.hid (HZ1.out.below hb2 HZ1.out.lt)
  clear HB1 HZ1 hb2
  cases hr : rgt9 V S T dl ol
  · go_wp2_with fail
    refine (awake_any _).mono ?_; rintro e w3 ⟨rfl, hb3⟩
    have HB3 := Lib.hid (HB2.out.trans (hb3.mono HB2.out.size))
    go_wp2_with fail
    go_ret
    exact ⟨rfl, HB3.out⟩
  have HG := Lib.hid (rgt9_yes hr)
  clear hr
  have z0 := HZ2.out.cell 0
  have z1 := HZ2.out.cell 1
  have z2 := HZ2.out.cell 2
  have z3 := HZ2.out.cell 3
  have z4 := HZ2.out.cell 4
  have zlt := HZ2.out.lt
  go_wp2_with fail
  refine (lbegun HG.out.r (HD.out.below HB2.out) HG.out.d HZ2.out HB2.out).mono ?_
  rintro e w3 ⟨q, p, gb, cap, pb, mb, vb, cp, cm, cv, base, g0, vr0, vs0, rfl, hL, hpri, _, _⟩
  have HL := Lib.hid hL
  have HP := Lib.hid hpri
  have HN := Lib.hid HG.out.few
  have HOL := Lib.hid HG.out.o
  have holI : (ol : Int) ≤ 60 := by have := HG.out.o; omega
  have HM : Hid (10 * nN V S ≤ 400) := Lib.hid (by have := HN.out; omega)
  clear hL hpri z0 z1 z2 z3 z4 zlt HZ2 HB2
  go_wp2_with fail
  refine (lis HL.out (Nat.le_trans HM.out (by omega))).mono ?_
  rintro e w4 ⟨rfl, hL, _⟩
  replace HL := Lib.hid hL
  clear hL
  have HRel : Hid (LpRel w zb #[.int .i64 V, .int .i64 S, .int .i64 T, .slice da dl dc, .slice oa ol oc] ⟨V, S, T, q, p, gb, cap, pb, mb, vb, cp, cm, cv, base⟩ (priF dl f) ol (.int .i64 0) w4) := Lib.hid ⟨0, _, _, _, _, _, _, Nat.zero_le _, rfl, by have := HN.out; omega, HL.out, HP.out⟩
  have z4 := HL.out.z.cell 4
  have zlt := HL.out.z.lt
  clear HL HP HM
  go_wp2_with fail
  go_loopw [22] (fun i wr => LpRel w zb #[.int .i64 V, .int .i64 S, .int .i64 T, .slice da dl dc, .slice oa ol oc] ⟨V, S, T, q, p, gb, cap, pb, mb, vb, cp, cm, cv, base⟩ (priF dl f) ol i wr) (fun i _ => ol - (intOf i).toNat)
  case atStart => exact HRel.out
  case round =>
    clear HRel z4 zlt
    obtain ⟨k, m, g, mk, ts, vr, vs, hk, rfl, hm, hL, hpri⟩ := hrel
    have HL := Lib.hid hL
    have HP := Lib.hid hpri
    have HMK := Lib.hid hm
    clear hL hpri
    by_cases hkl : k < ol
    · obtain ⟨ob, off, rfl, hcell⟩ := HO.out (by omega)
      have hc := hcell k hkl
      obtain ⟨o, ho⟩ : ∃ o, fo k = o := ⟨_, rfl⟩
      rw [ho] at hc
      obtain ⟨kd, oa1, ob1, ok1, on⟩ := o
      have c0 := cell_later HL.out.be hc.1
      have c1 := cell_later HL.out.be hc.2.1
      have c2 := cell_later HL.out.be hc.2.2.1
      have c3 := cell_later HL.out.be hc.2.2.2.1
      have c4 := cell_later HL.out.be hc.2.2.2.2.1
      have HF := Lib.hid hc.2.2.2.2.2
      have hkI : (k : Int) < (ol : Int) := by omega
      have hk0 : (0 : Int) ≤ (k : Int) := by omega
      have HM1 : Hid (m ≤ 900000) := Lib.hid (by have := HOL.out; omega)
      have HLa := Lib.hid (HL.out.below ((Below.refl _ _).alloc (Nat.le_refl _) (.cells #[.int .i64 kd, .int .i64 oa1, .int .i64 ob1, .int .i64 ok1, .bool on] 33)))
      clear hc ho hcell HL hm
      go_wp2_with fail
      refine (lstep HLa.out HF.out.1 HF.out.2.1 HF.out.2.2 (Nat.le_trans HM1.out (by omega))).mono ?_
      rintro e w5 ⟨rfl, g', mk', ts', vr', vs', hL5, _, h5⟩
      have HL5 := Lib.hid hL5
      have H5 := Lib.hid h5
      clear hL5 h5 HLa c0 c1 c2 c3 c4
      go_wp2_with fail
      refine (lis HL5.out (by have := HM1.out; have := HN.out; omega)).mono ?_
      rintro e w6 ⟨rfl, hL6, _⟩
      have HL6 := Lib.hid hL6
      clear hL6 HL5
      go_wp2_with fail
      go_roundw
      case rel => exact ⟨k + 1, _, g', mk', ts', vr', vs', hkl, by simp, by have := HMK.out; have := HN.out; omega, HL6.out, fun x h1 h2 => (H5.out x).trans (HP.out x h1 h2)⟩
      case measure => simp [intOf]; omega
    · have ek : k = ol := by omega
      subst ek
      have hkI : ¬ (k : Int) < (k : Int) := by omega
      have HM1 : Hid (m ≤ 100000) := Lib.hid (by have := HOL.out; omega)
      clear hk hkl
      go_wp2_with fail
      refine (awake_any _).mono ?_; rintro e w9 ⟨rfl, hb9⟩
      have HBE := Lib.hid ((HL.out.below hb9).be)
      go_wp2_with fail
      go_ret
      exact ⟨rfl, HBE.out⟩
end

end Go.Proofs.Ytgafnomfdnbblaa
