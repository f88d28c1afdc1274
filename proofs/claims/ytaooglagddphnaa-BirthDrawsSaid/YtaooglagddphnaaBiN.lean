/- The contract of New: memory at first. -/
import Derived.Test.YtaooglagddphnaaBiC
namespace Go.Proofs.Ytaooglagddphnaa
open Go.RowKit

set_option maxRecDepth 100000

/-- What New leaves of a lay and draws that are right. -/
def BornD (V S T : Int) (dl : Nat) (d : Nat → Nat) (w : World) (e : Ending) (w' : World) : Prop :=
  ∃ p gb cap, e = .returned (.tuple #[.pointer (some ⟨p, 0, none⟩), .int .i64 0]) ∧ EM w' V S T p gb cap 12000 (bcX V S T dl d (nN V S + 1)) ∧ w.heap.size ≤ p ∧ w.heap.size ≤ gb ∧ Below w.heap.size w w'
/-- New's memory: its variables, and the arena. -/
structure NW (w0 W : World) (lb tb : Nat) (V S T : Int) (p gb cap m : Nat) (f : Nat → Int) : Prop where
  l : Blk W lb 23 #[.int .i64 V, .int .i64 S, .int .i64 T]
  t : TB W tb V S T p
  e : EM W V S T p gb cap m f
  be : Below w0.heap.size w0 W
  kp : w0.heap.size ≤ p
  kg : w0.heap.size ≤ gb
section
variable {w w' w0 : World} {V S T : Int} {lb tb p gb cap m m' dl dc : Nat} {f f' : Nat → Int} {d : Nat → Nat} {da : Option Addr}
theorem NW.below (h : NW w0 w lb tb V S T p gb cap m f) (hb : Below w.heap.size w w') : NW w0 w' lb tb V S T p gb cap m f := ⟨h.l.below hb h.l.lt, h.t.below hb, h.e.below hb, h.be.trans (hb.mono h.be.size), h.kp, h.kg⟩
theorem NW.only (h : NW w0 w lb tb V S T p gb cap m f) (E : EM w' V S T p gb cap m' f') (ho : Only p gb w w') : NW w0 w' lb tb V S T p gb cap m' f' := ⟨h.l.em h.e ho (by decide) (by decide), Blk.em h.t h.e ho (by decide) (by decide), E, Only.below h.be ho h.be.size h.kp h.kg, h.kp, h.kg⟩
/-- Between two nodes. -/
def NwRel (w0 : World) (lb tb : Nat) (V S T : Int) (p gb cap dl : Nat) (d : Nat → Nat) (i : Value) (W : World) : Prop :=
  ∃ k, k ≤ nN V S ∧ i = .int .i64 ((k : Nat) : Int) ∧ NW w0 W lb tb V S T p gb cap (100 + 20 * k) (bcX V S T dl d (k + 1))
theorem makeNode_at {x : Nat} {xI : Int} (hxI : xI = (x : Int)) (hE : EM w V S T p gb cap m (bcX V S T dl d x)) (h1 : 1 ≤ x) (h2 : x ≤ nN V S) (hD : IsNum w0 da dl d) (hdl : dl ≤ 256) (hB : Below w0.heap.size w0 w) (hp : w0.heap.size ≤ p) (hg : w0.heap.size ≤ gb) (hm : m ≤ 99000000) :
    Calls Try.prog 62 #[vTr V S T p, .int .i64 xI, .slice da dl dc] w fun e w' => e = .returned (.tuple #[]) ∧ EM w' V S T p gb cap (m + 20) (bcX V S T dl d (x + 1)) ∧ Only p gb w w' := by
  subst hxI
  exact makeNode_any hE h1 h2 hD hdl hB hp hg hm
theorem o3_cells (hR : Rt V S T) : o3 S T ≤ cn V S T := by
  have h1 := o_order hR
  have h2 := (sizes hR).nd1
  have h3 : cn V S T = o5 V S T + nd V S * 7 := by unfold cn o5; omega
  omega
set_option maxHeartbeats 4000000 in
theorem new_born (hR : Rt V S T) (hD : IsNum w da dl d) (hdl : dl ≤ 256) :
    Calls Try.prog 21 #[vL V S T, .slice da dl dc] w (BornD V S T dl d w) := by
  obtain ⟨Sn, rfl⟩ : ∃ n : Nat, S = (n : Int) := ⟨S.toNat, by have := hR.s1; omega⟩
  obtain ⟨t, rfl⟩ : ∃ n : Nat, T = (n : Int) := ⟨T.toNat, by have := hR.t1; omega⟩
  have HR := Lib.hid hR
  have HY := Lib.hid hR.yes
  have HD := Lib.hid hD
  have HDL := Lib.hid hdl
  have hdI : ¬ (256 : Int) < (dl : Int) := by omega
  have hn560 := nN_le hR
  clear hR hD
  have HL : Hid (Blk (w.alloc (.cells #[.int .i64 V, .int .i64 (Sn : Int), .int .i64 (t : Int)] 23)) w.heap.size 23 #[.int .i64 V, .int .i64 (Sn : Int), .int .i64 (t : Int)]) := Lib.hid (Blk.new _ _ _)
  have HB : Hid (Below w.heap.size w (w.alloc (.cells #[.int .i64 V, .int .i64 (Sn : Int), .int .i64 (t : Int)] 23))) := Lib.hid ((Below.refl _ _).alloc (Nat.le_refl _) _)
  go_enter Try.func21, Try.ntmps21
  go_wp2_with fail
  generalize hlb : w.heap.size = lb at HL ⊢
  generalize hW : w.alloc (.cells #[.int .i64 V, .int .i64 (Sn : Int), .int .i64 (t : Int)] 23) = W1 at HL HB ⊢
  clear hW
  have HLB := Lib.hid hlb
  clear hlb
  refine (right_any _ _ _ _).mono ?_; rintro e w1 ⟨rfl, hb1⟩; rw [HY.out]
  have HL1 := Lib.hid (HL.out.below hb1 HL.out.lt)
  have HB1 := Lib.hid (HB.out.trans (hb1.mono HB.out.size))
  clear HL HB hb1
  have l0 : w1.cell? ⟨lb, 0, none⟩ = some (.int .i64 V) := HL1.out.cell 0
  have l1 : w1.cell? ⟨lb, 1, none⟩ = some (.int .i64 (Sn : Int)) := HL1.out.cell 1
  have l2 : w1.cell? ⟨lb, 2, none⟩ = some (.int .i64 (t : Int)) := HL1.out.cell 2
  have llt := HL1.out.lt
  go_wp2_with fail
  refine (cells_yes V (Sn : Int) (t : Int) HR.out _).mono ?_; rintro e w2 ⟨rfl, hb2⟩
  have HL2 := Lib.hid (HL1.out.below hb2 HL1.out.lt)
  have HB2 := Lib.hid (HB1.out.trans (hb2.mono HB1.out.size))
  clear HL1 HB1 hb2 l0 l1 l2 llt
  go_wp2_with fail
  refine (lnew HR.out _).mono ?_; rintro e w3 ⟨rfl, hA, hb3⟩
  have HL3 := Lib.hid (HL2.out.below hb3 HL2.out.lt)
  have HB3 := Lib.hid (HB2.out.trans (hb3.mono HB2.out.size))
  have HA3 := Lib.hid hA
  have HKP : Hid (w.heap.size ≤ w2.heap.size + 1 ∧ w.heap.size ≤ w2.heap.size) := Lib.hid ⟨Nat.le_trans HB2.out.size (Nat.le_succ _), HB2.out.size⟩
  clear HL2 HB2 hb3 hA
  generalize w2.heap.size + 1 = p at HA3 HKP ⊢
  generalize w2.heap.size = gb at HA3 HKP
  have b0 : ((0 : Int) != 0) = false := rfl
  go_wp2_with fail
  refine (pm_of p _).mono ?_; rintro e w4 ⟨rfl, hb4⟩
  have HL4 := Lib.hid ((HL3.out.below hb4 HL3.out.lt).alloc (.cells #[.pointer (some ⟨p, 0, none⟩)] 84))
  have HB4 := Lib.hid ((HB3.out.trans (hb4.mono HB3.out.size)).alloc ((HB3.out.trans (hb4.mono HB3.out.size)).size) (.cells #[.pointer (some ⟨p, 0, none⟩)] 84))
  have HA4 := Lib.hid ((HA3.out.below hb4 (Nat.le_refl _)).alloc (.cells #[.pointer (some ⟨p, 0, none⟩)] 84))
  have HM4 : Hid (Blk (w4.alloc (.cells #[.pointer (some ⟨p, 0, none⟩)] 84)) w4.heap.size 84 #[.pointer (some ⟨p, 0, none⟩)]) := Lib.hid (Blk.new _ _ _)
  clear HL3 HB3 HA3 hb4 b0
  have l0 : (w4.alloc (.cells #[.pointer (some ⟨p, 0, none⟩)] 84)).cell? ⟨lb, 0, none⟩ = some (.int .i64 V) := HL4.out.cell 0
  have l1 : (w4.alloc (.cells #[.pointer (some ⟨p, 0, none⟩)] 84)).cell? ⟨lb, 1, none⟩ = some (.int .i64 (Sn : Int)) := HL4.out.cell 1
  have l2 : (w4.alloc (.cells #[.pointer (some ⟨p, 0, none⟩)] 84)).cell? ⟨lb, 2, none⟩ = some (.int .i64 (t : Int)) := HL4.out.cell 2
  have m0 : (w4.alloc (.cells #[.pointer (some ⟨p, 0, none⟩)] 84)).cell? ⟨w4.heap.size, 0, none⟩ = some (.pointer (some ⟨p, 0, none⟩)) := HM4.out.cell 0
  have llt := HL4.out.lt
  go_wp2_with fail
  generalize hW5 : w4.alloc (.cells #[.pointer (some ⟨p, 0, none⟩)] 84) = W5 at HL4 HB4 HA4 HM4 l0 l1 l2 m0 llt ⊢
  generalize hwm : w4.heap.size = mb at HM4 m0 ⊢
  clear hW5 hwm l0 l1 l2 m0 llt
  have HE4 : Hid (EM W5 V (Sn : Int) (t : Int) p gb (cellsN V (Sn : Int) (t : Int)) 0 zeroF) := Lib.hid ⟨HR.out, zeroF, HA4.out, fun _ => ⟨Int.le_refl _, Int.le_refl _⟩⟩
  have HN1 : Hid (t < cellsN V (Sn : Int) (t : Int) ∧ ∀ s, s < Sn → t + 1 + s * 7 < cellsN V (Sn : Int) (t : Int)) := Lib.hid (by
    have h1 := cellsE_int HR.out
    have h2 := o3_cells HR.out
    have h3 : o3 (Sn : Int) (t : Int) = t + 1 + Sn * 7 := rfl
    rw [cellsNE]
    exact ⟨by omega, fun s hs => by omega⟩)
  refine (init_any (m := 0) HR.out rfl HA4.out HN1.out.1 HN1.out.2 (fun _ => ⟨Int.le_refl _, Int.le_refl _⟩) (by omega)).mono ?_; rintro e w6 ⟨rfl, ib, c6, f6, A6, C6, _, _, g0, g1, g2, _, O6⟩
  have hF : f6 = bcX V (Sn : Int) (t : Int) dl d 1 := bcX_first HR.out rfl rfl g0 g1 (fun k a b => (g2 k a b).trans rfl)
  rw [hF] at A6
  have HE6 : Hid (EM w6 V (Sn : Int) (t : Int) p gb (cellsN V (Sn : Int) (t : Int)) 100 (bcX V (Sn : Int) (t : Int) dl d 1)) := Lib.hid ⟨HR.out, c6, A6, C6.more (by have := HR.out.s2; omega)⟩
  have HL6 := Lib.hid (HL4.out.em HE4.out O6 (by decide) (by decide))
  have HM6 := Lib.hid (HM4.out.em HE4.out O6 (by decide) (by decide))
  have HB6 := Lib.hid (Only.below HB4.out O6 HB4.out.size HKP.out.1 HKP.out.2)
  clear hF A6 C6 g0 g1 g2 O6 HE4 HL4 HM4 HB4 HA4 HN1
  have l0 : w6.cell? ⟨lb, 0, none⟩ = some (.int .i64 V) := HL6.out.cell 0
  have l1 : w6.cell? ⟨lb, 1, none⟩ = some (.int .i64 (Sn : Int)) := HL6.out.cell 1
  have l2 : w6.cell? ⟨lb, 2, none⟩ = some (.int .i64 (t : Int)) := HL6.out.cell 2
  have m0 : w6.cell? ⟨mb, 0, none⟩ = some (.pointer (some ⟨p, 0, none⟩)) := HM6.out.cell 0
  have llt := HL6.out.lt
  have mlt := HM6.out.lt
  go_wp2_with fail
  have H7 : Hid (NW w (w6.alloc (.cells #[.int .i64 V, .int .i64 (Sn : Int), .int .i64 (t : Int), .iface 84 (pmV p), .int .i64 1, .int .i64 0] 32)) lb w6.heap.size V (Sn : Int) (t : Int) p gb (cellsN V (Sn : Int) (t : Int)) 100 (bcX V (Sn : Int) (t : Int) dl d 1)) := Lib.hid ⟨HL6.out.alloc _, TB.new _ _ _ _ _, HE6.out.below ((Below.refl _ _).alloc (Nat.le_refl _) _), HB6.out.alloc HB6.out.size _, HKP.out.1, HKP.out.2⟩
  generalize hW7 : w6.alloc (.cells #[.int .i64 V, .int .i64 (Sn : Int), .int .i64 (t : Int), .iface 84 (pmV p), .int .i64 1, .int .i64 0] 32) = W7 at H7 ⊢
  generalize hwt : w6.heap.size = tb at H7 ⊢
  clear hW7 hwt l0 l1 l2 m0 llt mlt HE6 HL6 HM6 HB6
  refine (lnodes HR.out _).mono ?_; rintro e w8 ⟨rfl, hb8⟩
  have H8 := Lib.hid (H7.out.below hb8)
  clear H7 hb8
  obtain ⟨n9, hn9⟩ : ∃ n, nN V (Sn : Int) = n := ⟨_, rfl⟩
  have HN9 := Lib.hid hn9
  rw [hn9] at hn560 ⊢
  clear hn9
  have nI : (n9 : Int) ≤ 560 := by omega
  have HRel : Hid (NwRel w lb tb V (Sn : Int) (t : Int) p gb (cellsN V (Sn : Int) (t : Int)) dl d (.int .i64 0) w8) := Lib.hid ⟨0, Nat.zero_le _, rfl, H8.out⟩
  clear H8
  go_wp2_with fail
  go_loopw [39] (fun i wr => NwRel w lb tb V (Sn : Int) (t : Int) p gb (cellsN V (Sn : Int) (t : Int)) dl d i wr) (fun i _ => n9 - (intOf i).toNat)
  case atStart => exact HRel.out
  case round =>
    clear HRel
    obtain ⟨k, hk, rfl, hS⟩ := hrel
    rw [HN9.out] at hk
    have HS := Lib.hid hS
    clear hS
    obtain ⟨y0, y1, y2, y3, y4, y5⟩ := HS.out.t.cells
    have tlt := HS.out.t.lt
    by_cases hkn : k < n9
    · have kI : (k : Int) < (n9 : Int) := by omega
      have k0 : (0 : Int) ≤ (k : Int) := by omega
      have HKN : Hid (k + 1 ≤ nN V (Sn : Int)) := Lib.hid (by rw [HN9.out]; exact hkn)
      go_wp2_with fail
      refine (makeNode_at (x := k + 1) (by push_cast; rfl) HS.out.e (by omega) HKN.out HD.out HDL.out HS.out.be HKP.out.1 HKP.out.2 (by omega)).mono ?_; rintro e w9 ⟨rfl, E9, O9⟩
      have H9 := Lib.hid (HS.out.only E9 O9)
      clear HS E9 O9 y0 y1 y2 y3 y4 y5 tlt
      go_wp2_with fail
      go_round
      case rel => exact ⟨k + 1, HKN.out, by go_num, H9.out⟩
      case measure => simp [intOf]; omega
    · have ek : k = n9 := by omega
      subst ek
      have kI : ¬ (k : Int) < (k : Int) := by omega
      go_wp2_with fail
      go_ret2
      refine ⟨p, gb, cellsN V (Sn : Int) (t : Int), rfl, ?_, HKP.out.1, HKP.out.2, HS.out.be⟩
      rw [HN9.out]
      exact HS.out.e.more (by omega)
/-- A lay that isn't right is refused. -/
theorem new_range {dv : Value} (h : rtB V S T = false) : Calls Try.prog 21 #[vL V S T, dv] w fun e w' => e = .returned (.tuple #[.pointer none, .int .i64 11]) ∧ Below w.heap.size w w' := by
  have HB : Hid (Below w.heap.size w (w.alloc (.cells #[.int .i64 V, .int .i64 S, .int .i64 T] 23))) := Lib.hid ((Below.refl _ _).alloc (Nat.le_refl _) _)
  have HY := Lib.hid h
  clear h
  go_enter Try.func21, Try.ntmps21
  go_wp2_with fail
  refine (right_any _ _ _ _).mono ?_; rintro e w1 ⟨rfl, hb1⟩; rw [HY.out]
  have HB1 := Lib.hid (HB.out.trans (hb1.mono HB.out.size))
  clear hb1
  go_wp2_with fail
  go_ret2
  exact ⟨rfl, HB1.out⟩
/-- Too many draws are refused. -/
theorem new_many (hR : Rt V S T) (h : 256 < dl) : Calls Try.prog 21 #[vL V S T, .slice da dl dc] w fun e w' => e = .returned (.tuple #[.pointer none, .int .i64 12]) ∧ Below w.heap.size w w' := by
  have HB : Hid (Below w.heap.size w (w.alloc (.cells #[.int .i64 V, .int .i64 S, .int .i64 T] 23))) := Lib.hid ((Below.refl _ _).alloc (Nat.le_refl _) _)
  have HY := Lib.hid hR.yes
  have hI : (256 : Int) < (dl : Int) := by omega
  clear h hR
  go_enter Try.func21, Try.ntmps21
  go_wp2_with fail
  refine (right_any _ _ _ _).mono ?_; rintro e w1 ⟨rfl, hb1⟩; rw [HY.out]
  have HB1 := Lib.hid (HB.out.trans (hb1.mono HB.out.size))
  clear hb1
  go_wp2_with fail
  go_ret2
  exact ⟨rfl, HB1.out⟩
end

end Go.Proofs.Ytaooglagddphnaa
