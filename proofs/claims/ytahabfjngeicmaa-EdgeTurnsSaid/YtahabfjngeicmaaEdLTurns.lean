/- The law EdgeTurns. Printed by wip/tools/edl.py. -/
import Derived.Test.YtahabfjngeicmaaEdS
namespace Go.Proofs.Ytahabfjngeicmaa
open Go.RowKit

set_option maxRecDepth 100000

section
variable {V S T : Int} {oa : Option Addr} {ol oc : Nat} {fo : Nat → O11}
set_option maxHeartbeats 16000000 in
theorem lturns11 (lev : Int) (hlo : -9223372036854775808 ≤ lev) (hhi : lev ≤ 9223372036854775807) (w : World) (hO : IsO11 w oa ol fo) :
    Calls Try.prog 7 #[vL V S T, .slice oa ol oc, .int .i64 lev] w fun e w' => e = .returned (.bool true) ∧ Below w.heap.size w w' := by
  have HO0 := Lib.hid hO
  clear hO
  have HB1 : Hid (Below w.heap.size w (w.alloc (.cells #[.int .i64 V, .int .i64 S, .int .i64 T] 23))) := Lib.hid ((Below.refl _ _).alloc (Nat.le_refl _) _)
  have HL1 : Hid (Blk (w.alloc (.cells #[.int .i64 V, .int .i64 S, .int .i64 T] 23)) w.heap.size 23 #[.int .i64 V, .int .i64 S, .int .i64 T]) := Lib.hid (Blk.new _ _ _)
  go_enter Try.func7, Try.ntmps7
  go_wp2_with fail
  generalize w.heap.size = lb at HL1 ⊢
  generalize (w.alloc (.cells #[.int .i64 V, .int .i64 S, .int .i64 T] 23)) = W1 at HB1 HL1 ⊢
  refine (right_any11 V S T _).mono ?_; rintro e w2 ⟨rfl, hb2⟩
  have HB2 := Lib.hid (HB1.out.trans (hb2.mono HB1.out.size))
  have HL2 := Lib.hid (HL1.out.below hb2 HL1.out.lt)
  clear HB1 HL1 hb2
  have AWK : ∀ e w3, (e = Ending.returned (.bool true) ∧ Below w2.heap.size w2 w3) → e = .returned (.bool true) ∧ Below w.heap.size w w3 := fun e w3 h => ⟨h.1, HB2.out.trans (h.2.mono HB2.out.size)⟩
  cases hr : rgt11 V S T
  · go_wp2_with fail
    refine (awake_any11 _).mono ?_; rintro e w3 ⟨rfl, hb3⟩
    have HB3 := Lib.hid (HB2.out.trans (hb3.mono HB2.out.size))
    go_wp2_with fail
    go_ret
    exact ⟨rfl, HB3.out⟩
  have HG := Lib.hid (rgt11_yes hr)
  clear hr
  by_cases hol : ol ≤ 60
  rotate_left
  · have holI : ¬ (ol : Int) ≤ 60 := by omega
    go_wp2_with fail
    refine (awake_any11 _).mono ?_; rintro e w3 ⟨rfl, hb3⟩
    have HB3 := Lib.hid (HB2.out.trans (hb3.mono HB2.out.size))
    go_wp2_with fail
    go_ret
    exact ⟨rfl, HB3.out⟩
  have holI : (ol : Int) ≤ 60 := by omega
  have HOL := Lib.hid hol
  clear hol AWK
  obtain ⟨a0, a1, a2⟩ : w2.cell? ⟨lb, 0, none⟩ = some (.int .i64 V) ∧ w2.cell? ⟨lb, 1, none⟩ = some (.int .i64 S) ∧ w2.cell? ⟨lb, 2, none⟩ = some (.int .i64 T) := ⟨HL2.out.cell 0, HL2.out.cell 1, HL2.out.cell 2⟩
  have alt := HL2.out.lt
  by_cases hl0 : lev < 0
  · skip
    go_wp2_with fail
    refine (awake_any11 _).mono ?_; rintro e w3 ⟨rfl, hb3⟩
    have HB3 := Lib.hid (HB2.out.trans (hb3.mono HB2.out.size))
    go_wp2_with fail
    go_ret
    exact ⟨rfl, HB3.out⟩
  have hl0' : ¬ lev < 0 := hl0
  go_wp2_with fail
  refine (levels_yes V S T HG.out.1 _).mono ?_; rintro e w2 ⟨rfl, hbL⟩
  have HL2' := Lib.hid (HL2.out.below hbL HL2.out.lt)
  have HB2' := Lib.hid (HB2.out.trans (hbL.mono HB2.out.size))
  clear HB2 HL2 hbL a0 a1 a2 alt
  have HL2 := HL2'
  have HB2 := HB2'
  clear HL2' HB2'
  by_cases hl1 : lv V ≤ lev
  · skip
    go_wp2_with fail
    refine (awake_any11 _).mono ?_; rintro e w3 ⟨rfl, hb3⟩
    have HB3 := Lib.hid (HB2.out.trans (hb3.mono HB2.out.size))
    go_wp2_with fail
    go_ret
    exact ⟨rfl, HB3.out⟩
  have hl1' : ¬ lv V ≤ lev := hl1
  obtain ⟨Lv9, rfl⟩ : ∃ n : Nat, lev = (n : Int) := ⟨lev.toNat, by omega⟩
  have HLV : Hid ((Lv9 : Int) < lv V) := Lib.hid (by omega)
  obtain ⟨a0, a1, a2⟩ : w2.cell? ⟨lb, 0, none⟩ = some (.int .i64 V) ∧ w2.cell? ⟨lb, 1, none⟩ = some (.int .i64 S) ∧ w2.cell? ⟨lb, 2, none⟩ = some (.int .i64 T) := ⟨HL2.out.cell 0, HL2.out.cell 1, HL2.out.cell 2⟩
  have alt := HL2.out.lt
  go_wp2_with fail
  refine (begun_any11 HG.out.1).mono ?_; rintro e w3 ⟨p, gb, rfl, hM, hB, hp, hg⟩
  have HM3 := Lib.hid hM
  have HL3 := Lib.hid (HL2.out.below hB HL2.out.lt)
  have HB3 := Lib.hid hB
  have HPG := Lib.hid (And.intro hp hg)
  clear hM hB hp hg a0 a1 a2 alt
  obtain ⟨a0, a1, a2⟩ : w3.cell? ⟨lb, 0, none⟩ = some (.int .i64 V) ∧ w3.cell? ⟨lb, 1, none⟩ = some (.int .i64 S) ∧ w3.cell? ⟨lb, 2, none⟩ = some (.int .i64 T) := ⟨HL3.out.cell 0, HL3.out.cell 1, HL3.out.cell 2⟩
  have alt := HL3.out.lt
  go_wp2_with fail
  clear a0 a1 a2 alt
  have HB4 : Hid (Below w3.heap.size w3 ((w3.alloc (.cells #[.int .i64 V, .int .i64 S, .int .i64 T, .iface 95 (pmV p)] 64)).alloc (.cells #[.int .i64 V, .int .i64 S, .int .i64 T, .int .i64 V, .int .i64 S, .int .i64 T, .iface 95 (pmV p), .slice none 0 0] 70))) := Lib.hid (((Below.refl _ _).alloc (Nat.le_refl _) _).alloc (by simp) _)
  have HQ4 : Hid (PB11 ((w3.alloc (.cells #[.int .i64 V, .int .i64 S, .int .i64 T, .iface 95 (pmV p)] 64)).alloc (.cells #[.int .i64 V, .int .i64 S, .int .i64 T, .int .i64 V, .int .i64 S, .int .i64 T, .iface 95 (pmV p), .slice none 0 0] 70)) (w3.heap.size + 1) V S T p (.slice none 0 0)) := Lib.hid (new_next _ _ _ _ _)
  have HE4 : Hid (Blk ((w3.alloc (.cells #[.int .i64 V, .int .i64 S, .int .i64 T, .iface 95 (pmV p)] 64)).alloc (.cells #[.int .i64 V, .int .i64 S, .int .i64 T, .int .i64 V, .int .i64 S, .int .i64 T, .iface 95 (pmV p), .slice none 0 0] 70)) w3.heap.size 64 #[.int .i64 V, .int .i64 S, .int .i64 T, .iface 95 (pmV p)]) := Lib.hid ((Blk.new _ _ _).alloc _)
  have HEM := Lib.hid (HM3.out.below HB4.out)
  have HLL := Lib.hid (HL3.out.below HB4.out HL3.out.lt)
  have HBQ : Hid (w2.heap.size ≤ w3.heap.size + 1) := Lib.hid (Nat.le_succ_of_le HB3.out.size)
  have HW : Hid (Below w.heap.size w ((w3.alloc (.cells #[.int .i64 V, .int .i64 S, .int .i64 T, .iface 95 (pmV p)] 64)).alloc (.cells #[.int .i64 V, .int .i64 S, .int .i64 T, .int .i64 V, .int .i64 S, .int .i64 T, .iface 95 (pmV p), .slice none 0 0] 70))) := Lib.hid (HB2.out.trans ((HB3.out.trans (HB4.out.mono HB3.out.size)).mono HB2.out.size))
  have HLT : Hid (lb < w2.heap.size) := Lib.hid HL2.out.lt
  have HWS : Hid (w.heap.size ≤ w2.heap.size) := Lib.hid HB2.out.size
  clear HM3 HL3 HB4 HB3 HL2 HB2
  generalize w3.heap.size + 1 = q at HQ4 HBQ ⊢
  generalize w3.heap.size = eb at HE4 ⊢
  generalize (w3.alloc (.cells #[.int .i64 V, .int .i64 S, .int .i64 T, .iface 95 (pmV p)] 64)).alloc (.cells #[.int .i64 V, .int .i64 S, .int .i64 T, .int .i64 V, .int .i64 S, .int .i64 T, .iface 95 (pmV p), .slice none 0 0] 70) = W4 at HQ4 HE4 HEM HLL HW ⊢
  generalize w2.heap.size = base at HPG HBQ HLT HWS 
  have HRel : Hid (Lp11 W4 base q V S T p gb (cellsE V S T) 4 ol (.int .i64 0) W4) := Lib.hid ⟨0, zeroF, _, [], Nat.zero_le _, rfl, ⟨⟨HQ4.out, HEM.out, OW.nil _ _, HBQ.out, HPG.out.1, HPG.out.2⟩, Below.refl _ _, fun _ _ h => h⟩, ER.nil fun _ => rfl, Nat.le_refl _⟩
  clear HQ4 HEM HBQ
  go_loopw [47] (fun i wr => Lp11 W4 base q V S T p gb (cellsE V S T) 4 ol i wr) (fun i _ => ol - (intOf i).toNat)
  case atStart => exact HRel.out
  case round =>
    clear HRel
    obtain ⟨k, f, vl, ls, hk, rfl, hL, hE, hlen⟩ := hrel
    have HL := Lib.hid hL
    have HE := Lib.hid hE
    have HN := Lib.hid hlen
    have HBW := Lib.hid (HW.out.trans (hL.be.mono HWS.out))
    clear hL hE hlen
    by_cases hkl : k < ol
    · obtain ⟨ob, off, rfl, hcell⟩ := HO0.out (by omega)
      have hc := hcell k hkl
      obtain ⟨o, ho⟩ : ∃ o, fo k = o := ⟨_, rfl⟩
      rw [ho] at hc
      obtain ⟨kd, s, u, v, l, t⟩ := o
      have c0 := cell_later HBW.out hc.1
      have c1 := cell_later HBW.out hc.2.1
      have c2 := cell_later HBW.out hc.2.2.1
      have c3 := cell_later HBW.out hc.2.2.2.1
      have c4 := cell_later HBW.out hc.2.2.2.2.1
      have c5 := cell_later HBW.out hc.2.2.2.2.2
      have hkI : (k : Int) < (ol : Int) := by omega
      have hk0 : (0 : Int) ≤ (k : Int) := by omega
      have HM9 : Hid (4 * k ≤ 800000) := Lib.hid (by have := HOL.out; omega)
      have HN9 : Hid (ls.length ≤ 60) := Lib.hid (by have := HOL.out; have := HN.out; omega)
      have HLa := Lib.hid (HL.out.below ((Below.refl _ _).alloc (Nat.le_refl _) (.cells #[.int .i64 kd, .int .i64 s, .int .i64 u, .int .i64 v, .int .i64 l, .bool t] 72)))
      clear hc ho hcell HL
      go_wp2_with fail
      refine (lstep11 HLa.out HE.out (Nat.le_trans HN9.out (by omega)) HM9.out).mono ?_
      rintro e w5 ⟨rfl, f', vl', ls', hL5, hE5, hl5, _⟩
      have HL5 := Lib.hid hL5
      have HE5 := Lib.hid hE5
      have HN5 := Lib.hid hl5
      clear hL5 hE5 hl5 HLa HE c0 c1 c2 c3 c4 c5
      go_wp2_with fail
      exact ⟨⟨k + 1, f', vl', ls', hkl, by simp, by rw [show 4 * (k + 1) = 4 * k + 4 by omega]; exact HL5.out, HE5.out, by have := HN5.out; have := HN.out; omega⟩, by simp [intOf]; omega⟩
    · have ek : ol = k := by omega
      subst ek
      have hkI : ¬ (ol : Int) < (ol : Int) := by omega
      clear hk hkl
      obtain ⟨av, ac, rfl⟩ := HL.out.pw.ow.slice
      obtain ⟨n, hn⟩ : ∃ n, ls.length = n := ⟨_, rfl⟩
      have HNN := Lib.hid hn
      rw [hn] at HL
      have nI : (n : Int) ≤ 60 := by have := HN.out; have := HOL.out; omega
      obtain ⟨y0, y1, y2, y3, y4, y5, y6, y7⟩ := HL.out.pw.pq.cells
      have qlt := HL.out.pw.pq.lt
      have HRel2 : Hid (Tn11 W4 base q V S T p gb (cellsE V S T) (4 * ol) n (.slice av n ac) ls (.int .i64 0) wr) := Lib.hid ⟨0, f, Nat.zero_le _, rfl, HL.out, HE.out⟩
      obtain ⟨wO, rfl⟩ : ∃ w1 : World, w1 = wr := ⟨_, rfl⟩
      clear hn
      go_wp2_with fail
      clear y0 y1 y2 y3 y4 y5 y6 y7 qlt HL HE
      go_loopw [60] (fun i wr => Tn11 W4 base q V S T p gb (cellsE V S T) (4 * ol) n (.slice av n ac) ls i wr) (fun i _ => n - (intOf i).toNat)
      case atStart => exact HRel2.out
      case round =>
        clear HRel2 HBW
        obtain ⟨k, f, hk, rfl, hL, hE⟩ := hrel
        have HL := Lib.hid hL
        have HE := Lib.hid hE
        have HBW := Lib.hid (HW.out.trans (hL.be.mono HWS.out))
        clear hL hE
        by_cases hkn : k < n
        · obtain ⟨x, hx⟩ : ∃ x, ls[k]? = some x := ⟨_, List.getElem?_eq_getElem (by have := HNN.out; omega)⟩
          have HX := Lib.hid hx
          have HKN : Hid (k < n) := Lib.hid hkn
          have HMB : Hid (4 * ol + 20 * k ≤ 800000) := Lib.hid (by have := HOL.out; omega)
          obtain ⟨g, c9, e, _, glt, _, z0, z1, z2, z3, z4⟩ := HL.out.pw.ow.at hx
          injection e with e1 e2 e3
          subst e1 e3
          have kI : (k : Int) < (n : Int) := by omega
          have k0 : (0 : Int) ≤ (k : Int) := by omega
          have HEB := Lib.hid (HL.out.ke _ _ HE4.out)
          have b0 := HEB.out.cell 0
          have b1 := HEB.out.cell 1
          have b2 := HEB.out.cell 2
          have b3 := HEB.out.cell 3
          have blt := HEB.out.lt
          clear hx e2
          go_wp2_with fail
          have HL1 := Lib.hid (HL.out.below ((Below.refl _ _).alloc (Nat.le_refl _) (.cells #[.int .i64 (x.s : Int), .int .i64 (x.u : Int), .int .i64 (x.v : Int), .int .i64 (x.l : Int), .bool x.t] 79)))
          have HX1 : Hid (Blk (wr.alloc (.cells #[.int .i64 (x.s : Int), .int .i64 (x.u : Int), .int .i64 (x.v : Int), .int .i64 (x.l : Int), .bool x.t] 79)) wr.heap.size 79 #[.int .i64 (x.s : Int), .int .i64 (x.u : Int), .int .i64 (x.v : Int), .int .i64 (x.l : Int), .bool x.t]) := Lib.hid (Blk.new _ _ _)
          have HE1 := Lib.hid (HL1.out.ke _ _ HE4.out)
          clear HL HEB z0 z1 z2 z3 z4 glt b0 b1 b2 b3 blt
          generalize wr.alloc (.cells #[.int .i64 (x.s : Int), .int .i64 (x.u : Int), .int .i64 (x.v : Int), .int .i64 (x.l : Int), .bool x.t] 79) = W5 at HL1 HX1 HE1 ⊢
          generalize wr.heap.size = xb at HX1 ⊢
          have HE4' := HE4
          have HK0 := Lib.hid (HE.out.at (List.mem_of_getElem? HX.out))
          have hset : ∀ (y : E1) (l : List E1), k < l.length → (l.set k y)[k]? = some y := fun y l h => List.getElem?_set_self h
          have hlk : k < ls.length := (List.getElem?_eq_some_iff.1 HX.out).1
          have HR1 := Lib.hid (HE.out.turn HG.out.1 HX.out (!x.t))
          have HX1' := Lib.hid (hset { x with t := !x.t } ls hlk)
          have HR2 := Lib.hid (HR1.out.lift HG.out.1 HX1'.out HLV.out)
          have HX2' := Lib.hid (hset { x with t := !x.t, l := Lv9 } (ls.set k { x with t := !x.t }) (by rw [List.length_set]; exact hlk))
          have HR3 := Lib.hid (HR2.out.lift HG.out.1 HX2'.out (HE.out.ok x (List.mem_of_getElem? HX.out)).2.2.2)
          have HX3' := Lib.hid (hset { x with t := !x.t, l := x.l } ((ls.set k { x with t := !x.t }).set k { x with t := !x.t, l := Lv9 }) (by rw [List.length_set, List.length_set]; exact hlk))
          have HR4 := Lib.hid (HR3.out.turn HG.out.1 HX3'.out x.t)
          have HK1 := Lib.hid (HR1.out.at (List.mem_of_getElem? HX1'.out))
          have HK2 := Lib.hid (HR2.out.at (List.mem_of_getElem? HX2'.out))
          have HK3 := Lib.hid (HR3.out.at (List.mem_of_getElem? HX3'.out))
          have HR5 : Hid (ER V S T _ ls) := Lib.hid (by
            have h := HR4.out
            rw [List.set_set, List.set_set, List.set_set] at h
            have e : ls.set k { x with t := x.t, l := x.l } = ls := by
              have : ls[k]? = some x := HX.out
              exact List.ext_getElem? fun i => by
                by_cases hi : k = i
                · subst hi; rw [List.getElem?_set_self hlk, this]
                · rw [List.getElem?_set_ne hi]
            rw [e] at h
            exact h)
          clear hset hlk HR4 HE
          have b0 := HE1.out.cell 0
          have b1 := HE1.out.cell 1
          have b2 := HE1.out.cell 2
          have b3 := HE1.out.cell 3
          have blt := HE1.out.lt
          have z0 := HX1.out.cell 0
          have z1 := HX1.out.cell 1
          have z2 := HX1.out.cell 2
          have z3 := HX1.out.cell 3
          have z4 := HX1.out.cell 4
          have zlt := HX1.out.lt
          go_wp2_with fail
          refine (turn_yes11 (t2 := !x.t) HL1.out.pw.em HK0.out (by have := HMB.out; omega)).mono ?_; rintro e y1 ⟨rfl, A1, O1⟩
          have HX2 := Lib.hid (Blk.em HX1.out HL1.out.pw.em O1 (by decide) (by decide))
          have HL2 := Lib.hid (HL1.out.next2 A1 O1)
          have HE2 := Lib.hid (HL2.out.ke _ _ HE4'.out)
          clear HL1 HX1 A1 O1 b0 b1 b2 b3 blt z0 z1 z2 z3 z4 zlt
          have b0 := HE2.out.cell 0
          have b1 := HE2.out.cell 1
          have b2 := HE2.out.cell 2
          have b3 := HE2.out.cell 3
          have blt := HE2.out.lt
          have z0 := HX2.out.cell 0
          have z1 := HX2.out.cell 1
          have z2 := HX2.out.cell 2
          have z3 := HX2.out.cell 3
          have z4 := HX2.out.cell 4
          have zlt := HX2.out.lt
          go_wp2_with fail
          refine (lift_yes11 HL2.out.pw.em HK1.out HLV.out (by have := HMB.out; omega)).mono ?_; rintro e y2 ⟨rfl, A2, O2⟩
          have HX3 := Lib.hid (Blk.em HX2.out HL2.out.pw.em O2 (by decide) (by decide))
          have HL3 := Lib.hid (HL2.out.next2 A2 O2)
          have HE3 := Lib.hid (HL3.out.ke _ _ HE4'.out)
          clear HL2 HX2 A2 O2 b0 b1 b2 b3 blt z0 z1 z2 z3 z4 zlt
          have b0 := HE3.out.cell 0
          have b1 := HE3.out.cell 1
          have b2 := HE3.out.cell 2
          have b3 := HE3.out.cell 3
          have blt := HE3.out.lt
          have z0 := HX3.out.cell 0
          have z1 := HX3.out.cell 1
          have z2 := HX3.out.cell 2
          have z3 := HX3.out.cell 3
          have z4 := HX3.out.cell 4
          have zlt := HX3.out.lt
          go_wp2_with fail
          refine (get_yes11 HL3.out.pw.em HK2.out (by have := HMB.out; omega)).mono ?_; rintro e y3 ⟨rfl, A3, O3⟩
          have HX4 := Lib.hid (Blk.em HX3.out HL3.out.pw.em O3 (by decide) (by decide))
          have HL4 := Lib.hid (HL3.out.next2 A3 O3)
          have HE4 := Lib.hid (HL4.out.ke _ _ HE4'.out)
          clear HL3 HX3 A3 O3 b0 b1 b2 b3 blt z0 z1 z2 z3 z4 zlt
          have b0 := HE4.out.cell 0
          have b1 := HE4.out.cell 1
          have b2 := HE4.out.cell 2
          have b3 := HE4.out.cell 3
          have blt := HE4.out.lt
          have z0 := HX4.out.cell 0
          have z1 := HX4.out.cell 1
          have z2 := HX4.out.cell 2
          have z3 := HX4.out.cell 3
          have z4 := HX4.out.cell 4
          have zlt := HX4.out.lt
          have n1 : ((!x.t) == x.t) = false := by cases x.t <;> rfl
          have n2 : ((Lv9 : Int) != (Lv9 : Int)) = false := bne_self_eq_false _
          have n3 : ((x.u : Int) != (x.u : Int)) = false := bne_self_eq_false _
          have n4 : ((x.v : Int) != (x.v : Int)) = false := bne_self_eq_false _
          go_wp2_with fail
          clear b0 b1 b2 b3 blt z0 z1 z2 z3 z4 zlt n1 n2 n3 n4
          have HL5 := Lib.hid (HL4.out.below ((Below.refl _ _).alloc (Nat.le_refl _) (.cells #[.int .i64 (x.u : Int), .int .i64 (x.v : Int), .int .i64 (Lv9 : Int), .bool (!x.t)] 77)))
          have HX5 := Lib.hid (HX4.out.below ((Below.refl _ _).alloc (Nat.le_refl _) (.cells #[.int .i64 (x.u : Int), .int .i64 (x.v : Int), .int .i64 (Lv9 : Int), .bool (!x.t)] 77)) HX4.out.lt)
          have HE5 := Lib.hid (HL5.out.ke _ _ HE4'.out)
          clear HL4 HX4
          generalize y3.alloc (.cells #[.int .i64 (x.u : Int), .int .i64 (x.v : Int), .int .i64 (Lv9 : Int), .bool (!x.t)] 77) = Y5 at HL5 HX5 HE5 ⊢
          refine (lift_yes11 HL5.out.pw.em HK2.out HK0.out.hl (by have := HMB.out; omega)).mono ?_; rintro e y5 ⟨rfl, A5, O5⟩
          have HX6 := Lib.hid (Blk.em HX5.out HL5.out.pw.em O5 (by decide) (by decide))
          have HL6 := Lib.hid (HL5.out.next2 A5 O5)
          have HE6 := Lib.hid (HL6.out.ke _ _ HE4'.out)
          clear HL5 HX5 A5 O5
          have b0 := HE6.out.cell 0
          have b1 := HE6.out.cell 1
          have b2 := HE6.out.cell 2
          have b3 := HE6.out.cell 3
          have blt := HE6.out.lt
          have z0 := HX6.out.cell 0
          have z1 := HX6.out.cell 1
          have z2 := HX6.out.cell 2
          have z3 := HX6.out.cell 3
          have z4 := HX6.out.cell 4
          have zlt := HX6.out.lt
          go_wp2_with fail
          clear b0 b1 b2 b3 blt z0 z1 z2 z3 z4 zlt
          refine (turn_yes11 (t2 := x.t) HL6.out.pw.em HK3.out (by have := HMB.out; omega)).mono ?_; rintro e y6 ⟨rfl, A6, O6⟩
          have HX7 := Lib.hid (Blk.em HX6.out HL6.out.pw.em O6 (by decide) (by decide))
          have HL7 := Lib.hid (HL6.out.next2 A6 O6)
          have HE7 := Lib.hid (HL7.out.ke _ _ HE4'.out)
          clear HL6 HX6 A6 O6
          go_wp2_with fail
          exact ⟨⟨k + 1, _, HKN.out, by simp, HL7.out.more (by omega), HR5.out⟩, by simp [intOf]; have := HKN.out; omega⟩
        · have ek : k = n := by omega
          subst ek
          have kI : ¬ (k : Int) < (k : Int) := by omega
          clear hk hkn
          go_wp2_with fail
          refine (is_any11 HL.out HE.out (by rw [HNN.out]; omega) HG.out.2 (by have := HOL.out; omega)).mono ?_
          rintro e w6 ⟨rfl, hL6⟩
          have HB6 := Lib.hid (HW.out.trans (hL6.be.mono HWS.out))
          clear HL hL6
          go_wp2_with fail
          refine (awake_any11 _).mono ?_; rintro e w9 ⟨rfl, hb9⟩
          have HBE := Lib.hid (HB6.out.trans (hb9.mono HB6.out.size))
          go_wp2_with fail
          go_ret
          exact ⟨rfl, HBE.out⟩
end
end Go.Proofs.Ytahabfjngeicmaa
