/- The law EdgeAll. Printed by wip/tools/edl.py. -/
import Derived.Test.YtahabfjngeicmaaEdS
import Derived.BigQuiet
import Derived.Deep.DeepCutAuto
namespace Go.Proofs.Ytahabfjngeicmaa
open Go.RowKit

set_option maxRecDepth 100000

/-- In EdgeAll's loops. -/
def Al11 (w0 : World) (N : Nat) (ls : List E1) (a i : Value) (W : World) : Prop := Below w0.heap.size w0 W ∧ ∃ u, u ≤ N ∧ i = .int .i64 ((u : Nat) : Int) ∧ a = .int .i64 (((allTo ls N u).length : Nat) : Int)
def Am11 (w0 : World) (N u : Nat) (ls : List E1) (a i : Value) (W : World) : Prop := Below w0.heap.size w0 W ∧ ∃ v, v ≤ N ∧ u + 1 ≤ v ∧ i = .int .i64 ((v : Nat) : Int) ∧ a = .int .i64 (((allTo ls N u ++ rowTo ls u v).length : Nat) : Int)
section
variable {V S T : Int} {oa : Option Addr} {ol oc : Nat} {fo : Nat → O11}
set_option maxHeartbeats 16000000 in
theorem lall11 (w : World) (hO : IsO11 w oa ol fo) :
    Calls Try.prog 5 #[vL V S T, .slice oa ol oc] w fun e w' => e = .returned (.bool true) ∧ Below w.heap.size w w' := by
  have HO0 := Lib.hid hO
  clear hO
  have HB1 : Hid (Below w.heap.size w (w.alloc (.cells #[.int .i64 V, .int .i64 S, .int .i64 T] 23))) := Lib.hid ((Below.refl _ _).alloc (Nat.le_refl _) _)
  have HL1 : Hid (Blk (w.alloc (.cells #[.int .i64 V, .int .i64 S, .int .i64 T] 23)) w.heap.size 23 #[.int .i64 V, .int .i64 S, .int .i64 T]) := Lib.hid (Blk.new _ _ _)
  go_enter Try.func5, Try.ntmps5
  go_wp2_with fail
  generalize w.heap.size = lb at HL1 ⊢
  generalize (w.alloc (.cells #[.int .i64 V, .int .i64 S, .int .i64 T] 23)) = W1 at HB1 HL1 ⊢
  refine (right_any11 V S T _).mono ?_; rintro e w2 ⟨rfl, hb2⟩
  have HB2 := Lib.hid (HB1.out.trans (hb2.mono HB1.out.size))
  have HL2 := Lib.hid (HL1.out.below hb2 HL1.out.lt)
  clear HB1 HL1 hb2
  have AWK : ∀ e w3, (e = Ending.returned (.bool true) ∧ Below w2.heap.size w2 w3) → e = .returned (.bool true) ∧ Below w.heap.size w w3 := fun e w3 h => ⟨h.1, HB2.out.trans (h.2.mono HB2.out.size)⟩
  cases hr : rgt11 V S T
  · go_wp2_with fail
    refine (awake_any11 _).mono ?_; rintro e w3 ⟨rfl, hb3⟩
    have HB3 := Lib.hid (HB2.out.trans (hb3.mono HB2.out.size))
    go_wp2_with fail
    go_ret
    exact ⟨rfl, HB3.out⟩
  have HG := Lib.hid (rgt11_yes hr)
  clear hr
  by_cases hol : ol ≤ 60
  rotate_left
  · have holI : ¬ (ol : Int) ≤ 60 := by omega
    go_wp2_with fail
    refine (awake_any11 _).mono ?_; rintro e w3 ⟨rfl, hb3⟩
    have HB3 := Lib.hid (HB2.out.trans (hb3.mono HB2.out.size))
    go_wp2_with fail
    go_ret
    exact ⟨rfl, HB3.out⟩
  have holI : (ol : Int) ≤ 60 := by omega
  have HOL := Lib.hid hol
  clear hol AWK
  obtain ⟨a0, a1, a2⟩ : w2.cell? ⟨lb, 0, none⟩ = some (.int .i64 V) ∧ w2.cell? ⟨lb, 1, none⟩ = some (.int .i64 S) ∧ w2.cell? ⟨lb, 2, none⟩ = some (.int .i64 T) := ⟨HL2.out.cell 0, HL2.out.cell 1, HL2.out.cell 2⟩
  have alt := HL2.out.lt
  go_wp2_with fail
  refine (begun_any11 HG.out.1).mono ?_; rintro e w3 ⟨p, gb, rfl, hM, hB, hp, hg⟩
  have HM3 := Lib.hid hM
  have HL3 := Lib.hid (HL2.out.below hB HL2.out.lt)
  have HB3 := Lib.hid hB
  have HPG := Lib.hid (And.intro hp hg)
  clear hM hB hp hg a0 a1 a2 alt
  obtain ⟨a0, a1, a2⟩ : w3.cell? ⟨lb, 0, none⟩ = some (.int .i64 V) ∧ w3.cell? ⟨lb, 1, none⟩ = some (.int .i64 S) ∧ w3.cell? ⟨lb, 2, none⟩ = some (.int .i64 T) := ⟨HL3.out.cell 0, HL3.out.cell 1, HL3.out.cell 2⟩
  have alt := HL3.out.lt
  go_wp2_with fail
  clear a0 a1 a2 alt
  have HB4 : Hid (Below w3.heap.size w3 ((w3.alloc (.cells #[.int .i64 V, .int .i64 S, .int .i64 T, .iface 95 (pmV p)] 64)).alloc (.cells #[.int .i64 V, .int .i64 S, .int .i64 T, .int .i64 V, .int .i64 S, .int .i64 T, .iface 95 (pmV p), .slice none 0 0] 70))) := Lib.hid (((Below.refl _ _).alloc (Nat.le_refl _) _).alloc (by simp) _)
  have HQ4 : Hid (PB11 ((w3.alloc (.cells #[.int .i64 V, .int .i64 S, .int .i64 T, .iface 95 (pmV p)] 64)).alloc (.cells #[.int .i64 V, .int .i64 S, .int .i64 T, .int .i64 V, .int .i64 S, .int .i64 T, .iface 95 (pmV p), .slice none 0 0] 70)) (w3.heap.size + 1) V S T p (.slice none 0 0)) := Lib.hid (new_next _ _ _ _ _)
  have HE4 : Hid (Blk ((w3.alloc (.cells #[.int .i64 V, .int .i64 S, .int .i64 T, .iface 95 (pmV p)] 64)).alloc (.cells #[.int .i64 V, .int .i64 S, .int .i64 T, .int .i64 V, .int .i64 S, .int .i64 T, .iface 95 (pmV p), .slice none 0 0] 70)) w3.heap.size 64 #[.int .i64 V, .int .i64 S, .int .i64 T, .iface 95 (pmV p)]) := Lib.hid ((Blk.new _ _ _).alloc _)
  have HEM := Lib.hid (HM3.out.below HB4.out)
  have HLL := Lib.hid (HL3.out.below HB4.out HL3.out.lt)
  have HBQ : Hid (w2.heap.size ≤ w3.heap.size + 1) := Lib.hid (Nat.le_succ_of_le HB3.out.size)
  have HW : Hid (Below w.heap.size w ((w3.alloc (.cells #[.int .i64 V, .int .i64 S, .int .i64 T, .iface 95 (pmV p)] 64)).alloc (.cells #[.int .i64 V, .int .i64 S, .int .i64 T, .int .i64 V, .int .i64 S, .int .i64 T, .iface 95 (pmV p), .slice none 0 0] 70))) := Lib.hid (HB2.out.trans ((HB3.out.trans (HB4.out.mono HB3.out.size)).mono HB2.out.size))
  have HLT : Hid (lb < w2.heap.size) := Lib.hid HL2.out.lt
  have HWS : Hid (w.heap.size ≤ w2.heap.size) := Lib.hid HB2.out.size
  clear HM3 HL3 HB4 HB3 HL2 HB2
  generalize w3.heap.size + 1 = q at HQ4 HBQ ⊢
  generalize w3.heap.size = eb at HE4 ⊢
  generalize (w3.alloc (.cells #[.int .i64 V, .int .i64 S, .int .i64 T, .iface 95 (pmV p)] 64)).alloc (.cells #[.int .i64 V, .int .i64 S, .int .i64 T, .int .i64 V, .int .i64 S, .int .i64 T, .iface 95 (pmV p), .slice none 0 0] 70) = W4 at HQ4 HE4 HEM HLL HW ⊢
  generalize w2.heap.size = base at HPG HBQ HLT HWS 
  have HRel : Hid (Lp11 W4 base q V S T p gb (cellsE V S T) 4 ol (.int .i64 0) W4) := Lib.hid ⟨0, zeroF, _, [], Nat.zero_le _, rfl, ⟨⟨HQ4.out, HEM.out, OW.nil _ _, HBQ.out, HPG.out.1, HPG.out.2⟩, Below.refl _ _, fun _ _ h => h⟩, ER.nil fun _ => rfl, Nat.le_refl _⟩
  clear HQ4 HEM HBQ
  go_loopw [37] (fun i wr => Lp11 W4 base q V S T p gb (cellsE V S T) 4 ol i wr) (fun i _ => ol - (intOf i).toNat)
  case atStart => exact HRel.out
  case round =>
    clear HRel
    obtain ⟨k, f, vl, ls, hk, rfl, hL, hE, hlen⟩ := hrel
    have HL := Lib.hid hL
    have HE := Lib.hid hE
    have HN := Lib.hid hlen
    have HBW := Lib.hid (HW.out.trans (hL.be.mono HWS.out))
    clear hL hE hlen
    by_cases hkl : k < ol
    · obtain ⟨ob, off, rfl, hcell⟩ := HO0.out (by omega)
      have hc := hcell k hkl
      obtain ⟨o, ho⟩ : ∃ o, fo k = o := ⟨_, rfl⟩
      rw [ho] at hc
      obtain ⟨kd, s, u, v, l, t⟩ := o
      have c0 := cell_later HBW.out hc.1
      have c1 := cell_later HBW.out hc.2.1
      have c2 := cell_later HBW.out hc.2.2.1
      have c3 := cell_later HBW.out hc.2.2.2.1
      have c4 := cell_later HBW.out hc.2.2.2.2.1
      have c5 := cell_later HBW.out hc.2.2.2.2.2
      have hkI : (k : Int) < (ol : Int) := by omega
      have hk0 : (0 : Int) ≤ (k : Int) := by omega
      have HM9 : Hid (4 * k ≤ 800000) := Lib.hid (by have := HOL.out; omega)
      have HN9 : Hid (ls.length ≤ 60) := Lib.hid (by have := HOL.out; have := HN.out; omega)
      have HLa := Lib.hid (HL.out.below ((Below.refl _ _).alloc (Nat.le_refl _) (.cells #[.int .i64 kd, .int .i64 s, .int .i64 u, .int .i64 v, .int .i64 l, .bool t] 72)))
      clear hc ho hcell HL
      go_wp2_with fail
      refine (lstep11 HLa.out HE.out (Nat.le_trans HN9.out (by omega)) HM9.out).mono ?_
      rintro e w5 ⟨rfl, f', vl', ls', hL5, hE5, hl5, _⟩
      have HL5 := Lib.hid hL5
      have HE5 := Lib.hid hE5
      have HN5 := Lib.hid hl5
      clear hL5 hE5 hl5 HLa HE c0 c1 c2 c3 c4 c5
      go_wp2_with fail
      exact ⟨⟨k + 1, f', vl', ls', hkl, by simp, by rw [show 4 * (k + 1) = 4 * k + 4 by omega]; exact HL5.out, HE5.out, by have := HN5.out; have := HN.out; omega⟩, by simp [intOf]; omega⟩
    · have ek : ol = k := by omega
      subst ek
      have hkI : ¬ (ol : Int) < (ol : Int) := by omega
      clear hk hkl
      obtain ⟨N, hN⟩ : ∃ N : Nat, V = (N : Int) := ⟨V.toNat, by have := HG.out.1.v1; omega⟩
      have HVN := Lib.hid hN
      have N8 : (N : Int) ≤ 8 := by have := HG.out.2; omega
      have e9 : V.toNat = N := by omega
      have HE9 := Lib.hid e9
      clear hN e9
      obtain ⟨y0, y1, y2, y3, y4, y5, y6, y7⟩ := HL.out.pw.pq.cells
      have qlt := HL.out.pw.pq.lt
      go_wp2_with fail
      clear y0 y1 y2 y3 y4 y5 y6 y7 qlt
      refine (all_any HL.out.pw.em HE.out (by have := HOL.out; omega)).mono ?_
      rintro e w6 ⟨va, rfl, hR6, A6, O6⟩
      have HL6 := Lib.hid (HL.out.next2 A6 O6)
      have HBW6 := Lib.hid (HW.out.trans (HL6.out.be.mono HWS.out))
      rw [HE9.out] at hR6
      have HLL6 := Lib.hid (HLL.out.below HL6.out.be HLT.out)
      obtain ⟨ga, gc, rfl⟩ := hR6.slice
      obtain ⟨gn, hgn⟩ : ∃ M, (allTo ls N N).length = M := ⟨_, rfl⟩
      have HGN := Lib.hid hgn
      rw [hgn] at hR6 ⊢
      have HR6 := Lib.hid hR6
      have gnI : (gn : Int) ≤ 64 := by
        have h1 := allTo_len (ls := ls) (n := N) N
        have h2 : N * N ≤ 8 * 8 := Nat.mul_le_mul (by omega) (by omega)
        omega
      have HRel2 : Hid (Al11 w6 N ls (.int .i64 0) (.int .i64 0) w6) := Lib.hid ⟨Below.refl _ _, 0, Nat.zero_le _, rfl, rfl⟩
      have a0 : w6.cell? ⟨lb, 0, none⟩ = some (.int .i64 (N : Int)) := by have := HLL6.out.cell 0; rw [HVN.out] at this; exact this
      have alt := HLL6.out.lt
      clear A6 O6 hR6 hgn HL HBW
      go_wp2_with fail
      clear a0 alt
      go_loopw [11, 52] (fun a i wr => Al11 w6 N ls a i wr) (fun _ i _ => N - (intOf i).toNat)
      case atStart => exact HRel2.out
      case round =>
        clear HRel2
        obtain ⟨hb, u, hu, rfl, rfl⟩ := hrel
        have HB := Lib.hid hb
        clear hb
        obtain ⟨na, hna⟩ : ∃ M, (allTo ls N u).length = M := ⟨_, rfl⟩
        have HNA := Lib.hid hna
        rw [hna]
        clear hna
        by_cases hun : u < N
        · have uI : (u : Int) < (N : Int) := by omega
          have u0 : (0 : Int) ≤ (u : Int) := by omega
          have HUN := Lib.hid hun
          have HRel3 : Hid (Am11 w6 N u ls (.int .i64 (na : Int)) (.int .i64 ((u : Int) + 1)) wr) := Lib.hid ⟨HB.out, u + 1, by omega, Nat.le_refl _, by simp, by rw [rowTo_low _ (Nat.le_refl _), List.append_nil, HNA.out]⟩
          clear HB
          go_wp2_with fail
          go_loopw [11, 13] (fun a i wr => Am11 w6 N u ls a i wr) (fun _ i _ => N - (intOf i).toNat)
          case atStart => exact HRel3.out
          case round =>
            clear HRel3 HNA
            obtain ⟨hb, v, hv, huv, rfl, rfl⟩ := hrel
            have HB := Lib.hid hb
            clear hb
            obtain ⟨nb, hnb⟩ : ∃ M, (allTo ls N u ++ rowTo ls u v).length = M := ⟨_, rfl⟩
            have HNB := Lib.hid hnb
            rw [hnb]
            clear hnb
            have HLb := Lib.hid (HLL6.out.below HB.out HLL6.out.lt)
            have a0 : wr.cell? ⟨lb, 0, none⟩ = some (.int .i64 (N : Int)) := by have := HLb.out.cell 0; rw [HVN.out] at this; exact this
            have alt := HLb.out.lt
            by_cases hvn : v < N
            · have vI : (v : Int) < (N : Int) := by omega
              have v0 : (0 : Int) ≤ (v : Int) := by omega
              have HMM : Hid (min u v = u ∧ max u v = v ∧ u < v ∧ v < N) := Lib.hid (by omega)
              have H7 := Lib.hid (HL6.out.below HB.out)
              go_wp2_with fail
              clear a0 alt HLb
              by_cases hx : ∃ x ∈ ls, x.u = min u v ∧ x.v = max u v
              · obtain ⟨x, hx, ex⟩ := hx
                obtain ⟨i, hi⟩ := List.mem_iff_getElem?.1 hx
                have HX : Hid (ls[i]? = some x ∧ x.u = min u v ∧ x.v = max u v) := Lib.hid ⟨hi, ex⟩
                have HL9 : Hid (allTo ls N u ++ rowTo ls u (v + 1) = (allTo ls N u ++ rowTo ls u v) ++ [x.s]) := Lib.hid (by
                  show allTo ls N u ++ (rowTo ls u v ++ (if u < v then oneS ls u v else [])) = _
                  rw [if_pos HMM.out.2.2.1, oneS_some HE.out hx ⟨ex.1.trans HMM.out.1, ex.2.trans HMM.out.2.1⟩, List.append_assoc])
                have HAT : Hid ((allTo ls N N)[nb]? = some x.s) := Lib.hid (by
                  obtain ⟨r, hr⟩ := all_pre (ls := ls) (u := u) (v := v + 1) (n := N) HUN.out (by have := HMM.out; omega)
                  rw [hr, HL9.out, List.append_assoc, List.getElem?_append_right (by rw [HNB.out]; exact Nat.le_refl _), HNB.out, Nat.sub_self]; rfl)
                refine (between_yes H7.out.pw.pq H7.out.pw.ow (by have := HN.out; have := HOL.out; omega) HX.out.1 HX.out.2 fun j y hj hy => HE.out.pair1 hj HX.out.1 (hy.1.trans HX.out.2.1.symm) (hy.2.trans HX.out.2.2.symm)).mono ?_; rintro e w7 ⟨rfl, B7⟩
                have HB7 := Lib.hid (HB.out.trans (B7.mono HB.out.size))
                have H8 := Lib.hid (H7.out.below B7)
                clear H7 HB B7 hx ex hi
                obtain ⟨y0, y1, y2, y3, y4, y5, y6, y7⟩ := H8.out.pw.pq.cells
                have qlt := H8.out.pw.pq.lt
                obtain ⟨g, c9, e, _, glt, _, z0, z1, z2, z3, z4⟩ := H8.out.pw.ow.at HX.out.1
                obtain ⟨gb2, gc2, e2, q0, gl2⟩ := (HR6.out.below HB7.out).at HAT.out
                subst e
                injection e2 with e21 e22 e23
                subst e21 e23
                have nbl : nb < gn := by have := (List.getElem?_eq_some_iff.1 HAT.out).1; rw [HGN.out] at this; exact this
                have nbI : (nb : Int) < (gn : Int) := by omega
                have gd9 : decide ((gn : Int) ≤ (nb : Int)) = false := decide_eq_false (by omega)
                have gd8 : decide (gn ≤ nb) = false := decide_eq_false (by omega)
                have gd7 : ¬ gn ≤ nb := by omega
                have nb0 : (0 : Int) ≤ (nb : Int) := by omega
                have iI : (i : Int) < (ls.length : Int) := by have := (List.getElem?_eq_some_iff.1 HX.out.1).1; omega
                have i0 : (0 : Int) ≤ (i : Int) := by omega
                have n1 : ((x.s : Int) != (x.s : Int)) = false := bne_self_eq_false _
                clear e22
                have HS0 : (w7.cell? ⟨q, 7, none⟩ = some (.slice (some ⟨g, 0, none⟩) ls.length c9)) ∧ (w7.cell? ⟨g, i * 5, none⟩ = some (.int .i64 (x.s : Int))) ∧ (w7.cell? ⟨gb2, nb, none⟩ = some (.int .i64 (x.s : Int))) := ⟨y7, z0, q0⟩
                go_upto_region 22 with fail
                refine wp_region_held_drew (S := (fun W => (W.cell? ⟨q, 7, none⟩ = some (.slice (some ⟨g, 0, none⟩) ls.length c9)) ∧ (W.cell? ⟨g, i * 5, none⟩ = some (.int .i64 (x.s : Int))) ∧ (W.cell? ⟨gb2, nb, none⟩ = some (.int .i64 (x.s : Int))))) (by kernel_rfl) ?_ (fun hHeld => ?_)
                · exact HS0
                refine tkN (i := 0) (v := ?_) rfl ?_ ?_
                rotate_left
                · (intro w hSw; (try dsimp only at hSw); go_simp; try with_reducible rfl)
                try simp only [Act.put, sq1, sq2, sq3, sq4, sq5]
                refine tkN (i := 1) (v := ?_) rfl ?_ ?_
                rotate_left
                · (intro w hSw; (try dsimp only at hSw); go_simp; try with_reducible rfl)
                try simp only [Act.put, sq1, sq2, sq3, sq4, sq5, sq6]
                refine wpAnyH_ready (rs := [2]) (by kernel_rfl) (by simp) ?_
                refine AllReadyH.cons rfl (fun K hK => ?_) ?_
                rotate_left
                · exact AllReadyH.nil
                go_simp
                refine hK.out _ _ ?_ (fun hHeld => ?_)
                · (try dsimp only); (with_reducible assumption)
                clear hK K
                try simp only [Act.put, sq1, sq2, sq3, sq4, sq5, sq6]
                refine tkN (i := 3) (v := ?_) rfl ?_ ?_
                rotate_left
                · (intro w hSw; (try dsimp only at hSw); go_simp; try with_reducible rfl)
                try simp only [Act.put, sq1, sq2, sq3, sq4, sq5, sq6]
                refine tkN (i := 4) (v := ?_) rfl ?_ ?_
                rotate_left
                · (intro w hSw; (try dsimp only at hSw); go_simp; try with_reducible rfl)
                try simp only [Act.put, sq1, sq2, sq3, sq4, sq5, sq6]
                refine tkN (i := 5) (v := ?_) rfl ?_ ?_
                rotate_left
                · (intro w hSw; (try dsimp only at hSw); go_simp; try with_reducible rfl)
                try simp only [Act.put, sq1, sq2, sq3, sq4, sq5, sq6]
                refine tkN (i := 6) (v := ?_) rfl ?_ ?_
                rotate_left
                · (intro w hSw; (try dsimp only at hSw); go_simp; try with_reducible rfl)
                try simp only [Act.put, sq1, sq2, sq3, sq4, sq5, sq6]
                refine tkN (i := 7) (v := ?_) rfl ?_ ?_
                rotate_left
                · (intro w hSw; (try dsimp only at hSw); go_simp; try with_reducible rfl)
                try simp only [Act.put, sq1, sq2, sq3, sq4, sq5, sq6]
                refine tkN (i := 8) (v := ?_) rfl ?_ ?_
                rotate_left
                · (intro w hSw; (try dsimp only at hSw); go_simp; try with_reducible rfl)
                try simp only [Act.put, sq1, sq2, sq3, sq4, sq5, sq6]
                refine tkN (i := 9) (v := ?_) rfl ?_ ?_
                rotate_left
                · (intro w hSw; (try dsimp only at hSw); go_simp; try with_reducible rfl)
                try simp only [Act.put, sq1, sq2, sq3, sq4, sq5, sq6]
                refine tkN (i := 10) (v := ?_) rfl ?_ ?_
                rotate_left
                · (intro w hSw; (try dsimp only at hSw); go_simp; try with_reducible rfl)
                try simp only [Act.put, sq1, sq2, sq3, sq4, sq5, sq6]
                refine tkN (i := 11) (v := ?_) rfl ?_ ?_
                rotate_left
                · (intro w hSw; (try dsimp only at hSw); go_simp; try with_reducible rfl)
                try simp only [Act.put, sq1, sq2, sq3, sq4, sq5, sq6]
                refine tkN (i := 12) (v := ?_) rfl ?_ ?_
                rotate_left
                · (intro w hSw; (try dsimp only at hSw); go_simp; try with_reducible rfl)
                try simp only [Act.put, sq1, sq2, sq3, sq4, sq5, sq6]
                refine tkN (i := 13) (v := ?_) rfl ?_ ?_
                rotate_left
                · (intro w hSw; (try dsimp only at hSw); go_simp; try with_reducible rfl)
                try simp only [Act.put, sq1, sq2, sq3, sq4, sq5, sq6]
                refine tkN (i := 14) (v := ?_) rfl ?_ ?_
                rotate_left
                · (intro w hSw; (try dsimp only at hSw); go_simp; try with_reducible rfl)
                try simp only [Act.put, sq1, sq2, sq3, sq4, sq5, sq6]
                refine tkN (i := 15) (v := ?_) rfl ?_ ?_
                rotate_left
                · (intro w hSw; (try dsimp only at hSw); go_simp; try with_reducible rfl)
                try simp only [Act.put, sq1, sq2, sq3, sq4, sq5, sq6]
                refine tkN (i := 16) (v := ?_) rfl ?_ ?_
                rotate_left
                · (intro w hSw; (try dsimp only at hSw); go_simp; try with_reducible rfl)
                try simp only [Act.put, sq1, sq2, sq3, sq4, sq5, sq6]
                refine tkN (i := 17) (v := ?_) rfl ?_ ?_
                rotate_left
                · (intro w hSw; (try dsimp only at hSw); go_simp; try with_reducible rfl)
                try simp only [Act.put, sq1, sq2, sq3, sq4, sq5, sq6]
                refine tkN (i := 18) (v := ?_) rfl ?_ ?_
                rotate_left
                · (intro w hSw; (try dsimp only at hSw); go_simp; try with_reducible rfl)
                try simp only [Act.put, sq1, sq2, sq3, sq4, sq5, sq6]
                refine wpAnyH_done (by kernel_rfl) ?_ _
                clear HS0 y0 y1 y2 y3 y4 y5 y6 y7 qlt z0 z1 z2 z3 z4 q0 gl2 glt
                have HB9 := Lib.hid (HB7.out.drew)
                clear H8 HB7
                go_wp2_with fail
                exact ⟨⟨HB9.out, v + 1, by have := HMM.out; omega, by omega, by simp, by rw [HL9.out, List.length_append, HNB.out]; rfl⟩, by simp [intOf]; omega⟩
              have hn9 : ∀ x ∈ ls, ¬ (x.u = min u v ∧ x.v = max u v) := fun x h1 h2 => hx ⟨x, h1, h2⟩
              have HL9 : Hid (allTo ls N u ++ rowTo ls u (v + 1) = allTo ls N u ++ rowTo ls u v) := Lib.hid (by
                show allTo ls N u ++ (rowTo ls u v ++ (if u < v then oneS ls u v else [])) = _
                rw [if_pos HMM.out.2.2.1, oneS_none (fun x h1 h2 => hn9 x h1 ⟨h2.1.trans HMM.out.1.symm, h2.2.trans HMM.out.2.1.symm⟩), List.append_nil])
              refine (between_no H7.out.pw.pq H7.out.pw.ow (by have := HN.out; have := HOL.out; omega) hn9).mono ?_; rintro e w7 ⟨rfl, B7⟩
              have HB7 := Lib.hid (HB.out.trans (B7.mono HB.out.size))
              clear H7 HB B7 hx hn9
              go_wp2_with fail
              exact ⟨⟨HB7.out, v + 1, by have := HMM.out; omega, by omega, by simp, by rw [HL9.out, HNB.out]⟩, by simp [intOf]; omega⟩
            · have ek : v = N := by omega
              subst ek
              have kI : ¬ (v : Int) < (v : Int) := by omega
              clear hv hvn
              go_wp2_with fail
              exact ⟨⟨HB.out, u + 1, by omega, by simp, by rw [← HNB.out]; rfl⟩, by simp [intOf]; omega⟩
        · have ek : u = N := by omega
          subst ek
          have kI : ¬ (u : Int) < (u : Int) := by omega
          have e7 : na = gn := by rw [← HNA.out, ← HGN.out]
          subst e7
          have e8 : ((na : Int) == (na : Int)) = true := beq_self_eq_true _
          have HB9 := Lib.hid (HBW6.out.trans (HB.out.mono HBW6.out.size))
          clear hu hun HNA HGN
          go_wp2_with fail
          refine (awake_any11 _).mono ?_; rintro e w9 ⟨rfl, hb9⟩
          have HBE := Lib.hid (HB9.out.trans (hb9.mono HB9.out.size))
          go_wp2_with fail
          go_ret
          exact ⟨rfl, HBE.out⟩
end
end Go.Proofs.Ytahabfjngeicmaa
