/- The law's begun: its walk. Printed by wip/tools/tova.py. -/
import Derived.Test.YtahabfjngeicmaaZTouZ
import Derived.Deep.DeepCutAuto
import Derived.Deep.AppendLies
import Derived.Test.YtahabfjngeicmaaZTovR
namespace Go.Proofs.Ytahabfjngeicmaa
open Go.RowKit

set_option maxRecDepth 100000

section
variable {w : World} {V S T : Int} {da : Option Addr} {dl dc : Nat} {vo : Value} {f : Nat → Nat}
theorem cell_lt {W : World} {b o : Nat} {v : Value} (h : W.cell? ⟨b, o, none⟩ = some v) : b < W.heap.size := by
  rcases Nat.lt_or_ge b W.heap.size with h1 | h1
  · exact h1
  · exfalso
    unfold World.cell? at h
    rw [Array.getElem?_eq_none h1] at h
    cases h
theorem CBg.cast {w0 W : World} {l3 q p gb m i : Nat} {g : Mg9} {qa qb va vb : Value} {xa xb xa' xb' : List Value} {vr : Nat → Value} {gB : Nat → Nat} (h : CBg w0 W l3 q V S T p gb m g qa qb va vb xa xb i vr gB) (e1 : xa = xa') (e2 : xb = xb') : CBg w0 W l3 q V S T p gb m g qa qb va vb xa' xb' i vr gB := by subst e1 e2; exact h
theorem kept_cell {W W' : World} {r : Option Nat} {a : Addr} {v : Value} (hg : W.grownBy W' r) (hn : r ≠ some a.block) (h : W.cell? a = some v) : W'.cell? a = some v := by
  obtain ⟨b, o, sp⟩ := a
  have hl : b < W.heap.size := by
    rcases Nat.lt_or_ge b W.heap.size with h1 | h1
    · exact h1
    · exfalso
      unfold World.cell? at h
      rw [Array.getElem?_eq_none h1] at h
      cases h
  rw [hg.cell_far ⟨b, o, sp⟩ hl (fun e => hn e.symm)]; exact h
set_option maxHeartbeats 16000000 in
theorem begun_any10 (hR : Rt V S T) (hD : IsNum w da dl f) (hdl : dl ≤ 60) (v8 : V ≤ 8) (s8 : S ≤ 8) :
    Calls Try.prog 10 #[.agg #[.int .i64 V, .int .i64 S, .int .i64 T, .slice da dl dc, vo]] w (BgD10 V S T w) := by
  have HR := Lib.hid hR
  have HD := Lib.hid hD
  have hn560 := nN_le hR
  have HDL := Lib.hid hdl
  have HV8 := Lib.hid (And.intro v8 s8)
  have hS0 := hR.s1
  have hV0 := hR.v1
  clear hR hD
  go_enter Try.func10, Try.ntmps10
  go_wp2_with fail
  have HZ : Hid (Blk ((w.alloc (.cells #[.int .i64 V, .int .i64 S, .int .i64 T, .slice da dl dc, vo] 27)).alloc (.cells #[.int .i64 V, .int .i64 S, .int .i64 T] 23)) w.heap.size 27 #[.int .i64 V, .int .i64 S, .int .i64 T, .slice da dl dc, vo]) := Lib.hid ((Blk.new _ _ _).alloc _)
  have HL : Hid (Blk ((w.alloc (.cells #[.int .i64 V, .int .i64 S, .int .i64 T, .slice da dl dc, vo] 27)).alloc (.cells #[.int .i64 V, .int .i64 S, .int .i64 T] 23)) (w.heap.size + 1) 23 #[.int .i64 V, .int .i64 S, .int .i64 T]) := Lib.hid (new_next w _ _ _ _)
  have HB : Hid (Below w.heap.size w ((w.alloc (.cells #[.int .i64 V, .int .i64 S, .int .i64 T, .slice da dl dc, vo] 27)).alloc (.cells #[.int .i64 V, .int .i64 S, .int .i64 T] 23))) := Lib.hid (((Below.refl _ _).alloc (Nat.le_refl _) _).alloc (by simp) _)
  generalize w.heap.size + 1 = l3 at HL ⊢
  generalize hzb : w.heap.size = zb at HZ ⊢
  generalize (w.alloc (.cells #[.int .i64 V, .int .i64 S, .int .i64 T, .slice da dl dc, vo] 27)).alloc (.cells #[.int .i64 V, .int .i64 S, .int .i64 T] 23) = W1 at HZ HL HB ⊢
  clear hzb
  refine (cells_yes V S T HR.out _).mono ?_; rintro e w2 ⟨rfl, hb2⟩
  have HZ2 := Lib.hid (HZ.out.below hb2 HZ.out.lt)
  have HL2 := Lib.hid (HL.out.below hb2 HL.out.lt)
  have HB2 := Lib.hid (HB.out.trans (hb2.mono HB.out.size))
  clear HZ HL HB hb2
  go_wp2_with fail
  refine (lnew HR.out _).mono ?_; rintro e w3 ⟨rfl, hA, hb3⟩
  have H3 : Hid (B0N w w3 zb l3 V S T (w2.heap.size + 1) w2.heap.size 0 (fun _ _ => 0) #[.int .i64 V, .int .i64 S, .int .i64 T, .slice da dl dc, vo]) := Lib.hid ⟨HZ2.out.below hb3 HZ2.out.lt, HL2.out.below hb3 HL2.out.lt, TM.new HR.out hA, HB2.out.trans (hb3.mono HB2.out.size), Nat.le_trans HB2.out.size (Nat.le_succ _), HB2.out.size⟩
  generalize w2.heap.size + 1 = p at H3 ⊢
  generalize w2.heap.size = gb at H3
  clear hA hb3 HZ2 HL2 HB2
  have b0 : ((0 : Int) != 0) = false := rfl
  have l0 : w3.cell? ⟨l3, 0, none⟩ = some (.int .i64 V) := H3.out.l.cell 0
  have l1 : w3.cell? ⟨l3, 1, none⟩ = some (.int .i64 S) := H3.out.l.cell 1
  have l2 : w3.cell? ⟨l3, 2, none⟩ = some (.int .i64 T) := H3.out.l.cell 2
  have llt := H3.out.l.lt
  go_upto_region 5 with fail
  go_cut [6] from 28 to 33 (fun s wx => ∃ tb, s = .pointer (some ⟨tb, 0, none⟩) ∧ BN w wx zb l3 tb V S T p gb 0 (fun _ _ => 0) #[.int .i64 V, .int .i64 S, .int .i64 T, .slice da dl dc, vo])
  case first =>
    have Hd := Lib.hid H3.out.drew
    have hrule := l3_rule l3 V S T
    clear H3
    refine wp_region_held_drew (S := (fun W => Blk W l3 23 #[.int .i64 V, .int .i64 S, .int .i64 T])) (by kernel_rfl) ?_ (fun hHeld => ?_)
    · exact Hd.out.l
    refine wpAnyH_take (i := 0) (v := ?_) rfl (by kernel_rfl) (by kernel_rfl) (by kernel_rfl) (fun _ _ _ h => h) (Or.inl ⟨by rfl, ?_⟩) (by assumption) ?_
    rotate_left
    · (intro w hSw; (try dsimp only at hSw); go_simp; try with_reducible rfl)
    try simp only [Act.put, List.setIfInBounds_toArray, List.set_cons_zero, List.set_cons_succ, List.getElem_toArray, List.getElem_cons_zero]
    refine wpAnyH_take (i := 1) (v := ?_) rfl (by kernel_rfl) (by kernel_rfl) (by kernel_rfl) (fun _ _ _ h => h) (Or.inl ⟨by rfl, ?_⟩) (by assumption) ?_
    rotate_left
    · (intro w hSw; (try dsimp only at hSw); go_simp; try with_reducible rfl)
    try simp only [Act.put, List.setIfInBounds_toArray, List.set_cons_zero, List.set_cons_succ, List.getElem_toArray, List.getElem_cons_zero, List.getElem_cons_succ]
    refine wpAnyH_take (i := 4) (v := ?_) rfl (by kernel_rfl) (by kernel_rfl) (by kernel_rfl) (fun _ _ _ h => h) (Or.inl ⟨by rfl, ?_⟩) (by assumption) ?_
    rotate_left
    · (intro w hSw; (try dsimp only at hSw); go_simp; try with_reducible rfl)
    try simp only [Act.put, List.setIfInBounds_toArray, List.set_cons_zero, List.set_cons_succ, List.getElem_toArray, List.getElem_cons_zero, List.getElem_cons_succ]
    refine wpAnyH_ready (rs := [2, 6]) (by kernel_rfl) (by simp) ?_
    refine AllReadyH.cons rfl (fun K hK => ?_) ?_
    rotate_left
    · refine AllReadyH.cons rfl (fun K hK => ?_) ?_
      rotate_left
      · exact AllReadyH.nil
      go_simp
      refine hK.out _ _ ?_ (fun hHeld => ?_)
      · (try dsimp only); exact (Hd.out.alloc _).l
      clear hK K
      try simp only [Act.put, List.setIfInBounds_toArray, List.set_cons_zero, List.set_cons_succ, List.getElem_toArray, List.getElem_cons_zero, List.getElem_cons_succ]
      refine wpAnyH_ready (rs := [2]) (by kernel_rfl) (by simp) ?_
      refine AllReadyH.cons rfl (fun K hK => ?_) ?_
      rotate_left
      · exact AllReadyH.nil
      go_simp
      (refine (pm_of p _).mono ?_; rintro e w4 ⟨rfl, hb1⟩; have H4 := Lib.hid ((Hd.out.alloc (.cells #[.int .i64 0, .int .i64 0, .int .i64 0, .nilIface, .int .i64 0, .int .i64 0] 44)).below hb1); have HN : Hid (Blk w4 w3.heap.size 44 #[.int .i64 0, .int .i64 0, .int .i64 0, .nilIface, .int .i64 0, .int .i64 0]) := Lib.hid ((Blk.new w3.drew _ _).below hb1 (by simp)); have nlt := HN.out.lt; have n0 := HN.out.frozen 0; have m0 : w4.cell? ⟨w3.heap.size, 0, none⟩ = some (.int .i64 0) := HN.out.cell 0; have n1 := HN.out.frozen 1; have m1 : w4.cell? ⟨w3.heap.size, 1, none⟩ = some (.int .i64 0) := HN.out.cell 1; have n2 := HN.out.frozen 2; have m2 : w4.cell? ⟨w3.heap.size, 2, none⟩ = some (.int .i64 0) := HN.out.cell 2; have n3 := HN.out.frozen 3; have m3 : w4.cell? ⟨w3.heap.size, 3, none⟩ = some (.nilIface) := HN.out.cell 3; have n4 := HN.out.frozen 4; have m4 : w4.cell? ⟨w3.heap.size, 4, none⟩ = some (.int .i64 0) := HN.out.cell 4; have n5 := HN.out.frozen 5; have m5 : w4.cell? ⟨w3.heap.size, 5, none⟩ = some (.int .i64 0) := HN.out.cell 5; have hbs : w.heap.size ≤ w3.heap.size := Hd.out.be.size)
      go_wp2_with fail
      refine hK.out _ _ ?_ (fun hHeld => ?_)
      · (try dsimp only); exact H4.out.l
      clear hK K
      try simp only [Act.put, List.setIfInBounds_toArray, List.set_cons_zero, List.set_cons_succ, List.getElem_toArray, List.getElem_cons_zero, List.getElem_cons_succ]
      refine wpAnyH_take (i := 3) (v := ?_) rfl (by kernel_rfl) (by kernel_rfl) (by kernel_rfl) (fun _ _ _ h => h) (Or.inl ⟨by rfl, ?_⟩) (by assumption) ?_
      rotate_left
      · (intro w hSw; (try dsimp only at hSw); go_simp; try with_reducible rfl)
      try simp only [Act.put, List.setIfInBounds_toArray, List.set_cons_zero, List.set_cons_succ, List.getElem_toArray, List.getElem_cons_zero, List.getElem_cons_succ]
      refine wpAnyH_take (i := 5) (v := ?_) rfl (by kernel_rfl) (by kernel_rfl) (by kernel_rfl) (fun _ _ _ h => h) (Or.inl ⟨by rfl, ?_⟩) (by assumption) ?_
      rotate_left
      · (intro w hSw; (try dsimp only at hSw); go_simp; try with_reducible rfl)
      try simp only [Act.put, List.setIfInBounds_toArray, List.set_cons_zero, List.set_cons_succ, List.getElem_toArray, List.getElem_cons_zero, List.getElem_cons_succ]
      refine wpAnyH_ready (rs := [7]) (by kernel_rfl) (by simp) ?_
      refine AllReadyH.cons rfl (fun K hK => ?_) ?_
      rotate_left
      · exact AllReadyH.nil
      go_simp
      have HBA := Lib.hid (H4.out.store HN.out hbs)
      refine hK.out _ _ ?_ (fun hHeld => ?_)
      · (try dsimp only); exact HBA.out.b.l
      clear hK K
      try simp only [Act.put, List.setIfInBounds_toArray, List.set_cons_zero, List.set_cons_succ, List.getElem_toArray, List.getElem_cons_zero, List.getElem_cons_succ]
      refine wpAnyH_done (by kernel_rfl) ?_ _
      go_wp2_with fail
      go_meet
      exact ⟨_, rfl, HBA.out⟩
    go_simp
    (refine (pm_of p _).mono ?_; rintro e w4 ⟨rfl, hb1⟩; have H4 := Lib.hid (Hd.out.below hb1))
    go_wp2_with fail
    refine hK.out _ _ ?_ (fun hHeld => ?_)
    · (try dsimp only); exact H4.out.l
    clear hK K
    try simp only [Act.put, List.setIfInBounds_toArray, List.set_cons_zero, List.set_cons_succ, List.getElem_toArray, List.getElem_cons_zero, List.getElem_cons_succ]
    refine wpAnyH_take (i := 3) (v := ?_) rfl (by kernel_rfl) (by kernel_rfl) (by kernel_rfl) (fun _ _ _ h => h) (Or.inl ⟨by rfl, ?_⟩) (by assumption) ?_
    rotate_left
    · (intro w hSw; (try dsimp only at hSw); go_simp; try with_reducible rfl)
    try simp only [Act.put, List.setIfInBounds_toArray, List.set_cons_zero, List.set_cons_succ, List.getElem_toArray, List.getElem_cons_zero, List.getElem_cons_succ]
    refine wpAnyH_take (i := 5) (v := ?_) rfl (by kernel_rfl) (by kernel_rfl) (by kernel_rfl) (fun _ _ _ h => h) (Or.inl ⟨by rfl, ?_⟩) (by assumption) ?_
    rotate_left
    · (intro w hSw; (try dsimp only at hSw); go_simp; try with_reducible rfl)
    try simp only [Act.put, List.setIfInBounds_toArray, List.set_cons_zero, List.set_cons_succ, List.getElem_toArray, List.getElem_cons_zero, List.getElem_cons_succ]
    refine wpAnyH_ready (rs := [6]) (by kernel_rfl) (by simp) ?_
    refine AllReadyH.cons rfl (fun K hK => ?_) ?_
    rotate_left
    · exact AllReadyH.nil
    go_simp
    refine hK.out _ _ ?_ (fun hHeld => ?_)
    · (try dsimp only); exact (H4.out.alloc _).l
    clear hK K
    try simp only [Act.put, List.setIfInBounds_toArray, List.set_cons_zero, List.set_cons_succ, List.getElem_toArray, List.getElem_cons_zero, List.getElem_cons_succ]
    refine wpAnyH_ready (rs := [7]) (by kernel_rfl) (by simp) ?_
    refine AllReadyH.cons rfl (fun K hK => ?_) ?_
    rotate_left
    · exact AllReadyH.nil
    go_simp
    have HBA := Lib.hid (H4.out.made)
    refine hK.out _ _ ?_ (fun hHeld => ?_)
    · (try dsimp only); exact HBA.out.b.l
    clear hK K
    try simp only [Act.put, List.setIfInBounds_toArray, List.set_cons_zero, List.set_cons_succ, List.getElem_toArray, List.getElem_cons_zero, List.getElem_cons_succ]
    refine wpAnyH_done (by kernel_rfl) ?_ _
    go_wp2_with fail
    go_meet
    exact ⟨_, rfl, HBA.out⟩
  case rest =>
    obtain ⟨tb, rfl, hN⟩ := hcut
    have HRel : Hid (NRel w zb l3 tb V S T p gb #[.int .i64 V, .int .i64 S, .int .i64 T, .slice da dl dc, vo] (.int .i64 1) wc) := Lib.hid ⟨1, _, Nat.le_refl _, by omega, rfl, hN, fun y h1 h2 => absurd h1 (by omega)⟩
    clear hN H3 l0 l1 l2 llt b0
    obtain ⟨n9, hn9⟩ : ∃ n, nN V S = n := ⟨_, rfl⟩
    have HN9 := Lib.hid hn9
    rw [hn9] at hn560
    clear hn9
    have nI : (n9 : Int) ≤ 560 := by omega
    go_wp2_with fail
    go_loopw [7] (fun i wr => NRel w zb l3 tb V S T p gb #[.int .i64 V, .int .i64 S, .int .i64 T, .slice da dl dc, vo] i wr) (fun i _ => n9 + 1 - (intOf i).toNat)
    case atStart => exact HRel.out
    case round =>
      clear HRel
      obtain ⟨x, g, hx1, hx2, rfl, hS, hst⟩ := hrel
      have HS := Lib.hid hS
      have HST := Lib.hid hst
      rw [HN9.out] at hx2
      clear hS hst
      have z3 := HS.out.b.z.cell 3
      have l0 : wr.cell? ⟨l3, 0, none⟩ = some (.int .i64 V) := HS.out.b.l.cell 0
      have l1 : wr.cell? ⟨l3, 1, none⟩ = some (.int .i64 S) := HS.out.b.l.cell 1
      have l2 : wr.cell? ⟨l3, 2, none⟩ = some (.int .i64 T) := HS.out.b.l.cell 2
      have t0 : wr.cell? ⟨tb, 0, none⟩ = some (.int .i64 V) := HS.out.t.cell 0
      have t1 : wr.cell? ⟨tb, 1, none⟩ = some (.int .i64 S) := HS.out.t.cell 1
      have t2 : wr.cell? ⟨tb, 2, none⟩ = some (.int .i64 T) := HS.out.t.cell 2
      have t3 : wr.cell? ⟨tb, 3, none⟩ = some (.iface 95 (pmV p)) := HS.out.t.cell 3
      have t4 : wr.cell? ⟨tb, 4, none⟩ = some (.int .i64 1) := HS.out.t.cell 4
      have t5 : wr.cell? ⟨tb, 5, none⟩ = some (.int .i64 0) := HS.out.t.cell 5
      have zlt := HS.out.b.z.lt
      have llt := HS.out.b.l.lt
      have tlt := HS.out.t.lt
      go_wp2_with fail
      refine (lnodes HR.out _).mono ?_; rintro e w6 ⟨rfl, hb6⟩
      have H6 := Lib.hid (HS.out.below hb6)
      rw [HN9.out]
      clear HS hb6 z3 l0 l1 l2 t0 t1 t2 t3 t4 t5 zlt llt tlt
      have z3 := H6.out.b.z.cell 3
      have l0 : w6.cell? ⟨l3, 0, none⟩ = some (.int .i64 V) := H6.out.b.l.cell 0
      have l1 : w6.cell? ⟨l3, 1, none⟩ = some (.int .i64 S) := H6.out.b.l.cell 1
      have l2 : w6.cell? ⟨l3, 2, none⟩ = some (.int .i64 T) := H6.out.b.l.cell 2
      have t0 : w6.cell? ⟨tb, 0, none⟩ = some (.int .i64 V) := H6.out.t.cell 0
      have t1 : w6.cell? ⟨tb, 1, none⟩ = some (.int .i64 S) := H6.out.t.cell 1
      have t2 : w6.cell? ⟨tb, 2, none⟩ = some (.int .i64 T) := H6.out.t.cell 2
      have t3 : w6.cell? ⟨tb, 3, none⟩ = some (.iface 95 (pmV p)) := H6.out.t.cell 3
      have t4 : w6.cell? ⟨tb, 4, none⟩ = some (.int .i64 1) := H6.out.t.cell 4
      have t5 : w6.cell? ⟨tb, 5, none⟩ = some (.int .i64 0) := H6.out.t.cell 5
      have zlt := H6.out.b.z.lt
      have llt := H6.out.b.l.lt
      have tlt := H6.out.t.lt
      by_cases hxn : x ≤ n9
      · have HXN : Hid (x ≤ nN V S) := Lib.hid (by have := HN9.out; omega)
        have hxI : (x : Int) ≤ (n9 : Int) := by omega
        have HZ0 := Lib.hid H6.out.b.tm.z
        by_cases hk0 : dl = 0
        · have hdI : ¬ (0 : Int) < (dl : Int) := by omega
          clear hk0
          go_wp2_with fail
          refine (talone H6.out.b.tm hx1 HXN.out (by omega)).mono ?_; rintro e w9 ⟨rfl, A9, O9⟩
          have H9 := Lib.hid (H6.out.only A9 O9)
          clear A9 O9 z3 l0 l1 l2 t0 t1 t2 t3 t4 t5 zlt llt tlt
          go_wp2_with fail
          go_roundw
          case rel =>
            refine ⟨x + 1, aloneG (vxN V) g x, by omega, by have := HN9.out; omega, by simp, H9.out.more (by omega), fun y h1 h2 => ?_⟩
            by_cases e : y = x
            · subst e
              exact alone_stands (by omega) fun k => HZ0.out k
            · exact (HST.out y h1 (by omega)).same (by simp [sgl, Tp.row]) fun z hz k => by
                have hz : z = y := by simpa [sgl, Tp.row] using hz
                rw [hz, aloneG_other _ e]
          case measure => simp [intOf]; omega
        · obtain ⟨db, off, rfl, hcell⟩ := HD.out (by omega)
          obtain ⟨j, hj⟩ : ∃ j, x % dl = j := ⟨_, rfl⟩
          have hjl : j < dl := by rw [← hj]; exact Nat.mod_lt _ (by omega)
          have D0 := (hcell j hjl).1
          obtain ⟨P9, hP9⟩ : ∃ P, f j = P := ⟨_, rfl⟩
          have HP9 : Hid (P9 ≤ 18446744073709551615) := Lib.hid (by rw [← hP9]; exact (hcell j hjl).2)
          rw [hP9] at D0
          have HD0 := Lib.hid D0
          have dcell := cell_later H6.out.b.be D0
          clear D0
          have hdI : (0 : Int) < (dl : Int) := by omega
          have hd0 : ¬ (dl : Int) = 0 := by omega
          have hd1 : ¬ dl = 0 := by omega
          have htm : (x : Int).tmod (dl : Int) = (j : Int) := by rw [← hj]; exact Int.ofNat_tmod x dl
          have hjw : IntKind.i64.wrap (j : Int) = (j : Int) := IntWalk.i64_in _ (by have := HDL.out; omega)
          have hj1 : (j : Int) < (dl : Int) := by omega
          have hj0 : (0 : Int) ≤ (j : Int) := by omega
          clear hP9 hcell
          go_upto_region 10 with fail
          have Hd := Lib.hid H6.out.drew
          have dcd : w6.drew.cell? ⟨db, off + j, none⟩ = some (.int .u64 (P9 : Int)) := dcell
          have hrule : ∀ W : World, (Blk W l3 23 #[.int .i64 V, .int .i64 S, .int .i64 T] ∧ Blk W zb 27 #[.int .i64 V, .int .i64 S, .int .i64 T, .slice (some ⟨db, off, none⟩) dl dc, vo] ∧ W.cell? ⟨db, off + j, none⟩ = some (.int .u64 (P9 : Int))) → W.cell? ⟨l3, 0, none⟩ = some (.int .i64 V) ∧ W.cell? ⟨l3, 1, none⟩ = some (.int .i64 S) ∧ W.cell? ⟨l3, 2, none⟩ = some (.int .i64 T) ∧ W.cell? ⟨zb, 3, none⟩ = some (.slice (some ⟨db, off, none⟩) dl dc) ∧ W.cell? ⟨db, off + j, none⟩ = some (.int .u64 (P9 : Int)) := fun W h => ⟨h.1.cell 0, h.1.cell 1, h.1.cell 2, h.2.1.cell 3, h.2.2⟩
          clear H6 z3 l0 l1 l2 t0 t1 t2 t3 t4 t5 zlt llt tlt dcell
          have z3 := Hd.out.b.z.cell 3
          have l0 : w6.drew.cell? ⟨l3, 0, none⟩ = some (.int .i64 V) := Hd.out.b.l.cell 0
          have l1 : w6.drew.cell? ⟨l3, 1, none⟩ = some (.int .i64 S) := Hd.out.b.l.cell 1
          have l2 : w6.drew.cell? ⟨l3, 2, none⟩ = some (.int .i64 T) := Hd.out.b.l.cell 2
          have t0 : w6.drew.cell? ⟨tb, 0, none⟩ = some (.int .i64 V) := Hd.out.t.cell 0
          have t1 : w6.drew.cell? ⟨tb, 1, none⟩ = some (.int .i64 S) := Hd.out.t.cell 1
          have t2 : w6.drew.cell? ⟨tb, 2, none⟩ = some (.int .i64 T) := Hd.out.t.cell 2
          have t3 : w6.drew.cell? ⟨tb, 3, none⟩ = some (.iface 95 (pmV p)) := Hd.out.t.cell 3
          have t4 : w6.drew.cell? ⟨tb, 4, none⟩ = some (.int .i64 1) := Hd.out.t.cell 4
          have t5 : w6.drew.cell? ⟨tb, 5, none⟩ = some (.int .i64 0) := Hd.out.t.cell 5
          have zlt := Hd.out.b.z.lt
          have llt := Hd.out.b.l.lt
          have tlt := Hd.out.t.lt
          have dlt : db < w6.drew.heap.size := (cell_lt dcd)
          go_region_held3 (fun W => Blk W l3 23 #[.int .i64 V, .int .i64 S, .int .i64 T] ∧ Blk W zb 27 #[.int .i64 V, .int .i64 S, .int .i64 T, .slice (some ⟨db, off, none⟩) dl dc, vo] ∧ W.cell? ⟨db, off + j, none⟩ = some (.int .u64 (P9 : Int))) (first | (with_reducible assumption) | (with_reducible exact HK8.out) | (with_reducible exact HK7.out) | (with_reducible exact ⟨Hd.out.b.l, Hd.out.b.z, dcd⟩))
            (first
              | (go_at_call 40; ((with_reducible refine (lfield5 HR.out hx1 HXN.out _).mono ?_); rintro e w7 ⟨rfl, hb7⟩; have H7 := Lib.hid (Hd.out.below hb7); have HK7 := Lib.hid (And.intro H7.out.b.l (And.intro H7.out.b.z (cell_later hb7 dcd)))))
              | (go_at_call 39; ((with_reducible refine (lstore5 H7.out.b.tm hx1 HXN.out HP9.out (by omega)).mono ?_); rintro e w8 ⟨rfl, A8, O8⟩; have H8 := Lib.hid (H7.out.only A8 O8); have HK8 := Lib.hid (And.intro H8.out.b.l (And.intro H8.out.b.z (cell_later H8.out.b.be HD0.out))))))
          clear hrule Hd H7 HK7 HK8 HD0 dcd dlt htm hjw hj1 hj0 z3 l0 l1 l2 t0 t1 t2 t3 t4 t5 zlt llt tlt
          have z3 := H8.out.b.z.cell 3
          have l0 : w8.cell? ⟨l3, 0, none⟩ = some (.int .i64 V) := H8.out.b.l.cell 0
          have l1 : w8.cell? ⟨l3, 1, none⟩ = some (.int .i64 S) := H8.out.b.l.cell 1
          have l2 : w8.cell? ⟨l3, 2, none⟩ = some (.int .i64 T) := H8.out.b.l.cell 2
          have t0 : w8.cell? ⟨tb, 0, none⟩ = some (.int .i64 V) := H8.out.t.cell 0
          have t1 : w8.cell? ⟨tb, 1, none⟩ = some (.int .i64 S) := H8.out.t.cell 1
          have t2 : w8.cell? ⟨tb, 2, none⟩ = some (.int .i64 T) := H8.out.t.cell 2
          have t3 : w8.cell? ⟨tb, 3, none⟩ = some (.iface 95 (pmV p)) := H8.out.t.cell 3
          have t4 : w8.cell? ⟨tb, 4, none⟩ = some (.int .i64 1) := H8.out.t.cell 4
          have t5 : w8.cell? ⟨tb, 5, none⟩ = some (.int .i64 0) := H8.out.t.cell 5
          have zlt := H8.out.b.z.lt
          have llt := H8.out.b.l.lt
          have tlt := H8.out.t.lt
          go_wp2_with fail
          refine (talone H8.out.b.tm hx1 HXN.out (by omega)).mono ?_; rintro e w9 ⟨rfl, A9, O9⟩
          have H9 := Lib.hid (H8.out.only A9 O9)
          clear A9 O9 z3 l0 l1 l2 t0 t1 t2 t3 t4 t5 zlt llt tlt
          go_wp2_with fail
          go_roundw
          case rel =>
            refine ⟨x + 1, aloneG (vxN V) (up2 g x 5 P9) x, by omega, by have := HN9.out; omega, by simp, H9.out.more (by omega), fun y h1 h2 => ?_⟩
            by_cases e : y = x
            · subst e
              exact alone_stands (by omega) fun k => by rw [up2_node _ _ _ _ (by omega)]; exact HZ0.out k
            · exact (HST.out y h1 (by omega)).same (by simp [sgl, Tp.row]) fun z hz k => by
                have hz : z = y := by simpa [sgl, Tp.row] using hz
                rw [hz, aloneG_other _ e, up2_node _ _ _ _ e]
          case measure => simp [intOf]; omega
      · have ex : x = n9 + 1 := by omega
        subst ex
        have hxI : ¬ ((n9 : Int) + 1) ≤ (n9 : Int) := by omega
        have hFI := sing_fi (V := V) (S := S) (g := g) fun y h1 h2 => HST.out y h1 (by have := HN9.out; omega)
        have HB := Lib.hid (CBg.new H6.out hFI)
        go_wp2_with fail
        generalize w6.heap.size = q at HB ⊢
        generalize w6.alloc (.cells #[.int .i64 V, .int .i64 S, .int .i64 T, .int .i64 V, .int .i64 S, .int .i64 T, .iface 95 (pmV p), .int .i64 1, .int .i64 0, .slice none 0 0, .slice none 0 0] 50) = W6 at HB ⊢
        refine (levels_yes V S T HR.out _).mono ?_; rintro e w7 ⟨rfl, hb7⟩
        have H7 := Lib.hid (HB.out.below hb7)
        obtain ⟨nl, hnl⟩ : ∃ n : Nat, lv V = (n : Int) := ⟨(lv V).toNat, by have := lv_bd V; omega⟩
        have HNL := Lib.hid hnl
        have hnl5 : nl ≤ 5 := by have := lv_bd V; omega
        obtain ⟨m9, hm9⟩ : ∃ m, 10 * (n9 + 1 - 1) = m := ⟨_, rfl⟩
        have HM9 := Lib.hid hm9
        rw [hm9] at H7
        rw [hnl]
        have HRel : Hid (LRel w l3 q V S T p gb m9 g (.int .i64 0) w7) := Lib.hid ⟨0, _, _, _, _, Nat.zero_le _, rfl, H7.out⟩
        clear H7 HB hb7 hFI hm9 hnl z3 l0 l1 l2 t0 t1 t2 t3 t4 t5 zlt llt tlt
        go_wp2_with fail
        go_loopw [68] (fun j wr => LRel w l3 q V S T p gb m9 g j wr) (fun j _ => nl - (intOf j).toNat)
        case atStart => exact HRel.out
        case round =>
          clear HRel
          obtain ⟨i, va, vb, vr, gB, hi, rfl, hC⟩ := hrel
          have HC := Lib.hid hC
          have hi' : i ≤ nl := by have := HNL.out; omega
          clear hC
          by_cases hin : i < nl
          · have hinI : (i : Int) < (nl : Int) := by omega
            have hiL : (i : Int) < lv V := by have := HNL.out; omega
            obtain ⟨w1, rfl⟩ : ∃ w1 : World, w1 = wr := ⟨_, rfl⟩
            have l0 : w1.cell? ⟨l3, 0, none⟩ = some (.int .i64 V) := HC.out.hl.cell 0
            have l1 : w1.cell? ⟨l3, 1, none⟩ = some (.int .i64 S) := HC.out.hl.cell 1
            have l2 : w1.cell? ⟨l3, 2, none⟩ = some (.int .i64 T) := HC.out.hl.cell 2
            have q9 : w1.cell? ⟨q, 9, none⟩ = some va := HC.out.hq.cell 9
            have q10 : w1.cell? ⟨q, 10, none⟩ = some vb := HC.out.hq.cell 10
            have llt := HC.out.hl.lt
            have qlt := HC.out.hq.lt
            go_wp2_with fail
            have HV0 : Hid (VRel w1 V i V.toNat (.slice none 0 0) (.int .i64 0) w1) := Lib.hid ⟨0, Nat.zero_le _, rfl, Below.refl _ _, RsI.nil _ _⟩
            go_loopw [10, 73] (fun v j wr2 => VRel w1 V i V.toNat v j wr2) (fun _ j _ => V.toNat - (intOf j).toNat)
            case atStart => exact HV0.out
            case round =>
              clear HV0 l0 l1 l2 q9 q10 llt qlt
              obtain ⟨k, hk, rfl, hbv, hrv⟩ := hrel
              obtain ⟨wv, rfl⟩ : ∃ w1 : World, w1 = wr := ⟨_, rfl⟩
              have HBV := Lib.hid hbv
              have HRV := Lib.hid hrv
              have H2 := Lib.hid (HC.out.below hbv)
              obtain ⟨av2, cv2, hv2⟩ := hrv.slice
              rw [rows0_len] at hv2
              subst hv2
              clear hbv hrv
              have l0 : wv.cell? ⟨l3, 0, none⟩ = some (.int .i64 V) := H2.out.hl.cell 0
              have l1 : wv.cell? ⟨l3, 1, none⟩ = some (.int .i64 S) := H2.out.hl.cell 1
              have l2 : wv.cell? ⟨l3, 2, none⟩ = some (.int .i64 T) := H2.out.hl.cell 2
              have q9 : wv.cell? ⟨q, 9, none⟩ = some va := H2.out.hq.cell 9
              have q10 : wv.cell? ⟨q, 10, none⟩ = some vb := H2.out.hq.cell 10
              have llt := H2.out.hl.lt
              have qlt := H2.out.hq.lt
              by_cases hkV : k < V.toNat
              · have hkI : (k : Int) < V := by omega
                go_wp2_with fail
                refine (vert_at HR.out hiL hkI _).mono ?_; rintro e w8 ⟨rfl, hb8⟩
                have HB8 := Lib.hid (HBV.out.trans (hb8.mono HBV.out.size))
                have HR8 := Lib.hid (HRV.out.below hb8)
                have hsz := Nat.le_trans HBV.out.size hb8.size
                clear l0 l1 l2 q9 q10 llt qlt hb8 H2 HBV HRV
                obtain ⟨X9, hX9⟩ : ∃ X, Xn V i k = X := ⟨_, rfl⟩
                have HX9 := Lib.hid hX9
                rw [hX9]
                clear hX9
                go_wp2_with (at_builtin; go_loud (refine wpList_append_rsi rfl _ _ rfl rfl ((HR8.out.alloc (.cells #[.int .i64 (X9 : Int)] 3)).alloc (.cells #[.slice (some ⟨w8.heap.size, 0, none⟩) 1 1] 53)) ((LI.one w8 X9).alloc _) ⟨w8.heap.size + 1, 0, none⟩ 1 rfl (cell_new2 _ _ _ _ _) (by rw [rows0_len]; have := HV8.out.1; omega) (Nat.le_trans hsz (by simp; omega)) ?_))
                intro v5 w5 hR5 hg5
                have HB5 := Lib.hid (((HB8.out.alloc hsz (.cells #[.int .i64 (X9 : Int)] 3)).alloc (Nat.le_trans hsz (by simp)) (.cells #[.slice (some ⟨w8.heap.size, 0, none⟩) 1 1] 53)).grown hg5 (Nat.le_trans hsz (by simp; omega)) (fun r hr => (HR8.out.lt r hr).1))
                have HR5 : Hid (RsI w5 w1.heap.size v5 (rows0 V i (k + 1))) := Lib.hid (by rw [rows0_succ, HX9.out]; exact hR5)
                clear hR5 hg5 HB8 HR8
                go_wp2_with fail
                go_roundw
                case rel => exact ⟨k + 1, hkV, by simp, HB5.out, HR5.out⟩
                case measure => simp [intOf]; omega
              · have hkI : ¬ (k : Int) < V := by omega
                have ek : k = V.toNat := by omega
                subst ek
                have hSn : ((S.toNat : Nat) : Int) = S := by omega
                have hS48 : S.toNat ≤ 48 := by have := HV8.out.2; omega
                have kmk : ∀ W : World, (Instr.makeSlice 38 (.int .i64 S) (.int .i64 S)).run Try.prog W = .ok (.slice (some ⟨W.heap.size, 0, none⟩) S.toNat S.toNat) (W.alloc (.cells (madeCells #[.int .i64 0, .int .i64 0] (S.toNat * 2)) 36)) := fun W => by
                  have := made_g S.toNat (by omega) W
                  rwa [hSn] at this
                have HS0 : Hid (SRel w1 V i (.slice av2 V.toNat cv2) wv.heap.size S.toNat (.int .i64 0) (wv.alloc (.cells (madeCells #[.int .i64 0, .int .i64 0] (S.toNat * 2)) 36))) := Lib.hid ⟨0, Nat.zero_le _, rfl, HBV.out.alloc HBV.out.size _, HRV.out.alloc _, HBV.out.size, _, Blk.new _ _ _, by rw [size_madeCells], fun y hy => absurd hy (Nat.not_lt_zero _)⟩
                clear H2 hSn
                go_wp2_with fail
                generalize wv.heap.size = b9 at HS0 ⊢
                generalize wv.alloc (.cells (madeCells #[.int .i64 0, .int .i64 0] (S.toNat * 2)) 36) = W9 at HS0 ⊢
                clear kmk HBV HRV l0 l1 l2 q9 q10 llt qlt hkI hk
                go_loopw [90] (fun j wr3 => SRel w1 V i (.slice av2 V.toNat cv2) b9 S.toNat j wr3) (fun j _ => S.toNat - (intOf j).toNat)
                case atStart => exact HS0.out
                case round =>
                  clear HS0
                  obtain ⟨y, hy, rfl, hb3, hr3, h1, zs, hz, hsz, hc⟩ := hrel
                  obtain ⟨ws, rfl⟩ : ∃ w1 : World, w1 = wr := ⟨_, rfl⟩
                  have HB3 := Lib.hid hb3
                  have HR3 := Lib.hid hr3
                  have HZ3 := Lib.hid hz
                  have HC3 := Lib.hid hc
                  clear hb3 hr3 hc
                  by_cases hyS : y < S.toNat
                  · have hyI : (y : Int) < ((S.toNat : Nat) : Int) := by omega
                    have y0 : (0 : Int) ≤ (y : Int) := by omega
                    have d1 : ws.cell? ⟨b9, y * 2, none⟩ = some (zs[y * 2]'(by omega)) := (hz.cell _).trans (Array.getElem?_eq_getElem _)
                    have d2 : ws.cell? ⟨b9, y * 2 + 1, none⟩ = some (zs[y * 2 + 1]'(by omega)) := (hz.cell _).trans (Array.getElem?_eq_getElem _)
                    have f1 := hz.frozen (y * 2)
                    have f2 := hz.frozen (y * 2 + 1)
                    have blt := hz.lt
                    generalize zs[y * 2] = x1 at d1
                    generalize zs[y * 2 + 1] = x2 at d2
                    have HNX := Lib.hid (SRel.next (n := S.toNat) hyS HB3.out HR3.out h1 HZ3.out hsz HC3.out)
                    clear hz hyS HB3 HR3 HZ3 HC3 hsz
                    go_wp2_with fail
                    go_roundw
                    case rel => exact HNX.out
                    case measure => simp [intOf]; omega
                  · have ey : y = S.toNat := by omega
                    subst ey
                    have hyI : ¬ ((S.toNat : Nat) : Int) < ((S.toNat : Nat) : Int) := by omega
                    have HE : Hid (CBg w ws l3 q V S T p gb m9 g va vb va vb ((List.range i).map vr) ((List.range i).map fun L => gsl S (gB L)) (i + 1) (fun L => if L = i then (.slice av2 V.toNat cv2) else vr L) (fun L => if L = i then b9 else gB L)) := Lib.hid (CBg.ext (HC.out.below HB3.out) (HR3.out.mono HC.out.be.size) HZ3.out HC3.out (fun L hL e => by
                      obtain ⟨z8, hz8, _⟩ := HC.out.gs L hL
                      have := hz8.lt
                      omega) (Nat.le_trans HC.out.be.size h1))
                    obtain ⟨ava, cva, hva⟩ := own_slice HE.out.ra
                    obtain ⟨avb, cvb, hvb⟩ := own_slice HE.out.rb
                    rw [List.length_map, List.length_range] at hva hvb
                    clear HB3 HR3 HZ3 HC3 hz hsz hyS hy
                    have l0 : ws.cell? ⟨l3, 0, none⟩ = some (.int .i64 V) := HE.out.hl.cell 0
                    have l1 : ws.cell? ⟨l3, 1, none⟩ = some (.int .i64 S) := HE.out.hl.cell 1
                    have l2 : ws.cell? ⟨l3, 2, none⟩ = some (.int .i64 T) := HE.out.hl.cell 2
                    have q9 : ws.cell? ⟨q, 9, none⟩ = some va := HE.out.hq.cell 9
                    have q10 : ws.cell? ⟨q, 10, none⟩ = some vb := HE.out.hq.cell 10
                    have llt := HE.out.hl.lt
                    have qlt := HE.out.hq.lt
                    have fz9 := HE.out.hq.frozen 9
                    have fz10 := HE.out.hq.frozen 10
                    subst hva hvb
                    go_upto_region 28 with fail
                    have HLI := Lib.hid (show ((List.range i).map vr).length ≤ 1000 from by rw [List.length_map, List.length_range]; omega)
                    have HLJ := Lib.hid (show ((List.range i).map fun L => gsl S (gB L)).length ≤ 1000 from by rw [List.length_map, List.length_range]; omega)
                    have HXA := Lib.hid (range_snoc vr i (.slice av2 V.toNat cv2))
                    have HXB : Hid (((List.range i).map fun L => gsl S (gB L)) ++ [.slice (some ⟨b9, 0, none⟩) S.toNat S.toNat] = (List.range (i + 1)).map fun L => gsl S ((fun L => if L = i then b9 else gB L) L)) := Lib.hid (by rw [show Value.slice (some ⟨b9, 0, none⟩) S.toNat S.toNat = gsl S b9 from rfl, range_snoc]; refine List.map_congr_left fun L _ => ?_; show (if L = i then gsl S b9 else gsl S (gB L)) = gsl S (if L = i then b9 else gB L); split <;> rfl)
                    have E2 := Lib.hid ((HE.out.alloc (.cells #[.slice av2 V.toNat cv2] 100)).alloc (.cells #[.slice (some ⟨b9, 0, none⟩) S.toNat S.toNat] 38)).drew
                    have N2a : Hid ((((ws.alloc (.cells #[.slice av2 V.toNat cv2] 100)).alloc (.cells #[.slice (some ⟨b9, 0, none⟩) S.toNat S.toNat] 38)).drew).cell? ((⟨ws.heap.size, 0, none⟩ : Addr).add 0) = some (.slice av2 V.toNat cv2)) := Lib.hid (cell_later ((Below.refl _ _).alloc (Nat.le_refl _) (.cells #[.slice (some ⟨b9, 0, none⟩) S.toNat S.toNat] 38)).drew (cell_new1 ws (.slice av2 V.toNat cv2) 100))
                    have N2b : Hid ((((ws.alloc (.cells #[.slice av2 V.toNat cv2] 100)).alloc (.cells #[.slice (some ⟨b9, 0, none⟩) S.toNat S.toNat] 38)).drew).cell? ((⟨ws.heap.size + 1, 0, none⟩ : Addr).add 0) = some (.slice (some ⟨b9, 0, none⟩) S.toNat S.toNat)) := Lib.hid (cell_new2 ws _ _ _ _)
                    have M2 : Hid ((Value.slice ava i cva).ownBlock ≠ some (ws.heap.size + 1)) := Lib.hid (own_ne E2.out.ra (show Blk (((ws.alloc (.cells #[.slice av2 V.toNat cv2] 100)).alloc (.cells #[.slice (some ⟨b9, 0, none⟩) S.toNat S.toNat] 38)).drew) (ws.heap.size + 1) 38 #[(.slice (some ⟨b9, 0, none⟩) S.toNat S.toNat)] from new_next ws _ _ _ _) (by decide))
                    have E3 := Lib.hid ((HE.out.alloc (.cells #[.slice (some ⟨b9, 0, none⟩) S.toNat S.toNat] 38)).alloc (.cells #[.slice av2 V.toNat cv2] 100)).drew
                    have N3a : Hid ((((ws.alloc (.cells #[.slice (some ⟨b9, 0, none⟩) S.toNat S.toNat] 38)).alloc (.cells #[.slice av2 V.toNat cv2] 100)).drew).cell? ((⟨ws.heap.size + 1, 0, none⟩ : Addr).add 0) = some (.slice av2 V.toNat cv2)) := Lib.hid (cell_new2 ws _ _ _ _)
                    have N3b : Hid ((((ws.alloc (.cells #[.slice (some ⟨b9, 0, none⟩) S.toNat S.toNat] 38)).alloc (.cells #[.slice av2 V.toNat cv2] 100)).drew).cell? ((⟨ws.heap.size, 0, none⟩ : Addr).add 0) = some (.slice (some ⟨b9, 0, none⟩) S.toNat S.toNat)) := Lib.hid (cell_later ((Below.refl _ _).alloc (Nat.le_refl _) (.cells #[.slice av2 V.toNat cv2] 100)).drew (cell_new1 ws (.slice (some ⟨b9, 0, none⟩) S.toNat S.toNat) 38))
                    have M3 : Hid ((Value.slice ava i cva).ownBlock ≠ some ws.heap.size) := Lib.hid (own_ne E3.out.ra (show Blk (((ws.alloc (.cells #[.slice (some ⟨b9, 0, none⟩) S.toNat S.toNat] 38)).alloc (.cells #[.slice av2 V.toNat cv2] 100)).drew) ws.heap.size 38 #[(.slice (some ⟨b9, 0, none⟩) S.toNat S.toNat)] from (Blk.new ws _ _).alloc _) (by decide))
                    have hrule : ∀ W : World, (W.cell? ⟨q, 9, none⟩ = some (.slice ava i cva) ∧ W.cell? ⟨q, 10, none⟩ = some (.slice avb i cvb)) → W.cell? ⟨q, 9, none⟩ = some (.slice ava i cva) ∧ W.cell? ⟨q, 10, none⟩ = some (.slice avb i cvb) := fun _ h => h
                    refine wp_till (fun W => W.cell? ⟨q, 9, none⟩ = some (.slice ava i cva) ∧ W.cell? ⟨q, 10, none⟩ = some (.slice avb i cvb)) (fun j => decide (16 ≤ j)) (by kernel_rfl) ?_ (fun hHeld => ?_)
                    · exact ⟨HE.out.hq.cell 9, HE.out.hq.cell 10⟩
                    refine Till.plain (i := 0) (v := ?_) rfl (by kernel_rfl) (by kernel_rfl) (by kernel_rfl) (fun _ _ _ h => h) (Or.inl ⟨by rfl, ?_⟩) ?_
                    rotate_left
                    · (intro w hSw; (try dsimp only at hSw); go_simp; try with_reducible rfl)
                    try simp only [Act.put, List.setIfInBounds_toArray, List.set_cons_zero, List.set_cons_succ, List.getElem_toArray, List.getElem_cons_zero]
                    refine Till.plain (i := 1) (v := ?_) rfl (by kernel_rfl) (by kernel_rfl) (by kernel_rfl) (fun _ _ _ h => h) (Or.inl ⟨by rfl, ?_⟩) ?_
                    rotate_left
                    · (intro w hSw; (try dsimp only at hSw); go_simp; try with_reducible rfl)
                    try simp only [Act.put, List.setIfInBounds_toArray, List.set_cons_zero, List.set_cons_succ, List.getElem_toArray, List.getElem_cons_zero, List.getElem_cons_succ]
                    refine Till.plain (i := 2) (v := ?_) rfl (by kernel_rfl) (by kernel_rfl) (by kernel_rfl) (fun _ _ _ h => h) (Or.inl ⟨by rfl, ?_⟩) ?_
                    rotate_left
                    · (intro w hSw; (try dsimp only at hSw); go_simp; try with_reducible rfl)
                    try simp only [Act.put, List.setIfInBounds_toArray, List.set_cons_zero, List.set_cons_succ, List.getElem_toArray, List.getElem_cons_zero, List.getElem_cons_succ]
                    refine Till.plain (i := 3) (v := ?_) rfl (by kernel_rfl) (by kernel_rfl) (by kernel_rfl) (fun _ _ _ h => h) (Or.inl ⟨by rfl, ?_⟩) ?_
                    rotate_left
                    · (intro w hSw; (try dsimp only at hSw); go_simp; try with_reducible rfl)
                    try simp only [Act.put, List.setIfInBounds_toArray, List.set_cons_zero, List.set_cons_succ, List.getElem_toArray, List.getElem_cons_zero, List.getElem_cons_succ]
                    refine Till.plain (i := 4) (v := ?_) rfl (by kernel_rfl) (by kernel_rfl) (by kernel_rfl) (fun _ _ _ h => h) (Or.inl ⟨by rfl, ?_⟩) ?_
                    rotate_left
                    · (intro w hSw; (try dsimp only at hSw); go_simp; try with_reducible rfl)
                    try simp only [Act.put, List.setIfInBounds_toArray, List.set_cons_zero, List.set_cons_succ, List.getElem_toArray, List.getElem_cons_zero, List.getElem_cons_succ]
                    refine Till.load (i := 5) (v := ?_) rfl (by kernel_rfl) (by kernel_rfl) (by kernel_rfl) (by kernel_rfl) (fun _ _ _ h => h) (Or.inl ⟨by rfl, ?_⟩) (by assumption) ?_
                    rotate_left
                    · (intro w hSw; (try dsimp only at hSw); go_simp; try with_reducible rfl)
                    try simp only [Act.put, List.setIfInBounds_toArray, List.set_cons_zero, List.set_cons_succ, List.getElem_toArray, List.getElem_cons_zero, List.getElem_cons_succ]
                    refine Till.plain (i := 6) (v := ?_) rfl (by kernel_rfl) (by kernel_rfl) (by kernel_rfl) (fun _ _ _ h => h) (Or.inl ⟨by rfl, ?_⟩) ?_
                    rotate_left
                    · (intro w hSw; (try dsimp only at hSw); go_simp; try with_reducible rfl)
                    try simp only [Act.put, List.setIfInBounds_toArray, List.set_cons_zero, List.set_cons_succ, List.getElem_toArray, List.getElem_cons_zero, List.getElem_cons_succ]
                    refine Till.plain (i := 9) (v := ?_) rfl (by kernel_rfl) (by kernel_rfl) (by kernel_rfl) (fun _ _ _ h => h) (Or.inl ⟨by rfl, ?_⟩) ?_
                    rotate_left
                    · (intro w hSw; (try dsimp only at hSw); go_simp; try with_reducible rfl)
                    try simp only [Act.put, List.setIfInBounds_toArray, List.set_cons_zero, List.set_cons_succ, List.getElem_toArray, List.getElem_cons_zero, List.getElem_cons_succ]
                    refine Till.plain (i := 10) (v := ?_) rfl (by kernel_rfl) (by kernel_rfl) (by kernel_rfl) (fun _ _ _ h => h) (Or.inl ⟨by rfl, ?_⟩) ?_
                    rotate_left
                    · (intro w hSw; (try dsimp only at hSw); go_simp; try with_reducible rfl)
                    try simp only [Act.put, List.setIfInBounds_toArray, List.set_cons_zero, List.set_cons_succ, List.getElem_toArray, List.getElem_cons_zero, List.getElem_cons_succ]
                    refine Till.plain (i := 11) (v := ?_) rfl (by kernel_rfl) (by kernel_rfl) (by kernel_rfl) (fun _ _ _ h => h) (Or.inl ⟨by rfl, ?_⟩) ?_
                    rotate_left
                    · (intro w hSw; (try dsimp only at hSw); go_simp; try with_reducible rfl)
                    try simp only [Act.put, List.setIfInBounds_toArray, List.set_cons_zero, List.set_cons_succ, List.getElem_toArray, List.getElem_cons_zero, List.getElem_cons_succ]
                    refine Till.load (i := 12) (v := ?_) rfl (by kernel_rfl) (by kernel_rfl) (by kernel_rfl) (by kernel_rfl) (fun _ _ _ h => h) (Or.inl ⟨by rfl, ?_⟩) (by assumption) ?_
                    rotate_left
                    · (intro w hSw; (try dsimp only at hSw); go_simp; try with_reducible rfl)
                    try simp only [Act.put, List.setIfInBounds_toArray, List.set_cons_zero, List.set_cons_succ, List.getElem_toArray, List.getElem_cons_zero, List.getElem_cons_succ]
                    refine Till.plain (i := 13) (v := ?_) rfl (by kernel_rfl) (by kernel_rfl) (by kernel_rfl) (fun _ _ _ h => h) (Or.inl ⟨by rfl, ?_⟩) ?_
                    rotate_left
                    · (intro w hSw; (try dsimp only at hSw); go_simp; try with_reducible rfl)
                    try simp only [Act.put, List.setIfInBounds_toArray, List.set_cons_zero, List.set_cons_succ, List.getElem_toArray, List.getElem_cons_zero, List.getElem_cons_succ]
                    refine Till.ready (rs := [7, 14]) (by kernel_rfl) (by simp) ?_
                    refine AllTill.cons rfl (fun K hK => ?_) ?_
                    rotate_left
                    · refine AllTill.cons rfl (fun K hK => ?_) ?_
                      rotate_left
                      · exact AllTill.nil
                      go_simp
                      refine hK.out _ _ ?_ (fun hHeld => ?_)
                      · (try dsimp only); exact ⟨(HE.out.alloc (.cells #[.slice (some ⟨b9, 0, none⟩) S.toNat S.toNat] 38)).hq.cell 9, (HE.out.alloc (.cells #[.slice (some ⟨b9, 0, none⟩) S.toNat S.toNat] 38)).hq.cell 10⟩
                      clear hK K
                      try simp only [Act.put, List.setIfInBounds_toArray, List.set_cons_zero, List.set_cons_succ, List.getElem_toArray, List.getElem_cons_zero, List.getElem_cons_succ]
                      refine Till.ready (rs := [7]) (by kernel_rfl) (by simp) ?_
                      refine AllTill.cons rfl (fun K hK => ?_) ?_
                      rotate_left
                      · exact AllTill.nil
                      go_simp
                      refine hK.out _ _ ?_ (fun hHeld => ?_)
                      · (try dsimp only); exact ⟨E3.out.hq.cell 9, E3.out.hq.cell 10⟩
                      clear hK K
                      try simp only [Act.put, List.setIfInBounds_toArray, List.set_cons_zero, List.set_cons_succ, List.getElem_toArray, List.getElem_cons_zero, List.getElem_cons_succ]
                      refine Till.ready (rs := [8]) (by kernel_rfl) (by simp) ?_
                      refine AllTill.cons rfl (fun K hK => ?_) ?_
                      rotate_left
                      · exact AllTill.nil
                      refine step_append_own1 (T9 := 47) (E9 := 100) Try.underlying47 info_lll (by rfl) _ _ (by rfl) rfl E3.out.ra (.slice av2 V.toNat cv2) rfl ⟨ws.heap.size + 1, 0, none⟩ 1 rfl N3a.out HLI.out E3.out.be.size ?_
                      intro va1 w81 ho8 hg8
                      have H8 := Lib.hid (E3.out.appA hg8 ho8)
                      have K14 : Hid (w81.cell? ((⟨ws.heap.size, 0, none⟩ : Addr).add 0) = some (.slice (some ⟨b9, 0, none⟩) S.toNat S.toNat)) := Lib.hid (kept_cell hg8 M3.out N3b.out)
                      obtain ⟨ava1, cva1, hva1⟩ := own_slice ho8
                      rw [List.length_append, List.length_map, List.length_range, List.length_singleton] at hva1
                      subst hva1
                      have p9 := H8.out.hq.cell 9
                      have p10 := H8.out.hq.cell 10
                      have plt := H8.out.hq.lt
                      clear ho8 hg8
                      refine hK.out _ _ ?_ (fun hHeld => ?_)
                      · (try dsimp only); exact ⟨H8.out.hq.cell 9, H8.out.hq.cell 10⟩
                      clear hK K
                      try simp only [Act.put, List.setIfInBounds_toArray, List.set_cons_zero, List.set_cons_succ, List.getElem_toArray, List.getElem_cons_zero, List.getElem_cons_succ]
                      refine Till.ready (rs := [15]) (by kernel_rfl) (by simp) ?_
                      refine AllTill.cons rfl (fun K hK => ?_) ?_
                      rotate_left
                      · exact AllTill.nil
                      refine step_append_own1 (T9 := 48) (E9 := 38) Try.underlying48 info_gr (by rfl) _ _ (by rfl) rfl H8.out.rb (.slice (some ⟨b9, 0, none⟩) S.toNat S.toNat) rfl ⟨ws.heap.size, 0, none⟩ 1 rfl K14.out HLJ.out H8.out.be.size ?_
                      intro vb1 w82 ho9 hg9
                      have H9 := Lib.hid (H8.out.appB hg9 ho9)
                      have hqz := H9.out.hq.frozen 9
                      have hqy := H9.out.hq.frozen 10
                      have hqc := H9.out.hq.cell 9
                      have hqd := H9.out.hq.cell 10
                      have hqlt := H9.out.hq.lt
                      obtain ⟨avb1, cvb1, hvb1⟩ := own_slice ho9
                      rw [List.length_append, List.length_map, List.length_range, List.length_singleton] at hvb1
                      subst hvb1
                      have H10 := Lib.hid ((CBg.cast H9.out HXA.out HXB.out).setA (.slice ava1 (i + 1) cva1) |>.setB (.slice avb1 (i + 1) cvb1))
                      clear ho9 hg9
                      refine hK.out _ _ ?_ (fun hHeld => ?_)
                      · (try dsimp only); exact ⟨H9.out.hq.cell 9, H9.out.hq.cell 10⟩
                      clear hK K
                      try simp only [Act.put, List.setIfInBounds_toArray, List.set_cons_zero, List.set_cons_succ, List.getElem_toArray, List.getElem_cons_zero, List.getElem_cons_succ]
                      refine Till.plain (i := 16) (v := ?_) rfl (by kernel_rfl) (by kernel_rfl) (by kernel_rfl) (fun _ _ _ h => h) (Or.inl ⟨by rfl, ?_⟩) ?_
                      rotate_left
                      · (intro w hSw; (try dsimp only at hSw); go_simp; try with_reducible rfl)
                      try simp only [Act.put, List.setIfInBounds_toArray, List.set_cons_zero, List.set_cons_succ, List.getElem_toArray, List.getElem_cons_zero, List.getElem_cons_succ]
                      refine Till.plain (i := 17) (v := ?_) rfl (by kernel_rfl) (by kernel_rfl) (by kernel_rfl) (fun _ _ _ h => h) (Or.inl ⟨by rfl, ?_⟩) ?_
                      rotate_left
                      · (intro w hSw; (try dsimp only at hSw); go_simp; try with_reducible rfl)
                      try simp only [Act.put, List.setIfInBounds_toArray, List.set_cons_zero, List.set_cons_succ, List.getElem_toArray, List.getElem_cons_zero, List.getElem_cons_succ]
                      refine Till.ready (rs := [18]) (by kernel_rfl) (by simp) ?_
                      refine AllTill.last rfl (by rfl) (fun K hK => ?_) ?_
                      rotate_left
                      · exact AllTill.nil
                      go_simp
                      refine hK.out _ _ ?_
                      clear hK K
                      try simp only [Act.put, List.setIfInBounds_toArray, List.set_cons_zero, List.set_cons_succ, List.getElem_toArray, List.getElem_cons_zero, List.getElem_cons_succ]
                      refine Till.plain (i := 19) (v := ?_) rfl (by kernel_rfl) (by kernel_rfl) (by kernel_rfl) (fun _ _ _ h => h) (Or.inl ⟨by rfl, ?_⟩) ?_
                      rotate_left
                      · (intro w hSw; (try dsimp only at hSw); go_simp; try with_reducible rfl)
                      try simp only [Act.put, List.setIfInBounds_toArray, List.set_cons_zero, List.set_cons_succ, List.getElem_toArray, List.getElem_cons_zero, List.getElem_cons_succ]
                      refine Till.plain (i := 20) (v := ?_) rfl (by kernel_rfl) (by kernel_rfl) (by kernel_rfl) (fun _ _ _ h => h) (Or.inl ⟨by rfl, ?_⟩) ?_
                      rotate_left
                      · (intro w hSw; (try dsimp only at hSw); go_simp; try with_reducible rfl)
                      try simp only [Act.put, List.setIfInBounds_toArray, List.set_cons_zero, List.set_cons_succ, List.getElem_toArray, List.getElem_cons_zero, List.getElem_cons_succ]
                      refine Till.ready (rs := [21]) (by kernel_rfl) (by simp) ?_
                      refine AllTill.last rfl (by rfl) (fun K hK => ?_) ?_
                      rotate_left
                      · exact AllTill.nil
                      go_simp
                      refine hK.out _ _ ?_
                      clear hK K
                      try simp only [Act.put, List.setIfInBounds_toArray, List.set_cons_zero, List.set_cons_succ, List.getElem_toArray, List.getElem_cons_zero, List.getElem_cons_succ]
                      refine Till.done (by kernel_rfl) ?_ _
                      clear HE HLI HLJ HXA HXB E2 N2a N2b M2 E3 N3a N3b M3
                      go_wp2_with fail
                      go_roundw
                      case rel => exact ⟨i + 1, _, _, (fun L => if L = i then (.slice av2 V.toNat cv2) else vr L), (fun L => if L = i then b9 else gB L), by have := HNL.out; omega, by simp, H10.out⟩
                      case measure => simp [intOf]; omega
                    go_simp
                    refine hK.out _ _ ?_ (fun hHeld => ?_)
                    · (try dsimp only); exact ⟨(HE.out.alloc (.cells #[.slice av2 V.toNat cv2] 100)).hq.cell 9, (HE.out.alloc (.cells #[.slice av2 V.toNat cv2] 100)).hq.cell 10⟩
                    clear hK K
                    try simp only [Act.put, List.setIfInBounds_toArray, List.set_cons_zero, List.set_cons_succ, List.getElem_toArray, List.getElem_cons_zero, List.getElem_cons_succ]
                    refine Till.ready (rs := [8, 14]) (by kernel_rfl) (by simp) ?_
                    refine AllTill.cons rfl (fun K hK => ?_) ?_
                    rotate_left
                    · refine AllTill.cons rfl (fun K hK => ?_) ?_
                      rotate_left
                      · exact AllTill.nil
                      go_simp
                      refine hK.out _ _ ?_ (fun hHeld => ?_)
                      · (try dsimp only); exact ⟨E2.out.hq.cell 9, E2.out.hq.cell 10⟩
                      clear hK K
                      try simp only [Act.put, List.setIfInBounds_toArray, List.set_cons_zero, List.set_cons_succ, List.getElem_toArray, List.getElem_cons_zero, List.getElem_cons_succ]
                      refine Till.ready (rs := [8]) (by kernel_rfl) (by simp) ?_
                      refine AllTill.cons rfl (fun K hK => ?_) ?_
                      rotate_left
                      · exact AllTill.nil
                      refine step_append_own1 (T9 := 47) (E9 := 100) Try.underlying47 info_lll (by rfl) _ _ (by rfl) rfl E2.out.ra (.slice av2 V.toNat cv2) rfl ⟨ws.heap.size, 0, none⟩ 1 rfl N2a.out HLI.out E2.out.be.size ?_
                      intro va1 w81 ho8 hg8
                      have H8 := Lib.hid (E2.out.appA hg8 ho8)
                      have K14 : Hid (w81.cell? ((⟨ws.heap.size + 1, 0, none⟩ : Addr).add 0) = some (.slice (some ⟨b9, 0, none⟩) S.toNat S.toNat)) := Lib.hid (kept_cell hg8 M2.out N2b.out)
                      obtain ⟨ava1, cva1, hva1⟩ := own_slice ho8
                      rw [List.length_append, List.length_map, List.length_range, List.length_singleton] at hva1
                      subst hva1
                      have p9 := H8.out.hq.cell 9
                      have p10 := H8.out.hq.cell 10
                      have plt := H8.out.hq.lt
                      clear ho8 hg8
                      refine hK.out _ _ ?_ (fun hHeld => ?_)
                      · (try dsimp only); exact ⟨H8.out.hq.cell 9, H8.out.hq.cell 10⟩
                      clear hK K
                      try simp only [Act.put, List.setIfInBounds_toArray, List.set_cons_zero, List.set_cons_succ, List.getElem_toArray, List.getElem_cons_zero, List.getElem_cons_succ]
                      refine Till.ready (rs := [15]) (by kernel_rfl) (by simp) ?_
                      refine AllTill.cons rfl (fun K hK => ?_) ?_
                      rotate_left
                      · exact AllTill.nil
                      refine step_append_own1 (T9 := 48) (E9 := 38) Try.underlying48 info_gr (by rfl) _ _ (by rfl) rfl H8.out.rb (.slice (some ⟨b9, 0, none⟩) S.toNat S.toNat) rfl ⟨ws.heap.size + 1, 0, none⟩ 1 rfl K14.out HLJ.out H8.out.be.size ?_
                      intro vb1 w82 ho9 hg9
                      have H9 := Lib.hid (H8.out.appB hg9 ho9)
                      have hqz := H9.out.hq.frozen 9
                      have hqy := H9.out.hq.frozen 10
                      have hqc := H9.out.hq.cell 9
                      have hqd := H9.out.hq.cell 10
                      have hqlt := H9.out.hq.lt
                      obtain ⟨avb1, cvb1, hvb1⟩ := own_slice ho9
                      rw [List.length_append, List.length_map, List.length_range, List.length_singleton] at hvb1
                      subst hvb1
                      have H10 := Lib.hid ((CBg.cast H9.out HXA.out HXB.out).setA (.slice ava1 (i + 1) cva1) |>.setB (.slice avb1 (i + 1) cvb1))
                      clear ho9 hg9
                      refine hK.out _ _ ?_ (fun hHeld => ?_)
                      · (try dsimp only); exact ⟨H9.out.hq.cell 9, H9.out.hq.cell 10⟩
                      clear hK K
                      try simp only [Act.put, List.setIfInBounds_toArray, List.set_cons_zero, List.set_cons_succ, List.getElem_toArray, List.getElem_cons_zero, List.getElem_cons_succ]
                      refine Till.plain (i := 16) (v := ?_) rfl (by kernel_rfl) (by kernel_rfl) (by kernel_rfl) (fun _ _ _ h => h) (Or.inl ⟨by rfl, ?_⟩) ?_
                      rotate_left
                      · (intro w hSw; (try dsimp only at hSw); go_simp; try with_reducible rfl)
                      try simp only [Act.put, List.setIfInBounds_toArray, List.set_cons_zero, List.set_cons_succ, List.getElem_toArray, List.getElem_cons_zero, List.getElem_cons_succ]
                      refine Till.plain (i := 17) (v := ?_) rfl (by kernel_rfl) (by kernel_rfl) (by kernel_rfl) (fun _ _ _ h => h) (Or.inl ⟨by rfl, ?_⟩) ?_
                      rotate_left
                      · (intro w hSw; (try dsimp only at hSw); go_simp; try with_reducible rfl)
                      try simp only [Act.put, List.setIfInBounds_toArray, List.set_cons_zero, List.set_cons_succ, List.getElem_toArray, List.getElem_cons_zero, List.getElem_cons_succ]
                      refine Till.ready (rs := [18]) (by kernel_rfl) (by simp) ?_
                      refine AllTill.last rfl (by rfl) (fun K hK => ?_) ?_
                      rotate_left
                      · exact AllTill.nil
                      go_simp
                      refine hK.out _ _ ?_
                      clear hK K
                      try simp only [Act.put, List.setIfInBounds_toArray, List.set_cons_zero, List.set_cons_succ, List.getElem_toArray, List.getElem_cons_zero, List.getElem_cons_succ]
                      refine Till.plain (i := 19) (v := ?_) rfl (by kernel_rfl) (by kernel_rfl) (by kernel_rfl) (fun _ _ _ h => h) (Or.inl ⟨by rfl, ?_⟩) ?_
                      rotate_left
                      · (intro w hSw; (try dsimp only at hSw); go_simp; try with_reducible rfl)
                      try simp only [Act.put, List.setIfInBounds_toArray, List.set_cons_zero, List.set_cons_succ, List.getElem_toArray, List.getElem_cons_zero, List.getElem_cons_succ]
                      refine Till.plain (i := 20) (v := ?_) rfl (by kernel_rfl) (by kernel_rfl) (by kernel_rfl) (fun _ _ _ h => h) (Or.inl ⟨by rfl, ?_⟩) ?_
                      rotate_left
                      · (intro w hSw; (try dsimp only at hSw); go_simp; try with_reducible rfl)
                      try simp only [Act.put, List.setIfInBounds_toArray, List.set_cons_zero, List.set_cons_succ, List.getElem_toArray, List.getElem_cons_zero, List.getElem_cons_succ]
                      refine Till.ready (rs := [21]) (by kernel_rfl) (by simp) ?_
                      refine AllTill.last rfl (by rfl) (fun K hK => ?_) ?_
                      rotate_left
                      · exact AllTill.nil
                      go_simp
                      refine hK.out _ _ ?_
                      clear hK K
                      try simp only [Act.put, List.setIfInBounds_toArray, List.set_cons_zero, List.set_cons_succ, List.getElem_toArray, List.getElem_cons_zero, List.getElem_cons_succ]
                      refine Till.done (by kernel_rfl) ?_ _
                      clear HE HLI HLJ HXA HXB E2 N2a N2b M2 E3 N3a N3b M3
                      go_wp2_with fail
                      go_roundw
                      case rel => exact ⟨i + 1, _, _, (fun L => if L = i then (.slice av2 V.toNat cv2) else vr L), (fun L => if L = i then b9 else gB L), by have := HNL.out; omega, by simp, H10.out⟩
                      case measure => simp [intOf]; omega
                    refine step_append_own1 (T9 := 47) (E9 := 100) Try.underlying47 info_lll (by rfl) _ _ (by rfl) rfl (HE.out.alloc (.cells #[.slice av2 V.toNat cv2] 100)).drew.ra (.slice av2 V.toNat cv2) rfl ⟨ws.heap.size, 0, none⟩ 1 rfl (cell_new1 ws _ _) HLI.out (HE.out.alloc (.cells #[.slice av2 V.toNat cv2] 100)).drew.be.size ?_
                    intro va1 w81 ho8 hg8
                    have H8 := Lib.hid ((HE.out.alloc (.cells #[.slice av2 V.toNat cv2] 100)).drew.appA hg8 ho8)
                    obtain ⟨ava1, cva1, hva1⟩ := own_slice ho8
                    rw [List.length_append, List.length_map, List.length_range, List.length_singleton] at hva1
                    subst hva1
                    have p9 := H8.out.hq.cell 9
                    have p10 := H8.out.hq.cell 10
                    have plt := H8.out.hq.lt
                    clear ho8 hg8
                    refine hK.out _ _ ?_ (fun hHeld => ?_)
                    · (try dsimp only); exact ⟨H8.out.hq.cell 9, H8.out.hq.cell 10⟩
                    clear hK K
                    try simp only [Act.put, List.setIfInBounds_toArray, List.set_cons_zero, List.set_cons_succ, List.getElem_toArray, List.getElem_cons_zero, List.getElem_cons_succ]
                    refine Till.ready (rs := [14]) (by kernel_rfl) (by simp) ?_
                    refine AllTill.cons rfl (fun K hK => ?_) ?_
                    rotate_left
                    · exact AllTill.nil
                    go_simp
                    refine hK.out _ _ ?_ (fun hHeld => ?_)
                    · (try dsimp only); exact ⟨(H8.out.alloc (.cells #[.slice (some ⟨b9, 0, none⟩) S.toNat S.toNat] 38)).hq.cell 9, (H8.out.alloc (.cells #[.slice (some ⟨b9, 0, none⟩) S.toNat S.toNat] 38)).hq.cell 10⟩
                    clear hK K
                    try simp only [Act.put, List.setIfInBounds_toArray, List.set_cons_zero, List.set_cons_succ, List.getElem_toArray, List.getElem_cons_zero, List.getElem_cons_succ]
                    refine Till.ready (rs := [15]) (by kernel_rfl) (by simp) ?_
                    refine AllTill.cons rfl (fun K hK => ?_) ?_
                    rotate_left
                    · exact AllTill.nil
                    refine step_append_own1 (T9 := 48) (E9 := 38) Try.underlying48 info_gr (by rfl) _ _ (by rfl) rfl (H8.out.alloc (.cells #[.slice (some ⟨b9, 0, none⟩) S.toNat S.toNat] 38)).rb (.slice (some ⟨b9, 0, none⟩) S.toNat S.toNat) rfl ⟨w81.heap.size, 0, none⟩ 1 rfl (cell_new1 w81 _ _) HLJ.out (H8.out.alloc (.cells #[.slice (some ⟨b9, 0, none⟩) S.toNat S.toNat] 38)).be.size ?_
                    intro vb1 w82 ho9 hg9
                    have H9 := Lib.hid ((H8.out.alloc (.cells #[.slice (some ⟨b9, 0, none⟩) S.toNat S.toNat] 38)).appB hg9 ho9)
                    have hqz := H9.out.hq.frozen 9
                    have hqy := H9.out.hq.frozen 10
                    have hqc := H9.out.hq.cell 9
                    have hqd := H9.out.hq.cell 10
                    have hqlt := H9.out.hq.lt
                    obtain ⟨avb1, cvb1, hvb1⟩ := own_slice ho9
                    rw [List.length_append, List.length_map, List.length_range, List.length_singleton] at hvb1
                    subst hvb1
                    have H10 := Lib.hid ((CBg.cast H9.out HXA.out HXB.out).setA (.slice ava1 (i + 1) cva1) |>.setB (.slice avb1 (i + 1) cvb1))
                    clear ho9 hg9
                    refine hK.out _ _ ?_ (fun hHeld => ?_)
                    · (try dsimp only); exact ⟨H9.out.hq.cell 9, H9.out.hq.cell 10⟩
                    clear hK K
                    try simp only [Act.put, List.setIfInBounds_toArray, List.set_cons_zero, List.set_cons_succ, List.getElem_toArray, List.getElem_cons_zero, List.getElem_cons_succ]
                    refine Till.plain (i := 16) (v := ?_) rfl (by kernel_rfl) (by kernel_rfl) (by kernel_rfl) (fun _ _ _ h => h) (Or.inl ⟨by rfl, ?_⟩) ?_
                    rotate_left
                    · (intro w hSw; (try dsimp only at hSw); go_simp; try with_reducible rfl)
                    try simp only [Act.put, List.setIfInBounds_toArray, List.set_cons_zero, List.set_cons_succ, List.getElem_toArray, List.getElem_cons_zero, List.getElem_cons_succ]
                    refine Till.plain (i := 17) (v := ?_) rfl (by kernel_rfl) (by kernel_rfl) (by kernel_rfl) (fun _ _ _ h => h) (Or.inl ⟨by rfl, ?_⟩) ?_
                    rotate_left
                    · (intro w hSw; (try dsimp only at hSw); go_simp; try with_reducible rfl)
                    try simp only [Act.put, List.setIfInBounds_toArray, List.set_cons_zero, List.set_cons_succ, List.getElem_toArray, List.getElem_cons_zero, List.getElem_cons_succ]
                    refine Till.ready (rs := [18]) (by kernel_rfl) (by simp) ?_
                    refine AllTill.last rfl (by rfl) (fun K hK => ?_) ?_
                    rotate_left
                    · exact AllTill.nil
                    go_simp
                    refine hK.out _ _ ?_
                    clear hK K
                    try simp only [Act.put, List.setIfInBounds_toArray, List.set_cons_zero, List.set_cons_succ, List.getElem_toArray, List.getElem_cons_zero, List.getElem_cons_succ]
                    refine Till.plain (i := 19) (v := ?_) rfl (by kernel_rfl) (by kernel_rfl) (by kernel_rfl) (fun _ _ _ h => h) (Or.inl ⟨by rfl, ?_⟩) ?_
                    rotate_left
                    · (intro w hSw; (try dsimp only at hSw); go_simp; try with_reducible rfl)
                    try simp only [Act.put, List.setIfInBounds_toArray, List.set_cons_zero, List.set_cons_succ, List.getElem_toArray, List.getElem_cons_zero, List.getElem_cons_succ]
                    refine Till.plain (i := 20) (v := ?_) rfl (by kernel_rfl) (by kernel_rfl) (by kernel_rfl) (fun _ _ _ h => h) (Or.inl ⟨by rfl, ?_⟩) ?_
                    rotate_left
                    · (intro w hSw; (try dsimp only at hSw); go_simp; try with_reducible rfl)
                    try simp only [Act.put, List.setIfInBounds_toArray, List.set_cons_zero, List.set_cons_succ, List.getElem_toArray, List.getElem_cons_zero, List.getElem_cons_succ]
                    refine Till.ready (rs := [21]) (by kernel_rfl) (by simp) ?_
                    refine AllTill.last rfl (by rfl) (fun K hK => ?_) ?_
                    rotate_left
                    · exact AllTill.nil
                    go_simp
                    refine hK.out _ _ ?_
                    clear hK K
                    try simp only [Act.put, List.setIfInBounds_toArray, List.set_cons_zero, List.set_cons_succ, List.getElem_toArray, List.getElem_cons_zero, List.getElem_cons_succ]
                    refine Till.done (by kernel_rfl) ?_ _
                    clear HE HLI HLJ HXA HXB E2 N2a N2b M2 E3 N3a N3b M3
                    go_wp2_with fail
                    go_roundw
                    case rel => exact ⟨i + 1, _, _, (fun L => if L = i then (.slice av2 V.toNat cv2) else vr L), (fun L => if L = i then b9 else gB L), by have := HNL.out; omega, by simp, H10.out⟩
                    case measure => simp [intOf]; omega
          · have ei : i = nl := by omega
            subst ei
            have hinI : ¬ (i : Int) < (i : Int) := by omega
            have HF := Lib.hid (HC.out.fin HR.out (by have := HNL.out; omega) HV8.out.1 HV8.out.2)
            have HBE := Lib.hid HC.out.be
            clear HC hi hi' hin
            go_wp2_with fail
            go_ret
            obtain ⟨rb, lb, cr, cl, hpl⟩ := HF.out
            exact ⟨i, q, p, gb, rb, lb, cr, cl, gB, g, vr, rfl, hpl.more (by have h1 := HM9.out; have h2 := HN9.out; omega), HBE.out⟩
end

end Go.Proofs.Ytahabfjngeicmaa
