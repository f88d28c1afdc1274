/- The contract of a play's step, of a worker that begins. Printed by wip/tools/slotu.py. -/
import Derived.Test.YtgjlilcljefbfaaSlotT
import Derived.Test.YtgjlilcljefbfaaSlotLSeries
namespace Go.Proofs.Ytgjlilcljefbfaa
open Go.RowKit

set_option maxRecDepth 100000

/-- What holds while a give begins. -/
def SG (pb p S b hb off s : Nat) (av hv : Value) (W : World) : Prop := PlB W pb p S av ∧ (∃ gv, WB W b (.pointer none) gv hv) ∧ W.cell? ⟨hb, off, none⟩ = some (.int .i64 (s : Int))
section
variable {pb p S b hb off s : Nat} {av hv : Value} {W W' : World}
theorem SG.below (h : SG pb p S b hb off s av hv W) (hb' : Below W.heap.size W W') : SG pb p S b hb off s av hv W' := by
  obtain ⟨h1, ⟨gv, h2⟩, h3⟩ := h
  exact ⟨Blk.below h1 hb' (Blk.lt h1), ⟨gv, Blk.below h2 hb' (Blk.lt h2)⟩, cell_later hb' h3⟩
theorem SG.cells (h : SG pb p S b hb off s av hv W) : W.cell? ⟨pb, 0, none⟩ = some (.int .i64 1) ∧ W.cell? ⟨pb, 1, none⟩ = some (.int .i64 S) ∧ W.cell? ⟨pb, 2, none⟩ = some (.int .i64 1) ∧ W.cell? ⟨b, 2, none⟩ = some hv ∧ W.cell? ⟨hb, off, none⟩ = some (.int .i64 (s : Int)) ∧ W.cell? ⟨b, 1, none⟩ = some (zAt W b 1) ∧ W.frozen? ⟨b, 1, none⟩ = false := by
  obtain ⟨h1, ⟨gv, h2⟩, h3⟩ := h
  refine ⟨h1.cells.1, h1.cells.2.1, h1.cells.2.2.1, h2.cells.2.2, h3, ?_, h2.fz 1⟩
  have := h2.cells.2.1
  unfold zAt
  rw [this]; rfl
theorem SG.set1 (h : SG pb p S b hb off s av hv W) (hne : hb ≠ b) (u : Value) : SG pb p S b hb off s av hv (W.setCell ⟨b, 1, none⟩ u) := by
  obtain ⟨h1, ⟨gv, h2⟩, h3⟩ := h
  refine ⟨h1.far h2 1 u, ⟨u, h2.set1 u⟩, ?_⟩
  exact (World.cell?_setCell_other _ _ _ _ (fun e => by injection e with e; exact hne e.symm)).trans h3
end

section
variable {w : World} {pb p g n cap S M m b q : Nat} {av hv : Value} {c f : Nat → Int} {hd : Nat × Nat} {nx : Nat → Nat} {hs : List Nat}

set_option maxHeartbeats 8000000 in
theorem playStep_idle1 (hS : S ≤ 48) (hn : 1 < n) (hn2 : ∀ s, s < S → 1 + 1 + s * 7 < n) (A : SA w p g n cap 1 S M m c f hd nx) (PB : PlB w pb p S av) (W : WkM w b q S hv .idle hs) (hlen : hs.length ≤ 48) (hM : M ≤ 10000) (hm2 : m ≤ 100000) :
    Calls Try.prog 19 #[.pointer (some ⟨pb, 0, none⟩), .pointer (some ⟨b, 0, none⟩), .bool false] w fun e w' =>
      e = .returned (.bool true) ∧ PlayedW pb p g n cap S M m b q av hv (upd c (stepW hd nx .take0 hs).j (c (stepW hd nx .take0 hs).j + 1)) .idle (stepW hd nx .take0 hs).k (stepW hd nx .take0 hs).hs (stepW hd nx .take0 hs).hd (stepW hd nx .take0 hs).nx w w' := by
  obtain ⟨o, ho⟩ : ∃ o, stepW hd nx .take0 hs = o := ⟨_, rfl⟩
  rw [ho]
  have hR : Rt 1 (S : Int) 1 := ⟨by omega, by omega, by omega, by omega, by omega, by omega⟩
  have hM2 : M ≤ 100000 := by omega
  have HR := Lib.hid hR
  have HN := Lib.hid hn
  have HN2 := Lib.hid hn2
  have HO := Lib.hid ho
  have hlen5 : hs.length ≤ 100000 := by first | omega | (simp at hlen ⊢; omega) | (simp; done)
  have HK : Hid (Wk.take0.isTake = true) := Lib.hid rfl
  have HFT : Hid (Wk.take0.fit S M) := Lib.hid trivial
  have hw0 : WB w b (.pointer none) (.pointer none) hv := W.own
  have HA := Lib.hid A
  have HW := Lib.hid hw0
  have HL := Lib.hid W.has
  have HPB := Lib.hid PB
  obtain ⟨y0, y1, y2⟩ := hw0.cells
  obtain ⟨v0, v1, v2, v3, v4⟩ := PB.cells
  have ylt := Blk.lt hw0
  have vlt := Blk.lt PB
  clear hR hn hn2 ho hw0 A PB W hlen
  go_enter Try.func19, Try.ntmps19
  go_wp2_with fail
  refine (goN 1 1 S _).mono ?_; rintro e w1 ⟨q1, rfl, hq1, P1, hb1⟩
  have HW1 := Lib.hid (show WB w1 b (.pointer none) (.pointer none) hv from Blk.below HW.out hb1 (Blk.lt HW.out))
  have HPB1 := Lib.hid (show PlB w1 pb p S av from Blk.below HPB.out hb1 (Blk.lt HPB.out))
  have HM : Hid (MidT (fun i => i = p ∨ i = g ∨ Foot b q hv .idle i) w pb p g n cap S M m b q1 av hv c f hd nx .take0 (0, 0) hs (w1.setCell ⟨b, 0, none⟩ (.pointer (some ⟨q1, 0, none⟩)))) :=
    Lib.hid ⟨(HA.out.below hb1).far HW1.out 0 _, HW1.out.set0 _, (HL.out.below hb1).far HW1.out 0 _, P1.map fun P => P.far_ HW1.out 0 _, HPB1.out.far HW1.out 0 _, ((OnlyF.refl _).below hb1).set_ _ (.inl (.inr (.inr (.inl rfl))))⟩
  have HQ : Hid ((fun i => i = p ∨ i = g ∨ Foot b q hv .idle i) q1 ∨ w.heap.size ≤ q1) := Lib.hid (.inr hq1)
  have HFOOT : Hid (∀ k' i, Foot b q1 hv k' i → Foot b q hv .idle i ∨ w.heap.size ≤ i) := Lib.hid fun k' i h => by
    rcases h with h | ⟨_, h⟩ | h
    · exact .inl (.inl h)
    · exact .inr (by rw [h]; exact hq1)
    · exact .inl (.inr (.inr h))
  clear y0 y1 y2 v0 v1 v2 v3 v4 ylt vlt
  obtain ⟨y0, y1, y2⟩ := HW1.out.cells
  obtain ⟨v0, v1, v2, v3, v4⟩ := HPB1.out.cells
  have ylt := Blk.lt HW1.out
  have yf0 := HW1.out.fz 0
  have vlt := Blk.lt HPB1.out
  have hpb : pb ≠ b := Blk.ne_ HPB1.out HW1.out (by decide)
  have hpb2 : b ≠ pb := Ne.symm hpb
  clear hq1 P1 hb1 HA HW HL HPB HW1 HPB1
  go_wp2_with fail
  clear y0 y1 y2 v0 v1 v2 v3 v4 ylt yf0 vlt hpb hpb2
  have x0 := (HM.out.sa.2.2 0).1
  have x0' : c 0 ≤ 100000 := by have := (HM.out.sa.2.2 0).2; omega
  have x1 := (HM.out.sa.2.2 1).1
  have x1' : c 1 ≤ 100000 := by have := (HM.out.sa.2.2 1).2; omega
  have x2 := (HM.out.sa.2.2 2).1
  have x2' : c 2 ≤ 100000 := by have := (HM.out.sa.2.2 2).2; omega
  have x3 := (HM.out.sa.2.2 3).1
  have x3' : c 3 ≤ 100000 := by have := (HM.out.sa.2.2 3).2; omega
  refine (counts_any HM.out.sa.1).mono ?_; rintro e w2 ⟨rfl, hb2⟩
  have HM2 := Lib.hid ((HM.out.below hb2).alloc (.cells #[.int .i64 (c 0), .int .i64 (c 1), .int .i64 (c 2), .int .i64 (c 3), .int .i64 (c 4)] 54))
  have HC2 : Hid (CntB (w2.alloc (.cells #[.int .i64 (c 0), .int .i64 (c 1), .int .i64 (c 2), .int .i64 (c 3), .int .i64 (c 4)] 54)) w2.heap.size c) := Lib.hid (cnt_blk w2 c)
  clear HM hb2
  obtain ⟨y0, y1, y2⟩ := HM2.out.wb.cells
  obtain ⟨v0, v1, v2, v3, v4⟩ := HM2.out.pl.cells
  have ylt := Blk.lt HM2.out.wb
  have vlt := Blk.lt HM2.out.pl
  go_wp2_with fail
  generalize w2.alloc (.cells #[.int .i64 (c 0), .int .i64 (c 1), .int .i64 (c 2), .int .i64 (c 3), .int .i64 (c 4)] 54) = W2 at HM2 HC2 y0 y1 y2 v0 v1 v2 v3 v4 ylt vlt ⊢
  generalize w2.heap.size = b7 at HC2 ⊢
  have HMd := Lib.hid HM2.out.drew
  have HCd : Hid (CntB W2.drew b7 c) := Lib.hid HC2.out.drew
  obtain ⟨⟨k', g', hd', j⟩, hr⟩ : ∃ r, tkN hd nx .take0 = r := ⟨_, rfl⟩
  have hj : j < 4 := by have := tkN_j (hd := hd) (nx := nx) HK.out; rw [hr] at this; exact this
  have hg1 : g'.1 ≤ M ∧ g'.2 ≤ S := by have := tkN_g (hd := hd) (nx := nx) HK.out HFT.out HM2.out.sa.2.1.tag HM2.out.sa.2.1.lk; rw [hr] at this; exact this
  have hidle : k'.isIdle = false → k'.isTake = true := by have := tkN_take (hd := hd) (nx := nx) HK.out; rw [hr] at this; exact this
  have HG1 := Lib.hid hg1
  have HID := Lib.hid hidle
  have HRR := Lib.hid hr
  have hsum := sum_upd c hj
  obtain ⟨c', hc'⟩ : ∃ c', upd c j (c j + 1) = c' := ⟨_, rfl⟩
  rw [hc'] at hsum
  have HCC := Lib.hid hc'
  have ho : o = ⟨k', if k'.isIdle && decide (g'.2 ≠ 0) then hs ++ [g'.2 - 1] else hs, hd', nx, j⟩ := by
    rw [← HO.out]; unfold stepW; rw [if_pos HK.out, hr]
  have HO2 := Lib.hid ho
  clear hg1 hidle hr hc' ho hj
  obtain ⟨d, hdd⟩ : ∃ d, k'.isIdle = d := ⟨_, rfl⟩
  have HDD := Lib.hid hdd
  clear hdd
  go_region_held3 (fun W => W.cell? ⟨b, 0, none⟩ = some (.pointer (some ⟨q1, 0, none⟩)) ∧ W.cell? ⟨pb, 3, none⟩ = some (.pointer (some ⟨p, 0, none⟩))) (first | (with_reducible assumption) | (with_reducible exact ⟨HMd.out.wb.cells.1, HMd.out.pl.cells.2.2.2.1⟩) | (with_reducible exact ⟨HM3.out.wb.cells.1, HM3.out.pl.cells.2.2.2.1⟩))
    (first
      | (go_at_call 16; ((with_reducible refine (goT (V := 1) (T := 1) (t := 1) HR.out rfl HN.out HN2.out HMd.out.sa HMd.out.pg HK.out HFT.out hM2 hm2 HRR.out HDD.out).mono ?_); rintro e w3 ⟨f3, rfl, A3, P3, O3⟩; rw [HCC.out] at A3; have HM3 := Lib.hid (HMd.out.onlyT A3 P3 O3 HQ.out (.inl rfl) (.inr (.inl rfl))); have HPP := HMd.out.pg.some)))
  all_goals
    obtain ⟨_, _, _, PP⟩ := HPP
    have HC3 : Hid (CntB w3 b7 c) := Lib.hid (CntB.onlyT HCd.out HMd.out.sa.1 PP O3)
    clear A3 P3 O3 PP HMd HCd HM2 HC2 y0 y1 y2 v0 v1 v2 v3 v4 ylt vlt
    obtain ⟨y0, y1, y2⟩ := HM3.out.wb.cells
    have ylt := Blk.lt HM3.out.wb
    have yf0 := HM3.out.wb.fz 0
    have yf2 := HM3.out.wb.fz 2
    cases d
    · have HFin : Hid (PlayedW pb p g n cap S M m b q av hv c' .idle k' hs hd' nx w w3) := by
        have hkt := HID.out HDD.out
        refine Lib.hid ⟨f3, q1, hv, HM3.out.sa, ⟨?_, HM3.out.li, ⟨fun _ => ⟨_, HM3.out.pg⟩, fun h => by rw [isTake_give hkt] at h; cases h⟩⟩, HM3.out.pl, HM3.out.fr, HFOOT.out k'⟩
        have := HM3.out.wb
        unfold tvK gvK
        rw [hkt, isTake_give hkt]
        exact this
      have HOO : Hid (o = ⟨k', hs, hd', nx, j⟩) := by
        have := HO2.out
        rw [HDD.out] at this
        exact Lib.hid this
      have HC7 := HC3
      obtain ⟨_, _, _, v3, _⟩ := HM3.out.pl.cells
      have vlt := Blk.lt HM3.out.pl
      have hpb : pb ≠ b := Blk.ne_ HM3.out.pl HM3.out.wb (by decide)
      have hpb2 : b ≠ pb := Ne.symm hpb
      clear HM3 HC3
      go_wp2_with fail
      clear y0 y1 y2 ylt yf0 yf2 v3 vlt hpb hpb2
      obtain ⟨⟨fz, Az⟩, mz, Pz⟩ := HFin.out.ar
      have HAz := Lib.hid Az
      have u0 := (mz 0).1
      have u0' : c' 0 ≤ 100001 := by have := (mz 0).2; omega
      have u1 := (mz 1).1
      have u1' : c' 1 ≤ 100001 := by have := (mz 1).2; omega
      have u2 := (mz 2).1
      have u2' : c' 2 ≤ 100001 := by have := (mz 2).2; omega
      have u3 := (mz 3).1
      have u3' : c' 3 ≤ 100001 := by have := (mz 3).2; omega
      obtain ⟨z0, z1, z2, z3, z4⟩ := Pz.cells
      have zlt := Blk.lt Pz
      have hb7 := HC7.out.lt
      clear Az mz Pz z0 z1 z2 z4
      refine (counts_any HAz.out).mono ?_; rintro e w9 ⟨rfl, hb9⟩
      have d70 : w9.cell? ⟨b7, 0, none⟩ = some (.int .i64 (c 0)) := (HC7.out.below hb9 hb7).cell 0
      have d71 : w9.cell? ⟨b7, 1, none⟩ = some (.int .i64 (c 1)) := (HC7.out.below hb9 hb7).cell 1
      have d72 : w9.cell? ⟨b7, 2, none⟩ = some (.int .i64 (c 2)) := (HC7.out.below hb9 hb7).cell 2
      have d73 : w9.cell? ⟨b7, 3, none⟩ = some (.int .i64 (c 3)) := (HC7.out.below hb9 hb7).cell 3
      have hb79 := Nat.lt_of_lt_of_le hb7 hb9.size
      have HFin2 := Lib.hid (HFin.out.below hb9)
      clear HFin HC7 hb9 HAz z3 zlt hb7
      go_wp2_with fail
      go_ret
      refine ⟨retL_bool (by first | (simp; done) | (simp; omega)), ?_⟩
      rw [HOO.out]
      simp only
      rw [HCC.out]
      exact HFin2.out.below ((Below.refl _ _).alloc (Nat.le_refl _) _)
    · have hki := isIdle_eq HDD.out
      subst hki
      go_wp2_with fail
      refine (slotT_any (V := 1) (T := 1) (S := S) HR.out HM3.out.pg (by have := HG1.out.1; omega) HG1.out.2).mono ?_; rintro e w4 ⟨rfl, hb4⟩
      have HM4 := Lib.hid (HM3.out.below hb4)
      have HC4 : Hid (CntB w4 b7 c) := Lib.hid (HC3.out.below hb4 HC3.out.lt)
      clear HM3 HC3 hb4 y0 y1 y2 ylt yf0 yf2
      obtain ⟨y0, y1, y2⟩ := HM4.out.wb.cells
      have ylt := Blk.lt HM4.out.wb
      have yf0 := HM4.out.wb.fz 0
      have yf2 := HM4.out.wb.fz 2
      by_cases h0 : g'.2 = 0
      · have e0 : decide (g'.2 ≠ 0) = false := by simp [h0]
        rw [e0]
        have HFin : Hid (PlayedW pb p g n cap S M m b q av hv c' .idle .idle hs hd' nx w (w4.setCell ⟨b, 0, none⟩ (.pointer none))) :=
          Lib.hid ⟨f3, q1, hv, HM4.out.sa.far HM4.out.wb 0 _, ⟨HM4.out.wb.set0 _, HM4.out.li.far HM4.out.wb 0 _, ⟨fun h => (by cases h), fun h => (by cases h)⟩⟩, HM4.out.pl.far HM4.out.wb 0 _, HM4.out.fr.set_ _ (.inl (.inr (.inr (.inl rfl)))), HFOOT.out .idle⟩
        have HC7 : Hid (CntB (w4.setCell ⟨b, 0, none⟩ (.pointer none)) b7 c) := Lib.hid (HC4.out.far HM4.out.wb 0 _)
        have HOO : Hid (o = ⟨.idle, hs, hd', nx, j⟩) := by
          have := HO2.out
          rw [e0] at this
          exact Lib.hid this
        obtain ⟨_, _, _, v3, _⟩ := HM4.out.pl.cells
        have vlt := Blk.lt HM4.out.pl
        have hpb : pb ≠ b := Blk.ne_ HM4.out.pl HM4.out.wb (by decide)
        have hpb2 : b ≠ pb := Ne.symm hpb
        clear e0 h0 HM4 HC4
        go_wp2_with fail
        clear y0 y1 y2 ylt yf0 yf2 v3 vlt hpb hpb2
        obtain ⟨⟨fz, Az⟩, mz, Pz⟩ := HFin.out.ar
        have HAz := Lib.hid Az
        have u0 := (mz 0).1
        have u0' : c' 0 ≤ 100001 := by have := (mz 0).2; omega
        have u1 := (mz 1).1
        have u1' : c' 1 ≤ 100001 := by have := (mz 1).2; omega
        have u2 := (mz 2).1
        have u2' : c' 2 ≤ 100001 := by have := (mz 2).2; omega
        have u3 := (mz 3).1
        have u3' : c' 3 ≤ 100001 := by have := (mz 3).2; omega
        obtain ⟨z0, z1, z2, z3, z4⟩ := Pz.cells
        have zlt := Blk.lt Pz
        have hb7 := HC7.out.lt
        clear Az mz Pz z0 z1 z2 z4
        refine (counts_any HAz.out).mono ?_; rintro e w9 ⟨rfl, hb9⟩
        have d70 : w9.cell? ⟨b7, 0, none⟩ = some (.int .i64 (c 0)) := (HC7.out.below hb9 hb7).cell 0
        have d71 : w9.cell? ⟨b7, 1, none⟩ = some (.int .i64 (c 1)) := (HC7.out.below hb9 hb7).cell 1
        have d72 : w9.cell? ⟨b7, 2, none⟩ = some (.int .i64 (c 2)) := (HC7.out.below hb9 hb7).cell 2
        have d73 : w9.cell? ⟨b7, 3, none⟩ = some (.int .i64 (c 3)) := (HC7.out.below hb9 hb7).cell 3
        have hb79 := Nat.lt_of_lt_of_le hb7 hb9.size
        have HFin2 := Lib.hid (HFin.out.below hb9)
        clear HFin HC7 hb9 HAz z3 zlt hb7
        go_wp2_with fail
        go_ret
        refine ⟨retL_bool (by first | (simp; done) | (simp; omega)), ?_⟩
        rw [HOO.out]
        simp only
        rw [HCC.out]
        exact HFin2.out.below ((Below.refl _ _).alloc (Nat.le_refl _) _)
      · have e0 : decide (g'.2 ≠ 0) = true := by simp [h0]
        rw [e0]
        have HOO : Hid (o = ⟨.idle, hs ++ [g'.2 - 1], hd', nx, j⟩) := by
          have := HO2.out
          rw [e0] at this
          exact Lib.hid this
        clear e0 h0
        go_wp2_with (at_builtin; refine wpList_append_li _ rfl _ _ rfl rfl (HM4.out.li.alloc _) ⟨w4.heap.size, 0, none⟩ 1 (g'.2 - 1) rfl (cell_new1 _ _ _) hlen5 ?_)
        intro hv5 w5 hli5 hg5 hbk5
        have HMa := HM4.out.alloc (.cells #[.int .i64 ((g'.2 - 1 : Nat) : Int)] 3)
        have WB5 := WB.grown HMa.wb HMa.li hg5 rfl
        have SA5 := SA.grown HMa.sa HMa.li hg5 rfl
        have PL5 := PlB.grown HMa.pl HMa.li hg5 rfl
        have HC5 : CntB w5 b7 c := CntB.grown (Blk.alloc HC4.out (.cells #[.int .i64 ((g'.2 - 1 : Nat) : Int)] 3)) HMa.li hg5 rfl
        have FR5 := HMa.fr.grown hg5 (fun i hi => (HFOOT.out .idle i (.inr (.inr hi))).imp (fun h => .inr (.inr h)) id)
        have hw4 : w.heap.size ≤ w4.heap.size := HM4.out.fr.size
        have HFin : Hid (PlayedW pb p g n cap S M m b q av hv c' .idle .idle (hs ++ [g'.2 - 1]) hd' nx w ((w5.setCell ⟨b, 2, none⟩ hv5).setCell ⟨b, 0, none⟩ (.pointer none))) := by
          refine Lib.hid ⟨f3, q1, hv5, (SA5.far WB5 2 _).far (WB5.set2 _) 0 _, ⟨(WB5.set2 _).set0 _, (hli5.far WB5 2 _).far (WB5.set2 _) 0 _, ⟨fun h => (by cases h), fun h => (by cases h)⟩⟩, (PL5.far WB5 2 _).far (WB5.set2 _) 0 _, (FR5.set_ _ (.inl (.inr (.inr (.inl rfl))))).set_ _ (.inl (.inr (.inr (.inl rfl)))), ?_⟩
          rintro i (rfl | ⟨hk, _⟩ | e)
          · exact .inl (.inl rfl)
          · exact absurd rfl hk
          · rcases hbk5 with e' | ⟨i', e', hi'⟩
            · rw [e'] at e
              exact HFOOT.out .idle i (.inr (.inr e))
            · rw [e] at e'; cases e'
              right
              have : w4.heap.size + 1 ≤ i := by simpa using hi'
              omega
        have HC7 : Hid (CntB ((w5.setCell ⟨b, 2, none⟩ hv5).setCell ⟨b, 0, none⟩ (.pointer none)) b7 c) := Lib.hid ((HC5.far WB5 2 _).far (WB5.set2 _) 0 _)
        clear y0 y1 y2 ylt yf0 yf2
        obtain ⟨y0, y1, y2⟩ := WB5.cells
        have ylt := Blk.lt WB5
        have yf0 := WB5.fz 0
        have yf2 := WB5.fz 2
        obtain ⟨_, _, _, v3, _⟩ := PL5.cells
        have vlt := Blk.lt PL5
        have hpb : pb ≠ b := Blk.ne_ PL5 WB5 (by decide)
        have hpb2 : b ≠ pb := Ne.symm hpb
        obtain ⟨ha, hc, hve, _, _⟩ := hli5.shape
        first | (rw [List.length_append, List.length_singleton] at hve) | (simp only [List.length_singleton] at hve)
        subst hve
        clear HM4 HC4 HMa hli5 hg5 hbk5 WB5 SA5 PL5 HC5 FR5
        go_wp2_with fail
        clear y0 y1 y2 ylt yf0 yf2 v3 vlt hpb hpb2
        obtain ⟨⟨fz, Az⟩, mz, Pz⟩ := HFin.out.ar
        have HAz := Lib.hid Az
        have u0 := (mz 0).1
        have u0' : c' 0 ≤ 100001 := by have := (mz 0).2; omega
        have u1 := (mz 1).1
        have u1' : c' 1 ≤ 100001 := by have := (mz 1).2; omega
        have u2 := (mz 2).1
        have u2' : c' 2 ≤ 100001 := by have := (mz 2).2; omega
        have u3 := (mz 3).1
        have u3' : c' 3 ≤ 100001 := by have := (mz 3).2; omega
        obtain ⟨z0, z1, z2, z3, z4⟩ := Pz.cells
        have zlt := Blk.lt Pz
        have hb7 := HC7.out.lt
        clear Az mz Pz z0 z1 z2 z4
        refine (counts_any HAz.out).mono ?_; rintro e w9 ⟨rfl, hb9⟩
        have d70 : w9.cell? ⟨b7, 0, none⟩ = some (.int .i64 (c 0)) := (HC7.out.below hb9 hb7).cell 0
        have d71 : w9.cell? ⟨b7, 1, none⟩ = some (.int .i64 (c 1)) := (HC7.out.below hb9 hb7).cell 1
        have d72 : w9.cell? ⟨b7, 2, none⟩ = some (.int .i64 (c 2)) := (HC7.out.below hb9 hb7).cell 2
        have d73 : w9.cell? ⟨b7, 3, none⟩ = some (.int .i64 (c 3)) := (HC7.out.below hb9 hb7).cell 3
        have hb79 := Nat.lt_of_lt_of_le hb7 hb9.size
        have HFin2 := Lib.hid (HFin.out.below hb9)
        clear HFin HC7 hb9 HAz z3 zlt hb7
        go_wp2_with fail
        go_ret
        refine ⟨retL_bool (by first | (simp; done) | (simp; omega)), ?_⟩
        rw [HOO.out]
        simp only
        rw [HCC.out]
        exact HFin2.out.below ((Below.refl _ _).alloc (Nat.le_refl _) _)

set_option maxHeartbeats 8000000 in
theorem playStep_idle2 {ha : Option Addr} {hc : Nat} (hS : S ≤ 48) (hn : 1 < n) (hn2 : ∀ s, s < S → 1 + 1 + s * 7 < n) (A : SA w p g n cap 1 S M m c f hd nx) (PB : PlB w pb p S av) (W : WkM w b q S (.slice ha 0 hc) .idle ([] : List Nat)) (hlen : ([] : List Nat).length ≤ 48) (hM : M ≤ 10000) (hm2 : m ≤ 100000) :
    Calls Try.prog 19 #[.pointer (some ⟨pb, 0, none⟩), .pointer (some ⟨b, 0, none⟩), .bool true] w fun e w' =>
      e = .returned (.bool true) ∧ PlayedW pb p g n cap S M m b q av (.slice ha 0 hc) (upd c (stepW hd nx .take0 ([] : List Nat)).j (c (stepW hd nx .take0 ([] : List Nat)).j + 1)) .idle (stepW hd nx .take0 ([] : List Nat)).k (stepW hd nx .take0 ([] : List Nat)).hs (stepW hd nx .take0 ([] : List Nat)).hd (stepW hd nx .take0 ([] : List Nat)).nx w w' := by
  obtain ⟨o, ho⟩ : ∃ o, stepW hd nx .take0 ([] : List Nat) = o := ⟨_, rfl⟩
  rw [ho]
  have hR : Rt 1 (S : Int) 1 := ⟨by omega, by omega, by omega, by omega, by omega, by omega⟩
  have hM2 : M ≤ 100000 := by omega
  have HR := Lib.hid hR
  have HN := Lib.hid hn
  have HN2 := Lib.hid hn2
  have HO := Lib.hid ho
  have hlen5 : ([] : List Nat).length ≤ 100000 := by first | omega | (simp at hlen ⊢; omega) | (simp; done)
  have HK : Hid (Wk.take0.isTake = true) := Lib.hid rfl
  have HFT : Hid (Wk.take0.fit S M) := Lib.hid trivial
  have hw0 : WB w b (.pointer none) (.pointer none) (.slice ha 0 hc) := W.own
  have HA := Lib.hid A
  have HW := Lib.hid hw0
  have HL := Lib.hid W.has
  have HPB := Lib.hid PB
  obtain ⟨y0, y1, y2⟩ := hw0.cells
  obtain ⟨v0, v1, v2, v3, v4⟩ := PB.cells
  have ylt := Blk.lt hw0
  have vlt := Blk.lt PB
  clear hR hn hn2 ho hw0 A PB W hlen
  go_enter Try.func19, Try.ntmps19
  go_wp2_with fail
  refine (goN 1 1 S _).mono ?_; rintro e w1 ⟨q1, rfl, hq1, P1, hb1⟩
  have HW1 := Lib.hid (show WB w1 b (.pointer none) (.pointer none) (.slice ha 0 hc) from Blk.below HW.out hb1 (Blk.lt HW.out))
  have HPB1 := Lib.hid (show PlB w1 pb p S av from Blk.below HPB.out hb1 (Blk.lt HPB.out))
  have HM : Hid (MidT (fun i => i = p ∨ i = g ∨ Foot b q (.slice ha 0 hc) .idle i) w pb p g n cap S M m b q1 av (.slice ha 0 hc) c f hd nx .take0 (0, 0) ([] : List Nat) (w1.setCell ⟨b, 0, none⟩ (.pointer (some ⟨q1, 0, none⟩)))) :=
    Lib.hid ⟨(HA.out.below hb1).far HW1.out 0 _, HW1.out.set0 _, (HL.out.below hb1).far HW1.out 0 _, P1.map fun P => P.far_ HW1.out 0 _, HPB1.out.far HW1.out 0 _, ((OnlyF.refl _).below hb1).set_ _ (.inl (.inr (.inr (.inl rfl))))⟩
  have HQ : Hid ((fun i => i = p ∨ i = g ∨ Foot b q (.slice ha 0 hc) .idle i) q1 ∨ w.heap.size ≤ q1) := Lib.hid (.inr hq1)
  have HFOOT : Hid (∀ k' i, Foot b q1 (.slice ha 0 hc) k' i → Foot b q (.slice ha 0 hc) .idle i ∨ w.heap.size ≤ i) := Lib.hid fun k' i h => by
    rcases h with h | ⟨_, h⟩ | h
    · exact .inl (.inl h)
    · exact .inr (by rw [h]; exact hq1)
    · exact .inl (.inr (.inr h))
  clear y0 y1 y2 v0 v1 v2 v3 v4 ylt vlt
  obtain ⟨y0, y1, y2⟩ := HW1.out.cells
  obtain ⟨v0, v1, v2, v3, v4⟩ := HPB1.out.cells
  have ylt := Blk.lt HW1.out
  have yf0 := HW1.out.fz 0
  have vlt := Blk.lt HPB1.out
  have hpb : pb ≠ b := Blk.ne_ HPB1.out HW1.out (by decide)
  have hpb2 : b ≠ pb := Ne.symm hpb
  clear hq1 P1 hb1 HA HW HL HPB HW1 HPB1
  go_wp2_with fail
  clear y0 y1 y2 v0 v1 v2 v3 v4 ylt yf0 vlt hpb hpb2
  have x0 := (HM.out.sa.2.2 0).1
  have x0' : c 0 ≤ 100000 := by have := (HM.out.sa.2.2 0).2; omega
  have x1 := (HM.out.sa.2.2 1).1
  have x1' : c 1 ≤ 100000 := by have := (HM.out.sa.2.2 1).2; omega
  have x2 := (HM.out.sa.2.2 2).1
  have x2' : c 2 ≤ 100000 := by have := (HM.out.sa.2.2 2).2; omega
  have x3 := (HM.out.sa.2.2 3).1
  have x3' : c 3 ≤ 100000 := by have := (HM.out.sa.2.2 3).2; omega
  refine (counts_any HM.out.sa.1).mono ?_; rintro e w2 ⟨rfl, hb2⟩
  have HM2 := Lib.hid ((HM.out.below hb2).alloc (.cells #[.int .i64 (c 0), .int .i64 (c 1), .int .i64 (c 2), .int .i64 (c 3), .int .i64 (c 4)] 54))
  have HC2 : Hid (CntB (w2.alloc (.cells #[.int .i64 (c 0), .int .i64 (c 1), .int .i64 (c 2), .int .i64 (c 3), .int .i64 (c 4)] 54)) w2.heap.size c) := Lib.hid (cnt_blk w2 c)
  clear HM hb2
  obtain ⟨y0, y1, y2⟩ := HM2.out.wb.cells
  obtain ⟨v0, v1, v2, v3, v4⟩ := HM2.out.pl.cells
  have ylt := Blk.lt HM2.out.wb
  have vlt := Blk.lt HM2.out.pl
  go_wp2_with fail
  generalize w2.alloc (.cells #[.int .i64 (c 0), .int .i64 (c 1), .int .i64 (c 2), .int .i64 (c 3), .int .i64 (c 4)] 54) = W2 at HM2 HC2 y0 y1 y2 v0 v1 v2 v3 v4 ylt vlt ⊢
  generalize w2.heap.size = b7 at HC2 ⊢
  have HMd := Lib.hid HM2.out.drew
  have HCd : Hid (CntB W2.drew b7 c) := Lib.hid HC2.out.drew
  obtain ⟨⟨k', g', hd', j⟩, hr⟩ : ∃ r, tkN hd nx .take0 = r := ⟨_, rfl⟩
  have hj : j < 4 := by have := tkN_j (hd := hd) (nx := nx) HK.out; rw [hr] at this; exact this
  have hg1 : g'.1 ≤ M ∧ g'.2 ≤ S := by have := tkN_g (hd := hd) (nx := nx) HK.out HFT.out HM2.out.sa.2.1.tag HM2.out.sa.2.1.lk; rw [hr] at this; exact this
  have hidle : k'.isIdle = false → k'.isTake = true := by have := tkN_take (hd := hd) (nx := nx) HK.out; rw [hr] at this; exact this
  have HG1 := Lib.hid hg1
  have HID := Lib.hid hidle
  have HRR := Lib.hid hr
  have hsum := sum_upd c hj
  obtain ⟨c', hc'⟩ : ∃ c', upd c j (c j + 1) = c' := ⟨_, rfl⟩
  rw [hc'] at hsum
  have HCC := Lib.hid hc'
  have ho : o = ⟨k', if k'.isIdle && decide (g'.2 ≠ 0) then ([] : List Nat) ++ [g'.2 - 1] else ([] : List Nat), hd', nx, j⟩ := by
    rw [← HO.out]; unfold stepW; rw [if_pos HK.out, hr]
  have HO2 := Lib.hid ho
  clear hg1 hidle hr hc' ho hj
  obtain ⟨d, hdd⟩ : ∃ d, k'.isIdle = d := ⟨_, rfl⟩
  have HDD := Lib.hid hdd
  clear hdd
  go_region_held3 (fun W => W.cell? ⟨b, 0, none⟩ = some (.pointer (some ⟨q1, 0, none⟩)) ∧ W.cell? ⟨pb, 3, none⟩ = some (.pointer (some ⟨p, 0, none⟩))) (first | (with_reducible assumption) | (with_reducible exact ⟨HMd.out.wb.cells.1, HMd.out.pl.cells.2.2.2.1⟩) | (with_reducible exact ⟨HM3.out.wb.cells.1, HM3.out.pl.cells.2.2.2.1⟩))
    (first
      | (go_at_call 16; ((with_reducible refine (goT (V := 1) (T := 1) (t := 1) HR.out rfl HN.out HN2.out HMd.out.sa HMd.out.pg HK.out HFT.out hM2 hm2 HRR.out HDD.out).mono ?_); rintro e w3 ⟨f3, rfl, A3, P3, O3⟩; rw [HCC.out] at A3; have HM3 := Lib.hid (HMd.out.onlyT A3 P3 O3 HQ.out (.inl rfl) (.inr (.inl rfl))); have HPP := HMd.out.pg.some)))
  all_goals
    obtain ⟨_, _, _, PP⟩ := HPP
    have HC3 : Hid (CntB w3 b7 c) := Lib.hid (CntB.onlyT HCd.out HMd.out.sa.1 PP O3)
    clear A3 P3 O3 PP HMd HCd HM2 HC2 y0 y1 y2 v0 v1 v2 v3 v4 ylt vlt
    obtain ⟨y0, y1, y2⟩ := HM3.out.wb.cells
    have ylt := Blk.lt HM3.out.wb
    have yf0 := HM3.out.wb.fz 0
    have yf2 := HM3.out.wb.fz 2
    cases d
    · have HFin : Hid (PlayedW pb p g n cap S M m b q av (.slice ha 0 hc) c' .idle k' ([] : List Nat) hd' nx w w3) := by
        have hkt := HID.out HDD.out
        refine Lib.hid ⟨f3, q1, (.slice ha 0 hc), HM3.out.sa, ⟨?_, HM3.out.li, ⟨fun _ => ⟨_, HM3.out.pg⟩, fun h => by rw [isTake_give hkt] at h; cases h⟩⟩, HM3.out.pl, HM3.out.fr, HFOOT.out k'⟩
        have := HM3.out.wb
        unfold tvK gvK
        rw [hkt, isTake_give hkt]
        exact this
      have HOO : Hid (o = ⟨k', ([] : List Nat), hd', nx, j⟩) := by
        have := HO2.out
        rw [HDD.out] at this
        exact Lib.hid this
      have HC7 := HC3
      obtain ⟨_, _, _, v3, _⟩ := HM3.out.pl.cells
      have vlt := Blk.lt HM3.out.pl
      have hpb : pb ≠ b := Blk.ne_ HM3.out.pl HM3.out.wb (by decide)
      have hpb2 : b ≠ pb := Ne.symm hpb
      clear HM3 HC3
      go_wp2_with fail
      clear y0 y1 y2 ylt yf0 yf2 v3 vlt hpb hpb2
      obtain ⟨⟨fz, Az⟩, mz, Pz⟩ := HFin.out.ar
      have HAz := Lib.hid Az
      have u0 := (mz 0).1
      have u0' : c' 0 ≤ 100001 := by have := (mz 0).2; omega
      have u1 := (mz 1).1
      have u1' : c' 1 ≤ 100001 := by have := (mz 1).2; omega
      have u2 := (mz 2).1
      have u2' : c' 2 ≤ 100001 := by have := (mz 2).2; omega
      have u3 := (mz 3).1
      have u3' : c' 3 ≤ 100001 := by have := (mz 3).2; omega
      obtain ⟨z0, z1, z2, z3, z4⟩ := Pz.cells
      have zlt := Blk.lt Pz
      have hb7 := HC7.out.lt
      clear Az mz Pz z0 z1 z2 z4
      refine (counts_any HAz.out).mono ?_; rintro e w9 ⟨rfl, hb9⟩
      have d70 : w9.cell? ⟨b7, 0, none⟩ = some (.int .i64 (c 0)) := (HC7.out.below hb9 hb7).cell 0
      have d71 : w9.cell? ⟨b7, 1, none⟩ = some (.int .i64 (c 1)) := (HC7.out.below hb9 hb7).cell 1
      have d72 : w9.cell? ⟨b7, 2, none⟩ = some (.int .i64 (c 2)) := (HC7.out.below hb9 hb7).cell 2
      have d73 : w9.cell? ⟨b7, 3, none⟩ = some (.int .i64 (c 3)) := (HC7.out.below hb9 hb7).cell 3
      have hb79 := Nat.lt_of_lt_of_le hb7 hb9.size
      have HFin2 := Lib.hid (HFin.out.below hb9)
      clear HFin HC7 hb9 HAz z3 zlt hb7
      go_wp2_with fail
      go_ret
      refine ⟨retL_bool (by first | (simp; done) | (simp; omega)), ?_⟩
      rw [HOO.out]
      simp only
      rw [HCC.out]
      exact HFin2.out.below ((Below.refl _ _).alloc (Nat.le_refl _) _)
    · have hki := isIdle_eq HDD.out
      subst hki
      go_wp2_with fail
      refine (slotT_any (V := 1) (T := 1) (S := S) HR.out HM3.out.pg (by have := HG1.out.1; omega) HG1.out.2).mono ?_; rintro e w4 ⟨rfl, hb4⟩
      have HM4 := Lib.hid (HM3.out.below hb4)
      have HC4 : Hid (CntB w4 b7 c) := Lib.hid (HC3.out.below hb4 HC3.out.lt)
      clear HM3 HC3 hb4 y0 y1 y2 ylt yf0 yf2
      obtain ⟨y0, y1, y2⟩ := HM4.out.wb.cells
      have ylt := Blk.lt HM4.out.wb
      have yf0 := HM4.out.wb.fz 0
      have yf2 := HM4.out.wb.fz 2
      by_cases h0 : g'.2 = 0
      · have e0 : decide (g'.2 ≠ 0) = false := by simp [h0]
        rw [e0]
        have HFin : Hid (PlayedW pb p g n cap S M m b q av (.slice ha 0 hc) c' .idle .idle ([] : List Nat) hd' nx w (w4.setCell ⟨b, 0, none⟩ (.pointer none))) :=
          Lib.hid ⟨f3, q1, (.slice ha 0 hc), HM4.out.sa.far HM4.out.wb 0 _, ⟨HM4.out.wb.set0 _, HM4.out.li.far HM4.out.wb 0 _, ⟨fun h => (by cases h), fun h => (by cases h)⟩⟩, HM4.out.pl.far HM4.out.wb 0 _, HM4.out.fr.set_ _ (.inl (.inr (.inr (.inl rfl)))), HFOOT.out .idle⟩
        have HC7 : Hid (CntB (w4.setCell ⟨b, 0, none⟩ (.pointer none)) b7 c) := Lib.hid (HC4.out.far HM4.out.wb 0 _)
        have HOO : Hid (o = ⟨.idle, ([] : List Nat), hd', nx, j⟩) := by
          have := HO2.out
          rw [e0] at this
          exact Lib.hid this
        obtain ⟨_, _, _, v3, _⟩ := HM4.out.pl.cells
        have vlt := Blk.lt HM4.out.pl
        have hpb : pb ≠ b := Blk.ne_ HM4.out.pl HM4.out.wb (by decide)
        have hpb2 : b ≠ pb := Ne.symm hpb
        clear e0 h0 HM4 HC4
        go_wp2_with fail
        clear y0 y1 y2 ylt yf0 yf2 v3 vlt hpb hpb2
        obtain ⟨⟨fz, Az⟩, mz, Pz⟩ := HFin.out.ar
        have HAz := Lib.hid Az
        have u0 := (mz 0).1
        have u0' : c' 0 ≤ 100001 := by have := (mz 0).2; omega
        have u1 := (mz 1).1
        have u1' : c' 1 ≤ 100001 := by have := (mz 1).2; omega
        have u2 := (mz 2).1
        have u2' : c' 2 ≤ 100001 := by have := (mz 2).2; omega
        have u3 := (mz 3).1
        have u3' : c' 3 ≤ 100001 := by have := (mz 3).2; omega
        obtain ⟨z0, z1, z2, z3, z4⟩ := Pz.cells
        have zlt := Blk.lt Pz
        have hb7 := HC7.out.lt
        clear Az mz Pz z0 z1 z2 z4
        refine (counts_any HAz.out).mono ?_; rintro e w9 ⟨rfl, hb9⟩
        have d70 : w9.cell? ⟨b7, 0, none⟩ = some (.int .i64 (c 0)) := (HC7.out.below hb9 hb7).cell 0
        have d71 : w9.cell? ⟨b7, 1, none⟩ = some (.int .i64 (c 1)) := (HC7.out.below hb9 hb7).cell 1
        have d72 : w9.cell? ⟨b7, 2, none⟩ = some (.int .i64 (c 2)) := (HC7.out.below hb9 hb7).cell 2
        have d73 : w9.cell? ⟨b7, 3, none⟩ = some (.int .i64 (c 3)) := (HC7.out.below hb9 hb7).cell 3
        have hb79 := Nat.lt_of_lt_of_le hb7 hb9.size
        have HFin2 := Lib.hid (HFin.out.below hb9)
        clear HFin HC7 hb9 HAz z3 zlt hb7
        go_wp2_with fail
        go_ret
        refine ⟨retL_bool (by first | (simp; done) | (simp; omega)), ?_⟩
        rw [HOO.out]
        simp only
        rw [HCC.out]
        exact HFin2.out.below ((Below.refl _ _).alloc (Nat.le_refl _) _)
      · have e0 : decide (g'.2 ≠ 0) = true := by simp [h0]
        rw [e0]
        have HOO : Hid (o = ⟨.idle, ([] : List Nat) ++ [g'.2 - 1], hd', nx, j⟩) := by
          have := HO2.out
          rw [e0] at this
          exact Lib.hid this
        clear e0 h0
        go_wp2_with (at_builtin; refine wpList_append_li _ rfl _ _ rfl rfl (HM4.out.li.alloc _) ⟨w4.heap.size, 0, none⟩ 1 (g'.2 - 1) rfl (cell_new1 _ _ _) hlen5 ?_)
        intro hv5 w5 hli5 hg5 hbk5
        have HMa := HM4.out.alloc (.cells #[.int .i64 ((g'.2 - 1 : Nat) : Int)] 3)
        have WB5 := WB.grown HMa.wb HMa.li hg5 rfl
        have SA5 := SA.grown HMa.sa HMa.li hg5 rfl
        have PL5 := PlB.grown HMa.pl HMa.li hg5 rfl
        have HC5 : CntB w5 b7 c := CntB.grown (Blk.alloc HC4.out (.cells #[.int .i64 ((g'.2 - 1 : Nat) : Int)] 3)) HMa.li hg5 rfl
        have FR5 := HMa.fr.grown hg5 (fun i hi => (HFOOT.out .idle i (.inr (.inr hi))).imp (fun h => .inr (.inr h)) id)
        have hw4 : w.heap.size ≤ w4.heap.size := HM4.out.fr.size
        have HFin : Hid (PlayedW pb p g n cap S M m b q av (.slice ha 0 hc) c' .idle .idle (([] : List Nat) ++ [g'.2 - 1]) hd' nx w ((w5.setCell ⟨b, 2, none⟩ hv5).setCell ⟨b, 0, none⟩ (.pointer none))) := by
          refine Lib.hid ⟨f3, q1, hv5, (SA5.far WB5 2 _).far (WB5.set2 _) 0 _, ⟨(WB5.set2 _).set0 _, (hli5.far WB5 2 _).far (WB5.set2 _) 0 _, ⟨fun h => (by cases h), fun h => (by cases h)⟩⟩, (PL5.far WB5 2 _).far (WB5.set2 _) 0 _, (FR5.set_ _ (.inl (.inr (.inr (.inl rfl))))).set_ _ (.inl (.inr (.inr (.inl rfl)))), ?_⟩
          rintro i (rfl | ⟨hk, _⟩ | e)
          · exact .inl (.inl rfl)
          · exact absurd rfl hk
          · rcases hbk5 with e' | ⟨i', e', hi'⟩
            · rw [e'] at e
              exact HFOOT.out .idle i (.inr (.inr e))
            · rw [e] at e'; cases e'
              right
              have : w4.heap.size + 1 ≤ i := by simpa using hi'
              omega
        have HC7 : Hid (CntB ((w5.setCell ⟨b, 2, none⟩ hv5).setCell ⟨b, 0, none⟩ (.pointer none)) b7 c) := Lib.hid ((HC5.far WB5 2 _).far (WB5.set2 _) 0 _)
        clear y0 y1 y2 ylt yf0 yf2
        obtain ⟨y0, y1, y2⟩ := WB5.cells
        have ylt := Blk.lt WB5
        have yf0 := WB5.fz 0
        have yf2 := WB5.fz 2
        obtain ⟨_, _, _, v3, _⟩ := PL5.cells
        have vlt := Blk.lt PL5
        have hpb : pb ≠ b := Blk.ne_ PL5 WB5 (by decide)
        have hpb2 : b ≠ pb := Ne.symm hpb
        obtain ⟨ha, hc, hve, _, _⟩ := hli5.shape
        first | (rw [List.length_append, List.length_singleton] at hve) | (simp only [List.length_singleton] at hve)
        subst hve
        clear HM4 HC4 HMa hli5 hg5 hbk5 WB5 SA5 PL5 HC5 FR5
        go_wp2_with fail
        clear y0 y1 y2 ylt yf0 yf2 v3 vlt hpb hpb2
        obtain ⟨⟨fz, Az⟩, mz, Pz⟩ := HFin.out.ar
        have HAz := Lib.hid Az
        have u0 := (mz 0).1
        have u0' : c' 0 ≤ 100001 := by have := (mz 0).2; omega
        have u1 := (mz 1).1
        have u1' : c' 1 ≤ 100001 := by have := (mz 1).2; omega
        have u2 := (mz 2).1
        have u2' : c' 2 ≤ 100001 := by have := (mz 2).2; omega
        have u3 := (mz 3).1
        have u3' : c' 3 ≤ 100001 := by have := (mz 3).2; omega
        obtain ⟨z0, z1, z2, z3, z4⟩ := Pz.cells
        have zlt := Blk.lt Pz
        have hb7 := HC7.out.lt
        clear Az mz Pz z0 z1 z2 z4
        refine (counts_any HAz.out).mono ?_; rintro e w9 ⟨rfl, hb9⟩
        have d70 : w9.cell? ⟨b7, 0, none⟩ = some (.int .i64 (c 0)) := (HC7.out.below hb9 hb7).cell 0
        have d71 : w9.cell? ⟨b7, 1, none⟩ = some (.int .i64 (c 1)) := (HC7.out.below hb9 hb7).cell 1
        have d72 : w9.cell? ⟨b7, 2, none⟩ = some (.int .i64 (c 2)) := (HC7.out.below hb9 hb7).cell 2
        have d73 : w9.cell? ⟨b7, 3, none⟩ = some (.int .i64 (c 3)) := (HC7.out.below hb9 hb7).cell 3
        have hb79 := Nat.lt_of_lt_of_le hb7 hb9.size
        have HFin2 := Lib.hid (HFin.out.below hb9)
        clear HFin HC7 hb9 HAz z3 zlt hb7
        go_wp2_with fail
        go_ret
        refine ⟨retL_bool (by first | (simp; done) | (simp; omega)), ?_⟩
        rw [HOO.out]
        simp only
        rw [HCC.out]
        exact HFin2.out.below ((Below.refl _ _).alloc (Nat.le_refl _) _)
end
end Go.Proofs.Ytgjlilcljefbfaa
