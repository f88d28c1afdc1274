/- The contract of a play's step, of a worker that begins. Printed by wip/tools/slotu.py. -/
import Derived.Test.YtgjlilcljefbfaaSlotT
import Derived.Test.YtgjlilcljefbfaaSlotU
namespace Go.Proofs.Ytgjlilcljefbfaa
open Go.RowKit

set_option maxRecDepth 100000

section
variable {w : World} {pb p g n cap S M m b q : Nat} {av hv : Value} {c f : Nat → Int} {hd : Nat × Nat} {nx : Nat → Nat} {hs : List Nat}

set_option maxHeartbeats 8000000 in
theorem playStep_idle3 {hb hoff hcap s ln : Nat} (hS : S ≤ 48) (hn : 1 < n) (hn2 : ∀ s, s < S → 1 + 1 + s * 7 < n) (A : SA w p g n cap 1 S M m c f hd nx) (PB : PlB w pb p S av) (W : WkM w b q S (.slice (some ⟨hb, hoff, none⟩) ln hcap) .idle (s :: hs)) (hs2 : s < S) (hln : ln = hs.length + 1) (hlen : (s :: hs).length ≤ 48) (hM : M ≤ 10000) (hm2 : m ≤ 100000) :
    Calls Try.prog 19 #[.pointer (some ⟨pb, 0, none⟩), .pointer (some ⟨b, 0, none⟩), .bool true] w fun e w' =>
      e = .returned (.bool true) ∧ PlayedW pb p g n cap S M m b q av (.slice (some ⟨hb, hoff, none⟩) ln hcap) (upd c (stepW hd nx (.give0 s) hs).j (c (stepW hd nx (.give0 s) hs).j + 1)) .idle (stepW hd nx (.give0 s) hs).k (stepW hd nx (.give0 s) hs).hs (stepW hd nx (.give0 s) hs).hd (stepW hd nx (.give0 s) hs).nx w w' := by
  obtain ⟨o, ho⟩ : ∃ o, stepW hd nx (.give0 s) hs = o := ⟨_, rfl⟩
  rw [ho]
  have hR : Rt 1 (S : Int) 1 := ⟨by omega, by omega, by omega, by omega, by omega, by omega⟩
  have hM2 : M ≤ 100000 := by omega
  have HR := Lib.hid hR
  have HN := Lib.hid hn
  have HN2 := Lib.hid hn2
  have HO := Lib.hid ho
  have hlen5 : hs.length ≤ 100000 := by first | omega | (simp at hlen ⊢; omega) | (simp; done)
  have HK : Hid ((Wk.give0 s).isGive = true) := Lib.hid rfl
  have HGV : Hid ((Wk.give0 s).giving = [s]) := Lib.hid rfl
  have HFT : Hid ((Wk.give0 s).fit S M) := Lib.hid hs2
  have hw0 : WB w b (.pointer none) (.pointer none) (.slice (some ⟨hb, hoff, none⟩) ln hcap) := W.own
  have HA := Lib.hid A
  have HW := Lib.hid hw0
  have HL := Lib.hid W.has
  have HPB := Lib.hid PB
  have HS2 := Lib.hid hs2
  obtain ⟨hb1_, hoff1_, hcap1_, e1, hcm, hcl, hcp, hcell⟩ := W.has.open_ (by simp)
  injection e1 with e1 e2 e3
  injection e1 with e1
  injection e1 with e1a e1b _
  subst e1a e1b e3
  clear e2
  have hc0 : w.cell? ⟨hb, hoff, none⟩ = some (.int .i64 (s : Int)) := hcell 0 s rfl
  have hcl2 : hs.length + 1 ≤ hcap := by simpa using hcl
  have hcl4 : (1 : Int) ≤ (hcap : Int) := by omega
  have hln0 : (0 : Int) < (ln : Int) := by omega
  have hln2 : (1 : Int) ≤ (ln : Int) := by omega
  have hln3 : (ln : Int) ≤ (hcap : Int) := by omega
  have hln1 : ln - 1 = hs.length := by omega
  have HLN := Lib.hid hln
  have hnb : hb ≠ b := fun e => W.has.ne_blk hw0 (by decide) (by rw [bk_some (by omega), e])
  obtain ⟨y0, y1, y2⟩ := hw0.cells
  obtain ⟨v0, v1, v2, v3, v4⟩ := PB.cells
  have ylt := Blk.lt hw0
  have vlt := Blk.lt PB
  have HG0 : Hid (SG pb p S b hb hoff s av (.slice (some ⟨hb, hoff, none⟩) ln hcap) w) := Lib.hid ⟨PB, ⟨_, hw0⟩, hc0⟩
  clear hR hn hn2 ho hw0 A PB W hlen hcell hcm hcl hs2 hln hcl2
  go_enter Try.func19, Try.ntmps19
  go_wp2_with fail
  have HSd : Hid (SG pb p S b hb hoff s av (.slice (some ⟨hb, hoff, none⟩) ln hcap) w.drew) := Lib.hid (HG0.out.below (Below.refl _ _).drew)
  have hsg : ∀ W : World, SG pb p S b hb hoff s av (.slice (some ⟨hb, hoff, none⟩) ln hcap) W → W.cell? ⟨pb, 0, none⟩ = some (.int .i64 1) ∧ W.cell? ⟨pb, 1, none⟩ = some (.int .i64 S) ∧ W.cell? ⟨pb, 2, none⟩ = some (.int .i64 1) ∧ W.cell? ⟨b, 2, none⟩ = some (.slice (some ⟨hb, hoff, none⟩) ln hcap) ∧ W.cell? ⟨hb, hoff, none⟩ = some (.int .i64 (s : Int)) ∧ W.cell? ⟨b, 1, none⟩ = some (zAt W b 1) ∧ W.frozen? ⟨b, 1, none⟩ = false := fun W h => h.cells
  clear HG0
  go_region_held3 (SG pb p S b hb hoff s av (.slice (some ⟨hb, hoff, none⟩) ln hcap)) (first | (with_reducible assumption) | (with_reducible exact HSd.out) | (with_reducible exact SG.below (by assumption) hb1) | (with_reducible exact SG.set1 (by assumption) hnb _))
    (first
      | (go_at_call 12; ((with_reducible refine (goN2 (V := 1) (T := 1) (S := S) (s := s) HR.out HS2.out _).mono ?_); rintro e w1 ⟨q1, rfl, hq1, P1, hb1⟩)))
  all_goals
    have hbd : Below w.heap.size w w1 := (Below.refl _ _).drew.trans hb1
    have hq2 : w.heap.size ≤ q1 := hq1
    have HW1 := Lib.hid (show WB w1 b (.pointer none) (.pointer none) (.slice (some ⟨hb, hoff, none⟩) ln hcap) from Blk.below HW.out hbd (Blk.lt HW.out))
    have HPB1 := Lib.hid (show PlB w1 pb p S av from Blk.below HPB.out hbd (Blk.lt HPB.out))
    have HA1 := Lib.hid (HA.out.below hbd)
    have HL1 := Lib.hid (HL.out.below hbd)
    have HP1 := Lib.hid P1
    have HFR1 : Hid (OnlyF (fun i => i = p ∨ i = g ∨ Foot b q (.slice (some ⟨hb, hoff, none⟩) ln hcap) .idle i) w w1) := Lib.hid ((OnlyF.refl _).below hbd)
    clear hq1 P1 hb1 HA HW HL HPB hbd HSd hsg y0 y1 y2 v0 v1 v2 v3 v4 ylt vlt
    have HM : Hid (MidG (fun i => i = p ∨ i = g ∨ Foot b q (.slice (some ⟨hb, hoff, none⟩) ln hcap) .idle i) w pb p g n cap S M m b q1 s av (.slice (some ⟨hb, hoff, none⟩) ln hcap) c f hd nx (.give0 s) (s :: hs) (w1.setCell ⟨b, 1, none⟩ (.pointer (some ⟨q1, 0, none⟩)))) :=
      Lib.hid ⟨HA1.out.far HW1.out 1 _, HW1.out.set1 _, HL1.out.far HW1.out 1 _, HP1.out.map fun P => P.far_ HW1.out 1 _, HPB1.out.far HW1.out 1 _, HFR1.out.set_ _ (.inl (.inr (.inr (.inl rfl))))⟩
    have HQ : Hid ((fun i => i = p ∨ i = g ∨ Foot b q (.slice (some ⟨hb, hoff, none⟩) ln hcap) .idle i) q1 ∨ w.heap.size ≤ q1) := Lib.hid (.inr hq2)
    clear HW1 HPB1 HA1 HL1 HP1 HFR1
    generalize w1.setCell ⟨b, 1, none⟩ (.pointer (some ⟨q1, 0, none⟩)) = W1 at HM ⊢
    obtain ⟨y0, y1, y2⟩ := HM.out.wb.cells
    obtain ⟨v0, v1, v2, v3, v4⟩ := HM.out.pl.cells
    have ylt := Blk.lt HM.out.wb
    have yf2 := HM.out.wb.fz 2
    have vlt := Blk.lt HM.out.pl
    have hpb : pb ≠ b := Blk.ne_ HM.out.pl HM.out.wb (by decide)
    have hpb2 : b ≠ pb := Ne.symm hpb
    by_cases hcc : hcap = 1
    · obtain rfl : hs = [] := List.eq_nil_of_length_eq_zero (by have := HLN.out; omega)
      have HLt : LI W1 (.slice (some ⟨hb, hoff, none⟩) 0 0) [] := by have h := HM.out.li; rw [HLN.out, hcc] at h; have := h.tail; rw [if_pos rfl] at this; exact this
      have HFOOT : Hid (∀ k' i, Foot b q1 (.slice (some ⟨hb, hoff, none⟩) 0 0) k' i → Foot b q (.slice (some ⟨hb, hoff, none⟩) ln hcap) .idle i ∨ w.heap.size ≤ i) := Lib.hid fun k' i h => by
        rcases h with h | ⟨_, h⟩ | h
        · exact .inl (.inl h)
        · exact .inr (by rw [h]; exact hq2)
        · simp [bk] at h
      have HM' : Hid (MidG (fun i => i = p ∨ i = g ∨ Foot b q (.slice (some ⟨hb, hoff, none⟩) ln hcap) .idle i) w pb p g n cap S M m b q1 s av (.slice (some ⟨hb, hoff, none⟩) 0 0) c f hd nx (.give0 s) [] (W1.setCell ⟨b, 2, none⟩ (.slice (some ⟨hb, hoff, none⟩) 0 0))) :=
        Lib.hid ⟨HM.out.sa.far HM.out.wb 2 _, HM.out.wb.set2 _, HLt.far HM.out.wb 2 _, HM.out.pg.map fun P => P.far_ HM.out.wb 2 _, HM.out.pl.far HM.out.wb 2 _, HM.out.fr.set_ _ (.inl (.inr (.inr (.inl rfl))))⟩
      clear HM HLt hq2
      have HM := HM'
      clear HM'
      go_wp2_with fail
      clear y0 y1 y2 v0 v1 v2 v3 v4 ylt yf2 vlt hpb hpb2
      have x0 := (HM.out.sa.2.2 0).1
      have x0' : c 0 ≤ 100000 := by have := (HM.out.sa.2.2 0).2; omega
      have x1 := (HM.out.sa.2.2 1).1
      have x1' : c 1 ≤ 100000 := by have := (HM.out.sa.2.2 1).2; omega
      have x2 := (HM.out.sa.2.2 2).1
      have x2' : c 2 ≤ 100000 := by have := (HM.out.sa.2.2 2).2; omega
      have x3 := (HM.out.sa.2.2 3).1
      have x3' : c 3 ≤ 100000 := by have := (HM.out.sa.2.2 3).2; omega
      refine (counts_any HM.out.sa.1).mono ?_; rintro e w2 ⟨rfl, hb2⟩
      have HM2 := Lib.hid ((HM.out.below hb2).alloc (.cells #[.int .i64 (c 0), .int .i64 (c 1), .int .i64 (c 2), .int .i64 (c 3), .int .i64 (c 4)] 54))
      have HC2 : Hid (CntB (w2.alloc (.cells #[.int .i64 (c 0), .int .i64 (c 1), .int .i64 (c 2), .int .i64 (c 3), .int .i64 (c 4)] 54)) w2.heap.size c) := Lib.hid (cnt_blk w2 c)
      clear HM hb2
      obtain ⟨y0, y1, y2⟩ := HM2.out.wb.cells
      obtain ⟨v0, v1, v2, v3, v4⟩ := HM2.out.pl.cells
      have ylt := Blk.lt HM2.out.wb
      have vlt := Blk.lt HM2.out.pl
      go_wp2_with fail
      generalize w2.alloc (.cells #[.int .i64 (c 0), .int .i64 (c 1), .int .i64 (c 2), .int .i64 (c 3), .int .i64 (c 4)] 54) = W2 at HM2 HC2 y0 y1 y2 v0 v1 v2 v3 v4 ylt vlt ⊢
      generalize w2.heap.size = b7 at HC2 ⊢
      have HMd := Lib.hid HM2.out.drew
      have HCd : Hid (CntB W2.drew b7 c) := Lib.hid HC2.out.drew
      obtain ⟨⟨k', nx', hd', j⟩, hr⟩ : ∃ r, gvN hd nx (Wk.give0 s) = r := ⟨_, rfl⟩
      have hj : j < 4 := by have := gvN_j (hd := hd) (nx := nx) HK.out; rw [hr] at this; exact this
      have hidle : k'.isIdle = false → k'.isGive = true ∧ k'.giving = (Wk.give0 s).giving := by have := gvN_give (hd := hd) (nx := nx) HK.out; rw [hr] at this; exact this
      have HID := Lib.hid hidle
      have HRR := Lib.hid hr
      have hsum := sum_upd c hj
      obtain ⟨c', hc'⟩ : ∃ c', upd c j (c j + 1) = c' := ⟨_, rfl⟩
      rw [hc'] at hsum
      have HCC := Lib.hid hc'
      have ho : o = ⟨k', [], hd', nx', j⟩ := by
        rw [← HO.out]; unfold stepW; rw [if_neg (by rw [isGive_take HK.out]; simp), hr]
      have HOO := Lib.hid ho
      clear hidle hr hc' ho hj
      obtain ⟨d, hdd⟩ : ∃ d, k'.isIdle = d := ⟨_, rfl⟩
      have HDD := Lib.hid hdd
      clear hdd
      go_region_held3 (fun W => W.cell? ⟨b, 1, none⟩ = some (.pointer (some ⟨q1, 0, none⟩)) ∧ W.cell? ⟨pb, 3, none⟩ = some (.pointer (some ⟨p, 0, none⟩))) (first | (with_reducible assumption) | (with_reducible exact ⟨HMd.out.wb.cells.2.1, HMd.out.pl.cells.2.2.2.1⟩) | (with_reducible exact ⟨HM3.out.wb.cells.2.1, HM3.out.pl.cells.2.2.2.1⟩))
        (first
          | (go_at_call 13; ((with_reducible refine (goG (V := 1) (T := 1) (t := 1) HR.out rfl HN.out HN2.out HMd.out.sa HMd.out.pg HK.out HGV.out HFT.out hM2 hm2 HRR.out HDD.out).mono ?_); rintro e w3 ⟨f3, rfl, A3, P3, O3⟩; rw [HCC.out] at A3; have HM3 := Lib.hid (HMd.out.onlyT A3 P3 O3 HQ.out (.inl rfl) (.inr (.inl rfl))); have HPP := HMd.out.pg.some)))
      all_goals
        obtain ⟨_, _, _, PP⟩ := HPP
        have HC3 : Hid (CntB w3 b7 c) := Lib.hid (CntB.onlyT HCd.out HMd.out.sa.1 PP O3)
        clear A3 P3 O3 PP HMd HCd HM2 HC2 y0 y1 y2 v0 v1 v2 v3 v4 ylt vlt
        obtain ⟨y0, y1, y2⟩ := HM3.out.wb.cells
        have ylt := Blk.lt HM3.out.wb
        have yf1 := HM3.out.wb.fz 1
        cases d
        · have HFin : Hid (PlayedW pb p g n cap S M m b q av (.slice (some ⟨hb, hoff, none⟩) ln hcap) c' .idle k' [] hd' nx' w w3) := by
            have hkt := (HID.out HDD.out).1
            have hkg := (HID.out HDD.out).2
            refine Lib.hid ⟨f3, q1, (.slice (some ⟨hb, hoff, none⟩) 0 0), HM3.out.sa, ⟨?_, HM3.out.li, ⟨fun h => (by rw [isGive_take hkt] at h; cases h), fun _ => ⟨s, hkg.trans HGV.out, HM3.out.pg⟩⟩⟩, HM3.out.pl, HM3.out.fr, HFOOT.out k'⟩
            have := HM3.out.wb
            unfold tvK gvK
            rw [hkt, isGive_take hkt]
            exact this
          have HC7 := HC3
          obtain ⟨_, _, _, v3, _⟩ := HM3.out.pl.cells
          have vlt := Blk.lt HM3.out.pl
          have hpb : pb ≠ b := Blk.ne_ HM3.out.pl HM3.out.wb (by decide)
          have hpb2 : b ≠ pb := Ne.symm hpb
          clear HM3 HC3
          go_wp2_with fail
          clear y0 y1 y2 ylt yf1 v3 vlt hpb hpb2
          obtain ⟨⟨fz, Az⟩, mz, Pz⟩ := HFin.out.ar
          have HAz := Lib.hid Az
          have u0 := (mz 0).1
          have u0' : c' 0 ≤ 100001 := by have := (mz 0).2; omega
          have u1 := (mz 1).1
          have u1' : c' 1 ≤ 100001 := by have := (mz 1).2; omega
          have u2 := (mz 2).1
          have u2' : c' 2 ≤ 100001 := by have := (mz 2).2; omega
          have u3 := (mz 3).1
          have u3' : c' 3 ≤ 100001 := by have := (mz 3).2; omega
          obtain ⟨z0, z1, z2, z3, z4⟩ := Pz.cells
          have zlt := Blk.lt Pz
          have hb7 := HC7.out.lt
          clear Az mz Pz z0 z1 z2 z4
          refine (counts_any HAz.out).mono ?_; rintro e w9 ⟨rfl, hb9⟩
          have d70 : w9.cell? ⟨b7, 0, none⟩ = some (.int .i64 (c 0)) := (HC7.out.below hb9 hb7).cell 0
          have d71 : w9.cell? ⟨b7, 1, none⟩ = some (.int .i64 (c 1)) := (HC7.out.below hb9 hb7).cell 1
          have d72 : w9.cell? ⟨b7, 2, none⟩ = some (.int .i64 (c 2)) := (HC7.out.below hb9 hb7).cell 2
          have d73 : w9.cell? ⟨b7, 3, none⟩ = some (.int .i64 (c 3)) := (HC7.out.below hb9 hb7).cell 3
          have hb79 := Nat.lt_of_lt_of_le hb7 hb9.size
          have HFin2 := Lib.hid (HFin.out.below hb9)
          clear HFin HC7 hb9 HAz z3 zlt hb7
          go_wp2_with fail
          go_ret
          refine ⟨retL_bool (by first | (simp; done) | (simp; omega)), ?_⟩
          rw [HOO.out]
          simp only
          rw [HCC.out]
          exact HFin2.out.below ((Below.refl _ _).alloc (Nat.le_refl _) _)
        · have hki := isIdle_eq HDD.out
          subst hki
          have HFin : Hid (PlayedW pb p g n cap S M m b q av (.slice (some ⟨hb, hoff, none⟩) ln hcap) c' .idle .idle [] hd' nx' w (w3.setCell ⟨b, 1, none⟩ (.pointer none))) :=
            Lib.hid ⟨f3, q1, (.slice (some ⟨hb, hoff, none⟩) 0 0), HM3.out.sa.far HM3.out.wb 1 _, ⟨HM3.out.wb.set1 _, HM3.out.li.far HM3.out.wb 1 _, ⟨fun h => (by cases h), fun h => (by cases h)⟩⟩, HM3.out.pl.far HM3.out.wb 1 _, HM3.out.fr.set_ _ (.inl (.inr (.inr (.inl rfl)))), HFOOT.out .idle⟩
          have HC7 : Hid (CntB (w3.setCell ⟨b, 1, none⟩ (.pointer none)) b7 c) := Lib.hid (HC3.out.far HM3.out.wb 1 _)
          obtain ⟨_, _, _, v3, _⟩ := HM3.out.pl.cells
          have vlt := Blk.lt HM3.out.pl
          have hpb : pb ≠ b := Blk.ne_ HM3.out.pl HM3.out.wb (by decide)
          have hpb2 : b ≠ pb := Ne.symm hpb
          clear HM3 HC3
          go_wp2_with fail
          clear y0 y1 y2 ylt yf1 v3 vlt hpb hpb2
          obtain ⟨⟨fz, Az⟩, mz, Pz⟩ := HFin.out.ar
          have HAz := Lib.hid Az
          have u0 := (mz 0).1
          have u0' : c' 0 ≤ 100001 := by have := (mz 0).2; omega
          have u1 := (mz 1).1
          have u1' : c' 1 ≤ 100001 := by have := (mz 1).2; omega
          have u2 := (mz 2).1
          have u2' : c' 2 ≤ 100001 := by have := (mz 2).2; omega
          have u3 := (mz 3).1
          have u3' : c' 3 ≤ 100001 := by have := (mz 3).2; omega
          obtain ⟨z0, z1, z2, z3, z4⟩ := Pz.cells
          have zlt := Blk.lt Pz
          have hb7 := HC7.out.lt
          clear Az mz Pz z0 z1 z2 z4
          refine (counts_any HAz.out).mono ?_; rintro e w9 ⟨rfl, hb9⟩
          have d70 : w9.cell? ⟨b7, 0, none⟩ = some (.int .i64 (c 0)) := (HC7.out.below hb9 hb7).cell 0
          have d71 : w9.cell? ⟨b7, 1, none⟩ = some (.int .i64 (c 1)) := (HC7.out.below hb9 hb7).cell 1
          have d72 : w9.cell? ⟨b7, 2, none⟩ = some (.int .i64 (c 2)) := (HC7.out.below hb9 hb7).cell 2
          have d73 : w9.cell? ⟨b7, 3, none⟩ = some (.int .i64 (c 3)) := (HC7.out.below hb9 hb7).cell 3
          have hb79 := Nat.lt_of_lt_of_le hb7 hb9.size
          have HFin2 := Lib.hid (HFin.out.below hb9)
          clear HFin HC7 hb9 HAz z3 zlt hb7
          go_wp2_with fail
          go_ret
          refine ⟨retL_bool (by first | (simp; done) | (simp; omega)), ?_⟩
          rw [HOO.out]
          simp only
          rw [HCC.out]
          exact HFin2.out.below ((Below.refl _ _).alloc (Nat.le_refl _) _)
    · have HLt : LI W1 (.slice (some ⟨hb, hoff + 1, none⟩) hs.length (hcap - 1)) hs := by have h := HM.out.li; rw [HLN.out] at h; have := h.tail; rw [if_neg hcc] at this; exact this
      have HFOOT : Hid (∀ k' i, Foot b q1 (.slice (some ⟨hb, hoff + 1, none⟩) hs.length (hcap - 1)) k' i → Foot b q (.slice (some ⟨hb, hoff, none⟩) ln hcap) .idle i ∨ w.heap.size ≤ i) := Lib.hid fun k' i h => by
        rcases h with h | ⟨_, h⟩ | h
        · exact .inl (.inl h)
        · exact .inr (by rw [h]; exact hq2)
        · have h2 : bk (.slice (if hcap = 1 then some ⟨hb, hoff, none⟩ else some ⟨hb, hoff + 1, none⟩) hs.length (hcap - 1)) = some i := by rw [if_neg hcc]; exact h
          exact .inl (.inr (.inr (bk_tail h2)))
      have HM' : Hid (MidG (fun i => i = p ∨ i = g ∨ Foot b q (.slice (some ⟨hb, hoff, none⟩) ln hcap) .idle i) w pb p g n cap S M m b q1 s av (.slice (some ⟨hb, hoff + 1, none⟩) hs.length (hcap - 1)) c f hd nx (.give0 s) hs (W1.setCell ⟨b, 2, none⟩ (.slice (some ⟨hb, hoff + 1, none⟩) hs.length (hcap - 1)))) :=
        Lib.hid ⟨HM.out.sa.far HM.out.wb 2 _, HM.out.wb.set2 _, HLt.far HM.out.wb 2 _, HM.out.pg.map fun P => P.far_ HM.out.wb 2 _, HM.out.pl.far HM.out.wb 2 _, HM.out.fr.set_ _ (.inl (.inr (.inr (.inl rfl))))⟩
      clear HM HLt hq2
      have HM := HM'
      clear HM'
      go_wp2_with fail
      clear y0 y1 y2 v0 v1 v2 v3 v4 ylt yf2 vlt hpb hpb2
      have x0 := (HM.out.sa.2.2 0).1
      have x0' : c 0 ≤ 100000 := by have := (HM.out.sa.2.2 0).2; omega
      have x1 := (HM.out.sa.2.2 1).1
      have x1' : c 1 ≤ 100000 := by have := (HM.out.sa.2.2 1).2; omega
      have x2 := (HM.out.sa.2.2 2).1
      have x2' : c 2 ≤ 100000 := by have := (HM.out.sa.2.2 2).2; omega
      have x3 := (HM.out.sa.2.2 3).1
      have x3' : c 3 ≤ 100000 := by have := (HM.out.sa.2.2 3).2; omega
      refine (counts_any HM.out.sa.1).mono ?_; rintro e w2 ⟨rfl, hb2⟩
      have HM2 := Lib.hid ((HM.out.below hb2).alloc (.cells #[.int .i64 (c 0), .int .i64 (c 1), .int .i64 (c 2), .int .i64 (c 3), .int .i64 (c 4)] 54))
      have HC2 : Hid (CntB (w2.alloc (.cells #[.int .i64 (c 0), .int .i64 (c 1), .int .i64 (c 2), .int .i64 (c 3), .int .i64 (c 4)] 54)) w2.heap.size c) := Lib.hid (cnt_blk w2 c)
      clear HM hb2
      obtain ⟨y0, y1, y2⟩ := HM2.out.wb.cells
      obtain ⟨v0, v1, v2, v3, v4⟩ := HM2.out.pl.cells
      have ylt := Blk.lt HM2.out.wb
      have vlt := Blk.lt HM2.out.pl
      go_wp2_with fail
      generalize w2.alloc (.cells #[.int .i64 (c 0), .int .i64 (c 1), .int .i64 (c 2), .int .i64 (c 3), .int .i64 (c 4)] 54) = W2 at HM2 HC2 y0 y1 y2 v0 v1 v2 v3 v4 ylt vlt ⊢
      generalize w2.heap.size = b7 at HC2 ⊢
      have HMd := Lib.hid HM2.out.drew
      have HCd : Hid (CntB W2.drew b7 c) := Lib.hid HC2.out.drew
      obtain ⟨⟨k', nx', hd', j⟩, hr⟩ : ∃ r, gvN hd nx (Wk.give0 s) = r := ⟨_, rfl⟩
      have hj : j < 4 := by have := gvN_j (hd := hd) (nx := nx) HK.out; rw [hr] at this; exact this
      have hidle : k'.isIdle = false → k'.isGive = true ∧ k'.giving = (Wk.give0 s).giving := by have := gvN_give (hd := hd) (nx := nx) HK.out; rw [hr] at this; exact this
      have HID := Lib.hid hidle
      have HRR := Lib.hid hr
      have hsum := sum_upd c hj
      obtain ⟨c', hc'⟩ : ∃ c', upd c j (c j + 1) = c' := ⟨_, rfl⟩
      rw [hc'] at hsum
      have HCC := Lib.hid hc'
      have ho : o = ⟨k', hs, hd', nx', j⟩ := by
        rw [← HO.out]; unfold stepW; rw [if_neg (by rw [isGive_take HK.out]; simp), hr]
      have HOO := Lib.hid ho
      clear hidle hr hc' ho hj
      obtain ⟨d, hdd⟩ : ∃ d, k'.isIdle = d := ⟨_, rfl⟩
      have HDD := Lib.hid hdd
      clear hdd
      go_region_held3 (fun W => W.cell? ⟨b, 1, none⟩ = some (.pointer (some ⟨q1, 0, none⟩)) ∧ W.cell? ⟨pb, 3, none⟩ = some (.pointer (some ⟨p, 0, none⟩))) (first | (with_reducible assumption) | (with_reducible exact ⟨HMd.out.wb.cells.2.1, HMd.out.pl.cells.2.2.2.1⟩) | (with_reducible exact ⟨HM3.out.wb.cells.2.1, HM3.out.pl.cells.2.2.2.1⟩))
        (first
          | (go_at_call 13; ((with_reducible refine (goG (V := 1) (T := 1) (t := 1) HR.out rfl HN.out HN2.out HMd.out.sa HMd.out.pg HK.out HGV.out HFT.out hM2 hm2 HRR.out HDD.out).mono ?_); rintro e w3 ⟨f3, rfl, A3, P3, O3⟩; rw [HCC.out] at A3; have HM3 := Lib.hid (HMd.out.onlyT A3 P3 O3 HQ.out (.inl rfl) (.inr (.inl rfl))); have HPP := HMd.out.pg.some)))
      all_goals
        obtain ⟨_, _, _, PP⟩ := HPP
        have HC3 : Hid (CntB w3 b7 c) := Lib.hid (CntB.onlyT HCd.out HMd.out.sa.1 PP O3)
        clear A3 P3 O3 PP HMd HCd HM2 HC2 y0 y1 y2 v0 v1 v2 v3 v4 ylt vlt
        obtain ⟨y0, y1, y2⟩ := HM3.out.wb.cells
        have ylt := Blk.lt HM3.out.wb
        have yf1 := HM3.out.wb.fz 1
        cases d
        · have HFin : Hid (PlayedW pb p g n cap S M m b q av (.slice (some ⟨hb, hoff, none⟩) ln hcap) c' .idle k' hs hd' nx' w w3) := by
            have hkt := (HID.out HDD.out).1
            have hkg := (HID.out HDD.out).2
            refine Lib.hid ⟨f3, q1, (.slice (some ⟨hb, hoff + 1, none⟩) hs.length (hcap - 1)), HM3.out.sa, ⟨?_, HM3.out.li, ⟨fun h => (by rw [isGive_take hkt] at h; cases h), fun _ => ⟨s, hkg.trans HGV.out, HM3.out.pg⟩⟩⟩, HM3.out.pl, HM3.out.fr, HFOOT.out k'⟩
            have := HM3.out.wb
            unfold tvK gvK
            rw [hkt, isGive_take hkt]
            exact this
          have HC7 := HC3
          obtain ⟨_, _, _, v3, _⟩ := HM3.out.pl.cells
          have vlt := Blk.lt HM3.out.pl
          have hpb : pb ≠ b := Blk.ne_ HM3.out.pl HM3.out.wb (by decide)
          have hpb2 : b ≠ pb := Ne.symm hpb
          clear HM3 HC3
          go_wp2_with fail
          clear y0 y1 y2 ylt yf1 v3 vlt hpb hpb2
          obtain ⟨⟨fz, Az⟩, mz, Pz⟩ := HFin.out.ar
          have HAz := Lib.hid Az
          have u0 := (mz 0).1
          have u0' : c' 0 ≤ 100001 := by have := (mz 0).2; omega
          have u1 := (mz 1).1
          have u1' : c' 1 ≤ 100001 := by have := (mz 1).2; omega
          have u2 := (mz 2).1
          have u2' : c' 2 ≤ 100001 := by have := (mz 2).2; omega
          have u3 := (mz 3).1
          have u3' : c' 3 ≤ 100001 := by have := (mz 3).2; omega
          obtain ⟨z0, z1, z2, z3, z4⟩ := Pz.cells
          have zlt := Blk.lt Pz
          have hb7 := HC7.out.lt
          clear Az mz Pz z0 z1 z2 z4
          refine (counts_any HAz.out).mono ?_; rintro e w9 ⟨rfl, hb9⟩
          have d70 : w9.cell? ⟨b7, 0, none⟩ = some (.int .i64 (c 0)) := (HC7.out.below hb9 hb7).cell 0
          have d71 : w9.cell? ⟨b7, 1, none⟩ = some (.int .i64 (c 1)) := (HC7.out.below hb9 hb7).cell 1
          have d72 : w9.cell? ⟨b7, 2, none⟩ = some (.int .i64 (c 2)) := (HC7.out.below hb9 hb7).cell 2
          have d73 : w9.cell? ⟨b7, 3, none⟩ = some (.int .i64 (c 3)) := (HC7.out.below hb9 hb7).cell 3
          have hb79 := Nat.lt_of_lt_of_le hb7 hb9.size
          have HFin2 := Lib.hid (HFin.out.below hb9)
          clear HFin HC7 hb9 HAz z3 zlt hb7
          go_wp2_with fail
          go_ret
          refine ⟨retL_bool (by first | (simp; done) | (simp; omega)), ?_⟩
          rw [HOO.out]
          simp only
          rw [HCC.out]
          exact HFin2.out.below ((Below.refl _ _).alloc (Nat.le_refl _) _)
        · have hki := isIdle_eq HDD.out
          subst hki
          have HFin : Hid (PlayedW pb p g n cap S M m b q av (.slice (some ⟨hb, hoff, none⟩) ln hcap) c' .idle .idle hs hd' nx' w (w3.setCell ⟨b, 1, none⟩ (.pointer none))) :=
            Lib.hid ⟨f3, q1, (.slice (some ⟨hb, hoff + 1, none⟩) hs.length (hcap - 1)), HM3.out.sa.far HM3.out.wb 1 _, ⟨HM3.out.wb.set1 _, HM3.out.li.far HM3.out.wb 1 _, ⟨fun h => (by cases h), fun h => (by cases h)⟩⟩, HM3.out.pl.far HM3.out.wb 1 _, HM3.out.fr.set_ _ (.inl (.inr (.inr (.inl rfl)))), HFOOT.out .idle⟩
          have HC7 : Hid (CntB (w3.setCell ⟨b, 1, none⟩ (.pointer none)) b7 c) := Lib.hid (HC3.out.far HM3.out.wb 1 _)
          obtain ⟨_, _, _, v3, _⟩ := HM3.out.pl.cells
          have vlt := Blk.lt HM3.out.pl
          have hpb : pb ≠ b := Blk.ne_ HM3.out.pl HM3.out.wb (by decide)
          have hpb2 : b ≠ pb := Ne.symm hpb
          clear HM3 HC3
          go_wp2_with fail
          clear y0 y1 y2 ylt yf1 v3 vlt hpb hpb2
          obtain ⟨⟨fz, Az⟩, mz, Pz⟩ := HFin.out.ar
          have HAz := Lib.hid Az
          have u0 := (mz 0).1
          have u0' : c' 0 ≤ 100001 := by have := (mz 0).2; omega
          have u1 := (mz 1).1
          have u1' : c' 1 ≤ 100001 := by have := (mz 1).2; omega
          have u2 := (mz 2).1
          have u2' : c' 2 ≤ 100001 := by have := (mz 2).2; omega
          have u3 := (mz 3).1
          have u3' : c' 3 ≤ 100001 := by have := (mz 3).2; omega
          obtain ⟨z0, z1, z2, z3, z4⟩ := Pz.cells
          have zlt := Blk.lt Pz
          have hb7 := HC7.out.lt
          clear Az mz Pz z0 z1 z2 z4
          refine (counts_any HAz.out).mono ?_; rintro e w9 ⟨rfl, hb9⟩
          have d70 : w9.cell? ⟨b7, 0, none⟩ = some (.int .i64 (c 0)) := (HC7.out.below hb9 hb7).cell 0
          have d71 : w9.cell? ⟨b7, 1, none⟩ = some (.int .i64 (c 1)) := (HC7.out.below hb9 hb7).cell 1
          have d72 : w9.cell? ⟨b7, 2, none⟩ = some (.int .i64 (c 2)) := (HC7.out.below hb9 hb7).cell 2
          have d73 : w9.cell? ⟨b7, 3, none⟩ = some (.int .i64 (c 3)) := (HC7.out.below hb9 hb7).cell 3
          have hb79 := Nat.lt_of_lt_of_le hb7 hb9.size
          have HFin2 := Lib.hid (HFin.out.below hb9)
          clear HFin HC7 hb9 HAz z3 zlt hb7
          go_wp2_with fail
          go_ret
          refine ⟨retL_bool (by first | (simp; done) | (simp; omega)), ?_⟩
          rw [HOO.out]
          simp only
          rw [HCC.out]
          exact HFin2.out.below ((Below.refl _ _).alloc (Nat.le_refl _) _)
end
end Go.Proofs.Ytgjlilcljefbfaa
