/- The contract of a play's step, whatever a worker is in the midst of. Printed by wip/tools/slott.py. -/
import Derived.Test.YtgjlilcljefbfaaSlotS
namespace Go.Proofs.Ytgjlilcljefbfaa
open Go.RowKit

set_option maxRecDepth 100000

/-- What a play's step leaves in memory. -/
def PlayedW (pb p g n cap S M m b q : Nat) (av hv : Value) (c' : Nat → Int) (k k' : Wk) (hs' : List Nat) (hd' : Nat × Nat) (nx' : Nat → Nat) (w w' : World) : Prop :=
  ∃ f' q' hv', SA w' p g n cap 1 S (M + 1) (m + 1) c' f' hd' nx' ∧ WkM w' b q' S hv' k' hs' ∧ PlB w' pb p S av ∧
    OnlyF (fun i => i = p ∨ i = g ∨ Foot b q hv k i) w w' ∧ (∀ i, Foot b q' hv' k' i → Foot b q hv k i ∨ w.heap.size ≤ i)
theorem PlayedW.below {pb p g n cap S M m b q : Nat} {av hv : Value} {c' : Nat → Int} {k k' : Wk} {hs' : List Nat} {hd' : Nat × Nat} {nx' : Nat → Nat} {w w1 w2 : World}
    (h : PlayedW pb p g n cap S M m b q av hv c' k k' hs' hd' nx' w w1) (hb : Below w1.heap.size w1 w2) : PlayedW pb p g n cap S M m b q av hv c' k k' hs' hd' nx' w w2 := by
  obtain ⟨f', q', hv', A, W, P, O, F⟩ := h
  exact ⟨f', q', hv', A.below hb, W.below hb, Blk.below P hb (Blk.lt P), O.below hb, F⟩
theorem PlayedW.ar {pb p g n cap S M m b q : Nat} {av hv : Value} {c' : Nat → Int} {k k' : Wk} {hs' : List Nat} {hd' : Nat × Nat} {nx' : Nat → Nat} {w w1 : World}
    (h : PlayedW pb p g n cap S M m b q av hv c' k k' hs' hd' nx' w w1) : (∃ f', Ar w1 p g n cap c' f') ∧ CB c' (m + 1) ∧ PlB w1 pb p S av := by
  obtain ⟨f', q', hv', A, W, P, O, F⟩ := h
  exact ⟨⟨f', A.1⟩, A.2.2, P⟩

abbrev CntB (w : World) (b7 : Nat) (c : Nat → Int) : Prop := Blk w b7 54 #[.int .i64 (c 0), .int .i64 (c 1), .int .i64 (c 2), .int .i64 (c 3), .int .i64 (c 4)]
theorem CntB.onlyT {w w' : World} {b7 q p g n cap S : Nat} {c c0 f : Nat → Int} {ty : TypeId} {V T a hh : Int} {x : Value} (h : CntB w b7 c0) (A : Ar w p g n cap c f) (P : Pg w q ty V S T a hh x) (O : OnlyT q p g none w w') : CntB w' b7 c0 := by
  obtain ⟨zs, hz, _⟩ := A.cells
  exact Blk.onlyT h O (Blk.ne_ h P.2 (by rcases P.1 with e | e <;> rw [e] <;> decide)) (Blk.ne_ h A.own (by decide)) (Blk.ne_ h hz (by decide)) (by simp)
theorem CntB.far {w : World} {b7 b : Nat} {c0 : Nat → Int} {tv gv hv : Value} (h : CntB w b7 c0) (W : WB w b tv gv hv) (j : Nat) (u : Value) : CntB (w.setCell ⟨b, j, none⟩ u) b7 c0 := Blk.far (p := ⟨b, j, none⟩) h (show b7 ≠ b from Blk.ne_ h W (by decide)) u
theorem CntB.grown {w w' : World} {b7 : Nat} {c0 : Nat → Int} {r : Option Nat} {v : Value} {l : List Nat} (h : CntB w b7 c0) (L : LI w v l) (hg : w.grownBy w' r) (hr : r = bk v) : CntB w' b7 c0 := Blk.grown h hg (by rw [hr]; exact L.ne_blk h (by decide))

section
variable {w : World} {pb p g n cap S M m b q : Nat} {av hv : Value} {c f : Nat → Int} {hd : Nat × Nat} {nx : Nat → Nat} {k : Wk} {hs : List Nat}

set_option maxHeartbeats 8000000 in
theorem playStep_take (gives : Bool) (hS : S ≤ 48) (hn : 1 < n) (hn2 : ∀ s, s < S → 1 + 1 + s * 7 < n) (A : SA w p g n cap 1 S M m c f hd nx) (PB : PlB w pb p S av) (W : WkM w b q S hv k hs) (hk : k.isTake = true) (hf : k.fit S M) (hlen : hs.length ≤ 48) (hM : M ≤ 10000) (hm2 : m ≤ 100000) :
    Calls Try.prog 19 #[.pointer (some ⟨pb, 0, none⟩), .pointer (some ⟨b, 0, none⟩), .bool gives] w fun e w' =>
      e = .returned (.bool true) ∧ PlayedW pb p g n cap S M m b q av hv (upd c (stepW hd nx k hs).j (c (stepW hd nx k hs).j + 1)) k (stepW hd nx k hs).k (stepW hd nx k hs).hs (stepW hd nx k hs).hd (stepW hd nx k hs).nx w w' := by
  obtain ⟨o, ho⟩ : ∃ o, stepW hd nx k hs = o := ⟨_, rfl⟩
  rw [ho]
  have hR : Rt 1 (S : Int) 1 := ⟨by omega, by omega, by omega, by omega, by omega, by omega⟩
  have hM2 : M ≤ 100000 := by omega
  have HR := Lib.hid hR
  have HN := Lib.hid hn
  have HN2 := Lib.hid hn2
  have HK := Lib.hid hk
  have HFT := Lib.hid hf
  have HO := Lib.hid ho
  have hki : k ≠ .idle := by rintro rfl; cases hk
  have HQ : Hid ((fun i => i = p ∨ i = g ∨ Foot b q hv k i) q ∨ w.heap.size ≤ q) := Lib.hid (.inl (.inr (.inr (.inr (.inl ⟨hki, rfl⟩)))))
  have HFOOT : Hid (∀ k' i, Foot b q hv k' i → Foot b q hv k i ∨ w.heap.size ≤ i) := Lib.hid fun k' i h => .inl (by
    rcases h with h | ⟨_, h⟩ | h
    · exact .inl h
    · exact .inr (.inl ⟨hki, h⟩)
    · exact .inr (.inr h))
  have hlen5 : hs.length ≤ 100000 := by omega
  obtain ⟨g0, PG⟩ := W.pg.1 hk
  have hw0 : WB w b (.pointer (some ⟨q, 0, none⟩)) (.pointer none) hv := by
    have := W.own
    unfold tvK gvK at this
    rw [hk, isTake_give hk] at this
    exact this
  have HM : Hid (MidT (fun i => i = p ∨ i = g ∨ Foot b q hv k i) w pb p g n cap S M m b q av hv c f hd nx k g0 hs w) := Lib.hid ⟨A, hw0, W.has, PG, PB, OnlyF.refl _⟩
  clear hR hn hn2 hk hf ho hw0 A PB W PG hki hlen
  go_enter Try.func19, Try.ntmps19
  have x0 := (HM.out.sa.2.2 0).1
  have x0' : c 0 ≤ 100000 := by have := (HM.out.sa.2.2 0).2; omega
  have x1 := (HM.out.sa.2.2 1).1
  have x1' : c 1 ≤ 100000 := by have := (HM.out.sa.2.2 1).2; omega
  have x2 := (HM.out.sa.2.2 2).1
  have x2' : c 2 ≤ 100000 := by have := (HM.out.sa.2.2 2).2; omega
  have x3 := (HM.out.sa.2.2 3).1
  have x3' : c 3 ≤ 100000 := by have := (HM.out.sa.2.2 3).2; omega
  obtain ⟨y0, y1, y2⟩ := HM.out.wb.cells
  obtain ⟨v0, v1, v2, v3, v4⟩ := HM.out.pl.cells
  have ylt := Blk.lt HM.out.wb
  have vlt := Blk.lt HM.out.pl
  go_wp2_with fail
  refine (counts_any HM.out.sa.1).mono ?_; rintro e w2 ⟨rfl, hb2⟩
  have HM2 := Lib.hid ((HM.out.below hb2).alloc (.cells #[.int .i64 (c 0), .int .i64 (c 1), .int .i64 (c 2), .int .i64 (c 3), .int .i64 (c 4)] 54))
  have HC2 : Hid (CntB (w2.alloc (.cells #[.int .i64 (c 0), .int .i64 (c 1), .int .i64 (c 2), .int .i64 (c 3), .int .i64 (c 4)] 54)) w2.heap.size c) := Lib.hid (cnt_blk w2 c)
  clear HM hb2 y0 y1 y2 v0 v1 v2 v3 v4 ylt vlt
  obtain ⟨y0, y1, y2⟩ := HM2.out.wb.cells
  obtain ⟨v0, v1, v2, v3, v4⟩ := HM2.out.pl.cells
  have ylt := Blk.lt HM2.out.wb
  have vlt := Blk.lt HM2.out.pl
  go_wp2_with fail
  generalize w2.alloc (.cells #[.int .i64 (c 0), .int .i64 (c 1), .int .i64 (c 2), .int .i64 (c 3), .int .i64 (c 4)] 54) = W2 at HM2 HC2 y0 y1 y2 v0 v1 v2 v3 v4 ylt vlt ⊢
  generalize w2.heap.size = b7 at HC2 ⊢
  have HMd := Lib.hid HM2.out.drew
  have HCd : Hid (CntB W2.drew b7 c) := Lib.hid HC2.out.drew
  obtain ⟨⟨k', g', hd', j⟩, hr⟩ : ∃ r, tkN hd nx k = r := ⟨_, rfl⟩
  have hj : j < 4 := by have := tkN_j (hd := hd) (nx := nx) HK.out; rw [hr] at this; exact this
  have hg1 : g'.1 ≤ M ∧ g'.2 ≤ S := by have := tkN_g (hd := hd) (nx := nx) HK.out HFT.out HM2.out.sa.2.1.tag HM2.out.sa.2.1.lk; rw [hr] at this; exact this
  have hidle : k'.isIdle = false → k'.isTake = true := by have := tkN_take (hd := hd) (nx := nx) HK.out; rw [hr] at this; exact this
  have HG1 := Lib.hid hg1
  have HID := Lib.hid hidle
  have HRR := Lib.hid hr
  have hsum := sum_upd c hj
  obtain ⟨c', hc'⟩ : ∃ c', upd c j (c j + 1) = c' := ⟨_, rfl⟩
  rw [hc'] at hsum
  have HCC := Lib.hid hc'
  have ho : o = ⟨k', if k'.isIdle && decide (g'.2 ≠ 0) then hs ++ [g'.2 - 1] else hs, hd', nx, j⟩ := by
    rw [← HO.out]; unfold stepW; rw [if_pos HK.out, hr]
  have HO2 := Lib.hid ho
  clear hg1 hidle hr hc' ho hj
  obtain ⟨d, hdd⟩ : ∃ d, k'.isIdle = d := ⟨_, rfl⟩
  have HDD := Lib.hid hdd
  clear hdd
  go_region_held3 (fun W => W.cell? ⟨b, 0, none⟩ = some (.pointer (some ⟨q, 0, none⟩)) ∧ W.cell? ⟨pb, 3, none⟩ = some (.pointer (some ⟨p, 0, none⟩))) (first | (with_reducible assumption) | (with_reducible exact ⟨HMd.out.wb.cells.1, HMd.out.pl.cells.2.2.2.1⟩) | (with_reducible exact ⟨HM3.out.wb.cells.1, HM3.out.pl.cells.2.2.2.1⟩))
    (first
      | (go_at_call 16; ((with_reducible refine (goT (V := 1) (T := 1) (t := 1) HR.out rfl HN.out HN2.out HMd.out.sa HMd.out.pg HK.out HFT.out hM2 hm2 HRR.out HDD.out).mono ?_); rintro e w3 ⟨f3, rfl, A3, P3, O3⟩; rw [HCC.out] at A3; have HM3 := Lib.hid (HMd.out.onlyT A3 P3 O3 HQ.out (.inl rfl) (.inr (.inl rfl))); have HPP := HMd.out.pg.some)))
  all_goals
    obtain ⟨_, _, _, PP⟩ := HPP
    have HC3 : Hid (CntB w3 b7 c) := Lib.hid (CntB.onlyT HCd.out HMd.out.sa.1 PP O3)
    clear A3 P3 O3 PP HMd HCd HM2 HC2 y0 y1 y2 v0 v1 v2 v3 v4 ylt vlt
    obtain ⟨y0, y1, y2⟩ := HM3.out.wb.cells
    have ylt := Blk.lt HM3.out.wb
    have yf0 := HM3.out.wb.fz 0
    have yf2 := HM3.out.wb.fz 2
    cases d
    · have HFin : Hid (PlayedW pb p g n cap S M m b q av hv c' k k' hs hd' nx w w3) := by
        have hkt := HID.out HDD.out
        refine Lib.hid ⟨f3, q, hv, HM3.out.sa, ⟨?_, HM3.out.li, ⟨fun _ => ⟨_, HM3.out.pg⟩, fun h => by rw [isTake_give hkt] at h; cases h⟩⟩, HM3.out.pl, HM3.out.fr, HFOOT.out k'⟩
        have := HM3.out.wb
        unfold tvK gvK
        rw [hkt, isTake_give hkt]
        exact this
      have HOO : Hid (o = ⟨k', hs, hd', nx, j⟩) := by
        have := HO2.out
        rw [HDD.out] at this
        exact Lib.hid this
      have HC7 := HC3
      obtain ⟨_, _, _, v3, _⟩ := HM3.out.pl.cells
      have vlt := Blk.lt HM3.out.pl
      have hpb : pb ≠ b := Blk.ne_ HM3.out.pl HM3.out.wb (by decide)
      have hpb2 : b ≠ pb := Ne.symm hpb
      clear HM3 HC3
      go_wp2_with fail
      clear y0 y1 y2 ylt yf0 yf2 v3 vlt hpb hpb2
      obtain ⟨⟨fz, Az⟩, mz, Pz⟩ := HFin.out.ar
      have HAz := Lib.hid Az
      have u0 := (mz 0).1
      have u0' : c' 0 ≤ 100001 := by have := (mz 0).2; omega
      have u1 := (mz 1).1
      have u1' : c' 1 ≤ 100001 := by have := (mz 1).2; omega
      have u2 := (mz 2).1
      have u2' : c' 2 ≤ 100001 := by have := (mz 2).2; omega
      have u3 := (mz 3).1
      have u3' : c' 3 ≤ 100001 := by have := (mz 3).2; omega
      obtain ⟨z0, z1, z2, z3, z4⟩ := Pz.cells
      have zlt := Blk.lt Pz
      have hb7 := HC7.out.lt
      clear Az mz Pz z0 z1 z2 z4
      refine (counts_any HAz.out).mono ?_; rintro e w9 ⟨rfl, hb9⟩
      have d70 : w9.cell? ⟨b7, 0, none⟩ = some (.int .i64 (c 0)) := (HC7.out.below hb9 hb7).cell 0
      have d71 : w9.cell? ⟨b7, 1, none⟩ = some (.int .i64 (c 1)) := (HC7.out.below hb9 hb7).cell 1
      have d72 : w9.cell? ⟨b7, 2, none⟩ = some (.int .i64 (c 2)) := (HC7.out.below hb9 hb7).cell 2
      have d73 : w9.cell? ⟨b7, 3, none⟩ = some (.int .i64 (c 3)) := (HC7.out.below hb9 hb7).cell 3
      have hb79 := Nat.lt_of_lt_of_le hb7 hb9.size
      have HFin2 := Lib.hid (HFin.out.below hb9)
      clear HFin HC7 hb9 HAz z3 zlt hb7
      go_wp2_with fail
      go_ret
      refine ⟨retL_bool (by first | (simp; done) | (simp; omega)), ?_⟩
      rw [HOO.out]
      simp only
      rw [HCC.out]
      exact HFin2.out.below ((Below.refl _ _).alloc (Nat.le_refl _) _)
    · have hki := isIdle_eq HDD.out
      subst hki
      go_wp2_with fail
      refine (slotT_any (V := 1) (T := 1) (S := S) HR.out HM3.out.pg (by have := HG1.out.1; omega) HG1.out.2).mono ?_; rintro e w4 ⟨rfl, hb4⟩
      have HM4 := Lib.hid (HM3.out.below hb4)
      have HC4 : Hid (CntB w4 b7 c) := Lib.hid (HC3.out.below hb4 HC3.out.lt)
      clear HM3 HC3 hb4 y0 y1 y2 ylt yf0 yf2
      obtain ⟨y0, y1, y2⟩ := HM4.out.wb.cells
      have ylt := Blk.lt HM4.out.wb
      have yf0 := HM4.out.wb.fz 0
      have yf2 := HM4.out.wb.fz 2
      by_cases h0 : g'.2 = 0
      · have e0 : decide (g'.2 ≠ 0) = false := by simp [h0]
        rw [e0]
        have HFin : Hid (PlayedW pb p g n cap S M m b q av hv c' k .idle hs hd' nx w (w4.setCell ⟨b, 0, none⟩ (.pointer none))) :=
          Lib.hid ⟨f3, q, hv, HM4.out.sa.far HM4.out.wb 0 _, ⟨HM4.out.wb.set0 _, HM4.out.li.far HM4.out.wb 0 _, ⟨fun h => (by cases h), fun h => (by cases h)⟩⟩, HM4.out.pl.far HM4.out.wb 0 _, HM4.out.fr.set_ _ (.inl (.inr (.inr (.inl rfl)))), HFOOT.out .idle⟩
        have HC7 : Hid (CntB (w4.setCell ⟨b, 0, none⟩ (.pointer none)) b7 c) := Lib.hid (HC4.out.far HM4.out.wb 0 _)
        have HOO : Hid (o = ⟨.idle, hs, hd', nx, j⟩) := by
          have := HO2.out
          rw [e0] at this
          exact Lib.hid this
        obtain ⟨_, _, _, v3, _⟩ := HM4.out.pl.cells
        have vlt := Blk.lt HM4.out.pl
        have hpb : pb ≠ b := Blk.ne_ HM4.out.pl HM4.out.wb (by decide)
        have hpb2 : b ≠ pb := Ne.symm hpb
        clear e0 h0 HM4 HC4
        go_wp2_with fail
        clear y0 y1 y2 ylt yf0 yf2 v3 vlt hpb hpb2
        obtain ⟨⟨fz, Az⟩, mz, Pz⟩ := HFin.out.ar
        have HAz := Lib.hid Az
        have u0 := (mz 0).1
        have u0' : c' 0 ≤ 100001 := by have := (mz 0).2; omega
        have u1 := (mz 1).1
        have u1' : c' 1 ≤ 100001 := by have := (mz 1).2; omega
        have u2 := (mz 2).1
        have u2' : c' 2 ≤ 100001 := by have := (mz 2).2; omega
        have u3 := (mz 3).1
        have u3' : c' 3 ≤ 100001 := by have := (mz 3).2; omega
        obtain ⟨z0, z1, z2, z3, z4⟩ := Pz.cells
        have zlt := Blk.lt Pz
        have hb7 := HC7.out.lt
        clear Az mz Pz z0 z1 z2 z4
        refine (counts_any HAz.out).mono ?_; rintro e w9 ⟨rfl, hb9⟩
        have d70 : w9.cell? ⟨b7, 0, none⟩ = some (.int .i64 (c 0)) := (HC7.out.below hb9 hb7).cell 0
        have d71 : w9.cell? ⟨b7, 1, none⟩ = some (.int .i64 (c 1)) := (HC7.out.below hb9 hb7).cell 1
        have d72 : w9.cell? ⟨b7, 2, none⟩ = some (.int .i64 (c 2)) := (HC7.out.below hb9 hb7).cell 2
        have d73 : w9.cell? ⟨b7, 3, none⟩ = some (.int .i64 (c 3)) := (HC7.out.below hb9 hb7).cell 3
        have hb79 := Nat.lt_of_lt_of_le hb7 hb9.size
        have HFin2 := Lib.hid (HFin.out.below hb9)
        clear HFin HC7 hb9 HAz z3 zlt hb7
        go_wp2_with fail
        go_ret
        refine ⟨retL_bool (by first | (simp; done) | (simp; omega)), ?_⟩
        rw [HOO.out]
        simp only
        rw [HCC.out]
        exact HFin2.out.below ((Below.refl _ _).alloc (Nat.le_refl _) _)
      · have e0 : decide (g'.2 ≠ 0) = true := by simp [h0]
        rw [e0]
        have HOO : Hid (o = ⟨.idle, hs ++ [g'.2 - 1], hd', nx, j⟩) := by
          have := HO2.out
          rw [e0] at this
          exact Lib.hid this
        clear e0 h0
        go_wp2_with (at_builtin; refine wpList_append_li _ rfl _ _ rfl rfl (HM4.out.li.alloc _) ⟨w4.heap.size, 0, none⟩ 1 (g'.2 - 1) rfl (cell_new1 _ _ _) hlen5 ?_)
        intro hv5 w5 hli5 hg5 hbk5
        have HMa := HM4.out.alloc (.cells #[.int .i64 ((g'.2 - 1 : Nat) : Int)] 3)
        have WB5 := WB.grown HMa.wb HMa.li hg5 rfl
        have SA5 := SA.grown HMa.sa HMa.li hg5 rfl
        have PL5 := PlB.grown HMa.pl HMa.li hg5 rfl
        have HC5 : CntB w5 b7 c := CntB.grown (Blk.alloc HC4.out (.cells #[.int .i64 ((g'.2 - 1 : Nat) : Int)] 3)) HMa.li hg5 rfl
        have FR5 := HMa.fr.grown hg5 (fun i hi => (HFOOT.out .idle i (.inr (.inr hi))).imp (fun h => .inr (.inr h)) id)
        have hw4 : w.heap.size ≤ w4.heap.size := HM4.out.fr.size
        have HFin : Hid (PlayedW pb p g n cap S M m b q av hv c' k .idle (hs ++ [g'.2 - 1]) hd' nx w ((w5.setCell ⟨b, 2, none⟩ hv5).setCell ⟨b, 0, none⟩ (.pointer none))) := by
          refine Lib.hid ⟨f3, q, hv5, (SA5.far WB5 2 _).far (WB5.set2 _) 0 _, ⟨(WB5.set2 _).set0 _, (hli5.far WB5 2 _).far (WB5.set2 _) 0 _, ⟨fun h => (by cases h), fun h => (by cases h)⟩⟩, (PL5.far WB5 2 _).far (WB5.set2 _) 0 _, (FR5.set_ _ (.inl (.inr (.inr (.inl rfl))))).set_ _ (.inl (.inr (.inr (.inl rfl)))), ?_⟩
          rintro i (rfl | ⟨hk, _⟩ | e)
          · exact .inl (.inl rfl)
          · exact absurd rfl hk
          · rcases hbk5 with e' | ⟨i', e', hi'⟩
            · rw [e'] at e
              exact HFOOT.out .idle i (.inr (.inr e))
            · rw [e] at e'; cases e'
              right
              have : w4.heap.size + 1 ≤ i := by simpa using hi'
              omega
        have HC7 : Hid (CntB ((w5.setCell ⟨b, 2, none⟩ hv5).setCell ⟨b, 0, none⟩ (.pointer none)) b7 c) := Lib.hid ((HC5.far WB5 2 _).far (WB5.set2 _) 0 _)
        clear y0 y1 y2 ylt yf0 yf2
        obtain ⟨y0, y1, y2⟩ := WB5.cells
        have ylt := Blk.lt WB5
        have yf0 := WB5.fz 0
        have yf2 := WB5.fz 2
        obtain ⟨_, _, _, v3, _⟩ := PL5.cells
        have vlt := Blk.lt PL5
        have hpb : pb ≠ b := Blk.ne_ PL5 WB5 (by decide)
        have hpb2 : b ≠ pb := Ne.symm hpb
        obtain ⟨ha, hc, hve, _, _⟩ := hli5.shape
        rw [List.length_append, List.length_singleton] at hve
        subst hve
        clear HM4 HC4 HMa hli5 hg5 hbk5 WB5 SA5 PL5 HC5 FR5
        go_wp2_with fail
        clear y0 y1 y2 ylt yf0 yf2 v3 vlt hpb hpb2
        obtain ⟨⟨fz, Az⟩, mz, Pz⟩ := HFin.out.ar
        have HAz := Lib.hid Az
        have u0 := (mz 0).1
        have u0' : c' 0 ≤ 100001 := by have := (mz 0).2; omega
        have u1 := (mz 1).1
        have u1' : c' 1 ≤ 100001 := by have := (mz 1).2; omega
        have u2 := (mz 2).1
        have u2' : c' 2 ≤ 100001 := by have := (mz 2).2; omega
        have u3 := (mz 3).1
        have u3' : c' 3 ≤ 100001 := by have := (mz 3).2; omega
        obtain ⟨z0, z1, z2, z3, z4⟩ := Pz.cells
        have zlt := Blk.lt Pz
        have hb7 := HC7.out.lt
        clear Az mz Pz z0 z1 z2 z4
        refine (counts_any HAz.out).mono ?_; rintro e w9 ⟨rfl, hb9⟩
        have d70 : w9.cell? ⟨b7, 0, none⟩ = some (.int .i64 (c 0)) := (HC7.out.below hb9 hb7).cell 0
        have d71 : w9.cell? ⟨b7, 1, none⟩ = some (.int .i64 (c 1)) := (HC7.out.below hb9 hb7).cell 1
        have d72 : w9.cell? ⟨b7, 2, none⟩ = some (.int .i64 (c 2)) := (HC7.out.below hb9 hb7).cell 2
        have d73 : w9.cell? ⟨b7, 3, none⟩ = some (.int .i64 (c 3)) := (HC7.out.below hb9 hb7).cell 3
        have hb79 := Nat.lt_of_lt_of_le hb7 hb9.size
        have HFin2 := Lib.hid (HFin.out.below hb9)
        clear HFin HC7 hb9 HAz z3 zlt hb7
        go_wp2_with fail
        go_ret
        refine ⟨retL_bool (by first | (simp; done) | (simp; omega)), ?_⟩
        rw [HOO.out]
        simp only
        rw [HCC.out]
        exact HFin2.out.below ((Below.refl _ _).alloc (Nat.le_refl _) _)

set_option maxHeartbeats 8000000 in
theorem playStep_give (gives : Bool) (hS : S ≤ 48) (hn : 1 < n) (hn2 : ∀ s, s < S → 1 + 1 + s * 7 < n) (A : SA w p g n cap 1 S M m c f hd nx) (PB : PlB w pb p S av) (W : WkM w b q S hv k hs) (hk : k.isGive = true) (hf : k.fit S M) (hlen : hs.length ≤ 48) (hM : M ≤ 10000) (hm2 : m ≤ 100000) :
    Calls Try.prog 19 #[.pointer (some ⟨pb, 0, none⟩), .pointer (some ⟨b, 0, none⟩), .bool gives] w fun e w' =>
      e = .returned (.bool true) ∧ PlayedW pb p g n cap S M m b q av hv (upd c (stepW hd nx k hs).j (c (stepW hd nx k hs).j + 1)) k (stepW hd nx k hs).k (stepW hd nx k hs).hs (stepW hd nx k hs).hd (stepW hd nx k hs).nx w w' := by
  obtain ⟨o, ho⟩ : ∃ o, stepW hd nx k hs = o := ⟨_, rfl⟩
  rw [ho]
  have hR : Rt 1 (S : Int) 1 := ⟨by omega, by omega, by omega, by omega, by omega, by omega⟩
  have hM2 : M ≤ 100000 := by omega
  have HR := Lib.hid hR
  have HN := Lib.hid hn
  have HN2 := Lib.hid hn2
  have HK := Lib.hid hk
  have HFT := Lib.hid hf
  have HO := Lib.hid ho
  have hki : k ≠ .idle := by rintro rfl; cases hk
  have HQ : Hid ((fun i => i = p ∨ i = g ∨ Foot b q hv k i) q ∨ w.heap.size ≤ q) := Lib.hid (.inl (.inr (.inr (.inr (.inl ⟨hki, rfl⟩)))))
  have HFOOT : Hid (∀ k' i, Foot b q hv k' i → Foot b q hv k i ∨ w.heap.size ≤ i) := Lib.hid fun k' i h => .inl (by
    rcases h with h | ⟨_, h⟩ | h
    · exact .inl h
    · exact .inr (.inl ⟨hki, h⟩)
    · exact .inr (.inr h))
  have hlen5 : hs.length ≤ 100000 := by omega
  obtain ⟨s0, hgv, PG⟩ := W.pg.2 hk
  have HGV := Lib.hid hgv
  have hw0 : WB w b (.pointer none) (.pointer (some ⟨q, 0, none⟩)) hv := by
    have := W.own
    unfold tvK gvK at this
    rw [hk, isGive_take hk] at this
    exact this
  have HM : Hid (MidG (fun i => i = p ∨ i = g ∨ Foot b q hv k i) w pb p g n cap S M m b q s0 av hv c f hd nx k hs w) := Lib.hid ⟨A, hw0, W.has, PG, PB, OnlyF.refl _⟩
  clear hR hn hn2 hk hf ho hw0 A PB W PG hki hlen hgv
  go_enter Try.func19, Try.ntmps19
  have x0 := (HM.out.sa.2.2 0).1
  have x0' : c 0 ≤ 100000 := by have := (HM.out.sa.2.2 0).2; omega
  have x1 := (HM.out.sa.2.2 1).1
  have x1' : c 1 ≤ 100000 := by have := (HM.out.sa.2.2 1).2; omega
  have x2 := (HM.out.sa.2.2 2).1
  have x2' : c 2 ≤ 100000 := by have := (HM.out.sa.2.2 2).2; omega
  have x3 := (HM.out.sa.2.2 3).1
  have x3' : c 3 ≤ 100000 := by have := (HM.out.sa.2.2 3).2; omega
  obtain ⟨y0, y1, y2⟩ := HM.out.wb.cells
  obtain ⟨v0, v1, v2, v3, v4⟩ := HM.out.pl.cells
  have ylt := Blk.lt HM.out.wb
  have vlt := Blk.lt HM.out.pl
  go_wp2_with fail
  refine (counts_any HM.out.sa.1).mono ?_; rintro e w2 ⟨rfl, hb2⟩
  have HM2 := Lib.hid ((HM.out.below hb2).alloc (.cells #[.int .i64 (c 0), .int .i64 (c 1), .int .i64 (c 2), .int .i64 (c 3), .int .i64 (c 4)] 54))
  have HC2 : Hid (CntB (w2.alloc (.cells #[.int .i64 (c 0), .int .i64 (c 1), .int .i64 (c 2), .int .i64 (c 3), .int .i64 (c 4)] 54)) w2.heap.size c) := Lib.hid (cnt_blk w2 c)
  clear HM hb2 y0 y1 y2 v0 v1 v2 v3 v4 ylt vlt
  obtain ⟨y0, y1, y2⟩ := HM2.out.wb.cells
  obtain ⟨v0, v1, v2, v3, v4⟩ := HM2.out.pl.cells
  have ylt := Blk.lt HM2.out.wb
  have vlt := Blk.lt HM2.out.pl
  go_wp2_with fail
  generalize w2.alloc (.cells #[.int .i64 (c 0), .int .i64 (c 1), .int .i64 (c 2), .int .i64 (c 3), .int .i64 (c 4)] 54) = W2 at HM2 HC2 y0 y1 y2 v0 v1 v2 v3 v4 ylt vlt ⊢
  generalize w2.heap.size = b7 at HC2 ⊢
  have HMd := Lib.hid HM2.out.drew
  have HCd : Hid (CntB W2.drew b7 c) := Lib.hid HC2.out.drew
  obtain ⟨⟨k', nx', hd', j⟩, hr⟩ : ∃ r, gvN hd nx k = r := ⟨_, rfl⟩
  have hj : j < 4 := by have := gvN_j (hd := hd) (nx := nx) HK.out; rw [hr] at this; exact this
  have hidle : k'.isIdle = false → k'.isGive = true ∧ k'.giving = k.giving := by have := gvN_give (hd := hd) (nx := nx) HK.out; rw [hr] at this; exact this
  have HID := Lib.hid hidle
  have HRR := Lib.hid hr
  have hsum := sum_upd c hj
  obtain ⟨c', hc'⟩ : ∃ c', upd c j (c j + 1) = c' := ⟨_, rfl⟩
  rw [hc'] at hsum
  have HCC := Lib.hid hc'
  have ho : o = ⟨k', hs, hd', nx', j⟩ := by
    rw [← HO.out]; unfold stepW; rw [if_neg (by rw [isGive_take HK.out]; simp), hr]
  have HOO := Lib.hid ho
  clear hidle hr hc' ho hj
  obtain ⟨d, hdd⟩ : ∃ d, k'.isIdle = d := ⟨_, rfl⟩
  have HDD := Lib.hid hdd
  clear hdd
  go_region_held3 (fun W => W.cell? ⟨b, 1, none⟩ = some (.pointer (some ⟨q, 0, none⟩)) ∧ W.cell? ⟨pb, 3, none⟩ = some (.pointer (some ⟨p, 0, none⟩))) (first | (with_reducible assumption) | (with_reducible exact ⟨HMd.out.wb.cells.2.1, HMd.out.pl.cells.2.2.2.1⟩) | (with_reducible exact ⟨HM3.out.wb.cells.2.1, HM3.out.pl.cells.2.2.2.1⟩))
    (first
      | (go_at_call 13; ((with_reducible refine (goG (V := 1) (T := 1) (t := 1) HR.out rfl HN.out HN2.out HMd.out.sa HMd.out.pg HK.out HGV.out HFT.out hM2 hm2 HRR.out HDD.out).mono ?_); rintro e w3 ⟨f3, rfl, A3, P3, O3⟩; rw [HCC.out] at A3; have HM3 := Lib.hid (HMd.out.onlyT A3 P3 O3 HQ.out (.inl rfl) (.inr (.inl rfl))); have HPP := HMd.out.pg.some)))
  all_goals
    obtain ⟨_, _, _, PP⟩ := HPP
    have HC3 : Hid (CntB w3 b7 c) := Lib.hid (CntB.onlyT HCd.out HMd.out.sa.1 PP O3)
    clear A3 P3 O3 PP HMd HCd HM2 HC2 y0 y1 y2 v0 v1 v2 v3 v4 ylt vlt
    obtain ⟨y0, y1, y2⟩ := HM3.out.wb.cells
    have ylt := Blk.lt HM3.out.wb
    have yf1 := HM3.out.wb.fz 1
    cases d
    · have HFin : Hid (PlayedW pb p g n cap S M m b q av hv c' k k' hs hd' nx' w w3) := by
        have hkt := (HID.out HDD.out).1
        have hkg := (HID.out HDD.out).2
        refine Lib.hid ⟨f3, q, hv, HM3.out.sa, ⟨?_, HM3.out.li, ⟨fun h => (by rw [isGive_take hkt] at h; cases h), fun _ => ⟨s0, hkg.trans HGV.out, HM3.out.pg⟩⟩⟩, HM3.out.pl, HM3.out.fr, HFOOT.out k'⟩
        have := HM3.out.wb
        unfold tvK gvK
        rw [hkt, isGive_take hkt]
        exact this
      have HC7 := HC3
      obtain ⟨_, _, _, v3, _⟩ := HM3.out.pl.cells
      have vlt := Blk.lt HM3.out.pl
      have hpb : pb ≠ b := Blk.ne_ HM3.out.pl HM3.out.wb (by decide)
      have hpb2 : b ≠ pb := Ne.symm hpb
      clear HM3 HC3
      go_wp2_with fail
      clear y0 y1 y2 ylt yf1 v3 vlt hpb hpb2
      obtain ⟨⟨fz, Az⟩, mz, Pz⟩ := HFin.out.ar
      have HAz := Lib.hid Az
      have u0 := (mz 0).1
      have u0' : c' 0 ≤ 100001 := by have := (mz 0).2; omega
      have u1 := (mz 1).1
      have u1' : c' 1 ≤ 100001 := by have := (mz 1).2; omega
      have u2 := (mz 2).1
      have u2' : c' 2 ≤ 100001 := by have := (mz 2).2; omega
      have u3 := (mz 3).1
      have u3' : c' 3 ≤ 100001 := by have := (mz 3).2; omega
      obtain ⟨z0, z1, z2, z3, z4⟩ := Pz.cells
      have zlt := Blk.lt Pz
      have hb7 := HC7.out.lt
      clear Az mz Pz z0 z1 z2 z4
      refine (counts_any HAz.out).mono ?_; rintro e w9 ⟨rfl, hb9⟩
      have d70 : w9.cell? ⟨b7, 0, none⟩ = some (.int .i64 (c 0)) := (HC7.out.below hb9 hb7).cell 0
      have d71 : w9.cell? ⟨b7, 1, none⟩ = some (.int .i64 (c 1)) := (HC7.out.below hb9 hb7).cell 1
      have d72 : w9.cell? ⟨b7, 2, none⟩ = some (.int .i64 (c 2)) := (HC7.out.below hb9 hb7).cell 2
      have d73 : w9.cell? ⟨b7, 3, none⟩ = some (.int .i64 (c 3)) := (HC7.out.below hb9 hb7).cell 3
      have hb79 := Nat.lt_of_lt_of_le hb7 hb9.size
      have HFin2 := Lib.hid (HFin.out.below hb9)
      clear HFin HC7 hb9 HAz z3 zlt hb7
      go_wp2_with fail
      go_ret
      refine ⟨retL_bool (by first | (simp; done) | (simp; omega)), ?_⟩
      rw [HOO.out]
      simp only
      rw [HCC.out]
      exact HFin2.out.below ((Below.refl _ _).alloc (Nat.le_refl _) _)
    · have hki := isIdle_eq HDD.out
      subst hki
      have HFin : Hid (PlayedW pb p g n cap S M m b q av hv c' k .idle hs hd' nx' w (w3.setCell ⟨b, 1, none⟩ (.pointer none))) :=
        Lib.hid ⟨f3, q, hv, HM3.out.sa.far HM3.out.wb 1 _, ⟨HM3.out.wb.set1 _, HM3.out.li.far HM3.out.wb 1 _, ⟨fun h => (by cases h), fun h => (by cases h)⟩⟩, HM3.out.pl.far HM3.out.wb 1 _, HM3.out.fr.set_ _ (.inl (.inr (.inr (.inl rfl)))), HFOOT.out .idle⟩
      have HC7 : Hid (CntB (w3.setCell ⟨b, 1, none⟩ (.pointer none)) b7 c) := Lib.hid (HC3.out.far HM3.out.wb 1 _)
      obtain ⟨_, _, _, v3, _⟩ := HM3.out.pl.cells
      have vlt := Blk.lt HM3.out.pl
      have hpb : pb ≠ b := Blk.ne_ HM3.out.pl HM3.out.wb (by decide)
      have hpb2 : b ≠ pb := Ne.symm hpb
      clear HM3 HC3
      go_wp2_with fail
      clear y0 y1 y2 ylt yf1 v3 vlt hpb hpb2
      obtain ⟨⟨fz, Az⟩, mz, Pz⟩ := HFin.out.ar
      have HAz := Lib.hid Az
      have u0 := (mz 0).1
      have u0' : c' 0 ≤ 100001 := by have := (mz 0).2; omega
      have u1 := (mz 1).1
      have u1' : c' 1 ≤ 100001 := by have := (mz 1).2; omega
      have u2 := (mz 2).1
      have u2' : c' 2 ≤ 100001 := by have := (mz 2).2; omega
      have u3 := (mz 3).1
      have u3' : c' 3 ≤ 100001 := by have := (mz 3).2; omega
      obtain ⟨z0, z1, z2, z3, z4⟩ := Pz.cells
      have zlt := Blk.lt Pz
      have hb7 := HC7.out.lt
      clear Az mz Pz z0 z1 z2 z4
      refine (counts_any HAz.out).mono ?_; rintro e w9 ⟨rfl, hb9⟩
      have d70 : w9.cell? ⟨b7, 0, none⟩ = some (.int .i64 (c 0)) := (HC7.out.below hb9 hb7).cell 0
      have d71 : w9.cell? ⟨b7, 1, none⟩ = some (.int .i64 (c 1)) := (HC7.out.below hb9 hb7).cell 1
      have d72 : w9.cell? ⟨b7, 2, none⟩ = some (.int .i64 (c 2)) := (HC7.out.below hb9 hb7).cell 2
      have d73 : w9.cell? ⟨b7, 3, none⟩ = some (.int .i64 (c 3)) := (HC7.out.below hb9 hb7).cell 3
      have hb79 := Nat.lt_of_lt_of_le hb7 hb9.size
      have HFin2 := Lib.hid (HFin.out.below hb9)
      clear HFin HC7 hb9 HAz z3 zlt hb7
      go_wp2_with fail
      go_ret
      refine ⟨retL_bool (by first | (simp; done) | (simp; omega)), ?_⟩
      rw [HOO.out]
      simp only
      rw [HCC.out]
      exact HFin2.out.below ((Below.refl _ _).alloc (Nat.le_refl _) _)
end
end Go.Proofs.Ytgjlilcljefbfaa
