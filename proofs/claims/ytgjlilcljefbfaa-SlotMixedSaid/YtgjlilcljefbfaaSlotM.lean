/- The fixed answer. -/
import Derived.Test.YtgjlilcljefbfaaSlotL
namespace Go.Proofs.Ytgjlilcljefbfaa
open Go.RowKit

set_option maxRecDepth 100000

theorem LyB.two {w : World} {b : Nat} (h : LyB w b 1 2 1) : w.cell? ⟨b, 0, none⟩ = some (.int .i64 1) ∧ w.cell? ⟨b, 1, none⟩ = some (.int .i64 2) ∧ w.cell? ⟨b, 2, none⟩ = some (.int .i64 1) := h.cells

theorem rt2 : Rt 1 ((2 : Nat) : Int) 1 := ⟨by decide, by decide, by decide, by decide, by decide, by decide⟩

/-- Behind k takes of two. -/
def AwRel (b p g n cap : Nat) (w0 : World) (i : Value) (w : World) : Prop :=
  ∃ (k m : Nat) (c f : Nat → Int), k ≤ 2 ∧ i = .int .i64 (k : Int) ∧ m ≤ 10 + 10 * k ∧ LyB w b 1 2 1 ∧ SA w p g n cap 1 2 (10 * k) m c f (k, if k < 2 then k + 1 else 0) (first 2).nx ∧ Below w0.heap.size w0 w

theorem goS {w : World} {q S s : Nat} {V T : Int} {g0 : Nat × Nat} {d : Bool} (hR : Rt V S T) (P : PgT w q V S T g0 .idle) (h1 : g0.1 ≤ 100000) (h2 : g0.2 ≤ S) (hs : g0.2 - 1 = s) (hd : decide (g0.2 ≠ 0) = d) :
    Calls Try.prog 17 #[.pointer (some ⟨q, 0, none⟩)] w fun e w' => e = .returned (.tuple #[.int .i64 (s : Int), .bool d]) ∧ Below w.heap.size w w' := by
  subst hs hd
  exact slotT_any hR P h1 h2
theorem begun2 (w : World) : Calls Try.prog 8 #[.agg #[.int .i64 1, .int .i64 2, .int .i64 1]] w (Begun 1 1 1 2 w) := begun_yes (V := 1) (T := 1) (S := 2) (t := 1) rt2 rfl w
theorem newTake2 (w : World) :
    Calls Try.prog 15 #[.agg #[.int .i64 1, .int .i64 2, .int .i64 1]] w fun e w' => ∃ q, e = .returned (.pointer (some ⟨q, 0, none⟩)) ∧ w.heap.size ≤ q ∧ PgT w' q 1 2 1 (0, 0) .take0 ∧ Below w.heap.size w w' := goN 1 1 2 w
theorem newGive2 (w : World) :
    Calls Try.prog 12 #[.agg #[.int .i64 1, .int .i64 2, .int .i64 1], .int .i64 1] w fun e w' => ∃ q, e = .returned (.pointer (some ⟨q, 0, none⟩)) ∧ w.heap.size ≤ q ∧ PgG w' q 1 2 1 1 (.give0 1) ∧ Below w.heap.size w w' := goN2 (s := 1) rt2 (by decide) w
theorem list2 {w : World} {p g n cap M m : Nat} {c f : Nat → Int} {hd : Nat × Nat} {nx : Nat → Nat} {L : List Nat} (hn : 1 < n) (hn2 : ∀ s, s < 2 → 1 + 1 + s * 7 < n) (A : SA w p g n cap 1 2 M m c f hd nx) (hch : Chain nx hd.2 L) (hL : ∀ s ∈ L, s < 2) (hlen : L.length ≤ 2) (hb : m ≤ 100000) :
    Calls Try.prog 10 #[.iface 31 (pmV p), .agg #[.int .i64 1, .int .i64 2, .int .i64 1]] w (GoL p g n cap 1 2 M m c f hd nx L w) := goL (V := 1) (T := 1) (t := 1) (S := 2) rt2 rfl hn hn2 A hch hL hlen hb

set_option maxHeartbeats 4000000 in
theorem awake_any (w : World) : Calls Try.prog 7 #[] w fun e w' => e = .returned (.bool true) ∧ Below w.heap.size w w' := by
  go_enter Try.func7, Try.ntmps7
  go_wp2_with fail
  have HL0 : Hid (LyB (w.alloc (.cells #[.int .i64 1, .int .i64 2, .int .i64 1] 24)) w.heap.size 1 2 1) := Lib.hid (Blk.new _ _ _)
  have HB0 : Hid (Below w.heap.size w (w.alloc (.cells #[.int .i64 1, .int .i64 2, .int .i64 1] 24))) := Lib.hid ((Below.refl _ _).alloc (Nat.le_refl _) _)
  refine (begun2 _).mono ?_; rintro e w1 ⟨p, g, cap, c, f, rfl, hp, hg, A1, _, _, hb1⟩
  obtain ⟨_, _, hn, hn2⟩ := cn_bd (V := 1) (T := 1) (S := 2) (t := 1) rt2 rfl
  generalize (cn 1 ((2 : Nat) : Int) 1).toNat = n at A1 hn hn2
  have HN := Lib.hid hn
  have HN2 := Lib.hid hn2
  have hpw : w.heap.size ≤ p := by simp at hp; omega
  have hgw : w.heap.size ≤ g := by simp at hg; omega
  have HL1 := Lib.hid (HL0.out.below hb1)
  have HB1 := Lib.hid (keepB HB0.out hb1)
  generalize hwb : w.heap.size = b at HL1 ⊢
  have hbw : w.heap.size ≤ b := by omega
  have HRel : Hid (AwRel b p g n cap w (.int .i64 0) w1) := Lib.hid ⟨0, 3, c, f, by omega, rfl, by omega, HL1.out, A1, HB1.out⟩
  obtain ⟨y0, y1, y2⟩ := HL1.out.two
  have hlt := HL1.out.lt
  clear A1 hb1 hp hg HL0 HB0 hn hn2
  go_wp2_with fail
  clear HL1 HB1 y0 y1 y2 hlt
  go_loopw [17] (fun i wr => AwRel b p g n cap w i wr) (fun i _ => 2 - (intOf i).toNat)
  case atStart => exact HRel.out
  case round =>
    clear HRel
    obtain ⟨k, m, c, f, hk, rfl, hm, L, A, B⟩ := hrel
    by_cases hlt : k < 2
    · rw [if_pos hlt] at A
      obtain ⟨y0, y1, y2⟩ := L.two
      have hltb := L.lt
      have HL := Lib.hid L
      have HA := Lib.hid A
      have HB := Lib.hid B
      clear L A B
      go_wp2_with fail
      refine (newTake2 _).mono ?_; rintro e w2 ⟨q, rfl, hq, P2, hb2⟩
      have HL2 := Lib.hid (HL.out.below hb2)
      have HA2 := Lib.hid (HA.out.below hb2)
      have HB2 := Lib.hid (keepB HB.out hb2)
      have HP2 := Lib.hid P2
      have hqw : w.heap.size ≤ q := by have := HB.out.size; omega
      clear P2 hb2 hq y0 y1 y2 hltb HL HA HB
      go_wp2_with fail
      refine (goT rt2 rfl HN.out HN2.out HA2.out HP2.out rfl trivial (by omega) (by omega) (k' := .take1 (k, k + 1)) (g' := (k, k + 1)) (hd' := (k, k + 1)) (j := 0) (d := false) (by simp [tkN]) rfl).mono ?_
      rintro e w3 ⟨f3, rfl, A3, P3, O3⟩
      obtain ⟨_, _, _, PP⟩ := HP2.out.some
      have HL3 := Lib.hid (HL2.out.onlyT HA2.out.1 PP O3)
      have HB3 := Lib.hid (OnlyT.below HB2.out O3 HB2.out.size hqw hpw hgw (by simp))
      have HA3 := Lib.hid A3
      have HP3 := Lib.hid P3
      clear PP A3 P3 O3 HL2 HB2 HA2 HP2
      go_wp2_with fail
      refine (goT rt2 rfl HN.out HN2.out HA3.out HP3.out rfl ⟨by omega, by omega, by omega⟩ (by omega) (by omega) (k' := .take2 (k, k + 1) ((first 2).nx k)) (g' := (k, k + 1)) (hd' := (k, k + 1)) (j := 0) (d := false) (by simp [tkN]) rfl).mono ?_
      rintro e w4 ⟨f4, rfl, A4, P4, O4⟩
      obtain ⟨_, _, _, PP⟩ := HP3.out.some
      have HL4 := Lib.hid (HL3.out.onlyT HA3.out.1 PP O4)
      have HB4 := Lib.hid (OnlyT.below HB3.out O4 HB3.out.size hqw hpw hgw (by simp))
      have HA4 := Lib.hid A4
      have HP4 := Lib.hid P4
      clear PP A4 P4 O4 HL3 HB3 HA3 HP3
      go_wp2_with fail
      refine (goD HP4.out).mono ?_; rintro e w5 ⟨rfl, rfl⟩
      go_wp2_with fail
      refine (goT rt2 rfl HN.out HN2.out HA4.out HP4.out rfl ⟨by omega, by omega, by omega, by simp only [first]; split <;> omega⟩ (by omega) (by omega) (k' := .idle) (g' := (k, k + 1)) (hd' := (k + 1, (first 2).nx k)) (j := 2) (d := true) (by simp [tkN]) rfl).mono ?_
      rintro e w5 ⟨f5, rfl, A5, P5, O5⟩
      obtain ⟨_, _, _, PP⟩ := HP4.out.some
      have HL5 := Lib.hid (HL4.out.onlyT HA4.out.1 PP O5)
      have HB5 := Lib.hid (OnlyT.below HB4.out O5 HB4.out.size hqw hpw hgw (by simp))
      have HA5 := Lib.hid A5
      have HP5 := Lib.hid P5
      clear PP A5 P5 O5 HL4 HB4 HA4 HP4
      go_wp2_with fail
      refine (goS rt2 HP5.out (by simp; omega) (by simp; omega) (s := k) (d := true) (by simp) (by simp)).mono ?_; rintro e w6 ⟨rfl, hb6⟩
      have HRel : Hid (AwRel b p g n cap w (.int .i64 ((k : Int) + 1)) w6) := by
        have e1 : (first 2).nx k = if k + 1 < 2 then k + 1 + 1 else 0 := rfl
        rw [e1] at HA5
        have A6 := HA5.out.below hb6
        exact Lib.hid ⟨k + 1, _, _, _, by omega, by go_num, by omega, HL5.out.below hb6, ⟨A6.1, A6.2.1.more (by omega), A6.2.2⟩, keepB HB5.out hb6⟩
      clear HA5 HP5 HL5 HB5 hb6
      go_wp2_with fail
      exact ⟨HRel.out, by simp [intOf]; omega⟩
    · rw [if_neg hlt] at A
      have hk2 : k = 2 := by omega
      subst hk2
      obtain ⟨y0, y1, y2⟩ := L.two
      have hltb := L.lt
      have HL1 := Lib.hid L.drew
      have HA1 := Lib.hid A.drew
      have HB1 := Lib.hid B.drew
      clear L A B hlt hk
      go_wp2_with fail
      have hlb : ∀ W : World, LyB W b 1 2 1 → W.cell? ⟨b, 0, none⟩ = some (.int .i64 1) ∧ W.cell? ⟨b, 1, none⟩ = some (.int .i64 2) ∧ W.cell? ⟨b, 2, none⟩ = some (.int .i64 1) := fun W h => h.two
      have hsz : w.heap.size ≤ wr.heap.size := HB1.out.size
      go_region_held3 (fun W => LyB W b 1 2 1) (first | (with_reducible assumption) | (with_reducible exact HL1.out) | (with_reducible exact LyB.below (by assumption) hb1))
        (first
          | (go_at_call 15; ((with_reducible refine (newTake2 _).mono ?_); rintro e w2 ⟨q, rfl, hq, P, hb1⟩; have HA1 := Lib.hid (SA.below HA1.out hb1); have hq := Nat.le_trans HB1.out.size hq; have HB1 := Lib.hid (keepB HB1.out hb1); have HP1 := Lib.hid P; (try have HG1 := Lib.hid (PgG.below HG1.out hb1)); have HL2 := Lib.hid (LyB.below (by assumption) hb1)))
          | (go_at_call 12; ((with_reducible refine (newGive2 _).mono ?_); rintro e w2 ⟨q2, rfl, hq2, P2, hb1⟩; have HA1 := Lib.hid (SA.below HA1.out hb1); have hq2 := Nat.le_trans HB1.out.size hq2; have HB1 := Lib.hid (keepB HB1.out hb1); have HG1 := Lib.hid P2; (try have HP1 := Lib.hid (PgT.below HP1.out hb1)); have HL2 := Lib.hid (LyB.below (by assumption) hb1))))
      all_goals
        have HA2 := HA1
        have HB2 := HB1
        have HP2 := HP1
        have HG2 := HG1
        have hqq : q ≠ q2 := HP2.out.ne_G HG2.out
        clear HA1 HB1 HP1 HG1 hb1 P P2 y0 y1 y2 hltb HL1
        go_wp2_with fail
        refine (goT rt2 rfl HN.out HN2.out HA2.out HP2.out rfl trivial (by omega) (by omega) (k' := .idle) (g' := (2, 0)) (hd' := (2, 0)) (j := 0) (d := true) (by simp [tkN]) rfl).mono ?_
        rintro e w3 ⟨f3, rfl, A3, P3, O3⟩
        obtain ⟨_, _, _, PP⟩ := HP2.out.some
        have HL3 := Lib.hid (HL2.out.onlyT HA2.out.1 PP O3)
        have HB3 := Lib.hid (OnlyT.below HB2.out O3 HB2.out.size hq hpw hgw (by simp))
        have HG3 := Lib.hid (HG2.out.onlyT HA2.out.1 O3 (Ne.symm hqq))
        have HA3 := Lib.hid A3
        have HP3 := Lib.hid P3
        clear PP A3 P3 O3 HL2 HB2 HA2 HP2 HG2
        go_wp2_with fail
        refine (goG rt2 rfl HN.out HN2.out HA3.out HG3.out rfl rfl (by show 1 < 2; omega) (by omega) (by omega) (k' := .give1 1 (2, 0)) (nx' := (first 2).nx) (hd' := (2, 0)) (j := 0) (d := false) (by simp [gvN]) rfl).mono ?_
        rintro e w4 ⟨f4, rfl, A4, G4, O4⟩
        obtain ⟨_, _, _, PP⟩ := HG3.out.some
        have HL4 := Lib.hid (HL3.out.onlyT HA3.out.1 PP O4)
        have HB4 := Lib.hid (OnlyT.below HB3.out O4 HB3.out.size hq2 hpw hgw (by simp))
        have HP4 := Lib.hid (HP3.out.onlyT HA3.out.1 O4 hqq)
        have HA4 := Lib.hid A4
        have HG4 := Lib.hid G4
        clear PP A4 G4 O4 HL3 HB3 HA3 HP3 HG3
        go_wp2_with fail
        refine (goG rt2 rfl HN.out HN2.out HA4.out HG4.out rfl rfl ⟨by omega, by omega, by omega⟩ (by omega) (by omega) (k' := .give2 1 (2, 0)) (nx' := put (first 2).nx 1 0) (hd' := (2, 0)) (j := 1) (d := false) (by simp [gvN]) rfl).mono ?_
        rintro e w5 ⟨f5, rfl, A5, G5, O5⟩
        obtain ⟨_, _, _, PP⟩ := HG4.out.some
        have HL5 := Lib.hid (HL4.out.onlyT HA4.out.1 PP O5)
        have HB5 := Lib.hid (OnlyT.below HB4.out O5 HB4.out.size hq2 hpw hgw (by simp))
        have HP5 := Lib.hid (HP4.out.onlyT HA4.out.1 O5 hqq)
        have HA5 := Lib.hid A5
        have HG5 := Lib.hid G5
        clear PP A5 G5 O5 HL4 HB4 HA4 HP4 HG4
        go_wp2_with fail
        refine (goG rt2 rfl HN.out HN2.out HA5.out HG5.out rfl rfl ⟨by omega, by omega, by omega⟩ (by omega) (by omega) (k' := .idle) (nx' := put (first 2).nx 1 0) (hd' := (3, 2)) (j := 2) (d := true) (by simp [gvN]) rfl).mono ?_
        rintro e w6 ⟨f6, rfl, A6, G6, O6⟩
        obtain ⟨_, _, _, PP⟩ := HG5.out.some
        have HL6 := Lib.hid (HL5.out.onlyT HA5.out.1 PP O6)
        have HB6 := Lib.hid (OnlyT.below HB5.out O6 HB5.out.size hq2 hpw hgw (by simp))
        have HP6 := Lib.hid (HP5.out.onlyT HA5.out.1 O6 hqq)
        have HA6 := Lib.hid A6
        have HG6 := Lib.hid G6
        clear PP A6 G6 O6 HL5 HB5 HA5 HP5 HG5
        go_wp2_with fail
        refine (goS rt2 HP6.out (by simp) (by simp) (s := 0) (d := false) (by simp) (by simp)).mono ?_; rintro e w7 ⟨rfl, hb7⟩
        have HL7 := Lib.hid (HL6.out.below hb7)
        have HA7 := Lib.hid (HA6.out.below hb7)
        have HB7 := Lib.hid (keepB HB6.out hb7)
        have HG7 := Lib.hid (HG6.out.below hb7)
        clear HL6 HA6 HB6 HG6 HP6 hb7
        obtain ⟨y0, y1, y2⟩ := HL7.out.two
        have hltb := HL7.out.lt
        go_wp2_with fail
        have HL1 := Lib.hid HL7.out.drew
        have HA1 := Lib.hid HA7.out.drew
        have HB1 := Lib.hid HB7.out.drew
        have HG1 : Hid (PgG w7.drew q2 1 2 1 1 .idle) := Lib.hid (HG7.out.map fun P => P.drew)
        clear HA7 HB7 HG7
        have hch : Chain (put (first 2).nx 1 0) (3, 2).2 [1] := ⟨rfl, put_same _ _ _⟩
        go_region_held3 (fun W => LyB W b 1 2 1) (first | (with_reducible assumption) | (with_reducible exact HL1.out) | (with_reducible exact LyB.below (by assumption) hb1) | (with_reducible exact HL9.out))
          (first
            | (go_at_call 11; ((with_reducible refine (pm_of p _).mono ?_); rintro e w8 ⟨rfl, hb1⟩; have HA8 := Lib.hid (SA.below HA1.out hb1); have HB8 := Lib.hid (keepB HB1.out hb1); have HG8 := Lib.hid (PgG.below HG1.out hb1)))
            | (go_at_call 10; ((with_reducible refine (list2 HN.out HN2.out HA8.out hch (by simp) (by simp) (by omega)).mono ?_); rintro e w9 ⟨v, c9, rfl, hli, _, A9, _, _, O9⟩; have HL9 := Lib.hid (LyB.only (by assumption) HA8.out.1 O9); have HG9 := Lib.hid (PgG.map HG8.out fun P => P.only HA8.out.1 O9); have HB9 := Lib.hid (Only.below HB8.out O9 HB8.out.size hpw hgw); have HI9 := Lib.hid hli)))
        all_goals
          obtain ⟨bb, off, vc, rfl, _, _, _, hcell⟩ := HI9.out.open_ (by simp)
          have hc0 := hcell 0 1 rfl
          have hc0' : w9.cell? ⟨bb, off, none⟩ = some (.int .i64 1) := hc0
          clear hcell hc0 hli A9 O9 HA8 HB8 HG8 hb1 HL1 HA1 HB1 HG1 HL7 y0 y1 y2 hltb hch
          go_wp2_with fail
          refine (goD2 HG9.out).mono ?_; rintro e w10 ⟨rfl, rfl⟩
          go_wp2_with fail
          go_ret
          exact ⟨rfl, HB9.out⟩
end Go.Proofs.Ytgjlilcljefbfaa
