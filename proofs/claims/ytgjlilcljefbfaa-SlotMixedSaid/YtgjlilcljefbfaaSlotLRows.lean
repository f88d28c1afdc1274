/- Walk of SlotRows. Printed by wip/tools/slotlr.py. -/
import Derived.Test.YtgjlilcljefbfaaSlotZ
import Derived.Test.YtgjlilcljefbfaaSlotLMisses
import Derived.Carry
namespace Go.Proofs.Ytgjlilcljefbfaa
open Go.RowKit

set_option maxRecDepth 100000

theorem six_cells {w : World} {pb p S b : Nat} {av : Value} (P : PlB w pb p S av) (L : LyB w b 1 S 1) :
    Hid (w.cell? ⟨pb, 3, none⟩ = some (.pointer (some ⟨p, 0, none⟩)) ∧ w.cell? ⟨b, 0, none⟩ = some (.int .i64 1) ∧ w.cell? ⟨b, 1, none⟩ = some (.int .i64 (S : Int)) ∧ w.cell? ⟨b, 2, none⟩ = some (.int .i64 1)) := Lib.hid ⟨P.cells.2.2.2.1, L.cells⟩

/-- What holds at each pick. -/
def RowRel (b pb p g n cap S nW len : Nat) (av : Value) (wb : Nat → Nat) (w0 : World) (i : Value) (w : World) : Prop :=
  ∃ (k m M : Nat) (c f : Nat → Int) (qb : Nat → Nat) (hv : Nat → Value) (y : Sm) (L : List Nat), k ≤ len ∧ i = .int .i64 (k : Int) ∧ m ≤ 100 + 60 * k ∧ M ≤ k ∧ PM w pb p g n cap S m M w0.heap.size nW av wb qb hv c f y ∧ SlOk S nW y.x L ∧
    RowW w w0.heap.size av nW wb ∧ LyB w b 1 S 1 ∧ Below w0.heap.size w0 w

set_option maxHeartbeats 8000000 in
theorem slotRows_main (S nW : Nat) (a : Option Addr) (len cap0 : Nat) (zs : List Int) (w : World) (hS : S ≤ 48) (hn1 : 1 ≤ nW) (hn8 : nW ≤ 8) (h200 : len ≤ 200) (hs : IsRow .i64 w a len cap0 zs) :
    Calls Try.prog 6 #[.int .i64 (S : Int), .int .i64 (nW : Int), .slice a len cap0] w fun e w' => e = .returned (.bool true) ∧ Below w.heap.size w w' := by
  obtain ⟨j0, hj0, yz0, yz1, yz2⟩ := info_parts info_w
  have HS := Lib.hid hs; clear hs
  have hR : Rt 1 (S : Int) 1 := ⟨by omega, by omega, by omega, by omega, by omega, by omega⟩
  have HR := Lib.hid hR
  have hS2 : (S : Int) ≤ 48 := by omega
  have hS3 : 0 ≤ (S : Int) := by omega
  have hW1 : (1 : Int) ≤ (nW : Int) := by omega
  have hW8 : (nW : Int) ≤ 8 := by omega
  have h202 : (len : Int) ≤ 200 := by omega
  clear hR
  go_enter Try.func6, Try.ntmps6
  go_wp2_with fail
  have HL0 : Hid (LyB (w.alloc (.cells #[.int .i64 1, .int .i64 (S : Int), .int .i64 1] 24)) w.heap.size 1 S 1) := Lib.hid (Blk.new _ _ _)
  have HB0 : Hid (Below w.heap.size w (w.alloc (.cells #[.int .i64 1, .int .i64 (S : Int), .int .i64 1] 24))) := Lib.hid ((Below.refl _ _).alloc (Nat.le_refl _) _)
  obtain ⟨_, _, hn, hn2⟩ := cn_bd (V := 1) (T := 1) (S := S) (t := 1) HR.out rfl
  generalize hbw : w.heap.size = b at HL0 ⊢
  generalize w.alloc (.cells #[.int .i64 1, .int .i64 (S : Int), .int .i64 1] 24) = w0 at HL0 HB0 ⊢
  have HN := Lib.hid hn
  have HN2 := Lib.hid hn2
  have HLd := Lib.hid HL0.out.drew
  have HBd := Lib.hid HB0.out.drew
  have hlb : ∀ W : World, LyB W b 1 S 1 → W.cell? ⟨b, 0, none⟩ = some (.int .i64 1) ∧ W.cell? ⟨b, 1, none⟩ = some (.int .i64 (S : Int)) ∧ W.cell? ⟨b, 2, none⟩ = some (.int .i64 1) := fun W h => h.cells
  have HBW := Lib.hid hbw
  clear hn hn2 hbw
  go_region_held3 (fun W => LyB W b 1 S 1) (first | (with_reducible assumption) | (with_reducible exact HLd.out) | (with_reducible exact LyB.below (by assumption) hb1) | (with_reducible exact LyB.alloc (by assumption) _))
    (first
      | (go_at_call 8; ((with_reducible refine (begun_yes (V := 1) (T := 1) (S := S) (t := 1) HR.out rfl _).mono ?_); rintro e w1 ⟨p, g, cap, c, f, rfl, hp, hg, A1, h02, h03, hb1⟩; have HL1 := Lib.hid (LyB.below (by assumption) hb1))))
  have hpw : w.heap.size ≤ p := Nat.le_trans HBd.out.size hp
  have hgw : w.heap.size ≤ g := Nat.le_trans HBd.out.size hg
  have HB1 : Hid (Below w.heap.size w w1) := Lib.hid (keepB HBd.out hb1)
  have hpbw : w.heap.size ≤ w1.heap.size := HB1.out.size
  generalize (cn 1 (S : Int) 1).toNat = n at A1 HN HN2
  have HRel : Hid (AlRel b w1.heap.size p g n cap S nW w c f (.int .i64 0) (w1.alloc (.cells #[.int .i64 1, .int .i64 (S : Int), .int .i64 1, .pointer (some ⟨p, 0, none⟩), .slice none 0 0, .int .i64 0] 47))) :=
    Lib.hid ⟨0, .slice none 0 0, fun _ => 0, Nat.zero_le _, rfl, Blk.new _ _ _, A1.alloc _, World.ownsRow_nil _ _ _ _, fun j hj => absurd hj (Nat.not_lt_zero _), fun i j hi => absurd hi (Nat.not_lt_zero _), HL1.out.alloc _, HB1.out.alloc hpbw _⟩
  have v3 : (w1.alloc (.cells #[.int .i64 1, .int .i64 (S : Int), .int .i64 1, .pointer (some ⟨p, 0, none⟩), .slice none 0 0, .int .i64 0] 47)).cell? ⟨w1.heap.size, 3, none⟩ = some (.pointer (some ⟨p, 0, none⟩)) := (Blk.new w1 47 _).cell 3
  have vlt : w1.heap.size < (w1.alloc (.cells #[.int .i64 1, .int .i64 (S : Int), .int .i64 1, .pointer (some ⟨p, 0, none⟩), .slice none 0 0, .int .i64 0] 47)).heap.size := by simp
  have H02 := Lib.hid h02
  have H03 := Lib.hid h03
  generalize w1.alloc (.cells #[.int .i64 1, .int .i64 (S : Int), .int .i64 1, .pointer (some ⟨p, 0, none⟩), .slice none 0 0, .int .i64 0] 47) = wp at HRel v3 vlt ⊢
  generalize w1.heap.size = pb at HRel v3 vlt hpbw ⊢
  clear h02 h03 A1 hb1 hp hg HL1 HLd HBd HB0 HL0 HB1 hlb
  go_wp2_with fail
  clear v3 vlt
  go_loopw [51] (fun i wr => AlRel b pb p g n cap S nW w c f i wr) (fun i _ => nW - (intOf i).toNat)
  case atStart => exact HRel.out
  case round =>
    clear HRel
    obtain ⟨k, av, wb, hk, rfl, P, A, R, hw, hd, L, B⟩ := hrel
    by_cases hlt : k < nW
    · have HP := Lib.hid P
      have HA := Lib.hid A
      have HRW := Lib.hid R
      have HW := Lib.hid hw
      have HD := Lib.hid hd
      have HL := Lib.hid L
      have HB := Lib.hid B
      obtain ⟨v0, v1, v2, v3, v4⟩ := P.cells
      have vlt := Blk.lt P
      have vf4 := Blk.frozen P 4
      have hsz : w.heap.size ≤ wr.heap.size := B.size
      clear P A R hw hd L B
      go_wp2_with (at_builtin
                   refine wpList_append_own_at _ rfl _ _ 45 rfl w.heap.size 48 j0 _ 1 8 Try.underlying45 hj0 yz0 yz1 yz2 rfl (by omega) av k (ptrs wb k) rfl
                     ((World.ownsRow.alloc HRW.out _).alloc _) ⟨wr.heap.size + 1, 0, none⟩ 1 1 [.pointer (some ⟨wr.heap.size, 0, none⟩)] rfl rfl ?c1 ?c2 (by simp only [maxLen]; omega) (by omega) (by simp; omega) ?_)
      case c1 => exact World.news_of_block (cs := #[.pointer (some ⟨wr.heap.size, 0, none⟩)]) (Blk.newAt (by simp) _ _)
      case c2 => intro u hu; simp at hu; subst hu; rfl
      intro v' w2 hown hgrow _ hat
      have HNX : Hid (AlRel b pb p g n cap S nW w c f (.int .i64 ((k : Int) + 1)) (w2.setCell ⟨pb, 4, none⟩ v')) := Lib.hid (AlRel.more hlt hpbw HP.out HA.out HRW.out HW.out HD.out HL.out HB.out hown hgrow)
      have z4 : ∃ u, w2.cell? ⟨pb, 4, none⟩ = some u := ⟨av, by
        have hB2 : Below wr.heap.size wr ((wr.alloc (.cells #[.pointer none, .pointer none, .slice none 0 0] 50)).alloc (.cells #[.pointer (some ⟨wr.heap.size, 0, none⟩)] 48)) := ((Below.refl _ _).alloc (Nat.le_refl _) _).alloc (by simp) _
        have P2 := Blk.below HP.out hB2 vlt
        refine (Blk.grown P2 hgrow (fun e => ?_)).cell 4
        obtain ⟨cs, hb⟩ := (HRW.out.below hB2).blk pb e
        exact hb.ne_ P2 (by decide) rfl⟩
      obtain ⟨u4, z4⟩ := z4
      have zf4 : w2.frozen? ⟨pb, 4, none⟩ = false := by
        have hB2 : Below wr.heap.size wr ((wr.alloc (.cells #[.pointer none, .pointer none, .slice none 0 0] 50)).alloc (.cells #[.pointer (some ⟨wr.heap.size, 0, none⟩)] 48)) := ((Below.refl _ _).alloc (Nat.le_refl _) _).alloc (by simp) _
        have P2 := Blk.below HP.out hB2 vlt
        refine (Blk.grown P2 hgrow (fun e => ?_)).frozen 4
        obtain ⟨cs, hb⟩ := (HRW.out.below hB2).blk pb e
        exact hb.ne_ P2 (by decide) rfl
      have zlt : pb < w2.heap.size := by have := hgrow.size; simp at this; omega
      rcases hown.2 with ⟨_, h0⟩ | ⟨ag, acap, cur, rfl, _, _, hac, hac2, _, _⟩
      · omega
      clear hown hgrow hat HP HA HRW HW HD HL HB v0 v1 v2 v3 v4 vlt vf4
      go_wp2_with fail
      exact ⟨HNX.out, by simp [intOf]; omega⟩
    · have hkn : nW = k := by omega
      subst hkn
      have HPM := Lib.hid (AlRel.whole H02.out H03.out P A hw hd)
      have HRW := Lib.hid R
      have HL := Lib.hid L
      have HB := Lib.hid B
      clear P A R hw hd L B
      have HRel : Hid (RowRel b pb p g n cap S nW len av wb w (.int .i64 0) wr) :=
        Lib.hid ⟨0, S + 1, 0, c, f, _, _, _, _, Nat.zero_le _, rfl, by omega, by omega, HPM.out, first_ok S nW, HRW.out, HL.out, HB.out⟩
      clear HPM HRW HL HB
      go_wp2_with fail
      go_loopw [67] (fun i wr => RowRel b pb p g n cap S nW len av wb w i wr) (fun i _ => len - (intOf i).toNat)
      case atStart => exact HRel.out
      case round =>
        clear HRel
        obtain ⟨i, m, M, c1, f1, qb, hv, y, L, hi, rfl, hm, hM, PMx, hok, R, LY, B⟩ := hrel
        have HPM := Lib.hid PMx
        have HOK := Lib.hid hok
        have HRW := Lib.hid R
        have HL := Lib.hid LY
        have HB := Lib.hid B
        clear PMx hok R LY B
        by_cases hlt2 : i < len
        · obtain ⟨ab, aoff, z, rfl, hzc, hz1, hz2⟩ := isRow_ati HS.out hlt2
          have hzc2 : wr.cell? ⟨ab, aoff + i, none⟩ = some (.int .i64 z) := cell_later HB.out hzc
          clear hzc
          by_cases hz : z < 0
          · have HRel2 : Hid (RowRel b pb p g n cap S nW len av wb w (.int .i64 ((i : Int) + 1)) wr) := Lib.hid ⟨i + 1, m, M, c1, f1, qb, hv, y, L, by omega, by go_num, by omega, by omega, HPM.out, HOK.out, HRW.out, HL.out, HB.out⟩
            clear HPM HOK HRW HL HB
            go_wp2_with fail
            exact ⟨HRel2.out, by simp [intOf]; omega⟩
          · obtain ⟨zn, rfl⟩ := Int.eq_ofNat_of_zero_le (show 0 ≤ z by omega)
            obtain ⟨j, hj⟩ : ∃ j, j = zn % nW := ⟨_, rfl⟩
            have hjn : j < nW := by rw [hj]; exact Nat.mod_lt _ (by omega)
            have htm : ((zn : Nat) : Int).tmod ((nW : Nat) : Int) = ((j : Nat) : Int) := by rw [Int.tmod_eq_emod_of_nonneg (by omega), hj]; rfl
            obtain ⟨dd, hdd⟩ : ∃ dd, dd = zn / nW := ⟨_, rfl⟩
            have htd : ((zn : Nat) : Int).tdiv ((nW : Nat) : Int) = ((dd : Nat) : Int) := by rw [Int.tdiv_eq_ediv_of_nonneg (by omega), hdd]; rfl
            have hddle : dd ≤ zn := by rw [hdd]; exact Nat.div_le_self _ _
            have hwj : IntKind.i64.wrap ((j : Nat) : Int) = ((j : Nat) : Int) := IntWalk.i64_in _ (by omega)
            have hwd : IntKind.i64.wrap ((dd : Nat) : Int) = ((dd : Nat) : Int) := IntWalk.i64_in _ (by omega)
            obtain ⟨rr, hrr⟩ : ∃ rr, rr = dd % 2 := ⟨_, rfl⟩
            have htr : ((dd : Nat) : Int).tmod 2 = ((rr : Nat) : Int) := by rw [Int.tmod_eq_emod_of_nonneg (by omega), hrr]; rfl
            have hwr : IntKind.i64.wrap ((rr : Nat) : Int) = ((rr : Nat) : Int) := IntWalk.i64_in _ (by omega)
            have hnz : ¬ ((nW : Nat) : Int) = 0 := by omega
            have hnz' : ¬ nW = 0 := by omega
            have hje : zn % nW = j := hj.symm
            have hde : zn / nW = dd := hdd.symm
            have hjn2 : ((j : Nat) : Int) < ((nW : Nat) : Int) := by omega
            have hj0 : (0 : Int) ≤ ((j : Nat) : Int) := by omega
            obtain ⟨alb, alc, rfl, halc, hacell⟩ := HRW.out.open_ (by omega)
            have hac := hacell j hjn
            obtain ⟨v0, v1, v2, v3, v4⟩ := HPM.out.pl.cells
            have vlt := Blk.lt HPM.out.pl
            have hb7 : w.heap.size ≤ wr.heap.size := HB.out.size
            have hb7' : w.heap.size ≤ wr.drew.heap.size := hb7
            clear hacell hj hdd hrr
            go_wp2_with fail
            have HPMd := Lib.hid HPM.out.drew
            have HRWd := Lib.hid (HRW.out.below (Below.refl _ _).drew)
            have HLd := Lib.hid HL.out.drew
            have HBd := Lib.hid HB.out.drew
            have HC0 : Hid (wr.drew.cell? ⟨pb, 4, none⟩ = some (.slice (some ⟨alb, 0, none⟩) nW alc) ∧ wr.drew.cell? ⟨alb, j, none⟩ = some (.pointer (some ⟨wb j, 0, none⟩))) := Lib.hid ⟨v4, hac⟩
            have hM2 : M ≤ 10000 := by omega
            have hm2 : m ≤ 100000 := by omega
            clear HPM HRW HL HB
            go_region_held3 (fun W => W.cell? ⟨pb, 4, none⟩ = some (.slice (some ⟨alb, 0, none⟩) nW alc) ∧ W.cell? ⟨alb, j, none⟩ = some (.pointer (some ⟨wb j, 0, none⟩))) (first | (with_reducible assumption) | (with_reducible exact HC0.out) | (with_reducible exact HCE.out))
              (first
                | (go_at_call 19; ((with_reducible refine (pm_step_miss _ hS HN.out HN2.out HPMd.out HOK.out hjn hb7' hM2 hm2).mono ?_); rintro e w4 ⟨rfl, qb', hv', c', f', y', L', PM4, ok4, mi4, OF4⟩; have HRW4 := Lib.hid (RowW.onlyF HRWd.out OF4 (fun i cs hi => HPMd.out.far hi (by decide) (by decide) (by decide) (by decide) (by decide) (by decide))); have HPM4 := Lib.hid PM4; have HCE := row_cells HRW4.out PM4.pl hjn)))
            have HL4 : Hid (LyB w4 b 1 S 1) := Lib.hid (Blk.onlyF HLd.out OF4 (HPMd.out.far HLd.out (by decide) (by decide) (by decide) (by decide) (by decide) (by decide)))
            have HB4 : Hid (Below w.heap.size w w4) := Lib.hid (OnlyF.toBelow HBd.out OF4 hb7 (fun x hx => by
              rcases hx with rfl | rfl | ⟨i', hi', hx⟩
              · exact hpw
              · exact hgw
              · exact HPMd.out.new i' hi' x hx))
            have HOK4 := Lib.hid ok4
            clear PM4 ok4 mi4 OF4 HPMd HRWd HLd HBd HOK hac v0 v1 v2 v3 v4 vlt
            obtain ⟨v0, v1, v2, v3, v4⟩ := HPM4.out.pl.cells
            have vlt := Blk.lt HPM4.out.pl
            obtain ⟨y0, y1, y2⟩ := HL4.out.cells
            have ylt := HL4.out.lt
            have hmm := @run_makeMap Try.prog
            have hch := HOK4.out.chain
            have hLS : ∀ s ∈ L', s < S := fun s hs => HOK4.out.lt_of_mem hs
            have hLn : L'.length ≤ S := nodup_len HOK4.out.nodup hLS
            have HCH := Lib.hid hch
            have HLS := Lib.hid hLS
            clear hch hLS
            go_wp2_with fail
            have HSET0 := Lib.hid (SetN.made w4)
            have HPM5 := Lib.hid (HPM4.out.alloc (.map #[] 0))
            have HRW5 := Lib.hid (HRW4.out.below (w' := w4.alloc (.map #[] 0)) ((Below.refl _ _).alloc (Nat.le_refl _) _))
            have HL5 := Lib.hid (HL4.out.alloc (.map #[] 0))
            have HB5 := Lib.hid (HB4.out.alloc HB4.out.size (.map #[] 0))
            have HB4s : w.heap.size ≤ w4.heap.size := HB4.out.size
            clear HPM4 HRW4 HL4 HB4 v0 v1 v2 v3 v4 vlt y0 y1 y2 ylt
            generalize w4.alloc (.map #[] 0) = w5 at HSET0 HPM5 HRW5 HL5 HB5 ⊢
            have hmb : w.heap.size ≤ w4.heap.size := HB4s
            generalize w4.heap.size = mb at HSET0 hmb ⊢
            have HC5 : Hid (w5.drew.cell? ⟨pb, 3, none⟩ = some (.pointer (some ⟨p, 0, none⟩)) ∧ w5.drew.cell? ⟨b, 0, none⟩ = some (.int .i64 1) ∧ w5.drew.cell? ⟨b, 1, none⟩ = some (.int .i64 (S : Int)) ∧ w5.drew.cell? ⟨b, 2, none⟩ = some (.int .i64 1)) := Lib.hid ⟨HPM5.out.pl.cells.2.2.2.1, HL5.out.cells⟩
            have HPMd := Lib.hid HPM5.out.drew
            have HRWd := Lib.hid (HRW5.out.below (Below.refl _ _).drew)
            have HLd := Lib.hid HL5.out.drew
            have HBd := Lib.hid HB5.out.drew
            have HSETd : Hid (SetN w5.drew mb 0 []) := Lib.hid (HSET0.out.below (Below.refl _ _).drew)
            clear HPM5 HRW5 HL5 HB5 HSET0
            go_region_held3 (fun W => W.cell? ⟨pb, 3, none⟩ = some (.pointer (some ⟨p, 0, none⟩)) ∧ W.cell? ⟨b, 0, none⟩ = some (.int .i64 1) ∧ W.cell? ⟨b, 1, none⟩ = some (.int .i64 (S : Int)) ∧ W.cell? ⟨b, 2, none⟩ = some (.int .i64 1)) (first | (with_reducible assumption) | (with_reducible exact HC5.out) | (with_reducible exact HC6.out) | (with_reducible exact HC7.out))
              (first
                | (go_at_call 11; ((with_reducible refine (pm_of p _).mono ?_); rintro e w6 ⟨rfl, hb1⟩; have HPM6 := Lib.hid (HPMd.out.below hb1); have HRW6 := Lib.hid (HRWd.out.below hb1); have HL6 := Lib.hid (HLd.out.below hb1); have HB6 := Lib.hid (keepB HBd.out hb1); have HSET6 := Lib.hid (HSETd.out.below hb1); have HC6 := six_cells HPM6.out.pl HL6.out))
                | (go_at_call 10; ((with_reducible refine (goL (V := 1) (T := 1) (t := 1) (S := S) HR.out rfl HN.out HN2.out HPM6.out.sa HCH.out HLS.out hLn (by omega)).mono ?_); rintro e w7 ⟨v7, c7, rfl, hli, hbk7, A7, e2, e3, O7⟩; obtain ⟨va, vc, rfl, hva, hvb⟩ := hli.shape; have HL7 := Lib.hid (LyB.only HL6.out HPM6.out.sa.1 O7); have HPM7 := Lib.hid (HPM6.out.only A7 O7 e2 e3); have HC7 := six_cells HPM7.out.pl HL7.out)))
            have HRW7 : Hid (RowW w7 w.heap.size (.slice (some ⟨alb, 0, none⟩) nW alc) nW wb) := Lib.hid (HRW6.out.keep fun i hi => by
              obtain ⟨cs, hb⟩ := HRW6.out.blk i hi
              obtain ⟨zs, hz, _⟩ := HPM6.out.sa.1.cells
              exact O7.block i hb.lt (fun e => hb.ne_ HPM6.out.sa.1.own (by decide) e) (fun e => hb.ne_ hz (by decide) e))
            have HB7 := Lib.hid (Only.below HB6.out O7 HB6.out.size hpw hgw)
            have HSET7 := Lib.hid (HSET6.out.only HPM6.out.sa.1 O7)
            have HI7 := Lib.hid hli
            clear HPMd HRWd HLd HBd HSETd HPM6 HRW6 HL6 HB6 HSET6 hli hbk7 A7 O7 hb1 hva hvb
            go_wp2_with fail
            go_loopw [100] (fun i wr => ∃ k : Nat, k ≤ L'.length ∧ i = .int .i64 (k : Int) ∧ SetN wr mb k (L'.take k) ∧ PM wr pb p g n cap S (m + 1 + 1 + L'.length) (M + 1) w.heap.size nW (.slice (some ⟨alb, 0, none⟩) nW alc) wb qb' hv' c7 f' y' ∧ RowW wr w.heap.size (.slice (some ⟨alb, 0, none⟩) nW alc) nW wb ∧ LI wr (.slice va L'.length vc) L' ∧ LyB wr b 1 S 1 ∧ Below w.heap.size w wr) (fun i _ => L'.length - (intOf i).toNat)
            case atStart => exact ⟨0, Nat.zero_le _, rfl, HSET7.out, HPM7.out, HRW7.out, HI7.out, HL7.out, HB7.out⟩
            case round =>
              clear HPM7 HRW7 HI7 HL7 HB7 HSET7
              obtain ⟨k, hk, rfl, SE, P8, R8, I8, L8, B8⟩ := hrel
              have HSE := Lib.hid SE
              have HP8 := Lib.hid P8
              have HR8 := Lib.hid R8
              have HI8 := Lib.hid I8
              have HL8 := Lib.hid L8
              have HB8 := Lib.hid B8
              clear SE P8 R8 I8 L8 B8
              by_cases hkl : k < L'.length
              · obtain ⟨x, hx⟩ : ∃ x, L'[k]? = some x := ⟨_, List.getElem?_eq_getElem hkl⟩
                have hne : L' ≠ [] := by rintro rfl; simp at hkl
                obtain ⟨vb, voff, vc2, e, _, _, _, hcell⟩ := HI8.out.open_ hne
                injection e with e1 _ ec
                subst e1 ec
                have hcx := hcell k x hx
                have hxL : x ∈ L' := List.mem_of_getElem? hx
                have hxS : x < S := HLS.out x hxL
                have hxS2 : ((x : Nat) : Int) < (S : Int) := by omega
                have hnot : x ∉ L'.take k := by
                  intro hm
                  have hnd := HOK4.out.nodup
                  rw [← List.take_append_drop k L'] at hnd
                  have h1 := (List.nodup_append.1 hnd).2.2 x hm
                  have h2 : x ∈ L'.drop k := by
                    have : (L'.drop k)[0]? = some x := by rw [List.getElem?_drop]; simpa using hx
                    exact List.mem_of_getElem? this
                  exact h1 x h2 rfl
                have hlook := HSE.out.look (i := x) (by omega) (d := false) (decide_eq_false hnot)
                have htk : L'.take (k + 1) = L'.take k ++ [x] := by rw [List.take_add_one, hx]; rfl
                have HTK := Lib.hid htk
                clear hcell hx hxL hnot htk hne
                go_wp2_with (first | (at_mapUpdate; refine wpList_setn _ rfl _ _ _ rfl mb k (L'.take k) rfl HSE.out (by simp only [maxLen]; omega) x (by omega) rfl rfl ?_) | fail)
                intro w9 hs9 hg9
                have HRel3 : Hid (SetN w9 mb (k + 1) (L'.take (k + 1)) ∧ PM w9 pb p g n cap S (m + 1 + 1 + L'.length) (M + 1) w.heap.size nW (.slice (some ⟨alb, 0, none⟩) nW alc) wb qb' hv' c7 f' y' ∧ RowW w9 w.heap.size (.slice (some ⟨alb, 0, none⟩) nW alc) nW wb ∧ LI w9 (.slice (some ⟨vb, voff, none⟩) L'.length vc) L' ∧ LyB w9 b 1 S 1 ∧ Below w.heap.size w w9) := by
                  refine Lib.hid ⟨by rw [HTK.out]; exact hs9, HP8.out.map HSE.out hg9, HR8.out.map HSE.out hg9, HI8.out.map HSE.out hg9, Blk.grown HL8.out hg9 (fun e => by injection e with e; exact HSE.out.ne_blk HL8.out e.symm), HB8.out.grown hg9 HB8.out.size (fun i hi => ?_)⟩
                  injection hi with hi
                  subst hi
                  exact hmb
                clear HSE HP8 HR8 HI8 HL8 HB8 hs9 hg9 hlook
                go_wp2_with fail
                exact ⟨⟨k + 1, by omega, by go_num, HRel3.out⟩, by simp [intOf]; omega⟩
              · have hkL : k = L'.length := by omega
                subst hkL
                rw [List.take_length] at HSE
                obtain ⟨v0, v1, v2, v3, v4⟩ := HP8.out.pl.cells
                have vlt := Blk.lt HP8.out.pl
                have hplt := HP8.out.pl.cells
                have hRelZ : Hid (RowRel b pb p g n cap S nW len (.slice (some ⟨alb, 0, none⟩) nW alc) wb w (.int .i64 ((i : Int) + 1)) wr) :=
                  Lib.hid ⟨i + 1, _, M + 1, c7, f', qb', hv', y', L', by omega, by go_num, by omega, by omega, HP8.out, HOK4.out, HR8.out, HL8.out, HB8.out⟩
                clear hplt
                go_wp2_with fail
                clear v0 v1 v2 v3 v4 vlt
                go_loop [124] (fun i => ∃ k2 : Nat, k2 ≤ nW ∧ i = .int .i64 (k2 : Int)) (fun i => nW - (intOf i).toNat)
                case atStart => exact ⟨0, Nat.zero_le _, rfl⟩
                case round =>
                  obtain ⟨k2, hk2, rfl⟩ := hrel
                  by_cases hlt3 : k2 < nW
                  · have hac2 := (row_cells HR8.out HP8.out.pl hlt3).out.2
                    have hwk := HP8.out.wk k2 hlt3
                    obtain ⟨hl, hhl⟩ : ∃ hl, hl = (y'.x.ws k2).has := ⟨_, rfl⟩
                    have hli9 := hwk.has
                    rw [← hhl] at hli9
                    obtain ⟨ha, hc, he, _, _⟩ := hli9.shape
                    have hown2 := hwk.own.cell 2
                    rw [he] at hown2 hli9
                    have hc2 : wr.cell? ⟨wb k2, 2, none⟩ = some (.slice ha hl.length hc) := hown2
                    have hnf : ∀ s ∈ hl, s ∉ L' ∧ s < S := fun s hs => by
                      have hm : s ∈ (y'.x.ws k2).held := List.mem_append.2 (.inl (hhl ▸ hs))
                      exact ⟨HOK4.out.not_free hlt3 hm, HOK4.out.lt_of_held hlt3 hm⟩
                    have hll : hl.length ≤ S := by
                      have h1 := (HOK4.out.held_nodup hlt3)
                      have h2 : (y'.x.ws k2).has.Nodup := (List.nodup_append.1 h1).1
                      rw [← hhl] at h2
                      exact nodup_len h2 (fun s hs => (hnf s hs).2)
                    have HNF := Lib.hid hnf
                    have HLI9 := Lib.hid hli9
                    clear hwk hli9 he hown2 hnf hhl
                    go_wp2_with fail
                    go_loop [133] (fun i => ∃ j2 : Nat, j2 ≤ hl.length ∧ i = .int .i64 (j2 : Int)) (fun i => hl.length - (intOf i).toNat)
                    case atStart => exact ⟨0, Nat.zero_le _, rfl⟩
                    case round =>
                      obtain ⟨j2, hj2, rfl⟩ := hrel
                      by_cases hlt4 : j2 < hl.length
                      · obtain ⟨x, hx⟩ : ∃ x, hl[j2]? = some x := ⟨_, List.getElem?_eq_getElem hlt4⟩
                        have hne : hl ≠ [] := by rintro rfl; simp at hlt4
                        obtain ⟨vb, voff, vc2, e, _, _, _, hcell⟩ := HLI9.out.open_ hne
                        injection e with e1 _ ec
                        subst e1 ec
                        have hcx := hcell j2 x hx
                        have hxn := HNF.out x (List.mem_of_getElem? hx)
                        have hlook := HSE.out.look (i := x) (by omega) (d := false) (decide_eq_false hxn.1)
                        clear hcell hx hxn hne
                        go_wp2_with fail
                        go_round
                        case rel => exact ⟨j2 + 1, by omega, by go_num⟩
                        case measure => simp [intOf]; omega
                      · have hj : j2 = hl.length := by omega
                        subst hj
                        go_wp2_with fail
                        go_round
                        case rel => exact ⟨k2 + 1, by omega, by go_num⟩
                        case measure => simp [intOf]; omega
                  · have hk : nW = k2 := by omega
                    subst hk
                    go_wp2_with fail
                    exact ⟨hRelZ.out, by simp [intOf]; omega⟩
        · have hil : i = len := by omega
          subst hil
          clear HPM HOK HRW HL
          go_wp2_with fail
          refine (awake_any _).mono ?_; rintro e w3 ⟨rfl, hb3⟩
          go_wp2_with fail
          go_ret
          exact ⟨rfl, keepB HB.out hb3⟩
end Go.Proofs.Ytgjlilcljefbfaa
