/- Walk of SlotMisses. -/
import Derived.Test.YtgjlilcljefbfaaSlotY
namespace Go.Proofs.Ytgjlilcljefbfaa
open Go.RowKit

set_option maxRecDepth 100000

theorem pm_step_miss {w : World} {pb p g n cap S m M W0 nW : Nat} {av : Value} {wb qb : Nat → Nat} {hv : Nat → Value} {c f : Nat → Int} {y : Sm} {L : List Nat} {i : Nat} (gives : Bool) (hS : S ≤ 48) (hn : 1 < n) (hn2 : ∀ s, s < S → 1 + 1 + s * 7 < n) (h : PM w pb p g n cap S m M W0 nW av wb qb hv c f y) (hok : SlOk S nW y.x L) (hi : i < nW) (hW : W0 ≤ w.heap.size) (hM : M ≤ 10000) (hm2 : m ≤ 100000) :
    Calls Try.prog 19 #[.pointer (some ⟨pb, 0, none⟩), .pointer (some ⟨wb i, 0, none⟩), .bool gives] w fun e w' =>
      e = .returned (.bool true) ∧ ∃ qb' hv' c' f' y' L', PM w' pb p g n cap S (m + 1) (M + 1) W0 nW av wb qb' hv' c' f' y' ∧ SlOk S nW y'.x L' ∧ (MissOk nW y → MissOk nW y') ∧ OnlyF (PF p g nW wb qb hv y.x.ws) w w' := by
  refine (pm_step gives hS hn hn2 h hok hi hW hM hm2).mono ?_
  rintro e w' ⟨rfl, qb', hv', c', f', P', O'⟩
  obtain ⟨L', hok'⟩ := access_ok (begin_ok hok hi gives) hi
  exact ⟨rfl, qb', hv', c', f', _, L', P', hok', fun hm => access_miss (begin_miss hm hi gives) hi, O'⟩
theorem row_cells {w : World} {pb p S W0 nW alb alc j : Nat} {wb : Nat → Nat} (R : RowW w W0 (.slice (some ⟨alb, 0, none⟩) nW alc) nW wb) (P : PlB w pb p S (.slice (some ⟨alb, 0, none⟩) nW alc)) (hj : j < nW) :
    Hid (w.cell? ⟨pb, 4, none⟩ = some (.slice (some ⟨alb, 0, none⟩) nW alc) ∧ w.cell? ⟨alb, j, none⟩ = some (.pointer (some ⟨wb j, 0, none⟩))) := by
  obtain ⟨ab, ac, e, _, hc⟩ := R.open_ (by omega)
  injection e with e1 _ _
  injection e1 with e1
  injection e1 with e1 _ _
  subst e1
  exact Lib.hid ⟨P.cells.2.2.2.2, hc j hj⟩
/-- What holds at each pick. -/
def MisRel (b pb p g n cap S nW len : Nat) (av : Value) (wb : Nat → Nat) (w0 : World) (i : Value) (w : World) : Prop :=
  ∃ (k m M : Nat) (c f : Nat → Int) (qb : Nat → Nat) (hv : Nat → Value) (y : Sm) (L : List Nat), k ≤ len ∧ i = .int .i64 (k : Int) ∧ m ≤ 100 + k ∧ M ≤ k ∧ PM w pb p g n cap S m M w0.heap.size nW av wb qb hv c f y ∧ SlOk S nW y.x L ∧ MissOk nW y ∧
    RowW w w0.heap.size av nW wb ∧ LyB w b 1 S 1 ∧ Below w0.heap.size w0 w

set_option maxHeartbeats 8000000 in
theorem slotMisses_main (S nW : Nat) (a : Option Addr) (len cap0 : Nat) (zs : List Int) (w : World) (hS : S ≤ 48) (hn1 : 1 ≤ nW) (hn8 : nW ≤ 8) (h200 : len ≤ 200) (hs : IsRow .i64 w a len cap0 zs) :
    Calls Try.prog 5 #[.int .i64 (S : Int), .int .i64 (nW : Int), .slice a len cap0] w fun e w' => e = .returned (.bool true) ∧ Below w.heap.size w w' := by
  obtain ⟨j0, hj0, yz0, yz1, yz2⟩ := info_parts info_w
  have HS := Lib.hid hs; clear hs
  have hR : Rt 1 (S : Int) 1 := ⟨by omega, by omega, by omega, by omega, by omega, by omega⟩
  have HR := Lib.hid hR
  have hS2 : (S : Int) ≤ 48 := by omega
  have hS3 : 0 ≤ (S : Int) := by omega
  have hW1 : (1 : Int) ≤ (nW : Int) := by omega
  have hW8 : (nW : Int) ≤ 8 := by omega
  have h202 : (len : Int) ≤ 200 := by omega
  clear hR
  go_enter Try.func5, Try.ntmps5
  go_wp2_with fail
  have HL0 : Hid (LyB (w.alloc (.cells #[.int .i64 1, .int .i64 (S : Int), .int .i64 1] 24)) w.heap.size 1 S 1) := Lib.hid (Blk.new _ _ _)
  have HB0 : Hid (Below w.heap.size w (w.alloc (.cells #[.int .i64 1, .int .i64 (S : Int), .int .i64 1] 24))) := Lib.hid ((Below.refl _ _).alloc (Nat.le_refl _) _)
  obtain ⟨_, _, hn, hn2⟩ := cn_bd (V := 1) (T := 1) (S := S) (t := 1) HR.out rfl
  generalize hbw : w.heap.size = b at HL0 ⊢
  generalize w.alloc (.cells #[.int .i64 1, .int .i64 (S : Int), .int .i64 1] 24) = w0 at HL0 HB0 ⊢
  have HN := Lib.hid hn
  have HN2 := Lib.hid hn2
  have HLd := Lib.hid HL0.out.drew
  have HBd := Lib.hid HB0.out.drew
  have hlb : ∀ W : World, LyB W b 1 S 1 → W.cell? ⟨b, 0, none⟩ = some (.int .i64 1) ∧ W.cell? ⟨b, 1, none⟩ = some (.int .i64 (S : Int)) ∧ W.cell? ⟨b, 2, none⟩ = some (.int .i64 1) := fun W h => h.cells
  have HBW := Lib.hid hbw
  clear hn hn2 hbw
  go_region_held3 (fun W => LyB W b 1 S 1) (first | (with_reducible assumption) | (with_reducible exact HLd.out) | (with_reducible exact LyB.below (by assumption) hb1) | (with_reducible exact LyB.alloc (by assumption) _))
    (first
      | (go_at_call 8; ((with_reducible refine (begun_yes (V := 1) (T := 1) (S := S) (t := 1) HR.out rfl _).mono ?_); rintro e w1 ⟨p, g, cap, c, f, rfl, hp, hg, A1, h02, h03, hb1⟩; have HL1 := Lib.hid (LyB.below (by assumption) hb1))))
  have hpw : w.heap.size ≤ p := Nat.le_trans HBd.out.size hp
  have hgw : w.heap.size ≤ g := Nat.le_trans HBd.out.size hg
  have HB1 : Hid (Below w.heap.size w w1) := Lib.hid (keepB HBd.out hb1)
  have hpbw : w.heap.size ≤ w1.heap.size := HB1.out.size
  generalize (cn 1 (S : Int) 1).toNat = n at A1 HN HN2
  have HRel : Hid (AlRel b w1.heap.size p g n cap S nW w c f (.int .i64 0) (w1.alloc (.cells #[.int .i64 1, .int .i64 (S : Int), .int .i64 1, .pointer (some ⟨p, 0, none⟩), .slice none 0 0, .int .i64 0] 47))) :=
    Lib.hid ⟨0, .slice none 0 0, fun _ => 0, Nat.zero_le _, rfl, Blk.new _ _ _, A1.alloc _, World.ownsRow_nil _ _ _ _, fun j hj => absurd hj (Nat.not_lt_zero _), fun i j hi => absurd hi (Nat.not_lt_zero _), HL1.out.alloc _, HB1.out.alloc hpbw _⟩
  have v3 : (w1.alloc (.cells #[.int .i64 1, .int .i64 (S : Int), .int .i64 1, .pointer (some ⟨p, 0, none⟩), .slice none 0 0, .int .i64 0] 47)).cell? ⟨w1.heap.size, 3, none⟩ = some (.pointer (some ⟨p, 0, none⟩)) := (Blk.new w1 47 _).cell 3
  have vlt : w1.heap.size < (w1.alloc (.cells #[.int .i64 1, .int .i64 (S : Int), .int .i64 1, .pointer (some ⟨p, 0, none⟩), .slice none 0 0, .int .i64 0] 47)).heap.size := by simp
  have H02 := Lib.hid h02
  have H03 := Lib.hid h03
  generalize w1.alloc (.cells #[.int .i64 1, .int .i64 (S : Int), .int .i64 1, .pointer (some ⟨p, 0, none⟩), .slice none 0 0, .int .i64 0] 47) = wp at HRel v3 vlt ⊢
  generalize w1.heap.size = pb at HRel v3 vlt hpbw ⊢
  clear h02 h03 A1 hb1 hp hg HL1 HLd HBd HB0 HL0 HB1 hlb
  go_wp2_with fail
  clear v3 vlt
  go_loopw [45] (fun i wr => AlRel b pb p g n cap S nW w c f i wr) (fun i _ => nW - (intOf i).toNat)
  case atStart => exact HRel.out
  case round =>
    clear HRel
    obtain ⟨k, av, wb, hk, rfl, P, A, R, hw, hd, L, B⟩ := hrel
    by_cases hlt : k < nW
    · have HP := Lib.hid P
      have HA := Lib.hid A
      have HRW := Lib.hid R
      have HW := Lib.hid hw
      have HD := Lib.hid hd
      have HL := Lib.hid L
      have HB := Lib.hid B
      obtain ⟨v0, v1, v2, v3, v4⟩ := P.cells
      have vlt := Blk.lt P
      have vf4 := Blk.frozen P 4
      have hsz : w.heap.size ≤ wr.heap.size := B.size
      clear P A R hw hd L B
      go_wp2_with (at_builtin
                   refine wpList_append_own_at _ rfl _ _ 45 rfl w.heap.size 48 j0 _ 1 8 Try.underlying45 hj0 yz0 yz1 yz2 rfl (by omega) av k (ptrs wb k) rfl
                     ((World.ownsRow.alloc HRW.out _).alloc _) ⟨wr.heap.size + 1, 0, none⟩ 1 1 [.pointer (some ⟨wr.heap.size, 0, none⟩)] rfl rfl ?c1 ?c2 (by simp only [maxLen]; omega) (by omega) (by simp; omega) ?_)
      case c1 => exact World.news_of_block (cs := #[.pointer (some ⟨wr.heap.size, 0, none⟩)]) (Blk.newAt (by simp) _ _)
      case c2 => intro u hu; simp at hu; subst hu; rfl
      intro v' w2 hown hgrow _ hat
      have HNX : Hid (AlRel b pb p g n cap S nW w c f (.int .i64 ((k : Int) + 1)) (w2.setCell ⟨pb, 4, none⟩ v')) := Lib.hid (AlRel.more hlt hpbw HP.out HA.out HRW.out HW.out HD.out HL.out HB.out hown hgrow)
      have z4 : ∃ u, w2.cell? ⟨pb, 4, none⟩ = some u := ⟨av, by
        have hB2 : Below wr.heap.size wr ((wr.alloc (.cells #[.pointer none, .pointer none, .slice none 0 0] 50)).alloc (.cells #[.pointer (some ⟨wr.heap.size, 0, none⟩)] 48)) := ((Below.refl _ _).alloc (Nat.le_refl _) _).alloc (by simp) _
        have P2 := Blk.below HP.out hB2 vlt
        refine (Blk.grown P2 hgrow (fun e => ?_)).cell 4
        obtain ⟨cs, hb⟩ := (HRW.out.below hB2).blk pb e
        exact hb.ne_ P2 (by decide) rfl⟩
      obtain ⟨u4, z4⟩ := z4
      have zf4 : w2.frozen? ⟨pb, 4, none⟩ = false := by
        have hB2 : Below wr.heap.size wr ((wr.alloc (.cells #[.pointer none, .pointer none, .slice none 0 0] 50)).alloc (.cells #[.pointer (some ⟨wr.heap.size, 0, none⟩)] 48)) := ((Below.refl _ _).alloc (Nat.le_refl _) _).alloc (by simp) _
        have P2 := Blk.below HP.out hB2 vlt
        refine (Blk.grown P2 hgrow (fun e => ?_)).frozen 4
        obtain ⟨cs, hb⟩ := (HRW.out.below hB2).blk pb e
        exact hb.ne_ P2 (by decide) rfl
      have zlt : pb < w2.heap.size := by have := hgrow.size; simp at this; omega
      rcases hown.2 with ⟨_, h0⟩ | ⟨ag, acap, cur, rfl, _, _, hac, hac2, _, _⟩
      · omega
      clear hown hgrow hat HP HA HRW HW HD HL HB v0 v1 v2 v3 v4 vlt vf4
      go_wp2_with fail
      exact ⟨HNX.out, by simp [intOf]; omega⟩
    · have hkn : nW = k := by omega
      subst hkn
      have HPM := Lib.hid (AlRel.whole H02.out H03.out P A hw hd)
      have HRW := Lib.hid R
      have HL := Lib.hid L
      have HB := Lib.hid B
      clear P A R hw hd L B
      have HRel : Hid (MisRel b pb p g n cap S nW len av wb w (.int .i64 0) wr) :=
        Lib.hid ⟨0, S + 1, 0, c, f, _, _, _, _, Nat.zero_le _, rfl, by omega, by omega, HPM.out, first_ok S nW, first_miss S nW, HRW.out, HL.out, HB.out⟩
      clear HPM HRW HL HB
      go_wp2_with fail
      go_loopw [61] (fun i wr => MisRel b pb p g n cap S nW len av wb w i wr) (fun i _ => len - (intOf i).toNat)
      case atStart => exact HRel.out
      case round =>
        clear HRel
        obtain ⟨i, m, M, c1, f1, qb, hv, y, L, hi, rfl, hm, hM, PMx, hok, hmiss, R, LY, B⟩ := hrel
        have HPM := Lib.hid PMx
        have HOK := Lib.hid hok
        have HMI := Lib.hid hmiss
        have HRW := Lib.hid R
        have HL := Lib.hid LY
        have HB := Lib.hid B
        clear PMx hok hmiss R LY B
        by_cases hlt2 : i < len
        · obtain ⟨ab, aoff, z, rfl, hzc, hz1, hz2⟩ := isRow_ati HS.out hlt2
          have hzc2 : wr.cell? ⟨ab, aoff + i, none⟩ = some (.int .i64 z) := cell_later HB.out hzc
          clear hzc
          by_cases hz : z < 0
          · have HRel2 : Hid (MisRel b pb p g n cap S nW len av wb w (.int .i64 ((i : Int) + 1)) wr) := Lib.hid ⟨i + 1, m, M, c1, f1, qb, hv, y, L, by omega, by go_num, by omega, by omega, HPM.out, HOK.out, HMI.out, HRW.out, HL.out, HB.out⟩
            clear HPM HOK HMI HRW HL HB
            go_wp2_with fail
            exact ⟨HRel2.out, by simp [intOf]; omega⟩
          · obtain ⟨zn, rfl⟩ := Int.eq_ofNat_of_zero_le (show 0 ≤ z by omega)
            obtain ⟨j, hj⟩ : ∃ j, j = zn % nW := ⟨_, rfl⟩
            have hjn : j < nW := by rw [hj]; exact Nat.mod_lt _ (by omega)
            have htm : ((zn : Nat) : Int).tmod ((nW : Nat) : Int) = ((j : Nat) : Int) := by rw [Int.tmod_eq_emod_of_nonneg (by omega), hj]; rfl
            obtain ⟨dd, hdd⟩ : ∃ dd, dd = zn / nW := ⟨_, rfl⟩
            have htd : ((zn : Nat) : Int).tdiv ((nW : Nat) : Int) = ((dd : Nat) : Int) := by rw [Int.tdiv_eq_ediv_of_nonneg (by omega), hdd]; rfl
            have hddle : dd ≤ zn := by rw [hdd]; exact Nat.div_le_self _ _
            have hwj : IntKind.i64.wrap ((j : Nat) : Int) = ((j : Nat) : Int) := IntWalk.i64_in _ (by omega)
            have hwd : IntKind.i64.wrap ((dd : Nat) : Int) = ((dd : Nat) : Int) := IntWalk.i64_in _ (by omega)
            obtain ⟨rr, hrr⟩ : ∃ rr, rr = dd % 2 := ⟨_, rfl⟩
            have htr : ((dd : Nat) : Int).tmod 2 = ((rr : Nat) : Int) := by rw [Int.tmod_eq_emod_of_nonneg (by omega), hrr]; rfl
            have hwr : IntKind.i64.wrap ((rr : Nat) : Int) = ((rr : Nat) : Int) := IntWalk.i64_in _ (by omega)
            have hnz : ¬ ((nW : Nat) : Int) = 0 := by omega
            have hnz' : ¬ nW = 0 := by omega
            have hje : zn % nW = j := hj.symm
            have hde : zn / nW = dd := hdd.symm
            have hjn2 : ((j : Nat) : Int) < ((nW : Nat) : Int) := by omega
            have hj0 : (0 : Int) ≤ ((j : Nat) : Int) := by omega
            obtain ⟨alb, alc, rfl, halc, hacell⟩ := HRW.out.open_ (by omega)
            have hac := hacell j hjn
            obtain ⟨v0, v1, v2, v3, v4⟩ := HPM.out.pl.cells
            have vlt := Blk.lt HPM.out.pl
            have hb7 : w.heap.size ≤ wr.heap.size := HB.out.size
            have hb7' : w.heap.size ≤ wr.drew.heap.size := hb7
            clear hacell hj hdd hrr
            go_wp2_with fail
            have HPMd := Lib.hid HPM.out.drew
            have HRWd := Lib.hid (HRW.out.below (Below.refl _ _).drew)
            have HLd := Lib.hid HL.out.drew
            have HBd := Lib.hid HB.out.drew
            have HC0 : Hid (wr.drew.cell? ⟨pb, 4, none⟩ = some (.slice (some ⟨alb, 0, none⟩) nW alc) ∧ wr.drew.cell? ⟨alb, j, none⟩ = some (.pointer (some ⟨wb j, 0, none⟩))) := Lib.hid ⟨v4, hac⟩
            have hM2 : M ≤ 10000 := by omega
            have hm2 : m ≤ 100000 := by omega
            clear HPM HRW HL HB
            go_region_held3 (fun W => W.cell? ⟨pb, 4, none⟩ = some (.slice (some ⟨alb, 0, none⟩) nW alc) ∧ W.cell? ⟨alb, j, none⟩ = some (.pointer (some ⟨wb j, 0, none⟩))) (first | (with_reducible assumption) | (with_reducible exact HC0.out) | (with_reducible exact HCE.out))
              (first
                | (go_at_call 19; ((with_reducible refine (pm_step_miss _ hS HN.out HN2.out HPMd.out HOK.out hjn hb7' hM2 hm2).mono ?_); rintro e w4 ⟨rfl, qb', hv', c', f', y', L', PM4, ok4, mi4, OF4⟩; have HRW4 := Lib.hid (RowW.onlyF HRWd.out OF4 (fun i cs hi => HPMd.out.far hi (by decide) (by decide) (by decide) (by decide) (by decide) (by decide))); have HPM4 := Lib.hid PM4; have HCE := row_cells HRW4.out PM4.pl hjn)))
            have HL4 : Hid (LyB w4 b 1 S 1) := Lib.hid (Blk.onlyF HLd.out OF4 (HPMd.out.far HLd.out (by decide) (by decide) (by decide) (by decide) (by decide) (by decide)))
            have HB4 : Hid (Below w.heap.size w w4) := Lib.hid (OnlyF.toBelow HBd.out OF4 hb7 (fun x hx => by
              rcases hx with rfl | rfl | ⟨i', hi', hx⟩
              · exact hpw
              · exact hgw
              · exact HPMd.out.new i' hi' x hx))
            have HOK4 := Lib.hid ok4
            have HMI4 := Lib.hid (mi4 HMI.out)
            clear PM4 ok4 mi4 OF4 HPMd HRWd HLd HBd HMI HOK hac v0 v1 v2 v3 v4 vlt
            obtain ⟨v0, v1, v2, v3, v4⟩ := HPM4.out.pl.cells
            have vlt := Blk.lt HPM4.out.pl
            go_wp2_with fail
            refine (counts_any HPM4.out.sa.1).mono ?_; rintro e w5 ⟨rfl, hb5⟩
            have HRel2 : Hid (MisRel b pb p g n cap S nW len (.slice (some ⟨alb, 0, none⟩) nW alc) wb w (.int .i64 ((i : Int) + 1)) (w5.alloc (.cells #[.int .i64 (c' 0), .int .i64 (c' 1), .int .i64 (c' 2), .int .i64 (c' 3), .int .i64 (c' 4)] 54))) := by
              have hb6 : Below w4.heap.size w4 (w5.alloc (.cells #[.int .i64 (c' 0), .int .i64 (c' 1), .int .i64 (c' 2), .int .i64 (c' 3), .int .i64 (c' 4)] 54)) := hb5.alloc hb5.size _
              exact Lib.hid ⟨i + 1, m + 1, M + 1, c', f', qb', hv', y', L', by omega, by go_num, by omega, by omega, HPM4.out.below hb6, HOK4.out, HMI4.out, HRW4.out.below hb6, HL4.out.below hb6, keepB HB4.out hb6⟩
            have hsw := HPM4.out.c2
            have hms := HPM4.out.c3
            have hcb := (HPM4.out.sa.2.2 2).2
            have hmi : y'.ms ≤ y'.sw * (nW - 1) := by have := HMI4.out; unfold MissOk at this; omega
            have hmul : c' 2 * ((nW : Int) - 1) = ((y'.sw * (nW - 1) : Nat) : Int) := by
              rw [hsw, show ((nW : Int) - 1) = ((nW - 1 : Nat) : Int) by omega]
              exact (Int.natCast_mul _ _).symm
            have hup : y'.sw * (nW - 1) ≤ 400 * 7 := Nat.mul_le_mul (by omega) (by omega)
            have hP : ¬ (c' 2 * ((nW : Int) - 1) < c' 3) := by rw [hmul, hms]; omega
            have hPw : IntKind.i64.wrap (c' 2 * ((nW : Int) - 1)) = c' 2 * ((nW : Int) - 1) := IntWalk.i64_in _ (by rw [hmul]; omega)
            clear hsw hms hcb hmi hmul hup HPM4 HRW4 HL4 HB4 HOK4 HMI4 hb5 v0 v1 v2 v3 v4 vlt
            generalize c' 2 = q2 at HRel2 hP hPw ⊢
            generalize c' 3 = q3 at HRel2 hP ⊢
            go_wp2_with fail
            exact ⟨HRel2.out, by simp [intOf]; omega⟩
        · have hil : i = len := by omega
          subst hil
          clear HPM HOK HMI HRW HL
          go_wp2_with fail
          refine (awake_any _).mono ?_; rintro e w3 ⟨rfl, hb3⟩
          go_wp2_with fail
          go_ret
          exact ⟨rfl, keepB HB.out hb3⟩
end Go.Proofs.Ytgjlilcljefbfaa
