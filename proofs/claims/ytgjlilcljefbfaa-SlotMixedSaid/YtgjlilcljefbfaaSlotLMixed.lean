/- Walk of SlotMixed. Printed by wip/tools/slotlx.py. -/
import Derived.Test.YtgjlilcljefbfaaSlotAB
import Derived.Test.YtgjlilcljefbfaaSlotLRows
namespace Go.Proofs.Ytgjlilcljefbfaa
open Go.RowKit

set_option maxRecDepth 100000

/-- What holds at each pick. -/
def MixRel (b pb p g n cap S nW len : Nat) (av : Value) (wb : Nat → Nat) (w0 : World) (i : Value) (w : World) : Prop :=
  ∃ (k m M : Nat) (c f : Nat → Int) (qb : Nat → Nat) (hv : Nat → Value) (y : Sm) (L : List Nat), k ≤ len ∧ i = .int .i64 (k : Int) ∧ m ≤ 100 + k ∧ M ≤ k ∧ PM w pb p g n cap S m M w0.heap.size nW av wb qb hv c f y ∧ SlOk S nW y.x L ∧
    RowW w w0.heap.size av nW wb ∧ LyB w b 1 S 1 ∧ Below w0.heap.size w0 w
/-- The first k workers are idle. -/
def EndRel (b pb p g n cap S nW : Nat) (av : Value) (wb : Nat → Nat) (w0 : World) (k : Nat) (w : World) : Prop :=
  ∃ (m M : Nat) (c f : Nat → Int) (qb : Nat → Nat) (hv : Nat → Value) (y : Sm) (L : List Nat), m ≤ 400 + 10 * k ∧ M ≤ 400 + 10 * k ∧ (∀ j, j < k → (y.x.ws j).k = .idle) ∧ PM w pb p g n cap S m M w0.heap.size nW av wb qb hv c f y ∧ SlOk S nW y.x L ∧
    RowW w w0.heap.size av nW wb ∧ LyB w b 1 S 1 ∧ Below w0.heap.size w0 w
/-- While one worker is ended, alone. -/
def InRel (b pb p g n cap S nW k : Nat) (av : Value) (wb : Nat → Nat) (w0 : World) (i : Value) (w : World) : Prop :=
  ∃ (j m M : Nat) (c f : Nat → Int) (qb : Nat → Nat) (hv : Nat → Value) (y : Sm) (L : List Nat), i = .int .i64 (j : Int) ∧ j + (y.x.ws k).k.left y.x.hd ≤ 5 ∧ m ≤ 400 + 10 * k + j ∧ M ≤ 400 + 10 * k + j ∧ (∀ j, j < k → (y.x.ws j).k = .idle) ∧ PM w pb p g n cap S m M w0.heap.size nW av wb qb hv c f y ∧ SlOk S nW y.x L ∧
    RowW w w0.heap.size av nW wb ∧ LyB w b 1 S 1 ∧ Below w0.heap.size w0 w
/-- A worker in the midst has one pointer. -/
theorem wk_ptrs {w : World} {b q : Nat} {hv : Value} {k : Wk} (h : Blk w b 50 #[tvK k q, gvK k q, hv]) (hk : k ≠ .idle) :
    ∃ tv gv, w.cell? ⟨b, 0, none⟩ = some tv ∧ w.cell? ⟨b, 1, none⟩ = some gv ∧ ((tv = .pointer (some ⟨q, 0, none⟩)) ∨ (tv = .pointer none ∧ gv = .pointer (some ⟨q, 0, none⟩))) := by
  refine ⟨tvK k q, gvK k q, h.cell 0, h.cell 1, ?_⟩
  cases k with
  | idle => exact absurd rfl hk
  | take0 => exact .inl rfl
  | take1 g => exact .inl rfl
  | take2 g m => exact .inl rfl
  | give0 s => exact .inr ⟨rfl, rfl⟩
  | give1 s g => exact .inr ⟨rfl, rfl⟩
  | give2 s g => exact .inr ⟨rfl, rfl⟩

set_option maxHeartbeats 8000000 in
theorem slotMixed_main (S nW : Nat) (a : Option Addr) (len cap0 : Nat) (zs : List Int) (w : World) (hS : S ≤ 48) (hn1 : 1 ≤ nW) (hn8 : nW ≤ 8) (h200 : len ≤ 200) (hs : IsRow .i64 w a len cap0 zs) :
    Calls Try.prog 4 #[.int .i64 (S : Int), .int .i64 (nW : Int), .slice a len cap0] w fun e w' => e = .returned (.bool true) ∧ Below w.heap.size w w' := by
  obtain ⟨j0, hj0, yz0, yz1, yz2⟩ := info_parts info_w
  have HS := Lib.hid hs; clear hs
  have hR : Rt 1 (S : Int) 1 := ⟨by omega, by omega, by omega, by omega, by omega, by omega⟩
  have HR := Lib.hid hR
  have hS2 : (S : Int) ≤ 48 := by omega
  have hS3 : 0 ≤ (S : Int) := by omega
  have hW1 : (1 : Int) ≤ (nW : Int) := by omega
  have hW8 : (nW : Int) ≤ 8 := by omega
  have h202 : (len : Int) ≤ 200 := by omega
  clear hR
  go_enter Try.func4, Try.ntmps4
  go_wp2_with fail
  have HL00 : Hid (LyB (w.alloc (.cells #[.int .i64 1, .int .i64 (S : Int), .int .i64 1] 24)) w.heap.size 1 S 1) := Lib.hid (Blk.new _ _ _)
  have HB00 : Hid (Below w.heap.size w (w.alloc (.cells #[.int .i64 1, .int .i64 (S : Int), .int .i64 1] 24))) := Lib.hid ((Below.refl _ _).alloc (Nat.le_refl _) _)
  have HY := Lib.hid HR.out.yes
  refine (rright_any 1 S 1 _).mono ?_; rintro e w0 ⟨rfl, hbq⟩; rw [HY.out]
  have HL0 := Lib.hid (HL00.out.below hbq)
  have HB0 := Lib.hid (keepB HB00.out hbq)
  clear hbq HL00 HB00
  go_wp2_with fail
  obtain ⟨_, _, hn, hn2⟩ := cn_bd (V := 1) (T := 1) (S := S) (t := 1) HR.out rfl
  generalize hbw : w.heap.size = b at HL0 ⊢
  have HN := Lib.hid hn
  have HN2 := Lib.hid hn2
  have HLd := Lib.hid HL0.out.drew
  have HBd := Lib.hid HB0.out.drew
  have hlb : ∀ W : World, LyB W b 1 S 1 → W.cell? ⟨b, 0, none⟩ = some (.int .i64 1) ∧ W.cell? ⟨b, 1, none⟩ = some (.int .i64 (S : Int)) ∧ W.cell? ⟨b, 2, none⟩ = some (.int .i64 1) := fun W h => h.cells
  have HBW := Lib.hid hbw
  clear hn hn2 hbw
  go_region_held3 (fun W => LyB W b 1 S 1) (first | (with_reducible assumption) | (with_reducible exact HLd.out) | (with_reducible exact LyB.below (by assumption) hb1) | (with_reducible exact LyB.alloc (by assumption) _))
    (first
      | (go_at_call 8; ((with_reducible refine (begun_yes (V := 1) (T := 1) (S := S) (t := 1) HR.out rfl _).mono ?_); rintro e w1 ⟨p, g, cap, c, f, rfl, hp, hg, A1, h02, h03, hb1⟩; have HL1 := Lib.hid (LyB.below (by assumption) hb1))))
  have hpw : w.heap.size ≤ p := Nat.le_trans HBd.out.size hp
  have hgw : w.heap.size ≤ g := Nat.le_trans HBd.out.size hg
  have HB1 : Hid (Below w.heap.size w w1) := Lib.hid (keepB HBd.out hb1)
  have hpbw : w.heap.size ≤ w1.heap.size := HB1.out.size
  generalize (cn 1 (S : Int) 1).toNat = n at A1 HN HN2
  have HRel : Hid (AlRel b w1.heap.size p g n cap S nW w c f (.int .i64 0) (w1.alloc (.cells #[.int .i64 1, .int .i64 (S : Int), .int .i64 1, .pointer (some ⟨p, 0, none⟩), .slice none 0 0, .int .i64 0] 47))) :=
    Lib.hid ⟨0, .slice none 0 0, fun _ => 0, Nat.zero_le _, rfl, Blk.new _ _ _, A1.alloc _, World.ownsRow_nil _ _ _ _, fun j hj => absurd hj (Nat.not_lt_zero _), fun i j hi => absurd hi (Nat.not_lt_zero _), HL1.out.alloc _, HB1.out.alloc hpbw _⟩
  have v3 : (w1.alloc (.cells #[.int .i64 1, .int .i64 (S : Int), .int .i64 1, .pointer (some ⟨p, 0, none⟩), .slice none 0 0, .int .i64 0] 47)).cell? ⟨w1.heap.size, 3, none⟩ = some (.pointer (some ⟨p, 0, none⟩)) := (Blk.new w1 47 _).cell 3
  have vlt : w1.heap.size < (w1.alloc (.cells #[.int .i64 1, .int .i64 (S : Int), .int .i64 1, .pointer (some ⟨p, 0, none⟩), .slice none 0 0, .int .i64 0] 47)).heap.size := by simp
  have H02 := Lib.hid h02
  have H03 := Lib.hid h03
  generalize w1.alloc (.cells #[.int .i64 1, .int .i64 (S : Int), .int .i64 1, .pointer (some ⟨p, 0, none⟩), .slice none 0 0, .int .i64 0] 47) = wp at HRel v3 vlt ⊢
  generalize w1.heap.size = pb at HRel v3 vlt hpbw ⊢
  clear h02 h03 A1 hb1 hp hg HL1 HLd HBd HB0 HL0 HB1 hlb
  go_wp2_with fail
  clear v3 vlt
  go_loopw [62] (fun i wr => AlRel b pb p g n cap S nW w c f i wr) (fun i _ => nW - (intOf i).toNat)
  case atStart => exact HRel.out
  case round =>
    clear HRel
    obtain ⟨k, av, wb, hk, rfl, P, A, R, hw, hd, L, B⟩ := hrel
    by_cases hlt : k < nW
    · have HP := Lib.hid P
      have HA := Lib.hid A
      have HRW := Lib.hid R
      have HW := Lib.hid hw
      have HD := Lib.hid hd
      have HL := Lib.hid L
      have HB := Lib.hid B
      obtain ⟨v0, v1, v2, v3, v4⟩ := P.cells
      have vlt := Blk.lt P
      have vf4 := Blk.frozen P 4
      have hsz : w.heap.size ≤ wr.heap.size := B.size
      clear P A R hw hd L B
      go_wp2_with (at_builtin
                   refine wpList_append_own_at _ rfl _ _ 45 rfl w.heap.size 48 j0 _ 1 8 Try.underlying45 hj0 yz0 yz1 yz2 rfl (by omega) av k (ptrs wb k) rfl
                     ((World.ownsRow.alloc HRW.out _).alloc _) ⟨wr.heap.size + 1, 0, none⟩ 1 1 [.pointer (some ⟨wr.heap.size, 0, none⟩)] rfl rfl ?c1 ?c2 (by simp only [maxLen]; omega) (by omega) (by simp; omega) ?_)
      case c1 => exact World.news_of_block (cs := #[.pointer (some ⟨wr.heap.size, 0, none⟩)]) (Blk.newAt (by simp) _ _)
      case c2 => intro u hu; simp at hu; subst hu; rfl
      intro v' w2 hown hgrow _ hat
      have HNX : Hid (AlRel b pb p g n cap S nW w c f (.int .i64 ((k : Int) + 1)) (w2.setCell ⟨pb, 4, none⟩ v')) := Lib.hid (AlRel.more hlt hpbw HP.out HA.out HRW.out HW.out HD.out HL.out HB.out hown hgrow)
      have z4 : ∃ u, w2.cell? ⟨pb, 4, none⟩ = some u := ⟨av, by
        have hB2 : Below wr.heap.size wr ((wr.alloc (.cells #[.pointer none, .pointer none, .slice none 0 0] 50)).alloc (.cells #[.pointer (some ⟨wr.heap.size, 0, none⟩)] 48)) := ((Below.refl _ _).alloc (Nat.le_refl _) _).alloc (by simp) _
        have P2 := Blk.below HP.out hB2 vlt
        refine (Blk.grown P2 hgrow (fun e => ?_)).cell 4
        obtain ⟨cs, hb⟩ := (HRW.out.below hB2).blk pb e
        exact hb.ne_ P2 (by decide) rfl⟩
      obtain ⟨u4, z4⟩ := z4
      have zf4 : w2.frozen? ⟨pb, 4, none⟩ = false := by
        have hB2 : Below wr.heap.size wr ((wr.alloc (.cells #[.pointer none, .pointer none, .slice none 0 0] 50)).alloc (.cells #[.pointer (some ⟨wr.heap.size, 0, none⟩)] 48)) := ((Below.refl _ _).alloc (Nat.le_refl _) _).alloc (by simp) _
        have P2 := Blk.below HP.out hB2 vlt
        refine (Blk.grown P2 hgrow (fun e => ?_)).frozen 4
        obtain ⟨cs, hb⟩ := (HRW.out.below hB2).blk pb e
        exact hb.ne_ P2 (by decide) rfl
      have zlt : pb < w2.heap.size := by have := hgrow.size; simp at this; omega
      rcases hown.2 with ⟨_, h0⟩ | ⟨ag, acap, cur, rfl, _, _, hac, hac2, _, _⟩
      · omega
      clear hown hgrow hat HP HA HRW HW HD HL HB v0 v1 v2 v3 v4 vlt vf4
      go_wp2_with fail
      exact ⟨HNX.out, by simp [intOf]; omega⟩
    · have hkn : nW = k := by omega
      subst hkn
      have HPM := Lib.hid (AlRel.whole H02.out H03.out P A hw hd)
      have HRW := Lib.hid R
      have HL := Lib.hid L
      have HB := Lib.hid B
      clear P A R hw hd L B
      have HRel : Hid (MixRel b pb p g n cap S nW len av wb w (.int .i64 0) wr) :=
        Lib.hid ⟨0, S + 1, 0, c, f, _, _, _, _, Nat.zero_le _, rfl, by omega, by omega, HPM.out, first_ok S nW, HRW.out, HL.out, HB.out⟩
      clear HPM HRW HL HB
      go_wp2_with fail
      go_loopw [78] (fun i wr => MixRel b pb p g n cap S nW len av wb w i wr) (fun i _ => len - (intOf i).toNat)
      case atStart => exact HRel.out
      case round =>
        clear HRel
        obtain ⟨i, m, M, c1, f1, qb, hv, y, L, hi, rfl, hm, hM, PMx, hok, R, LY, B⟩ := hrel
        have HPM := Lib.hid PMx
        have HOK := Lib.hid hok
        have HRW := Lib.hid R
        have HL := Lib.hid LY
        have HB := Lib.hid B
        clear PMx hok R LY B
        by_cases hlt2 : i < len
        · obtain ⟨ab, aoff, z, rfl, hzc, hz1, hz2⟩ := isRow_ati HS.out hlt2
          have hzc2 : wr.cell? ⟨ab, aoff + i, none⟩ = some (.int .i64 z) := cell_later HB.out hzc
          clear hzc
          by_cases hz : z < 0
          · have HRel2 : Hid (MixRel b pb p g n cap S nW len av wb w (.int .i64 ((i : Int) + 1)) wr) := Lib.hid ⟨i + 1, m, M, c1, f1, qb, hv, y, L, by omega, by go_num, by omega, by omega, HPM.out, HOK.out, HRW.out, HL.out, HB.out⟩
            clear HPM HOK HRW HL HB
            go_wp2_with fail
            exact ⟨HRel2.out, by simp [intOf]; omega⟩
          · obtain ⟨zn, rfl⟩ := Int.eq_ofNat_of_zero_le (show 0 ≤ z by omega)
            obtain ⟨j, hj⟩ : ∃ j, j = zn % nW := ⟨_, rfl⟩
            have hjn : j < nW := by rw [hj]; exact Nat.mod_lt _ (by omega)
            have htm : ((zn : Nat) : Int).tmod ((nW : Nat) : Int) = ((j : Nat) : Int) := by rw [Int.tmod_eq_emod_of_nonneg (by omega), hj]; rfl
            obtain ⟨dd, hdd⟩ : ∃ dd, dd = zn / nW := ⟨_, rfl⟩
            have htd : ((zn : Nat) : Int).tdiv ((nW : Nat) : Int) = ((dd : Nat) : Int) := by rw [Int.tdiv_eq_ediv_of_nonneg (by omega), hdd]; rfl
            have hddle : dd ≤ zn := by rw [hdd]; exact Nat.div_le_self _ _
            have hwj : IntKind.i64.wrap ((j : Nat) : Int) = ((j : Nat) : Int) := IntWalk.i64_in _ (by omega)
            have hwd : IntKind.i64.wrap ((dd : Nat) : Int) = ((dd : Nat) : Int) := IntWalk.i64_in _ (by omega)
            obtain ⟨rr, hrr⟩ : ∃ rr, rr = dd % 2 := ⟨_, rfl⟩
            have htr : ((dd : Nat) : Int).tmod 2 = ((rr : Nat) : Int) := by rw [Int.tmod_eq_emod_of_nonneg (by omega), hrr]; rfl
            have hwr : IntKind.i64.wrap ((rr : Nat) : Int) = ((rr : Nat) : Int) := IntWalk.i64_in _ (by omega)
            have hnz : ¬ ((nW : Nat) : Int) = 0 := by omega
            have hnz' : ¬ nW = 0 := by omega
            have hje : zn % nW = j := hj.symm
            have hde : zn / nW = dd := hdd.symm
            have hjn2 : ((j : Nat) : Int) < ((nW : Nat) : Int) := by omega
            have hj0 : (0 : Int) ≤ ((j : Nat) : Int) := by omega
            obtain ⟨alb, alc, rfl, halc, hacell⟩ := HRW.out.open_ (by omega)
            have hac := hacell j hjn
            obtain ⟨v0, v1, v2, v3, v4⟩ := HPM.out.pl.cells
            have vlt := Blk.lt HPM.out.pl
            have hb7 : w.heap.size ≤ wr.heap.size := HB.out.size
            have hb7' : w.heap.size ≤ wr.drew.heap.size := hb7
            clear hacell hj hdd hrr
            go_wp2_with fail
            have HPMd := Lib.hid HPM.out.drew
            have HRWd := Lib.hid (HRW.out.below (Below.refl _ _).drew)
            have HLd := Lib.hid HL.out.drew
            have HBd := Lib.hid HB.out.drew
            have HC0 : Hid (wr.drew.cell? ⟨pb, 4, none⟩ = some (.slice (some ⟨alb, 0, none⟩) nW alc) ∧ wr.drew.cell? ⟨alb, j, none⟩ = some (.pointer (some ⟨wb j, 0, none⟩))) := Lib.hid ⟨v4, hac⟩
            have hM2 : M ≤ 10000 := by omega
            have hm2 : m ≤ 100000 := by omega
            clear HPM HRW HL HB
            go_region_held3 (fun W => W.cell? ⟨pb, 4, none⟩ = some (.slice (some ⟨alb, 0, none⟩) nW alc) ∧ W.cell? ⟨alb, j, none⟩ = some (.pointer (some ⟨wb j, 0, none⟩))) (first | (with_reducible assumption) | (with_reducible exact HC0.out) | (with_reducible exact HCE.out) | (with_reducible exact HCF.out))
              (first
                | (go_at_call 19; ((with_reducible refine (pm_step_miss _ hS HN.out HN2.out HPMd.out HOK.out hjn hb7' hM2 hm2).mono ?_); rintro e w4 ⟨rfl, qb', hv', c', f', y', L', PM4, ok4, mi4, OF4⟩; have HRW4 := Lib.hid (RowW.onlyF HRWd.out OF4 (fun i cs hi => HPMd.out.far hi (by decide) (by decide) (by decide) (by decide) (by decide) (by decide))); have HPM4 := Lib.hid PM4; have HOK4 := Lib.hid ok4; have HCE := row_cells HRW4.out PM4.pl hjn))
                | (go_at_call 20; ((with_reducible refine (apart_any hS hn8 hn1 HPM4.out HRW4.out HOK4.out).mono ?_); rintro e w5 ⟨rfl, hb5⟩; have HCF := row_cells (HRW4.out.below hb5) (HPM4.out.below hb5).pl hjn)))
            have HL4 : Hid (LyB w4 b 1 S 1) := Lib.hid (Blk.onlyF HLd.out OF4 (HPMd.out.far HLd.out (by decide) (by decide) (by decide) (by decide) (by decide) (by decide)))
            have HB4 : Hid (Below w.heap.size w w4) := Lib.hid (OnlyF.toBelow HBd.out OF4 hb7 (fun x hx => by
              rcases hx with rfl | rfl | ⟨i', hi', hx⟩
              · exact hpw
              · exact hgw
              · exact HPMd.out.new i' hi' x hx))
            have HRel2 : Hid (MixRel b pb p g n cap S nW len (.slice (some ⟨alb, 0, none⟩) nW alc) wb w (.int .i64 ((i : Int) + 1)) w5) :=
              Lib.hid ⟨i + 1, m + 1, M + 1, c', f', qb', hv', y', L', by omega, by go_num, by omega, by omega, HPM4.out.below hb5, HOK4.out, HRW4.out.below hb5, HL4.out.below hb5, keepB HB4.out hb5⟩
            clear PM4 ok4 mi4 OF4 HPMd HRWd HLd HBd HOK hac v0 v1 v2 v3 v4 vlt HPM4 HRW4 HOK4 HL4 HB4 hb5
            go_wp2_with fail
            exact ⟨HRel2.out, by simp [intOf]; omega⟩
        · have hil : i = len := by omega
          subst hil
          obtain ⟨v0, v1, v2, v3, v4⟩ := HPM.out.pl.cells
          have vlt := Blk.lt HPM.out.pl
          obtain ⟨alb, alc, rfl, halc, _⟩ := HRW.out.open_ (by omega)
          have hRelE : Hid (EndRel b pb p g n cap S nW (.slice (some ⟨alb, 0, none⟩) nW alc) wb w 0 wr) :=
            Lib.hid ⟨m, M, c1, f1, qb, hv, y, L, by omega, by omega, fun j hj => absurd hj (Nat.not_lt_zero _), HPM.out, HOK.out, HRW.out, HL.out, HB.out⟩
          clear HPM HOK HRW HL HB
          go_wp2_with fail
          clear v0 v1 v2 v3 v4 vlt
          go_loopw [112] (fun i wr => ∃ k : Nat, k ≤ nW ∧ i = .int .i64 (k : Int) ∧ EndRel b pb p g n cap S nW (.slice (some ⟨alb, 0, none⟩) nW alc) wb w k wr) (fun i _ => nW - (intOf i).toNat)
          case atStart => exact ⟨0, Nat.zero_le _, rfl, hRelE.out⟩
          case round =>
            clear hRelE
            obtain ⟨k, hk, rfl, m, M, c1, f1, qb, hv, y, L, hm, hM, hidl, PMx, hok, R, LY, B⟩ := hrel
            by_cases hlt2 : k < nW
            · have hac2 := (row_cells R PMx.pl hlt2).out.2
              have hRelI : Hid (InRel b pb p g n cap S nW k (.slice (some ⟨alb, 0, none⟩) nW alc) wb w (.int .i64 0) wr) :=
                Lib.hid ⟨0, m, M, c1, f1, qb, hv, y, L, rfl, by have := left_le y.x.hd (y.x.ws k).k; omega, by omega, by omega, hidl, PMx, hok, R, LY, B⟩
              clear PMx hok R LY B hidl hm hM
              go_wp2_with fail
              clear hac2
              go_loopw [13] (fun i wr => InRel b pb p g n cap S nW k (.slice (some ⟨alb, 0, none⟩) nW alc) wb w i wr) (fun i _ => 6 - (intOf i).toNat)
              case atStart => exact hRelI.out
              case round =>
                clear hRelI
                obtain ⟨j, m, M, c1, f1, qb, hv, y, L, rfl, hj, hm, hM, hidl, PMx, hok, R, LY, B⟩ := hrel
                have hown := (PMx.wk k hlt2).own
                have HPM := Lib.hid PMx
                have HOK := Lib.hid hok
                have HRW := Lib.hid R
                have HL := Lib.hid LY
                have HB := Lib.hid B
                have HID := Lib.hid hidl
                have hb7 : w.heap.size ≤ wr.heap.size := HB.out.size
                have hM2 : M ≤ 10000 := by omega
                have hm2 : m ≤ 100000 := by omega
                clear PMx hok R LY B hidl
                by_cases hki : (y.x.ws k).k = .idle
                · rw [hki] at hown
                  have o0 : wr.cell? ⟨wb k, 0, none⟩ = some (.pointer none) := hown.cell 0
                  have o1 : wr.cell? ⟨wb k, 1, none⟩ = some (.pointer none) := hown.cell 1
                  have hRelK : Hid (EndRel b pb p g n cap S nW (.slice (some ⟨alb, 0, none⟩) nW alc) wb w (k + 1) wr) :=
                    Lib.hid ⟨m, M, c1, f1, qb, hv, y, L, by omega, by omega, fun j' hj' => by
                      rcases Nat.lt_or_eq_of_le (Nat.le_of_lt_succ hj') with h | h
                      · exact HID.out j' h
                      · rw [h]; exact hki, HPM.out, HOK.out, HRW.out, HL.out, HB.out⟩
                  clear hown HPM HOK HRW HL HB HID
                  go_wp2_with fail
                  go_round
                  case rel => exact ⟨k + 1, by omega, by go_num, hRelK.out⟩
                  case measure => simp [intOf]; omega
                · have hpos : 0 < (y.x.ws k).k.left y.x.hd := by
                    rcases hkk : (y.x.ws k).k with _ | _ | _ | _ | _ | _ | _ <;> simp only [Wk.left] <;> (try split) <;> first | omega | exact absurd hkk hki
                  obtain ⟨tv, gv, ht0, ht1, htg⟩ := wk_ptrs hown hki
                  have HKI := Lib.hid hki
                  clear hki hown
                  rcases htg with rfl | ⟨rfl, rfl⟩
                  all_goals
                    go_wp2_with fail
                    refine (pm_step_end hS HN.out HN2.out HPM.out HOK.out hlt2 HKI.out hb7 hM2 hm2).mono ?_; rintro e w4 ⟨rfl, qb', hv', c', f', y', L', PM4, ok4, hleft, hoth, OF4⟩
                    have hRelI : Hid (InRel b pb p g n cap S nW k (.slice (some ⟨alb, 0, none⟩) nW alc) wb w (.int .i64 ((j : Int) + 1)) w4) :=
                      Lib.hid ⟨j + 1, m + 1, M + 1, c', f', qb', hv', y', L', by go_num, by omega, by omega, by omega, fun j' hj' => by rw [hoth j' (by omega)]; exact HID.out j' hj', PM4, ok4, HRW.out.onlyF OF4 (fun i cs hi => HPM.out.far hi (by decide) (by decide) (by decide) (by decide) (by decide) (by decide)), Blk.onlyF HL.out OF4 (HPM.out.far HL.out (by decide) (by decide) (by decide) (by decide) (by decide) (by decide)), OnlyF.toBelow HB.out OF4 hb7 (fun x hx => by
                        rcases hx with rfl | rfl | ⟨i', hi', hx⟩
                        · exact hpw
                        · exact hgw
                        · exact HPM.out.new i' hi' x hx)⟩
                    clear PM4 ok4 hleft hoth OF4 HPM HOK HRW HL HB HID ht0 ht1 HKI
                    go_wp2_with fail
                    exact ⟨hRelI.out, by simp [intOf]; omega⟩
            · have hkn : nW = k := by omega
              subst hkn
              have hmk := run_make_row' (P := Try.prog) 22 3 (.int .i64 0) 8 Try.underlying22 info_i rfl .i64 .i64 S (by omega) (by omega)
              have HPM0 := Lib.hid PMx
              have HOK := Lib.hid hok
              have HRW0 := Lib.hid R
              have HL0 := Lib.hid LY
              have HB0 := Lib.hid B
              have HID := Lib.hid hidl
              have hfoot : ∀ j, j < nW → ∀ x, Foot (wb j) (qb j) (hv j) (y.x.ws j).k x → x < wr.heap.size := fun j hj x hx => (PMx.wk j hj).foot_lt hx
              have HFOOT := Lib.hid hfoot
              have hmb : w.heap.size ≤ wr.heap.size := B.size
              clear PMx hok R LY B hidl hfoot
              go_wp2_with fail
              have HBm : Hid (Below wr.heap.size wr (wr.alloc (.cells (madeCells #[Value.int .i64 0] S) 3))) := Lib.hid ((Below.refl _ _).alloc (Nat.le_refl _) _)
              have HC0 := Lib.hid (CntN.made wr S)
              have HPM5 := Lib.hid (HPM0.out.below HBm.out)
              have HRW5 := Lib.hid (HRW0.out.below HBm.out)
              have HL5 := Lib.hid (HL0.out.below HBm.out)
              have HB5 := Lib.hid (keepB HB0.out HBm.out)
              have hch := HOK.out.chain
              have hLS : ∀ s ∈ L, s < S := fun s hs => HOK.out.lt_of_mem hs
              have hLn : L.length ≤ S := nodup_len HOK.out.nodup hLS
              have HCH := Lib.hid hch
              have HLS := Lib.hid hLS
              clear HPM0 HRW0 HL0 HB0 HBm hch hLS hmk
              generalize wr.alloc (.cells (madeCells #[Value.int .i64 0] S) 3) = w5 at HC0 HPM5 HRW5 HL5 HB5 ⊢
              generalize wr.heap.size = sb at HC0 HFOOT hmb ⊢
              have HC5 : Hid (w5.drew.cell? ⟨pb, 3, none⟩ = some (.pointer (some ⟨p, 0, none⟩)) ∧ w5.drew.cell? ⟨b, 0, none⟩ = some (.int .i64 1) ∧ w5.drew.cell? ⟨b, 1, none⟩ = some (.int .i64 (S : Int)) ∧ w5.drew.cell? ⟨b, 2, none⟩ = some (.int .i64 1)) := Lib.hid ⟨HPM5.out.pl.cells.2.2.2.1, HL5.out.cells⟩
              have HPMd := Lib.hid HPM5.out.drew
              have HRWd := Lib.hid (HRW5.out.below (Below.refl _ _).drew)
              have HLd := Lib.hid HL5.out.drew
              have HBd := Lib.hid HB5.out.drew
              have HCNd := Lib.hid (HC0.out.below (Below.refl _ _).drew)
              clear HPM5 HRW5 HL5 HB5 HC0
              go_region_held3 (fun W => W.cell? ⟨pb, 3, none⟩ = some (.pointer (some ⟨p, 0, none⟩)) ∧ W.cell? ⟨b, 0, none⟩ = some (.int .i64 1) ∧ W.cell? ⟨b, 1, none⟩ = some (.int .i64 (S : Int)) ∧ W.cell? ⟨b, 2, none⟩ = some (.int .i64 1)) (first | (with_reducible assumption) | (with_reducible exact HC5.out) | (with_reducible exact HC6.out) | (with_reducible exact HC7.out))
                (first
                  | (go_at_call 11; ((with_reducible refine (pm_of p _).mono ?_); rintro e w6 ⟨rfl, hb1⟩; have HPM6 := Lib.hid (HPMd.out.below hb1); have HRW6 := Lib.hid (HRWd.out.below hb1); have HL6 := Lib.hid (HLd.out.below hb1); have HB6 := Lib.hid (keepB HBd.out hb1); have HCN6 := Lib.hid (HCNd.out.below hb1); have HC6 := six_cells HPM6.out.pl HL6.out))
                  | (go_at_call 10; ((with_reducible refine (goL (V := 1) (T := 1) (t := 1) (S := S) HR.out rfl HN.out HN2.out HPM6.out.sa HCH.out HLS.out hLn (by omega)).mono ?_); rintro e w7 ⟨v7, c7, rfl, hli, hbk7, A7, e2, e3, O7⟩; obtain ⟨va, vc, rfl, hva, hvb⟩ := hli.shape; have HL7 := Lib.hid (LyB.only HL6.out HPM6.out.sa.1 O7); have HPM7 := Lib.hid (HPM6.out.only A7 O7 e2 e3); have HC7 := six_cells HPM7.out.pl HL7.out)))
              have HRW7 : Hid (RowW w7 w.heap.size (.slice (some ⟨alb, 0, none⟩) nW alc) nW wb) := Lib.hid (HRW6.out.keep fun i hi => by
                obtain ⟨cs, hb⟩ := HRW6.out.blk i hi
                obtain ⟨zs, hz, _⟩ := HPM6.out.sa.1.cells
                exact O7.block i hb.lt (fun e => hb.ne_ HPM6.out.sa.1.own (by decide) e) (fun e => hb.ne_ hz (by decide) e))
              have HB7 := Lib.hid (Only.below HB6.out O7 HB6.out.size hpw hgw)
              have HCN7 := Lib.hid (HCN6.out.only HPM6.out.sa.1 O7)
              have HI7 := Lib.hid hli
              have hvne : ∀ i, bk (.slice va L.length vc) = some i → i ≠ sb := fun i hi e => by
                have h1 := hbk7 i hi
                have h2 := HCN6.out.lt
                omega
              have HVNE := Lib.hid hvne
              clear HPMd HRWd HLd HBd HCNd HPM6 HRW6 HL6 HB6 HCN6 hli hbk7 A7 O7 hb1 hva hvb hvne
              go_wp2_with fail
              go_loopw [150] (fun i wr => ∃ (k : Nat) (F : Nat → Nat), k ≤ L.length ∧ i = .int .i64 (k : Int) ∧ OnlyF (fun x => x = sb) w7 wr ∧ CntN wr sb S F ∧ ∀ s, F s = (L.take k).count s) (fun i _ => L.length - (intOf i).toNat)
              case atStart => exact ⟨0, _, Nat.zero_le _, rfl, OnlyF.refl _, HCN7.out, fun s => by simp⟩
              case round =>
                obtain ⟨k, F, hk, rfl, O, CN, hF⟩ := hrel
                have HO := Lib.hid O
                have HCN := Lib.hid CN
                have HF := Lib.hid hF
                clear O CN hF
                by_cases hkl : k < L.length
                · obtain ⟨x, hx⟩ : ∃ x, L[k]? = some x := ⟨_, List.getElem?_eq_getElem hkl⟩
                  have hne : L ≠ [] := by rintro rfl; simp at hkl
                  have hli : LI wr (.slice va L.length vc) L := HI7.out.keep fun i hi => HO.out.block i (HI7.out.lt i hi) (HVNE.out i hi)
                  obtain ⟨vb, voff, vc2, e, _, _, _, hcell⟩ := hli.open_ hne
                  injection e with e1 _ ec
                  subst e1 ec
                  have hcx := hcell k x hx
                  have hxS : x < S := HLS.out x (List.mem_of_getElem? hx)
                  have hxS2 : ((x : Nat) : Int) < (S : Int) := by omega
                  have hx0 : (0 : Int) ≤ ((x : Nat) : Int) := by omega
                  have hF0 : F x = 0 := by rw [HF.out x]; exact List.count_eq_zero.2 (take_not HOK.out.nodup hx)
                  have hFx : ((F x : Nat) : Int) ≤ 1000 := by omega
                  have hFx0 : 0 ≤ ((F x : Nat) : Int) := by omega
                  have hcs := HCN.out.cell hxS
                  have hfs := HCN.out.fz x
                  have hsl := HCN.out.lt
                  have HR3 : Hid (OnlyF (fun x => x = sb) w7 (wr.setCell ⟨sb, x, none⟩ (.int .i64 ((F x : Int) + 1))) ∧ CntN (wr.setCell ⟨sb, x, none⟩ (.int .i64 ((F x : Int) + 1))) sb S (put F x (F x + 1)) ∧ ∀ s, put F x (F x + 1) s = (L.take (k + 1)).count s) := by
                    refine Lib.hid ⟨HO.out.set_ _ (.inl rfl), HCN.out.set_ hxS, ?_⟩
                    have : L.take (k + 1) = L.take k ++ [x] := by rw [List.take_add_one, hx]; rfl
                    rw [this]
                    exact put_count _ _ _ HF.out
                  clear hcell hx hne hli hF0 HO HCN HF
                  generalize ((F x : Nat) : Int) = fx at hFx hFx0 hcs HR3
                  go_wp2_with fail
                  exact ⟨⟨k + 1, _, by omega, by go_num, HR3.out⟩, by simp [intOf]; omega⟩
                · have hkL : k = L.length := by omega
                  subst hkL
                  rw [List.take_length] at HF
                  have hpne : pb ≠ sb := by obtain ⟨zs, hz, _⟩ := HCN7.out; exact Blk.ne_ HPM7.out.pl hz (by decide)
                  have hP := Blk.onlyF HPM7.out.pl HO.out hpne
                  obtain ⟨v0, v1, v2, v3, v4⟩ := PlB.cells hP
                  have vlt := Blk.lt hP
                  have hRel6 : Hid (OnlyF (fun x => x = sb) w7 wr ∧ CntN wr sb S F ∧ ∀ s, F s = (L ++ seenL y.x.ws 0).count s) := Lib.hid ⟨HO.out, HCN.out, fun s => by rw [HF.out s]; simp [seenL]⟩
                  clear hP HO HCN HF
                  go_wp2_with fail
                  clear v0 v1 v2 v3 v4 vlt
                  go_loopw [166] (fun i wr => ∃ (k : Nat) (F : Nat → Nat), k ≤ nW ∧ i = .int .i64 (k : Int) ∧ OnlyF (fun x => x = sb) w7 wr ∧ CntN wr sb S F ∧ ∀ s, F s = (L ++ seenL y.x.ws k).count s) (fun i _ => nW - (intOf i).toNat)
                  case atStart => exact ⟨0, F, Nat.zero_le _, rfl, hRel6.out⟩
                  case round =>
                    clear hRel6
                    obtain ⟨k, F, hk, rfl, O, CN, hF⟩ := hrel
                    by_cases hkl : k < nW
                    · have hrw : RowW wr w.heap.size (.slice (some ⟨alb, 0, none⟩) nW alc) nW wb := HRW7.out.onlyF O (fun i cs hi e => by obtain ⟨zs, hz, _⟩ := HCN7.out; exact hi.ne_ hz (by decide) e)
                      have hac2 := (row_cells hrw (Blk.onlyF HPM7.out.pl O hpne) hkl).out.2
                      have hwk := (HPM7.out.wk k hkl).onlyF O (fun x hx e => by have := HFOOT.out k hkl x hx; omega)
                      obtain ⟨hl, hhl⟩ : ∃ hl, hl = (y.x.ws k).has := ⟨_, rfl⟩
                      have hli9 := hwk.has
                      rw [← hhl] at hli9
                      obtain ⟨ha, hc, he, _, _⟩ := hli9.shape
                      have hown2 := hwk.own.cell 2
                      rw [he] at hown2
                      have hc2 : wr.cell? ⟨wb k, 2, none⟩ = some (.slice ha hl.length hc) := hown2
                      have hll : hl.length ≤ S := nodup_len (by rw [hhl]; exact HOK.out.has_nodup hkl) (by rw [hhl]; exact HOK.out.has_lt hkl)
                      have hRel7 : Hid (OnlyF (fun x => x = sb) w7 wr ∧ CntN wr sb S F ∧ ∀ s, F s = (L ++ seenL y.x.ws k ++ hl.take 0).count s) := Lib.hid ⟨O, CN, fun s => by rw [hF s]; simp⟩
                      have HHL := Lib.hid hhl
                      have HHE := Lib.hid he
                      clear hrw hwk hli9 he hown2 hhl O CN hF
                      go_wp2_with fail
                      clear hac2 hc2
                      go_loopw [175] (fun i wr => ∃ (j : Nat) (F : Nat → Nat), j ≤ hl.length ∧ i = .int .i64 (j : Int) ∧ OnlyF (fun x => x = sb) w7 wr ∧ CntN wr sb S F ∧ ∀ s, F s = (L ++ seenL y.x.ws k ++ hl.take j).count s) (fun i _ => hl.length - (intOf i).toNat)
                      case atStart => exact ⟨0, F, Nat.zero_le _, rfl, hRel7.out⟩
                      case round =>
                        clear hRel7
                        obtain ⟨j, F, hj, rfl, O, CN, hF⟩ := hrel
                        have HO := Lib.hid O
                        have HCN := Lib.hid CN
                        have HF := Lib.hid hF
                        clear O CN hF
                        by_cases hjl : j < hl.length
                        · obtain ⟨x, hx⟩ : ∃ x, hl[j]? = some x := ⟨_, List.getElem?_eq_getElem hjl⟩
                          have hne : hl ≠ [] := by rintro rfl; simp at hjl
                          have hli9 : LI wr (.slice ha hl.length hc) hl := by
                            have := ((HPM7.out.wk k hkl).onlyF HO.out (fun x hx e => by have := HFOOT.out k hkl x hx; omega)).has
                            rw [HHE.out, ← HHL.out] at this
                            exact this
                          obtain ⟨vb, voff, vc2, e, _, _, _, hcell⟩ := hli9.open_ hne
                          injection e with e1 _ ec
                          subst e1 ec
                          have hcx := hcell j x hx
                          have hxh : x ∈ (y.x.ws k).has := by rw [← HHL.out]; exact List.mem_of_getElem? hx
                          have hxm : x ∈ (y.x.ws k).held := List.mem_append.2 (.inl hxh)
                          have hxS : x < S := HOK.out.has_lt hkl x hxh
                          have hxS2 : ((x : Nat) : Int) < (S : Int) := by omega
                          have hx0 : (0 : Int) ≤ ((x : Nat) : Int) := by omega
                          have hF0 : F x = 0 := by
                            rw [HF.out x]
                            refine List.count_eq_zero.2 fun hm => ?_
                            rcases List.mem_append.1 hm with hm | hm
                            · rcases List.mem_append.1 hm with hm | hm
                              · exact HOK.out.not_free hkl hxm hm
                              · obtain ⟨j', hj', hm'⟩ := seenL_mem hm
                                exact HOK.out.apart hj' hkl (List.mem_append.2 (.inl hm')) hxm
                            · exact take_not (by rw [HHL.out]; exact HOK.out.has_nodup hkl) hx hm
                          have hFx : ((F x : Nat) : Int) ≤ 1000 := by omega
                          have hFx0 : 0 ≤ ((F x : Nat) : Int) := by omega
                          have hcs := HCN.out.cell hxS
                          have hfs := HCN.out.fz x
                          have hsl := HCN.out.lt
                          have HR3 : Hid (OnlyF (fun x => x = sb) w7 (wr.setCell ⟨sb, x, none⟩ (.int .i64 ((F x : Int) + 1))) ∧ CntN (wr.setCell ⟨sb, x, none⟩ (.int .i64 ((F x : Int) + 1))) sb S (put F x (F x + 1)) ∧ ∀ s, put F x (F x + 1) s = (L ++ seenL y.x.ws k ++ hl.take (j + 1)).count s) := by
                            refine Lib.hid ⟨HO.out.set_ _ (.inl rfl), HCN.out.set_ hxS, ?_⟩
                            have : hl.take (j + 1) = hl.take j ++ [x] := by rw [List.take_add_one, hx]; rfl
                            rw [this, ← List.append_assoc]
                            exact put_count _ _ _ HF.out
                          clear hcell hx hne hli9 hF0 HO HCN HF hxh hxm
                          generalize ((F x : Nat) : Int) = fx at hFx hFx0 hcs HR3
                          go_wp2_with fail
                          exact ⟨⟨j + 1, _, by omega, by go_num, HR3.out⟩, by simp [intOf]; omega⟩
                        · have hjL : j = hl.length := by omega
                          subst hjL
                          have hR6 : Hid (OnlyF (fun x => x = sb) w7 wr ∧ CntN wr sb S F ∧ ∀ s, F s = (L ++ seenL y.x.ws (k + 1)).count s) := by
                            refine Lib.hid ⟨HO.out, HCN.out, fun s => ?_⟩
                            have := HF.out s
                            rw [List.take_length, HHL.out] at this
                            rw [this, seenL_succ, List.append_assoc]
                          clear HO HCN HF
                          go_wp2_with fail
                          go_round
                          case rel => exact ⟨k + 1, F, by omega, by go_num, hR6.out⟩
                          case measure => simp [intOf]; omega
                    · have hkn : k = nW := by omega
                      subst hkn
                      have HF1 : Hid (∀ s, s < S → ((F s : Nat) : Int) = 1) := Lib.hid fun s hs => by
                        rw [hF s, List.count_append, seenL_count HID.out]
                        have := HOK.out.once s hs
                        omega
                      have HCN := Lib.hid CN
                      have HBe : Hid (Below w.heap.size w wr) := Lib.hid (OnlyF.toBelow HB7.out O HB7.out.size (fun i e => by rw [e]; exact hmb))
                      clear O CN hF
                      go_wp2_with fail
                      go_loop [189] (fun i => ∃ k : Nat, k ≤ S ∧ i = .int .i64 (k : Int)) (fun i => S - (intOf i).toNat)
                      case atStart => exact ⟨0, Nat.zero_le _, rfl⟩
                      case round =>
                        obtain ⟨t, ht, rfl⟩ := hrel
                        by_cases htS : t < S
                        · have hcs := HCN.out.cell htS
                          rw [HF1.out t htS] at hcs
                          go_wp2_with fail
                          go_round
                          case rel => exact ⟨t + 1, by omega, by go_num⟩
                          case measure => simp [intOf]; omega
                        · have htS2 : t = S := by omega
                          subst htS2
                          go_wp2_with fail
                          refine (awake_any _).mono ?_; rintro e w3 ⟨rfl, hb3⟩
                          go_wp2_with fail
                          go_ret
                          exact ⟨rfl, keepB HBe.out hb3⟩
end Go.Proofs.Ytgjlilcljefbfaa
