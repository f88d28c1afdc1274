/- The law TreapFirst: its walk. Printed by wip/tools/trqlf.py. -/
import Derived.Test.YtgafnomfdnbblaaZK
namespace Go.Proofs.Ytgafnomfdnbblaa
open Go.RowKit

set_option maxRecDepth 100000

theorem sh_and (mx u : Nat) : bits .and .i64 ((mx : Int) / 2 ^ u) 1 = ((mx / 2 ^ u % 2 : Nat) : Int) := by
  rw [and1_i64]
  have h : (mx : Int) / 2 ^ u = ((mx / 2 ^ u : Nat) : Int) := by rw [Int.natCast_ediv, Int.natCast_pow]; rfl
  rw [h]; rfl
theorem sh_off {mn mx : Nat} (h : decide (mx / 2 ^ mn % 2 = 1) = false) : (bits .and .i64 ((mx : Int) / 2 ^ mn) 1 == 0) = true := by
  have h1 := of_decide_eq_false h
  rw [sh_and, show mx / 2 ^ mn % 2 = 0 by omega]; rfl
theorem sh_on {mn mx : Nat} (h : decide (mx / 2 ^ mn % 2 = 1) = true) : (bits .and .i64 ((mx : Int) / 2 ^ mn) 1 == 0) = false := by
  have h1 := of_decide_eq_true h
  rw [sh_and, h1]; rfl
theorem first_at {mk : Nat → Nat} {mn : Nat} : ∀ {l : List Nat} {j x : Nat}, l[j]? = some x → (∀ y ∈ l.take j, mbit mk mn y = false) → mbit mk mn x = true → firstR mk mn l = x
  | [], j, x, h, _, _ => by simp at h
  | y :: l, 0, x, h, _, hx => by
    have e : y = x := by simpa using h
    subst e
    simp only [firstR]; rw [if_pos hx]
  | y :: l, j + 1, x, h, hu, hx => by
    have hy : mbit mk mn y = false := hu y (by simp)
    simp only [firstR]
    rw [if_neg (by rw [hy]; simp)]
    exact first_at (j := j) (by simpa using h) (fun z hz => hu z (by simp [hz])) hx
theorem bmark {c : Nat} {w w0 : World} {zb : Nat} {vc : Array Value} {V S T : Int} {q p gb cap pb mb vb cp cm cv base x k : Nat} {g : Mg9} {mk : Nat → Nat} {ts : List Tp} {vr : Value} {vs : List Value} {on : Bool} (h : BW (c + 7) w0 w zb vc ⟨V, S, T, q, p, gb, cap, pb, mb, vb, cp, cm, cv, base⟩ g mk ts vr vs) (hF : FI V S g mk ts) (h1 : x ≠ 0) (h2 : x ≤ nN V S) (hk : k < 2) {kI : Int} (hkI : kI = (k : Int)) :
    Calls Try.prog 25 #[vTr V S T p, .int .i64 (x : Int), .int .i64 kI, .bool on] w fun e w' => ∃ g', e = .returned (.tuple #[]) ∧ BW c w0 w' zb vc ⟨V, S, T, q, p, gb, cap, pb, mb, vb, cp, cm, cv, base⟩ g' mk ts vr vs ∧ FI V S g' (mkSet mk x k on) ts ∧ Only p gb w w' := by
  obtain ⟨m, hm, A⟩ := h.tt
  have hn := h.nn
  refine (fmark A hF (on := on) h1 h2 hk (by omega) rfl hkI).mono ?_
  rintro e w' ⟨g', rfl, A', h5, F', O⟩
  exact ⟨g', rfl, h.only A' (by omega) O h5, F', O⟩
theorem setB_off {s k : Nat} (hs : s < 4) (hk : k < 2) : decide (setB s k false / 2 ^ k % 2 = 1) = false := by
  have key : ∀ s < 4, ∀ k < 2, decide (setB s k false / 2 ^ k % 2 = 1) = false := by decide
  exact key s hs k hk
theorem BW.mark {c : Nat} {W w0 : World} {zb : Nat} {vc : Array Value} {V S T : Int} {q p gb cap pb mb vb cp cm cv base x : Nat} {g : Mg9} {mk : Nat → Nat} {ts : List Tp} {vr : Value} {vs : List Value} (h : BW c w0 W zb vc ⟨V, S, T, q, p, gb, cap, pb, mb, vb, cp, cm, cv, base⟩ g mk ts vr vs) (hx : x ≤ nN V S) {v : Nat} : BW c w0 (W.setCell ⟨mb, x, none⟩ (.int .i64 (v : Int))) zb vc ⟨V, S, T, q, p, gb, cap, pb, mb, vb, cp, cm, cv, base⟩ g (fun y => if y = x then v else mk y) ts vr vs := by
  obtain ⟨n, z, ⟨m, hm, pl⟩, be, hb, hz, ko⟩ := h
  obtain ⟨_, ⟨z2, b4, _⟩, _⟩ := pl.fs
  exact ⟨n, Blk.far (p := ⟨mb, x, none⟩) z (Blk.ne_ z b4 (by decide)) _, ⟨m, hm, pl.mark hx⟩, be.setCell (Nat.le_trans hb ko.m) _, hb, hz, ko⟩
theorem wrap_bt {mn : Nat} (h : mn < 2) : wrap64 (2 ^ mn) = ((bt mn : Nat) : Int) := by
  have : mn = 0 ∨ mn = 1 := by omega
  rcases this with rfl | rfl <;> simp [wrap64, bt]
/-- Between two calls of a case. -/
def LpRel (w0 : World) (zb : Nat) (vc : Array Value) (K : PK9) (pri : Nat → Nat) (ol : Nat) (i : Value) (W : World) : Prop :=
  ∃ k m g mk ts vr vs, k ≤ ol ∧ i = .int .i64 ((k : Nat) : Int) ∧ m ≤ 1000 + 1000 * k ∧ LW w0 W zb vc K m g mk ts vr vs ∧ ∀ x, 1 ≤ x → x ≤ nN K.V K.S → g x 5 = pri x
/-- Between two rows. -/
def FlRel (w0 : World) (zb : Nat) (vc : Array Value) (K : PK9) (ts : List Tp) (vr : Value) (vs : List Value) (i : Value) (W : World) : Prop :=
  ∃ r g mk, r ≤ ts.length ∧ i = .int .i64 ((r : Nat) : Int) ∧ BW (444 * (40 - r)) w0 W zb vc K g mk ts vr vs ∧ FI K.V K.S g mk ts
/-- .. two nodes of a row. -/
def FnRel (w0 : World) (zb : Nat) (vc : Array Value) (K : PK9) (ts : List Tp) (vr : Value) (vs : List Value) (c : Nat) (v : Value) (row : List Nat) (mn : Nat) (i : Value) (W : World) : Prop :=
  ∃ j g mk, j ≤ row.length ∧ i = .int .i64 ((j : Nat) : Int) ∧ BW (c + 11 * (row.length - j)) w0 W zb vc K g mk ts vr vs ∧ FI K.V K.S g mk ts ∧ LI W v row ∧ ∀ y ∈ row.take j, mbit mk mn y = false
section
variable {V S T : Int} {da oa : Option Addr} {dl dc ol oc : Nat} {f : Nat → Nat} {fo : Nat → Op5}
set_option maxHeartbeats 16000000 in
theorem lfirst (mark : Int) (_m1 : -9223372036854775808 ≤ mark) (_m2 : mark ≤ 9223372036854775807) (w : World) (hD : IsNum w da dl f) (hO : IsOp5 w oa ol fo) :
    Calls Try.prog 7 #[vC9 V S T da dl dc oa ol oc, .int .i64 mark] w fun e w' => e = .returned (.bool true) ∧ Below w.heap.size w w' := by
  have HD := Lib.hid hD
  have HO := Lib.hid hO
  clear hD hO
  have HB1 : Hid (Below w.heap.size w (w.alloc (.cells #[.int .i64 V, .int .i64 S, .int .i64 T, .slice da dl dc, .slice oa ol oc] 27))) := Lib.hid ((Below.refl _ _).alloc (Nat.le_refl _) _)
  have HZ1 : Hid (Blk (w.alloc (.cells #[.int .i64 V, .int .i64 S, .int .i64 T, .slice da dl dc, .slice oa ol oc] 27)) w.heap.size 27 #[.int .i64 V, .int .i64 S, .int .i64 T, .slice da dl dc, .slice oa ol oc]) := Lib.hid (Blk.new _ _ _)
  go_enter Try.func7, Try.ntmps7
  go_wp2_with fail
  generalize w.heap.size = zb at HZ1 ⊢
  generalize w.alloc (.cells #[.int .i64 V, .int .i64 S, .int .i64 T, .slice da dl dc, .slice oa ol oc] 27) = W1 at HZ1 HB1 ⊢
  refine (right_case V S T da dl dc oa ol oc _).mono ?_; rintro e w2 ⟨rfl, hb2⟩
  have HB2 := Lib.hid (HB1.out.trans (hb2.mono HB1.out.size))
  have HZ2 := Lib.hid (HZ1.out.below hb2 HZ1.out.lt)
  clear HB1 HZ1 hb2
  cases hr : rgt9 V S T dl ol
  · go_wp2_with fail
    refine (awake_any _).mono ?_; rintro e w3 ⟨rfl, hb3⟩
    have HB3 := Lib.hid (HB2.out.trans (hb3.mono HB2.out.size))
    go_wp2_with fail
    go_ret
    exact ⟨rfl, HB3.out⟩
  have HG := Lib.hid (rgt9_yes hr)
  clear hr
  by_cases g1 : mark < 0
  · go_wp2_with fail
    refine (awake_any _).mono ?_; rintro e w3 ⟨rfl, hb3⟩
    have HB3 := Lib.hid (HB2.out.trans (hb3.mono HB2.out.size))
    go_wp2_with fail
    go_ret
    exact ⟨rfl, HB3.out⟩
  by_cases g2 : 1 < mark
  · go_wp2_with fail
    refine (awake_any _).mono ?_; rintro e w3 ⟨rfl, hb3⟩
    have HB3 := Lib.hid (HB2.out.trans (hb3.mono HB2.out.size))
    go_wp2_with fail
    go_ret
    exact ⟨rfl, HB3.out⟩
  obtain ⟨mn, rfl⟩ : ∃ mn : Nat, mark = (mn : Int) := ⟨mark.toNat, by omega⟩
  have HMN : Hid (mn < 2) := Lib.hid (by omega)
  have d1 : decide ((mn : Int) < 0) = false := decide_eq_false g1
  have d2 : decide (1 < (mn : Int)) = false := decide_eq_false g2
  have z0 := HZ2.out.cell 0
  have z1 := HZ2.out.cell 1
  have z2 := HZ2.out.cell 2
  have z3 := HZ2.out.cell 3
  have z4 := HZ2.out.cell 4
  have zlt := HZ2.out.lt
  go_wp2_with fail
  refine (lbegun HG.out.r (HD.out.below HB2.out) HG.out.d HZ2.out HB2.out).mono ?_
  rintro e w3 ⟨q, p, gb, cap, pb, mb, vb, cp, cm, cv, base, g0, vr0, vs0, rfl, hL, hpri, _, _⟩
  have HL := Lib.hid hL
  have HP := Lib.hid hpri
  have HN := Lib.hid HG.out.few
  have HOL := Lib.hid HG.out.o
  have holI : (ol : Int) ≤ 60 := by have := HG.out.o; omega
  have HM : Hid (10 * nN V S ≤ 400) := Lib.hid (by have := HN.out; omega)
  clear hL hpri z0 z1 z2 z3 z4 zlt HZ2 HB2
  have HRel : Hid (LpRel w zb #[.int .i64 V, .int .i64 S, .int .i64 T, .slice da dl dc, .slice oa ol oc] ⟨V, S, T, q, p, gb, cap, pb, mb, vb, cp, cm, cv, base⟩ (priF dl f) ol (.int .i64 0) w3) := Lib.hid ⟨0, _, _, _, _, _, _, Nat.zero_le _, rfl, by have := HN.out; omega, HL.out, HP.out⟩
  have z4 := HL.out.z.cell 4
  have zlt := HL.out.z.lt
  clear HL HP HM
  go_wp2_with fail
  go_loopw [32] (fun i wr => LpRel w zb #[.int .i64 V, .int .i64 S, .int .i64 T, .slice da dl dc, .slice oa ol oc] ⟨V, S, T, q, p, gb, cap, pb, mb, vb, cp, cm, cv, base⟩ (priF dl f) ol i wr) (fun i _ => ol - (intOf i).toNat)
  case atStart => exact HRel.out
  case round =>
    clear HRel z4 zlt
    obtain ⟨k, m, g, mk, ts, vr, vs, hk, rfl, hm, hL, hpri⟩ := hrel
    have HL := Lib.hid hL
    have HP := Lib.hid hpri
    have HMK := Lib.hid hm
    clear hL hpri
    by_cases hkl : k < ol
    · obtain ⟨ob, off, rfl, hcell⟩ := HO.out (by omega)
      have hc := hcell k hkl
      obtain ⟨o, ho⟩ : ∃ o, fo k = o := ⟨_, rfl⟩
      rw [ho] at hc
      obtain ⟨kd, oa1, ob1, ok1, on⟩ := o
      have c0 := cell_later HL.out.be hc.1
      have c1 := cell_later HL.out.be hc.2.1
      have c2 := cell_later HL.out.be hc.2.2.1
      have c3 := cell_later HL.out.be hc.2.2.2.1
      have c4 := cell_later HL.out.be hc.2.2.2.2.1
      have HF := Lib.hid hc.2.2.2.2.2
      have hkI : (k : Int) < (ol : Int) := by omega
      have hk0 : (0 : Int) ≤ (k : Int) := by omega
      have HM1 : Hid (m ≤ 900000) := Lib.hid (by have := HOL.out; omega)
      have HLa := Lib.hid (HL.out.below ((Below.refl _ _).alloc (Nat.le_refl _) (.cells #[.int .i64 kd, .int .i64 oa1, .int .i64 ob1, .int .i64 ok1, .bool on] 33)))
      clear hc ho hcell HL hm
      go_wp2_with fail
      refine (lstep HLa.out HF.out.1 HF.out.2.1 HF.out.2.2 (Nat.le_trans HM1.out (by omega))).mono ?_
      rintro e w5 ⟨rfl, g', mk', ts', vr', vs', hL5, _, h5⟩
      have HL5 := Lib.hid hL5
      have H5 := Lib.hid h5
      clear hL5 h5 HLa c0 c1 c2 c3 c4
      have HL6 := HL5
      go_wp2_with fail
      go_roundw
      case rel => exact ⟨k + 1, _, g', mk', ts', vr', vs', hkl, by simp, by have := HMK.out; have := HN.out; omega, HL6.out, fun x h1 h2 => (H5.out x).trans (HP.out x h1 h2)⟩
      case measure => simp [intOf]; omega
    · have ek : k = ol := by omega
      subst ek
      have hkI : ¬ (k : Int) < (k : Int) := by omega
      have HM1 : Hid (m ≤ 100000) := Lib.hid (by have := HOL.out; omega)
      clear hk hkl
      have HTS : Hid (ts.length ≤ 40) := Lib.hid (by have h9 : ts.length ≤ nN V S := HL.out.ff.len; have := HN.out; omega)
      have HFI := Lib.hid HL.out.ff
      have HB0 := Lib.hid (HL.out.bw (c := 17760) HN.out (by have := HM1.out; omega))
      clear HL
      have y10 : wr.cell? ⟨q, 10, none⟩ = some vr := HB0.out.pf.cell 10
      have hlt := HB0.out.pf.lt
      obtain ⟨av, ac, rfl⟩ := HB0.out.rv.slice
      have HVL : Hid (vs.length = ts.length) := Lib.hid HB0.out.ro.1
      obtain ⟨N9, hN9⟩ : ∃ N, vs.length = N := ⟨_, rfl⟩
      have HN9 := Lib.hid hN9
      have n9I : (N9 : Int) ≤ 40 := by have := HVL.out; have := HTS.out; omega
      rw [hN9] at y10 HB0
      clear hN9
      go_wp2_with fail
      have HRel : Hid (FlRel w zb #[.int .i64 V, .int .i64 S, .int .i64 T, .slice da dl dc, .slice oa k oc] ⟨V, S, T, q, p, gb, cap, pb, mb, vb, cp, cm, cv, base⟩ ts (.slice av N9 ac) vs (.int .i64 0) wr) := Lib.hid ⟨0, g, mk, Nat.zero_le _, rfl, HB0.out, HFI.out⟩
      clear HB0 y10 hlt HFI
      obtain ⟨wo0, hwo0⟩ : ∃ wo0 : World, wo0 = wr := ⟨_, rfl⟩
      go_loopw [47] (fun i wr => FlRel w zb #[.int .i64 V, .int .i64 S, .int .i64 T, .slice da dl dc, .slice oa k oc] ⟨V, S, T, q, p, gb, cap, pb, mb, vb, cp, cm, cv, base⟩ ts (.slice av N9 ac) vs i wr) (fun i _ => N9 - (intOf i).toNat)
      case atStart => exact HRel.out
      case round =>
        clear HRel
        obtain ⟨r, g, mk, hr, rfl, hB, hFI⟩ := hrel
        have HB := Lib.hid hB
        have HFI : Hid (FI V S g mk ts) := Lib.hid hFI
        clear hB hFI
        by_cases hrn : r < N9
        · obtain ⟨v, t, hv, ht, hli, hvm, a1, a2, rfl⟩ := HB.out.ro.get (i := r) (by have := HN9.out; have := HVL.out; omega)
          obtain ⟨rg, rc9, e9, hrg, hrlt, cs, hz, hcs⟩ := RowV.at HB.out.rv hv
          injection e9 with e91 e92 e93
          subst e91
          have crow := (hz.cell r).trans (hcs r _ hv)
          have HV := Lib.hid hv
          have HTI := Lib.hid ht
          have HLI := Lib.hid hli
          have hr0 : (0 : Int) ≤ (r : Int) := by omega
          have hr1 : (r : Int) < (N9 : Int) := by omega
          obtain ⟨nt, hnt⟩ : ∃ n, t.row.length = n := ⟨_, rfl⟩
          have HNT := Lib.hid hnt
          have ntI : (nt : Int) ≤ 40 := by have h1 := (HFI.out.at ht).2.2.2.2.2; have := HN.out; unfold Tp.size at h1; omega
          rw [hnt] at crow HLI HV hvm
          have HBKM := Lib.hid hvm
          obtain ⟨c0, hc0⟩ : ∃ c, 444 * (40 - r) = c + 444 := ⟨444 * (40 - (r + 1)), by have := HTS.out; have := HVL.out; have := HN9.out; omega⟩
          have HC0 := Lib.hid hc0
          rw [hc0] at HB
          clear hv ht hli hvm hz hcs hrg e92 e93 hnt hc0 hr
          obtain ⟨y0, y1, y2, y3, y4, y5, y6, y7, y8, y9, y10, y11, y12, y13⟩ := HB.out.pf.cells
          have hlt := HB.out.pf.lt
          go_wp2_with fail
          refine (brroot HB.out HFI.out HV.out HTI.out _ _ _).mono ?_; rintro e w5 ⟨rfl, hB5, hb5⟩
          have HL5 := Lib.hid (HLI.out.below hb5)
          have HRel2 : Hid (FnRel w zb #[.int .i64 V, .int .i64 S, .int .i64 T, .slice da dl dc, .slice oa k oc] ⟨V, S, T, q, p, gb, cap, pb, mb, vb, cp, cm, cv, base⟩ ts (.slice (some ⟨rg, 0, none⟩) N9 ac) vs (c0 + 4) (.slice a1 nt a2) t.row mn (.int .i64 0) w5) := Lib.hid ⟨0, g, mk, Nat.zero_le _, rfl, hB5.less (by have := HNT.out; omega), HFI.out, HL5.out, fun y hy => by cases hy⟩
          clear hB5 hb5 HB HLI HL5 crow hrlt y0 y1 y2 y3 y4 y5 y6 y7 y8 y9 y10 y11 y12 y13 hlt HFI
          go_wp2_with fail
          obtain ⟨wo1, hwo1⟩ : ∃ wo1 : World, wo1 = wr := ⟨_, rfl⟩
          go_loopw [59] (fun i wr => FnRel w zb #[.int .i64 V, .int .i64 S, .int .i64 T, .slice da dl dc, .slice oa k oc] ⟨V, S, T, q, p, gb, cap, pb, mb, vb, cp, cm, cv, base⟩ ts (.slice (some ⟨rg, 0, none⟩) N9 ac) vs (c0 + 4) (.slice a1 nt a2) t.row mn i wr) (fun i _ => nt - (intOf i).toNat)
          case atStart => exact HRel2.out
          case round =>
            clear HRel2
            obtain ⟨j, g, mk, hj, rfl, hB, hFI, hl, hun⟩ := hrel
            have HB := Lib.hid hB
            have HFI : Hid (FI V S g mk ts) := Lib.hid hFI
            have HLI := Lib.hid hl
            have HUN := Lib.hid hun
            rw [HNT.out] at hj
            clear hB hFI hl hun
            by_cases hjn : j < nt
            · obtain ⟨x, hx⟩ : ∃ x, t.row[j]? = some x := ⟨_, List.getElem?_eq_getElem (by have := HNT.out; omega)⟩
              have HX := Lib.hid hx
              have HXM := Lib.hid (List.mem_of_getElem? hx)
              have HXB := Lib.hid ((HFI.out.at HTI.out).2.2.2.2.1 x HXM.out)
              obtain ⟨b1, o1, e1, c1⟩ := HLI.out.at hx
              subst e1
              have l1 := (HLI.out.lt b1 (LI.bk_at HLI.out hx))
              clear hx
              have xI : (x : Int) ≤ 40 := by have := HXB.out.2; have := HN.out; omega
              have x0I : (0 : Int) ≤ (x : Int) := by omega
              have jI : (j : Int) < (nt : Int) := by omega
              have j0I : (0 : Int) ≤ (j : Int) := by omega
              have xnI : (x : Int) < (nN V S : Int) + 1 := by have := HXB.out.2; omega
              obtain ⟨c8, hc8⟩ : ∃ c, c0 + 4 + 11 * (t.row.length - j) = c + 11 := ⟨c0 + 4 + 11 * (t.row.length - (j + 1)), by have := HNT.out; omega⟩
              have HC8 := Lib.hid hc8
              rw [hc8] at HB
              clear hc8
              obtain ⟨y0, y1, y2, y3, y4, y5, y6, y7, y8, y9, y10, y11, y12, y13⟩ := HB.out.pf.cells
              have hlt := HB.out.pf.lt
              have hmb := HB.out.fs.m.cell (k := x) HXB.out.2
              have mlt := HB.out.fs.m.lt
              have hmx4 := HFI.out.hm x
              obtain ⟨mx, hmx⟩ : ∃ z, mk x = z := ⟨_, rfl⟩
              have HMX := Lib.hid hmx
              rw [hmx] at hmb hmx4
              clear hmx
              have mnI : (mn : Int) < 2 := by have := HMN.out; omega
              have mn0 : (0 : Int) ≤ (mn : Int) := by omega
              cases hbit : mbit mk mn x
              · have hb0 : (bits .and .i64 ((mx : Int) / 2 ^ mn) 1 == 0) = true := sh_off (by rw [← HMX.out]; exact hbit)
                have HBIT := Lib.hid hbit
                clear hbit
                go_wp2_with fail
                go_roundw
                case rel =>
                  refine ⟨j + 1, g, mk, by have := HNT.out; omega, by simp, HB.out.less (by have := HC8.out; omega), HFI.out, HLI.out, fun y hy => ?_⟩
                  rw [List.take_add_one, HX.out] at hy
                  rcases List.mem_append.1 hy with hy | hy
                  · exact HUN.out y hy
                  · have e : y = x := by simpa using hy
                    rw [e]; exact HBIT.out
                case measure => simp [intOf]; omega
              · have hb0 : (bits .and .i64 ((mx : Int) / 2 ^ mn) 1 == 0) = false := sh_on (by rw [← HMX.out]; exact hbit)
                have HBIT := Lib.hid hbit
                clear hbit
                have C9 := bfirst (c := c8 + 7) HB.out HFI.out HTI.out HMN.out (kI := (mn : Int)) rfl
                rw [first_at HX.out HUN.out HBIT.out] at C9
                have exx : ((x : Int) != (x : Int)) = false := bne_self_eq_false _
                go_wp2_with fail
                refine C9.mono ?_; rintro e w8 ⟨rfl, hb8, O8⟩
                have HB8 := Lib.hid hb8
                have HL8 := Lib.hid (LI.onlyB HLI.out HB.out O8)
                clear C9 y0 y1 y2 y3 y4 y5 y6 y7 y8 y9 y10 y11 y12 y13 hlt hmb mlt hb8 O8 HB HLI l1 c1
                obtain ⟨y0, y1, y2, y3, y4, y5, y6, y7, y8, y9, y10, y11, y12, y13⟩ := HB8.out.pf.cells
                have hlt := HB8.out.pf.lt
                go_wp2_with fail
                refine (bmark (on := false) (c := c8) HB8.out HFI.out HXB.out.1 HXB.out.2 HMN.out rfl).mono ?_
                rintro e w9 ⟨g9, rfl, hb9, F9, O9⟩
                have HB9 := Lib.hid hb9
                have HL9 := Lib.hid (LI.onlyB HL8.out HB8.out O9)
                have HF9 := Lib.hid F9
                clear y0 y1 y2 y3 y4 y5 y6 y7 y8 y9 y10 y11 y12 y13 hlt hb9 O9 F9 HB8 HL8
                obtain ⟨y0, y1, y2, y3, y4, y5, y6, y7, y8, y9, y10, y11, y12, y13⟩ := HB9.out.pf.cells
                have hlt := HB9.out.pf.lt
                have hmb := HB9.out.fs.m.cell (k := x) HXB.out.2
                have mlt := HB9.out.fs.m.lt
                have hfm : w9.frozen? ⟨mb, x, none⟩ = false := by obtain ⟨zs, hz, _⟩ := HB9.out.fs.m; exact hz.frozen x
                rw [HMX.out] at hmb
                have hsh : wrap64 (2 ^ mn) = ((bt mn : Nat) : Int) := wrap_bt HMN.out
                have han : bits .andNot .i64 (mx : Int) ((bt mn : Nat) : Int) = (setB mx mn false : Int) := andNot_i64 hmx4 HMN.out
                go_upto_region 23 with fail
                go_region
                have HBM := Lib.hid ((HB9.out.mark (v := setB mx mn false) HXB.out.2).drew)
                have HLM := Lib.hid (LI.drew <| LI.only HL9.out (only_set w9 mb x (.int .i64 (setB mx mn false : Int))) HBKM.out HBKM.out)
                generalize (w9.setCell ⟨mb, x, none⟩ (.int .i64 (setB mx mn false : Int))).drew = W10 at HBM HLM ⊢
                clear y0 y1 y2 y3 y4 y5 y6 y7 y8 y9 y10 y11 y12 y13 hlt hmb mlt hfm hsh han HB9 HL9
                go_wp2_with fail
                go_roundw
                case rel =>
                  refine ⟨j + 1, g9, mkSet mk x mn false, by have := HNT.out; omega, by simp, ?_, HF9.out, HLM.out, fun y hy => ?_⟩
                  · have e : (fun y => if y = x then setB mx mn false else mk y) = mkSet mk x mn false := by rw [← HMX.out]; rfl
                    rw [← e]
                    exact HBM.out.less (by have := HC8.out; have := HNT.out; omega)
                  · by_cases e : y = x
                    · subst e
                      show decide (mkSet mk y mn false y / 2 ^ mn % 2 = 1) = false
                      rw [show mkSet mk y mn false y = setB (mk y) mn false from if_pos rfl]
                      exact setB_off (HFI.out.hm y) HMN.out
                    · show decide (mkSet mk x mn false y / 2 ^ mn % 2 = 1) = false
                      rw [show mkSet mk x mn false y = mk y from if_neg e]
                      rw [List.take_add_one, HX.out] at hy
                      rcases List.mem_append.1 hy with hy | hy
                      · exact HUN.out y hy
                      · exact absurd (by simpa using hy) e
                case measure => simp [intOf]; omega
            · have ej : j = nt := by omega
              subst ej
              have hjI : ¬ (j : Int) < (j : Int) := by omega
              have hF0 : firstR mk mn t.row = 0 := firstR_none mk mn (by
                rw [List.any_eq_false]
                intro y hy
                rw [HUN.out y (by rw [← HNT.out, List.take_length]; exact hy)]; simp)
              have C9 := bfirst (c := c0) (HB.out.less (c' := c0 + 4) (by omega)) HFI.out HTI.out HMN.out (kI := (mn : Int)) rfl
              rw [hF0] at C9
              obtain ⟨y0, y1, y2, y3, y4, y5, y6, y7, y8, y9, y10, y11, y12, y13⟩ := HB.out.pf.cells
              have hlt := HB.out.pf.lt
              clear hj hjn
              go_wp2_with fail
              refine C9.mono ?_; rintro e w8 ⟨rfl, hb8, O8⟩
              have HB8 := Lib.hid hb8
              clear C9 y0 y1 y2 y3 y4 y5 y6 y7 y8 y9 y10 y11 y12 y13 hlt hb8 O8
              go_wp2_with fail
              go_roundw
              case rel => exact ⟨r + 1, g, mk, by have := HVL.out; have := HN9.out; omega, by simp, HB8.out.less (by have := HC0.out; have := HTS.out; have := HVL.out; have := HN9.out; omega), HFI.out⟩
              case measure => simp [intOf]; omega
        · have er : r = N9 := by have := HVL.out; have := HN9.out; omega
          subst er
          have hrI : ¬ (r : Int) < (r : Int) := by omega
          clear hr hrn
          go_wp2_with fail
          refine (bis HB.out HFI.out).mono ?_; rintro e w10 ⟨rfl, hb10⟩
          have HB10 := Lib.hid hb10
          clear hb10
          go_wp2_with fail
          refine (awake_any _).mono ?_; rintro e w11 ⟨rfl, hb11⟩
          have HBE := Lib.hid (HB10.out.trans (hb11.mono HB10.out.size))
          go_wp2_with fail
          go_ret
          exact ⟨rfl, HBE.out⟩
end

end Go.Proofs.Ytgafnomfdnbblaa
