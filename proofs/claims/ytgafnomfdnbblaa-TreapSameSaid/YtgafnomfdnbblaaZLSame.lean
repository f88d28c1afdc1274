/- The law TreapSame: its walk. Printed by wip/tools/trqls.py. -/
import Derived.Test.YtgafnomfdnbblaaZK
namespace Go.Proofs.Ytgafnomfdnbblaa
open Go.RowKit

set_option maxRecDepth 1000000

/-- Between two calls of a case. -/
def LpRel (w0 : World) (zb : Nat) (vc : Array Value) (K : PK9) (pri : Nat → Nat) (ol : Nat) (i : Value) (W : World) : Prop :=
  ∃ k m g mk ts vr vs, k ≤ ol ∧ i = .int .i64 ((k : Nat) : Int) ∧ m ≤ 1000 + 1000 * k ∧ LW w0 W zb vc K m g mk ts vr vs ∧ ∀ x, 1 ≤ x → x ≤ nN K.V K.S → g x 5 = pri x
/-- Which marks have been made: of the nodes ahead of x all. -/
def mkA (mk : Nat → Nat) (x : Nat) (y : Nat) : Nat := if y ≠ 0 ∧ y < x then mk y else 0
/-- .. and of x those below b. -/
def mkB (mk : Nat → Nat) (x b : Nat) (y : Nat) : Nat := if y = x then (if x = 0 then 0 else mk x % 2 ^ b) else mkA mk x y
def SmRel (w0 : World) (zb : Nat) (vc : Array Value) (K : PK9) (mk : Nat → Nat) (vr2 : Value) (vs2 : List Value) (pri : Nat → Nat) (i : Value) (W : World) : Prop :=
  ∃ x g2, x ≤ K.n + 1 ∧ i = .int .i64 ((x : Nat) : Int) ∧ BW (17700 + 14 * (K.n + 1 - x)) w0 W zb vc K g2 (fun _ => 0) (sing K.n) vr2 vs2 ∧ FI K.V K.S g2 (mkA mk x) (sing K.n) ∧ ∀ y, 1 ≤ y → y ≤ K.n → g2 y 5 = pri y
def SbRel (w0 : World) (zb : Nat) (vc : Array Value) (K : PK9) (mk : Nat → Nat) (vr2 : Value) (vs2 : List Value) (pri : Nat → Nat) (c x : Nat) (i : Value) (W : World) : Prop :=
  ∃ b g2, b ≤ 2 ∧ i = .int .i64 ((b : Nat) : Int) ∧ BW (c + 7 * (2 - b)) w0 W zb vc K g2 (fun _ => 0) (sing K.n) vr2 vs2 ∧ FI K.V K.S g2 (mkB mk x b) (sing K.n) ∧ ∀ y, 1 ≤ y → y ≤ K.n → g2 y 5 = pri y
def SrRel (w0 : World) (zb : Nat) (vc : Array Value) (K : PK9) (mk : Nat → Nat) (vr2 : Value) (vs2 : List Value) (pri : Nat → Nat) (ts : List Tp) (i : Value) (W : World) : Prop :=
  ∃ r g2, r ≤ ts.length ∧ i = .int .i64 ((r : Nat) : Int) ∧ BW (441 * (40 - r)) w0 W zb vc K g2 (fun _ => 0) (sing K.n) vr2 vs2 ∧ FI K.V K.S g2 mk (ts.take r ++ ((ts.drop r).flatMap Tp.row).map sgl) ∧ ∀ y, 1 ≤ y → y ≤ K.n → g2 y 5 = pri y
def SiRel (w0 : World) (zb : Nat) (vc : Array Value) (K : PK9) (mk : Nat → Nat) (vr2 : Value) (vs2 : List Value) (pri : Nat → Nat) (c : Nat) (B : List Tp) (row : List Nat) (s i : Value) (W : World) : Prop :=
  ∃ j g2 u, j ≤ row.length ∧ i = .int .i64 ((j : Nat) : Int) ∧ s = .int .i64 ((Tp.root u : Nat) : Int) ∧ BW (c + 11 * (row.length - j)) w0 W zb vc K g2 (fun _ => 0) (sing K.n) vr2 vs2 ∧ FI K.V K.S g2 mk (B ++ (row.take (row.length - j)).map sgl ++ some1 u) ∧ Stands (vxN K.V) mk g2 u ∧ Hp (fun z => g2 z 5) u ∧ u.row = row.drop (row.length - j) ∧ ∀ y, 1 ≤ y → y ≤ K.n → g2 y 5 = pri y
theorem mkB_zero {mk : Nat → Nat} {x : Nat} (y : Nat) : mkB mk x 0 y = mkA mk x y := by
  unfold mkB mkA
  split
  · rename_i e; subst e
    rw [if_neg (show ¬ (y ≠ 0 ∧ y < y) by omega)]
    split
    · rfl
    · show mk y % 1 = 0; omega
  · rfl
theorem mkB_two {mk : Nat → Nat} (hm : ∀ x, mk x < 4) {x : Nat} (y : Nat) : mkB mk x 2 y = mkA mk (x + 1) y := by
  unfold mkB mkA
  split
  · rename_i e; subst e
    by_cases h : y = 0
    · rw [if_pos h, if_neg (by omega)]
    · rw [if_neg h, if_pos ⟨h, by omega⟩]
      have := hm y
      show mk y % 4 = mk y
      omega
  · rename_i e
    by_cases h : y ≠ 0 ∧ y < x
    · rw [if_pos h, if_pos ⟨h.1, by omega⟩]
    · rw [if_neg h, if_neg (by omega)]
theorem mkB_on {mk : Nat → Nat} (hm : ∀ x, mk x < 4) {x b : Nat} (hx : x ≠ 0) (hb : b < 2) (h : hasB (mk x) b = true) (y : Nat) : mkB mk x (b + 1) y = mkSet (mkB mk x b) x b true y := by
  unfold mkSet
  by_cases e : y = x
  · subst e
    rw [if_pos rfl]
    unfold mkB
    rw [if_pos rfl, if_pos rfl, if_neg hx, if_neg hx]
    exact (low_on (hm y) hb h).symm
  · rw [if_neg e]
    unfold mkB
    rw [if_neg e, if_neg e]
theorem mkB_off {mk : Nat → Nat} (hm : ∀ x, mk x < 4) {x b : Nat} (hb : b < 2) (h : x = 0 ∨ hasB (mk x) b = false) (y : Nat) : mkB mk x (b + 1) y = mkB mk x b y := by
  unfold mkB
  by_cases e : y = x
  · subst e
    rw [if_pos rfl, if_pos rfl]
    by_cases h0 : y = 0
    · rw [if_pos h0, if_pos h0]
    · rw [if_neg h0, if_neg h0]
      rcases h with h | h
      · exact absurd h h0
      · exact low_off (hm y) hb h
  · rw [if_neg e, if_neg e]
theorem FI.eqm {V S : Int} {g : Mg9} {mk mk' : Nat → Nat} {ts : List Tp} (h : FI V S g mk ts) (he : ∀ y, mk' y = mk y) : FI V S g mk' ts := by
  obtain rfl : mk' = mk := funext he
  exact h
/-- begun, of a second play. -/
theorem lbegun2 {w0 w : World} {zb : Nat} {vc : Array Value} {K : PK9} {m : Nat} {g : Mg9} {mk : Nat → Nat} {ts : List Tp} {vr : Value} {vs : List Value} {V S T : Int} {da : Option Addr} {dl dc : Nat} {vo : Value} {f : Nat → Nat} (h : LW w0 w zb vc K m g mk ts vr vs) (hR : Rt V S T) (hD : IsNum w da dl f) (hdl : dl ≤ 60) (hn : nN V S ≤ 40) :
    Calls Try.prog 10 #[.agg #[.int .i64 V, .int .i64 S, .int .i64 T, .slice da dl dc, vo]] w fun e w' => ∃ q p gb cap pb mb vb cp cm cv base g vr vs, e = .returned (.pointer (some ⟨q, 0, none⟩)) ∧
      BW 19000 w w' zb vc ⟨V, S, T, q, p, gb, cap, pb, mb, vb, cp, cm, cv, base⟩ g (fun _ => 0) (sing (nN V S)) vr vs ∧ FI V S g (fun _ => 0) (sing (nN V S)) ∧ (∀ x, 1 ≤ x → x ≤ nN V S → g x 5 = priF dl f x) := by
  refine (begun_any hR hD hdl).mono ?_
  rintro e w' ⟨q, p, gb, cap, pb, mb, vb, cp, cm, cv, g, vr, vs, rfl, hK, hP, hF, hb, hpri⟩
  exact ⟨q, p, gb, cap, pb, mb, vb, cp, cm, cv, w.heap.size, g, vr, vs, rfl, ⟨hn, h.z.below hb h.z.lt, ⟨_, by omega, hP⟩, hb, Nat.le_refl _, h.z.lt, hK⟩, hF, hpri⟩
theorem bmark {c : Nat} {w w0 : World} {zb : Nat} {vc : Array Value} {V S T : Int} {q p gb cap pb mb vb cp cm cv base x k : Nat} {g : Mg9} {mk mk2 : Nat → Nat} {ts ts2 : List Tp} {vr : Value} {vs : List Value} {on : Bool} (h : BW (c + 7) w0 w zb vc ⟨V, S, T, q, p, gb, cap, pb, mb, vb, cp, cm, cv, base⟩ g mk ts vr vs) (hF : FI V S g mk2 ts2) (h1 : x ≠ 0) (h2 : x ≤ nN V S) (hk : k < 2) {kI : Int} (hkI : kI = (k : Int)) :
    Calls Try.prog 25 #[vTr V S T p, .int .i64 (x : Int), .int .i64 kI, .bool on] w fun e w' => ∃ g', e = .returned (.tuple #[]) ∧ BW c w0 w' zb vc ⟨V, S, T, q, p, gb, cap, pb, mb, vb, cp, cm, cv, base⟩ g' mk ts vr vs ∧ FI V S g' (mkSet mk2 x k on) ts2 ∧ Only p gb w w' ∧ ∀ y, g' y 5 = g y 5 := by
  obtain ⟨m, hm, A⟩ := h.tt
  have hn := h.nn
  refine (fmark A hF (on := on) h1 h2 hk (by omega) rfl hkI).mono ?_
  rintro e w' ⟨g', rfl, A', h5, F', O⟩
  exact ⟨g', rfl, h.only A' (by omega) O h5, F', O, h5⟩
theorem sh_and (mx u : Nat) : bits .and .i64 ((mx : Int) / 2 ^ u) 1 = ((mx / 2 ^ u % 2 : Nat) : Int) := by
  rw [and1_i64]
  have h : (mx : Int) / 2 ^ u = ((mx / 2 ^ u : Nat) : Int) := by rw [Int.natCast_ediv, Int.natCast_pow]; rfl
  rw [h]; rfl
theorem sh_is (mx u : Nat) : (bits .and .i64 ((mx : Int) / 2 ^ u) 1 == 1) = hasB mx u := by
  rw [sh_and]
  unfold hasB
  by_cases h : mx / 2 ^ u % 2 = 1
  · rw [h, decide_eq_true rfl]; rfl
  · rw [show mx / 2 ^ u % 2 = 0 by omega, decide_eq_false (by omega)]; rfl
theorem drop_at {α : Type} : ∀ {l : List α} {k : Nat} {x : α}, l[k]? = some x → l.drop k = x :: l.drop (k + 1)
  | [], k, x, h => by simp at h
  | y :: l, 0, x, h => by
    have e : y = x := by simpa using h
    subst e; rfl
  | y :: l, k + 1, x, h => drop_at (l := l) (k := k) (by simpa using h)
theorem PU.onlyB {c : Nat} {w w' w0 : World} {zb : Nat} {vc : Array Value} {V S T : Int} {q p gb cap pb mb vb cp cm cv base n : Nat} {g : Mg9} {mk : Nat → Nat} {ts : List Tp} {vr v : Value} {vs : List Value} {row : List Nat} (h : PU w q V S T p n pb cp mb cm vb cv vr v row) (hB : BW c w0 w zb vc ⟨V, S, T, q, p, gb, cap, pb, mb, vb, cp, cm, cv, base⟩ g mk ts vr vs) (ho : Only p gb w w') : PU w' q V S T p n pb cp mb cm vb cv vr v row := by
  obtain ⟨m, _, A⟩ := hB.tt
  exact h.only A ho
theorem bjoin {c : Nat} {w w0 : World} {zb : Nat} {vc : Array Value} {V S T : Int} {q p gb cap pb mb vb cp cm cv base x : Nat} {g : Mg9} {mk mk2 : Nat → Nat} {ts B : List Tp} {u : Tp} {vr : Value} {vs : List Value} (h : BW (c + 11) w0 w zb vc ⟨V, S, T, q, p, gb, cap, pb, mb, vb, cp, cm, cv, base⟩ g mk ts vr vs) (hF : FI V S g mk2 (B ++ (sgl x :: some1 u))) (hu : Stands (vxN V) mk2 g u) (hhu : Hp (fun z => g z 5) u) :
    Calls Try.prog 24 #[vTr V S T p, .int .i64 (x : Int), .int .i64 (u.root : Int)] w fun e w' => ∃ g' t, e = .returned (.int .i64 ((Tp.root t : Nat) : Int)) ∧ BW c w0 w' zb vc ⟨V, S, T, q, p, gb, cap, pb, mb, vb, cp, cm, cv, base⟩ g' mk ts vr vs ∧ FI V S g' mk2 (B ++ some1 t) ∧ t.row = x :: u.row ∧ Stands (vxN V) mk2 g' t ∧ Hp (fun z => g' z 5) t ∧ Only p gb w w' ∧ ∀ y, g' y 5 = g y 5 := by
  obtain ⟨m, hm, A⟩ := h.tt
  have hn := h.nn
  refine (fjoin A hF hu hhu (by omega)).mono ?_
  rintro e w' ⟨g', t, rfl, A', F', hr, hs, hh, O, h5⟩
  exact ⟨g', t, rfl, h.only A' (by omega) O h5, F', hr, hs, hh, O, h5⟩
section
variable {V S T : Int} {da oa : Option Addr} {dl dc ol oc : Nat} {f : Nat → Nat} {fo : Nat → Op5}
set_option maxHeartbeats 16000000 in
theorem lsame (w : World) (hD : IsNum w da dl f) (hO : IsOp5 w oa ol fo) :
    Calls Try.prog 6 #[vC9 V S T da dl dc oa ol oc] w fun e w' => e = .returned (.bool true) ∧ Below w.heap.size w w' := by
  have HD := Lib.hid hD
  have HO := Lib.hid hO
  clear hD hO
  have HB1 : Hid (Below w.heap.size w (w.alloc (.cells #[.int .i64 V, .int .i64 S, .int .i64 T, .slice da dl dc, .slice oa ol oc] 27))) := Lib.hid ((Below.refl _ _).alloc (Nat.le_refl _) _)
  have HZ1 : Hid (Blk (w.alloc (.cells #[.int .i64 V, .int .i64 S, .int .i64 T, .slice da dl dc, .slice oa ol oc] 27)) w.heap.size 27 #[.int .i64 V, .int .i64 S, .int .i64 T, .slice da dl dc, .slice oa ol oc]) := Lib.hid (Blk.new _ _ _)
  go_enter Try.func6, Try.ntmps6
  go_wp2_with fail
  generalize w.heap.size = zb at HZ1 ⊢
  generalize w.alloc (.cells #[.int .i64 V, .int .i64 S, .int .i64 T, .slice da dl dc, .slice oa ol oc] 27) = W1 at HZ1 HB1 ⊢
  refine (right_case V S T da dl dc oa ol oc _).mono ?_; rintro e w2 ⟨rfl, hb2⟩
  have HB2 := Lib.hid (HB1.out.trans (hb2.mono HB1.out.size))
  have HZ2 := Lib.hid (HZ1.out.below hb2 HZ1.out.lt)
  clear HB1 HZ1 hb2
  cases hr : rgt9 V S T dl ol
  · go_wp2_with fail
    refine (awake_any _).mono ?_; rintro e w3 ⟨rfl, hb3⟩
    have HB3 := Lib.hid (HB2.out.trans (hb3.mono HB2.out.size))
    go_wp2_with fail
    go_ret
    exact ⟨rfl, HB3.out⟩
  have HG := Lib.hid (rgt9_yes hr)
  clear hr
  have z0 := HZ2.out.cell 0
  have z1 := HZ2.out.cell 1
  have z2 := HZ2.out.cell 2
  have z3 := HZ2.out.cell 3
  have z4 := HZ2.out.cell 4
  have zlt := HZ2.out.lt
  go_wp2_with fail
  refine (lbegun HG.out.r (HD.out.below HB2.out) HG.out.d HZ2.out HB2.out).mono ?_
  rintro e w3 ⟨q, p, gb, cap, pb, mb, vb, cp, cm, cv, base, g0, vr0, vs0, rfl, hL, hpri, _, _⟩
  have HL := Lib.hid hL
  have HP := Lib.hid hpri
  have HN := Lib.hid HG.out.few
  have HOL := Lib.hid HG.out.o
  have holI : (ol : Int) ≤ 60 := by have := HG.out.o; omega
  have HM : Hid (10 * nN V S ≤ 400) := Lib.hid (by have := HN.out; omega)
  clear hL hpri z0 z1 z2 z3 z4 zlt HZ2 HB2
  have HRel : Hid (LpRel w zb #[.int .i64 V, .int .i64 S, .int .i64 T, .slice da dl dc, .slice oa ol oc] ⟨V, S, T, q, p, gb, cap, pb, mb, vb, cp, cm, cv, base⟩ (priF dl f) ol (.int .i64 0) w3) := Lib.hid ⟨0, _, _, _, _, _, _, Nat.zero_le _, rfl, by have := HN.out; omega, HL.out, HP.out⟩
  have z4 := HL.out.z.cell 4
  have zlt := HL.out.z.lt
  clear HL HP HM
  go_wp2_with fail
  go_loopw [25] (fun i wr => LpRel w zb #[.int .i64 V, .int .i64 S, .int .i64 T, .slice da dl dc, .slice oa ol oc] ⟨V, S, T, q, p, gb, cap, pb, mb, vb, cp, cm, cv, base⟩ (priF dl f) ol i wr) (fun i _ => ol - (intOf i).toNat)
  case atStart => exact HRel.out
  case round =>
    clear HRel z4 zlt
    obtain ⟨k, m, g, mk, ts, vr, vs, hk, rfl, hm, hL, hpri⟩ := hrel
    have HL := Lib.hid hL
    have HP := Lib.hid hpri
    have HMK := Lib.hid hm
    clear hL hpri
    by_cases hkl : k < ol
    · obtain ⟨ob, off, rfl, hcell⟩ := HO.out (by omega)
      have hc := hcell k hkl
      obtain ⟨o, ho⟩ : ∃ o, fo k = o := ⟨_, rfl⟩
      rw [ho] at hc
      obtain ⟨kd, oa1, ob1, ok1, on⟩ := o
      have c0 := cell_later HL.out.be hc.1
      have c1 := cell_later HL.out.be hc.2.1
      have c2 := cell_later HL.out.be hc.2.2.1
      have c3 := cell_later HL.out.be hc.2.2.2.1
      have c4 := cell_later HL.out.be hc.2.2.2.2.1
      have HF := Lib.hid hc.2.2.2.2.2
      have hkI : (k : Int) < (ol : Int) := by omega
      have hk0 : (0 : Int) ≤ (k : Int) := by omega
      have HM1 : Hid (m ≤ 900000) := Lib.hid (by have := HOL.out; omega)
      have HLa := Lib.hid (HL.out.below ((Below.refl _ _).alloc (Nat.le_refl _) (.cells #[.int .i64 kd, .int .i64 oa1, .int .i64 ob1, .int .i64 ok1, .bool on] 33)))
      clear hc ho hcell HL hm
      go_wp2_with fail
      refine (lstep HLa.out HF.out.1 HF.out.2.1 HF.out.2.2 (Nat.le_trans HM1.out (by omega))).mono ?_
      rintro e w5 ⟨rfl, g', mk', ts', vr', vs', hL5, _, h5⟩
      have HL5 := Lib.hid hL5
      have H5 := Lib.hid h5
      clear hL5 h5 HLa c0 c1 c2 c3 c4
      have HL6 := HL5
      go_wp2_with fail
      go_roundw
      case rel => exact ⟨k + 1, _, g', mk', ts', vr', vs', hkl, by simp, by have := HMK.out; have := HN.out; omega, HL6.out, fun x h1 h2 => (H5.out x).trans (HP.out x h1 h2)⟩
      case measure => simp [intOf]; omega
    · have ek : k = ol := by omega
      subst ek
      have hkI : ¬ (k : Int) < (k : Int) := by omega
      have HM1 : Hid (m ≤ 100000) := Lib.hid (by have := HOL.out; omega)
      clear hk hkl
      have z0 := HL.out.z.cell 0
      have z1 := HL.out.z.cell 1
      have z2 := HL.out.z.cell 2
      have z3 := HL.out.z.cell 3
      have zlt := HL.out.z.lt
      have HFP := Lib.hid HL.out.ff
      go_wp2_with fail
      refine (lbegun2 HL.out HG.out.r (HD.out.below HL.out.be) HG.out.d HN.out).mono ?_
      rintro e w4 ⟨q2, p2, gb2, cap2, pb2, mb2, vb2, cp2, cm2, cv2, base2, g2, vr2, vs2, rfl, hB2, hF2, hp2⟩
      have HB2 := Lib.hid hB2
      have HF2 := Lib.hid hF2
      have HP2 := Lib.hid hp2
      clear hB2 hF2 hp2 z0 z1 z2 z3 zlt
      obtain ⟨wp, hwp⟩ : ∃ wp : World, wr = wp := ⟨_, rfl⟩
      rw [hwp] at HL HB2
      have HPF : Hid (PF w4 q V S T p (nN V S) pb cp mb cm vb cv vr) := Lib.hid (HL.out.pf.below HB2.out.be)
      have y12 : w4.cell? ⟨q, 12, none⟩ = some (.slice (some ⟨mb, 0, none⟩) (nN V S + 1) cm) := HPF.out.cell 12
      have hlt := HPF.out.lt
      obtain ⟨n9, hn9⟩ : ∃ n, nN V S = n := ⟨_, rfl⟩
      have HN9 := Lib.hid hn9
      rw [hn9] at y12
      have nI : (n9 : Int) ≤ 40 := by have := HN.out; omega
      clear hn9
      go_wp2_with fail
      have HRel : Hid (SmRel wp zb #[.int .i64 V, .int .i64 S, .int .i64 T, .slice da dl dc, .slice oa k oc] ⟨V, S, T, q2, p2, gb2, cap2, pb2, mb2, vb2, cp2, cm2, cv2, base2⟩ mk vr2 vs2 (priF dl f) (.int .i64 0) w4) := Lib.hid ⟨0, g2, Nat.zero_le _, rfl, HB2.out.less (by have := HN.out; show 17700 + 14 * (nN V S + 1 - 0) ≤ 19000; omega), HF2.out.eqm (fun y => by unfold mkA; rw [if_neg (by omega)]), HP2.out⟩
      clear HB2 HF2 HP2 HPF y12 hlt
      go_loopw [48] (fun i wr => SmRel wp zb #[.int .i64 V, .int .i64 S, .int .i64 T, .slice da dl dc, .slice oa k oc] ⟨V, S, T, q2, p2, gb2, cap2, pb2, mb2, vb2, cp2, cm2, cv2, base2⟩ mk vr2 vs2 (priF dl f) i wr) (fun i _ => n9 + 1 - (intOf i).toNat)
      case atStart => exact HRel.out
      case round =>
        clear HRel
        obtain ⟨x, g2, hx, rfl, hB, hF, hp⟩ := hrel
        have HB := Lib.hid hB
        have HF2 : Hid (FI V S g2 (mkA mk x) (sing (nN V S))) := Lib.hid hF
        have HP2 := Lib.hid hp
        replace hx : x ≤ n9 + 1 := by have h : x ≤ nN V S + 1 := hx; have := HN9.out; omega
        clear hB hF hp
        by_cases hxn : x < n9 + 1
        · have hxI : (x : Int) < (n9 : Int) + 1 := by omega
          have hx0 : (0 : Int) ≤ (x : Int) := by omega
          have HPL := Lib.hid (HL.out.pl.below HB.out.be)
          have hmb : wr.cell? ⟨mb, x, none⟩ = some (.int .i64 (mk x : Int)) := HPL.out.fs.m.cell (k := x) (by have := HN9.out; show x ≤ nN V S; omega)
          have mlt : mb < wr.heap.size := HPL.out.fs.m.lt
          have HM4 := Lib.hid (HFP.out.hm)
          obtain ⟨mx, hmx⟩ : ∃ z, mk x = z := ⟨_, rfl⟩
          have HMX := Lib.hid hmx
          rw [hmx] at hmb
          clear hmx
          obtain ⟨c0, hc0⟩ : ∃ c, 17700 + 14 * (nN V S + 1 - x) = c + 14 := ⟨17700 + 14 * (nN V S + 1 - (x + 1)), by have := HN9.out; omega⟩
          have HC0 := Lib.hid hc0
          have HRel2 : Hid (SbRel wp zb #[.int .i64 V, .int .i64 S, .int .i64 T, .slice da dl dc, .slice oa k oc] ⟨V, S, T, q2, p2, gb2, cap2, pb2, mb2, vb2, cp2, cm2, cv2, base2⟩ mk vr2 vs2 (priF dl f) c0 x (.int .i64 0) wr) := Lib.hid ⟨0, g2, Nat.zero_le _, rfl, HB.out.less (by show c0 + 14 ≤ 17700 + 14 * (nN V S + 1 - x); omega), HF2.out.eqm mkB_zero, HP2.out⟩
          clear HB HF2 HP2 HPL hc0
          go_wp2_with fail
          obtain ⟨wo1, hwo1⟩ : ∃ wo1 : World, wo1 = wr := ⟨_, rfl⟩
          clear hmb mlt
          go_loopw [53] (fun i wr => SbRel wp zb #[.int .i64 V, .int .i64 S, .int .i64 T, .slice da dl dc, .slice oa k oc] ⟨V, S, T, q2, p2, gb2, cap2, pb2, mb2, vb2, cp2, cm2, cv2, base2⟩ mk vr2 vs2 (priF dl f) c0 x i wr) (fun i _ => 2 - (intOf i).toNat)
          case atStart => exact HRel2.out
          case round =>
            clear HRel2
            obtain ⟨b, g2, hb2, rfl, hB, hF, hp⟩ := hrel
            have HB := Lib.hid hB
            have HF2 : Hid (FI V S g2 (mkB mk x b) (sing (nN V S))) := Lib.hid hF
            have HP2 := Lib.hid hp
            clear hB hF hp
            by_cases hbn : b < 2
            · have hbI : (b : Int) < 2 := by omega
              have hb0 : (0 : Int) ≤ (b : Int) := by omega
              by_cases ex : x = 0
              · have exI : ¬ (0 : Int) < (x : Int) := by omega
                have HEX := Lib.hid ex
                clear ex
                go_wp2_with fail
                go_roundw
                case rel => exact ⟨b + 1, g2, hbn, by simp, HB.out.less (by omega), HF2.out.eqm (mkB_off HM4.out hbn (.inl HEX.out)), HP2.out⟩
                case measure => simp [intOf]; omega
              · have exI : (0 : Int) < (x : Int) := by omega
                have HEX := Lib.hid ex
                clear ex
                have hbe : (bits .and .i64 ((mx : Int) / 2 ^ b) 1 == 1) = hasB mx b := sh_is mx b
                cases hhb : hasB mx b with
                | false =>
                  rw [hhb] at hbe
                  have HHB := Lib.hid hhb
                  clear hhb
                  go_wp2_with fail
                  go_roundw
                  case rel => exact ⟨b + 1, g2, hbn, by simp, HB.out.less (by omega), HF2.out.eqm (mkB_off HM4.out hbn (.inr (by rw [HMX.out]; exact HHB.out))), HP2.out⟩
                  case measure => simp [intOf]; omega
                | true =>
                  rw [hhb] at hbe
                  have HHB := Lib.hid hhb
                  clear hhb
                  obtain ⟨y0, y1, y2, y3, y4, y5, y6, y7, y8, y9, y10, y11, y12, y13⟩ := HB.out.pf.cells
                  have hlt := HB.out.pf.lt
                  have C9 := bmark (on := true) (c := c0 + 7 * (1 - b)) (x := x) (k := b) (by have h := HB.out; rw [show c0 + 7 * (2 - b) = c0 + 7 * (1 - b) + 7 by omega] at h; exact h) HF2.out HEX.out (by have := HN9.out; omega) hbn rfl
                  go_wp2_with fail
                  refine C9.mono ?_; rintro e w9 ⟨g9, rfl, hb9, F9, O9, h59⟩
                  clear C9 y0 y1 y2 y3 y4 y5 y6 y7 y8 y9 y10 y11 y12 y13 hlt
                  have HB9 := Lib.hid hb9
                  have HF9 := Lib.hid F9
                  have H59 := Lib.hid h59
                  clear hb9 F9 O9 h59
                  go_wp2_with fail
                  go_roundw
                  case rel => exact ⟨b + 1, g9, hbn, by simp, HB9.out.less (by omega), HF9.out.eqm (mkB_on HM4.out HEX.out hbn (by rw [HMX.out]; exact HHB.out)), fun y h1 h2 => (H59.out y).trans (HP2.out y h1 h2)⟩
                  case measure => simp [intOf]; omega
            · have eb : b = 2 := by omega
              subst eb
              rw [show ((2 : Nat) : Int) = 2 from rfl]
              clear hb2 hbn
              go_wp2_with fail
              go_roundw
              case rel => exact ⟨x + 1, g2, by have := HN9.out; show x + 1 ≤ nN V S + 1; omega, by simp, HB.out.less (by have := HC0.out; have := HN9.out; show 17700 + 14 * (nN V S + 1 - (x + 1)) ≤ c0 + 7 * (2 - 2); omega), HF2.out.eqm (fun y => (mkB_two HM4.out y).symm), HP2.out⟩
              case measure => simp [intOf]; omega
        · have ex : x = n9 + 1 := by omega
          subst ex
          have hxI : ¬ ((n9 : Int) + 1) < (n9 : Int) + 1 := by omega
          have HFM : Hid (FI V S g2 mk ((ts.take 0) ++ ((ts.drop 0).flatMap Tp.row).map sgl)) := Lib.hid (by
            have h1 := (HF2.out.marks (mk' := mk) (fun y h1 h2 => by unfold mkA; rw [if_pos ⟨h1, by have := HN9.out; omega⟩]) HFP.out.hm).perm (sing_perm HFP.out)
            simpa using h1)
          obtain ⟨av, ac, rfl⟩ := HL.out.pl.rv.slice
          have HVL : Hid (vs.length = ts.length) := Lib.hid HL.out.pl.ro.1
          have HTS : Hid (ts.length ≤ 40) := Lib.hid (by have h9 : ts.length ≤ nN V S := HFP.out.len; have := HN.out; omega)
          obtain ⟨N9, hN9⟩ : ∃ N, vs.length = N := ⟨_, rfl⟩
          have HNV := Lib.hid hN9
          have n9I : (N9 : Int) ≤ 40 := by have := HVL.out; have := HTS.out; omega
          rw [hN9] at HL
          clear hN9
          have HPF : Hid (PF wr q V S T p (nN V S) pb cp mb cm vb cv (.slice av N9 ac)) := Lib.hid (HL.out.pf.below HB.out.be)
          have y10 : wr.cell? ⟨q, 10, none⟩ = some (.slice av N9 ac) := HPF.out.cell 10
          have hlt := HPF.out.lt
          have HRel3 : Hid (SrRel wp zb #[.int .i64 V, .int .i64 S, .int .i64 T, .slice da dl dc, .slice oa k oc] ⟨V, S, T, q2, p2, gb2, cap2, pb2, mb2, vb2, cp2, cm2, cv2, base2⟩ mk vr2 vs2 (priF dl f) ts (.int .i64 0) wr) := Lib.hid ⟨0, g2, Nat.zero_le _, rfl, HB.out.less (by have := HN9.out; show 441 * (40 - 0) ≤ 17700 + 14 * (nN V S + 1 - (n9 + 1)); omega), HFM.out, HP2.out⟩
          clear hx hxn HB HF2 HP2 HFM HPF
          go_wp2_with fail
          clear y10 hlt
          obtain ⟨wo1, hwo1⟩ : ∃ wo1 : World, wo1 = wr := ⟨_, rfl⟩
          go_loopw [80] (fun i wr => SrRel wp zb #[.int .i64 V, .int .i64 S, .int .i64 T, .slice da dl dc, .slice oa k oc] ⟨V, S, T, q2, p2, gb2, cap2, pb2, mb2, vb2, cp2, cm2, cv2, base2⟩ mk vr2 vs2 (priF dl f) ts i wr) (fun i _ => N9 - (intOf i).toNat)
          case atStart => exact HRel3.out
          case round =>
            clear HRel3
            obtain ⟨r, g2, hr, rfl, hB, hF, hp⟩ := hrel
            have HB := Lib.hid hB
            have HF2 : Hid (FI V S g2 mk (ts.take r ++ ((ts.drop r).flatMap Tp.row).map sgl)) := Lib.hid hF
            have HP2 : Hid (∀ y, 1 ≤ y → y ≤ nN V S → g2 y 5 = priF dl f y) := Lib.hid hp
            clear hB hF hp
            by_cases hrn : r < N9
            · have HPL := Lib.hid (HL.out.pl.below HB.out.be)
              obtain ⟨v, t, hv, ht, hli, hvm, a1, a2, rfl⟩ := HPL.out.ro.get (i := r) (by have := HNV.out; have := HVL.out; omega)
              obtain ⟨rg, rc9, e9, hrg, hrlt, cs, hz, hcs⟩ := RowV.at HPL.out.rv hv
              injection e9 with e91 e92 e93
              subst e91
              have crow := (hz.cell r).trans (hcs r _ hv)
              have HV := Lib.hid hv
              have HTI := Lib.hid ht
              have HT := Lib.hid (HFP.out.at ht)
              have hr0 : (0 : Int) ≤ (r : Int) := by omega
              have hr1 : (r : Int) < (N9 : Int) := by omega
              obtain ⟨nt, hnt⟩ : ∃ n, t.row.length = n := ⟨_, rfl⟩
              have HNT := Lib.hid hnt
              have ntI : (nt : Int) ≤ 40 := by have h1 := HT.out.2.2.2.2.2; have := HN.out; unfold Tp.size at h1; omega
              rw [hnt] at crow HV
              obtain ⟨c0, hc0⟩ : ∃ c, 441 * (40 - r) = c + 441 := ⟨441 * (40 - (r + 1)), by have := HTS.out; have := HVL.out; have := HNV.out; omega⟩
              have HC0 := Lib.hid hc0
              obtain ⟨B9, hB9⟩ : ∃ B, ts.take r ++ ((ts.drop (r + 1)).flatMap Tp.row).map sgl = B := ⟨_, rfl⟩
              have HBB := Lib.hid hB9
              have HD9 : Hid (ts.drop r = t :: ts.drop (r + 1)) := Lib.hid (drop_at ht)
              have HFJ : Hid (FI V S g2 mk (B9 ++ (t.row.take (t.row.length - 0)).map sgl ++ some1 .nil)) := Lib.hid (by
                have h1 := HF2.out
                rw [HD9.out, List.flatMap_cons, List.map_append] at h1
                rw [← hB9, Nat.sub_zero, List.take_length]
                refine h1.perm ?_
                show (ts.take r ++ (t.row.map sgl ++ ((ts.drop (r + 1)).flatMap Tp.row).map sgl)).Perm ((ts.take r ++ ((ts.drop (r + 1)).flatMap Tp.row).map sgl) ++ t.row.map sgl ++ [])
                rw [List.append_nil, List.append_assoc]
                exact List.Perm.append_left _ List.perm_append_comm)
              have HRel4 : Hid (SiRel wp zb #[.int .i64 V, .int .i64 S, .int .i64 T, .slice da dl dc, .slice oa k oc] ⟨V, S, T, q2, p2, gb2, cap2, pb2, mb2, vb2, cp2, cm2, cv2, base2⟩ mk vr2 vs2 (priF dl f) c0 B9 t.row (.int .i64 0) (.int .i64 0) wr) := Lib.hid
                ⟨0, g2, .nil, Nat.zero_le _, rfl, rfl, HB.out.less (by have := HNT.out; omega), HFJ.out, ⟨trivial, fun h => absurd rfl h⟩, trivial, by rw [Nat.sub_zero, List.drop_length]; rfl, HP2.out⟩
              clear hv ht hli hvm hz hcs hrg e92 e93 hnt hc0 hr hB9 HFJ HF2 HP2 HPL
              go_wp2_with fail
              clear crow hrlt HB
              obtain ⟨wo2, hwo2⟩ : ∃ wo2 : World, wo2 = wr := ⟨_, rfl⟩
              go_loopw [12, 86] (fun s i wr => SiRel wp zb #[.int .i64 V, .int .i64 S, .int .i64 T, .slice da dl dc, .slice oa k oc] ⟨V, S, T, q2, p2, gb2, cap2, pb2, mb2, vb2, cp2, cm2, cv2, base2⟩ mk vr2 vs2 (priF dl f) c0 B9 t.row s i wr) (fun _ i _ => nt - (intOf i).toNat)
              case atStart => exact HRel4.out
              case round =>
                clear HRel4
                obtain ⟨j, g2, u, hj, rfl, rfl, hB, hF, hst, hhp, hur, hp⟩ := hrel
                have HB := Lib.hid hB
                have HF2 : Hid (FI V S g2 mk (B9 ++ (t.row.take (t.row.length - j)).map sgl ++ some1 u)) := Lib.hid hF
                have HP2 : Hid (∀ y, 1 ≤ y → y ≤ nN V S → g2 y 5 = priF dl f y) := Lib.hid hp
                have HST : Hid (Stands (vxN V) mk g2 u) := Lib.hid hst
                have HHP := Lib.hid hhp
                have HUR := Lib.hid hur
                rw [HNT.out] at hj
                clear hB hF hst hhp hur hp
                by_cases hjn : j < nt
                · obtain ⟨kx, hkx⟩ : ∃ kx, nt - (j + 1) = kx := ⟨_, rfl⟩
                  have HKX := Lib.hid hkx
                  obtain ⟨x, hxx⟩ : ∃ x, t.row[kx]? = some x := ⟨_, List.getElem?_eq_getElem (by have := HNT.out; omega)⟩
                  have HX := Lib.hid hxx
                  have HPL := Lib.hid (HL.out.pl.below HB.out.be)
                  have hli := (HPL.out.ro.2 r _ t HV.out HTI.out).1
                  obtain ⟨b1, o1, e1, c1⟩ := hli.at hxx
                  subst e1
                  have HLI := Lib.hid hli
                  have kxI : (kx : Int) < (nt : Int) := by omega
                  have kx0 : (0 : Int) ≤ (kx : Int) := by omega
                  have hsub : (nt : Int) - 1 - (j : Int) = (kx : Int) := by omega
                  have hwn : IntKind.i64.wrap ((nt : Int) - 1) = (nt : Int) - 1 := IntWalk.i64_in _ (by omega)
                  have hwk : IntKind.i64.wrap (kx : Int) = (kx : Int) := IntWalk.i64_in _ (by omega)
                  have HFJ : Hid (FI V S g2 mk ((B9 ++ (t.row.take kx).map sgl) ++ (sgl x :: some1 u))) := Lib.hid (by
                    have h1 := HF2.out
                    rw [HNT.out, show nt - j = kx + 1 by omega, List.take_add_one, hxx] at h1
                    simpa using h1)
                  clear hkx hxx hli c1 HPL HF2
                  have C9 := bjoin (c := c0 + 11 * (nt - (j + 1))) (by have h := HB.out; rw [HNT.out, show c0 + 11 * (nt - j) = c0 + 11 * (nt - (j + 1)) + 11 by omega] at h; exact h.drew) HFJ.out HST.out HHP.out
                  have HPU : Hid (PU wr q2 V S T p2 (nN V S) pb2 cp2 mb2 cm2 vb2 cv2 vr2 (.slice (some ⟨b1, o1, none⟩) nt a2) t.row) := Lib.hid ⟨HB.out.pf, HLI.out⟩
                  go_upto_region 32 with fail
                  have HPd := Lib.hid HPU.out.drew
                  have hpu := pu_rule q2 V S T p2 (nN V S) pb2 cp2 mb2 cm2 vb2 cv2 vr2 b1 o1 nt a2 t.row HX.out
                  clear HPU HLI
                  obtain ⟨y4, y5, y6, y7, y8, y9, yr⟩ := hpu _ HPd.out
                  have hlt := HPd.out.pf.lt
                  go_region_held3 (fun W => PU W q2 V S T p2 (nN V S) pb2 cp2 mb2 cm2 vb2 cv2 vr2 (.slice (some ⟨b1, o1, none⟩) nt a2) t.row) (first | (with_reducible assumption) | (with_reducible exact HPx.out) | (with_reducible exact HPd.out))
                    (first
                      | (go_at_call 24; ((with_reducible refine C9.mono ?_); rintro e w9 ⟨g9, t9, rfl, hB9', F9, hr9, hs9, hh9, O9, h59⟩; have HPx := Lib.hid (PU.onlyB HPd.out HB.out.drew O9); have HB9 := Lib.hid hB9'))
                      | fail)
                  have HF9 := Lib.hid F9
                  have HR9 := Lib.hid hr9
                  have HS9 := Lib.hid hs9
                  have HH9 := Lib.hid hh9
                  have H59 := Lib.hid h59
                  clear C9 hB9' F9 hr9 hs9 hh9 O9 h59 y4 y5 y6 y7 y8 y9 yr hlt HPd hpu HB
                  go_wp2_with fail
                  go_roundw
                  case rel =>
                    refine ⟨j + 1, g9, t9, by have := HNT.out; omega, by simp, rfl, ?_, ?_, HS9.out, HH9.out, ?_, fun y h1 h2 => (H59.out y).trans (HP2.out y h1 h2)⟩
                    · rw [HNT.out]; exact HB9.out
                    · rw [HNT.out, HKX.out]; exact HF9.out
                    · rw [HR9.out, HUR.out, HNT.out, HKX.out, drop_at HX.out, show nt - j = kx + 1 by have := HKX.out; omega]
                  case measure => simp [intOf]; omega
                · have ej : j = nt := by omega
                  subst ej
                  have hjI : ¬ (j : Int) < (j : Int) := by omega
                  have eu : u = t := by
                    have hrow : u.row = t.row := by rw [HUR.out, HNT.out, Nat.sub_self]; rfl
                    refine hp_one HHP.out (HT.out.2.1.pri fun y hy => ?_) hrow (by rw [hrow]; exact HT.out.2.2.2.1)
                    have hb := HT.out.2.2.2.2.1 y hy
                    exact (HP2.out y (by omega) hb.2).trans (HP.out y (by omega) hb.2).symm
                  subst eu
                  have HFE : Hid (FI V S g2 mk (ts.take (r + 1) ++ ((ts.drop (r + 1)).flatMap Tp.row).map sgl)) := Lib.hid (by
                    have h1 := HF2.out
                    rw [HNT.out, Nat.sub_self, List.take_zero, some1_is HT.out.2.2.1, ← HBB.out] at h1
                    rw [List.take_add_one, HTI.out]
                    refine h1.perm ?_
                    show ((ts.take r ++ ((ts.drop (r + 1)).flatMap Tp.row).map sgl) ++ [] ++ [u]).Perm ((ts.take r ++ [u]) ++ ((ts.drop (r + 1)).flatMap Tp.row).map sgl)
                    rw [List.append_nil, List.append_assoc, List.append_assoc]
                    exact List.Perm.append_left _ List.perm_append_comm)
                  have HPL := Lib.hid (HL.out.pl.below HB.out.be)
                  have HPF : Hid (PF wr q V S T p (nN V S) pb cp mb cm vb cv (.slice (some ⟨rg, 0, none⟩) N9 ac)) := Lib.hid HPL.out.blk
                  obtain ⟨y0, y1, y2, y3, y4, y5, y6, y7, y8, y9, y10, y11, y12, y13⟩ := HPF.out.cells
                  have hlt := HPF.out.lt
                  have htt : ((u.root : Int) != (u.root : Int)) = false := bne_self_eq_false _
                  clear hj hjn HF2
                  go_wp2_with fail
                  refine (lroot_at HPL.out HFP.out HV.out HTI.out _ _ _).mono ?_; rintro e w8 ⟨rfl, hb8⟩
                  have HB8 := Lib.hid (HB.out.below hb8)
                  clear y0 y1 y2 y3 y4 y5 y6 y7 y8 y9 y10 y11 y12 y13 hlt hb8 HPF HPL
                  go_wp2_with fail
                  go_roundw
                  case rel => exact ⟨r + 1, g2, by have := HVL.out; have := HNV.out; omega, by simp, HB8.out.less (by have := HC0.out; omega), HFE.out, HP2.out⟩
                  case measure => simp [intOf]; omega
            · have er : r = N9 := by have := HVL.out; have := HNV.out; omega
              subst er
              have hrI : ¬ (r : Int) < (r : Int) := by omega
              have HFE : Hid (FI V S g2 mk ts) := Lib.hid (by
                have h1 := HF2.out
                rw [show r = ts.length by have := HVL.out; have := HNV.out; omega, List.take_length, List.drop_length] at h1
                simpa using h1)
              have HPL := Lib.hid (HL.out.pl.below HB.out.be)
              have HPF : Hid (PF wr q V S T p (nN V S) pb cp mb cm vb cv (.slice av r ac)) := Lib.hid HPL.out.blk
              have HQF : Hid (PF wr q2 V S T p2 (nN V S) pb2 cp2 mb2 cm2 vb2 cv2 vr2) := Lib.hid HB.out.pf
              obtain ⟨_, _, _, _, _, _, _, _, _, _, y10, y11, y12, y13⟩ := HPF.out.cells
              obtain ⟨_, _, _, _, _, _, _, _, _, _, x10, x11, x12, x13⟩ := HQF.out.cells
              rw [HN9.out] at y11 y12 y13
              have hlt := HPF.out.lt
              have qlt := HQF.out.lt
              have z10 := Blk.frozen HQF.out 10
              have z11 := Blk.frozen HQF.out 11
              have z12 := Blk.frozen HQF.out 12
              have z13 := Blk.frozen HQF.out 13
              clear hr hrn
              obtain ⟨m9, hm9, A9⟩ := HB.out.tt
              have HM9 := Lib.hid hm9
              have HGE : Hid (pb ≠ gb2) := Lib.hid (by
                have h1 := HL.out.pl.fs.p.lt
                have h2 := HB.out.ko.g
                have h3 := HB.out.hb
                change base2 ≤ gb2 at h2
                change wp.heap.size ≤ base2 at h3
                change pb < wp.heap.size at h1
                omega)
              have HX := Lib.hid (HPL.out.told HQF.out A9 HN9.out (fun y hy => by
                by_cases h0 : y = 0
                · subst h0; rw [A9.z, HL.out.tm.z]
                · exact (HP2.out y (by omega) (by have := HN9.out; omega)).trans (HP.out y (by omega) (by have := HN9.out; omega)).symm) HGE.out)
              have HBE : Hid (Below w.heap.size w wr) := Lib.hid (HL.out.be.trans (HB.out.be.mono HL.out.be.size))
              have HQB : Hid (w.heap.size ≤ q2 ∧ w.heap.size ≤ p2 ∧ w.heap.size ≤ gb2) := Lib.hid (by
                have h1 := HL.out.be.size
                have h2 := HB.out.hb
                have k1 := HB.out.ko.q
                have k2 := HB.out.ko.p
                have k3 := HB.out.ko.g
                change wp.heap.size ≤ base2 at h2
                change base2 ≤ q2 at k1
                change base2 ≤ p2 at k2
                change base2 ≤ gb2 at k3
                omega)
              clear hm9 A9
              go_wp2_with fail
              have HBF := Lib.hid (Only.below HBE.out HX.out.2 HBE.out.size HQB.out.1 HQB.out.1)
              refine Calls.mono (is_any (K := ⟨V, S, T, q2, p2, gb2, cap2, pb, mb, vb, cp, cm, cv, base⟩) HX.out.1 HFE.out (by have := HM9.out; omega)) ?_
              rintro e w10 ⟨rfl, hp10, O10⟩
              have HB10 := Lib.hid (Only.below HBF.out O10 HBF.out.size HQB.out.2.1 HQB.out.2.2)
              clear hp10 O10 y10 y11 y12 y13 x10 x11 x12 x13 z10 z11 z12 z13 hlt qlt
              go_wp2_with fail
              refine (awake_any _).mono ?_; rintro e w11 ⟨rfl, hb11⟩
              have HBZ := Lib.hid (HB10.out.trans (hb11.mono HB10.out.size))
              go_wp2_with fail
              go_ret
              exact ⟨rfl, HBZ.out⟩
end

end Go.Proofs.Ytgafnomfdnbblaa
