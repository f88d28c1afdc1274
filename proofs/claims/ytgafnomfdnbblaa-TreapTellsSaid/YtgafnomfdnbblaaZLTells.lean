/- The law TreapTells: its walk. Printed by wip/tools/trqlt.py. -/
import Derived.Test.YtgafnomfdnbblaaZK
namespace Go.Proofs.Ytgafnomfdnbblaa
open Go.RowKit

set_option maxRecDepth 100000

theorem sh_and (mx u : Nat) : bits .and .i64 ((mx : Int) / 2 ^ u) 1 = ((mx / 2 ^ u % 2 : Nat) : Int) := by
  rw [and1_i64]
  have h : (mx : Int) / 2 ^ u = ((mx / 2 ^ u : Nat) : Int) := by rw [Int.natCast_ediv, Int.natCast_pow]; rfl
  rw [h]; rfl
theorem firstR_next {mk : Nat → Nat} {u j x : Nat} {row : List Nat} (hx : row[j]? = some x) (hnz : ∀ y ∈ row, y ≠ 0) : firstR mk u (row.take (j + 1)) = if firstR mk u (row.take j) = 0 ∧ mbit mk u x = true then x else firstR mk u (row.take j) := by
  rw [List.take_add_one, hx, firstR_app]
  cases ha : (row.take j).any (mbit mk u) with
  | true =>
    rw [if_pos (by simp), if_neg]
    intro h
    obtain ⟨y, hy, hm⟩ := List.any_eq_true.1 ha
    have key : ∀ l : List Nat, (∀ z ∈ l, z ≠ 0) → l.any (mbit mk u) = true → firstR mk u l ≠ 0 := by
      intro l
      induction l with
      | nil => intro _ h; simp at h
      | cons z l ih =>
        intro h1 h2
        simp only [firstR]
        split
        · exact h1 z (by simp)
        · rename_i h3
          refine ih (fun y hy => h1 y (by simp [hy])) ?_
          simpa [h3] using h2
    exact key _ (fun z hz => hnz z (List.mem_of_mem_take hz)) ha h.1
  | false =>
    rw [if_neg (by simp), firstR_none mk u ha]
    show firstR mk u [x] = _
    simp only [firstR]
    by_cases h : mbit mk u x = true
    · simp [h]
    · simp [h]
theorem sh_is (mx u : Nat) : (bits .and .i64 ((mx : Int) / 2 ^ u) 1 == 1) = hasB mx u := by
  rw [sh_and]
  unfold hasB
  by_cases h : mx / 2 ^ u % 2 = 1
  · rw [h, decide_eq_true rfl]; rfl
  · rw [show mx / 2 ^ u % 2 = 0 by omega, decide_eq_false (by omega)]; rfl
theorem PT.first {w : World} {V S T : Int} {q p pb cp mb cm vb cv ob n fb f0 f1 : Nat} {rc : Rec7} {vr v l : Value} {row : List Nat} (h : PT w q V S T p n pb cp mb cm vb cv vr ob rc v l row fb f0 f1) (i : Nat) (u : Value) : OB (w.setCell ⟨fb, i, none⟩ u) ob n rc ∧ LI (w.setCell ⟨fb, i, none⟩ u) v row ∧ LI (w.setCell ⟨fb, i, none⟩ u) l row := by
  obtain ⟨zs, hz, h1, h2⟩ := h.o
  have ho := only_set w fb i u
  exact ⟨⟨zs, Blk.far (p := ⟨fb, i, none⟩) hz (Blk.ne_ hz h.f (by decide)) u, h1, h2⟩, h.v.only ho (h.v.ne_blk h.f (by decide)) (h.v.ne_blk h.f (by decide)), h.l.only ho (h.l.ne_blk h.f (by decide)) (h.l.ne_blk h.f (by decide))⟩
theorem BW.first {c : Nat} {W w0 : World} {zb : Nat} {vc : Array Value} {V S T : Int} {q p gb cap pb mb vb cp cm cv base fb : Nat} {g : Mg9} {mk : Nat → Nat} {ts : List Tp} {vr : Value} {vs : List Value} {cs : Array Value} (h : BW c w0 W zb vc ⟨V, S, T, q, p, gb, cap, pb, mb, vb, cp, cm, cv, base⟩ g mk ts vr vs) (hf : Blk W fb 53 cs) (hb : w0.heap.size ≤ fb) (i : Nat) (u : Value) : BW c w0 (W.setCell ⟨fb, i, none⟩ u) zb vc ⟨V, S, T, q, p, gb, cap, pb, mb, vb, cp, cm, cv, base⟩ g mk ts vr vs := by
  obtain ⟨n, z, ⟨m, hm, pl⟩, be, hb', hz, ko⟩ := h
  have ho := only_set W fb i u
  have hq : Blk W q 49 _ := pl.blk
  have hA : TM W V S T p gb cap m g := pl.tm
  have hrv : RowV W base vr vs := pl.rv
  have hro : RowsOk W mb vs ts := pl.ro
  have hfs : FS W pb mb vb (nN V S) (fun z => g z 5) mk (vx0 V) := pl.fs
  exact ⟨n, Blk.far (p := ⟨fb, i, none⟩) z (Blk.ne_ z hf (by decide)) u, ⟨m, hm, Blk.far (p := ⟨fb, i, none⟩) hq (Blk.ne_ hq hf (by decide)) u, hA.far hf (by decide) (by decide) u, hrv.only ho (hrv.ne_blk hf (by decide)) (hrv.ne_blk hf (by decide)), hro.only ho hf hf (by decide) (by decide), hfs.onlyq hf (by decide) (by decide) (by decide) ho, pl.npg⟩, be.setCell hb u, hb', hz, ko⟩
theorem pt_rule2 (q : Nat) (V S T : Int) (p n pb cp mb cm vb cv : Nat) (vr : Value) (ob : Nat) (rc : Rec7) (v l : Value) (row : List Nat) (fb f0 f1 : Nat) :
    ∀ W : World, PT W q V S T p n pb cp mb cm vb cv vr ob rc v l row fb f0 f1 → W.cell? ⟨q, 4, none⟩ = some (.int .i64 V) ∧ W.cell? ⟨q, 5, none⟩ = some (.int .i64 S) ∧ W.cell? ⟨q, 6, none⟩ = some (.int .i64 T) ∧ W.cell? ⟨q, 7, none⟩ = some (.iface 71 (pmV p)) ∧ W.cell? ⟨q, 8, none⟩ = some (.int .i64 1) ∧ W.cell? ⟨q, 9, none⟩ = some (.int .i64 0) ∧ W.cell? ⟨fb, 0, none⟩ = some (.int .i64 (f0 : Int)) ∧ W.cell? ⟨fb, 1, none⟩ = some (.int .i64 (f1 : Int)) := fun W h => by
  obtain ⟨y0, y1, y2, y3, y4, y5, y6, y7, y8, y9, y10, y11, y12, y13⟩ := h.pf.cells
  exact ⟨y4, y5, y6, y7, y8, y9, h.f.cell 0, h.f.cell 1⟩
theorem bfirstE {c : Nat} {w w0 : World} {zb : Nat} {vc : Array Value} {V S T : Int} {q p gb cap pb mb vb cp cm cv base i k z : Nat} {g : Mg9} {mk : Nat → Nat} {ts : List Tp} {t : Tp} {vr : Value} {vs : List Value} (h : BW (c + 4) w0 w zb vc ⟨V, S, T, q, p, gb, cap, pb, mb, vb, cp, cm, cv, base⟩ g mk ts vr vs) (hF : FI V S g mk ts) (hi : ts[i]? = some t) (hk : k < 2) {kI : Int} (hkI : kI = (k : Int)) (hz : firstR mk k t.row = z) :
    Calls Try.prog 21 #[vTr V S T p, .int .i64 (t.root : Int), .int .i64 kI] w (Rd c w0 zb vc ⟨V, S, T, q, p, gb, cap, pb, mb, vb, cp, cm, cv, base⟩ g mk ts vr vs (.int .i64 (z : Int)) w) := by
  subst hz; exact bfirst h hF hi hk hkI
/-- The first marked ones, of the nodes so far. -/
def fA (mk : Nat → Nat) (row : List Nat) (j k : Nat) : Array Value := #[.int .i64 (firstR mk 0 (row.take (if 0 < k then j + 1 else j)) : Int), .int .i64 (firstR mk 1 (row.take (if 1 < k then j + 1 else j)) : Int)]
theorem fa_keep {mk : Nat → Nat} {u j : Nat} {row : List Nat} (hu : u < 2) (h : firstR mk u (row.take (j + 1)) = firstR mk u (row.take j)) : fA mk row j u = fA mk row j (u + 1) := by
  have hu9 : u = 0 ∨ u = 1 := by omega
  unfold fA
  rcases hu9 with rfl | rfl <;> simp [h]
theorem fa_set {mk : Nat → Nat} {u j x : Nat} {row : List Nat} (hu : u < 2) (h : firstR mk u (row.take (j + 1)) = x) : (fA mk row j u).setIfInBounds u (.int .i64 (x : Int)) = fA mk row j (u + 1) := by
  have hu9 : u = 0 ∨ u = 1 := by omega
  unfold fA
  rcases hu9 with rfl | rfl <;> simp [h]
/-- Between two calls of a case. -/
def LpRel (w0 : World) (zb : Nat) (vc : Array Value) (K : PK9) (pri : Nat → Nat) (ol : Nat) (i : Value) (W : World) : Prop :=
  ∃ k m g mk ts vr vs, k ≤ ol ∧ i = .int .i64 ((k : Nat) : Int) ∧ m ≤ 1000 + 1000 * k ∧ LW w0 W zb vc K m g mk ts vr vs ∧ ∀ x, 1 ≤ x → x ≤ nN K.V K.S → g x 5 = pri x
/-- Between two rows. -/
def TlRel (w0 : World) (zb : Nat) (vc : Array Value) (K : PK9) (g : Mg9) (mk : Nat → Nat) (ts : List Tp) (vr : Value) (vs : List Value) (ob : Nat) (rc : Rec7) (i : Value) (W : World) : Prop :=
  ∃ r, r ≤ ts.length ∧ i = .int .i64 ((r : Nat) : Int) ∧ BW (16800 - 410 * r) w0 W zb vc K g mk ts vr vs ∧ OB W ob K.n rc
/-- .. two nodes of a row. -/
def TnRel (w0 : World) (zb : Nat) (vc : Array Value) (K : PK9) (g : Mg9) (mk : Nat → Nat) (ts : List Tp) (vr : Value) (vs : List Value) (ob : Nat) (rc : Rec7) (c : Nat) (v l : Value) (fb : Nat) (row : List Nat) (i : Value) (W : World) : Prop :=
  ∃ j, j ≤ row.length ∧ i = .int .i64 ((j : Nat) : Int) ∧ BW (c + 10 * (row.length - j)) w0 W zb vc K g mk ts vr vs ∧ OB W ob K.n rc ∧ LI W v row ∧ LI W l row ∧ Blk W fb 53 #[.int .i64 (firstR mk 0 (row.take j) : Int), .int .i64 (firstR mk 1 (row.take j) : Int)]
/-- .. two marks of a node. -/
def TmRel (w0 : World) (zb : Nat) (vc : Array Value) (K : PK9) (g : Mg9) (mk : Nat → Nat) (ts : List Tp) (vr : Value) (vs : List Value) (ob : Nat) (rc : Rec7) (c : Nat) (v l : Value) (fb : Nat) (row : List Nat) (j : Nat) (i : Value) (W : World) : Prop :=
  ∃ k, k ≤ 2 ∧ i = .int .i64 ((k : Nat) : Int) ∧ BW (c + (2 - k)) w0 W zb vc K g mk ts vr vs ∧ OB W ob K.n rc ∧ LI W v row ∧ LI W l row ∧ Blk W fb 53 #[.int .i64 (firstR mk 0 (row.take (if 0 < k then j + 1 else j)) : Int), .int .i64 (firstR mk 1 (row.take (if 1 < k then j + 1 else j)) : Int)]
section
variable {V S T : Int} {da oa : Option Addr} {dl dc ol oc : Nat} {f : Nat → Nat} {fo : Nat → Op5}
set_option maxHeartbeats 16000000 in
theorem ltells (w : World) (hD : IsNum w da dl f) (hO : IsOp5 w oa ol fo) :
    Calls Try.prog 4 #[vC9 V S T da dl dc oa ol oc] w fun e w' => e = .returned (.bool true) ∧ Below w.heap.size w w' := by
  have HD := Lib.hid hD
  have HO := Lib.hid hO
  clear hD hO
  have HB1 : Hid (Below w.heap.size w (w.alloc (.cells #[.int .i64 V, .int .i64 S, .int .i64 T, .slice da dl dc, .slice oa ol oc] 27))) := Lib.hid ((Below.refl _ _).alloc (Nat.le_refl _) _)
  have HZ1 : Hid (Blk (w.alloc (.cells #[.int .i64 V, .int .i64 S, .int .i64 T, .slice da dl dc, .slice oa ol oc] 27)) w.heap.size 27 #[.int .i64 V, .int .i64 S, .int .i64 T, .slice da dl dc, .slice oa ol oc]) := Lib.hid (Blk.new _ _ _)
  go_enter Try.func4, Try.ntmps4
  go_wp2_with fail
  generalize w.heap.size = zb at HZ1 ⊢
  generalize w.alloc (.cells #[.int .i64 V, .int .i64 S, .int .i64 T, .slice da dl dc, .slice oa ol oc] 27) = W1 at HZ1 HB1 ⊢
  refine (right_case V S T da dl dc oa ol oc _).mono ?_; rintro e w2 ⟨rfl, hb2⟩
  have HB2 := Lib.hid (HB1.out.trans (hb2.mono HB1.out.size))
  have HZ2 := Lib.hid (HZ1.out.below hb2 HZ1.out.lt)
  clear HB1 HZ1 hb2
  cases hr : rgt9 V S T dl ol
  · go_wp2_with fail
    refine (awake_any _).mono ?_; rintro e w3 ⟨rfl, hb3⟩
    have HB3 := Lib.hid (HB2.out.trans (hb3.mono HB2.out.size))
    go_wp2_with fail
    go_ret
    exact ⟨rfl, HB3.out⟩
  have HG := Lib.hid (rgt9_yes hr)
  clear hr
  have z0 := HZ2.out.cell 0
  have z1 := HZ2.out.cell 1
  have z2 := HZ2.out.cell 2
  have z3 := HZ2.out.cell 3
  have z4 := HZ2.out.cell 4
  have zlt := HZ2.out.lt
  go_wp2_with fail
  refine (lbegun HG.out.r (HD.out.below HB2.out) HG.out.d HZ2.out HB2.out).mono ?_
  rintro e w3 ⟨q, p, gb, cap, pb, mb, vb, cp, cm, cv, base, g0, vr0, vs0, rfl, hL, hpri, _, _⟩
  have HL := Lib.hid hL
  have HP := Lib.hid hpri
  have HN := Lib.hid HG.out.few
  have HOL := Lib.hid HG.out.o
  have holI : (ol : Int) ≤ 60 := by have := HG.out.o; omega
  have HM : Hid (10 * nN V S ≤ 400) := Lib.hid (by have := HN.out; omega)
  clear hL hpri z0 z1 z2 z3 z4 zlt HZ2 HB2
  have HRel : Hid (LpRel w zb #[.int .i64 V, .int .i64 S, .int .i64 T, .slice da dl dc, .slice oa ol oc] ⟨V, S, T, q, p, gb, cap, pb, mb, vb, cp, cm, cv, base⟩ (priF dl f) ol (.int .i64 0) w3) := Lib.hid ⟨0, _, _, _, _, _, _, Nat.zero_le _, rfl, by have := HN.out; omega, HL.out, HP.out⟩
  have z4 := HL.out.z.cell 4
  have zlt := HL.out.z.lt
  clear HL HP HM
  go_wp2_with fail
  go_loopw [27] (fun i wr => LpRel w zb #[.int .i64 V, .int .i64 S, .int .i64 T, .slice da dl dc, .slice oa ol oc] ⟨V, S, T, q, p, gb, cap, pb, mb, vb, cp, cm, cv, base⟩ (priF dl f) ol i wr) (fun i _ => ol - (intOf i).toNat)
  case atStart => exact HRel.out
  case round =>
    clear HRel z4 zlt
    obtain ⟨k, m, g, mk, ts, vr, vs, hk, rfl, hm, hL, hpri⟩ := hrel
    have HL := Lib.hid hL
    have HP := Lib.hid hpri
    have HMK := Lib.hid hm
    clear hL hpri
    by_cases hkl : k < ol
    · obtain ⟨ob, off, rfl, hcell⟩ := HO.out (by omega)
      have hc := hcell k hkl
      obtain ⟨o, ho⟩ : ∃ o, fo k = o := ⟨_, rfl⟩
      rw [ho] at hc
      obtain ⟨kd, oa1, ob1, ok1, on⟩ := o
      have c0 := cell_later HL.out.be hc.1
      have c1 := cell_later HL.out.be hc.2.1
      have c2 := cell_later HL.out.be hc.2.2.1
      have c3 := cell_later HL.out.be hc.2.2.2.1
      have c4 := cell_later HL.out.be hc.2.2.2.2.1
      have HF := Lib.hid hc.2.2.2.2.2
      have hkI : (k : Int) < (ol : Int) := by omega
      have hk0 : (0 : Int) ≤ (k : Int) := by omega
      have HM1 : Hid (m ≤ 900000) := Lib.hid (by have := HOL.out; omega)
      have HLa := Lib.hid (HL.out.below ((Below.refl _ _).alloc (Nat.le_refl _) (.cells #[.int .i64 kd, .int .i64 oa1, .int .i64 ob1, .int .i64 ok1, .bool on] 33)))
      clear hc ho hcell HL hm
      go_wp2_with fail
      refine (lstep HLa.out HF.out.1 HF.out.2.1 HF.out.2.2 (Nat.le_trans HM1.out (by omega))).mono ?_
      rintro e w5 ⟨rfl, g', mk', ts', vr', vs', hL5, _, h5⟩
      have HL5 := Lib.hid hL5
      have H5 := Lib.hid h5
      clear hL5 h5 HLa c0 c1 c2 c3 c4
      have HL6 := HL5
      go_wp2_with fail
      go_roundw
      case rel => exact ⟨k + 1, _, g', mk', ts', vr', vs', hkl, by simp, by have := HMK.out; have := HN.out; omega, HL6.out, fun x h1 h2 => (H5.out x).trans (HP.out x h1 h2)⟩
      case measure => simp [intOf]; omega
    · have ek : k = ol := by omega
      subst ek
      have hkI : ¬ (k : Int) < (k : Int) := by omega
      have HM1 : Hid (m ≤ 100000) := Lib.hid (by have := HOL.out; omega)
      clear hk hkl
      obtain ⟨y0, y1, y2, y3, y4, y5, y6, y7, y8, y9, y10, y11, y12, y13⟩ := HL.out.pf.cells
      have hlt := HL.out.pf.lt
      obtain ⟨rc, hrc⟩ : ∃ rc, recF (vx0 V) mk ts (fun _ _ => 0) = rc := ⟨_, rfl⟩
      have HND : Hid (∀ k, 1 ≤ k → k ≤ nN V S → NodeIs g rc k) := Lib.hid fun k h1 h2 => by
        have hF := HL.out.ff
        have hn := HN.out
        obtain ⟨t, ht, hk⟩ := (hF.al k).1 ⟨by omega, h2⟩
        rw [← hrc]
        exact recF_is hF.hm (fun t ht => ⟨⟨(hF.st t ht).1.1.vx fun y hy => vx0_eq (hF.nodes ht y hy).1, (hF.st t ht).1.2⟩, by have := hF.size ht; omega, fun y hy => (hF.nodes ht y hy).1⟩) hF.nd t ht k hk
      have HTS : Hid (ts.length ≤ 40) := Lib.hid (by have h9 : ts.length ≤ nN V S := HL.out.ff.len; have := HN.out; omega)
      have HFI := Lib.hid HL.out.ff
      go_wp2_with fail
      refine (nodesF_any HFI.out.hm HL.out.pl.fs HL.out.pl.rv HL.out.pl.ro (fun t ht => ⟨(HFI.out.st t ht).2.1, fun y hy => (HFI.out.nodes ht y hy).2, by have h1 := HFI.out.size ht; have := HN.out; unfold Tp.size at h1; omega⟩) (by have := HN.out; show nN V S ≤ 100000; omega) (by have := HTS.out; omega)).mono ?_
      rintro e w4 ⟨ob, co, rfl, hob, hO, hb4⟩
      rw [hrc] at hO
      have HB0 := Lib.hid ((HL.out.below hb4).bw (c := 16800) HN.out (by have := HM1.out; omega))
      have HO0 := Lib.hid hO
      clear hrc hob hO hb4 HL y0 y1 y2 y3 y4 y5 y6 y7 y8 y9 y10 y11 y12 y13 hlt
      have y10 : w4.cell? ⟨q, 10, none⟩ = some vr := HB0.out.pf.cell 10
      have hlt := HB0.out.pf.lt
      obtain ⟨av, ac, rfl⟩ := HB0.out.rv.slice
      have HVL : Hid (vs.length = ts.length) := Lib.hid HB0.out.ro.1
      obtain ⟨N9, hN9⟩ : ∃ N, vs.length = N := ⟨_, rfl⟩
      have HN9 := Lib.hid hN9
      have n9I : (N9 : Int) ≤ 40 := by have := HVL.out; have := HTS.out; omega
      rw [hN9] at y10 HB0
      clear hN9
      go_wp2_with fail
      have HRel : Hid (TlRel w zb #[.int .i64 V, .int .i64 S, .int .i64 T, .slice da dl dc, .slice oa k oc] ⟨V, S, T, q, p, gb, cap, pb, mb, vb, cp, cm, cv, base⟩ g mk ts (.slice av N9 ac) vs ob rc (.int .i64 0) w4) := Lib.hid ⟨0, Nat.zero_le _, rfl, HB0.out, HO0.out⟩
      clear HB0 HO0 y10 hlt
      go_loopw [47] (fun i wr => TlRel w zb #[.int .i64 V, .int .i64 S, .int .i64 T, .slice da dl dc, .slice oa k oc] ⟨V, S, T, q, p, gb, cap, pb, mb, vb, cp, cm, cv, base⟩ g mk ts (.slice av N9 ac) vs ob rc i wr) (fun i _ => N9 - (intOf i).toNat)
      case atStart => exact HRel.out
      case round =>
        clear HRel
        obtain ⟨r, hr, rfl, hB, hO⟩ := hrel
        have HB := Lib.hid hB
        have HO9 := Lib.hid hO
        clear hB hO
        by_cases hrn : r < N9
        · obtain ⟨v, t, hv, ht, hli, hvm, a1, a2, rfl⟩ := HB.out.ro.get (i := r) (by have := HN9.out; have := HVL.out; omega)
          obtain ⟨rg, rc9, e9, hrg, hrlt, cs, hz, hcs⟩ := RowV.at HB.out.rv hv
          injection e9 with e91 e92 e93
          subst e91
          have crow := (hz.cell r).trans (hcs r _ hv)
          have HT := Lib.hid (HFI.out.at ht)
          have HV := Lib.hid hv
          have HTI := Lib.hid ht
          have HLI := Lib.hid hli
          have hr0 : (0 : Int) ≤ (r : Int) := by omega
          have hr1 : (r : Int) < (N9 : Int) := by omega
          obtain ⟨nt, hnt⟩ : ∃ n, t.row.length = n := ⟨_, rfl⟩
          have HNT := Lib.hid hnt
          have ntI : (nt : Int) ≤ 40 := by have h1 := HT.out.2.2.2.2.2; have := HN.out; unfold Tp.size at h1; omega
          rw [hnt] at crow HLI HV
          obtain ⟨c0, hc0⟩ : ∃ c, 16800 - 410 * r = c + 410 := ⟨16800 - 410 * (r + 1), by have := HTS.out; have := HVL.out; have := HN9.out; omega⟩
          have HC0 := Lib.hid hc0
          rw [hc0] at HB
          clear hv ht hli hvm hz hcs hrg e92 e93 hnt hc0 hr
          obtain ⟨y0, y1, y2, y3, y4, y5, y6, y7, y8, y9, y10, y11, y12, y13⟩ := HB.out.pf.cells
          have hlt := HB.out.pf.lt
          go_wp2_with fail
          refine (brroot HB.out HFI.out HV.out HTI.out _ _ _).mono ?_; rintro e w5 ⟨rfl, hB5, hb5⟩
          have HB5 := Lib.hid hB5
          have HO5 := Lib.hid (HO9.out.below hb5)
          have HL5 := Lib.hid (HLI.out.below hb5)
          clear hB5 hb5 HB HO9 HLI crow hrlt y0 y1 y2 y3 y4 y5 y6 y7 y8 y9 y10 y11 y12 y13 hlt
          obtain ⟨y0, y1, y2, y3, y4, y5, y6, y7, y8, y9, y10, y11, y12, y13⟩ := HB5.out.pf.cells
          have hlt := HB5.out.pf.lt
          have C9 := blist (c := c0 + 408) HB5.out HFI.out HTI.out
          go_wp2_with fail
          refine C9.mono ?_; rintro e w6 ⟨al, cl, rfl, hl6, hf6, hB6, hO6⟩
          rw [HNT.out] at hl6 hf6
          have HB6 := Lib.hid hB6
          have HLL := Lib.hid hl6
          have HO6 := Lib.hid (OB.onlyB HO5.out HB5.out hO6)
          have HL6 := Lib.hid (LI.onlyB HL5.out HB5.out hO6)
          clear C9 hl6 hf6 hB6 hO6 HB5 HO5 HL5 y0 y1 y2 y3 y4 y5 y6 y7 y8 y9 y10 y11 y12 y13 hlt
          rw [HNT.out]
          go_wp2_with fail
          have HB7 := Lib.hid (HB6.out.below ((Below.refl _ _).alloc (Nat.le_refl _) (.cells #[.int .i64 0, .int .i64 0] 53)))
          have HO7 := Lib.hid (HO6.out.below ((Below.refl _ _).alloc (Nat.le_refl _) (.cells #[.int .i64 0, .int .i64 0] 53)))
          have HL7 := Lib.hid (HL6.out.alloc (.cells #[.int .i64 0, .int .i64 0] 53))
          have HM7 := Lib.hid (HLL.out.alloc (.cells #[.int .i64 0, .int .i64 0] 53))
          have HF7 : Hid (Blk (w6.alloc (.cells #[.int .i64 0, .int .i64 0] 53)) w6.heap.size 53 #[.int .i64 0, .int .i64 0]) := Lib.hid (Blk.new _ _ _)
          have HFBS : Hid (w.heap.size ≤ w6.heap.size) := Lib.hid HB6.out.be.size
          generalize w6.heap.size = fb at HF7 HFBS ⊢
          generalize w6.alloc (.cells #[.int .i64 0, .int .i64 0] 53) = W7 at HB7 HO7 HL7 HM7 HF7 ⊢
          have HRel2 : Hid (TnRel w zb #[.int .i64 V, .int .i64 S, .int .i64 T, .slice da dl dc, .slice oa k oc] ⟨V, S, T, q, p, gb, cap, pb, mb, vb, cp, cm, cv, base⟩ g mk ts (.slice (some ⟨rg, 0, none⟩) N9 ac) vs ob rc (c0 + 8) (.slice a1 nt a2) (.slice al nt cl) fb t.row (.int .i64 0) W7) := Lib.hid ⟨0, Nat.zero_le _, rfl, HB7.out.less (by have := HNT.out; omega), HO7.out, HL7.out, HM7.out, HF7.out⟩
          clear HB6 HO6 HL6 HLL HB7 HO7 HL7 HM7 HF7
          obtain ⟨wo1, hwo1⟩ : ∃ wo1 : World, wo1 = wr := ⟨_, rfl⟩
          go_loopw [71] (fun i wr => TnRel w zb #[.int .i64 V, .int .i64 S, .int .i64 T, .slice da dl dc, .slice oa k oc] ⟨V, S, T, q, p, gb, cap, pb, mb, vb, cp, cm, cv, base⟩ g mk ts (.slice (some ⟨rg, 0, none⟩) N9 ac) vs ob rc (c0 + 8) (.slice a1 nt a2) (.slice al nt cl) fb t.row i wr) (fun i _ => nt - (intOf i).toNat)
          case atStart => exact HRel2.out
          case round =>
            clear HRel2
            obtain ⟨j, hj, rfl, hB, hO, hl, hll, hf⟩ := hrel
            have HB := Lib.hid hB
            have HO9 := Lib.hid hO
            have HLI := Lib.hid hl
            have HLL := Lib.hid hll
            have HFB := Lib.hid hf
            rw [HNT.out] at hj
            clear hB hO hl hll hf
            by_cases hjn : j < nt
            · obtain ⟨x, hx⟩ : ∃ x, t.row[j]? = some x := ⟨_, List.getElem?_eq_getElem (by have := HNT.out; omega)⟩
              have HX := Lib.hid hx
              have HXM := Lib.hid (List.mem_of_getElem? hx)
              have HXB := Lib.hid (HT.out.2.2.2.2.1 x HXM.out)
              obtain ⟨b1, o1, e1, c1⟩ := HLI.out.at hx
              obtain ⟨b2, o2, e2, _⟩ := HLL.out.at hx
              subst e1 e2
              obtain ⟨_, _, _, n6, m3, m4, m5, m6⟩ := HND.out x (by have := HXB.out; omega) HXB.out.2
              have l1 := (HLI.out.lt b1 (LI.bk_at HLI.out hx))
              obtain ⟨z3, hz3⟩ : ∃ z, rc x 3 = z := ⟨_, rfl⟩
              obtain ⟨z4, hz4⟩ : ∃ z, rc x 4 = z := ⟨_, rfl⟩
              rw [hz3] at n6 m3
              rw [hz4] at n6 m4
              have HS3 : Hid (nS (g x 6) = z3) := Lib.hid (by rw [n6]; exact (sumW_parts (Nat.lt_succ_of_le m3) (Nat.lt_succ_of_le m4) (Nat.lt_succ_of_le m5) (Nat.lt_succ_of_le m6)).1)
              have HS4 : Hid (vS (g x 6) = z4) := Lib.hid (by rw [n6]; exact (sumW_parts (Nat.lt_succ_of_le m3) (Nat.lt_succ_of_le m4) (Nat.lt_succ_of_le m5) (Nat.lt_succ_of_le m6)).2.1)
              have z3I : (z3 : Int) < 65536 := by omega
              have z4I : (z4 : Int) < 65536 := by omega
              have HZ3 := Lib.hid hz3
              have HZ4 := Lib.hid hz4
              clear n6 m3 m4 m5 m6 hz3 hz4 hx
              have xI : (x : Int) ≤ 40 := by have := HXB.out.2; have := HN.out; omega
              have x0I : (0 : Int) ≤ (x : Int) := by omega
              have jI : (j : Int) < (nt : Int) := by omega
              have j0I : (0 : Int) ≤ (j : Int) := by omega
              have xnI : (x : Int) < (nN V S : Int) + 1 := by have := HXB.out.2; omega
              obtain ⟨c8, hc8⟩ : ∃ c, c0 + 8 + 10 * (t.row.length - j) = c + 10 := ⟨c0 + 8 + 10 * (t.row.length - (j + 1)), by have := HNT.out; omega⟩
              have HC8 := Lib.hid hc8
              rw [hc8] at HB
              clear hc8
              have HPT : Hid (PT wr q V S T p (nN V S) pb cp mb cm vb cv (.slice (some ⟨rg, 0, none⟩) N9 ac) ob rc (.slice (some ⟨b1, o1, none⟩) nt a2) (.slice (some ⟨b2, o2, none⟩) nt cl) t.row fb (firstR mk 0 (t.row.take j)) (firstR mk 1 (t.row.take j))) := Lib.hid ⟨HB.out.pf, HO9.out, HLI.out, HLL.out, HFB.out⟩
              clear HO9 HLI HLL HFB
              go_upto_region 24 with fail
              have HBd := Lib.hid HB.out.drew
              have HPd := Lib.hid HPT.out.drew
              have hpt := pt_rule q V S T p (nN V S) pb cp mb cm vb cv (.slice (some ⟨rg, 0, none⟩) N9 ac) ob rc b1 o1 nt a2 b2 o2 nt cl t.row fb (firstR mk 0 (t.row.take j)) (firstR mk 1 (t.row.take j)) HX.out HXB.out.2 HZ3.out HZ4.out
              clear HB HPT c1 l1
              obtain ⟨y0, y1, y2, y4, y5, y6, y7, y8, y9, y10, y11, y12, y13, k3, k4, k1, k2⟩ := hpt _ HPd.out
              have hlt := HPd.out.lt
              obtain ⟨hlt1, hlt2, hlt3⟩ := hlt
              have e1 : ((x : Int) != (x : Int)) = false := bne_self_eq_false _
              have e2 : ((t.root : Int) != (t.root : Int)) = false := bne_self_eq_false _
              have e3 : ((j : Int) != (j : Int)) = false := bne_self_eq_false _
              have e4 : ((z3 : Int) != (z3 : Int)) = false := bne_self_eq_false _
              have e5 : ((z4 : Int) != (z4 : Int)) = false := bne_self_eq_false _
              go_region_held3 (fun W => PT W q V S T p (nN V S) pb cp mb cm vb cv (.slice (some ⟨rg, 0, none⟩) N9 ac) ob rc (.slice (some ⟨b1, o1, none⟩) nt a2) (.slice (some ⟨b2, o2, none⟩) nt cl) t.row fb (firstR mk 0 (t.row.take j)) (firstR mk 1 (t.row.take j))) (first | (with_reducible assumption) | (with_reducible exact HP4.out) | (with_reducible exact HP3.out) | (with_reducible exact HP2.out) | (with_reducible exact HP1.out) | (with_reducible exact HPd.out))
                (first
                  | (go_at_call 16; have C9 := broot (c := c8 + 9) HBd.out HFI.out HTI.out HXM.out; ((with_reducible refine C9.mono ?_); clear C9; rintro e w8 ⟨rfl, hb8, O8⟩; have HP1 := Lib.hid (PT.onlyB HPd.out HBd.out O8); have HB1 := Lib.hid hb8))
                  | (go_at_call 17; have C9 := bindex (c := c8 + 4) HB1.out HFI.out HTI.out HX.out; ((with_reducible refine C9.mono ?_); clear C9; rintro e w8 ⟨rfl, hb8, O8⟩; have HP2 := Lib.hid (PT.onlyB HP1.out HB1.out O8); have HB2 := Lib.hid hb8))
                  | (go_at_call 18; have C9 := bsizeE (c := c8 + 3) HB2.out HXB.out.2 HS3.out; ((with_reducible refine C9.mono ?_); clear C9; rintro e w8 ⟨rfl, hb8, O8⟩; have HP3 := Lib.hid (PT.onlyB HP2.out HB2.out O8); have HB3 := Lib.hid hb8))
                  | (go_at_call 19; have C9 := bvertsE (c := c8 + 2) HB3.out HXB.out.2 HS4.out; ((with_reducible refine C9.mono ?_); clear C9; rintro e w8 ⟨rfl, hb8, O8⟩; have HP4 := Lib.hid (PT.onlyB HP3.out HB3.out O8); have HB4 := Lib.hid hb8))
                  | fail)
              clear y0 y1 y2 y4 y5 y6 y7 y8 y9 y10 y11 y12 y13 k3 k4 k1 k2 hlt1 hlt2 hlt3 e1 e2 e3 e4 e5 HBd HPd HB1 HB2 HB3 HP1 HP2 HP3 hb8 O8 hpt
              have HRel3 : Hid (TmRel w zb #[.int .i64 V, .int .i64 S, .int .i64 T, .slice da dl dc, .slice oa k oc] ⟨V, S, T, q, p, gb, cap, pb, mb, vb, cp, cm, cv, base⟩ g mk ts (.slice (some ⟨rg, 0, none⟩) N9 ac) vs ob rc c8 (.slice (some ⟨b1, o1, none⟩) nt a2) (.slice (some ⟨b2, o2, none⟩) nt cl) fb t.row j (.int .i64 0) w8) := Lib.hid ⟨0, by omega, rfl, HB4.out, HP4.out.o, HP4.out.v, HP4.out.l, HP4.out.f⟩
              clear HB4 HP4
              obtain ⟨wo2, hwo2⟩ : ∃ wo2 : World, wo2 = wr := ⟨_, rfl⟩
              go_wp2_with fail
              go_loopw [130] (fun i wr => TmRel w zb #[.int .i64 V, .int .i64 S, .int .i64 T, .slice da dl dc, .slice oa k oc] ⟨V, S, T, q, p, gb, cap, pb, mb, vb, cp, cm, cv, base⟩ g mk ts (.slice (some ⟨rg, 0, none⟩) N9 ac) vs ob rc c8 (.slice (some ⟨b1, o1, none⟩) nt a2) (.slice (some ⟨b2, o2, none⟩) nt cl) fb t.row j i wr) (fun i _ => 2 - (intOf i).toNat)
              case atStart => exact HRel3.out
              case round =>
                clear HRel3
                obtain ⟨u, hu, rfl, hB, hO, hl, hll, hf⟩ := hrel
                have HB := Lib.hid hB
                have HO9 := Lib.hid hO
                have HLI := Lib.hid hl
                have HLL := Lib.hid hll
                have HFB := Lib.hid hf
                clear hB hO hl hll hf
                by_cases hu2 : u < 2
                · have huI : (u : Int) < 2 := by omega
                  have hu0 : (0 : Int) ≤ (u : Int) := by omega
                  have hmb := HB.out.fs.m.cell (k := x) HXB.out.2
                  have mlt := HB.out.fs.m.lt
                  have y12 : wr.cell? ⟨q, 12, none⟩ = some (.slice (some ⟨mb, 0, none⟩) (nN V S + 1) cm) := HB.out.pf.cell 12
                  have hlt := HB.out.pf.lt
                  obtain ⟨mx, hmx⟩ : ∃ z, mk x = z := ⟨_, rfl⟩
                  have HMX := Lib.hid hmx
                  rw [hmx] at hmb
                  obtain ⟨F9, hF9⟩ : ∃ F, firstR mk u (t.row.take j) = F := ⟨_, rfl⟩
                  have HF9 := Lib.hid hF9
                  have hfu : wr.cell? ⟨fb, u, none⟩ = some (.int .i64 (F9 : Int)) := by
                    have h := HFB.out.cell u
                    have hu9 : u = 0 ∨ u = 1 := by omega
                    rw [← hF9]
                    rcases hu9 with rfl | rfl
                    · simpa using h
                    · simpa using h
                  have hfz := HFB.out.frozen u
                  have flt := HFB.out.lt
                  have HNX : Hid (firstR mk u (t.row.take (j + 1)) = if F9 = 0 ∧ mbit mk u x = true then x else F9) := Lib.hid (by rw [← hF9]; exact firstR_next HX.out fun y hy => (HT.out.2.2.2.2.1 y hy).1)
                  have C9 := bmarked (c := c8 + (1 - u)) (by have h := HB.out; rw [show c8 + (2 - u) = c8 + (1 - u) + 1 by omega] at h; exact h) HFI.out HTI.out HXM.out (k := u) hu2
                  rw [hmx] at C9
                  have hbe : (bits .and .i64 ((mx : Int) / 2 ^ u) 1 == 1) = hasB mx u := sh_is mx u
                  have HBM : Hid (mbit mk u x = hasB mx u) := Lib.hid (by rw [← hmx]; rfl)
                  obtain ⟨hb, hhb⟩ : ∃ b, hasB mx u = b := ⟨_, rfl⟩
                  have HHB := Lib.hid hhb
                  rw [hhb] at C9 hbe
                  clear hmx hF9 hhb y12
                  obtain ⟨y0, y1, y2, y3, y4, y5, y6, y7, y8, y9, y10, y11, y12, y13⟩ := HB.out.pf.cells
                  cases hb
                  · go_wp2_with fail
                    refine C9.mono ?_; rintro e w9 ⟨rfl, hb9, O9⟩
                    have HB9 := Lib.hid hb9
                    have HP9 := Lib.hid (PT.onlyB ⟨HB.out.pf, HO9.out, HLI.out, HLL.out, HFB.out⟩ HB.out O9)
                    have HKE : Hid (firstR mk u (t.row.take (j + 1)) = firstR mk u (t.row.take j)) := Lib.hid (by rw [HNX.out, HBM.out, HHB.out, HF9.out, if_neg (by simp)])
                    clear C9 y0 y1 y2 y3 y4 y5 y6 y7 y8 y9 y10 y11 y12 y13 hlt hmb mlt hfu hfz flt hb9 O9 HO9 HLI HLL HFB hbe
                    go_wp2_with fail
                    go_roundw
                    case rel => exact ⟨u + 1, hu2, by simp, HB9.out.less (by omega), HP9.out.o, HP9.out.v, HP9.out.l, by show Blk _ fb _ (fA mk t.row j (u + 1)); rw [← fa_keep hu2 HKE.out]; exact HP9.out.f⟩
                    case measure => simp [intOf]; omega
                  · go_wp2_with fail
                    refine C9.mono ?_; rintro e w9 ⟨rfl, hb9, O9⟩
                    have HB9 := Lib.hid hb9
                    have HP9 := Lib.hid (PT.onlyB ⟨HB.out.pf, HO9.out, HLI.out, HLL.out, HFB.out⟩ HB.out O9)
                    clear C9 y0 y1 y2 y3 y4 y5 y6 y7 y8 y9 y10 y11 y12 y13 hlt hmb mlt hfu hfz flt hb9 O9 HO9 HLI HLL HFB hbe
                    have hfu : w9.cell? ⟨fb, u, none⟩ = some (.int .i64 (F9 : Int)) := by
                      have h := HP9.out.f.cell u
                      have hu9 : u = 0 ∨ u = 1 := by omega
                      rw [← HF9.out]
                      rcases hu9 with rfl | rfl
                      · simpa using h
                      · simpa using h
                    have hfz := HP9.out.f.frozen u
                    have flt := HP9.out.f.lt
                    by_cases e0 : F9 = 0
                    · have hfe : ((F9 : Int) == 0) = true := by rw [e0]; rfl
                      have HKE : Hid (firstR mk u (t.row.take (j + 1)) = x) := Lib.hid (by rw [HNX.out, HBM.out, HHB.out, if_pos ⟨e0, rfl⟩])
                      clear e0
                      go_wp2_with fail
                      have HPX := Lib.hid (HP9.out.first u (.int .i64 (x : Int)))
                      have HBX := Lib.hid (HB9.out.first HP9.out.f HFBS.out u (.int .i64 (x : Int)))
                      have HFX : Hid (Blk (w9.setCell ⟨fb, u, none⟩ (.int .i64 (x : Int))) fb 53 (fA mk t.row j (u + 1))) := Lib.hid (by
                        have h := (show Blk w9 fb 53 (fA mk t.row j u) from HP9.out.f).set_ u (.int .i64 (x : Int))
                        rw [fa_set hu2 HKE.out] at h; exact h)
                      generalize w9.setCell ⟨fb, u, none⟩ (.int .i64 (x : Int)) = W9 at HPX HBX HFX ⊢
                      go_roundw
                      case rel => exact ⟨u + 1, hu2, by simp, HBX.out.less (by omega), HPX.out.1, HPX.out.2.1, HPX.out.2.2, HFX.out⟩
                      case measure => simp [intOf]; omega
                    · have hfe : ((F9 : Int) == 0) = false := beq_eq_false_iff_ne.2 (by omega)
                      have HKE : Hid (firstR mk u (t.row.take (j + 1)) = firstR mk u (t.row.take j)) := Lib.hid (by rw [HNX.out, HF9.out, if_neg (fun h => e0 h.1)])
                      clear e0
                      go_wp2_with fail
                      go_roundw
                      case rel => exact ⟨u + 1, hu2, by simp, HB9.out.less (by omega), HP9.out.o, HP9.out.v, HP9.out.l, by show Blk _ fb _ (fA mk t.row j (u + 1)); rw [← fa_keep hu2 HKE.out]; exact HP9.out.f⟩
                      case measure => simp [intOf]; omega
                · have eu : u = 2 := by omega
                  subst eu
                  rw [show ((2 : Nat) : Int) = 2 from rfl]
                  clear hu hu2
                  go_wp2_with fail
                  go_roundw
                  case rel => exact ⟨j + 1, by have := HNT.out; omega, by simp, HB.out.less (by have := HC8.out; have := HNT.out; omega), HO9.out, HLI.out, HLL.out, HFB.out⟩
                  case measure => simp [intOf]; omega
            · have ej : j = nt := by omega
              subst ej
              have hjI : ¬ (j : Int) < (j : Int) := by omega
              clear hj hjn
              obtain ⟨F0, hF0⟩ : ∃ F, firstR mk 0 t.row = F := ⟨_, rfl⟩
              obtain ⟨F1, hF1⟩ : ∃ F, firstR mk 1 t.row = F := ⟨_, rfl⟩
              have HF0 := Lib.hid hF0
              have HF1 := Lib.hid hF1
              have HPT : Hid (PT wr q V S T p (nN V S) pb cp mb cm vb cv (.slice (some ⟨rg, 0, none⟩) N9 ac) ob rc (.slice a1 j a2) (.slice al j cl) t.row fb F0 F1) := Lib.hid ⟨HB.out.pf, HO9.out, HLI.out, HLL.out, by
                have h := HFB.out
                rw [← HNT.out, List.take_length, hF0, hF1] at h
                exact h⟩
              have HB0 := Lib.hid (HB.out.less (c' := c0 + 8) (by omega))
              clear hF0 hF1 HB HO9 HLI HLL HFB
              go_upto_region 36 with fail
              have HBd := Lib.hid HB0.out.drew
              have HPd := Lib.hid HPT.out.drew
              clear HB0 HPT
              have hpt := pt_rule2 q V S T p (nN V S) pb cp mb cm vb cv (.slice (some ⟨rg, 0, none⟩) N9 ac) ob rc (.slice a1 j a2) (.slice al j cl) t.row fb F0 F1
              obtain ⟨y4, y5, y6, y7, y8, y9, k0, k1⟩ := hpt _ HPd.out
              obtain ⟨hlt, hlt2, _⟩ := HPd.out.lt
              have e1 : ((F0 : Int) != (F0 : Int)) = false := bne_self_eq_false _
              have e2 : ((F1 : Int) != (F1 : Int)) = false := bne_self_eq_false _
              go_region_held3 (fun W => PT W q V S T p (nN V S) pb cp mb cm vb cv (.slice (some ⟨rg, 0, none⟩) N9 ac) ob rc (.slice a1 j a2) (.slice al j cl) t.row fb F0 F1) (first | (with_reducible assumption) | (with_reducible exact HP2.out) | (with_reducible exact HP1.out) | (with_reducible exact HPd.out))
                (first
                  | (go_at_call 21; have C9 := bfirstE (k := 0) (kI := 0) (c := c0 + 4) HBd.out HFI.out HTI.out (by omega) rfl HF0.out; ((with_reducible refine C9.mono ?_); clear C9; rintro e w8 ⟨rfl, hb8, O8⟩; have HP1 := Lib.hid (PT.onlyB HPd.out HBd.out O8); have HB1 := Lib.hid hb8))
                  | (go_at_call 21; have C9 := bfirstE (k := 1) (kI := 1) (c := c0) HB1.out HFI.out HTI.out (by omega) rfl HF1.out; ((with_reducible refine C9.mono ?_); clear C9; rintro e w8 ⟨rfl, hb8, O8⟩; have HP2 := Lib.hid (PT.onlyB HP1.out HB1.out O8); have HB2 := Lib.hid hb8))
                  | fail)
              clear y4 y5 y6 y7 y8 y9 k0 k1 hlt hlt2 e1 e2 HBd HPd HB1 HP1 hb8 O8 hpt
              go_wp2_with fail
              go_roundw
              case rel => exact ⟨r + 1, by have := HVL.out; have := HN9.out; omega, by simp, HB2.out.less (by have := HC0.out; omega), HP2.out.o⟩
              case measure => simp [intOf]; omega
        · have er : r = N9 := by have := HVL.out; have := HN9.out; omega
          subst er
          have hrI : ¬ (r : Int) < (r : Int) := by omega
          have HB0 := Lib.hid (HB.out.less (c' := 9) (by have := HVL.out; have := HN9.out; have := HTS.out; omega))
          clear hr hrn HB HO9
          obtain ⟨y0, y1, y2, y3, y4, y5, y6, y7, y8, y9, y10, y11, y12, y13⟩ := HB0.out.pf.cells
          have hlt := HB0.out.pf.lt
          have C9 := bzsize (c := 8) HB0.out
          go_wp2_with fail
          refine C9.mono ?_; rintro e w8 ⟨rfl, hb8, O8⟩
          have HB1 := Lib.hid hb8
          clear C9 hb8 O8 HB0 y0 y1 y2 y3 y4 y5 y6 y7 y8 y9 y10 y11 y12 y13 hlt
          obtain ⟨y0, y1, y2, y3, y4, y5, y6, y7, y8, y9, y10, y11, y12, y13⟩ := HB1.out.pf.cells
          have hlt := HB1.out.pf.lt
          have C9 := bzverts (c := 7) HB1.out
          go_wp2_with fail
          refine C9.mono ?_; rintro e w8 ⟨rfl, hb8, O8⟩
          have HB2 := Lib.hid hb8
          clear C9 hb8 O8 HB1 y0 y1 y2 y3 y4 y5 y6 y7 y8 y9 y10 y11 y12 y13 hlt
          obtain ⟨y0, y1, y2, y3, y4, y5, y6, y7, y8, y9, y10, y11, y12, y13⟩ := HB2.out.pf.cells
          have hlt := HB2.out.pf.lt
          have C9 := bzfirst (c := 3) HB2.out HFI.out.hm
          go_wp2_with fail
          refine C9.mono ?_; rintro e w8 ⟨rfl, hb8, O8⟩
          have HB3 := Lib.hid hb8
          clear C9 hb8 O8 HB2 y0 y1 y2 y3 y4 y5 y6 y7 y8 y9 y10 y11 y12 y13 hlt
          obtain ⟨y0, y1, y2, y3, y4, y5, y6, y7, y8, y9, y10, y11, y12, y13⟩ := HB3.out.pf.cells
          have hlt := HB3.out.pf.lt
          have C9 := bzlist (c := 1) HB3.out
          go_wp2_with fail
          refine C9.mono ?_; rintro e w8 ⟨al, cl, rfl, _, _, hb8, O8⟩
          have HB4 := Lib.hid hb8
          clear C9 hb8 O8 HB3 y0 y1 y2 y3 y4 y5 y6 y7 y8 y9 y10 y11 y12 y13 hlt
          obtain ⟨y0, y1, y2, y3, y4, y5, y6, y7, y8, y9, y10, y11, y12, y13⟩ := HB4.out.pf.cells
          have hlt := HB4.out.pf.lt
          have C9 := bzroot (c := 0) HB4.out
          go_wp2_with fail
          refine C9.mono ?_; rintro e w8 ⟨rfl, hb8, O8⟩
          have HB5 := Lib.hid hb8.be
          clear C9 hb8 O8 HB4 y0 y1 y2 y3 y4 y5 y6 y7 y8 y9 y10 y11 y12 y13 hlt
          go_wp2_with fail
          refine (awake_any _).mono ?_; rintro e w11 ⟨rfl, hb11⟩
          have HBZ := Lib.hid (HB5.out.trans (hb11.mono HB5.out.size))
          go_wp2_with fail
          go_ret
          exact ⟨rfl, HBZ.out⟩
end

end Go.Proofs.Ytgafnomfdnbblaa
