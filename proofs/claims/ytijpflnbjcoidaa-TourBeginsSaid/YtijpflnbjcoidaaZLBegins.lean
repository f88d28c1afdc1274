/- The law TourBegins: its walk. Printed by wip/tools/tovlb.py. -/
import Derived.Test.YtijpflnbjcoidaaZTovB
namespace Go.Proofs.Ytijpflnbjcoidaa
open Go.RowKit

set_option maxRecDepth 100000

/-- The row of each node's tree. -/
def WasR (ts : List Tp) (k : Nat) (rows : List (List Nat)) : Prop := rows.length = k ∧ ∀ j, j < k → ∃ t ∈ ts, j + 1 ∈ t.row ∧ rows[j]? = some t.row
theorem WasR.snoc {ts : List Tp} {k : Nat} {rows : List (List Nat)} {t : Tp} (h : WasR ts k rows) (ht : t ∈ ts) (hx : k + 1 ∈ t.row) : WasR ts (k + 1) (rows ++ [t.row]) := by
  refine ⟨by simp [h.1], fun j hj => ?_⟩
  by_cases e : j = k
  · subst e
    exact ⟨t, ht, hx, by rw [← h.1]; simp⟩
  · obtain ⟨s, hs, h1, h2⟩ := h.2 j (by omega)
    exact ⟨s, hs, h1, by rw [List.getElem?_append_left (by rw [h.1]; omega)]; exact h2⟩
/-- Behind a play, calls that read and rows of one's own. -/
structure YR (wV W : World) (V S T : Int) (p gb cap m : Nat) (g : Mg9) (ts : List Tp) : Prop where
  f : FM W V S T p gb cap m g ts
  o : Only p gb wV W
section
variable {w w' wV w0 : World} {zb m m0 m' b : Nat} {vc : Array Value} {V S T : Int} {n q p gb cap rb lb cr cl base : Nat} {gB : Nat → Nat} {g : Mg9} {ts : List Tp} {vr : Nat → Value} {rs : Nat → List (List Nat)} {gr : Nat → List (Option (Nat × Nat))} {v : Value} {rows : List (List Nat)}
theorem YR.lx (h : YR wV w V S T p gb cap m g ts) (hV : LX w0 wV zb vc V S T n q p gb cap rb lb cr cl base gB m0 g ts vr rs gr) : LX w0 w zb vc V S T n q p gb cap rb lb cr cl base gB m g ts vr rs gr := hV.tree h.f h.o
theorem YR.below (h : YR wV w V S T p gb cap m g ts) (hb : Below w.heap.size w w') : YR wV w' V S T p gb cap m g ts := ⟨h.f.below hb, h.o.trans (Only.of_below hb)⟩
theorem YR.drew (h : YR wV w V S T p gb cap m g ts) : YR wV w.drew V S T p gb cap m g ts := h.below (Below.refl _ _).drew
theorem YR.next (h : YR wV w V S T p gb cap m g ts) (hf : FM w' V S T p gb cap m' g ts) (ho : Only p gb w w') : YR wV w' V S T p gb cap m' g ts := ⟨hf, h.o.trans ho⟩
theorem YR.pq (h : YR wV w V S T p gb cap m g ts) (hV : LX w0 wV zb vc V S T n q p gb cap rb lb cr cl base gB m0 g ts vr rs gr) : PQ w q p rb lb n cr cl V S T := (h.lx hV).pl.pg.blk
theorem YR.own (h : YR wV w V S T p gb cap m g ts) (hv : RsI w wV.heap.size v rows) (hg : w.grownBy w' v.ownBlock) (hb : Below wV.heap.size w w') : YR wV w' V S T p gb cap m g ts := by
  obtain ⟨vs, hr, _⟩ := hv
  refine ⟨h.f.grown hg fun i ty cs hz hty => hr.ne_blk hz (by rcases hty with rfl | rfl <;> decide), ⟨hb.os.trans h.o.os, hb.tape.trans h.o.tape, hb.output.trans h.o.output, Nat.le_trans h.o.size hb.size, fun i hi h1 h2 => (hb.block i hi).trans (h.o.block i hi h1 h2)⟩⟩
theorem RsI.tree (hv : RsI w b v rows) (hT : TM w V S T p gb cap m g) (ho : Only p gb w w') : RsI w' b v rows := hv.kp (Kp.tree hT ho (by decide) (by decide)) (Kp.tree hT ho (by decide) (by decide))
end
/-- Between two nodes, ahead. -/
def B1 (wV : World) (V S T : Int) (p gb cap : Nat) (g : Mg9) (ts : List Tp) (n9 : Nat) (v i : Value) (W : World) : Prop := ∃ x rows m, 1 ≤ x ∧ x ≤ n9 + 1 ∧ i = .int .i64 ((x : Nat) : Int) ∧ m + (60000 + 300 * (n9 + 1 - x)) ≤ 950000 ∧ YR wV W V S T p gb cap m g ts ∧ RsI W wV.heap.size v rows ∧ WasR ts (x - 1) rows
/-- A play whose rows aren't told any more. -/
structure XS (w0 W : World) (zb : Nat) (vc : Array Value) (V S T : Int) (n q p gb cap rb lb cr cl base : Nat) (gB : Nat → Nat) (g : Mg9) (ts : List Tp) (vr : Nat → Value) (rs : Nat → List (List Nat)) (gr : Nat → List (Option (Nat × Nat))) (c : Nat) : Prop where
  pg : ∃ m, m + c ≤ 950000 ∧ PG W V S T n q p gb cap rb lb cr cl base gB m g ts vr rs gr
  z : Blk W zb 27 vc
  be : Below w0.heap.size w0 W
  hb : w0.heap.size ≤ base
  n96 : nN V S ≤ 96
section
variable {w w' w0 : World} {zb k k' x m m' : Nat} {vc : Array Value} {V S T : Int} {n q p gb cap rb lb cr cl base : Nat} {gB : Nat → Nat} {g g' : Mg9} {ts ts' : List Tp} {vr : Nat → Value} {rs : Nat → List (List Nat)} {gr : Nat → List (Option (Nat × Nat))} {t : Tp}
theorem GX.xs (h : GX w0 w zb vc V S T n q p gb cap rb lb cr cl base gB g ts vr rs gr k) : XS w0 w zb vc V S T n q p gb cap rb lb cr cl base gB g ts vr rs gr k := by
  obtain ⟨m, h1, h2⟩ := h
  exact ⟨⟨m, h1, h2.pl.pg⟩, h2.z, h2.be, h2.hb, h2.pl.n96⟩
theorem XS.below (h : XS w0 w zb vc V S T n q p gb cap rb lb cr cl base gB g ts vr rs gr k) (hb : Below w.heap.size w w') : XS w0 w' zb vc V S T n q p gb cap rb lb cr cl base gB g ts vr rs gr k := by
  obtain ⟨⟨m, h1, h2⟩, h3, h4, h5, h6⟩ := h
  exact ⟨⟨m, h1, h2.below hb⟩, h3.below hb h3.lt, h4.trans (hb.mono h4.size), h5, h6⟩
theorem XS.drew (h : XS w0 w zb vc V S T n q p gb cap rb lb cr cl base gB g ts vr rs gr k) : XS w0 w.drew zb vc V S T n q p gb cap rb lb cr cl base gB g ts vr rs gr k := h.below (Below.refl _ _).drew
theorem XS.less (h : XS w0 w zb vc V S T n q p gb cap rb lb cr cl base gB g ts vr rs gr k) (hk : k' ≤ k) : XS w0 w zb vc V S T n q p gb cap rb lb cr cl base gB g ts vr rs gr k' := by
  obtain ⟨⟨m, h1, h2⟩, h3, h4, h5, h6⟩ := h
  exact ⟨⟨m, by omega, h2⟩, h3, h4, h5, h6⟩
theorem XS.tree (h3 : Blk w zb 27 vc) (h4 : Below w0.heap.size w0 w) (h5 : w0.heap.size ≤ base) (h6 : nN V S ≤ 96) (h2 : PG w V S T n q p gb cap rb lb cr cl base gB m g ts vr rs gr) (hf : FM w' V S T p gb cap m' g' ts') (ho : Only p gb w w') (hm : m' + k ≤ 950000) : XS w0 w' zb vc V S T n q p gb cap rb lb cr cl base gB g' ts' vr rs gr k :=
  ⟨⟨m', hm, h2.tree hf ho⟩, h3.treap h2.fm.tm ho (by decide) (by decide), Only.below h4 ho h4.size (Nat.le_trans h5 h2.bp) (Nat.le_trans h5 h2.bg), h5, h6⟩
theorem XS.pq (h : XS w0 w zb vc V S T n q p gb cap rb lb cr cl base gB g ts vr rs gr k) : PQ w q p rb lb n cr cl V S T := by obtain ⟨m, _, h1⟩ := h.pg; exact h1.blk
theorem XS.qlt (h : XS w0 w zb vc V S T n q p gb cap rb lb cr cl base gB g ts vr rs gr k) : q < w.heap.size := Blk.lt h.pq
theorem XS.fi (h : XS w0 w zb vc V S T n q p gb cap rb lb cr cl base gB g ts vr rs gr k) : FI V S g (fun _ => 0) ts := by obtain ⟨m, _, h1⟩ := h.pg; exact h1.fm.fi
theorem XS.tm (h : XS w0 w zb vc V S T n q p gb cap rb lb cr cl base gB g ts vr rs gr k) : ∃ m, TM w V S T p gb cap m g := by obtain ⟨m, _, h1⟩ := h.pg; exact ⟨m, h1.fm.tm⟩
theorem XS.li {v : Value} {l : List Nat} (h : XS w0 w zb vc V S T n q p gb cap rb lb cr cl base gB g ts vr rs gr k) (ho : Only p gb w w') (hl : LI w v l) : LI w' v l := by obtain ⟨m, h1⟩ := h.tm; exact hl.onlyT h1 ho
theorem XS.rsi {v : Value} {b : Nat} {rows : List (List Nat)} (h : XS w0 w zb vc V S T n q p gb cap rb lb cr cl base gB g ts vr rs gr k) (ho : Only p gb w w') (hv : RsI w b v rows) : RsI w' b v rows := by
  obtain ⟨m, hT⟩ := h.tm
  exact hv.kp (Kp.tree hT ho (by decide) (by decide)) (Kp.tree hT ho (by decide) (by decide))
theorem xroot (h : XS w0 w zb vc V S T n q p gb cap rb lb cr cl base gB g ts vr rs gr (k + 96)) (ht : t ∈ ts) (hx : x ∈ t.row) {xI : Int} (hxI : xI = (x : Int)) :
    Calls Try.prog 12 #[vTr V S T p, .int .i64 xI] w fun e w' => e = .returned (.int .i64 (t.root : Int)) ∧ XS w0 w' zb vc V S T n q p gb cap rb lb cr cl base gB g ts vr rs gr k ∧ Only p gb w w' := by
  obtain ⟨⟨m, h1, h2⟩, h3, h4, h5, h6⟩ := h
  refine (hroot h2.fm ht hx (by omega) hxI).mono ?_
  rintro e w' ⟨rfl, h7, h8⟩
  exact ⟨rfl, XS.tree h3 h4 h5 h6 h2 h7 h8 (by omega), h8⟩
theorem xlist (h : XS w0 w zb vc V S T n q p gb cap rb lb cr cl base gB g ts vr rs gr (k + 192)) (ht : t ∈ ts) {xI : Int} (hxI : xI = (t.root : Int)) :
    Calls Try.prog 14 #[vTr V S T p, .int .i64 xI] w fun e w' => ∃ v, e = .returned v ∧ LI w' v t.row ∧ XS w0 w' zb vc V S T n q p gb cap rb lb cr cl base gB g ts vr rs gr k ∧ Only p gb w w' := by
  obtain ⟨⟨m, h1, h2⟩, h3, h4, h5, h6⟩ := h
  refine (hlist h2.fm ht (by omega) hxI).mono ?_
  rintro e w' ⟨v, rfl, h7, _, h8, h9⟩
  exact ⟨v, rfl, h7, XS.tree h3 h4 h5 h6 h2 h8 h9 (by omega), h9⟩
theorem xbegin {L u : Nat} {a c : List Nat} (h : XS w0 w zb vc V S T n q p gb cap rb lb cr cl base gB g ts vr rs gr (k + 2900)) (hL : (L : Int) < lv V) (hu : (u : Int) < V) (ht : t ∈ ts) (hx : t.row = a ++ Xn V L u :: c) (hm : k ≥ 50000) :
    Calls Try.prog 24 #[vTr V S T p, .int .i64 (L : Int), .int .i64 (u : Int)] w fun e w' => ∃ g' ts' t', e = .returned (.int .i64 ((t'.root : Nat) : Int)) ∧ XS w0 w' zb vc V S T n q p gb cap rb lb cr cl base gB g' ts' vr rs gr k ∧ t' ∈ ts' ∧ t'.row = Xn V L u :: (c ++ a) ∧ (∀ s ∈ ts, s ≠ t → s ∈ ts') ∧ Only p gb w w' := by
  obtain ⟨⟨m, h1, h2⟩, h3, h4, h5, h6⟩ := h
  refine (tbegin h2.fm hL hu ht hx (by omega)).mono ?_
  rintro e w' ⟨g', ts', t', rfl, A, M, R, K, O⟩
  exact ⟨g', ts', t', rfl, XS.tree h3 h4 h5 h6 h2 A O (by omega), M, R, K, O⟩
end
/-- Between two nodes, behind. -/
def B2 (w0 : World) (zb : Nat) (vc : Array Value) (V S T : Int) (n q p gb cap rb lb cr cl base : Nat) (gB : Nat → Nat) (g : Mg9) (ts : List Tp) (vr : Nat → Value) (rs : Nat → List (List Nat)) (gr : Nat → List (Option (Nat × Nat))) (w1 : World) (n9 : Nat) (v : Value) (rows : List (List Nat)) (i : Value) (W : World) : Prop := ∃ y, y ≤ n9 ∧ i = .int .i64 ((y : Int) + 1) ∧ XS w0 W zb vc V S T n q p gb cap rb lb cr cl base gB g ts vr rs gr (500 * (n9 - y)) ∧ RsI W w1.heap.size v rows
section
variable {V S T : Int} {da oa : Option Addr} {dl dc ol oc : Nat} {f : Nat → Nat} {fo : Nat → OpT}
set_option maxHeartbeats 16000000 in
theorem lbegins10 (lev : Int) (_b1 : -9223372036854775808 ≤ lev) (_b2 : lev ≤ 9223372036854775807) (us : Int) (_b3 : -9223372036854775808 ≤ us) (_b4 : us ≤ 9223372036854775807) (w : World) (hD : IsNum w da dl f) (hO : IsOpT w oa ol fo) :
    Calls Try.prog 7 #[vC10 V S T da dl dc oa ol oc, .int .i64 lev, .int .i64 us] w fun e w' => e = .returned (.bool true) ∧ Below w.heap.size w w' := by
  have HD := Lib.hid hD
  have HO := Lib.hid hO
  clear hD hO
  have HB1 : Hid (Below w.heap.size w (w.alloc (.cells #[.int .i64 V, .int .i64 S, .int .i64 T, .slice da dl dc, .slice oa ol oc] 27))) := Lib.hid ((Below.refl _ _).alloc (Nat.le_refl _) _)
  have HZ1 : Hid (Blk (w.alloc (.cells #[.int .i64 V, .int .i64 S, .int .i64 T, .slice da dl dc, .slice oa ol oc] 27)) w.heap.size 27 #[.int .i64 V, .int .i64 S, .int .i64 T, .slice da dl dc, .slice oa ol oc]) := Lib.hid (Blk.new _ _ _)
  go_enter Try.func7, Try.ntmps7
  go_wp2_with fail
  generalize w.heap.size = zb at HZ1 ⊢
  generalize w.alloc (.cells #[.int .i64 V, .int .i64 S, .int .i64 T, .slice da dl dc, .slice oa ol oc] 27) = W1 at HZ1 HB1 ⊢
  refine (right_case10 V S T da dl dc oa ol oc _).mono ?_; rintro e w2 ⟨rfl, hb2⟩
  have HB2 := Lib.hid (HB1.out.trans (hb2.mono HB1.out.size))
  have HZ2 := Lib.hid (HZ1.out.below hb2 HZ1.out.lt)
  clear HB1 HZ1 hb2
  cases hr : rgt10 V S T dl ol
  · go_wp2_with fail
    refine (awake_any10 _).mono ?_; rintro e w3 ⟨rfl, hb3⟩
    have HB3 := Lib.hid (HB2.out.trans (hb3.mono HB2.out.size))
    go_wp2_with fail
    go_ret
    exact ⟨rfl, HB3.out⟩
  have HG := Lib.hid (rgt10_yes hr)
  clear hr
  by_cases h1 : lev < 0
  · go_wp2_with fail
    refine (awake_any10 _).mono ?_; rintro e w3 ⟨rfl, hb3⟩
    have HB3 := Lib.hid (HB2.out.trans (hb3.mono HB2.out.size))
    go_wp2_with fail
    go_ret
    exact ⟨rfl, HB3.out⟩
  have g1 : ¬ lev < 0 := h1
  have z0 := HZ2.out.cell 0
  have z1 := HZ2.out.cell 1
  have z2 := HZ2.out.cell 2
  have zlt := HZ2.out.lt
  go_wp2_with fail
  refine (levels_yes V S T HG.out.r _).mono ?_; rintro e w2b ⟨rfl, hb2⟩
  replace HB2 := Lib.hid (HB2.out.trans (hb2.mono HB2.out.size))
  replace HZ2 := Lib.hid (HZ2.out.below hb2 HZ2.out.lt)
  clear z0 z1 z2 zlt hb2
  by_cases h2 : lv V ≤ lev
  · go_wp2_with fail
    refine (awake_any10 _).mono ?_; rintro e w3 ⟨rfl, hb3⟩
    have HB3 := Lib.hid (HB2.out.trans (hb3.mono HB2.out.size))
    go_wp2_with fail
    go_ret
    exact ⟨rfl, HB3.out⟩
  have g2 : ¬ lv V ≤ lev := h2
  by_cases h3 : us < 0
  · go_wp2_with fail
    refine (awake_any10 _).mono ?_; rintro e w3 ⟨rfl, hb3⟩
    have HB3 := Lib.hid (HB2.out.trans (hb3.mono HB2.out.size))
    go_wp2_with fail
    go_ret
    exact ⟨rfl, HB3.out⟩
  have g3 : ¬ us < 0 := h3
  by_cases h4 : V ≤ us
  · have z0 := HZ2.out.cell 0
    have zlt := HZ2.out.lt
    go_wp2_with fail
    refine (awake_any10 _).mono ?_; rintro e w3 ⟨rfl, hb3⟩
    have HB3 := Lib.hid (HB2.out.trans (hb3.mono HB2.out.size))
    go_wp2_with fail
    go_ret
    exact ⟨rfl, HB3.out⟩
  have g4 : ¬ V ≤ us := h4
  obtain ⟨L, rfl⟩ := Int.eq_ofNat_of_zero_le (show 0 ≤ lev by omega)
  obtain ⟨u, rfl⟩ := Int.eq_ofNat_of_zero_le (show 0 ≤ us by omega)
  have hlv : (L : Int) < lv V := by omega
  have huV : (u : Int) < V := by omega
  have z0 := HZ2.out.cell 0
  have z1 := HZ2.out.cell 1
  have z2 := HZ2.out.cell 2
  have z3 := HZ2.out.cell 3
  have z4 := HZ2.out.cell 4
  have zlt := HZ2.out.lt
  go_wp2_with fail
  refine (xbegun HG.out.r (HD.out.below HB2.out) HG.out.d HG.out.v HG.out.s HZ2.out HB2.out).mono ?_
  rintro e w3 ⟨n, q, p, gb, cap, rb, lb, cr, cl, base, gB, g0, ts0, vr0, rs0, gr0', rfl, hL⟩
  have HRel : Hid (LpT w zb #[.int .i64 V, .int .i64 S, .int .i64 T, .slice da dl dc, .slice oa ol oc] V S T n q p gb cap rb lb cr cl base gB ol (.int .i64 0) w3) := Lib.hid ⟨0, _, _, _, _, _, _, Nat.zero_le _, rfl, Nat.le_refl _, hL⟩
  clear z0 z1 z2 z3 z4 zlt HZ2 HB2
  have z4 := hL.z.cell 4
  have zlt := hL.z.lt
  clear hL
  have HOL := Lib.hid HG.out.o
  have holI : (ol : Int) ≤ 60 := by have := HG.out.o; omega
  go_wp2_with fail
  go_loopw [50] (fun i wr => LpT w zb #[.int .i64 V, .int .i64 S, .int .i64 T, .slice da dl dc, .slice oa ol oc] V S T n q p gb cap rb lb cr cl base gB ol i wr) (fun i _ => ol - (intOf i).toNat)
  case atStart => exact HRel.out
  case round =>
    clear HRel z4 zlt
    obtain ⟨k, m, g, ts, vr, rs, gr, hk, rfl, hm, hL⟩ := hrel
    have HL := Lib.hid hL
    have HMK := Lib.hid hm
    clear hL
    by_cases hkl : k < ol
    · obtain ⟨ob, off, rfl, hcell⟩ := HO.out (by omega)
      have hc := hcell k hkl
      obtain ⟨o, ho⟩ : ∃ o, fo k = o := ⟨_, rfl⟩
      rw [ho] at hc
      obtain ⟨kd, oa1, ob1, oc1, od1⟩ := o
      have c0 := cell_later HL.out.be hc.1
      have c1 := cell_later HL.out.be hc.2.1
      have c2 := cell_later HL.out.be hc.2.2.1
      have c3 := cell_later HL.out.be hc.2.2.2.1
      have c4 := cell_later HL.out.be hc.2.2.2.2.1
      have hkI : (k : Int) < (ol : Int) := by omega
      have hk0 : (0 : Int) ≤ (k : Int) := by omega
      have HM1 : Hid (m ≤ 700000) := Lib.hid (by have := HOL.out; omega)
      have HLa := Lib.hid (HL.out.below ((Below.refl _ _).alloc (Nat.le_refl _) (.cells #[.int .i64 kd, .int .i64 oa1, .int .i64 ob1, .int .i64 oc1, .int .i64 od1] 33)))
      clear hc ho hcell HL hm
      go_wp2_with fail
      refine (xstep HLa.out HM1.out).mono ?_
      rintro e w5 ⟨rfl, g', ts', vr', rs', gr', hL5⟩
      have HL5 := Lib.hid hL5
      clear hL5 HLa c0 c1 c2 c3 c4
      go_wp2_with fail
      go_roundw
      case rel => exact ⟨k + 1, _, g', ts', vr', rs', gr', hkl, by simp, by have := HMK.out; omega, HL5.out⟩
      case measure => simp [intOf]; omega
    · have ek : ol = k := by omega
      subst ek
      have hkI : ¬ (ol : Int) < (ol : Int) := by omega
      have HM1 : Hid (m ≤ 661000) := Lib.hid (by have := HOL.out; omega)
      have hn4 := HL.out.pl.n4
      have HV8 := Lib.hid (And.intro HL.out.pl.v8 HL.out.pl.s8)
      have HNI := Lib.hid HL.out.pl.pg.hn
      obtain ⟨wO, rfl⟩ : ∃ w1 : World, w1 = wr := ⟨_, rfl⟩
      have HLV := Lib.hid HL.out.pl.lv
      have HFI := Lib.hid HL.out.pl.fi
      have HR := Lib.hid HL.out.pl.hR
      have HRW : Hid (∀ L, L < n → ∀ r ∈ rs L, r.length ≤ 96) := Lib.hid fun L hL r hr => HL.out.pl.row_len hL hr
      have HRN : Hid (∀ L, L < n → (rs L).length ≤ 96) := Lib.hid fun L hL => HL.out.pl.rows_len hL
      obtain ⟨sn, hsn⟩ : ∃ x, S.toNat = x := ⟨_, rfl⟩
      have HSN := Lib.hid hsn
      have HSI : Hid ((sn : Int) = S) := Lib.hid (by have := HL.out.pl.hR.s1; omega)
      have hS8I : (sn : Int) ≤ 8 := by have := HV8.out.2; have := HSI.out; omega
      clear hsn
      have hn4I : (n : Int) ≤ 4 := by omega
      have HFL : Hid (∀ L, L < n → (rs L).flatten.length ≤ 96) := Lib.hid fun L hL => HL.out.pl.flat hL
      clear hk hkl hm
      obtain ⟨n9, hn9⟩ : ∃ x, nN V S = x := ⟨_, rfl⟩
      have HN9 := Lib.hid hn9
      have hn96 : n9 ≤ 96 := by rw [← hn9]; exact HL.out.pl.n96
      have hl : L < n := by have := HNI.out; omega
      obtain ⟨r0, hr0, hxr0⟩ := (HLV.out L hl).cov u huV
      obtain ⟨t0, ht0, rt0⟩ := (HLV.out L hl).has r0 hr0
      obtain ⟨pa, pc, epp⟩ := List.append_of_mem hxr0
      have HT := Lib.hid (And.intro ht0 (show t0.row = pa ++ Xn V L u :: pc from rt0.trans epp))
      have HG0 := Lib.hid (HL.out)
      have HMM : Hid (m + 200000 ≤ 950000) := Lib.hid (by have := HM1.out; omega)
      clear HL HMK HM1 hn9 hr0 hxr0 ht0 rt0 epp
      have z0 := HG0.out.z.cell 0
      have z1 := HG0.out.z.cell 1
      have z2 := HG0.out.z.cell 2
      have zlt := HG0.out.z.lt
      go_wp2_with fail
      refine (vert_at HR.out hlv huV _).mono ?_; rintro e wV ⟨rfl, hbV⟩
      have HV := Lib.hid (HG0.out.below hbV)
      obtain ⟨X9, hX9⟩ : ∃ X, Xn V L u = X := ⟨_, rfl⟩
      have HX9 := Lib.hid hX9
      rw [hX9]
      have HB0 : Hid (B1 wV V S T p gb cap g ts n9 (.slice none 0 0) (.int .i64 1) wV) := Lib.hid ⟨1, [], m, Nat.le_refl _, by omega, rfl, by have := HMM.out; omega, ⟨HV.out.pl.pg.fm, Only.refl _ _ _⟩, RsI.nil _ _, ⟨rfl, fun j hj => absurd hj (Nat.not_lt_zero _)⟩⟩
      clear HG0 hbV z0 z1 z2 zlt hX9
      go_wp2_with fail
      go_loopw [11, 12] (fun v i wr => B1 wV V S T p gb cap g ts n9 v i wr) (fun _ i _ => n9 + 1 - (intOf i).toNat)
      case atStart => exact HB0.out
      case round =>
        clear HB0
        obtain ⟨x, rows, m1, hx1, hx2, rfl, hm1, hY, hrs, hwas⟩ := hrel
        have HA := Lib.hid hY
        have HRS := Lib.hid hrs
        have HWA := Lib.hid hwas
        have HM1 := Lib.hid hm1
        obtain ⟨wA, rfl⟩ : ∃ w1 : World, w1 = wr := ⟨_, rfl⟩
        have HZA := Lib.hid (HA.out.lx HV.out).z
        have z0 := HZA.out.cell 0
        have z1 := HZA.out.cell 1
        have z2 := HZA.out.cell 2
        have zlt := HZA.out.lt
        clear hY hrs hwas hm1
        go_wp2_with fail
        refine (lnodes HR.out _).mono ?_; rintro e w6 ⟨rfl, hb6⟩
        rw [HN9.out]
        have H6 := Lib.hid (HA.out.below hb6)
        have HR6 := Lib.hid (HRS.out.below hb6)
        clear HA HRS HZA hb6 z0 z1 z2 zlt
        by_cases hxn : x ≤ n9
        · have hxI : (x : Int) ≤ (n9 : Int) := by omega
          have hx96 : (x : Int) ≤ 96 := by omega
          obtain ⟨t, ht, hxt⟩ := HFI.out.has (x := x) (by omega) (by have := HN9.out; omega)
          have HTx := Lib.hid (And.intro ht hxt)
          have hrl : rows.length ≤ 96 := by have := HWA.out.1; omega
          have HRL := Lib.hid hrl
          obtain ⟨rav, rcv, hrv⟩ := HR6.out.slice
          obtain ⟨rn, hrn⟩ : ∃ N, rows.length = N := ⟨_, rfl⟩
          rw [hrn] at hrv
          subst hrv
          have Hd := Lib.hid H6.out.drew
          have HRd : Hid (RsI w6.drew wV.heap.size (.slice rav rn rcv) rows) := Lib.hid (HR6.out.below (Below.refl _ _).drew)
          have HPd := Lib.hid (Hd.out.pq HV.out)
          have hrule := PQ.rule q p rb lb n cr cl V S T
          clear ht hxt hrl H6 HR6 hrn
          obtain ⟨y0, y1, y2, y3, y4, y5, y6, y7, y8, y9, y10⟩ := hrule _ HPd.out
          have qlt := Blk.lt HPd.out
          go_wp2_with fail
          refine wp_region_held_drew (S := (fun W => PQ W q p rb lb n cr cl V S T)) (by kernel_rfl) ?_ (fun hHeld => ?_)
          · exact HPd.out
          refine wpAnyH_take (i := 0) (v := ?_) rfl (by kernel_rfl) (by kernel_rfl) (by kernel_rfl) (fun _ _ _ h => h) (Or.inl ⟨by rfl, ?_⟩) (by assumption) ?_
          rotate_left
          · (intro w hSw; (try dsimp only at hSw); go_simp; try with_reducible rfl)
          try simp only [Act.put, List.setIfInBounds_toArray, List.set_cons_zero, List.set_cons_succ, List.getElem_toArray, List.getElem_cons_zero]
          refine wpAnyH_take (i := 1) (v := ?_) rfl (by kernel_rfl) (by kernel_rfl) (by kernel_rfl) (fun _ _ _ h => h) (Or.inl ⟨by rfl, ?_⟩) (by assumption) ?_
          rotate_left
          · (intro w hSw; (try dsimp only at hSw); go_simp; try with_reducible rfl)
          try simp only [Act.put, List.setIfInBounds_toArray, List.set_cons_zero, List.set_cons_succ, List.getElem_toArray, List.getElem_cons_zero, List.getElem_cons_succ]
          refine wpAnyH_take (i := 2) (v := ?_) rfl (by kernel_rfl) (by kernel_rfl) (by kernel_rfl) (fun _ _ _ h => h) (Or.inl ⟨by rfl, ?_⟩) (by assumption) ?_
          rotate_left
          · (intro w hSw; (try dsimp only at hSw); go_simp; try with_reducible rfl)
          try simp only [Act.put, List.setIfInBounds_toArray, List.set_cons_zero, List.set_cons_succ, List.getElem_toArray, List.getElem_cons_zero, List.getElem_cons_succ]
          refine wpAnyH_take (i := 3) (v := ?_) rfl (by kernel_rfl) (by kernel_rfl) (by kernel_rfl) (fun _ _ _ h => h) (Or.inl ⟨by rfl, ?_⟩) (by assumption) ?_
          rotate_left
          · (intro w hSw; (try dsimp only at hSw); go_simp; try with_reducible rfl)
          try simp only [Act.put, List.setIfInBounds_toArray, List.set_cons_zero, List.set_cons_succ, List.getElem_toArray, List.getElem_cons_zero, List.getElem_cons_succ]
          refine wpAnyH_take (i := 4) (v := ?_) rfl (by kernel_rfl) (by kernel_rfl) (by kernel_rfl) (fun _ _ _ h => h) (Or.inl ⟨by rfl, ?_⟩) (by assumption) ?_
          rotate_left
          · (intro w hSw; (try dsimp only at hSw); go_simp; try with_reducible rfl)
          try simp only [Act.put, List.setIfInBounds_toArray, List.set_cons_zero, List.set_cons_succ, List.getElem_toArray, List.getElem_cons_zero, List.getElem_cons_succ]
          refine wpAnyH_take (i := 5) (v := ?_) rfl (by kernel_rfl) (by kernel_rfl) (by kernel_rfl) (fun _ _ _ h => h) (Or.inl ⟨by rfl, ?_⟩) (by assumption) ?_
          rotate_left
          · (intro w hSw; (try dsimp only at hSw); go_simp; try with_reducible rfl)
          try simp only [Act.put, List.setIfInBounds_toArray, List.set_cons_zero, List.set_cons_succ, List.getElem_toArray, List.getElem_cons_zero, List.getElem_cons_succ]
          refine wpAnyH_take (i := 6) (v := ?_) rfl (by kernel_rfl) (by kernel_rfl) (by kernel_rfl) (fun _ _ _ h => h) (Or.inl ⟨by rfl, ?_⟩) (by assumption) ?_
          rotate_left
          · (intro w hSw; (try dsimp only at hSw); go_simp; try with_reducible rfl)
          try simp only [Act.put, List.setIfInBounds_toArray, List.set_cons_zero, List.set_cons_succ, List.getElem_toArray, List.getElem_cons_zero, List.getElem_cons_succ]
          refine wpAnyH_take (i := 7) (v := ?_) rfl (by kernel_rfl) (by kernel_rfl) (by kernel_rfl) (fun _ _ _ h => h) (Or.inl ⟨by rfl, ?_⟩) (by assumption) ?_
          rotate_left
          · (intro w hSw; (try dsimp only at hSw); go_simp; try with_reducible rfl)
          try simp only [Act.put, List.setIfInBounds_toArray, List.set_cons_zero, List.set_cons_succ, List.getElem_toArray, List.getElem_cons_zero, List.getElem_cons_succ]
          refine wpAnyH_take (i := 8) (v := ?_) rfl (by kernel_rfl) (by kernel_rfl) (by kernel_rfl) (fun _ _ _ h => h) (Or.inl ⟨by rfl, ?_⟩) (by assumption) ?_
          rotate_left
          · (intro w hSw; (try dsimp only at hSw); go_simp; try with_reducible rfl)
          try simp only [Act.put, List.setIfInBounds_toArray, List.set_cons_zero, List.set_cons_succ, List.getElem_toArray, List.getElem_cons_zero, List.getElem_cons_succ]
          refine wpAnyH_take (i := 9) (v := ?_) rfl (by kernel_rfl) (by kernel_rfl) (by kernel_rfl) (fun _ _ _ h => h) (Or.inl ⟨by rfl, ?_⟩) (by assumption) ?_
          rotate_left
          · (intro w hSw; (try dsimp only at hSw); go_simp; try with_reducible rfl)
          try simp only [Act.put, List.setIfInBounds_toArray, List.set_cons_zero, List.set_cons_succ, List.getElem_toArray, List.getElem_cons_zero, List.getElem_cons_succ]
          refine wpAnyH_take (i := 10) (v := ?_) rfl (by kernel_rfl) (by kernel_rfl) (by kernel_rfl) (fun _ _ _ h => h) (Or.inl ⟨by rfl, ?_⟩) (by assumption) ?_
          rotate_left
          · (intro w hSw; (try dsimp only at hSw); go_simp; try with_reducible rfl)
          try simp only [Act.put, List.setIfInBounds_toArray, List.set_cons_zero, List.set_cons_succ, List.getElem_toArray, List.getElem_cons_zero, List.getElem_cons_succ]
          refine wpAnyH_take (i := 11) (v := ?_) rfl (by kernel_rfl) (by kernel_rfl) (by kernel_rfl) (fun _ _ _ h => h) (Or.inl ⟨by rfl, ?_⟩) (by assumption) ?_
          rotate_left
          · (intro w hSw; (try dsimp only at hSw); go_simp; try with_reducible rfl)
          try simp only [Act.put, List.setIfInBounds_toArray, List.set_cons_zero, List.set_cons_succ, List.getElem_toArray, List.getElem_cons_zero, List.getElem_cons_succ]
          refine wpAnyH_ready (rs := [12]) (by kernel_rfl) (by simp) ?_
          refine AllReadyH.cons rfl (fun K hK => ?_) ?_
          rotate_left
          · exact AllReadyH.nil
          go_simp
          (refine (hroot Hd.out.f HTx.out.1 HTx.out.2 (by have := HM1.out; omega) rfl).mono ?_; rintro e w7 ⟨rfl, F7, O7⟩; have H7 := Lib.hid (Hd.out.next F7 O7); have HR7 := Lib.hid (HRd.out.tree Hd.out.f.tm O7))
          go_wp2_with fail
          refine hK.out _ _ ?_ (fun hHeld => ?_)
          · (try dsimp only); exact H7.out.pq HV.out
          clear hK K
          try simp only [Act.put, List.setIfInBounds_toArray, List.set_cons_zero, List.set_cons_succ, List.getElem_toArray, List.getElem_cons_zero, List.getElem_cons_succ]
          refine wpAnyH_ready (rs := [13]) (by kernel_rfl) (by simp) ?_
          refine AllReadyH.cons rfl (fun K hK => ?_) ?_
          rotate_left
          · exact AllReadyH.nil
          go_simp
          (refine (hlist H7.out.f HTx.out.1 (by have := HM1.out; have := HN9.out; omega) rfl).mono ?_; rintro e w8 ⟨v8, rfl, L8, _, F8, O8⟩; have H8 := Lib.hid (H7.out.next F8 O8); have HR8 := Lib.hid (HR7.out.tree H7.out.f.tm O8); have HL8 := Lib.hid L8; obtain ⟨a8, c8, hv8, _⟩ := HL8.out.shape; obtain ⟨n8, hn8⟩ : ∃ N, t.row.length = N := ⟨_, rfl⟩; rw [hn8] at hv8; subst hv8; have HS8 := Lib.hid H8.out.o.size)
          go_wp2_with fail
          refine hK.out _ _ ?_ (fun hHeld => ?_)
          · (try dsimp only); exact H8.out.pq HV.out
          clear hK K
          try simp only [Act.put, List.setIfInBounds_toArray, List.set_cons_zero, List.set_cons_succ, List.getElem_toArray, List.getElem_cons_zero, List.getElem_cons_succ]
          refine wpAnyH_ready (rs := [14]) (by kernel_rfl) (by simp) ?_
          refine AllReadyH.cons rfl (fun K hK => ?_) ?_
          rotate_left
          · exact AllReadyH.nil
          go_simp
          refine hK.out _ _ ?_ (fun hHeld => ?_)
          · (try dsimp only); exact (H8.out.below ((Below.refl _ _).alloc (Nat.le_refl _) (.cells #[.slice a8 n8 c8] 48))).pq HV.out
          clear hK K
          try simp only [Act.put, List.setIfInBounds_toArray, List.set_cons_zero, List.set_cons_succ, List.getElem_toArray, List.getElem_cons_zero, List.getElem_cons_succ]
          refine wpAnyH_ready (rs := [15]) (by kernel_rfl) (by simp) ?_
          refine AllReadyH.cons rfl (fun K hK => ?_) ?_
          rotate_left
          · exact AllReadyH.nil
          refine step_append_rsi (by rfl) _ _ (by rfl) rfl (HR8.out.alloc (.cells #[.slice a8 n8 c8] 48)) [_] rfl (one_news (HL8.out.alloc (.cells #[.slice a8 n8 c8] 48)) (cell_new1 _ _ _)).1 ⟨w8.heap.size, 0, none⟩ 1 1 rfl rfl (one_news (HL8.out.alloc (.cells #[.slice a8 n8 c8] 48)) (cell_new1 _ _ _)).2 (by have := HRL.out; simp; omega) (Nat.le_trans HS8.out (by simp)) ?_
          intro v9 w9 hR9 hg9
          have HB9 : Hid (Below wV.heap.size (w8.alloc (.cells #[.slice a8 n8 c8] 48)) w9) := Lib.hid ((Below.refl _ _).grown hg9 (Nat.le_trans HS8.out (by simp)) (fun r hr => ((HR8.out.alloc (.cells #[.slice a8 n8 c8] 48)).lt r hr).1))
          have H9 := Lib.hid ((H8.out.below ((Below.refl _ _).alloc (Nat.le_refl _) (.cells #[.slice a8 n8 c8] 48))).own (HR8.out.alloc (.cells #[.slice a8 n8 c8] 48)) hg9 HB9.out)
          have HR9 := Lib.hid hR9
          clear hR9 hg9
          refine hK.out _ _ ?_ (fun hHeld => ?_)
          · (try dsimp only); exact H9.out.pq HV.out
          clear hK K
          try simp only [Act.put, List.setIfInBounds_toArray, List.set_cons_zero, List.set_cons_succ, List.getElem_toArray, List.getElem_cons_zero, List.getElem_cons_succ]
          refine wpAnyH_take (i := 16) (v := ?_) rfl (by kernel_rfl) (by kernel_rfl) (by kernel_rfl) (fun _ _ _ h => h) (Or.inl ⟨by rfl, ?_⟩) (by assumption) ?_
          rotate_left
          · (intro w hSw; (try dsimp only at hSw); go_simp; try with_reducible rfl)
          try simp only [Act.put, List.setIfInBounds_toArray, List.set_cons_zero, List.set_cons_succ, List.getElem_toArray, List.getElem_cons_zero, List.getElem_cons_succ]
          refine wpAnyH_done (by kernel_rfl) ?_ _
          clear Hd HRd HPd H7 HR7 H8 HR8 HB9 hrule y0 y1 y2 y3 y4 y5 y6 y7 y8 y9 y10 qlt
          go_wp2_with fail
          go_roundw
          case rel => exact ⟨x + 1, rows ++ [t.row], _, by omega, by omega, by simp, by have := HM1.out; have := HN9.out; omega, H9.out, HR9.out, by
            have h := WasR.snoc HWA.out HTx.out.1 (by rw [show x - 1 + 1 = x by omega]; exact HTx.out.2)
            rwa [show x - 1 + 1 = x + 1 - 1 by omega] at h⟩
          case measure => simp [intOf]; omega
        · have ex : x = n9 + 1 := by omega
          subst ex
          have hxI : ¬ ((n9 : Int) + 1) ≤ (n9 : Int) := by omega
          have HX6 := Lib.hid (((H6.out.lx HV.out).gx (k := 56000 + 96 + 2900) (by have := HM1.out; omega)).xs)
          obtain ⟨rav, rcv, hrv⟩ := HR6.out.slice
          obtain ⟨rn, hrn⟩ : ∃ N, rows.length = N := ⟨_, rfl⟩
          have HRN9 := Lib.hid hrn
          rw [hrn] at hrv
          subst hrv
          clear H6 hrn
          obtain ⟨y0, y1, y2, y3, y4, y5, y6, y7, y8, y9, y10⟩ := PQ.rule _ _ _ _ _ _ _ _ _ _ _ HX6.out.pq
          have qlt := HX6.out.qlt
          go_wp2_with fail
          refine (xbegin (k := 56000 + 96) HX6.out hlv huV HT.out.1 HT.out.2 (by omega)).mono ?_
          rintro e w7 ⟨g', ts', t', rfl, G7, M7, R7, K7, O7⟩
          have H7 := Lib.hid G7
          have HR7 := Lib.hid (HX6.out.rsi O7 HR6.out)
          rw [HX9.out] at R7
          have HT7 := Lib.hid (And.intro M7 (And.intro R7 K7))
          clear G7 M7 R7 K7 O7 HX6 HR6 y0 y1 y2 y3 y4 y5 y6 y7 y8 y9 y10 qlt
          obtain ⟨y0, y1, y2, y3, y4, y5, y6, y7, y8, y9, y10⟩ := PQ.rule _ _ _ _ _ _ _ _ _ _ _ H7.out.pq
          have qlt := H7.out.qlt
          go_wp2_with fail
          refine (xroot H7.out HT7.out.1 (x := X9) (by rw [HT7.out.2.1]; simp) rfl).mono ?_; rintro e w8 ⟨rfl, G8, O8⟩
          have H8 := Lib.hid G8
          have HR8 := Lib.hid (H7.out.rsi O8 HR7.out)
          have hcc : ((t'.root : Int) != (t'.root : Int)) = false := bne_self_eq_false _
          clear G8 O8 H7 HR7 y0 y1 y2 y3 y4 y5 y6 y7 y8 y9 y10 qlt
          have HB2 : Hid (B2 w zb #[.int .i64 V, .int .i64 S, .int .i64 T, .slice da dl dc, .slice oa ol oc] V S T n q p gb cap rb lb cr cl base gB g' ts' vr rs gr wV n9 (.slice rav rn rcv) rows (.int .i64 1) w8) := Lib.hid ⟨0, Nat.zero_le _, by simp, H8.out.less (by omega), HR8.out⟩
          have HFI2 := Lib.hid H8.out.fi
          clear H8 HR8
          go_wp2_with fail
          clear hcc
          go_loopw [14] (fun i wr => B2 w zb #[.int .i64 V, .int .i64 S, .int .i64 T, .slice da dl dc, .slice oa ol oc] V S T n q p gb cap rb lb cr cl base gB g' ts' vr rs gr wV n9 (.slice rav rn rcv) rows i wr) (fun i _ => n9 + 1 - (intOf i).toNat)
          case atStart => exact HB2.out
          case round =>
            clear HB2
            obtain ⟨y, hy, rfl, hX, hrs⟩ := hrel
            have HA := Lib.hid hX
            have HRS := Lib.hid hrs
            obtain ⟨wA, rfl⟩ : ∃ w1 : World, w1 = wr := ⟨_, rfl⟩
            have z0 := HA.out.z.cell 0
            have z1 := HA.out.z.cell 1
            have z2 := HA.out.z.cell 2
            have zlt := HA.out.z.lt
            clear hX hrs
            go_wp2_with fail
            refine (lnodes HR.out _).mono ?_; rintro e w6 ⟨rfl, hb6⟩
            rw [HN9.out]
            have H6 := Lib.hid (HA.out.below hb6)
            have HR6 := Lib.hid (HRS.out.below hb6)
            clear HA HRS hb6 z0 z1 z2 zlt
            by_cases hyn : y < n9
            · have yI : (y : Int) + 1 ≤ (n9 : Int) := by omega
              have y96 : (y : Int) ≤ 96 := by omega
              have y00 : (0 : Int) ≤ (y : Int) := by omega
              obtain ⟨s, hs, hxs⟩ := HFI2.out.has (x := y + 1) (by omega) (by have := HN9.out; omega)
              have HS := Lib.hid (And.intro hs hxs)
              obtain ⟨t, ht, hxt, hrow⟩ := HWA.out.2 y (by omega)
              have HTO := Lib.hid (And.intro ht hxt)
              have hyr : (y : Int) < (rn : Int) := by have h1 := HWA.out.1; have h2 := HRN9.out; omega
              have HROW := Lib.hid hrow
              have hst : s = t' ∧ t = t0 ∨ s ≠ t' ∧ t ≠ t0 ∧ s = t := by
                have key : ∀ z, z ∈ t'.row ↔ z ∈ t0.row := fun z => by
                  rw [HT7.out.2.1, HT.out.2, HX9.out]
                  simp only [List.mem_append, List.mem_cons]
                  constructor
                  · rintro (h | h | h) <;> simp [h]
                  · rintro (h | h | h) <;> simp [h]
                by_cases e : s = t'
                · exact .inl ⟨e, HFI.out.uniq ht HT.out.1 hxt ((key _).1 (e ▸ hxs))⟩
                · have e2 : t ≠ t0 := fun e2 => e (HFI2.out.uniq hs HT7.out.1 hxs ((key _).2 (e2 ▸ hxt)))
                  exact .inr ⟨e, e2, HFI2.out.uniq hs (HT7.out.2.2 t ht e2) hxs hxt⟩
              have HST := Lib.hid hst
              obtain ⟨K, hK⟩ : ∃ K, 500 * (n9 - (y + 1)) = K := ⟨_, rfl⟩
              have HK := Lib.hid hK
              have Hd := Lib.hid (H6.out.less (k' := K + 96 + 192 + 96) (by omega)).drew
              have HRd : Hid (RsI w6.drew wV.heap.size (.slice rav rn rcv) rows) := Lib.hid (HR6.out.below (Below.refl _ _).drew)
              have hrule := PQ.rule q p rb lb n cr cl V S T
              have HSL : Hid (s.row.length ≤ 1000 ∧ t.row.length ≤ 1000) := Lib.hid (by
                have h1 := HFI2.out.size hs
                have h2 := HFI.out.size ht
                have h3 := HN9.out
                unfold Tp.size at h1 h2; omega)
              clear hs hxs ht hxt hrow hst hK H6 HR6
              obtain ⟨y0, y1, y2, y3, y4, y5, y6, y7, y8, y9, y10⟩ := PQ.rule _ _ _ _ _ _ _ _ _ _ _ Hd.out.pq
              have qlt := Hd.out.qlt
              go_wp2_with fail
              go_region_held3 (fun W => PQ W q p rb lb n cr cl V S T) (first | (with_reducible assumption) | (with_reducible exact H8.out.pq) | (with_reducible exact H7.out.pq) | (with_reducible exact Hd.out.pq))
                (first
                  | (go_at_call 12; ((with_reducible refine (xroot Hd.out HS.out.1 HS.out.2 (by simp)).mono ?_); rintro e w7 ⟨rfl, G7, O7⟩; have H7 := Lib.hid G7; have HR7 := Lib.hid (Hd.out.rsi O7 HRd.out)))
                  | (go_at_call 14; ((with_reducible refine (xlist H7.out HS.out.1 rfl).mono ?_); rintro e w8 ⟨v8, rfl, L8, G8, O8⟩; have H8 := Lib.hid G8; have HR8 := Lib.hid (H7.out.rsi O8 HR7.out); have HL8 := Lib.hid L8)))
              clear hrule Hd HRd H7 HR7 y0 y1 y2 y3 y4 y5 y6 y7 y8 y9 y10 qlt
              obtain ⟨rg, c2, a1, c1, e1, rglt, ck, hli⟩ := HR8.out.at HROW.out
              rw [HRN9.out] at e1
              injection e1 with e1 e2 e3
              subst e1 e3
              have HLW := Lib.hid hli
              obtain ⟨la8, lc8, hv8, _⟩ := HL8.out.shape
              obtain ⟨n8, hn8⟩ : ∃ N, s.row.length = N := ⟨_, rfl⟩
              rw [hn8] at hv8
              subst hv8
              obtain ⟨n7, hn7⟩ : ∃ N, t.row.length = N := ⟨_, rfl⟩
              rw [hn7] at ck HLW
              clear hli e2 hn8 hn7
              obtain ⟨y0, y1, y2, y3, y4, y5, y6, y7, y8, y9, y10⟩ := PQ.rule _ _ _ _ _ _ _ _ _ _ _ H8.out.pq
              have qlt := H8.out.qlt
              go_wp2_with fail
              refine (xroot H8.out HS.out.1 HS.out.2 (by simp)).mono ?_; rintro e w9 ⟨rfl, G9, O9⟩
              have H9 := Lib.hid G9
              have HR9 := Lib.hid (H8.out.rsi O9 HR8.out)
              have HL9 := Lib.hid (H8.out.li O9 HL8.out)
              have HW9 := Lib.hid (H8.out.li O9 HLW.out)
              clear G9 O9 H8 HR8 HL8 HLW ck rglt y0 y1 y2 y3 y4 y5 y6 y7 y8 y9 y10 qlt
              rcases HST.out with ⟨hst1, hst2⟩ | ⟨hst1, hst2, hst3⟩
              · subst hst1 hst2
                have hcc : ((s.root : Int) == (s.root : Int)) = true := beq_self_eq_true _
                have HW10 : Hid (LI w9 (.slice a1 n7 c1) (pa ++ X9 :: pc)) := Lib.hid (LI.cong HW9.out (by rw [HT.out.2, HX9.out]))
                have HND : Hid ((pa ++ X9 :: pc).Nodup ∧ (pa ++ X9 :: pc).length ≤ 1000) := Lib.hid (by rw [← HX9.out, ← HT.out.2]; exact ⟨HFI.out.one HT.out.1, HSL.out.2⟩)
                clear HW9
                go_wp2_with fail
                refine (begun_row HW10.out HND.out.1 (by have := HND.out.2; omega)).mono ?_; rintro e w10 ⟨v10, rfl, hr10, hb10⟩
                have H10 := Lib.hid (H9.out.below hb10)
                have HR10 := Lib.hid (HR9.out.below hb10)
                have HL10 := Lib.hid (HL9.out.below hb10)
                have HV10 : Hid (LI w10 v10 s.row) := Lib.hid (LI.cong hr10.li (by rw [HT7.out.2.1]; rfl))
                clear hr10 hb10 H9 HR9 HL9 HW10
                obtain ⟨va, vc', hv10, _⟩ := HV10.out.shape
                obtain ⟨n10, hn10⟩ : ∃ N, s.row.length = N := ⟨_, rfl⟩
                rw [hn10] at hv10
                subst hv10
                clear hn10
                go_wp2_with fail
                refine (same_yes HL10.out HV10.out (by have := HSL.out.1; omega)).mono ?_; rintro e w11 ⟨rfl, hb11⟩
                have H11 := Lib.hid (H10.out.below hb11)
                have HR11 := Lib.hid (HR10.out.below hb11)
                clear H10 HR10 HL10 HV10 hb11 hcc
                go_wp2_with fail
                go_roundw
                case rel => exact ⟨y + 1, hyn, by simp, H11.out.less (by have := HK.out; omega), HR11.out⟩
                case measure => simp [intOf]; omega
              · subst hst3
                have hcc : ((s.root : Int) == (t'.root : Int)) = false := beq_eq_false_iff_ne.2 (fun e => hst1 (HFI2.out.root_eq HS.out.1 HT7.out.1 (by omega)))
                go_wp2_with fail
                refine (same_yes HL9.out HW9.out (by have := HSL.out.1; omega)).mono ?_; rintro e w11 ⟨rfl, hb11⟩
                have H11 := Lib.hid (H9.out.below hb11)
                have HR11 := Lib.hid (HR9.out.below hb11)
                clear H9 HR9 HL9 HW9 hb11 hcc
                go_wp2_with fail
                go_roundw
                case rel => exact ⟨y + 1, hyn, by simp, H11.out.less (by have := HK.out; omega), HR11.out⟩
                case measure => simp [intOf]; omega
            · have ey : y = n9 := by omega
              subst ey
              have yI : ¬ (y : Int) + 1 ≤ (y : Int) := by omega
              clear hy hyn
              go_wp2_with fail
              refine (awake_any10 _).mono ?_; rintro e w9 ⟨rfl, hb9⟩
              have HBE := Lib.hid ((H6.out.below hb9).be)
              go_wp2_with fail
              go_ret
              exact ⟨rfl, HBE.out⟩
end

end Go.Proofs.Ytijpflnbjcoidaa
