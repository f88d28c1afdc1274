/- A case that came in, opened; the law's right. -/
import Derived.Test.YtahabfjngeicmaaZH
import Derived.Test.YtahabfjngeicmaaZF
namespace Go.Proofs.Ytahabfjngeicmaa
open Go.RowKit Go.ChangeShapes Go.WideShapes Go.Deep Go.Joins

set_option maxRecDepth 100000

/-- A call. -/
structure OpT where
  kd : Int
  a : Int
  b : Int
  c : Int
  d : Int
/-- Its numbers fit. -/
def OpT.fit (o : OpT) : Prop := (-9223372036854775808 ≤ o.a ∧ o.a ≤ 9223372036854775807) ∧ (-9223372036854775808 ≤ o.b ∧ o.b ≤ 9223372036854775807) ∧ (-9223372036854775808 ≤ o.c ∧ o.c ≤ 9223372036854775807) ∧ (-9223372036854775808 ≤ o.d ∧ o.d ≤ 9223372036854775807)
/-- Calls in a slice. -/
def IsOpT (w : World) (a : Option Addr) (len : Nat) (q : Nat → OpT) : Prop := 0 < len → ∃ b off, a = some ⟨b, off, none⟩ ∧ ∀ k, k < len → w.cell? ⟨b, off + k * 5, none⟩ = some (.int .i64 (q k).kd) ∧ w.cell? ⟨b, off + k * 5 + 1, none⟩ = some (.int .i64 (q k).a) ∧ w.cell? ⟨b, off + k * 5 + 2, none⟩ = some (.int .i64 (q k).b) ∧ w.cell? ⟨b, off + k * 5 + 3, none⟩ = some (.int .i64 (q k).c) ∧ w.cell? ⟨b, off + k * 5 + 4, none⟩ = some (.int .i64 (q k).d) ∧ (q k).fit
/-- One call in memory. -/
def OpTAt (w : World) (y : Addr) (k : Nat) (o : OpT) : Prop :=
    w.cell? (y.add (k * 5 + 0)) = some (.int .i64 o.kd) ∧ w.cell? (y.add (k * 5 + 1)) = some (.int .i64 o.a) ∧
    w.cell? (y.add (k * 5 + 2)) = some (.int .i64 o.b) ∧ w.cell? (y.add (k * 5 + 3)) = some (.int .i64 o.c) ∧ w.cell? (y.add (k * 5 + 4)) = some (.int .i64 o.d) ∧ o.fit
def zOpT : OpT := ⟨0, 0, 0, 0, 0⟩
theorem open_opT {H : Type} {enc : TypeId × Value → H} {w : World} {base fuel : Nat} {held : Bool} {v : Value} {x : DataW H × List MemPlace}
    (h : DataW.trod enc Try.prog w base (fun _ => true) held fuel 25 [v] = some x) : ∃ a len cap q, v = .slice a len cap ∧ IsOpT w a len q := by
  rcases open_fieldsN Try.underlying25 Try.underlying29 (by kernel_rfl) (by kernel_rfl) h with ⟨hcs, _⟩ | ⟨y, l, c, m, D, Pl, hcs, _, hl, _, hm, _, hi⟩
  · simp at hcs
    subst hcs
    exact ⟨none, 0, 0, fun _ => zOpT, rfl, fun h => absurd h (Nat.lt_irrefl _)⟩
  · simp at hcs
    subst hcs
    obtain ⟨b, off, spot⟩ := y
    simp at hm
    have key : ∀ k, k < l → ∃ o : OpT, OpTAt w ⟨b, off, spot⟩ k o := by
      intro k hk
      obtain ⟨ys, n, _, _, _, hf⟩ := hi k (by omega)
      obtain ⟨v0, y0, c0, _, t0⟩ := hf 0 _ rfl
      obtain ⟨v1, y1, c1, _, t1⟩ := hf 1 _ rfl
      obtain ⟨v2, y2, c2, _, t2⟩ := hf 2 _ rfl
      obtain ⟨v3, y3, c3, _, t3⟩ := hf 3 _ rfl
      obtain ⟨v4, y4, c4, _, t4⟩ := hf 4 _ rfl
      obtain ⟨x0, z0, _, w0⟩ := DataW.trod_int Try.underlying3 t0
      obtain ⟨x1, z1, _, w1⟩ := DataW.trod_int Try.underlying3 t1
      obtain ⟨x2, z2, _, w2⟩ := DataW.trod_int Try.underlying3 t2
      obtain ⟨x3, z3, _, w3⟩ := DataW.trod_int Try.underlying3 t3
      obtain ⟨x4, z4, _, w4⟩ := DataW.trod_int Try.underlying3 t4
      simp at z0 z1 z2 z3 z4
      subst z0 z1 z2 z3 z4
      exact ⟨⟨x0, x1, x2, x3, x4⟩, c0, c1, c2, c3, c4, bounds_i64 w1, bounds_i64 w2, bounds_i64 w3, bounds_i64 w4⟩
    obtain ⟨q, hq⟩ : ∃ q : Nat → OpT, ∀ k, k < l → OpTAt w ⟨b, off, spot⟩ k (q k) :=
      ⟨fun k => if h : k < l then Classical.choose (key k h) else zOpT, fun k hk => by simp only [dif_pos hk]; exact Classical.choose_spec (key k hk)⟩
    refine ⟨_, l, c, q, rfl, fun h0 => ?_⟩
    have hspot : spot = none := by
      have c0 := (hq 0 h0).1
      simpa [Addr.add] using World.cell?_spot c0
    subst hspot
    refine ⟨b, off, rfl, fun k hk => ?_⟩
    have := hq k hk
    simp only [OpTAt, Addr.add_lit, Nat.add_zero, ← Nat.add_assoc] at this
    exact this
/-- A case's value. -/
abbrev vC10 (V S T : Int) (da : Option Addr) (dl dc : Nat) (oa : Option Addr) (ol oc : Nat) : Value := .agg #[.int .i64 V, .int .i64 S, .int .i64 T, .slice da dl dc, .slice oa ol oc]
theorem open_case10 {H : Type} {enc : TypeId × Value → H} {w : World} {base : Nat} {held : Bool} {r : Reach} {b0 : Nat} {v : Value} {d : DataW H} {p : List MemPlace}
    (hv : Value.okWide Try.prog w r b0 27 v) (h : DataW.Trod enc Try.prog w base (fun _ => true) held 27 v d p) :
    ∃ V S T da dl dc f oa ol oc fo, v = vC10 V S T da dl dc oa ol oc ∧ IsNum w da dl f ∧ IsOpT w oa ol fo := by
  obtain ⟨cs, rfl, hsz⟩ := okWide_struct Try.underlying27 hv
  obtain ⟨c0, c1, c2, c3, c4, rfl⟩ := array5 (hsz.trans (by kernel_rfl))
  obtain ⟨fuel, hf⟩ := h
  obtain ⟨y0, y1, y2, n, _, _, g0, g1, g2⟩ := trod_struct3 Try.underlying27 hf
  rw [show Try.prog.cellsOf _ = 3 by kernel_rfl] at g0
  rw [show Try.prog.cellsOf _ = 1 by kernel_rfl] at g1
  rw [show Try.prog.cellsOf _ = 1 by kernel_rfl] at g2
  simp [Value.cells] at g0 g1 g2
  obtain ⟨z0, z1, z2, n2, _, _, k0, k1, k2⟩ := trod_struct3 Try.underlying23 g0
  rw [show Try.prog.cellsOf _ = 1 by kernel_rfl] at k0 k1 k2
  simp at k0 k1 k2
  obtain ⟨V, e0, _, _⟩ := DataW.trod_int Try.underlying3 k0
  obtain ⟨S, e1, _, _⟩ := DataW.trod_int Try.underlying3 k1
  obtain ⟨T, e2, _, _⟩ := DataW.trod_int Try.underlying3 k2
  simp at e0 e1 e2
  obtain ⟨da, dl, dc, f, e3, h3⟩ := open_num g1
  obtain ⟨oa, ol, oc, fo, e4, h4⟩ := open_opT g2
  subst e0 e1 e2 e3 e4
  exact ⟨V, S, T, da, dl, dc, f, oa, ol, oc, fo, rfl, h3, h4⟩

/-- May a case be gone through? -/
def rgt10 (V S T : Int) (dl ol : Nat) : Bool := rtB V S T && decide (V ≤ 8) && decide (S ≤ 8) && decide (dl ≤ 60) && decide (ol ≤ 60)
structure RH (V S T : Int) (dl ol : Nat) : Prop where
  r : Rt V S T
  v : V ≤ 8
  s : S ≤ 8
  d : dl ≤ 60
  o : ol ≤ 60
theorem rgt10_yes {V S T : Int} {dl ol : Nat} (h : rgt10 V S T dl ol = true) : RH V S T dl ol := by
  unfold rgt10 at h
  simp only [Bool.and_eq_true, decide_eq_true_eq] at h
  exact ⟨rtB_yes h.1.1.1.1, h.1.1.1.2, h.1.1.2, h.1.2, h.2⟩
set_option maxHeartbeats 4000000 in
theorem right_case10 (V S T : Int) (da : Option Addr) (dl dc : Nat) (oa : Option Addr) (ol oc : Nat) (w : World) :
    Calls Try.prog 8 #[vC10 V S T da dl dc oa ol oc] w fun e w' => e = .returned (.bool (rgt10 V S T dl ol)) ∧ Below w.heap.size w w' := by
  have HB : Hid (Below w.heap.size w ((w.alloc (.cells #[.int .i64 V, .int .i64 S, .int .i64 T, .slice da dl dc, .slice oa ol oc] 27)).alloc (.cells #[.int .i64 V, .int .i64 S, .int .i64 T] 23))) := Lib.hid (((Below.refl _ _).alloc (Nat.le_refl _) _).alloc (by simp) _)
  have HZ : Hid (Blk ((w.alloc (.cells #[.int .i64 V, .int .i64 S, .int .i64 T, .slice da dl dc, .slice oa ol oc] 27)).alloc (.cells #[.int .i64 V, .int .i64 S, .int .i64 T] 23)) w.heap.size 27 #[.int .i64 V, .int .i64 S, .int .i64 T, .slice da dl dc, .slice oa ol oc]) := Lib.hid ((Blk.new _ _ _).alloc _)
  have HL : Hid (Blk ((w.alloc (.cells #[.int .i64 V, .int .i64 S, .int .i64 T, .slice da dl dc, .slice oa ol oc] 27)).alloc (.cells #[.int .i64 V, .int .i64 S, .int .i64 T] 23)) (w.heap.size + 1) 23 #[.int .i64 V, .int .i64 S, .int .i64 T]) := Lib.hid (new_next w _ _ _ _)
  go_enter Try.func8, Try.ntmps8
  go_wp2_with fail
  generalize w.heap.size = zb at HZ HL ⊢
  generalize (w.alloc (.cells #[.int .i64 V, .int .i64 S, .int .i64 T, .slice da dl dc, .slice oa ol oc] 27)).alloc (.cells #[.int .i64 V, .int .i64 S, .int .i64 T] 23) = W1 at HZ HL HB ⊢
  refine (rright_any V S T _).mono ?_; rintro e w2 ⟨rfl, hb2⟩
  have HB2 := Lib.hid (HB.out.trans (hb2.mono HB.out.size))
  have z3 := HZ.out.below hb2 HZ.out.lt |>.cell 3
  have z4 := HZ.out.below hb2 HZ.out.lt |>.cell 4
  have l0 : w2.cell? ⟨zb + 1, 0, none⟩ = some (.int .i64 V) := (HL.out.below hb2 HL.out.lt).cell 0
  have l1 : w2.cell? ⟨zb + 1, 1, none⟩ = some (.int .i64 S) := (HL.out.below hb2 HL.out.lt).cell 1
  have zlt := (HZ.out.below hb2 HZ.out.lt).lt
  have llt := (HL.out.below hb2 HL.out.lt).lt
  clear HZ HL HB hb2
  cases h1 : rtB V S T
  · go_wp2_with fail
    go_ret
    exact ⟨by unfold rgt10; rw [h1]; rfl, HB2.out⟩
  by_cases h2 : V ≤ 8
  · by_cases h3 : S ≤ 8
    · by_cases h4 : dl ≤ 60
      · have h4i : (dl : Int) ≤ 60 := by omega
        by_cases h5 : ol ≤ 60
        · have h5i : (ol : Int) ≤ 60 := by omega
          go_wp2_with fail
          go_ret
          exact ⟨by unfold rgt10; rw [h1, decide_eq_true h2, decide_eq_true h3, decide_eq_true h4, decide_eq_true h5]; rfl, HB2.out⟩
        · have h5i : ¬ (ol : Int) ≤ 60 := by omega
          have h5d : decide ((ol : Int) ≤ 60) = false := decide_eq_false h5i
          go_wp2_with fail
          go_ret
          exact ⟨by unfold rgt10; rw [h1, decide_eq_true h2, decide_eq_true h3, decide_eq_true h4, decide_eq_false h5]; rfl, HB2.out⟩
      · have h4i : ¬ (dl : Int) ≤ 60 := by omega
        go_wp2_with fail
        go_ret
        exact ⟨by unfold rgt10; rw [h1, decide_eq_true h2, decide_eq_true h3, decide_eq_false h4]; rfl, HB2.out⟩
    · go_wp2_with fail
      go_ret
      exact ⟨by unfold rgt10; rw [h1, decide_eq_true h2, decide_eq_false (by omega)]; rfl, HB2.out⟩
  · go_wp2_with fail
    go_ret
    exact ⟨by unfold rgt10; rw [h1, decide_eq_false (by omega)]; rfl, HB2.out⟩
end Go.Proofs.Ytahabfjngeicmaa
