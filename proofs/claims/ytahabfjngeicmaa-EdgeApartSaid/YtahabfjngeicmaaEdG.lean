/- The law's list of edges in memory; append onto it; its play's block; slot and between. -/
import Derived.Test.YtahabfjngeicmaaEdF
import Derived.Maps.AppendAt
namespace Go.Proofs.Ytahabfjngeicmaa
open Go.RowKit

set_option maxRecDepth 100000

def E1.cells (x : E1) : List Value := [.int .i64 (x.s : Int), .int .i64 (x.u : Int), .int .i64 (x.v : Int), .int .i64 (x.l : Int), .bool x.t]
def flat5 : List E1 → List Value
  | [] => []
  | x :: xs => x.cells ++ flat5 xs
theorem flat5_append (xs ys : List E1) : flat5 (xs ++ ys) = flat5 xs ++ flat5 ys := by
  induction xs with
  | nil => rfl
  | cons x xs ih => simp [flat5, ih]
theorem flat5_one (x : E1) : flat5 [x] = x.cells := by simp [flat5]
theorem flat5_length (xs : List E1) : (flat5 xs).length = xs.length * 5 := by
  induction xs with
  | nil => rfl
  | cons x xs ih => simp [flat5, E1.cells, ih]; omega
theorem flat5_get (xs : List E1) {k : Nat} {x : E1} (h : xs[k]? = some x) :
    (flat5 xs)[k * 5]? = some (.int .i64 (x.s : Int)) ∧ (flat5 xs)[k * 5 + 1]? = some (.int .i64 (x.u : Int)) ∧ (flat5 xs)[k * 5 + 2]? = some (.int .i64 (x.v : Int)) ∧ (flat5 xs)[k * 5 + 3]? = some (.int .i64 (x.l : Int)) ∧ (flat5 xs)[k * 5 + 4]? = some (.bool x.t) := by
  induction xs generalizing k with
  | nil => simp at h
  | cons y ys ih =>
    cases k with
    | zero => simp at h; subst h; simp [flat5, E1.cells]
    | succ k =>
      have h' := ih (k := k) (by simpa using h)
      have e : (k + 1) * 5 = k * 5 + 5 := by omega
      rw [e, show k * 5 + 5 + 1 = (k * 5 + 1) + 5 by omega, show k * 5 + 5 + 2 = (k * 5 + 2) + 5 by omega, show k * 5 + 5 + 3 = (k * 5 + 3) + 5 by omega, show k * 5 + 5 + 4 = (k * 5 + 4) + 5 by omega]
      simp only [flat5, E1.cells, List.cons_append, List.nil_append, List.getElem?_cons_succ]
      exact h'
theorem flat5_cell (xs : List E1) : ∀ u ∈ flat5 xs, u.oneCell' = true := by
  induction xs with
  | nil => intro u hu; cases hu
  | cons x xs ih =>
    intro u hu
    simp only [flat5, E1.cells, List.cons_append, List.nil_append, List.mem_cons] at hu
    rcases hu with rfl | rfl | rfl | rfl | rfl | hu
    · rfl
    · rfl
    · rfl
    · rfl
    · rfl
    · exact ih u hu
theorem info_one : (Try.prog.info? 79).map (fun i => (i.zero, i.size, i.bytes)) = some (some (.agg #[.int .i64 0, .int .i64 0, .int .i64 0, .int .i64 0, .bool false]), 5, 40) := by kernel_rfl
/-- Edges in a slice of one's own. -/
def OW (w : World) (base : Nat) (v : Value) (l : List E1) : Prop := w.ownsRow base 79 5 v l.length (flat5 l)
section
variable {w w' : World} {base : Nat} {v : Value} {l l2 : List E1}
theorem OW.nil (w : World) (base : Nat) : OW w base (.slice none 0 0) [] := World.ownsRow_nil _ _ _ _
theorem OW.empty (w : World) : OW (w.alloc (.cells #[] 79)) w.heap.size (.slice (some ⟨w.heap.size, 0, none⟩) 0 0) [] :=
  ⟨rfl, .inr ⟨_, 0, #[], rfl, Nat.le_refl _, Blk.new w _ _, Nat.le_refl _, by simp [maxLen], rfl, rfl⟩⟩
theorem OW.lt (h : OW w base v l) : ∀ k, v.ownBlock = some k → base ≤ k ∧ k < w.heap.size := World.ownsRow.lt h
theorem OW.alloc (h : OW w base v l) (o : Obj) : OW (w.alloc o) base v l := World.ownsRow.alloc h o
theorem OW.kept_of (h : OW w base v l) (hb : ∀ i, v.ownBlock = some i → w'.heap[i]? = w.heap[i]?) : OW w' base v l := by
  refine ⟨h.1, ?_⟩
  rcases h.2 with hn | ⟨g, cap, cur, rfl, hg, hgg, rest⟩
  · exact .inl hn
  · exact .inr ⟨g, cap, cur, rfl, hg, (hb g rfl).trans hgg, rest⟩
theorem OW.below (h : OW w base v l) (hb : Below w.heap.size w w') : OW w' base v l := h.kept_of fun i hi => hb.block i (h.lt i hi).2
theorem OW.drew (h : OW w base v l) : OW w.drew base v l := h
theorem OW.less {base' : Nat} (h : OW w base v l) (hb : base' ≤ base) : OW w base' v l := by
  refine ⟨h.1, ?_⟩
  rcases h.2 with hn | ⟨g, cap, cur, rfl, hg, hgg, rest⟩
  · exact .inl hn
  · exact .inr ⟨g, cap, cur, rfl, Nat.le_trans hb hg, hgg, rest⟩
theorem OW.shape (h : OW w base v l) : (v = .slice none 0 0 ∧ l = []) ∨ ∃ g cap cs, v = .slice (some ⟨g, 0, none⟩) l.length cap ∧ base ≤ g ∧ Blk w g 79 cs ∧ l.length ≤ cap ∧ cap ≤ maxLen ∧
    (cs.size = cap * 5 ∧ cs.toList.take (l.length * 5) = flat5 l) ∧
    ∀ k x, l[k]? = some x → cs[k * 5]? = some (.int .i64 (x.s : Int)) ∧ cs[k * 5 + 1]? = some (.int .i64 (x.u : Int)) ∧ cs[k * 5 + 2]? = some (.int .i64 (x.v : Int)) ∧ cs[k * 5 + 3]? = some (.int .i64 (x.l : Int)) ∧ cs[k * 5 + 4]? = some (.bool x.t) := by
  rcases h.2 with ⟨rfl, h0⟩ | ⟨g, cap, cur, rfl, hg, hgg, h1, h2, h3, h4⟩
  · exact .inl ⟨rfl, List.eq_nil_of_length_eq_zero h0⟩
  · refine .inr ⟨g, cap, cur, rfl, hg, hgg, h1, h2, ⟨h3, h4⟩, fun k x hx => ?_⟩
    have hf := flat5_get l hx
    have hk := (List.getElem?_eq_some_iff.1 hx).1
    have he : ∀ j, j < l.length * 5 → cur[j]? = (flat5 l)[j]? := fun j hj => by
      rw [← h4, List.getElem?_take_of_lt hj, Array.getElem?_toList]
    rw [he _ (by omega), he _ (by omega), he _ (by omega), he _ (by omega), he _ (by omega)]
    exact hf
theorem OW.slice (h : OW w base v l) : ∃ a cap, v = .slice a l.length cap := by
  rcases h.shape with ⟨rfl, rfl⟩ | ⟨g, cap, cs, rfl, _⟩
  · exact ⟨none, 0, rfl⟩
  · exact ⟨_, cap, rfl⟩
/-- One of the list. -/
theorem OW.at {k : Nat} {x : E1} (h : OW w base v l) (hk : l[k]? = some x) : ∃ g cap, v = .slice (some ⟨g, 0, none⟩) l.length cap ∧ base ≤ g ∧ g < w.heap.size ∧ (∀ i, w.frozen? ⟨g, i, none⟩ = false) ∧ w.cell? ⟨g, k * 5, none⟩ = some (.int .i64 (x.s : Int)) ∧ w.cell? ⟨g, k * 5 + 1, none⟩ = some (.int .i64 (x.u : Int)) ∧ w.cell? ⟨g, k * 5 + 2, none⟩ = some (.int .i64 (x.v : Int)) ∧ w.cell? ⟨g, k * 5 + 3, none⟩ = some (.int .i64 (x.l : Int)) ∧ w.cell? ⟨g, k * 5 + 4, none⟩ = some (.bool x.t) := by
  rcases h.shape with ⟨rfl, rfl⟩ | ⟨g, cap, cs, rfl, hb, hz, _, _, _, hc⟩
  · simp at hk
  · obtain ⟨a, b, c, d, e⟩ := hc k x hk
    exact ⟨g, cap, rfl, hb, hz.lt, hz.frozen, (hz.cell _).trans a, (hz.cell _).trans b, (hz.cell _).trans c, (hz.cell _).trans d, (hz.cell _).trans e⟩
/-- append of edges onto edges of one's own. -/
theorem run_append_ow (h : OW w base v l) (ad : Addr) (n c : Nat) (hn : n = l2.length) (hc : ∀ (j : Nat) (u : Value), (flat5 l2)[j]? = some u → w.cell? (ad.add j) = some u) (hl : l.length + l2.length ≤ 100000) (hb : base ≤ w.heap.size) (ty : TypeId) :
    ∃ v' w', (Builtin.append_ #[68, 68] ty #[v, .slice (some ad) n c]).run Try.prog w = .ok v' w' ∧ OW w' base v' (l ++ l2) ∧ w.grownBy w' v.ownBlock := by
  obtain ⟨i0, hi0, hz0, hz1, hz2⟩ := info_parts info_one
  subst hn
  obtain ⟨v', w', hrun, h1, h2, _⟩ := run_append_own_at (P := Try.prog) w base 68 ty 79 i0 _ 5 40 Try.underlying68 hi0 hz0 hz1 hz2 rfl (by omega) v l.length (flat5 l) h ad l2.length c (flat5 l2) (flat5_length l2) hc (flat5_cell l2) (by simp only [maxLen]; omega) (by omega) hb
  refine ⟨v', w', hrun, ?_, h2⟩
  unfold OW; rw [List.length_append, flat5_append]; exact h1
theorem step_append_ow {ops : Array Oper} {o : Oper} {a : Act} {K : Act → World → Prop} {Q : Exit → Act → World → Prop} {E : Prop} (hgd : o.guard = none) (s x : Operand)
    (ho : o.op = .call { callee := .builtin .append, args := #[s, x], argTypes := #[68, 68] })
    (hs : a.eval s = v) (h : OW w base v l) (ad : Addr) (n c : Nat) (hn : n = l2.length) (hv : a.eval x = .slice (some ad) n c) (hc : ∀ (j : Nat) (u : Value), (flat5 l2)[j]? = some u → w.cell? (ad.add j) = some u) (hl : l.length + l2.length ≤ 100000) (hb : base ≤ w.heap.size)
    (hK : ∀ v' w', OW w' base v' (l ++ l2) → w.grownBy w' v.ownBlock → K (a.put o.dst v') w') :
    if Region.wanted o (yielded ops a.tmps) = true then Oper.wp Try.prog o a w K Q else E := by
  have hw : Region.wanted o (yielded ops a.tmps) = true := by simp [Region.wanted, hgd]
  rw [if_pos hw]
  obtain ⟨v', w', hr, h2, h3⟩ := run_append_ow h ad n c hn hc hl hb o.type
  unfold Oper.wp execOp
  simp only [ho, resolve, invoke, builtin, Sem.run_bind, Sem.run_pure, Result.andThen_ok, List.map_toArray, List.map_cons, List.map_nil, hs, hv, hr]
  exact hK v' w' h2 h3
theorem wpList_append_ow {ops : Array Oper} {rest : List Oper} {o : Oper} {a : Act} {Q : Exit → Act → World → Prop} (hgd : o.guard = none) (s x : Operand)
    (ho : o.op = .call { callee := .builtin .append, args := #[s, x], argTypes := #[68, 68] })
    (hs : a.eval s = v) (h : OW w base v l) (ad : Addr) (n c : Nat) (hn : n = l2.length) (hv : a.eval x = .slice (some ad) n c) (hc : ∀ (j : Nat) (u : Value), (flat5 l2)[j]? = some u → w.cell? (ad.add j) = some u) (hl : l.length + l2.length ≤ 100000) (hb : base ≤ w.heap.size)
    (hK : ∀ v' w', OW w' base v' (l ++ l2) → w.grownBy w' v.ownBlock → wpList Try.prog ops Q rest (a.put o.dst v') w') : wpList Try.prog ops Q (o :: rest) a w := by
  refine wpList_plain hgd fun _ hK' => ?_
  obtain ⟨v', w', hrun, h2, h3⟩ := run_append_ow h ad n c hn hc hl hb o.type
  unfold Oper.wp execOp
  simp only [ho, resolve, invoke, builtin, Sem.run_bind, Sem.run_pure, Result.andThen_ok, List.map_toArray, List.map_cons, List.map_nil, hs, hv, hrun]
  exact hK' _ _ (hK v' w' h2 h3)
end

/-- A play's own block. -/
def PB11 (w : World) (q : Nat) (V S T : Int) (p : Nat) (v : Value) : Prop := Blk w q 70 #[.int .i64 V, .int .i64 S, .int .i64 T, .int .i64 V, .int .i64 S, .int .i64 T, .iface 95 (pmV p), v]
section
variable {w w' w0 : World} {V S T : Int} {q p gb cap m base s u v9 i n : Nat} {f : Nat → Int} {v : Value} {l : List E1} {x : E1}
theorem PB11.cells (h : PB11 w q V S T p v) : w.cell? ⟨q, 0, none⟩ = some (.int .i64 V) ∧ w.cell? ⟨q, 1, none⟩ = some (.int .i64 S) ∧ w.cell? ⟨q, 2, none⟩ = some (.int .i64 T) ∧ w.cell? ⟨q, 3, none⟩ = some (.int .i64 V) ∧ w.cell? ⟨q, 4, none⟩ = some (.int .i64 S) ∧ w.cell? ⟨q, 5, none⟩ = some (.int .i64 T) ∧ w.cell? ⟨q, 6, none⟩ = some (.iface 95 (pmV p)) ∧ w.cell? ⟨q, 7, none⟩ = some v :=
  ⟨Blk.cell h 0, Blk.cell h 1, Blk.cell h 2, Blk.cell h 3, Blk.cell h 4, Blk.cell h 5, Blk.cell h 6, Blk.cell h 7⟩
theorem PB11.lt (h : PB11 w q V S T p v) : q < w.heap.size := Blk.lt h
theorem PB11.below (h : PB11 w q V S T p v) (hb : Below w.heap.size w w') : PB11 w' q V S T p v := Blk.below h hb (Blk.lt h)
/-- In a loop over the list. -/
def LsRel (w0 : World) (n : Nat) (i : Value) (W : World) : Prop := Below w0.heap.size w0 W ∧ ∃ k, k ≤ n ∧ i = .int .i64 ((k : Nat) : Int)
theorem slot_no (hq : PB11 w q V S T p v) (hO : OW w base v l) (hl : l.length ≤ 1000) (hno : ∀ x ∈ l, x.s ≠ s) :
    Calls Try.prog 62 #[.pointer (some ⟨q, 0, none⟩), .int .i64 (s : Int)] w fun e w' => e = .returned (.int .i64 (-1)) ∧ Below w.heap.size w w' := by
  obtain ⟨av, ac, rfl⟩ := hO.slice
  obtain ⟨n, hn⟩ : ∃ n, l.length = n := ⟨_, rfl⟩
  have HN := Lib.hid hn
  have HQ := Lib.hid hq
  have HO := Lib.hid hO
  have HS := Lib.hid hno
  clear hno
  rw [hn] at HQ HO hl
  have nI : (n : Int) ≤ 1000 := by omega
  have HRel : Hid (LsRel w n (.int .i64 0) w) := Lib.hid ⟨Below.refl _ _, 0, Nat.zero_le _, rfl⟩
  clear hq hO hn
  obtain ⟨c0, c1, c2, c3, c4, c5, c6, c7⟩ := HQ.out.cells
  have qlt := HQ.out.lt
  go_enter Try.func62, Try.ntmps62
  go_wp2_with fail
  clear c0 c1 c2 c3 c4 c5 c6 c7 qlt
  go_loopw [12] (fun i9 wr => LsRel w n i9 wr) (fun i9 _ => n - (intOf i9).toNat)
  case atStart => exact HRel.out
  case round =>
    clear HRel
    obtain ⟨hb, k, hk, rfl⟩ := hrel
    have HB := Lib.hid hb
    clear hb
    by_cases hkn : k < n
    · obtain ⟨x, hx⟩ : ∃ x, l[k]? = some x := ⟨_, List.getElem?_eq_getElem (by have := HN.out; omega)⟩
      obtain ⟨g, c9, e, _, glt, _, y0, y1, y2, y3, y4⟩ := (HO.out.below HB.out).at hx
      injection e with e1 e2 e3
      subst e1 e3
      have kI : (k : Int) < (n : Int) := by omega
      have k0 : (0 : Int) ≤ (k : Int) := by omega
      have hne : ((x.s : Int) == (s : Int)) = false := beq_eq_false_iff_ne.2 fun e => HS.out x (List.mem_of_getElem? hx) (by omega)
      clear hx e2
      go_wp2_with fail
      exact ⟨⟨HB.out.alloc HB.out.size _, k + 1, by omega, by simp⟩, by simp [intOf]; omega⟩
    · have ek : k = n := by omega
      subst ek
      have kI : ¬ (k : Int) < (k : Int) := by omega
      clear hk hkn
      go_wp2_with fail
      go_ret
      exact ⟨rfl, HB.out⟩
theorem slot_yes (hq : PB11 w q V S T p v) (hO : OW w base v l) (hl : l.length ≤ 1000) (hi : l[i]? = some x) (hx : x.s = s) (hu : ∀ j y, l[j]? = some y → y.s = s → j = i) :
    Calls Try.prog 62 #[.pointer (some ⟨q, 0, none⟩), .int .i64 (s : Int)] w fun e w' => e = .returned (.int .i64 (i : Int)) ∧ Below w.heap.size w w' := by
  obtain ⟨av, ac, rfl⟩ := hO.slice
  obtain ⟨n, hn⟩ : ∃ n, l.length = n := ⟨_, rfl⟩
  have HN := Lib.hid hn
  have HQ := Lib.hid hq
  have HO := Lib.hid hO
  have HI : Hid (i < n ∧ l[i]? = some x ∧ x.s = s ∧ ∀ j y, l[j]? = some y → y.s = s → j = i) := Lib.hid ⟨by rw [← hn]; exact (List.getElem?_eq_some_iff.1 hi).1, hi, hx, hu⟩
  clear hi hx hu
  rw [hn] at HQ HO hl
  have nI : (n : Int) ≤ 1000 := by omega
  have HRel : Hid (LsRel w i (.int .i64 0) w) := Lib.hid ⟨Below.refl _ _, 0, Nat.zero_le _, rfl⟩
  clear hq hO hn
  obtain ⟨c0, c1, c2, c3, c4, c5, c6, c7⟩ := HQ.out.cells
  have qlt := HQ.out.lt
  go_enter Try.func62, Try.ntmps62
  go_wp2_with fail
  clear c0 c1 c2 c3 c4 c5 c6 c7 qlt
  go_loopw [12] (fun i9 wr => LsRel w i i9 wr) (fun i9 _ => n - (intOf i9).toNat)
  case atStart => exact HRel.out
  case round =>
    clear HRel
    obtain ⟨hb, k, hk, rfl⟩ := hrel
    have HB := Lib.hid hb
    clear hb
    by_cases hki : k < i
    · obtain ⟨x, hx⟩ : ∃ x, l[k]? = some x := ⟨_, List.getElem?_eq_getElem (by have := HN.out; have := HI.out.1; omega)⟩
      have hkn : k < n := by have := HI.out.1; omega
      obtain ⟨g, c9, e, _, glt, _, y0, y1, y2, y3, y4⟩ := (HO.out.below HB.out).at hx
      injection e with e1 e2 e3
      subst e1 e3
      have kI : (k : Int) < (n : Int) := by omega
      have k0 : (0 : Int) ≤ (k : Int) := by omega
      have hne : ((x.s : Int) == (s : Int)) = false := beq_eq_false_iff_ne.2 fun e => by have := HI.out.2.2.2 k x hx (by omega); omega
      clear hx e2
      go_wp2_with fail
      exact ⟨⟨HB.out.alloc HB.out.size _, k + 1, by omega, by simp⟩, by simp [intOf]; omega⟩
    · have ek : k = i := by omega
      subst ek
      have hkn : k < n := HI.out.1
      have hx := HI.out.2.1
      obtain ⟨g, c9, e, _, glt, _, y0, y1, y2, y3, y4⟩ := (HO.out.below HB.out).at hx
      injection e with e1 e2 e3
      subst e1 e3
      have kI : (k : Int) < (n : Int) := by omega
      have k0 : (0 : Int) ≤ (k : Int) := by omega
      have hne : ((x.s : Int) == (s : Int)) = true := by rw [HI.out.2.2.1]; exact beq_self_eq_true _
      clear hk hki hx e2
      go_wp2_with fail
      go_ret
      exact ⟨rfl, HB.out.alloc HB.out.size _⟩
theorem between_no (hq : PB11 w q V S T p v) (hO : OW w base v l) (hl : l.length ≤ 1000) (hno : ∀ x ∈ l, ¬ (x.u = min u v9 ∧ x.v = max u v9)) :
    Calls Try.prog 27 #[.pointer (some ⟨q, 0, none⟩), .int .i64 (u : Int), .int .i64 (v9 : Int)] w fun e w' => e = .returned (.int .i64 (-1)) ∧ Below w.heap.size w w' := by
  obtain ⟨av, ac, rfl⟩ := hO.slice
  obtain ⟨n, hn⟩ : ∃ n, l.length = n := ⟨_, rfl⟩
  have HN := Lib.hid hn
  have HQ := Lib.hid hq
  have HO := Lib.hid hO
  obtain ⟨a, ha⟩ : ∃ a, min u v9 = a := ⟨_, rfl⟩
  obtain ⟨b, hb9⟩ : ∃ a, max u v9 = a := ⟨_, rfl⟩
  have mI : (if v9 < u then (v9 : Int) else (u : Int)) = (a : Int) := by split <;> omega
  have xI : (if u < v9 then (v9 : Int) else (u : Int)) = (b : Int) := by split <;> omega
  rw [ha, hb9] at hno
  have HS := Lib.hid hno
  clear hno ha hb9
  rw [hn] at HQ HO hl
  have nI : (n : Int) ≤ 1000 := by omega
  have HRel : Hid (LsRel w n (.int .i64 0) w) := Lib.hid ⟨Below.refl _ _, 0, Nat.zero_le _, rfl⟩
  clear hq hO hn
  obtain ⟨c0, c1, c2, c3, c4, c5, c6, c7⟩ := HQ.out.cells
  have qlt := HQ.out.lt
  go_enter Try.func27, Try.ntmps27
  go_wp2_with fail
  clear c0 c1 c2 c3 c4 c5 c6 c7 qlt
  go_loopw [14] (fun i9 wr => LsRel w n i9 wr) (fun i9 _ => n - (intOf i9).toNat)
  case atStart => exact HRel.out
  case round =>
    clear HRel
    obtain ⟨hb, k, hk, rfl⟩ := hrel
    have HB := Lib.hid hb
    clear hb
    by_cases hkn : k < n
    · obtain ⟨x, hx⟩ : ∃ x, l[k]? = some x := ⟨_, List.getElem?_eq_getElem (by have := HN.out; omega)⟩
      obtain ⟨g, c9, e, _, glt, _, y0, y1, y2, y3, y4⟩ := (HO.out.below HB.out).at hx
      injection e with e1 e2 e3
      subst e1 e3
      have kI : (k : Int) < (n : Int) := by omega
      have k0 : (0 : Int) ≤ (k : Int) := by omega
      by_cases hua : x.u = a
      · have hub : x.v ≠ b := fun e => HS.out x (List.mem_of_getElem? hx) ⟨hua, e⟩
        have q1 : ((x.u : Int) == (a : Int)) = true := by rw [hua]; exact beq_self_eq_true _
        have q2 : ((x.v : Int) == (b : Int)) = false := beq_eq_false_iff_ne.2 (by omega)
        clear hx e2 hua hub
        go_wp2_with fail
        exact ⟨⟨HB.out.alloc HB.out.size _, k + 1, by omega, by simp⟩, by simp [intOf]; omega⟩
      have q1 : ((x.u : Int) == (a : Int)) = false := beq_eq_false_iff_ne.2 (by omega)
      clear hua
      clear hx e2
      go_wp2_with fail
      exact ⟨⟨HB.out.alloc HB.out.size _, k + 1, by omega, by simp⟩, by simp [intOf]; omega⟩
    · have ek : k = n := by omega
      subst ek
      have kI : ¬ (k : Int) < (k : Int) := by omega
      clear hk hkn
      go_wp2_with fail
      go_ret
      exact ⟨rfl, HB.out⟩
theorem between_yes (hq : PB11 w q V S T p v) (hO : OW w base v l) (hl : l.length ≤ 1000) (hi : l[i]? = some x) (hx : x.u = min u v9 ∧ x.v = max u v9) (hu : ∀ j y, l[j]? = some y → y.u = min u v9 ∧ y.v = max u v9 → j = i) :
    Calls Try.prog 27 #[.pointer (some ⟨q, 0, none⟩), .int .i64 (u : Int), .int .i64 (v9 : Int)] w fun e w' => e = .returned (.int .i64 (i : Int)) ∧ Below w.heap.size w w' := by
  obtain ⟨av, ac, rfl⟩ := hO.slice
  obtain ⟨n, hn⟩ : ∃ n, l.length = n := ⟨_, rfl⟩
  have HN := Lib.hid hn
  have HQ := Lib.hid hq
  have HO := Lib.hid hO
  obtain ⟨a, ha⟩ : ∃ a, min u v9 = a := ⟨_, rfl⟩
  obtain ⟨b, hb9⟩ : ∃ a, max u v9 = a := ⟨_, rfl⟩
  have mI : (if v9 < u then (v9 : Int) else (u : Int)) = (a : Int) := by split <;> omega
  have xI : (if u < v9 then (v9 : Int) else (u : Int)) = (b : Int) := by split <;> omega
  rw [ha, hb9] at hx hu
  have HI : Hid (i < n ∧ l[i]? = some x ∧ (x.u = a ∧ x.v = b) ∧ ∀ j y, l[j]? = some y → y.u = a ∧ y.v = b → j = i) := Lib.hid ⟨by rw [← hn]; exact (List.getElem?_eq_some_iff.1 hi).1, hi, hx, hu⟩
  clear hi hx hu ha hb9
  rw [hn] at HQ HO hl
  have nI : (n : Int) ≤ 1000 := by omega
  have HRel : Hid (LsRel w i (.int .i64 0) w) := Lib.hid ⟨Below.refl _ _, 0, Nat.zero_le _, rfl⟩
  clear hq hO hn
  obtain ⟨c0, c1, c2, c3, c4, c5, c6, c7⟩ := HQ.out.cells
  have qlt := HQ.out.lt
  go_enter Try.func27, Try.ntmps27
  go_wp2_with fail
  clear c0 c1 c2 c3 c4 c5 c6 c7 qlt
  go_loopw [14] (fun i9 wr => LsRel w i i9 wr) (fun i9 _ => n - (intOf i9).toNat)
  case atStart => exact HRel.out
  case round =>
    clear HRel
    obtain ⟨hb, k, hk, rfl⟩ := hrel
    have HB := Lib.hid hb
    clear hb
    by_cases hki : k < i
    · obtain ⟨x, hx⟩ : ∃ x, l[k]? = some x := ⟨_, List.getElem?_eq_getElem (by have := HN.out; have := HI.out.1; omega)⟩
      have hkn : k < n := by have := HI.out.1; omega
      obtain ⟨g, c9, e, _, glt, _, y0, y1, y2, y3, y4⟩ := (HO.out.below HB.out).at hx
      injection e with e1 e2 e3
      subst e1 e3
      have kI : (k : Int) < (n : Int) := by omega
      have k0 : (0 : Int) ≤ (k : Int) := by omega
      by_cases hua : x.u = a
      · have hub : x.v ≠ b := fun e => (by have := HI.out.2.2.2 k x hx ⟨hua, e⟩; omega)
        have q1 : ((x.u : Int) == (a : Int)) = true := by rw [hua]; exact beq_self_eq_true _
        have q2 : ((x.v : Int) == (b : Int)) = false := beq_eq_false_iff_ne.2 (by omega)
        clear hx e2 hua hub
        go_wp2_with fail
        exact ⟨⟨HB.out.alloc HB.out.size _, k + 1, by omega, by simp⟩, by simp [intOf]; omega⟩
      have q1 : ((x.u : Int) == (a : Int)) = false := beq_eq_false_iff_ne.2 (by omega)
      clear hua
      clear hx e2
      go_wp2_with fail
      exact ⟨⟨HB.out.alloc HB.out.size _, k + 1, by omega, by simp⟩, by simp [intOf]; omega⟩
    · have ek : k = i := by omega
      subst ek
      have hkn : k < n := HI.out.1
      have hx := HI.out.2.1
      obtain ⟨g, c9, e, _, glt, _, y0, y1, y2, y3, y4⟩ := (HO.out.below HB.out).at hx
      injection e with e1 e2 e3
      subst e1 e3
      have kI : (k : Int) < (n : Int) := by omega
      have k0 : (0 : Int) ≤ (k : Int) := by omega
      have q1 : ((x.u : Int) == (a : Int)) = true := by rw [HI.out.2.2.1.1]; exact beq_self_eq_true _
      have q2 : ((x.v : Int) == (b : Int)) = true := by rw [HI.out.2.2.1.2]; exact beq_self_eq_true _
      clear hk hki hx e2
      go_wp2_with fail
      go_ret
      exact ⟨rfl, HB.out.alloc HB.out.size _⟩
end
end Go.Proofs.Ytahabfjngeicmaa
