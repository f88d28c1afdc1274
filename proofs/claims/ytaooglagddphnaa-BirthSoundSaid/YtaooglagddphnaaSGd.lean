/- Gd: what BiPSound leans on. Printed by wip/tools/slim13.py. -/
import Derived.Test.YtaooglagddphnaaSZA
import Derived.Laws.OwnMore
import Derived.Deep.OwnRows
import Derived.Maps.AppendAt
import Derived.OwnWalk
import Derived.Deep.AppendLies
import Derived.Test.YtaooglagddphnaaSGa
import Derived.DeepKeys3
import Derived.Test.YtaooglagddphnaaSZB
import Derived.BigQuiet

namespace Go.Proofs.Ytaooglagddphnaa
open Go.RowKit

/-- A name: what it is, and up to three numbers. -/
structure Nm where
  k : Int
  a : Int
  b : Int
  c : Int
def flat : List Nm → List Value
  | [] => []
  | m :: r => .int .i64 m.k :: .int .i64 m.a :: .int .i64 m.b :: .int .i64 m.c :: flat r
theorem flatN_len : ∀ l : List Nm, (flat l).length = l.length * 4
  | [] => rfl
  | _ :: r => by simp only [flat, List.length_cons, flatN_len r]; omega
theorem flat_append : ∀ l r : List Nm, flat (l ++ r) = flat l ++ flat r
  | [], _ => rfl
  | m :: l, r => by simp only [flat, List.cons_append, flat_append l r]
theorem flatN_one : ∀ (l : List Nm), ∀ u ∈ flat l, u.oneCell' = true
  | [], _, h => by cases h
  | m :: r, u, h => by
    simp only [flat, List.mem_cons] at h
    rcases h with rfl | rfl | rfl | rfl | h
    · rfl
    · rfl
    · rfl
    · rfl
    · exact flatN_one r u h
theorem flat_at : ∀ (l : List Nm) (k : Nat) (m : Nm), l[k]? = some m → (flat l)[k * 4]? = some (.int .i64 m.k) ∧ (flat l)[k * 4 + 1]? = some (.int .i64 m.a) ∧ (flat l)[k * 4 + 2]? = some (.int .i64 m.b) ∧ (flat l)[k * 4 + 3]? = some (.int .i64 m.c)
  | [], k, m, h => by simp at h
  | x :: r, 0, m, h => by
    simp only [List.getElem?_cons_zero, Option.some.injEq] at h
    subst h
    exact ⟨rfl, rfl, rfl, rfl⟩
  | x :: r, k + 1, m, h => by
    simp only [List.getElem?_cons_succ] at h
    have := flat_at r k m h
    rw [show (k + 1) * 4 = k * 4 + 1 + 1 + 1 + 1 by omega]
    simpa [flat, List.getElem?_cons_succ, show k * 4 + 1 + 1 + 1 + 1 + 1 = (k * 4 + 1) + 1 + 1 + 1 + 1 by omega, show k * 4 + 1 + 1 + 1 + 1 + 2 = (k * 4 + 2) + 1 + 1 + 1 + 1 by omega, show k * 4 + 1 + 1 + 1 + 1 + 3 = (k * 4 + 3) + 1 + 1 + 1 + 1 by omega] using this

/-- A row of names of the call's own. -/
def Row (w : World) (base : Nat) (v : Value) (l : List Nm) : Prop := w.ownsRow base 114 4 v l.length (flat l)
theorem rowN_nil (w : World) (base : Nat) : Row w base (.slice none 0 0) [] := World.ownsRow_nil w base _ _
theorem Row.below {w w' : World} {base : Nat} {v : Value} {l : List Nm} (h : Row w base v l) (hb : Below w.heap.size w w') : Row w' base v l :=
  World.ownsRow.kept (row := none) h ⟨hb.os, hb.tape, hb.output, hb.size, fun i hi _ => hb.block i hi⟩ (by cases e : v.ownBlock with | none => exact .inl rfl | some _ => exact .inr (by simp))
theorem Row.alloc {w : World} {base : Nat} {v : Value} {l : List Nm} (h : Row w base v l) (o : Obj) : Row (w.alloc o) base v l := World.ownsRow.alloc h o
theorem info_name : (Try.prog.info? 114).map (fun i => (i.zero, i.size, i.bytes)) = some (some (.agg #[.int .i64 0, .int .i64 0, .int .i64 0, .int .i64 0]), 4, 32) := by kernel_rfl

theorem wpList_append_names {w : World} {ops : Array Oper} {rest : List Oper} {o : Oper} {ac : Act} {Q : Exit → Act → World → Prop} (hgd : o.guard = none) (s x : Operand)
    (ho : o.op = .call { callee := .builtin .append, args := #[s, x], argTypes := #[74, 74] })
    (base : Nat) (v : Value) (l ns : List Nm) (hs : ac.eval s = v) (hown : Row w base v l) (b m : Nat) (hx : ac.eval x = .slice (some ⟨b, 0, none⟩) m m) (hm : ns.length = m)
    (hb : Blk w b 114 (flat ns).toArray) (few : l.length + m ≤ 100000) (hbase : base ≤ w.heap.size)
    (h : ∀ v' w', Row w' base v' (l ++ ns) → Below base w w' → wpList Try.prog ops Q rest (ac.put o.dst v') w') :
    wpList Try.prog ops Q (o :: rest) ac w := by
  obtain ⟨i0, hi0, hz0, hz1, hz2⟩ := info_parts info_name
  refine wpList_append_own_at w hgd s x 74 ho base 114 i0 _ 4 32 Try.underlying74 hi0 hz0 hz1 hz2 rfl (by omega) v l.length (flat l) hs hown ⟨b, 0, none⟩ m m (flat ns) hx (by rw [flatN_len, hm]) ?_ (flatN_one ns) (by simp only [maxLen]; omega) (by omega) hbase ?_
  · intro j u hj
    rw [Addr.add_lit, Nat.zero_add, hb.cell j, List.getElem?_toArray]
    exact hj
  · intro v' w' h2 h3 _ _
    refine h v' w' ?_ ((Below.refl base w).grown h3 hbase (fun k hk => (hown.lt k hk).1))
    unfold Row
    rw [List.length_append, flat_append, hm]
    exact h2

/-- One name in memory, as the k-th of a row. -/
def NmAt (W : World) (g k : Nat) (m : Nm) : Prop := W.cell? ⟨g, k * 4, none⟩ = some (.int .i64 m.k) ∧ W.cell? ⟨g, k * 4 + 1, none⟩ = some (.int .i64 m.a) ∧ W.cell? ⟨g, k * 4 + 2, none⟩ = some (.int .i64 m.b) ∧ W.cell? ⟨g, k * 4 + 3, none⟩ = some (.int .i64 m.c)
theorem NmAt.below {W W' : World} {B g k : Nat} {m : Nm} (h : NmAt W g k m) (hb : Below B W W') (hg : g < B) : NmAt W' g k m :=
  ⟨(hb.cell (p := ⟨g, k * 4, none⟩) hg).trans h.1, (hb.cell (p := ⟨g, k * 4 + 1, none⟩) hg).trans h.2.1, (hb.cell (p := ⟨g, k * 4 + 2, none⟩) hg).trans h.2.2.1, (hb.cell (p := ⟨g, k * 4 + 3, none⟩) hg).trans h.2.2.2⟩

/-- All names of a list are as they should be. -/
def Out (P : Nm → Nat → Prop) (l : List Nm) : Prop := ∀ k m, l[k]? = some m → P m k
theorem out_nil (P : Nm → Nat → Prop) : Out P [] := fun k m h => by simp at h
theorem Out.snoc {P : Nm → Nat → Prop} {l : List Nm} (h : Out P l) {m : Nm} (hm : P m l.length) : Out P (l ++ [m]) := by
  intro k x hk
  rcases Nat.lt_trichotomy k l.length with c | c | c
  · rw [List.getElem?_append_left c] at hk; exact h k x hk
  · subst c; simp at hk; subst hk; exact hm
  · rw [List.getElem?_append_right (by omega), List.getElem?_eq_none (by simp; omega)] at hk; cases hk
theorem Out.two {P : Nm → Nat → Prop} {l : List Nm} (h : Out P l) {m m' : Nm} (hm : P m l.length) (hm' : P m' (l.length + 1)) : Out P (l ++ [m, m']) := by
  have := (h.snoc hm).snoc (m := m') (by simpa using hm')
  simpa using this

/-- What a call tells that makes a row of n names. -/
def Named (P : Nm → Nat → Prop) (n : Nat) (w : World) (e : Ending) (w' : World) : Prop :=
  ∃ (g cap : Nat) (f : Nat → Nm), e = .returned (.slice (some ⟨g, 0, none⟩) n cap) ∧ n ≤ cap ∧ w.heap.size ≤ g ∧ g < w'.heap.size ∧ (∀ k, k < n → NmAt w' g k (f k) ∧ P (f k) k) ∧ Below w.heap.size w w'
theorem named_of {P : Nm → Nat → Prop} {w w' : World} {base : Nat} {v : Value} {l : List Nm} (h : Row w' base v l) (hb : w.heap.size ≤ base) (hn : 0 < l.length) (ho : Out P l) (hw : Below w.heap.size w w') : Named P l.length w (.returned v) w' := by
  obtain ⟨_, ⟨_, h0⟩ | ⟨g, cap, cur, rfl, hg, hh, hc, _, hcs, htake⟩⟩ := h
  · omega
  · have hgl : g < w'.heap.size := Blk.lt (w := w') (t := 114) (cs := cur) hh
    refine ⟨g, cap, fun k => (l[k]?).getD ⟨0, 0, 0, 0⟩, rfl, hc, by omega, hgl, fun k hk => ?_, hw⟩
    have e : l[k]? = some l[k] := List.getElem?_eq_getElem hk
    have e2 : (fun k => (l[k]?).getD ⟨0, 0, 0, 0⟩) k = l[k] := by simp only [e, Option.getD_some]
    have cell : ∀ j u, j < l.length * 4 → (flat l)[j]? = some u → w'.cell? ⟨g, j, none⟩ = some u := by
      intro j u hj hu
      rw [Blk.cell (w := w') (t := 114) (cs := cur) hh, ← Array.getElem?_toList, ← List.getElem?_take_of_lt hj, htake]
      exact hu
    have q := flat_at l k _ e
    rw [e2]
    exact ⟨⟨cell _ _ (by omega) q.1, cell _ _ (by omega) q.2.1, cell _ _ (by omega) q.2.2.1, cell _ _ (by omega) q.2.2.2⟩, ho k _ e⟩
end Go.Proofs.Ytaooglagddphnaa

namespace Go.Proofs.Ytaooglagddphnaa
open Go.RowKit

/-- A row of n names is made, in a world where the reference's lay lies boxed at the first new block. -/
def Made (P : Nm → Nat → Prop) (w : World) (V S T n : Int) (v : Value) (W : World) : Prop :=
  ∃ l : List Nm, (l.length : Int) = n ∧ Out P l ∧ Row W (w.heap.size + 1) v l ∧ Blk W w.heap.size 68 #[.int .i64 V, .int .i64 S, .int .i64 T] ∧ Below w.heap.size w W
section
variable {P : Nm → Nat → Prop} {w W W' : World} {V S T n : Int} {v : Value}
theorem Made.blk (h : Made P w V S T n v W) : Blk W w.heap.size 68 #[.int .i64 V, .int .i64 S, .int .i64 T] := by
  obtain ⟨l, _, _, _, b, _⟩ := h; exact b
theorem Made.c0 (h : Made P w V S T n v W) : W.cell? ⟨w.heap.size, 0, none⟩ = some (.int .i64 V) := h.blk.cell 0
theorem Made.c1 (h : Made P w V S T n v W) : W.cell? ⟨w.heap.size, 1, none⟩ = some (.int .i64 S) := h.blk.cell 1
theorem Made.c2 (h : Made P w V S T n v W) : W.cell? ⟨w.heap.size, 2, none⟩ = some (.int .i64 T) := h.blk.cell 2
theorem Made.lt (h : Made P w V S T n v W) : w.heap.size < W.heap.size := h.blk.lt
theorem Made.start : Made P w V S T 0 (.slice none 0 0) (w.alloc (.cells #[.int .i64 V, .int .i64 S, .int .i64 T] 68)) :=
  ⟨[], rfl, out_nil P, rowN_nil _ _, Blk.new _ _ _, (Below.refl _ _).alloc (Nat.le_refl _) _⟩
theorem Made.later (h : Made P w V S T n v W) (hb : Below W.heap.size W W') : Made P w V S T n v W' := by
  obtain ⟨l, e, o, r, b, k⟩ := h
  exact ⟨l, e, o, r.below hb, b.below hb b.lt, keepL k hb (Nat.le_of_lt b.lt)⟩
theorem Made.eq (h : Made P w V S T n v W) {m : Int} (e : n = m) : Made P w V S T m v W := e ▸ h
end

/-- A node's name, and its place. -/
def NodeAt (V S : Int) (m : Nm) (k : Nat) : Prop :=
  (m.k = 1 ∧ m.c = 0 ∧ 0 ≤ m.a ∧ m.a < lv V ∧ 0 ≤ m.b ∧ m.b < V ∧ (k : Int) = m.a * V + m.b) ∨
  (m.k = 2 ∧ 0 ≤ m.a ∧ m.a < S ∧ 0 ≤ m.b ∧ m.b < lv V ∧ (m.c = 0 ∨ m.c = 1) ∧ (k : Int) = vn V + m.a * sn V + 2 * m.b + m.c)

theorem mul_up {k V L : Int} (h0 : 0 ≤ k) (h1 : k ≤ L) (hV : 0 ≤ V) : 0 ≤ k * V ∧ k * V ≤ L * V := ⟨Int.mul_nonneg h0 hV, Int.mul_le_mul_of_nonneg_right h1 hV⟩

set_option maxRecDepth 100000 in
set_option maxHeartbeats 4000000 in
theorem rnodes_yes (V S T : Int) (h : Rt V S T) (w : World) :
    Calls Try.prog 64 #[vL V S T] w (Named (NodeAt V S) (nd V S).toNat w) := by
  have H := Lib.hid h
  have v1 := h.v1
  have v2 := h.v2
  have s1 := h.s1
  have s2 := h.s2
  have z := sizes h
  have l1 := z.l1
  have l2 := z.l2
  have HZ := Lib.hid z
  clear h z
  go_enter Try.func64, Try.ntmps64
  go_wp2_with fail
  go_loopw [3, 4] (fun v i wr => ∃ k : Int, 0 ≤ k ∧ k ≤ lv V ∧ i = .int .i64 k ∧ Made (NodeAt V S) w V S T (k * V) v wr) (fun _ i _ => (lv V - intOf i).toNat)
  case atStart => exact ⟨0, by omega, by omega, rfl, Made.start.eq (by simp)⟩
  case round =>
    obtain ⟨k, k0, k1, rfl, hM⟩ := hrel
    obtain ⟨wo, rfl⟩ : ∃ wo : World, wo = wr := ⟨_, rfl⟩
    have c0 := hM.c0
    have c1 := hM.c1
    have c2 := hM.c2
    have hz := hM.lt
    have HM := Lib.hid hM
    clear hM
    by_cases hk : k < lv V
    · go_wp2_with fail
      refine (rlevels_yes V S T H.out _).mono ?_; rintro e w1 ⟨rfl, b1⟩
      have hM1 := Lib.hid (HM.out.later b1)
      clear c0 c1 c2 hz HM b1
      go_wp2_with fail
      go_loopw [3, 5] (fun v j wr => ∃ j' : Int, 0 ≤ j' ∧ j' ≤ V ∧ j = .int .i64 j' ∧ Made (NodeAt V S) w V S T (k * V + j') v wr) (fun _ j _ => (V - intOf j).toNat)
      case atStart => exact ⟨0, by omega, by omega, rfl, hM1.out.eq (by omega)⟩
      case round =>
        clear hM1
        obtain ⟨j, j0, j1, rfl, hM⟩ := hrel
        have c0 := hM.c0
        have c1 := hM.c1
        have c2 := hM.c2
        have HM := Lib.hid hM
        clear hM
        by_cases hj : j < V
        · obtain ⟨l, hl, ho, hrow, hblk, hbel⟩ := HM.out
          have few : l.length ≤ 1000 := by
            have := mul_up k0 k1 (show 0 ≤ V by omega)
            have := HZ.out.vn2
            unfold vn at this
            omega
          have HL := Lib.hid hl
          clear hl
          go_wp2_with (at_builtin; refine wpList_append_names rfl (.tmp 20) (.tmp 24) rfl (w.heap.size + 1) _ l [⟨1, k, j, 0⟩] rfl (hrow.alloc _) wr.heap.size 1 rfl rfl (Blk.new _ _ _) (by omega) (by have := hblk.lt; simp; omega) ?_; intro v' w2 hrow2 hb2)
          go_roundw
          case rel =>
            refine ⟨j + 1, by omega, by omega, rfl, l ++ [⟨1, k, j, 0⟩], by have := HL.out; simp; omega, ho.snoc (.inl ⟨rfl, rfl, k0, hk, j0, hj, HL.out⟩), hrow2, (hblk.alloc _).below hb2 (by omega), ?_⟩
            exact (hbel.alloc (Nat.le_of_lt hblk.lt) _).trans (hb2.mono (by omega))
          case measure => simp [intOf]; omega
        · have e : j = V := by omega
          subst e
          go_wp2_with fail
          go_roundw
          case rel => exact ⟨k + 1, by omega, by omega, rfl, HM.out.eq (by rw [Int.add_mul]; omega)⟩
          case measure => simp [intOf]; omega
    · have e : k = lv V := by omega
      subst e
      go_wp2_with fail
      refine (rlevels_yes V S T H.out _).mono ?_; rintro e w1 ⟨rfl, b1⟩
      have hM1 := Lib.hid (HM.out.later b1)
      clear c0 c1 c2 hz HM b1
      go_wp2_with fail
      go_loopw [3, 6] (fun v i wr => ∃ s : Int, 0 ≤ s ∧ s ≤ S ∧ i = .int .i64 s ∧ Made (NodeAt V S) w V S T (vn V + s * sn V) v wr) (fun _ i _ => (S - intOf i).toNat)
      case atStart => exact ⟨0, by omega, by omega, rfl, hM1.out.eq (by unfold vn; simp)⟩
      case round =>
        clear hM1
        obtain ⟨s, a0, a1, rfl, hM⟩ := hrel
        have c0 := hM.c0
        have c1 := hM.c1
        have c2 := hM.c2
        have HM := Lib.hid hM
        clear hM
        by_cases hs : s < S
        · go_wp2_with fail
          go_loopw [3, 7] (fun v j wr => ∃ j' : Int, 0 ≤ j' ∧ j' ≤ lv V ∧ j = .int .i64 j' ∧ Made (NodeAt V S) w V S T (vn V + s * sn V + 2 * j') v wr) (fun _ j _ => (lv V - intOf j).toNat)
          case atStart => exact ⟨0, by omega, by omega, rfl, HM.out.eq (by omega)⟩
          case round =>
            clear HM c0 c1 c2
            obtain ⟨j, j0, j1, rfl, hM⟩ := hrel
            have c0 := hM.c0
            have c1 := hM.c1
            have c2 := hM.c2
            have HM := Lib.hid hM
            clear hM
            by_cases hj : j < lv V
            · go_wp2_with fail
              refine (rlevels_yes V S T H.out _).mono ?_; rintro e w1 ⟨rfl, b1⟩
              have hM1 := HM.out.later b1
              clear c0 c1 c2 HM b1
              obtain ⟨l, hl, ho, hrow, hblk, hbel⟩ := hM1
              have few : l.length ≤ 1000 := by
                have := mul_up a0 a1 (show 0 ≤ sn V by have := HZ.out.sn1; omega)
                have := HZ.out.vn2
                have := HZ.out.ss2
                omega
              have HL := Lib.hid hl
              clear hl
              go_wp2_with (at_builtin; refine wpList_append_names rfl (.tmp 38) (.tmp 45) rfl (w.heap.size + 1) _ l [⟨2, s, j, 0⟩, ⟨2, s, j, 1⟩] rfl (hrow.alloc _) w1.heap.size 2 rfl rfl (Blk.new _ _ _) (by omega) (by have := hblk.lt; simp; omega) ?_; intro v' w2 hrow2 hb2)
              go_roundw
              case rel =>
                refine ⟨j + 1, by omega, by omega, rfl, l ++ [⟨2, s, j, 0⟩, ⟨2, s, j, 1⟩], by have := HL.out; simp; omega, ho.two (.inr ⟨rfl, a0, hs, j0, hj, .inl rfl, by have := HL.out; simp only; omega⟩) (.inr ⟨rfl, a0, hs, j0, hj, .inr rfl, by have := HL.out; simp only; omega⟩), hrow2, (hblk.alloc _).below hb2 (by omega), ?_⟩
                exact (hbel.alloc (Nat.le_of_lt hblk.lt) _).trans (hb2.mono (by omega))
              case measure => simp [intOf]; omega
            · have e : j = lv V := by omega
              subst e
              go_wp2_with fail
              refine (rlevels_yes V S T H.out _).mono ?_; rintro e w1 ⟨rfl, b1⟩
              have hM1 := Lib.hid (HM.out.later b1)
              clear c0 c1 c2 HM b1
              go_wp2_with fail
              go_roundw
              case rel => exact ⟨s + 1, by omega, by omega, rfl, hM1.out.eq (by rw [Int.add_mul]; unfold sn; omega)⟩
              case measure => simp [intOf]; omega
        · have e : s = S := by omega
          subst e
          go_wp2_with fail
          go_ret
          obtain ⟨l, hl, ho, hrow, hblk, hbel⟩ := HM.out
          have hn : (nd V s).toNat = l.length := by unfold nd; omega
          rw [hn]
          exact named_of hrow (by omega) (by have := HZ.out.nd1; omega) ho hbel
end Go.Proofs.Ytaooglagddphnaa

namespace Go.Proofs.Ytaooglagddphnaa
open Go.RowKit

/-- A cell's name, and its number. -/
def CellAt (V S T : Int) (m : Nm) (k : Nat) : Prop :=
  (m.k = 1 ∧ (m.b = 0 ∧ m.c = 0) ∧ 1 ≤ m.a ∧ m.a ≤ T ∧ (k : Int) = m.a - 1) ∨ (m.k = 2 ∧ (m.a = 0 ∧ m.b = 0 ∧ m.c = 0) ∧ (k : Int) = T) ∨
  (m.k = 3 ∧ (m.b = 0 ∧ m.c = 0) ∧ 0 ≤ m.a ∧ m.a < S ∧ (k : Int) = T + 1 + m.a * 7) ∨ (m.k = 4 ∧ (m.b = 0 ∧ m.c = 0) ∧ 0 ≤ m.a ∧ m.a < S ∧ (k : Int) = T + 1 + m.a * 7 + 1) ∨ (m.k = 5 ∧ (m.b = 0 ∧ m.c = 0) ∧ 0 ≤ m.a ∧ m.a < S ∧ (k : Int) = T + 1 + m.a * 7 + 2) ∨
  (m.k = 6 ∧ m.c = 0 ∧ 0 ≤ m.a ∧ m.a < S ∧ (m.b = 0 ∨ m.b = 1) ∧ (k : Int) = T + 1 + m.a * 7 + 3 + m.b) ∨ (m.k = 7 ∧ m.c = 0 ∧ 0 ≤ m.a ∧ m.a < S ∧ (m.b = 0 ∨ m.b = 1) ∧ (k : Int) = T + 1 + m.a * 7 + 5 + m.b) ∨
  (m.k = 8 ∧ m.c = 0 ∧ 0 ≤ m.a ∧ m.a < V ∧ 0 ≤ m.b ∧ m.b < lv V ∧ (k : Int) = o3 S T + m.a * lv V + m.b) ∨
  (m.k = 9 ∧ m.c = 0 ∧ 0 ≤ m.a ∧ m.a < m.b ∧ m.b < V ∧ (k : Int) = o4 V S T + ahF V m.a + (m.b - m.a - 1)) ∨
  (m.k = 10 ∧ m.c = 0 ∧ 1 ≤ m.a ∧ m.a ≤ nd V S ∧ 0 ≤ m.b ∧ m.b < 7 ∧ (k : Int) = o5 V S T + (m.a - 1) * 7 + m.b)
section
variable {V S T a b c : Int} {k : Nat}
theorem cellAt_1 (h1 : 1 ≤ a) (h2 : a ≤ T) (h : (k : Int) = a - 1) : CellAt V S T ⟨1, a, 0, 0⟩ k := .inl ⟨rfl, ⟨rfl, rfl⟩, h1, h2, h⟩
theorem cellAt_2 (h : (k : Int) = T) : CellAt V S T ⟨2, 0, 0, 0⟩ k := .inr (.inl ⟨rfl, ⟨rfl, rfl, rfl⟩, h⟩)
theorem cellAt_3 (h1 : 0 ≤ a) (h2 : a < S) (h : (k : Int) = T + 1 + a * 7) : CellAt V S T ⟨3, a, 0, 0⟩ k := .inr (.inr (.inl ⟨rfl, ⟨rfl, rfl⟩, h1, h2, h⟩))
theorem cellAt_4 (h1 : 0 ≤ a) (h2 : a < S) (h : (k : Int) = T + 1 + a * 7 + 1) : CellAt V S T ⟨4, a, 0, 0⟩ k := .inr (.inr (.inr (.inl ⟨rfl, ⟨rfl, rfl⟩, h1, h2, h⟩)))
theorem cellAt_5 (h1 : 0 ≤ a) (h2 : a < S) (h : (k : Int) = T + 1 + a * 7 + 2) : CellAt V S T ⟨5, a, 0, 0⟩ k := .inr (.inr (.inr (.inr (.inl ⟨rfl, ⟨rfl, rfl⟩, h1, h2, h⟩))))
theorem cellAt_6 (h1 : 0 ≤ a) (h2 : a < S) (h3 : b = 0 ∨ b = 1) (h : (k : Int) = T + 1 + a * 7 + 3 + b) : CellAt V S T ⟨6, a, b, 0⟩ k := .inr (.inr (.inr (.inr (.inr (.inl ⟨rfl, rfl, h1, h2, h3, h⟩)))))
theorem cellAt_7 (h1 : 0 ≤ a) (h2 : a < S) (h3 : b = 0 ∨ b = 1) (h : (k : Int) = T + 1 + a * 7 + 5 + b) : CellAt V S T ⟨7, a, b, 0⟩ k := .inr (.inr (.inr (.inr (.inr (.inr (.inl ⟨rfl, rfl, h1, h2, h3, h⟩))))))
theorem cellAt_8 (h1 : 0 ≤ a) (h2 : a < V) (h3 : 0 ≤ b) (h4 : b < lv V) (h : (k : Int) = o3 S T + a * lv V + b) : CellAt V S T ⟨8, a, b, 0⟩ k := .inr (.inr (.inr (.inr (.inr (.inr (.inr (.inl ⟨rfl, rfl, h1, h2, h3, h4, h⟩)))))))
theorem cellAt_9 (h1 : 0 ≤ a) (h2 : a < b) (h3 : b < V) (h : (k : Int) = o4 V S T + ahF V a + (b - a - 1)) : CellAt V S T ⟨9, a, b, 0⟩ k := .inr (.inr (.inr (.inr (.inr (.inr (.inr (.inr (.inl ⟨rfl, rfl, h1, h2, h3, h⟩))))))))
theorem cellAt_10 (h1 : 1 ≤ a) (h2 : a ≤ nd V S) (h3 : 0 ≤ b) (h4 : b < 7) (h : (k : Int) = o5 V S T + (a - 1) * 7 + b) : CellAt V S T ⟨10, a, b, 0⟩ k := .inr (.inr (.inr (.inr (.inr (.inr (.inr (.inr (.inr ⟨rfl, rfl, h1, h2, h3, h4, h⟩))))))))
end
theorem out_7 {P : Nm → Nat → Prop} {l : List Nm} (h : Out P l) {m0 m1 m2 m3 m4 m5 m6 : Nm} (h0 : P m0 l.length) (h1 : P m1 (l.length + 1)) (h2 : P m2 (l.length + 2)) (h3 : P m3 (l.length + 3)) (h4 : P m4 (l.length + 4)) (h5 : P m5 (l.length + 5)) (h6 : P m6 (l.length + 6)) : Out P (l ++ [m0, m1, m2, m3, m4, m5, m6]) := by
  have := ((((((h.snoc h0).snoc (m := m1) (by simpa using h1)).snoc (m := m2) (by simpa using h2)).snoc (m := m3) (by simpa using h3)).snoc (m := m4) (by simpa using h4)).snoc (m := m5) (by simpa using h5)).snoc (m := m6) (by simpa using h6)
  simpa using this

set_option maxRecDepth 100000 in
set_option maxHeartbeats 8000000 in
theorem rcells_yes (V S T : Int) (h : Rt V S T) (w : World) :
    Calls Try.prog 63 #[vL V S T] w (Named (CellAt V S T) (cn V S T).toNat w) := by
  have H := Lib.hid h
  have v1 := h.v1
  have v2 := h.v2
  have s1 := h.s1
  have s2 := h.s2
  have t1 := h.t1
  have t2 := h.t2
  have zz := sizes h
  have l1 := zz.l1
  have l2 := zz.l2
  have n1 := zz.nd1
  have n2 := zz.nd2
  have hnn : (((nd V S).toNat : Nat) : Int) = nd V S := by omega
  have HZ := Lib.hid zz
  clear h zz
  go_enter Try.func63, Try.ntmps63
  go_wp2_with fail
  go_loopw [3, 4] (fun v i wr => ∃ j : Int, 1 ≤ j ∧ j ≤ T + 1 ∧ i = .int .i64 j ∧ Made (CellAt V S T) w V S T (j - 1) v wr) (fun _ i _ => (T + 1 - intOf i).toNat)
  case atStart => exact ⟨1, by omega, by omega, rfl, Made.start.eq (by omega)⟩
  case round =>
    obtain ⟨i, j0, j1, rfl, hM⟩ := hrel
    have HM := Lib.hid hM
    clear hM
    have c0 := HM.out.c0
    have c1 := HM.out.c1
    have c2 := HM.out.c2
    have hz := HM.out.lt
    by_cases hi : i ≤ T
    · obtain ⟨l, hl, ho, hrow, hblk, hbel⟩ := HM.out
      have few : l.length ≤ 10000 := by
        have := HZ.out.vn2
        have := HZ.out.pr2
        omega
      have HL := Lib.hid hl
      clear hl hz
      go_wp2_with (at_builtin; refine wpList_append_names rfl (.tmp 18) (.tmp 21) rfl (w.heap.size + 1) _ l [⟨1, i, 0, 0⟩] rfl (hrow.alloc _) wr.heap.size 1 rfl rfl (Blk.new _ _ _) (by omega) (by have := hblk.lt; simp; omega) ?_; intro v' w2 hrow2 hb2)
      go_roundw
      case rel =>
        refine ⟨i + 1, by omega, by omega, rfl, l ++ [⟨1, i, 0, 0⟩], by have := HL.out; simp; omega, ho.snoc (cellAt_1 j0 hi (by have := HL.out; omega)), hrow2, (hblk.alloc _).below hb2 (by omega), ?_⟩
        exact (hbel.alloc (Nat.le_of_lt hblk.lt) _).trans (hb2.mono (by omega))
      case measure => simp [intOf]; omega
    · have e : i = T + 1 := by omega
      subst e
      obtain ⟨l, hl, ho, hrow, hblk, hbel⟩ := HM.out
      have few : l.length ≤ 10000 := by
        have := HZ.out.vn2
        have := HZ.out.pr2
        omega
      have HL := Lib.hid hl
      clear hl hz
      go_wp2_with (at_builtin; refine wpList_append_names rfl (.tmp 23) (.tmp 25) rfl (w.heap.size + 1) _ l [⟨2, 0, 0, 0⟩] rfl (hrow.alloc _) wr.heap.size 1 rfl rfl (Blk.new _ _ _) (by omega) (by have := hblk.lt; simp; omega) ?_; intro v' w2 hrow2 hb2)
      have HM2 : Hid (Made (CellAt V S T) w V S T (T + 1) v' w2) := Lib.hid ⟨l ++ [⟨2, 0, 0, 0⟩], by have := HL.out; simp; omega, ho.snoc (cellAt_2 (by have := HL.out; omega)), hrow2, (hblk.alloc _).below hb2 (by omega), (hbel.alloc (Nat.le_of_lt hblk.lt) _).trans (hb2.mono (by omega))⟩
      clear HM HL ho hrow hblk hbel hrow2 hb2 c0 c1 c2 few j0 j1 hi
      go_loopw [3, 5] (fun v i wr => ∃ j : Int, 0 ≤ j ∧ j ≤ S ∧ i = .int .i64 j ∧ Made (CellAt V S T) w V S T (T + 1 + j * 7) v wr) (fun _ i _ => (S - intOf i).toNat)
      case atStart => exact ⟨0, by omega, by omega, rfl, HM2.out.eq (by omega)⟩
      case round =>
        clear HM2
        obtain ⟨s, j0, j1, rfl, hM⟩ := hrel
        have HM := Lib.hid hM
        clear hM
        have c0 := HM.out.c0
        have c1 := HM.out.c1
        have c2 := HM.out.c2
        have hz := HM.out.lt
        by_cases hs : s < S
        · obtain ⟨l, hl, ho, hrow, hblk, hbel⟩ := HM.out
          have few : l.length ≤ 10000 := by
            have := HZ.out.vn2
            have := HZ.out.pr2
            omega
          have HL := Lib.hid hl
          clear hl hz
          go_wp2_with (at_builtin; refine wpList_append_names rfl (.tmp 33) (.tmp 48) rfl (w.heap.size + 1) _ l [⟨3, s, 0, 0⟩, ⟨4, s, 0, 0⟩, ⟨5, s, 0, 0⟩, ⟨6, s, 0, 0⟩, ⟨6, s, 1, 0⟩, ⟨7, s, 0, 0⟩, ⟨7, s, 1, 0⟩] rfl (hrow.alloc _) wr.heap.size 7 rfl rfl (Blk.new _ _ _) (by omega) (by have := hblk.lt; simp; omega) ?_; intro v' w2 hrow2 hb2)
          go_roundw
          case rel =>
            refine ⟨s + 1, by omega, by omega, rfl, l ++ [⟨3, s, 0, 0⟩, ⟨4, s, 0, 0⟩, ⟨5, s, 0, 0⟩, ⟨6, s, 0, 0⟩, ⟨6, s, 1, 0⟩, ⟨7, s, 0, 0⟩, ⟨7, s, 1, 0⟩], by have := HL.out; simp; omega, out_7 ho (cellAt_3 j0 hs (by have := HL.out; omega)) (cellAt_4 j0 hs (by have := HL.out; omega)) (cellAt_5 j0 hs (by have := HL.out; omega)) (cellAt_6 j0 hs (.inl rfl) (by have := HL.out; omega)) (cellAt_6 j0 hs (.inr rfl) (by have := HL.out; omega)) (cellAt_7 j0 hs (.inl rfl) (by have := HL.out; omega)) (cellAt_7 j0 hs (.inr rfl) (by have := HL.out; omega)), hrow2, (hblk.alloc _).below hb2 (by omega), ?_⟩
            exact (hbel.alloc (Nat.le_of_lt hblk.lt) _).trans (hb2.mono (by omega))
          case measure => simp [intOf]; omega
        · have e : s = S := by omega
          subst e
          go_wp2_with fail
          go_loopw [3, 6] (fun v i wr => ∃ j : Int, 0 ≤ j ∧ j ≤ V ∧ i = .int .i64 j ∧ Made (CellAt V s T) w V s T (o3 s T + j * lv V) v wr) (fun _ i _ => (V - intOf i).toNat)
          case atStart => exact ⟨0, by omega, by omega, rfl, HM.out.eq (by unfold o3; omega)⟩
          case round =>
            clear HM c0 c1 c2 hz j0 j1 hs
            obtain ⟨v, j0, j1, rfl, hM⟩ := hrel
            have HM := Lib.hid hM
            clear hM
            have c0 := HM.out.c0
            have c1 := HM.out.c1
            have c2 := HM.out.c2
            have hz := HM.out.lt
            have hvl := mul_up (k := v) (V := lv V) (L := V) j0 j1 (by omega)
            have hvn : V * lv V = vn V := Int.mul_comm _ _
            have HV := Lib.hid (And.intro hvl hvn)
            clear hvl hvn
            by_cases hv : v < V
            · go_wp2_with fail
              go_loopw [3, 7] (fun u i wr => ∃ j : Int, 0 ≤ j ∧ j ≤ lv V ∧ i = .int .i64 j ∧ Made (CellAt V s T) w V s T (o3 s T + v * lv V + j) u wr) (fun _ i _ => (lv V - intOf i).toNat)
              case atStart => exact ⟨0, by omega, by omega, rfl, HM.out.eq (by omega)⟩
              case round =>
                clear HM c0 c1 c2 hz
                have i0 := j0
                clear j0 j1
                obtain ⟨i, j0, j1, rfl, hM⟩ := hrel
                have HM := Lib.hid hM
                clear hM
                have c0 := HM.out.c0
                have c1 := HM.out.c1
                have c2 := HM.out.c2
                by_cases hi : i < lv V
                · go_wp2_with fail
                  refine (rlevels_yes V s T H.out _).mono ?_; rintro e w1 ⟨rfl, b1⟩
                  have HN := Lib.hid (HM.out.later b1)
                  clear c0 c1 c2 HM b1
                  have HM := HN
                  clear HN
                  have hz := HM.out.lt
                  obtain ⟨l, hl, ho, hrow, hblk, hbel⟩ := HM.out
                  have few : l.length ≤ 10000 := by
                    have := HZ.out.vn2
                    have := HZ.out.pr2
                    have := HV.out; unfold o3 at hl; omega
                  have HL := Lib.hid hl
                  clear hl hz
                  go_wp2_with (at_builtin; refine wpList_append_names rfl (.tmp 62) (.tmp 66) rfl (w.heap.size + 1) _ l [⟨8, v, i, 0⟩] rfl (hrow.alloc _) w1.heap.size 1 rfl rfl (Blk.new _ _ _) (by omega) (by have := hblk.lt; simp; omega) ?_; intro v' w2 hrow2 hb2)
                  go_roundw
                  case rel =>
                    refine ⟨i + 1, by omega, by omega, rfl, l ++ [⟨8, v, i, 0⟩], by have := HL.out; simp; omega, ho.snoc (cellAt_8 i0 hv j0 hi (by have := HL.out; omega)), hrow2, (hblk.alloc _).below hb2 (by omega), ?_⟩
                    exact (hbel.alloc (Nat.le_of_lt hblk.lt) _).trans (hb2.mono (by omega))
                  case measure => simp [intOf]; omega
                · have e : i = lv V := by omega
                  subst e
                  go_wp2_with fail
                  refine (rlevels_yes V s T H.out _).mono ?_; rintro e w1 ⟨rfl, b1⟩
                  have HN := Lib.hid (HM.out.later b1)
                  clear c0 c1 c2 HM b1
                  go_wp2_with fail
                  go_roundw
                  case rel => exact ⟨v + 1, by omega, by omega, rfl, HN.out.eq (by rw [Int.add_mul]; omega)⟩
                  case measure => simp [intOf]; omega
            · have e : v = V := by omega
              subst e
              have HM2 : Hid (Made (CellAt v s T) w v s T (o4 v s T) _ _) := Lib.hid (HM.out.eq (by have := HV.out.2; unfold o3 o4; omega))
              clear HM HV
              go_wp2_with fail
              go_loopw [3, 8] (fun u i wr => ∃ j : Int, 0 ≤ j ∧ j ≤ v ∧ i = .int .i64 j ∧ Made (CellAt v s T) w v s T (o4 v s T + ahF v j) u wr) (fun _ i _ => (v - intOf i).toNat)
              case atStart => exact ⟨0, by omega, by omega, rfl, HM2.out.eq (by rw [ah_zero]; omega)⟩
              case round =>
                clear HM2 c0 c1 c2 hz j0 j1 hv
                obtain ⟨a, j0, j1, rfl, hM⟩ := hrel
                have HM := Lib.hid hM
                clear hM
                have c0 := HM.out.c0
                have c1 := HM.out.c1
                have c2 := HM.out.c2
                have hz := HM.out.lt
                by_cases ha : a < v
                · go_wp2_with fail
                  go_loopw [3, 9] (fun u i wr => ∃ j : Int, a + 1 ≤ j ∧ j ≤ v ∧ i = .int .i64 j ∧ Made (CellAt v s T) w v s T (o4 v s T + ahF v a + (j - a - 1)) u wr) (fun _ i _ => (v - intOf i).toNat)
                  case atStart => exact ⟨a + 1, by omega, by omega, rfl, HM.out.eq (by omega)⟩
                  case round =>
                    clear HM c0 c1 c2 hz
                    have i0 := j0
                    clear j0 j1
                    obtain ⟨b, j0, j1, rfl, hM⟩ := hrel
                    have HM := Lib.hid hM
                    clear hM
                    have c0 := HM.out.c0
                    have c1 := HM.out.c1
                    have c2 := HM.out.c2
                    have hz := HM.out.lt
                    by_cases hb : b < v
                    · obtain ⟨l, hl, ho, hrow, hblk, hbel⟩ := HM.out
                      have few : l.length ≤ 10000 := by
                        have := HZ.out.vn2
                        have := HZ.out.pr2
                        have := ah_end (V := v) (a := a) (by omega); unfold o4 at hl; omega
                      have HL := Lib.hid hl
                      clear hl hz
                      go_wp2_with (at_builtin; refine wpList_append_names rfl (.tmp 82) (.tmp 86) rfl (w.heap.size + 1) _ l [⟨9, a, b, 0⟩] rfl (hrow.alloc _) wr.heap.size 1 rfl rfl (Blk.new _ _ _) (by omega) (by have := hblk.lt; simp; omega) ?_; intro v' w2 hrow2 hb2)
                      go_roundw
                      case rel =>
                        refine ⟨b + 1, by omega, by omega, rfl, l ++ [⟨9, a, b, 0⟩], by have := HL.out; simp; omega, ho.snoc (cellAt_9 i0 (by omega) hb (by have := HL.out; omega)), hrow2, (hblk.alloc _).below hb2 (by omega), ?_⟩
                        exact (hbel.alloc (Nat.le_of_lt hblk.lt) _).trans (hb2.mono (by omega))
                      case measure => simp [intOf]; omega
                    · have e : b = v := by omega
                      subst e
                      go_wp2_with fail
                      go_roundw
                      case rel => exact ⟨a + 1, by omega, by omega, rfl, HM.out.eq (by rw [ah_step]; omega)⟩
                      case measure => simp [intOf]; omega
                · have e : a = v := by omega
                  subst e
                  have HM2 : Hid (Made (CellAt a s T) w a s T (o5 a s T) _ _) := Lib.hid (HM.out.eq (by have e := ah_step (V := a) (a := a - 1); rw [show a - 1 + 1 = a by omega, ah_last] at e; unfold o4 o5; omega))
                  clear HM
                  go_wp2_with fail
                  go_loopw [3, 10] (fun u i wr => ∃ j : Int, 1 ≤ j ∧ j ≤ nd a s + 1 ∧ i = .int .i64 j ∧ Made (CellAt a s T) w a s T (o5 a s T + (j - 1) * 7) u wr) (fun _ i _ => (nd a s + 1 - intOf i).toNat)
                  case atStart => exact ⟨1, by omega, by omega, rfl, HM2.out.eq (by omega)⟩
                  case round =>
                    clear HM2 c0 c1 c2 hz j0 j1 ha
                    obtain ⟨x, j0, j1, rfl, hM⟩ := hrel
                    have HM := Lib.hid hM
                    clear hM
                    have c0 := HM.out.c0
                    have c1 := HM.out.c1
                    have c2 := HM.out.c2
                    have hz := HM.out.lt
                    have k0 := j0
                    have k1 := j1
                    by_cases hx : x ≤ nd a s
                    · go_wp2_with fail
                      refine (rnodes_yes a s T H.out _).mono ?_; rintro e w1 ⟨g1, cap1, f1, rfl, _, _, _, _, b1⟩
                      have HN := Lib.hid (HM.out.later b1)
                      clear c0 c1 c2 hz HM b1 j0 j1
                      go_wp2_with fail
                      go_loopw [3, 11] (fun u i wr => ∃ j : Int, 0 ≤ j ∧ j ≤ 7 ∧ i = .int .i64 j ∧ Made (CellAt a s T) w a s T (o5 a s T + (x - 1) * 7 + j) u wr) (fun _ i _ => (7 - intOf i).toNat)
                      case atStart => exact ⟨0, by omega, by omega, rfl, HN.out.eq (by omega)⟩
                      case round =>
                        clear HN
                        obtain ⟨i, j0, j1, rfl, hM⟩ := hrel
                        have HM := Lib.hid hM
                        clear hM
                        have hz := HM.out.lt
                        by_cases hi : i < 7
                        · obtain ⟨l, hl, ho, hrow, hblk, hbel⟩ := HM.out
                          have few : l.length ≤ 10000 := by
                            have := HZ.out.vn2
                            have := HZ.out.pr2
                            unfold o5 at hl; omega
                          have HL := Lib.hid hl
                          clear hl hz
                          go_wp2_with (at_builtin; refine wpList_append_names rfl (.tmp 99) (.tmp 103) rfl (w.heap.size + 1) _ l [⟨10, x, i, 0⟩] rfl (hrow.alloc _) wr.heap.size 1 rfl rfl (Blk.new _ _ _) (by omega) (by have := hblk.lt; simp; omega) ?_; intro v' w2 hrow2 hb2)
                          go_roundw
                          case rel =>
                            refine ⟨i + 1, by omega, by omega, rfl, l ++ [⟨10, x, i, 0⟩], by have := HL.out; simp; omega, ho.snoc (cellAt_10 k0 hx j0 hi (by have := HL.out; omega)), hrow2, (hblk.alloc _).below hb2 (by omega), ?_⟩
                            exact (hbel.alloc (Nat.le_of_lt hblk.lt) _).trans (hb2.mono (by omega))
                          case measure => simp [intOf]; omega
                        · have e : i = 7 := by omega
                          subst e
                          go_wp2_with fail
                          go_roundw
                          case rel => exact ⟨x + 1, by omega, by omega, rfl, HM.out.eq (by omega)⟩
                          case measure => simp [intOf]; omega
                    · have e : x = nd a s + 1 := by omega
                      subst e
                      go_wp2_with fail
                      refine (rnodes_yes a s T H.out _).mono ?_; rintro e w1 ⟨g1, cap1, f1, rfl, _, _, _, _, b1⟩
                      have HN := Lib.hid (HM.out.later b1)
                      clear c0 c1 c2 hz HM b1
                      go_wp2_with fail
                      go_ret
                      obtain ⟨l, hl, ho, hrow, hblk, hbel⟩ := HN.out
                      have hn : (cn a s T).toNat = l.length := by unfold cn; unfold o5 at hl; omega
                      rw [hn]
                      exact named_of hrow (by omega) (by unfold o5 at hl; have := HZ.out.vn1; have := HZ.out.pr1; omega) ho hbel
end Go.Proofs.Ytaooglagddphnaa

namespace Go.Proofs.Ytaooglagddphnaa
open Go.RowKit

set_option maxRecDepth 100000

abbrev nmV (m : Nm) : Value := .agg #[.int .i64 m.k, .int .i64 m.a, .int .i64 m.b, .int .i64 m.c]
theorem typesN13 : ∃ m, Try.prog.types.size = m + 1 := ⟨Try.prog.types.size - 1, by have : 0 < Try.prog.types.size := of_decide_eq_true (by kernel_rfl); omega⟩
theorem keyedN : Go.Maps.Keyed Try.prog 114 := Go.Maps.Keyed.of_law (deep_law (m := 2) (by omega) (by kernel_rfl) (by kernel_rfl) (by rw [Try.underlying114]))
theorem cellsN13 : Try.prog.cellsOf 114 = 4 := by kernel_rfl
theorem cellsI13 : Try.prog.cellsOf 3 = 1 := by kernel_rfl
theorem ktN13 : Try.prog.keyType 114 = true := by kernel_rfl
def in64 (x : Int) : Prop := -9223372036854775808 ≤ x ∧ x ≤ 9223372036854775807
theorem keyN (m : Nm) (h1 : in64 m.k) (h2 : in64 m.a) (h3 : in64 m.b) (h4 : in64 m.c) : ∃ l, keyOf Try.prog 114 (nmV m) = some l := by
  have w1 := WalkArith.wf_i64 h1
  have w2 := WalkArith.wf_i64 h2
  have w3 := WalkArith.wf_i64 h3
  have w4 := WalkArith.wf_i64 h4
  obtain ⟨m', hm⟩ := typesN13
  unfold keyOf
  simp only [Try.underlying114]
  rw [if_pos (by simp [ktN13, Value.formed, Try.underlying114, cellsN13]), hm]
  unfold Program.keyLits
  simp only [Try.underlying114, Value.cells]
  rw [if_pos (by rw [cellsN13]; exact ⟨rfl, by simp⟩)]
  simp [cellsI13, Program.keyLits, Try.underlying3, w1, w2, w3, w4]
end Go.Proofs.Ytaooglagddphnaa

namespace Go.Proofs.Ytaooglagddphnaa
open Go.RowKit

set_option maxRecDepth 100000

/-- A book's parts. -/
structure BkV where
  V : Int
  S : Int
  T : Int
  gn : Nat
  nn : Nat
  cn : Nat
  cb : Nat
  cl : Nat
  cc : Nat
  wb : Nat
  ga : Nat
  na : Nat
  ca : Nat
abbrev vB (b : BkV) : Value := .agg #[.int .i64 b.V, .int .i64 b.S, .int .i64 b.T, .slice (some ⟨b.gn, 0, none⟩) b.nn b.cn, .slice (some ⟨b.cb, 0, none⟩) b.cl b.cc, .map (some b.wb), .slice (some ⟨b.ga, 0, none⟩) b.na b.ca]
abbrev bB (b : BkV) : Obj := .cells #[.int .i64 b.V, .int .i64 b.S, .int .i64 b.T, .slice (some ⟨b.gn, 0, none⟩) b.nn b.cn, .slice (some ⟨b.cb, 0, none⟩) b.cl b.cc, .map (some b.wb), .slice (some ⟨b.ga, 0, none⟩) b.na b.ca] 77
def BB (W : World) (x : Nat) (b : BkV) : Prop := Blk W x 77 #[.int .i64 b.V, .int .i64 b.S, .int .i64 b.T, .slice (some ⟨b.gn, 0, none⟩) b.nn b.cn, .slice (some ⟨b.cb, 0, none⟩) b.cl b.cc, .map (some b.wb), .slice (some ⟨b.ga, 0, none⟩) b.na b.ca]
/-- Where names lead. -/
def Gw (V S T : Int) (key val : Value) : Prop := ∃ (m : Nm) (k : Nat), (k : Int) < cn V S T ∧ CellAt V S T m k ∧ key = nmV m ∧ val = .int .i64 (k : Int)
/-- A book in memory; its cells. -/
structure Bk (W : World) (b : BkV) (cv : Nat → Int) : Prop where
  hR : Rt b.V b.S b.T
  hc : (b.cl : Int) = cn b.V b.S b.T
  ha : b.na = (nd b.V b.S).toNat
  wm : FM 114 W b.wb b.cl (Gw b.V b.S b.T)
  cs : ∀ k, k < b.cl → W.cell? ⟨b.cb, k, none⟩ = some (.int .u64 (cv k))
  al : ∀ k, k < b.na → ∃ m, NmAt W b.ga k m ∧ NodeAt b.V b.S m k
  lt : b.cb < W.heap.size ∧ b.ga < W.heap.size
  rg : ∀ k, 0 ≤ cv k ∧ cv k ≤ 18446744073709551615
  cp : b.cl ≤ 16384
section
variable {w w' W : World} {b : BkV} {cv : Nat → Int} {x k : Nat} {V S T kd y z : Int} {m : Nm}
theorem BB.new (w : World) (b : BkV) : BB (w.alloc (bB b)) w.heap.size b := Blk.new _ _ _
theorem BB.below (h : BB w x b) (hb : Below w.heap.size w w') : BB w' x b := Blk.below h hb (Blk.lt h)
theorem BB.lt (h : BB w x b) : x < w.heap.size := Blk.lt h
theorem BB.cells (h : BB w x b) : w.cell? ⟨x, 0, none⟩ = some (.int .i64 b.V) ∧ w.cell? ⟨x, 1, none⟩ = some (.int .i64 b.S) ∧ w.cell? ⟨x, 2, none⟩ = some (.int .i64 b.T) ∧ w.cell? ⟨x, 3, none⟩ = some (.slice (some ⟨b.gn, 0, none⟩) b.nn b.cn) ∧ w.cell? ⟨x, 4, none⟩ = some (.slice (some ⟨b.cb, 0, none⟩) b.cl b.cc) ∧ w.cell? ⟨x, 5, none⟩ = some (.map (some b.wb)) ∧ w.cell? ⟨x, 6, none⟩ = some (.slice (some ⟨b.ga, 0, none⟩) b.na b.ca) :=
  ⟨Blk.cell h 0, Blk.cell h 1, Blk.cell h 2, Blk.cell h 3, Blk.cell h 4, Blk.cell h 5, Blk.cell h 6⟩
theorem BB.rule (x : Nat) (b : BkV) : ∀ W : World, BB W x b → W.cell? ⟨x, 0, none⟩ = some (.int .i64 b.V) ∧ W.cell? ⟨x, 1, none⟩ = some (.int .i64 b.S) ∧ W.cell? ⟨x, 2, none⟩ = some (.int .i64 b.T) ∧ W.cell? ⟨x, 3, none⟩ = some (.slice (some ⟨b.gn, 0, none⟩) b.nn b.cn) ∧ W.cell? ⟨x, 4, none⟩ = some (.slice (some ⟨b.cb, 0, none⟩) b.cl b.cc) ∧ W.cell? ⟨x, 5, none⟩ = some (.map (some b.wb)) ∧ W.cell? ⟨x, 6, none⟩ = some (.slice (some ⟨b.ga, 0, none⟩) b.na b.ca) := fun _ h => h.cells
theorem Bk.below (h : Bk w b cv) (hb : Below w.heap.size w w') : Bk w' b cv :=
  ⟨h.hR, h.hc, h.ha, h.wm.keep (hb.block _ h.wm.lt), fun k hk => cell_later hb (h.cs k hk), fun k hk => by
    obtain ⟨m, h1, h2⟩ := h.al k hk
    exact ⟨m, h1.below hb h.lt.2, h2⟩, ⟨Nat.lt_of_lt_of_le h.lt.1 hb.size, Nat.lt_of_lt_of_le h.lt.2 hb.size⟩, h.rg, h.cp⟩
theorem Bk.alloc (h : Bk w b cv) (o : Obj) : Bk (w.alloc o) b cv := h.below ((Below.refl _ _).alloc (Nat.le_refl _) o)
theorem Bk.drew (h : Bk w b cv) : Bk w.drew b cv := h.below (Below.refl _ _).drew
theorem cellAt_in (hR : Rt V S T) (h : CellAt V S T m k) : in64 m.k ∧ in64 m.a ∧ in64 m.b ∧ in64 m.c := by
  have h1 := hR.v2
  have h2 := hR.s2
  have h3 := hR.t2
  have h4 := lv_bd V
  have h5 := (sizes hR).nd2
  unfold CellAt at h
  unfold in64
  rcases h with h | h | h | h | h | h | h | h | h | h <;> omega
/-- The place that a name has. -/
def nmI (V S T : Int) (m : Nm) : Int :=
  if m.k = 1 then m.a - 1 else if m.k = 2 then T else if m.k = 3 then T + 1 + m.a * 7 else if m.k = 4 then T + 1 + m.a * 7 + 1 else if m.k = 5 then T + 1 + m.a * 7 + 2 else
  if m.k = 6 then T + 1 + m.a * 7 + 3 + m.b else if m.k = 7 then T + 1 + m.a * 7 + 5 + m.b else if m.k = 8 then o3 S T + m.a * lv V + m.b else if m.k = 9 then o4 V S T + ahF V m.a + (m.b - m.a - 1) else o5 V S T + (m.a - 1) * 7 + m.b
theorem cellAt_nmI (h : CellAt V S T m k) : (k : Int) = nmI V S T m := by
  unfold CellAt at h
  unfold nmI
  rcases h with ⟨e, h⟩ | ⟨e, h⟩ | ⟨e, h⟩ | ⟨e, h⟩ | ⟨e, h⟩ | ⟨e, h⟩ | ⟨e, h⟩ | ⟨e, h⟩ | ⟨e, h⟩ | ⟨e, h⟩ <;> simp only [e] <;> simp <;> omega
theorem nmV_inj {m m' : Nm} (e : nmV m = nmV m') : m = m' := by
  injection e with e
  have e2 := congrArg Array.toList e
  simp at e2
  obtain ⟨a, b, c, d⟩ := m
  obtain ⟨a', b', c', d'⟩ := m'
  simp at e2
  obtain ⟨rfl, rfl, rfl, rfl⟩ := e2
  rfl
theorem at_some (B : Bk w b cv) (h : CellAt b.V b.S b.T ⟨kd, y, z, 0⟩ k) (hk : k < b.cl) :
    Calls Try.prog 68 #[vB b, .int .i64 kd, .int .i64 y, .int .i64 z] w fun e w' => e = .returned (.int .u64 (cv k)) ∧ Below w.heap.size w w' := by
  have HB := Lib.hid (B.alloc (bB b))
  obtain ⟨q1, q2, q3, q4⟩ := cellAt_in B.hR h
  obtain ⟨kl, hkey⟩ := keyN ⟨kd, y, z, 0⟩ q1 q2 q3 q4
  have hlk := HB.out.wm.look_some true keyedN Try.underlying75 hkey ⟨_, k, by have := B.hc; omega, h, rfl, rfl⟩
  have hcs := HB.out.cs k hk
  have hlt := HB.out.lt.1
  obtain ⟨c0, c1, c2, c3, c4, c5, c6⟩ := (BB.new w b).cells
  have kI : (k : Int) < (b.cl : Int) := by omega
  have kN : ¬ (b.cl : Int) ≤ (k : Int) := by omega
  have k0 : (0 : Int) ≤ (k : Int) := by omega
  clear B h q1 q2 q3 q4 hkey HB
  go_enter Try.func68, Try.ntmps68
  go_wp2_with fail
  go_ret
  exact ⟨rfl, (Below.refl _ _).alloc (Nat.le_refl _) _⟩
end
end Go.Proofs.Ytaooglagddphnaa

namespace Go.Proofs.Ytaooglagddphnaa
open Go.RowKit

set_option maxRecDepth 100000

section
variable {w w' W : World} {v u : Value} {l a : List Nat} {b : BkV} {cv : Nat → Int} {x k i : Nat} {V S T y z : Int} {m m' : Nm}
def HsRel13 (w0 : World) (l : List Nat) (x : Nat) (i : Value) (W : World) : Prop := W = w0 ∧ ∃ k, k ≤ l.length ∧ i = .int .i64 ((k : Nat) : Int) ∧ x ∉ l.take k
theorem has_any13 (h : LI w v l) (hl : l.length ≤ 100000) :
    Calls Try.prog 112 #[v, .int .i64 (x : Int)] w fun e w' => e = .returned (.bool (decide (x ∈ l))) ∧ w = w' := by
  obtain ⟨a0, c0, rfl, _⟩ := h.shape
  have H := Lib.hid h
  obtain ⟨n, hn⟩ : ∃ n, l.length = n := ⟨_, rfl⟩
  have HN := Lib.hid hn
  rw [hn] at H hl
  rw [hn]
  have nI : (n : Int) ≤ 100000 := by omega
  clear h hn
  have HRel : Hid (HsRel13 w l x (.int .i64 0) w) := Lib.hid ⟨rfl, 0, Nat.zero_le _, rfl, by simp⟩
  go_enter Try.func112, Try.ntmps112
  go_wp2_with fail
  go_loopw [5] (fun i wr => HsRel13 w l x i wr) (fun i _ => n - (intOf i).toNat)
  case atStart => exact HRel.out
  case round =>
    clear HRel
    obtain ⟨rfl, k, hk, rfl, hx⟩ := hrel
    have HX := Lib.hid hx
    rw [HN.out] at hk
    clear hx
    by_cases hkn : k < n
    · obtain ⟨y, hy⟩ : ∃ y, l[k]? = some y := ⟨_, List.getElem?_eq_getElem (by have := HN.out; omega)⟩
      obtain ⟨b1, o1, rfl, c1⟩ := H.out.at hy
      have HY := Lib.hid hy
      have kI : (k : Int) < (n : Int) := by omega
      have k0 : (0 : Int) ≤ (k : Int) := by omega
      clear hy
      by_cases e : y = x
      · subst e
        have eb : ((y : Int) == (y : Int)) = true := beq_self_eq_true _
        have HE : Hid (y ∈ l) := Lib.hid (List.mem_of_getElem? HY.out)
        go_wp2_with fail
        go_ret
        exact ⟨by rw [decide_eq_true HE.out]; rfl, rfl⟩
      · have eb : ((y : Int) == (x : Int)) = false := beq_eq_false_iff_ne.2 (by omega)
        have HE := Lib.hid e
        clear e
        go_wp2_with fail
        go_roundw
        case rel =>
          refine ⟨rfl, k + 1, by have := HN.out; omega, by simp, ?_⟩
          rw [List.take_add_one, HY.out]
          intro hm
          rcases List.mem_append.1 hm with hm | hm
          · exact HX.out hm
          · exact HE.out (by simpa using hm : x = y).symm
        case measure => simp [intOf]; omega
    · have ek : k = n := by omega
      subst ek
      have kI : ¬ (k : Int) < (k : Int) := by omega
      clear hk hkn
      go_wp2_with fail
      go_ret
      exact ⟨by rw [decide_eq_false (by have := HX.out; rw [← HN.out, List.take_length] at this; exact this)]; rfl, rfl⟩


/-- A name's level. -/
def ofF (m : Nm) : Int := if m.k = 1 then m.a else m.b
theorem rof_any (m : Nm) (w : World) : Calls Try.prog 114 #[nmV m] w fun e w' => e = .returned (.int .i64 (ofF m)) ∧ Below w.heap.size w w' := by
  obtain ⟨c0, c1, c2, c3⟩ : (w.alloc (.cells #[.int .i64 m.k, .int .i64 m.a, .int .i64 m.b, .int .i64 m.c] 114)).cell? ⟨w.heap.size, 0, none⟩ = some (.int .i64 m.k) ∧ (w.alloc (.cells #[.int .i64 m.k, .int .i64 m.a, .int .i64 m.b, .int .i64 m.c] 114)).cell? ⟨w.heap.size, 1, none⟩ = some (.int .i64 m.a) ∧ (w.alloc (.cells #[.int .i64 m.k, .int .i64 m.a, .int .i64 m.b, .int .i64 m.c] 114)).cell? ⟨w.heap.size, 2, none⟩ = some (.int .i64 m.b) ∧ True := ⟨(Blk.new _ _ _).cell 0, (Blk.new _ _ _).cell 1, (Blk.new _ _ _).cell 2, trivial⟩
  have HB : Hid (Below w.heap.size w (w.alloc (.cells #[.int .i64 m.k, .int .i64 m.a, .int .i64 m.b, .int .i64 m.c] 114))) := Lib.hid ((Below.refl _ _).alloc (Nat.le_refl _) _)
  unfold ofF
  by_cases h : m.k = 1
  · have h1 : (m.k == 1) = true := by rw [h]; rfl
    rw [if_pos h]
    clear h
    go_enter Try.func114, Try.ntmps114
    go_wp2_with fail
    go_ret
    exact ⟨rfl, HB.out⟩
  · have h1 : (m.k == 1) = false := beq_eq_false_iff_ne.2 h
    rw [if_neg h]
    clear h
    go_enter Try.func114, Try.ntmps114
    go_wp2_with fail
    go_ret
    exact ⟨rfl, HB.out⟩
theorem mulAdd_inj {n a a' c c' : Int} (h1 : 0 ≤ c) (h2 : c < n) (h3 : 0 ≤ c') (h4 : c' < n) (e : a * n + c = a' * n + c') : a = a' ∧ c = c' := by
  have d : ∀ a c : Int, 0 ≤ c → c < n → (a * n + c) / n = a := fun a c g1 g2 => by
    rw [Int.add_comm, Int.add_mul_ediv_right _ _ (by omega), Int.ediv_eq_zero_of_lt g1 g2]; omega
  have e1 : a = a' := by rw [← d a c h1 h2, ← d a' c' h3 h4, e]
  subst e1
  exact ⟨rfl, by omega⟩
/-- A place has one name; a name one place. -/
theorem nodeAt_name (h : NodeAt V S m k) (h' : NodeAt V S m' k) (hV : 1 ≤ V) : m = m' := by
  have hl := (lv_bd V).1
  have hs : sn V = lv V * 2 := rfl
  have hv : vn V = lv V * V := rfl
  obtain ⟨k1, a1, b1, c1⟩ := m
  obtain ⟨k2, a2, b2, c2⟩ := m'
  unfold NodeAt at h h'
  simp only at h h'
  have up : ∀ a b : Int, 0 ≤ a → a < lv V → 0 ≤ b → b < V → a * V + b < lv V * V := fun a b g1 g2 g3 g4 => by
    have h5 : (a + 1) * V ≤ lv V * V := Int.mul_le_mul_of_nonneg_right (by omega) (by omega)
    rw [Int.add_mul] at h5; omega
  have lo : ∀ a : Int, 0 ≤ a → 0 ≤ a * sn V := fun a g => Int.mul_nonneg g (by omega)
  rcases h with ⟨rfl, rfl, g1, g2, g3, g4, g5⟩ | ⟨rfl, g1, g2, g3, g4, g5, g6⟩ <;> rcases h' with ⟨rfl, rfl, f1, f2, f3, f4, f5⟩ | ⟨rfl, f1, f2, f3, f4, f5, f6⟩
  · obtain ⟨rfl, rfl⟩ := mulAdd_inj g3 g4 f3 f4 (g5.symm.trans f5)
    rfl
  · have := up a1 b1 g1 g2 g3 g4
    have := lo a2 f1
    omega
  · have := up a2 b2 f1 f2 f3 f4
    have := lo a1 g1
    omega
  · obtain ⟨rfl, e⟩ := mulAdd_inj (n := sn V) (a := a1) (a' := a2) (c := 2 * b1 + c1) (c' := 2 * b2 + c2) (by omega) (by omega) (by omega) (by omega) (by omega)
    have e1 : b1 = b2 := by omega
    have e2 : c1 = c2 := by omega
    subst e1 e2
    rfl
theorem nodeAt_place (h : NodeAt V S m k) (h' : NodeAt V S m i) : k = i := by
  unfold NodeAt at h h'
  rcases h with ⟨e1, _, _, _, _, _, g5⟩ | ⟨e1, _, _, _, _, _, g6⟩ <;> rcases h' with ⟨e2, _, _, _, _, _, f5⟩ | ⟨e2, _, _, _, _, _, f6⟩ <;> omega
theorem Bk.name (B : Bk w b cv) (h : NodeAt b.V b.S m k) (hk : k < b.na) : NmAt w b.ga k m := by
  obtain ⟨m', h1, h2⟩ := B.al k hk
  rw [nodeAt_name h h2 B.hR.v1]
  exact h1
theorem NmAt.cells (h : NmAt w x k m) : w.cell? ⟨x, k * 4, none⟩ = some (.int .i64 m.k) ∧ w.cell? ⟨x, k * 4 + 1, none⟩ = some (.int .i64 m.a) ∧ w.cell? ⟨x, k * 4 + 2, none⟩ = some (.int .i64 m.b) ∧ w.cell? ⟨x, k * 4 + 3, none⟩ = some (.int .i64 m.c) := h
set_option maxHeartbeats 2000000 in
theorem node_any (B : Bk w b cv) (h : NodeAt b.V b.S m k) (hk : k < b.na) :
    Calls Try.prog 113 #[vB b, nmV m] w fun e w' => e = .returned (.int .i64 ((k + 1 : Nat) : Int)) ∧ Below w.heap.size w w' := by
  have HB := Lib.hid ((B.alloc (bB b)).alloc (.cells #[.int .i64 m.k, .int .i64 m.a, .int .i64 m.b, .int .i64 m.c] 114))
  have HW : Hid (Below w.heap.size w ((w.alloc (bB b)).alloc (.cells #[.int .i64 m.k, .int .i64 m.a, .int .i64 m.b, .int .i64 m.c] 114))) := Lib.hid (((Below.refl _ _).alloc (Nat.le_refl _) _).alloc (by simp) _)
  have hX : BB ((w.alloc (bB b)).alloc (.cells #[.int .i64 m.k, .int .i64 m.a, .int .i64 m.b, .int .i64 m.c] 114)) w.heap.size b := (BB.new w b).below ((Below.refl _ _).alloc (Nat.le_refl _) _)
  have HX := Lib.hid hX
  have HM : Hid (Blk ((w.alloc (bB b)).alloc (.cells #[.int .i64 m.k, .int .i64 m.a, .int .i64 m.b, .int .i64 m.c] 114)) (w.heap.size + 1) 114 #[.int .i64 m.k, .int .i64 m.a, .int .i64 m.b, .int .i64 m.c]) := Lib.hid (new_next _ _ _ _ _)
  have HN := Lib.hid h
  have HR := Lib.hid B.hR
  have na560 : b.na ≤ 560 := by rw [B.ha]; have := (sizes B.hR).nd2; omega
  obtain ⟨c0, c1, c2, c3, c4, c5, c6⟩ := hX.cells
  clear B h hX
  go_enter Try.func113, Try.ntmps113
  go_wp2_with fail
  clear c0 c1 c2 c3 c4 c5 c6
  generalize (w.alloc (bB b)).alloc (.cells #[.int .i64 m.k, .int .i64 m.a, .int .i64 m.b, .int .i64 m.c] 114) = w1 at HB HX HM HW ⊢
  generalize w.heap.size + 1 = mb at HM ⊢
  go_loopw [6] (fun i wr => ∃ j : Nat, j ≤ k ∧ i = .int .i64 (j : Int) ∧ Below w1.heap.size w1 wr) (fun i _ => k - (intOf i).toNat)
  case atStart => exact ⟨0, Nat.zero_le _, rfl, Below.refl _ _⟩
  case round =>
    obtain ⟨j, hj, rfl, hb⟩ := hrel
    have HB2 := Lib.hid (HB.out.below hb)
    obtain ⟨mj, hn1, hn2⟩ := HB2.out.al j (by omega)
    obtain ⟨z0, z1, z2, z3⟩ := hn1.cells
    have glt := HB2.out.lt.2
    obtain ⟨m0, m1, m2, m3⟩ := And.intro ((HM.out.below hb HM.out.lt).cell 0) (And.intro ((HM.out.below hb HM.out.lt).cell 1) (And.intro ((HM.out.below hb HM.out.lt).cell 2) ((HM.out.below hb HM.out.lt).cell 3)))
    have mlt := (HM.out.below hb HM.out.lt).lt
    have HBW := Lib.hid (HW.out.trans (hb.mono HW.out.size))
    have HBB := Lib.hid hb
    have jI : (j : Int) < (b.na : Int) := by omega
    have j0 : (0 : Int) ≤ (j : Int) := by omega
    clear hb hn1
    by_cases hjk : j = k
    · subst hjk
      obtain rfl : mj = m := nodeAt_name hn2 HN.out HR.out.v1
      have q0 : (mj.k == mj.k) = true := beq_self_eq_true _
      have q1 : (mj.a == mj.a) = true := beq_self_eq_true _
      have q2 : (mj.b == mj.b) = true := beq_self_eq_true _
      have q3 : (mj.c == mj.c) = true := beq_self_eq_true _
      clear hn2
      go_wp2_with fail
      go_region
      all_goals
        go_wp2_with fail
        go_ret
        exact ⟨by simp, HBW.out.drew⟩
    · have HNE : Hid (mj ≠ m) := Lib.hid fun e => hjk (nodeAt_place (by rw [← e]; exact hn2) HN.out)
      have HJK : Hid (j < k) := Lib.hid (by omega)
      obtain ⟨x0, x1, x2, x3⟩ := mj
      obtain ⟨y0, y1, y2, y3⟩ := m
      dsimp only at *
      have hbits : ¬ (((x0 == y0) = true) ∧ ((x1 == y1) = true) ∧ ((x2 == y2) = true) ∧ ((x3 == y3) = true)) := by
        rintro ⟨a1, a2, a3, a4⟩
        exact HNE.out (by rw [eq_of_beq a1, eq_of_beq a2, eq_of_beq a3, eq_of_beq a4])
      clear hn2 hjk hj
      cases q0 : (x0 == y0)
      · go_wp2_with fail
        go_region
        all_goals
          go_wp2_with fail
          go_roundw
          case rel => exact ⟨j + 1, HJK.out, by simp, HBB.out.drew⟩
          case measure => have := HJK.out; simp [intOf]; omega
      · cases q1 : (x1 == y1)
        · go_wp2_with fail
          go_region
          all_goals
            go_wp2_with fail
            go_roundw
            case rel => exact ⟨j + 1, HJK.out, by simp, HBB.out.drew⟩
            case measure => have := HJK.out; simp [intOf]; omega
        · cases q2 : (x2 == y2)
          · go_wp2_with fail
            go_region
            all_goals
              go_wp2_with fail
              go_roundw
              case rel => exact ⟨j + 1, HJK.out, by simp, HBB.out.drew⟩
              case measure => have := HJK.out; simp [intOf]; omega
          · have q3 : (x3 == y3) = false := by
              cases c : (x3 == y3)
              · rfl
              · exact absurd ⟨q0, q1, q2, c⟩ hbits
            go_wp2_with fail
            go_region
            all_goals
              go_wp2_with fail
              go_roundw
              case rel => exact ⟨j + 1, HJK.out, by simp, HBB.out.drew⟩
              case measure => have := HJK.out; simp [intOf]; omega
end
end Go.Proofs.Ytaooglagddphnaa

namespace Go.Proofs.Ytaooglagddphnaa
open Go.RowKit

set_option maxRecDepth 100000

def E1.cells (x : E1) : List Value := [.int .i64 (x.s : Int), .int .i64 (x.u : Int), .int .i64 (x.v : Int), .int .i64 (x.l : Int), .bool x.t]
def flat5 : List E1 → List Value
  | [] => []
  | x :: xs => x.cells ++ flat5 xs
theorem flat5_append (xs ys : List E1) : flat5 (xs ++ ys) = flat5 xs ++ flat5 ys := by
  induction xs with
  | nil => rfl
  | cons x xs ih => simp [flat5, ih]
theorem flat5_one (x : E1) : flat5 [x] = x.cells := by simp [flat5]
theorem flat5_length (xs : List E1) : (flat5 xs).length = xs.length * 5 := by
  induction xs with
  | nil => rfl
  | cons x xs ih => simp [flat5, E1.cells, ih]; omega
theorem flat5_get (xs : List E1) {k : Nat} {x : E1} (h : xs[k]? = some x) :
    (flat5 xs)[k * 5]? = some (.int .i64 (x.s : Int)) ∧ (flat5 xs)[k * 5 + 1]? = some (.int .i64 (x.u : Int)) ∧ (flat5 xs)[k * 5 + 2]? = some (.int .i64 (x.v : Int)) ∧ (flat5 xs)[k * 5 + 3]? = some (.int .i64 (x.l : Int)) ∧ (flat5 xs)[k * 5 + 4]? = some (.bool x.t) := by
  induction xs generalizing k with
  | nil => simp at h
  | cons y ys ih =>
    cases k with
    | zero => simp at h; subst h; simp [flat5, E1.cells]
    | succ k =>
      have h' := ih (k := k) (by simpa using h)
      have e : (k + 1) * 5 = k * 5 + 5 := by omega
      rw [e, show k * 5 + 5 + 1 = (k * 5 + 1) + 5 by omega, show k * 5 + 5 + 2 = (k * 5 + 2) + 5 by omega, show k * 5 + 5 + 3 = (k * 5 + 3) + 5 by omega, show k * 5 + 5 + 4 = (k * 5 + 4) + 5 by omega]
      simp only [flat5, E1.cells, List.cons_append, List.nil_append, List.getElem?_cons_succ]
      exact h'
theorem flat5_cell (xs : List E1) : ∀ u ∈ flat5 xs, u.oneCell' = true := by
  induction xs with
  | nil => intro u hu; cases hu
  | cons x xs ih =>
    intro u hu
    simp only [flat5, E1.cells, List.cons_append, List.nil_append, List.mem_cons] at hu
    rcases hu with rfl | rfl | rfl | rfl | rfl | hu
    · rfl
    · rfl
    · rfl
    · rfl
    · rfl
    · exact ih u hu
theorem info_edge13 : (Try.prog.info? 125).map (fun i => (i.zero, i.size, i.bytes)) = some (some (.agg #[.int .i64 0, .int .i64 0, .int .i64 0, .int .i64 0, .bool false]), 5, 40) := by kernel_rfl
/-- Edges in a slice of one's own. -/
def EW (w : World) (base : Nat) (v : Value) (l : List E1) : Prop := w.ownsRow base 125 5 v l.length (flat5 l)
section
variable {w w' : World} {base : Nat} {v : Value} {l l2 : List E1}
theorem EW.nil (w : World) (base : Nat) : EW w base (.slice none 0 0) [] := World.ownsRow_nil _ _ _ _
theorem EW.lt (h : EW w base v l) : ∀ k, v.ownBlock = some k → base ≤ k ∧ k < w.heap.size := World.ownsRow.lt h
theorem EW.alloc (h : EW w base v l) (o : Obj) : EW (w.alloc o) base v l := World.ownsRow.alloc h o
theorem EW.kept_of (h : EW w base v l) (hb : ∀ i, v.ownBlock = some i → w'.heap[i]? = w.heap[i]?) : EW w' base v l := by
  refine ⟨h.1, ?_⟩
  rcases h.2 with hn | ⟨g, cap, cur, rfl, hg, hgg, rest⟩
  · exact .inl hn
  · exact .inr ⟨g, cap, cur, rfl, hg, (hb g rfl).trans hgg, rest⟩
theorem EW.below (h : EW w base v l) (hb : Below w.heap.size w w') : EW w' base v l := h.kept_of fun i hi => hb.block i (h.lt i hi).2
theorem EW.less {base' : Nat} (h : EW w base v l) (hb : base' ≤ base) : EW w base' v l := by
  refine ⟨h.1, ?_⟩
  rcases h.2 with hn | ⟨g, cap, cur, rfl, hg, hgg, rest⟩
  · exact .inl hn
  · exact .inr ⟨g, cap, cur, rfl, Nat.le_trans hb hg, hgg, rest⟩
theorem EW.shape (h : EW w base v l) : (v = .slice none 0 0 ∧ l = []) ∨ ∃ g cap cs, v = .slice (some ⟨g, 0, none⟩) l.length cap ∧ base ≤ g ∧ Blk w g 125 cs ∧ l.length ≤ cap ∧ cap ≤ maxLen ∧
    (cs.size = cap * 5 ∧ cs.toList.take (l.length * 5) = flat5 l) ∧
    ∀ k x, l[k]? = some x → cs[k * 5]? = some (.int .i64 (x.s : Int)) ∧ cs[k * 5 + 1]? = some (.int .i64 (x.u : Int)) ∧ cs[k * 5 + 2]? = some (.int .i64 (x.v : Int)) ∧ cs[k * 5 + 3]? = some (.int .i64 (x.l : Int)) ∧ cs[k * 5 + 4]? = some (.bool x.t) := by
  rcases h.2 with ⟨rfl, h0⟩ | ⟨g, cap, cur, rfl, hg, hgg, h1, h2, h3, h4⟩
  · exact .inl ⟨rfl, List.eq_nil_of_length_eq_zero h0⟩
  · refine .inr ⟨g, cap, cur, rfl, hg, hgg, h1, h2, ⟨h3, h4⟩, fun k x hx => ?_⟩
    have hf := flat5_get l hx
    have hk := (List.getElem?_eq_some_iff.1 hx).1
    have he : ∀ j, j < l.length * 5 → cur[j]? = (flat5 l)[j]? := fun j hj => by
      rw [← h4, List.getElem?_take_of_lt hj, Array.getElem?_toList]
    rw [he _ (by omega), he _ (by omega), he _ (by omega), he _ (by omega), he _ (by omega)]
    exact hf
theorem EW.slice (h : EW w base v l) : ∃ a cap, v = .slice a l.length cap := by
  rcases h.shape with ⟨rfl, rfl⟩ | ⟨g, cap, cs, rfl, _⟩
  · exact ⟨none, 0, rfl⟩
  · exact ⟨_, cap, rfl⟩
/-- One of the list. -/
theorem EW.at {k : Nat} {x : E1} (h : EW w base v l) (hk : l[k]? = some x) : ∃ g cap, v = .slice (some ⟨g, 0, none⟩) l.length cap ∧ base ≤ g ∧ g < w.heap.size ∧ (∀ i, w.frozen? ⟨g, i, none⟩ = false) ∧ w.cell? ⟨g, k * 5, none⟩ = some (.int .i64 (x.s : Int)) ∧ w.cell? ⟨g, k * 5 + 1, none⟩ = some (.int .i64 (x.u : Int)) ∧ w.cell? ⟨g, k * 5 + 2, none⟩ = some (.int .i64 (x.v : Int)) ∧ w.cell? ⟨g, k * 5 + 3, none⟩ = some (.int .i64 (x.l : Int)) ∧ w.cell? ⟨g, k * 5 + 4, none⟩ = some (.bool x.t) := by
  rcases h.shape with ⟨rfl, rfl⟩ | ⟨g, cap, cs, rfl, hb, hz, _, _, _, hc⟩
  · simp at hk
  · obtain ⟨a, b, c, d, e⟩ := hc k x hk
    exact ⟨g, cap, rfl, hb, hz.lt, hz.frozen, (hz.cell _).trans a, (hz.cell _).trans b, (hz.cell _).trans c, (hz.cell _).trans d, (hz.cell _).trans e⟩
/-- append of edges onto edges of one's own. -/
theorem run_append_ew (h : EW w base v l) (ad : Addr) (n c : Nat) (hn : n = l2.length) (hc : ∀ (j : Nat) (u : Value), (flat5 l2)[j]? = some u → w.cell? (ad.add j) = some u) (hl : l.length + l2.length ≤ 100000) (hb : base ≤ w.heap.size) (ty : TypeId) :
    ∃ v' w', (Builtin.append_ #[79, 79] ty #[v, .slice (some ad) n c]).run Try.prog w = .ok v' w' ∧ EW w' base v' (l ++ l2) ∧ w.grownBy w' v.ownBlock := by
  obtain ⟨i0, hi0, hz0, hz1, hz2⟩ := info_parts info_edge13
  subst hn
  obtain ⟨v', w', hrun, h1, h2, _⟩ := run_append_own_at (P := Try.prog) w base 79 ty 125 i0 _ 5 40 Try.underlying79 hi0 hz0 hz1 hz2 rfl (by omega) v l.length (flat5 l) h ad l2.length c (flat5 l2) (flat5_length l2) hc (flat5_cell l2) (by simp only [maxLen]; omega) (by omega) hb
  refine ⟨v', w', hrun, ?_, h2⟩
  unfold EW; rw [List.length_append, flat5_append]; exact h1
theorem wpList_append_ew {ops : Array Oper} {rest : List Oper} {o : Oper} {a : Act} {Q : Exit → Act → World → Prop} (hgd : o.guard = none) (s x : Operand)
    (ho : o.op = .call { callee := .builtin .append, args := #[s, x], argTypes := #[79, 79] })
    (hs : a.eval s = v) (h : EW w base v l) (ad : Addr) (n c : Nat) (hn : n = l2.length) (hv : a.eval x = .slice (some ad) n c) (hc : ∀ (j : Nat) (u : Value), (flat5 l2)[j]? = some u → w.cell? (ad.add j) = some u) (hl : l.length + l2.length ≤ 100000) (hb : base ≤ w.heap.size)
    (hK : ∀ v' w', EW w' base v' (l ++ l2) → w.grownBy w' v.ownBlock → wpList Try.prog ops Q rest (a.put o.dst v') w') : wpList Try.prog ops Q (o :: rest) a w := by
  refine wpList_plain hgd fun _ hK' => ?_
  obtain ⟨v', w', hrun, h2, h3⟩ := run_append_ew h ad n c hn hc hl hb o.type
  unfold Oper.wp execOp
  simp only [ho, resolve, invoke, builtin, Sem.run_bind, Sem.run_pure, Result.andThen_ok, List.map_toArray, List.map_cons, List.map_nil, hs, hv, hrun]
  exact hK' _ _ (hK v' w' h2 h3)
end
theorem news13 (w : World) (x : E1) : ∀ (j : Nat) (u : Value), (flat5 [x])[j]? = some u → (w.alloc (.cells #[.int .i64 (x.s : Int), .int .i64 (x.u : Int), .int .i64 (x.v : Int), .int .i64 (x.l : Int), .bool x.t] 125)).cell? ((⟨w.heap.size, 0, none⟩ : Addr).add j) = some u := by
  intro j u hj
  rw [Addr.add_lit, Nat.zero_add, (Blk.new w _ _).cell]
  rw [flat5_one] at hj
  rw [← hj, ← Array.getElem?_toList]
  rfl
theorem ew_parts {w : World} {base : Nat} {v : Value} {l : List E1} (h : EW w base v l) : ∃ a n c, v = .slice a n c ∧ EW w base (.slice a n c) l := by
  obtain ⟨a, c, e⟩ := h.slice
  subst e
  exact ⟨a, _, c, rfl, h⟩
end Go.Proofs.Ytaooglagddphnaa
