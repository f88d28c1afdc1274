/- The reference's Nodes. -/
import Derived.Test.YtaooglagddphnaaRefR
namespace Go.Proofs.Ytaooglagddphnaa
open Go.RowKit

/-- A row of n names is made, in a world where the reference's lay lies boxed at the first new block. -/
def Made (P : Nm → Nat → Prop) (w : World) (V S T n : Int) (v : Value) (W : World) : Prop :=
  ∃ l : List Nm, (l.length : Int) = n ∧ Out P l ∧ Row W (w.heap.size + 1) v l ∧ Blk W w.heap.size 68 #[.int .i64 V, .int .i64 S, .int .i64 T] ∧ Below w.heap.size w W
section
variable {P : Nm → Nat → Prop} {w W W' : World} {V S T n : Int} {v : Value}
theorem Made.blk (h : Made P w V S T n v W) : Blk W w.heap.size 68 #[.int .i64 V, .int .i64 S, .int .i64 T] := by
  obtain ⟨l, _, _, _, b, _⟩ := h; exact b
theorem Made.c0 (h : Made P w V S T n v W) : W.cell? ⟨w.heap.size, 0, none⟩ = some (.int .i64 V) := h.blk.cell 0
theorem Made.c1 (h : Made P w V S T n v W) : W.cell? ⟨w.heap.size, 1, none⟩ = some (.int .i64 S) := h.blk.cell 1
theorem Made.c2 (h : Made P w V S T n v W) : W.cell? ⟨w.heap.size, 2, none⟩ = some (.int .i64 T) := h.blk.cell 2
theorem Made.lt (h : Made P w V S T n v W) : w.heap.size < W.heap.size := h.blk.lt
theorem Made.start : Made P w V S T 0 (.slice none 0 0) (w.alloc (.cells #[.int .i64 V, .int .i64 S, .int .i64 T] 68)) :=
  ⟨[], rfl, out_nil P, rowN_nil _ _, Blk.new _ _ _, (Below.refl _ _).alloc (Nat.le_refl _) _⟩
theorem Made.later (h : Made P w V S T n v W) (hb : Below W.heap.size W W') : Made P w V S T n v W' := by
  obtain ⟨l, e, o, r, b, k⟩ := h
  exact ⟨l, e, o, r.below hb, b.below hb b.lt, keepL k hb (Nat.le_of_lt b.lt)⟩
theorem Made.eq (h : Made P w V S T n v W) {m : Int} (e : n = m) : Made P w V S T m v W := e ▸ h
end

/-- A node's name, and its place. -/
def NodeAt (V S : Int) (m : Nm) (k : Nat) : Prop :=
  (m.k = 1 ∧ m.c = 0 ∧ 0 ≤ m.a ∧ m.a < lv V ∧ 0 ≤ m.b ∧ m.b < V ∧ (k : Int) = m.a * V + m.b) ∨
  (m.k = 2 ∧ 0 ≤ m.a ∧ m.a < S ∧ 0 ≤ m.b ∧ m.b < lv V ∧ (m.c = 0 ∨ m.c = 1) ∧ (k : Int) = vn V + m.a * sn V + 2 * m.b + m.c)

theorem mul_up {k V L : Int} (h0 : 0 ≤ k) (h1 : k ≤ L) (hV : 0 ≤ V) : 0 ≤ k * V ∧ k * V ≤ L * V := ⟨Int.mul_nonneg h0 hV, Int.mul_le_mul_of_nonneg_right h1 hV⟩

set_option maxRecDepth 100000 in
set_option maxHeartbeats 4000000 in
theorem rnodes_yes (V S T : Int) (h : Rt V S T) (w : World) :
    Calls Try.prog 64 #[vL V S T] w (Named (NodeAt V S) (nd V S).toNat w) := by
  have H := Lib.hid h
  have v1 := h.v1
  have v2 := h.v2
  have s1 := h.s1
  have s2 := h.s2
  have z := sizes h
  have l1 := z.l1
  have l2 := z.l2
  have HZ := Lib.hid z
  clear h z
  go_enter Try.func64, Try.ntmps64
  go_wp2_with fail
  go_loopw [3, 4] (fun v i wr => ∃ k : Int, 0 ≤ k ∧ k ≤ lv V ∧ i = .int .i64 k ∧ Made (NodeAt V S) w V S T (k * V) v wr) (fun _ i _ => (lv V - intOf i).toNat)
  case atStart => exact ⟨0, by omega, by omega, rfl, Made.start.eq (by simp)⟩
  case round =>
    obtain ⟨k, k0, k1, rfl, hM⟩ := hrel
    obtain ⟨wo, rfl⟩ : ∃ wo : World, wo = wr := ⟨_, rfl⟩
    have c0 := hM.c0
    have c1 := hM.c1
    have c2 := hM.c2
    have hz := hM.lt
    have HM := Lib.hid hM
    clear hM
    by_cases hk : k < lv V
    · go_wp2_with fail
      refine (rlevels_yes V S T H.out _).mono ?_; rintro e w1 ⟨rfl, b1⟩
      have hM1 := Lib.hid (HM.out.later b1)
      clear c0 c1 c2 hz HM b1
      go_wp2_with fail
      go_loopw [3, 5] (fun v j wr => ∃ j' : Int, 0 ≤ j' ∧ j' ≤ V ∧ j = .int .i64 j' ∧ Made (NodeAt V S) w V S T (k * V + j') v wr) (fun _ j _ => (V - intOf j).toNat)
      case atStart => exact ⟨0, by omega, by omega, rfl, hM1.out.eq (by omega)⟩
      case round =>
        clear hM1
        obtain ⟨j, j0, j1, rfl, hM⟩ := hrel
        have c0 := hM.c0
        have c1 := hM.c1
        have c2 := hM.c2
        have HM := Lib.hid hM
        clear hM
        by_cases hj : j < V
        · obtain ⟨l, hl, ho, hrow, hblk, hbel⟩ := HM.out
          have few : l.length ≤ 1000 := by
            have := mul_up k0 k1 (show 0 ≤ V by omega)
            have := HZ.out.vn2
            unfold vn at this
            omega
          have HL := Lib.hid hl
          clear hl
          go_wp2_with (at_builtin; refine wpList_append_names rfl (.tmp 20) (.tmp 24) rfl (w.heap.size + 1) _ l [⟨1, k, j, 0⟩] rfl (hrow.alloc _) wr.heap.size 1 rfl rfl (Blk.new _ _ _) (by omega) (by have := hblk.lt; simp; omega) ?_; intro v' w2 hrow2 hb2)
          go_roundw
          case rel =>
            refine ⟨j + 1, by omega, by omega, rfl, l ++ [⟨1, k, j, 0⟩], by have := HL.out; simp; omega, ho.snoc (.inl ⟨rfl, rfl, k0, hk, j0, hj, HL.out⟩), hrow2, (hblk.alloc _).below hb2 (by omega), ?_⟩
            exact (hbel.alloc (Nat.le_of_lt hblk.lt) _).trans (hb2.mono (by omega))
          case measure => simp [intOf]; omega
        · have e : j = V := by omega
          subst e
          go_wp2_with fail
          go_roundw
          case rel => exact ⟨k + 1, by omega, by omega, rfl, HM.out.eq (by rw [Int.add_mul]; omega)⟩
          case measure => simp [intOf]; omega
    · have e : k = lv V := by omega
      subst e
      go_wp2_with fail
      refine (rlevels_yes V S T H.out _).mono ?_; rintro e w1 ⟨rfl, b1⟩
      have hM1 := Lib.hid (HM.out.later b1)
      clear c0 c1 c2 hz HM b1
      go_wp2_with fail
      go_loopw [3, 6] (fun v i wr => ∃ s : Int, 0 ≤ s ∧ s ≤ S ∧ i = .int .i64 s ∧ Made (NodeAt V S) w V S T (vn V + s * sn V) v wr) (fun _ i _ => (S - intOf i).toNat)
      case atStart => exact ⟨0, by omega, by omega, rfl, hM1.out.eq (by unfold vn; simp)⟩
      case round =>
        clear hM1
        obtain ⟨s, a0, a1, rfl, hM⟩ := hrel
        have c0 := hM.c0
        have c1 := hM.c1
        have c2 := hM.c2
        have HM := Lib.hid hM
        clear hM
        by_cases hs : s < S
        · go_wp2_with fail
          go_loopw [3, 7] (fun v j wr => ∃ j' : Int, 0 ≤ j' ∧ j' ≤ lv V ∧ j = .int .i64 j' ∧ Made (NodeAt V S) w V S T (vn V + s * sn V + 2 * j') v wr) (fun _ j _ => (lv V - intOf j).toNat)
          case atStart => exact ⟨0, by omega, by omega, rfl, HM.out.eq (by omega)⟩
          case round =>
            clear HM c0 c1 c2
            obtain ⟨j, j0, j1, rfl, hM⟩ := hrel
            have c0 := hM.c0
            have c1 := hM.c1
            have c2 := hM.c2
            have HM := Lib.hid hM
            clear hM
            by_cases hj : j < lv V
            · go_wp2_with fail
              refine (rlevels_yes V S T H.out _).mono ?_; rintro e w1 ⟨rfl, b1⟩
              have hM1 := HM.out.later b1
              clear c0 c1 c2 HM b1
              obtain ⟨l, hl, ho, hrow, hblk, hbel⟩ := hM1
              have few : l.length ≤ 1000 := by
                have := mul_up a0 a1 (show 0 ≤ sn V by have := HZ.out.sn1; omega)
                have := HZ.out.vn2
                have := HZ.out.ss2
                omega
              have HL := Lib.hid hl
              clear hl
              go_wp2_with (at_builtin; refine wpList_append_names rfl (.tmp 38) (.tmp 45) rfl (w.heap.size + 1) _ l [⟨2, s, j, 0⟩, ⟨2, s, j, 1⟩] rfl (hrow.alloc _) w1.heap.size 2 rfl rfl (Blk.new _ _ _) (by omega) (by have := hblk.lt; simp; omega) ?_; intro v' w2 hrow2 hb2)
              go_roundw
              case rel =>
                refine ⟨j + 1, by omega, by omega, rfl, l ++ [⟨2, s, j, 0⟩, ⟨2, s, j, 1⟩], by have := HL.out; simp; omega, ho.two (.inr ⟨rfl, a0, hs, j0, hj, .inl rfl, by have := HL.out; simp only; omega⟩) (.inr ⟨rfl, a0, hs, j0, hj, .inr rfl, by have := HL.out; simp only; omega⟩), hrow2, (hblk.alloc _).below hb2 (by omega), ?_⟩
                exact (hbel.alloc (Nat.le_of_lt hblk.lt) _).trans (hb2.mono (by omega))
              case measure => simp [intOf]; omega
            · have e : j = lv V := by omega
              subst e
              go_wp2_with fail
              refine (rlevels_yes V S T H.out _).mono ?_; rintro e w1 ⟨rfl, b1⟩
              have hM1 := Lib.hid (HM.out.later b1)
              clear c0 c1 c2 HM b1
              go_wp2_with fail
              go_roundw
              case rel => exact ⟨s + 1, by omega, by omega, rfl, hM1.out.eq (by rw [Int.add_mul]; unfold sn; omega)⟩
              case measure => simp [intOf]; omega
        · have e : s = S := by omega
          subst e
          go_wp2_with fail
          go_ret
          obtain ⟨l, hl, ho, hrow, hblk, hbel⟩ := HM.out
          have hn : (nd V s).toNat = l.length := by unfold nd; omega
          rw [hn]
          exact named_of hrow (by omega) (by have := HZ.out.nd1; omega) ho hbel
end Go.Proofs.Ytaooglagddphnaa
