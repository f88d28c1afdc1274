/- The reference's Cells. Printed by wip/tools/layt.py. -/
import Derived.Test.YtaooglagddphnaaRefS
namespace Go.Proofs.Ytaooglagddphnaa
open Go.RowKit

/-- A cell's name, and its number. -/
def CellAt (V S T : Int) (m : Nm) (k : Nat) : Prop :=
  (m.k = 1 ∧ (m.b = 0 ∧ m.c = 0) ∧ 1 ≤ m.a ∧ m.a ≤ T ∧ (k : Int) = m.a - 1) ∨ (m.k = 2 ∧ (m.a = 0 ∧ m.b = 0 ∧ m.c = 0) ∧ (k : Int) = T) ∨
  (m.k = 3 ∧ (m.b = 0 ∧ m.c = 0) ∧ 0 ≤ m.a ∧ m.a < S ∧ (k : Int) = T + 1 + m.a * 7) ∨ (m.k = 4 ∧ (m.b = 0 ∧ m.c = 0) ∧ 0 ≤ m.a ∧ m.a < S ∧ (k : Int) = T + 1 + m.a * 7 + 1) ∨ (m.k = 5 ∧ (m.b = 0 ∧ m.c = 0) ∧ 0 ≤ m.a ∧ m.a < S ∧ (k : Int) = T + 1 + m.a * 7 + 2) ∨
  (m.k = 6 ∧ m.c = 0 ∧ 0 ≤ m.a ∧ m.a < S ∧ (m.b = 0 ∨ m.b = 1) ∧ (k : Int) = T + 1 + m.a * 7 + 3 + m.b) ∨ (m.k = 7 ∧ m.c = 0 ∧ 0 ≤ m.a ∧ m.a < S ∧ (m.b = 0 ∨ m.b = 1) ∧ (k : Int) = T + 1 + m.a * 7 + 5 + m.b) ∨
  (m.k = 8 ∧ m.c = 0 ∧ 0 ≤ m.a ∧ m.a < V ∧ 0 ≤ m.b ∧ m.b < lv V ∧ (k : Int) = o3 S T + m.a * lv V + m.b) ∨
  (m.k = 9 ∧ m.c = 0 ∧ 0 ≤ m.a ∧ m.a < m.b ∧ m.b < V ∧ (k : Int) = o4 V S T + ahF V m.a + (m.b - m.a - 1)) ∨
  (m.k = 10 ∧ m.c = 0 ∧ 1 ≤ m.a ∧ m.a ≤ nd V S ∧ 0 ≤ m.b ∧ m.b < 7 ∧ (k : Int) = o5 V S T + (m.a - 1) * 7 + m.b)
section
variable {V S T a b c : Int} {k : Nat}
theorem cellAt_1 (h1 : 1 ≤ a) (h2 : a ≤ T) (h : (k : Int) = a - 1) : CellAt V S T ⟨1, a, 0, 0⟩ k := .inl ⟨rfl, ⟨rfl, rfl⟩, h1, h2, h⟩
theorem cellAt_2 (h : (k : Int) = T) : CellAt V S T ⟨2, 0, 0, 0⟩ k := .inr (.inl ⟨rfl, ⟨rfl, rfl, rfl⟩, h⟩)
theorem cellAt_3 (h1 : 0 ≤ a) (h2 : a < S) (h : (k : Int) = T + 1 + a * 7) : CellAt V S T ⟨3, a, 0, 0⟩ k := .inr (.inr (.inl ⟨rfl, ⟨rfl, rfl⟩, h1, h2, h⟩))
theorem cellAt_4 (h1 : 0 ≤ a) (h2 : a < S) (h : (k : Int) = T + 1 + a * 7 + 1) : CellAt V S T ⟨4, a, 0, 0⟩ k := .inr (.inr (.inr (.inl ⟨rfl, ⟨rfl, rfl⟩, h1, h2, h⟩)))
theorem cellAt_5 (h1 : 0 ≤ a) (h2 : a < S) (h : (k : Int) = T + 1 + a * 7 + 2) : CellAt V S T ⟨5, a, 0, 0⟩ k := .inr (.inr (.inr (.inr (.inl ⟨rfl, ⟨rfl, rfl⟩, h1, h2, h⟩))))
theorem cellAt_6 (h1 : 0 ≤ a) (h2 : a < S) (h3 : b = 0 ∨ b = 1) (h : (k : Int) = T + 1 + a * 7 + 3 + b) : CellAt V S T ⟨6, a, b, 0⟩ k := .inr (.inr (.inr (.inr (.inr (.inl ⟨rfl, rfl, h1, h2, h3, h⟩)))))
theorem cellAt_7 (h1 : 0 ≤ a) (h2 : a < S) (h3 : b = 0 ∨ b = 1) (h : (k : Int) = T + 1 + a * 7 + 5 + b) : CellAt V S T ⟨7, a, b, 0⟩ k := .inr (.inr (.inr (.inr (.inr (.inr (.inl ⟨rfl, rfl, h1, h2, h3, h⟩))))))
theorem cellAt_8 (h1 : 0 ≤ a) (h2 : a < V) (h3 : 0 ≤ b) (h4 : b < lv V) (h : (k : Int) = o3 S T + a * lv V + b) : CellAt V S T ⟨8, a, b, 0⟩ k := .inr (.inr (.inr (.inr (.inr (.inr (.inr (.inl ⟨rfl, rfl, h1, h2, h3, h4, h⟩)))))))
theorem cellAt_9 (h1 : 0 ≤ a) (h2 : a < b) (h3 : b < V) (h : (k : Int) = o4 V S T + ahF V a + (b - a - 1)) : CellAt V S T ⟨9, a, b, 0⟩ k := .inr (.inr (.inr (.inr (.inr (.inr (.inr (.inr (.inl ⟨rfl, rfl, h1, h2, h3, h⟩))))))))
theorem cellAt_10 (h1 : 1 ≤ a) (h2 : a ≤ nd V S) (h3 : 0 ≤ b) (h4 : b < 7) (h : (k : Int) = o5 V S T + (a - 1) * 7 + b) : CellAt V S T ⟨10, a, b, 0⟩ k := .inr (.inr (.inr (.inr (.inr (.inr (.inr (.inr (.inr ⟨rfl, rfl, h1, h2, h3, h4, h⟩))))))))
end
theorem Out.more {P : Nm → Nat → Prop} {l : List Nm} (h : Out P l) {m : Nm} {r : List Nm} (hm : P m l.length) (hr : Out P (l ++ [m]) → Out P (l ++ [m] ++ r)) : Out P (l ++ m :: r) := by
  have := hr (h.snoc hm)
  simpa using this
theorem out_7 {P : Nm → Nat → Prop} {l : List Nm} (h : Out P l) {m0 m1 m2 m3 m4 m5 m6 : Nm} (h0 : P m0 l.length) (h1 : P m1 (l.length + 1)) (h2 : P m2 (l.length + 2)) (h3 : P m3 (l.length + 3)) (h4 : P m4 (l.length + 4)) (h5 : P m5 (l.length + 5)) (h6 : P m6 (l.length + 6)) : Out P (l ++ [m0, m1, m2, m3, m4, m5, m6]) := by
  have := ((((((h.snoc h0).snoc (m := m1) (by simpa using h1)).snoc (m := m2) (by simpa using h2)).snoc (m := m3) (by simpa using h3)).snoc (m := m4) (by simpa using h4)).snoc (m := m5) (by simpa using h5)).snoc (m := m6) (by simpa using h6)
  simpa using this

set_option maxRecDepth 100000 in
set_option maxHeartbeats 8000000 in
theorem rcells_yes (V S T : Int) (h : Rt V S T) (w : World) :
    Calls Try.prog 63 #[vL V S T] w (Named (CellAt V S T) (cn V S T).toNat w) := by
  have H := Lib.hid h
  have v1 := h.v1
  have v2 := h.v2
  have s1 := h.s1
  have s2 := h.s2
  have t1 := h.t1
  have t2 := h.t2
  have zz := sizes h
  have l1 := zz.l1
  have l2 := zz.l2
  have n1 := zz.nd1
  have n2 := zz.nd2
  have hnn : (((nd V S).toNat : Nat) : Int) = nd V S := by omega
  have HZ := Lib.hid zz
  clear h zz
  go_enter Try.func63, Try.ntmps63
  go_wp2_with fail
  go_loopw [3, 4] (fun v i wr => ∃ j : Int, 1 ≤ j ∧ j ≤ T + 1 ∧ i = .int .i64 j ∧ Made (CellAt V S T) w V S T (j - 1) v wr) (fun _ i _ => (T + 1 - intOf i).toNat)
  case atStart => exact ⟨1, by omega, by omega, rfl, Made.start.eq (by omega)⟩
  case round =>
    obtain ⟨i, j0, j1, rfl, hM⟩ := hrel
    have HM := Lib.hid hM
    clear hM
    have c0 := HM.out.c0
    have c1 := HM.out.c1
    have c2 := HM.out.c2
    have hz := HM.out.lt
    by_cases hi : i ≤ T
    · obtain ⟨l, hl, ho, hrow, hblk, hbel⟩ := HM.out
      have few : l.length ≤ 10000 := by
        have := HZ.out.vn2
        have := HZ.out.pr2
        omega
      have HL := Lib.hid hl
      clear hl hz
      go_wp2_with (at_builtin; refine wpList_append_names rfl (.tmp 18) (.tmp 21) rfl (w.heap.size + 1) _ l [⟨1, i, 0, 0⟩] rfl (hrow.alloc _) wr.heap.size 1 rfl rfl (Blk.new _ _ _) (by omega) (by have := hblk.lt; simp; omega) ?_; intro v' w2 hrow2 hb2)
      go_roundw
      case rel =>
        refine ⟨i + 1, by omega, by omega, rfl, l ++ [⟨1, i, 0, 0⟩], by have := HL.out; simp; omega, ho.snoc (cellAt_1 j0 hi (by have := HL.out; omega)), hrow2, (hblk.alloc _).below hb2 (by omega), ?_⟩
        exact (hbel.alloc (Nat.le_of_lt hblk.lt) _).trans (hb2.mono (by omega))
      case measure => simp [intOf]; omega
    · have e : i = T + 1 := by omega
      subst e
      obtain ⟨l, hl, ho, hrow, hblk, hbel⟩ := HM.out
      have few : l.length ≤ 10000 := by
        have := HZ.out.vn2
        have := HZ.out.pr2
        omega
      have HL := Lib.hid hl
      clear hl hz
      go_wp2_with (at_builtin; refine wpList_append_names rfl (.tmp 23) (.tmp 25) rfl (w.heap.size + 1) _ l [⟨2, 0, 0, 0⟩] rfl (hrow.alloc _) wr.heap.size 1 rfl rfl (Blk.new _ _ _) (by omega) (by have := hblk.lt; simp; omega) ?_; intro v' w2 hrow2 hb2)
      have HM2 : Hid (Made (CellAt V S T) w V S T (T + 1) v' w2) := Lib.hid ⟨l ++ [⟨2, 0, 0, 0⟩], by have := HL.out; simp; omega, ho.snoc (cellAt_2 (by have := HL.out; omega)), hrow2, (hblk.alloc _).below hb2 (by omega), (hbel.alloc (Nat.le_of_lt hblk.lt) _).trans (hb2.mono (by omega))⟩
      clear HM HL ho hrow hblk hbel hrow2 hb2 c0 c1 c2 few j0 j1 hi
      go_loopw [3, 5] (fun v i wr => ∃ j : Int, 0 ≤ j ∧ j ≤ S ∧ i = .int .i64 j ∧ Made (CellAt V S T) w V S T (T + 1 + j * 7) v wr) (fun _ i _ => (S - intOf i).toNat)
      case atStart => exact ⟨0, by omega, by omega, rfl, HM2.out.eq (by omega)⟩
      case round =>
        clear HM2
        obtain ⟨s, j0, j1, rfl, hM⟩ := hrel
        have HM := Lib.hid hM
        clear hM
        have c0 := HM.out.c0
        have c1 := HM.out.c1
        have c2 := HM.out.c2
        have hz := HM.out.lt
        by_cases hs : s < S
        · obtain ⟨l, hl, ho, hrow, hblk, hbel⟩ := HM.out
          have few : l.length ≤ 10000 := by
            have := HZ.out.vn2
            have := HZ.out.pr2
            omega
          have HL := Lib.hid hl
          clear hl hz
          go_wp2_with (at_builtin; refine wpList_append_names rfl (.tmp 33) (.tmp 48) rfl (w.heap.size + 1) _ l [⟨3, s, 0, 0⟩, ⟨4, s, 0, 0⟩, ⟨5, s, 0, 0⟩, ⟨6, s, 0, 0⟩, ⟨6, s, 1, 0⟩, ⟨7, s, 0, 0⟩, ⟨7, s, 1, 0⟩] rfl (hrow.alloc _) wr.heap.size 7 rfl rfl (Blk.new _ _ _) (by omega) (by have := hblk.lt; simp; omega) ?_; intro v' w2 hrow2 hb2)
          go_roundw
          case rel =>
            refine ⟨s + 1, by omega, by omega, rfl, l ++ [⟨3, s, 0, 0⟩, ⟨4, s, 0, 0⟩, ⟨5, s, 0, 0⟩, ⟨6, s, 0, 0⟩, ⟨6, s, 1, 0⟩, ⟨7, s, 0, 0⟩, ⟨7, s, 1, 0⟩], by have := HL.out; simp; omega, out_7 ho (cellAt_3 j0 hs (by have := HL.out; omega)) (cellAt_4 j0 hs (by have := HL.out; omega)) (cellAt_5 j0 hs (by have := HL.out; omega)) (cellAt_6 j0 hs (.inl rfl) (by have := HL.out; omega)) (cellAt_6 j0 hs (.inr rfl) (by have := HL.out; omega)) (cellAt_7 j0 hs (.inl rfl) (by have := HL.out; omega)) (cellAt_7 j0 hs (.inr rfl) (by have := HL.out; omega)), hrow2, (hblk.alloc _).below hb2 (by omega), ?_⟩
            exact (hbel.alloc (Nat.le_of_lt hblk.lt) _).trans (hb2.mono (by omega))
          case measure => simp [intOf]; omega
        · have e : s = S := by omega
          subst e
          go_wp2_with fail
          go_loopw [3, 6] (fun v i wr => ∃ j : Int, 0 ≤ j ∧ j ≤ V ∧ i = .int .i64 j ∧ Made (CellAt V s T) w V s T (o3 s T + j * lv V) v wr) (fun _ i _ => (V - intOf i).toNat)
          case atStart => exact ⟨0, by omega, by omega, rfl, HM.out.eq (by unfold o3; omega)⟩
          case round =>
            clear HM c0 c1 c2 hz j0 j1 hs
            obtain ⟨v, j0, j1, rfl, hM⟩ := hrel
            have HM := Lib.hid hM
            clear hM
            have c0 := HM.out.c0
            have c1 := HM.out.c1
            have c2 := HM.out.c2
            have hz := HM.out.lt
            have hvl := mul_up (k := v) (V := lv V) (L := V) j0 j1 (by omega)
            have hvn : V * lv V = vn V := Int.mul_comm _ _
            have HV := Lib.hid (And.intro hvl hvn)
            clear hvl hvn
            by_cases hv : v < V
            · go_wp2_with fail
              go_loopw [3, 7] (fun u i wr => ∃ j : Int, 0 ≤ j ∧ j ≤ lv V ∧ i = .int .i64 j ∧ Made (CellAt V s T) w V s T (o3 s T + v * lv V + j) u wr) (fun _ i _ => (lv V - intOf i).toNat)
              case atStart => exact ⟨0, by omega, by omega, rfl, HM.out.eq (by omega)⟩
              case round =>
                clear HM c0 c1 c2 hz
                have i0 := j0
                clear j0 j1
                obtain ⟨i, j0, j1, rfl, hM⟩ := hrel
                have HM := Lib.hid hM
                clear hM
                have c0 := HM.out.c0
                have c1 := HM.out.c1
                have c2 := HM.out.c2
                by_cases hi : i < lv V
                · go_wp2_with fail
                  refine (rlevels_yes V s T H.out _).mono ?_; rintro e w1 ⟨rfl, b1⟩
                  have HN := Lib.hid (HM.out.later b1)
                  clear c0 c1 c2 HM b1
                  have HM := HN
                  clear HN
                  have hz := HM.out.lt
                  obtain ⟨l, hl, ho, hrow, hblk, hbel⟩ := HM.out
                  have few : l.length ≤ 10000 := by
                    have := HZ.out.vn2
                    have := HZ.out.pr2
                    have := HV.out; unfold o3 at hl; omega
                  have HL := Lib.hid hl
                  clear hl hz
                  go_wp2_with (at_builtin; refine wpList_append_names rfl (.tmp 62) (.tmp 66) rfl (w.heap.size + 1) _ l [⟨8, v, i, 0⟩] rfl (hrow.alloc _) w1.heap.size 1 rfl rfl (Blk.new _ _ _) (by omega) (by have := hblk.lt; simp; omega) ?_; intro v' w2 hrow2 hb2)
                  go_roundw
                  case rel =>
                    refine ⟨i + 1, by omega, by omega, rfl, l ++ [⟨8, v, i, 0⟩], by have := HL.out; simp; omega, ho.snoc (cellAt_8 i0 hv j0 hi (by have := HL.out; omega)), hrow2, (hblk.alloc _).below hb2 (by omega), ?_⟩
                    exact (hbel.alloc (Nat.le_of_lt hblk.lt) _).trans (hb2.mono (by omega))
                  case measure => simp [intOf]; omega
                · have e : i = lv V := by omega
                  subst e
                  go_wp2_with fail
                  refine (rlevels_yes V s T H.out _).mono ?_; rintro e w1 ⟨rfl, b1⟩
                  have HN := Lib.hid (HM.out.later b1)
                  clear c0 c1 c2 HM b1
                  go_wp2_with fail
                  go_roundw
                  case rel => exact ⟨v + 1, by omega, by omega, rfl, HN.out.eq (by rw [Int.add_mul]; omega)⟩
                  case measure => simp [intOf]; omega
            · have e : v = V := by omega
              subst e
              have HM2 : Hid (Made (CellAt v s T) w v s T (o4 v s T) _ _) := Lib.hid (HM.out.eq (by have := HV.out.2; unfold o3 o4; omega))
              clear HM HV
              go_wp2_with fail
              go_loopw [3, 8] (fun u i wr => ∃ j : Int, 0 ≤ j ∧ j ≤ v ∧ i = .int .i64 j ∧ Made (CellAt v s T) w v s T (o4 v s T + ahF v j) u wr) (fun _ i _ => (v - intOf i).toNat)
              case atStart => exact ⟨0, by omega, by omega, rfl, HM2.out.eq (by rw [ah_zero]; omega)⟩
              case round =>
                clear HM2 c0 c1 c2 hz j0 j1 hv
                obtain ⟨a, j0, j1, rfl, hM⟩ := hrel
                have HM := Lib.hid hM
                clear hM
                have c0 := HM.out.c0
                have c1 := HM.out.c1
                have c2 := HM.out.c2
                have hz := HM.out.lt
                by_cases ha : a < v
                · go_wp2_with fail
                  go_loopw [3, 9] (fun u i wr => ∃ j : Int, a + 1 ≤ j ∧ j ≤ v ∧ i = .int .i64 j ∧ Made (CellAt v s T) w v s T (o4 v s T + ahF v a + (j - a - 1)) u wr) (fun _ i _ => (v - intOf i).toNat)
                  case atStart => exact ⟨a + 1, by omega, by omega, rfl, HM.out.eq (by omega)⟩
                  case round =>
                    clear HM c0 c1 c2 hz
                    have i0 := j0
                    clear j0 j1
                    obtain ⟨b, j0, j1, rfl, hM⟩ := hrel
                    have HM := Lib.hid hM
                    clear hM
                    have c0 := HM.out.c0
                    have c1 := HM.out.c1
                    have c2 := HM.out.c2
                    have hz := HM.out.lt
                    by_cases hb : b < v
                    · obtain ⟨l, hl, ho, hrow, hblk, hbel⟩ := HM.out
                      have few : l.length ≤ 10000 := by
                        have := HZ.out.vn2
                        have := HZ.out.pr2
                        have := ah_end (V := v) (a := a) (by omega); unfold o4 at hl; omega
                      have HL := Lib.hid hl
                      clear hl hz
                      go_wp2_with (at_builtin; refine wpList_append_names rfl (.tmp 82) (.tmp 86) rfl (w.heap.size + 1) _ l [⟨9, a, b, 0⟩] rfl (hrow.alloc _) wr.heap.size 1 rfl rfl (Blk.new _ _ _) (by omega) (by have := hblk.lt; simp; omega) ?_; intro v' w2 hrow2 hb2)
                      go_roundw
                      case rel =>
                        refine ⟨b + 1, by omega, by omega, rfl, l ++ [⟨9, a, b, 0⟩], by have := HL.out; simp; omega, ho.snoc (cellAt_9 i0 (by omega) hb (by have := HL.out; omega)), hrow2, (hblk.alloc _).below hb2 (by omega), ?_⟩
                        exact (hbel.alloc (Nat.le_of_lt hblk.lt) _).trans (hb2.mono (by omega))
                      case measure => simp [intOf]; omega
                    · have e : b = v := by omega
                      subst e
                      go_wp2_with fail
                      go_roundw
                      case rel => exact ⟨a + 1, by omega, by omega, rfl, HM.out.eq (by rw [ah_step]; omega)⟩
                      case measure => simp [intOf]; omega
                · have e : a = v := by omega
                  subst e
                  have HM2 : Hid (Made (CellAt a s T) w a s T (o5 a s T) _ _) := Lib.hid (HM.out.eq (by have e := ah_step (V := a) (a := a - 1); rw [show a - 1 + 1 = a by omega, ah_last] at e; unfold o4 o5; omega))
                  clear HM
                  go_wp2_with fail
                  go_loopw [3, 10] (fun u i wr => ∃ j : Int, 1 ≤ j ∧ j ≤ nd a s + 1 ∧ i = .int .i64 j ∧ Made (CellAt a s T) w a s T (o5 a s T + (j - 1) * 7) u wr) (fun _ i _ => (nd a s + 1 - intOf i).toNat)
                  case atStart => exact ⟨1, by omega, by omega, rfl, HM2.out.eq (by omega)⟩
                  case round =>
                    clear HM2 c0 c1 c2 hz j0 j1 ha
                    obtain ⟨x, j0, j1, rfl, hM⟩ := hrel
                    have HM := Lib.hid hM
                    clear hM
                    have c0 := HM.out.c0
                    have c1 := HM.out.c1
                    have c2 := HM.out.c2
                    have hz := HM.out.lt
                    have k0 := j0
                    have k1 := j1
                    by_cases hx : x ≤ nd a s
                    · go_wp2_with fail
                      refine (rnodes_yes a s T H.out _).mono ?_; rintro e w1 ⟨g1, cap1, f1, rfl, _, _, _, _, b1⟩
                      have HN := Lib.hid (HM.out.later b1)
                      clear c0 c1 c2 hz HM b1 j0 j1
                      go_wp2_with fail
                      go_loopw [3, 11] (fun u i wr => ∃ j : Int, 0 ≤ j ∧ j ≤ 7 ∧ i = .int .i64 j ∧ Made (CellAt a s T) w a s T (o5 a s T + (x - 1) * 7 + j) u wr) (fun _ i _ => (7 - intOf i).toNat)
                      case atStart => exact ⟨0, by omega, by omega, rfl, HN.out.eq (by omega)⟩
                      case round =>
                        clear HN
                        obtain ⟨i, j0, j1, rfl, hM⟩ := hrel
                        have HM := Lib.hid hM
                        clear hM
                        have hz := HM.out.lt
                        by_cases hi : i < 7
                        · obtain ⟨l, hl, ho, hrow, hblk, hbel⟩ := HM.out
                          have few : l.length ≤ 10000 := by
                            have := HZ.out.vn2
                            have := HZ.out.pr2
                            unfold o5 at hl; omega
                          have HL := Lib.hid hl
                          clear hl hz
                          go_wp2_with (at_builtin; refine wpList_append_names rfl (.tmp 99) (.tmp 103) rfl (w.heap.size + 1) _ l [⟨10, x, i, 0⟩] rfl (hrow.alloc _) wr.heap.size 1 rfl rfl (Blk.new _ _ _) (by omega) (by have := hblk.lt; simp; omega) ?_; intro v' w2 hrow2 hb2)
                          go_roundw
                          case rel =>
                            refine ⟨i + 1, by omega, by omega, rfl, l ++ [⟨10, x, i, 0⟩], by have := HL.out; simp; omega, ho.snoc (cellAt_10 k0 hx j0 hi (by have := HL.out; omega)), hrow2, (hblk.alloc _).below hb2 (by omega), ?_⟩
                            exact (hbel.alloc (Nat.le_of_lt hblk.lt) _).trans (hb2.mono (by omega))
                          case measure => simp [intOf]; omega
                        · have e : i = 7 := by omega
                          subst e
                          go_wp2_with fail
                          go_roundw
                          case rel => exact ⟨x + 1, by omega, by omega, rfl, HM.out.eq (by omega)⟩
                          case measure => simp [intOf]; omega
                    · have e : x = nd a s + 1 := by omega
                      subst e
                      go_wp2_with fail
                      refine (rnodes_yes a s T H.out _).mono ?_; rintro e w1 ⟨g1, cap1, f1, rfl, _, _, _, _, b1⟩
                      have HN := Lib.hid (HM.out.later b1)
                      clear c0 c1 c2 hz HM b1
                      go_wp2_with fail
                      go_ret
                      obtain ⟨l, hl, ho, hrow, hblk, hbel⟩ := HN.out
                      have hn : (cn a s T).toNat = l.length := by unfold cn; unfold o5 at hl; omega
                      rw [hn]
                      exact named_of hrow (by omega) (by unfold o5 at hl; have := HZ.out.vn1; have := HZ.out.pr1; omega) ho hbel
end Go.Proofs.Ytaooglagddphnaa
