/- The document's book: names of nodes: of, node, parent. -/
import Derived.Test.YtaooglagddphnaaRefC
import Derived.Test.YtaooglagddphnaaZB
import Derived.BigQuiet
import Derived.Test.YtaooglagddphnaaLiZ
namespace Go.Proofs.Ytaooglagddphnaa
open Go.RowKit

set_option maxRecDepth 100000

section
variable {w w' W : World} {v u : Value} {l a : List Nat} {b : BkV} {cv : Nat → Int} {x k i : Nat} {V S T y z : Int} {m m' : Nm}
def HsRel13 (w0 : World) (l : List Nat) (x : Nat) (i : Value) (W : World) : Prop := W = w0 ∧ ∃ k, k ≤ l.length ∧ i = .int .i64 ((k : Nat) : Int) ∧ x ∉ l.take k
theorem has_any13 (h : LI w v l) (hl : l.length ≤ 100000) :
    Calls Try.prog 112 #[v, .int .i64 (x : Int)] w fun e w' => e = .returned (.bool (decide (x ∈ l))) ∧ w = w' := by
  obtain ⟨a0, c0, rfl, _⟩ := h.shape
  have H := Lib.hid h
  obtain ⟨n, hn⟩ : ∃ n, l.length = n := ⟨_, rfl⟩
  have HN := Lib.hid hn
  rw [hn] at H hl
  rw [hn]
  have nI : (n : Int) ≤ 100000 := by omega
  clear h hn
  have HRel : Hid (HsRel13 w l x (.int .i64 0) w) := Lib.hid ⟨rfl, 0, Nat.zero_le _, rfl, by simp⟩
  go_enter Try.func112, Try.ntmps112
  go_wp2_with fail
  go_loopw [5] (fun i wr => HsRel13 w l x i wr) (fun i _ => n - (intOf i).toNat)
  case atStart => exact HRel.out
  case round =>
    clear HRel
    obtain ⟨rfl, k, hk, rfl, hx⟩ := hrel
    have HX := Lib.hid hx
    rw [HN.out] at hk
    clear hx
    by_cases hkn : k < n
    · obtain ⟨y, hy⟩ : ∃ y, l[k]? = some y := ⟨_, List.getElem?_eq_getElem (by have := HN.out; omega)⟩
      obtain ⟨b1, o1, rfl, c1⟩ := H.out.at hy
      have HY := Lib.hid hy
      have kI : (k : Int) < (n : Int) := by omega
      have k0 : (0 : Int) ≤ (k : Int) := by omega
      clear hy
      by_cases e : y = x
      · subst e
        have eb : ((y : Int) == (y : Int)) = true := beq_self_eq_true _
        have HE : Hid (y ∈ l) := Lib.hid (List.mem_of_getElem? HY.out)
        go_wp2_with fail
        go_ret
        exact ⟨by rw [decide_eq_true HE.out]; rfl, rfl⟩
      · have eb : ((y : Int) == (x : Int)) = false := beq_eq_false_iff_ne.2 (by omega)
        have HE := Lib.hid e
        clear e
        go_wp2_with fail
        go_roundw
        case rel =>
          refine ⟨rfl, k + 1, by have := HN.out; omega, by simp, ?_⟩
          rw [List.take_add_one, HY.out]
          intro hm
          rcases List.mem_append.1 hm with hm | hm
          · exact HX.out hm
          · exact HE.out (by simpa using hm : x = y).symm
        case measure => simp [intOf]; omega
    · have ek : k = n := by omega
      subst ek
      have kI : ¬ (k : Int) < (k : Int) := by omega
      clear hk hkn
      go_wp2_with fail
      go_ret
      exact ⟨by rw [decide_eq_false (by have := HX.out; rw [← HN.out, List.take_length] at this; exact this)]; rfl, rfl⟩


/-- A name's level. -/
def ofF (m : Nm) : Int := if m.k = 1 then m.a else m.b
theorem rof_any (m : Nm) (w : World) : Calls Try.prog 114 #[nmV m] w fun e w' => e = .returned (.int .i64 (ofF m)) ∧ Below w.heap.size w w' := by
  obtain ⟨c0, c1, c2, c3⟩ : (w.alloc (.cells #[.int .i64 m.k, .int .i64 m.a, .int .i64 m.b, .int .i64 m.c] 114)).cell? ⟨w.heap.size, 0, none⟩ = some (.int .i64 m.k) ∧ (w.alloc (.cells #[.int .i64 m.k, .int .i64 m.a, .int .i64 m.b, .int .i64 m.c] 114)).cell? ⟨w.heap.size, 1, none⟩ = some (.int .i64 m.a) ∧ (w.alloc (.cells #[.int .i64 m.k, .int .i64 m.a, .int .i64 m.b, .int .i64 m.c] 114)).cell? ⟨w.heap.size, 2, none⟩ = some (.int .i64 m.b) ∧ True := ⟨(Blk.new _ _ _).cell 0, (Blk.new _ _ _).cell 1, (Blk.new _ _ _).cell 2, trivial⟩
  have HB : Hid (Below w.heap.size w (w.alloc (.cells #[.int .i64 m.k, .int .i64 m.a, .int .i64 m.b, .int .i64 m.c] 114))) := Lib.hid ((Below.refl _ _).alloc (Nat.le_refl _) _)
  unfold ofF
  by_cases h : m.k = 1
  · have h1 : (m.k == 1) = true := by rw [h]; rfl
    rw [if_pos h]
    clear h
    go_enter Try.func114, Try.ntmps114
    go_wp2_with fail
    go_ret
    exact ⟨rfl, HB.out⟩
  · have h1 : (m.k == 1) = false := beq_eq_false_iff_ne.2 h
    rw [if_neg h]
    clear h
    go_enter Try.func114, Try.ntmps114
    go_wp2_with fail
    go_ret
    exact ⟨rfl, HB.out⟩
theorem mulAdd_inj {n a a' c c' : Int} (h1 : 0 ≤ c) (h2 : c < n) (h3 : 0 ≤ c') (h4 : c' < n) (e : a * n + c = a' * n + c') : a = a' ∧ c = c' := by
  have d : ∀ a c : Int, 0 ≤ c → c < n → (a * n + c) / n = a := fun a c g1 g2 => by
    rw [Int.add_comm, Int.add_mul_ediv_right _ _ (by omega), Int.ediv_eq_zero_of_lt g1 g2]; omega
  have e1 : a = a' := by rw [← d a c h1 h2, ← d a' c' h3 h4, e]
  subst e1
  exact ⟨rfl, by omega⟩
/-- A place has one name; a name one place. -/
theorem nodeAt_name (h : NodeAt V S m k) (h' : NodeAt V S m' k) (hV : 1 ≤ V) : m = m' := by
  have hl := (lv_bd V).1
  have hs : sn V = lv V * 2 := rfl
  have hv : vn V = lv V * V := rfl
  obtain ⟨k1, a1, b1, c1⟩ := m
  obtain ⟨k2, a2, b2, c2⟩ := m'
  unfold NodeAt at h h'
  simp only at h h'
  have up : ∀ a b : Int, 0 ≤ a → a < lv V → 0 ≤ b → b < V → a * V + b < lv V * V := fun a b g1 g2 g3 g4 => by
    have h5 : (a + 1) * V ≤ lv V * V := Int.mul_le_mul_of_nonneg_right (by omega) (by omega)
    rw [Int.add_mul] at h5; omega
  have lo : ∀ a : Int, 0 ≤ a → 0 ≤ a * sn V := fun a g => Int.mul_nonneg g (by omega)
  rcases h with ⟨rfl, rfl, g1, g2, g3, g4, g5⟩ | ⟨rfl, g1, g2, g3, g4, g5, g6⟩ <;> rcases h' with ⟨rfl, rfl, f1, f2, f3, f4, f5⟩ | ⟨rfl, f1, f2, f3, f4, f5, f6⟩
  · obtain ⟨rfl, rfl⟩ := mulAdd_inj g3 g4 f3 f4 (g5.symm.trans f5)
    rfl
  · have := up a1 b1 g1 g2 g3 g4
    have := lo a2 f1
    omega
  · have := up a2 b2 f1 f2 f3 f4
    have := lo a1 g1
    omega
  · obtain ⟨rfl, e⟩ := mulAdd_inj (n := sn V) (a := a1) (a' := a2) (c := 2 * b1 + c1) (c' := 2 * b2 + c2) (by omega) (by omega) (by omega) (by omega) (by omega)
    have e1 : b1 = b2 := by omega
    have e2 : c1 = c2 := by omega
    subst e1 e2
    rfl
theorem nodeAt_place (h : NodeAt V S m k) (h' : NodeAt V S m i) : k = i := by
  unfold NodeAt at h h'
  rcases h with ⟨e1, _, _, _, _, _, g5⟩ | ⟨e1, _, _, _, _, _, g6⟩ <;> rcases h' with ⟨e2, _, _, _, _, _, f5⟩ | ⟨e2, _, _, _, _, _, f6⟩ <;> omega
theorem Bk.name (B : Bk w b cv) (h : NodeAt b.V b.S m k) (hk : k < b.na) : NmAt w b.ga k m := by
  obtain ⟨m', h1, h2⟩ := B.al k hk
  rw [nodeAt_name h h2 B.hR.v1]
  exact h1
theorem NmAt.cells (h : NmAt w x k m) : w.cell? ⟨x, k * 4, none⟩ = some (.int .i64 m.k) ∧ w.cell? ⟨x, k * 4 + 1, none⟩ = some (.int .i64 m.a) ∧ w.cell? ⟨x, k * 4 + 2, none⟩ = some (.int .i64 m.b) ∧ w.cell? ⟨x, k * 4 + 3, none⟩ = some (.int .i64 m.c) := h
set_option maxHeartbeats 2000000 in
theorem node_any (B : Bk w b cv) (h : NodeAt b.V b.S m k) (hk : k < b.na) :
    Calls Try.prog 113 #[vB b, nmV m] w fun e w' => e = .returned (.int .i64 ((k + 1 : Nat) : Int)) ∧ Below w.heap.size w w' := by
  have HB := Lib.hid ((B.alloc (bB b)).alloc (.cells #[.int .i64 m.k, .int .i64 m.a, .int .i64 m.b, .int .i64 m.c] 114))
  have HW : Hid (Below w.heap.size w ((w.alloc (bB b)).alloc (.cells #[.int .i64 m.k, .int .i64 m.a, .int .i64 m.b, .int .i64 m.c] 114))) := Lib.hid (((Below.refl _ _).alloc (Nat.le_refl _) _).alloc (by simp) _)
  have hX : BB ((w.alloc (bB b)).alloc (.cells #[.int .i64 m.k, .int .i64 m.a, .int .i64 m.b, .int .i64 m.c] 114)) w.heap.size b := (BB.new w b).below ((Below.refl _ _).alloc (Nat.le_refl _) _)
  have HX := Lib.hid hX
  have HM : Hid (Blk ((w.alloc (bB b)).alloc (.cells #[.int .i64 m.k, .int .i64 m.a, .int .i64 m.b, .int .i64 m.c] 114)) (w.heap.size + 1) 114 #[.int .i64 m.k, .int .i64 m.a, .int .i64 m.b, .int .i64 m.c]) := Lib.hid (new_next _ _ _ _ _)
  have HN := Lib.hid h
  have HR := Lib.hid B.hR
  have na560 : b.na ≤ 560 := by rw [B.ha]; have := (sizes B.hR).nd2; omega
  obtain ⟨c0, c1, c2, c3, c4, c5, c6⟩ := hX.cells
  clear B h hX
  go_enter Try.func113, Try.ntmps113
  go_wp2_with fail
  clear c0 c1 c2 c3 c4 c5 c6
  generalize (w.alloc (bB b)).alloc (.cells #[.int .i64 m.k, .int .i64 m.a, .int .i64 m.b, .int .i64 m.c] 114) = w1 at HB HX HM HW ⊢
  generalize w.heap.size + 1 = mb at HM ⊢
  go_loopw [6] (fun i wr => ∃ j : Nat, j ≤ k ∧ i = .int .i64 (j : Int) ∧ Below w1.heap.size w1 wr) (fun i _ => k - (intOf i).toNat)
  case atStart => exact ⟨0, Nat.zero_le _, rfl, Below.refl _ _⟩
  case round =>
    obtain ⟨j, hj, rfl, hb⟩ := hrel
    have HB2 := Lib.hid (HB.out.below hb)
    obtain ⟨mj, hn1, hn2⟩ := HB2.out.al j (by omega)
    obtain ⟨z0, z1, z2, z3⟩ := hn1.cells
    have glt := HB2.out.lt.2
    obtain ⟨m0, m1, m2, m3⟩ := And.intro ((HM.out.below hb HM.out.lt).cell 0) (And.intro ((HM.out.below hb HM.out.lt).cell 1) (And.intro ((HM.out.below hb HM.out.lt).cell 2) ((HM.out.below hb HM.out.lt).cell 3)))
    have mlt := (HM.out.below hb HM.out.lt).lt
    have HBW := Lib.hid (HW.out.trans (hb.mono HW.out.size))
    have HBB := Lib.hid hb
    have jI : (j : Int) < (b.na : Int) := by omega
    have j0 : (0 : Int) ≤ (j : Int) := by omega
    clear hb hn1
    by_cases hjk : j = k
    · subst hjk
      obtain rfl : mj = m := nodeAt_name hn2 HN.out HR.out.v1
      have q0 : (mj.k == mj.k) = true := beq_self_eq_true _
      have q1 : (mj.a == mj.a) = true := beq_self_eq_true _
      have q2 : (mj.b == mj.b) = true := beq_self_eq_true _
      have q3 : (mj.c == mj.c) = true := beq_self_eq_true _
      clear hn2
      go_wp2_with fail
      go_region
      all_goals
        go_wp2_with fail
        go_ret
        exact ⟨by simp, HBW.out.drew⟩
    · have HNE : Hid (mj ≠ m) := Lib.hid fun e => hjk (nodeAt_place (by rw [← e]; exact hn2) HN.out)
      have HJK : Hid (j < k) := Lib.hid (by omega)
      obtain ⟨x0, x1, x2, x3⟩ := mj
      obtain ⟨y0, y1, y2, y3⟩ := m
      dsimp only at *
      have hbits : ¬ (((x0 == y0) = true) ∧ ((x1 == y1) = true) ∧ ((x2 == y2) = true) ∧ ((x3 == y3) = true)) := by
        rintro ⟨a1, a2, a3, a4⟩
        exact HNE.out (by rw [eq_of_beq a1, eq_of_beq a2, eq_of_beq a3, eq_of_beq a4])
      clear hn2 hjk hj
      cases q0 : (x0 == y0)
      · go_wp2_with fail
        go_region
        all_goals
          go_wp2_with fail
          go_roundw
          case rel => exact ⟨j + 1, HJK.out, by simp, HBB.out.drew⟩
          case measure => have := HJK.out; simp [intOf]; omega
      · cases q1 : (x1 == y1)
        · go_wp2_with fail
          go_region
          all_goals
            go_wp2_with fail
            go_roundw
            case rel => exact ⟨j + 1, HJK.out, by simp, HBB.out.drew⟩
            case measure => have := HJK.out; simp [intOf]; omega
        · cases q2 : (x2 == y2)
          · go_wp2_with fail
            go_region
            all_goals
              go_wp2_with fail
              go_roundw
              case rel => exact ⟨j + 1, HJK.out, by simp, HBB.out.drew⟩
              case measure => have := HJK.out; simp [intOf]; omega
          · have q3 : (x3 == y3) = false := by
              cases c : (x3 == y3)
              · rfl
              · exact absurd ⟨q0, q1, q2, c⟩ hbits
            go_wp2_with fail
            go_region
            all_goals
              go_wp2_with fail
              go_roundw
              case rel => exact ⟨j + 1, HJK.out, by simp, HBB.out.drew⟩
              case measure => have := HJK.out; simp [intOf]; omega
end
end Go.Proofs.Ytaooglagddphnaa
