/- Lists compared; a list without a number; a number ahead of a list. -/
import Derived.Test.YtgjlilcljefbfaaSlotN
namespace Go.Proofs.Ytgjlilcljefbfaa
open Go.RowKit

set_option maxRecDepth 100000

theorem same_yes {w : World} {v1 v2 : Value} {l : List Nat} (h1 : LI w v1 l) (h2 : LI w v2 l) (hl : l.length ≤ 100000) :
    Calls Try.prog 9 #[v1, v2] w fun e w' => e = .returned (.bool true) ∧ Below w.heap.size w w' := by
  obtain ⟨a1, c1, rfl, g1, m1⟩ := h1.shape
  obtain ⟨a2, c2, rfl, g2, m2⟩ := h2.shape
  have H1 := Lib.hid h1
  have H2 := Lib.hid h2
  clear h1 h2 m1 m2
  go_enter Try.func9, Try.ntmps9
  go_wp2_with fail
  go_loopw [13] (fun i wr => ∃ k : Nat, k ≤ l.length ∧ i = .int .i64 (k : Int) ∧ Below w.heap.size w wr) (fun i _ => l.length - (intOf i).toNat)
  case atStart => exact ⟨0, Nat.zero_le _, rfl, Below.refl _ _⟩
  case round =>
    obtain ⟨k, hk, rfl, B⟩ := hrel
    by_cases hlt : k < l.length
    · obtain ⟨x, hx⟩ : ∃ x, l[k]? = some x := ⟨_, List.getElem?_eq_getElem hlt⟩
      have hne : l ≠ [] := by rintro rfl; simp at hlt
      obtain ⟨b1, o1, d1, e1, _, _, _, q1⟩ := (H1.out.below B).open_ hne
      obtain ⟨b2, o2, d2, e2, _, _, _, q2⟩ := (H2.out.below B).open_ hne
      injection e1 with e1 _ ec1
      injection e2 with e2 _ ec2
      subst e1 e2 ec1 ec2
      have z1 := q1 k x hx
      have z2 := q2 k x hx
      have HB := Lib.hid B
      clear q1 q2 hx hne B
      go_wp2_with fail
      go_region
      all_goals
        have HB2 := Lib.hid (show Below w.heap.size w wr.drew from HB.out.drew)
        go_wp2_with fail
        go_round
        case rel => exact ⟨k + 1, by omega, by go_num, HB2.out⟩
        case measure => simp [intOf]; omega
    · have hk' : k = l.length := by omega
      subst hk'
      have HB := Lib.hid B
      clear B
      go_wp2_with fail
      go_ret
      exact ⟨rfl, HB.out⟩

/-- A list without a number. -/
def wo (l : List Nat) (x : Nat) : List Nat := l.filter fun y => y != x

set_option maxHeartbeats 1000000 in
theorem without_any {w : World} {v : Value} {l : List Nat} {x : Nat} (h : LI w v l) (hl : l.length ≤ 100000) (hx : x ≤ 100000) (hs : ∀ y ∈ l, y ≤ 100000) :
    Calls Try.prog 14 #[v, .int .i64 (x : Int)] w fun e w' => ∃ v', e = .returned v' ∧ LI w' v' (wo l x) ∧ (∀ i, bk v' = some i → w.heap.size ≤ i) ∧ Below w.heap.size w w' := by
  obtain ⟨a1, c1, rfl, g1, m1⟩ := h.shape
  have H1 := Lib.hid h
  have HS := Lib.hid hs
  clear h m1 hs
  go_enter Try.func14, Try.ntmps14
  go_wp2_with fail
  go_loopw [5, 10] (fun v' i wr => ∃ k : Nat, k ≤ l.length ∧ i = .int .i64 (k : Int) ∧ LI wr v' (wo (l.take k) x) ∧ (∀ i, bk v' = some i → w.heap.size ≤ i) ∧ Below w.heap.size w wr) (fun _ i _ => l.length - (intOf i).toNat)
  case atStart => exact ⟨0, Nat.zero_le _, rfl, LI.nil _, fun i hi => by simp [bk] at hi, Below.refl _ _⟩
  case round =>
    obtain ⟨k, hk, rfl, L, BK, B⟩ := hrel
    by_cases hlt : k < l.length
    · obtain ⟨y, hy⟩ : ∃ y, l[k]? = some y := ⟨_, List.getElem?_eq_getElem hlt⟩
      have hne : l ≠ [] := by rintro rfl; simp at hlt
      obtain ⟨b1, o1, d1, e1, _, _, _, q1⟩ := (H1.out.below B).open_ hne
      injection e1 with e1 _ ec1
      subst e1 ec1
      have z1 := q1 k y hy
      have hy5 : y ≤ 100000 := HS.out y (List.mem_of_getElem? hy)
      have htk : l.take (k + 1) = l.take k ++ [y] := by rw [List.take_add_one, hy]; rfl
      have hlen : (wo (l.take k) x).length ≤ 100000 := Nat.le_trans (List.length_filter_le _ _) (by simp; omega)
      have HB := Lib.hid B
      have HL := Lib.hid L
      have HBK := Lib.hid BK
      have HT := Lib.hid htk
      clear q1 hy hne B L BK htk
      by_cases hxy : y = x
      · have hR : Hid (LI wr u5 (wo (l.take (k + 1)) x)) := by
          rw [HT.out]
          unfold wo
          rw [List.filter_append]
          simp only [hxy, bne_self_eq_false, List.filter_cons, List.filter_nil, Bool.false_eq_true, if_false, List.append_nil]
          exact HL
        subst hxy
        clear HL HT
        go_wp2_with fail
        go_round
        case rel => exact ⟨k + 1, by omega, by go_num, hR.out, HBK.out, HB.out⟩
        case measure => simp [intOf]; omega
      · have hne2 : ((y : Int) == (x : Int)) = false := beq_eq_false_iff_ne.2 (by omega)
        have hne3 : ¬ (y : Int) = (x : Int) := by omega
        go_wp2_with (at_builtin; refine wpList_append_li _ rfl _ _ rfl rfl (HL.out.alloc _) ⟨wr.heap.size, 0, none⟩ 1 y rfl (cell_new1 _ _ _) hlen ?_)
        intro v' w2 hli2 hg2 hbk2
        have hR : Hid (LI w2 v' (wo (l.take (k + 1)) x)) := by
          rw [HT.out]
          have : wo (l.take k ++ [y]) x = wo (l.take k) x ++ [y] := by
            unfold wo
            rw [List.filter_append]
            have : (y != x) = true := by simp [hxy]
            simp [this]
          rw [this]
          exact Lib.hid hli2
        have HB2 : Hid (Below w.heap.size w w2) := Lib.hid ((HB.out.alloc HB.out.size _).grown hg2 (by have := HB.out.size; simp; omega) HBK.out)
        have HBK2 : Hid (∀ i, bk v' = some i → w.heap.size ≤ i) := by
          refine Lib.hid fun i hi => ?_
          rcases hbk2 with e | ⟨k, e, hk⟩
          · exact HBK.out i (e ▸ hi)
          · rw [hi] at e; cases e
            have := HB.out.size
            omega
        clear hli2 hg2 hbk2 HL HB HBK HT
        go_wp2_with fail
        go_round
        case rel => exact ⟨k + 1, by omega, by go_num, hR.out, HBK2.out, HB2.out⟩
        case measure => simp [intOf]; omega
    · have hk' : k = l.length := by omega
      subst hk'
      rw [List.take_length] at L
      have HB := Lib.hid B
      have HL := Lib.hid L
      have HBK := Lib.hid BK
      clear B L BK
      go_wp2_with fail
      go_ret
      exact ⟨_, rfl, HL.out, HBK.out, HB.out⟩

/-- A number in a slice of its own, and a list behind it. -/
theorem wpList_cons_li (w : World) {ops : Array Oper} {rest : List Oper} {o : Oper} {a : Act} {Q : Exit → Act → World → Prop} (hgd : o.guard = none) (s x : Operand)
    (ho : o.op = .call { callee := .builtin .append, args := #[s, x], argTypes := #[22, 22] })
    (z b : Nat) (hs : a.eval s = .slice (some ⟨b, 0, none⟩) 1 1) (hb : Blk w b 3 #[.int .i64 (z : Int)]) {v : Value} {l : List Nat} (hx : a.eval x = v) (h : LI w v l) (hl : l.length ≤ 100000)
    (hK : ∀ v' w', LI w' v' (z :: l) → w.grownBy w' (some b) → (∀ i, bk v' = some i → b ≤ i) → wpList Try.prog ops Q rest (a.put o.dst v') w') : wpList Try.prog ops Q (o :: rest) a w := by
  obtain ⟨i0, hi0, hz0, hz1, hz2⟩ := info_parts info_i
  obtain ⟨ao, cap, rfl, h1, h2, h3, h4⟩ := h
  have hblt := hb.lt
  have hown : w.ownsRow b 3 1 (.slice (some ⟨b, 0, none⟩) 1 1) 1 [.int .i64 (z : Int)] :=
    ⟨rfl, .inr ⟨b, 1, #[.int .i64 (z : Int)], rfl, Nat.le_refl _, hb, Nat.le_refl _, by simp [maxLen], rfl, rfl⟩⟩
  have hone : ∀ u ∈ (l.map fun s : Nat => Value.int .i64 (s : Int)), u.oneCell' = true := by
    intro u hu
    obtain ⟨y, _, rfl⟩ := List.mem_map.1 hu
    rfl
  have fin : ∀ v' w', w'.ownsRow b 3 1 v' (1 + l.length) ([.int .i64 (z : Int)] ++ l.map fun s : Nat => Value.int .i64 (s : Int)) → w.grownBy w' (some b) → wpList Try.prog ops Q rest (a.put o.dst v') w' := by
    intro v' w' hown' hg
    have hown2 : w'.ownsRow b 3 1 v' (z :: l).length ((z :: l).map fun s : Nat => Value.int .i64 (s : Int)) := by simpa [Nat.add_comm] using hown'
    obtain ⟨hli, hbb⟩ := LI.of_owns hown2
    exact hK v' w' hli hg hbb
  cases ao with
  | none =>
    have hc := h3 rfl
    subst hc
    have hl0 : l = [] := List.eq_nil_of_length_eq_zero (by omega)
    subst hl0
    exact wpList_append_own_none hgd s x 22 ho b 3 i0 1 Try.underlying22 hi0 _ 1 [.int .i64 (z : Int)] hs hown hx (fin _ w (by simpa using hown) ⟨rfl, rfl, rfl, Nat.le_refl _, fun _ _ _ => rfl⟩)
  | some ad =>
    refine wpList_append_own_at w hgd s x 22 ho b 3 i0 _ 1 8 Try.underlying22 hi0 hz0 hz1 hz2 rfl (by omega) _ 1 [.int .i64 (z : Int)] hs hown ad l.length cap (l.map fun s : Nat => Value.int .i64 (s : Int)) hx (by simp) ?_ hone (by simp only [maxLen]; omega) (by omega) (by omega) (fun v' w' a1 a2 _ _ => fin v' w' a1 (by simpa [Value.ownBlock] using a2))
    intro j u hj
    obtain ⟨y, hy, rfl⟩ : ∃ y, l[j]? = some y ∧ u = .int .i64 (y : Int) := by
      simp only [List.getElem?_map, Option.map_eq_some_iff] at hj
      obtain ⟨y, hy, e⟩ := hj
      exact ⟨y, hy, e.symm⟩
    have hlj := (List.getElem?_eq_some_iff.1 hy).1
    obtain ⟨b', off, zs, e, hz, hsz, hel⟩ := h4 (by omega)
    cases e
    rw [Addr.add_lit]
    exact (hz.cell _).trans (hel j y hy)
end Go.Proofs.Ytgjlilcljefbfaa
