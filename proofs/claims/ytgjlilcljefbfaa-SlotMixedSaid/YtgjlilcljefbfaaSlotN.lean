/- append of one number as an operation of a region that draws its order; append of a whole list; lists compared, and without a number. -/
import Derived.Test.YtgjlilcljefbfaaSlotM
import Derived.Laws.AppendOwnNone
import Derived.Maps.AppendAt
import Derived.Deep.AppendLies
namespace Go.Proofs.Ytgjlilcljefbfaa
open Go.RowKit

set_option maxRecDepth 100000

theorem run_append_li (w : World) {v : Value} {l : List Nat} (h : LI w v l) (ad : Addr) (c z : Nat) (hc : w.cell? (ad.add 0) = some (.int .i64 (z : Int))) (hl : l.length ≤ 100000) (ty : TypeId) :
    ∃ v' w', (Builtin.append_ #[22, 22] ty #[v, .slice (some ad) 1 c]).run Try.prog w = .ok v' w' ∧ LI w' v' (l ++ [z]) ∧ w.grownBy w' (bk v) ∧ (bk v' = bk v ∨ ∃ k, bk v' = some k ∧ w.heap.size ≤ k) := by
  obtain ⟨i0, hi0, hz0, hz1, hz2⟩ := info_parts info_i
  have hnews : ∀ (j : Nat) (u : Value), [Value.int .i64 (z : Int)][j]? = some u → w.cell? (ad.add j) = some u := by
    intro j u hj
    match j, hj with
    | 0, hj => simp at hj; subst hj; exact hc
  have hone : ∀ u ∈ [Value.int .i64 (z : Int)], u.oneCell' = true := by simp; rfl
  obtain ⟨ao, cap, rfl, h1, h2, h3, h4⟩ := h
  have fresh : ∀ v' w', (Builtin.append_ #[22, 22] ty #[.slice ao l.length cap, .slice (some ad) 1 c]).run Try.prog w = .ok v' w' → w'.ownsRow w.heap.size 3 1 v' (l.length + 1) ((l.map fun s : Nat => Value.int .i64 (s : Int)) ++ [.int .i64 (z : Int)]) → w.grownBy w' none →
      ∃ v' w', (Builtin.append_ #[22, 22] ty #[.slice ao l.length cap, .slice (some ad) 1 c]).run Try.prog w = .ok v' w' ∧ LI w' v' (l ++ [z]) ∧ w.grownBy w' (bk (.slice ao l.length cap)) ∧ (bk v' = bk (.slice ao l.length cap) ∨ ∃ k, bk v' = some k ∧ w.heap.size ≤ k) := by
    intro v' w' hrun hown hgrow
    have hown' : w'.ownsRow w.heap.size 3 1 v' (l ++ [z]).length ((l ++ [z]).map fun s : Nat => Value.int .i64 (s : Int)) := by simpa using hown
    obtain ⟨hli, hb⟩ := LI.of_owns hown'
    refine ⟨v', w', hrun, hli, ⟨hgrow.os, hgrow.tape, hgrow.output, hgrow.size, fun k hk _ => hgrow.block k hk (by simp)⟩, ?_⟩
    cases e : bk v' with
    | none =>
      exfalso
      obtain ⟨a', cap', rfl, g1, g2, g3, g4⟩ := hli
      obtain ⟨b', off', zs', rfl, _⟩ := g4 (by simp at g2; omega)
      rw [bk_some (by simp at g2; omega)] at e
      cases e
    | some k => exact .inr ⟨k, rfl, hb k e⟩
  rcases Nat.eq_zero_or_pos cap with rfl | hcap
  · have hl0 : l = [] := List.eq_nil_of_length_eq_zero (by omega)
    subst hl0
    cases ao with
    | none =>
      obtain ⟨v', w', hrun, r1, r2, _⟩ := run_append_own (P := Try.prog) w w.heap.size 22 ty 3 i0 _ 1 8 Try.underlying22 hi0 hz0 hz1 hz2 rfl (by omega) (.slice none 0 0) 0 [] (World.ownsRow_nil w _ _ 1) ad 1 c [.int .i64 (z : Int)] rfl hnews hone (by simp [maxLen]) (by omega) (Nat.le_refl _)
      exact fresh v' w' hrun (by simpa using r1) r2
    | some b =>
      obtain ⟨v', w', hrun, r1, r2⟩ := run_append_arg_grows (P := Try.prog) w 22 ty 3 i0 _ 1 8 Try.underlying22 hi0 hz0 hz1 hz2 rfl (by omega) b 0 0 [] rfl (by intro j u hj; simp at hj) ad 1 c [.int .i64 (z : Int)] rfl hnews (by omega) (by simp [maxLen]) (by omega)
      exact fresh v' w' hrun (by simpa using r1) r2
  · obtain ⟨b, off, zs, rfl, hz, hsz, hel⟩ := h4 hcap
    have holds : ∀ (j : Nat) (u : Value), (l.map fun s : Nat => Value.int .i64 (s : Int))[j]? = some u → w.cell? ⟨b, off + j, none⟩ = some u := by
      intro j u hj
      obtain ⟨x', hx', rfl⟩ : ∃ x', l[j]? = some x' ∧ u = .int .i64 (x' : Int) := by
        simp only [List.getElem?_map, Option.map_eq_some_iff] at hj
        obtain ⟨y, hy, e⟩ := hj
        exact ⟨y, hy, e.symm⟩
      exact (hz.cell _).trans (hel j x' hx')
    by_cases hroom : l.length + 1 ≤ cap
    · have hs1 : i0.size = 1 := hz1
      have hrun := run_append_room_cells (P := Try.prog) w 22 ty 3 i0 Try.underlying22 hi0 b off l.length cap ad 1 c [.int .i64 (z : Int)] (by rw [hs1]; rfl) hnews hone hroom
        (fun j hj => by
          have : j = 0 := by simpa using hj
          subst this
          rw [hz.cell, hs1, Array.getElem?_eq_getElem (by omega)]
          rfl) (fun j hj => hz.frozen _)
      rw [hs1] at hrun
      refine ⟨_, _, hrun, ?_, ?_, .inl ?_⟩
      · refine ⟨some ⟨b, off, none⟩, cap, by simp, h1, by simp; omega, (by intro e; cases e), fun _ => ⟨b, off, _, rfl, hz.set_ (off + l.length * 1) (.int .i64 (z : Int)), by simp; omega, fun k y hk => ?_⟩⟩
        by_cases e : k = l.length
        · subst e
          have : y = z := by simpa using hk.symm
          subst this
          rw [Nat.mul_one, Array.getElem?_setIfInBounds_self_of_lt (by omega)]
        · have hlt : k < l.length := by have := (List.getElem?_eq_some_iff.1 hk).1; simp at this; omega
          rw [List.getElem?_append_left hlt] at hk
          rw [Array.getElem?_setIfInBounds_ne (by omega)]
          exact hel k y hk
      · rw [bk_some hcap]
        exact ⟨rfl, rfl, rfl, by simp [World.setCells, World.setCell], fun k hk hne => Below.heap_setCell w ⟨b, off + l.length * 1, none⟩ _ k (by rintro rfl; exact hne rfl)⟩
      · rw [bk_some hcap, bk_some hcap]
    · obtain ⟨v', w', hrun, r1, r2⟩ := run_append_arg_grows (P := Try.prog) w 22 ty 3 i0 _ 1 8 Try.underlying22 hi0 hz0 hz1 hz2 rfl (by omega) ⟨b, off, none⟩ l.length cap (l.map fun s : Nat => Value.int .i64 (s : Int)) (by simp) (fun j u hj => by rw [Addr.add_lit]; exact holds j u hj) ad 1 c [.int .i64 (z : Int)] rfl hnews (by omega) (by simp only [maxLen]; omega) (by omega)
      exact fresh v' w' hrun r1 r2

theorem wp_append_li {w : World} {o : Oper} {a : Act} {K : Act → World → Prop} {Q : Exit → Act → World → Prop} (s x : Operand)
    (ho : o.op = .call { callee := .builtin .append, args := #[s, x], argTypes := #[22, 22] })
    {v : Value} {l : List Nat} (hs : a.eval s = v) (h : LI w v l) (ad : Addr) (c z : Nat) (hx : a.eval x = .slice (some ad) 1 c) (hc : w.cell? (ad.add 0) = some (.int .i64 (z : Int))) (hl : l.length ≤ 100000)
    (hK : ∀ v' w', LI w' v' (l ++ [z]) → w.grownBy w' (bk v) → (bk v' = bk v ∨ ∃ k, bk v' = some k ∧ w.heap.size ≤ k) → K (a.put o.dst v') w') : o.wp Try.prog a w K Q := by
  obtain ⟨v', w', hr, h2, h3, h4⟩ := run_append_li w h ad c z hc hl o.type
  unfold Oper.wp execOp
  simp only [ho, resolve, invoke, builtin, Sem.run_bind, Sem.run_pure, Result.andThen_ok, List.map_toArray, List.map_cons, List.map_nil, hs, hx, hr]
  exact hK v' w' h2 h3 h4

theorem step_append_li {w : World} {ops : Array Oper} {o : Oper} {a : Act} {K : Act → World → Prop} {Q : Exit → Act → World → Prop} {E : Prop} (hgd : o.guard = none) (s x : Operand)
    (ho : o.op = .call { callee := .builtin .append, args := #[s, x], argTypes := #[22, 22] })
    {v : Value} {l : List Nat} (hs : a.eval s = v) (h : LI w v l) (ad : Addr) (c z : Nat) (hx : a.eval x = .slice (some ad) 1 c) (hc : w.cell? (ad.add 0) = some (.int .i64 (z : Int))) (hl : l.length ≤ 100000)
    (hK : ∀ v' w', LI w' v' (l ++ [z]) → w.grownBy w' (bk v) → (bk v' = bk v ∨ ∃ k, bk v' = some k ∧ w.heap.size ≤ k) → K (a.put o.dst v') w') :
    if Region.wanted o (yielded ops a.tmps) = true then Oper.wp Try.prog o a w K Q else E := by
  have hw : Region.wanted o (yielded ops a.tmps) = true := by simp [Region.wanted, hgd]
  rw [if_pos hw]
  exact wp_append_li s x ho hs h ad c z hx hc hl hK
end Go.Proofs.Ytgjlilcljefbfaa
