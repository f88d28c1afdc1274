/- Lists of numbers in slices that may be cut ahead: what they hold, and what append makes of them. -/
import Derived.Test.YtgjlilcljefbfaaSlotG
import Derived.ArgAppend
namespace Go.Proofs.Ytgjlilcljefbfaa
open Go.RowKit

set_option maxRecDepth 100000

theorem info_i : (Try.prog.info? 3).map (fun i => (i.zero, i.size, i.bytes)) = some (some (.int .i64 0), 1, 8) := by kernel_rfl

/-- The block of a slice that has room for anything. -/
def bk : Value → Option Nat
  | .slice (some a) _ (_ + 1) => some a.block
  | _ => none
theorem bk_some {b off n cap : Nat} (h : 0 < cap) : bk (.slice (some ⟨b, off, none⟩) n cap) = some b := by
  cases cap with
  | zero => omega
  | succ c => rfl
theorem bk_zero (a : Option Addr) (n : Nat) : bk (.slice a n 0) = none := by cases a <;> rfl

/-- A slice holds these numbers. -/
def LI (w : World) (v : Value) (l : List Nat) : Prop :=
  ∃ a cap, v = .slice a l.length cap ∧ cap ≤ maxLen ∧ l.length ≤ cap ∧ (a = none → cap = 0) ∧
    (0 < cap → ∃ b off zs, a = some ⟨b, off, none⟩ ∧ Blk w b 3 zs ∧ off + cap ≤ zs.size ∧ ∀ (k x : Nat), l[k]? = some x → zs[off + k]? = some (.int .i64 (x : Int)))

section
variable {w w' : World} {v : Value} {l : List Nat}
theorem LI.nil (w : World) : LI w (.slice none 0 0) [] := ⟨none, 0, rfl, by simp [maxLen], Nat.le_refl _, fun _ => rfl, fun h => absurd h (Nat.lt_irrefl _)⟩
theorem LI.keep (h : LI w v l) (hb : ∀ b, bk v = some b → w'.heap[b]? = w.heap[b]?) : LI w' v l := by
  obtain ⟨a, cap, rfl, h1, h2, h3, h4⟩ := h
  refine ⟨a, cap, rfl, h1, h2, h3, fun hc => ?_⟩
  obtain ⟨b, off, zs, rfl, hz, rest⟩ := h4 hc
  exact ⟨b, off, zs, rfl, (hb b (bk_some hc)).trans hz, rest⟩
theorem LI.lt (h : LI w v l) : ∀ b, bk v = some b → b < w.heap.size := by
  intro b hb
  obtain ⟨a, cap, rfl, h1, h2, h3, h4⟩ := h
  rcases Nat.eq_zero_or_pos cap with rfl | hc
  · rw [bk_zero] at hb; cases hb
  · obtain ⟨b', off, zs, rfl, hz, rest⟩ := h4 hc
    rw [bk_some hc] at hb
    cases hb
    exact hz.lt
theorem LI.alloc (h : LI w v l) (o : Obj) : LI (w.alloc o) v l := h.keep fun b hb => Below.heap_alloc w o b (h.lt b hb)
theorem LI.drew (h : LI w v l) : LI w.drew v l := h
theorem LI.below (h : LI w v l) (hb : Below w.heap.size w w') : LI w' v l := h.keep fun b hb' => hb.block b (h.lt b hb')
theorem LI.only {p g : Nat} (h : LI w v l) (ho : Only p g w w') (h1 : bk v ≠ some p) (h2 : bk v ≠ some g) : LI w' v l :=
  h.keep fun b hb => ho.block b (h.lt b hb) (by rintro rfl; exact h1 hb) (by rintro rfl; exact h2 hb)
/-- It isn't a block of another type. -/
theorem LI.ne_blk (h : LI w v l) {i : Nat} {ty : TypeId} {cs : Array Value} (hi : Blk w i ty cs) (hty : 3 ≠ ty) : bk v ≠ some i := by
  intro e
  obtain ⟨a, cap, rfl, h1, h2, h3, h4⟩ := h
  rcases Nat.eq_zero_or_pos cap with rfl | hc
  · rw [bk_zero] at e; cases e
  · obtain ⟨b', off, zs, rfl, hz, rest⟩ := h4 hc
    rw [bk_some hc] at e
    cases e
    exact hz.ne_ hi hty rfl
theorem LI.onlyA {p g n cap : Nat} {c f : Nat → Int} (h : LI w v l) (A : Ar w p g n cap c f) (ho : Only p g w w') : LI w' v l := by
  obtain ⟨zs, hz, _⟩ := A.cells
  exact h.only ho (h.ne_blk A.own (by decide)) (h.ne_blk hz (by decide))
/-- One that has something has an address. -/
theorem LI.open_ (h : LI w v l) (hl : l ≠ []) : ∃ b off cap, v = .slice (some ⟨b, off, none⟩) l.length cap ∧ cap ≤ maxLen ∧ l.length ≤ cap ∧ 0 < cap ∧ ∀ (k x : Nat), l[k]? = some x → w.cell? ⟨b, off + k, none⟩ = some (.int .i64 (x : Int)) := by
  obtain ⟨a, cap, rfl, h1, h2, h3, h4⟩ := h
  have hp : 0 < l.length := List.length_pos_iff.2 hl
  obtain ⟨b, off, zs, rfl, hz, hs, hx⟩ := h4 (by omega)
  exact ⟨b, off, cap, rfl, h1, h2, by omega, fun k x hk => (hz.cell _).trans (hx k x hk)⟩
theorem LI.shape (h : LI w v l) : ∃ a cap, v = .slice a l.length cap ∧ l.length ≤ cap ∧ cap ≤ maxLen := by
  obtain ⟨a, cap, rfl, h1, h2, _⟩ := h
  exact ⟨a, cap, rfl, h2, h1⟩
/-- The rest, cut ahead. -/
theorem LI.tail {b off n cap x : Nat} (h : LI w (.slice (some ⟨b, off, none⟩) (n + 1) cap) (x :: l)) : LI w (.slice (if cap = 1 then some ⟨b, off, none⟩ else some ⟨b, off + 1, none⟩) n (cap - 1)) l := by
  obtain ⟨a, cap', e, h1, h2, h3, h4⟩ := h
  injection e with e1 e2 e3
  subst e1 e3
  have hn : n = l.length := by simpa using e2
  subst hn
  refine ⟨if cap = 1 then some ⟨b, off, none⟩ else some ⟨b, off + 1, none⟩, cap - 1, rfl, by omega, (by simp at h2; omega), (by intro e; split at e <;> cases e), fun hc => ?_⟩
  obtain ⟨b', off', zs, e, hz, hs, hx⟩ := h4 (by omega)
  cases e
  rw [if_neg (by omega)]
  refine ⟨b, off + 1, zs, rfl, hz, by omega, fun k y hk => ?_⟩
  have := hx (k + 1) y (by simpa using hk)
  rw [show off + 1 + k = off + (k + 1) by omega]
  exact this
theorem LI.of_owns {base : Nat} {v : Value} (h : w.ownsRow base 3 1 v l.length (l.map fun s : Nat => Value.int .i64 (s : Int))) : LI w v l ∧ ∀ b, bk v = some b → base ≤ b := by
  rcases h.2 with ⟨rfl, h0⟩ | ⟨g, cap, cur, rfl, hg, hh, hnc, hcm, hcs, htake⟩
  · have : l = [] := List.eq_nil_of_length_eq_zero h0
    subst this
    exact ⟨LI.nil w, fun b hb => by simp [bk] at hb⟩
  · refine ⟨⟨some ⟨g, 0, none⟩, cap, rfl, hcm, hnc, (by intro e; cases e), fun hc => ⟨g, 0, cur, rfl, hh, by omega, fun k x hk => ?_⟩⟩, fun b hb => ?_⟩
    · have hk' := (List.getElem?_eq_some_iff.1 hk).1
      have h1 : (cur.toList.take (l.length * 1))[k]? = some (.int .i64 (x : Int)) := by rw [htake]; simp [hk]
      rw [List.getElem?_take_of_lt (by omega)] at h1
      simpa using h1
    · rcases Nat.eq_zero_or_pos cap with rfl | hc
      · rw [bk_zero] at hb; cases hb
      · rw [bk_some hc] at hb; cases hb; exact hg
end

/-- append of one number. -/
theorem wpList_append_li (w : World) {ops : Array Oper} {rest : List Oper} {o : Oper} {a : Act} {Q : Exit → Act → World → Prop} (hgd : o.guard = none) (s x : Operand)
    (ho : o.op = .call { callee := .builtin .append, args := #[s, x], argTypes := #[22, 22] })
    {v : Value} {l : List Nat} (hs : a.eval s = v) (h : LI w v l) (ad : Addr) (c z : Nat) (hx : a.eval x = .slice (some ad) 1 c) (hc : w.cell? (ad.add 0) = some (.int .i64 (z : Int))) (hl : l.length ≤ 100000)
    (hK : ∀ v' w', LI w' v' (l ++ [z]) → w.grownBy w' (bk v) → (bk v' = bk v ∨ ∃ k, bk v' = some k ∧ w.heap.size ≤ k) → wpList Try.prog ops Q rest (a.put o.dst v') w') : wpList Try.prog ops Q (o :: rest) a w := by
  obtain ⟨i0, hi0, hz0, hz1, hz2⟩ := info_parts info_i
  have hnews : ∀ (j : Nat) (u : Value), [Value.int .i64 (z : Int)][j]? = some u → w.cell? (ad.add j) = some u := by
    intro j u hj
    match j, hj with
    | 0, hj => simp at hj; subst hj; exact hc
  have hone : ∀ u ∈ [Value.int .i64 (z : Int)], u.oneCell' = true := by simp; rfl
  obtain ⟨ao, cap, rfl, h1, h2, h3, h4⟩ := h
  have fresh : ∀ v' w', w'.ownsRow w.heap.size 3 1 v' (l.length + 1) ((l.map fun s : Nat => Value.int .i64 (s : Int)) ++ [.int .i64 (z : Int)]) → w.grownBy w' none → wpList Try.prog ops Q rest (a.put o.dst v') w' := by
    intro v' w' hown hgrow
    have hown' : w'.ownsRow w.heap.size 3 1 v' (l ++ [z]).length ((l ++ [z]).map fun s : Nat => Value.int .i64 (s : Int)) := by simpa using hown
    obtain ⟨hli, hb⟩ := LI.of_owns hown'
    refine hK v' w' hli ⟨hgrow.os, hgrow.tape, hgrow.output, hgrow.size, fun k hk _ => hgrow.block k hk (by simp)⟩ ?_
    cases e : bk v' with
    | none =>
      exfalso
      obtain ⟨a', cap', rfl, g1, g2, g3, g4⟩ := hli
      obtain ⟨b', off', zs', rfl, _⟩ := g4 (by simp at g2; omega)
      rw [bk_some (by simp at g2; omega)] at e
      cases e
    | some k => exact .inr ⟨k, rfl, hb k e⟩
  rcases Nat.eq_zero_or_pos cap with rfl | hcap
  · have hl0 : l = [] := List.eq_nil_of_length_eq_zero (by omega)
    subst hl0
    exact wpList_append_grows w hgd s x 22 ho 3 i0 _ 1 8 Try.underlying22 hi0 hz0 hz1 hz2 rfl (by omega) ao 0 0 [] hs (fun _ => ⟨rfl, rfl⟩) rfl (fun b _ j u hj => by simp at hj)
      ad 1 c [.int .i64 (z : Int)] hx rfl hnews hone (by omega) (by simp [maxLen]) (by omega) (fun v' w' h1 h2 => fresh v' w' (by simpa using h1) h2)
  · obtain ⟨b, off, zs, rfl, hz, hsz, hel⟩ := h4 hcap
    refine wpList_append_arg w hgd s x 22 ho 3 i0 _ 1 8 Try.underlying22 hi0 hz0 hz1 hz2 rfl (by omega) b off l.length cap (l.map fun s : Nat => Value.int .i64 (s : Int)) hs (by simp) ?_
      ad 1 c [.int .i64 (z : Int)] hx rfl hnews hone ?_ (by simp only [maxLen]; omega) (by omega) ?_ ?_
    · intro j u hj
      obtain ⟨x', hx', rfl⟩ : ∃ x', l[j]? = some x' ∧ u = .int .i64 (x' : Int) := by
        simp only [List.getElem?_map, Option.map_eq_some_iff] at hj
        obtain ⟨y, hy, e⟩ := hj
        exact ⟨y, hy, e.symm⟩
      exact (hz.cell _).trans (hel j x' hx')
    · intro hroom j hj
      have : j = 0 := by simpa using hj
      subst this
      refine ⟨?_, hz.frozen _⟩
      rw [hz.cell, Array.getElem?_eq_getElem (by omega)]
      rfl
    · intro hroom
      refine hK _ _ ?_ ?_ (.inl ?_)
      · refine ⟨some ⟨b, off, none⟩, cap, by simp, h1, by simp; omega, (by intro e; cases e), fun _ => ⟨b, off, _, rfl, hz.set_ (off + l.length * 1) (.int .i64 (z : Int)), by simp; omega, fun k y hk => ?_⟩⟩
        by_cases e : k = l.length
        · subst e
          have : y = z := by simpa using hk.symm
          subst this
          rw [Nat.mul_one, Array.getElem?_setIfInBounds_self_of_lt (by omega)]
        · have hlt : k < l.length := by have := (List.getElem?_eq_some_iff.1 hk).1; simp at this; omega
          rw [List.getElem?_append_left hlt] at hk
          rw [Array.getElem?_setIfInBounds_ne (by omega)]
          exact hel k y hk
      · rw [bk_some hcap]
        exact ⟨rfl, rfl, rfl, by simp [World.setCells, World.setCell], fun k hk hne => Below.heap_setCell w ⟨b, off + l.length * 1, none⟩ _ k (by rintro rfl; exact hne rfl)⟩
      · rw [bk_some hcap, bk_some hcap]
    · exact fun hgrow v' w' h1 h2 => fresh v' w' h1 h2
end Go.Proofs.Ytgjlilcljefbfaa
