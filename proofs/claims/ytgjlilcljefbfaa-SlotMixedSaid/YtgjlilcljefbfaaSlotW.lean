/- A whole play in memory; its step, told plainly. -/
import Derived.Test.YtgjlilcljefbfaaSlotU
import Derived.Test.YtgjlilcljefbfaaSlotV
namespace Go.Proofs.Ytgjlilcljefbfaa
open Go.RowKit

set_option maxRecDepth 100000

theorem put_put {α : Type} (f : Nat → α) (i : Nat) (u v : α) : put (put f i u) i v = put f i v := by
  funext j
  by_cases h : j = i
  · subst h; rw [put_same, put_same]
  · rw [put_other _ _ h, put_other _ _ h, put_other _ _ h]

theorem nodup_len : ∀ {S : Nat} {l : List Nat}, l.Nodup → (∀ x ∈ l, x < S) → l.length ≤ S
  | 0, [], _, _ => Nat.le_refl _
  | 0, x :: l, _, h => absurd (h x (List.mem_cons_self ..)) (Nat.not_lt_zero _)
  | S + 1, l, hn, h => by
    have h1 : (wo l S).length ≤ S := nodup_len (hn.filter _) fun x hx => by
      have h2 := h x (wo_mem hx)
      have h3 : x ≠ S := by
        have := (List.mem_filter.1 hx).2
        simpa using this
      omega
    have h2 := wo_length l S
    have h3 := List.nodup_iff_count.1 hn S
    omega

/-- A step of a play, plainly. -/
theorem access_step (y : Sm) (i : Nat) (gives : Bool) (hg : ∀ g m, (y.x.ws i).k = .take2 g m → g.2 ≠ 0) :
    access (begin1 y i gives) i = ⟨⟨(stepW y.x.hd y.x.nx (beginW gives (y.x.ws i)).k (beginW gives (y.x.ws i)).has).hd, (stepW y.x.hd y.x.nx (beginW gives (y.x.ws i)).k (beginW gives (y.x.ws i)).has).nx, put y.x.ws i ⟨(stepW y.x.hd y.x.nx (beginW gives (y.x.ws i)).k (beginW gives (y.x.ws i)).has).k, (stepW y.x.hd y.x.nx (beginW gives (y.x.ws i)).k (beginW gives (y.x.ws i)).has).hs⟩⟩,
      y.sw + (if (stepW y.x.hd y.x.nx (beginW gives (y.x.ws i)).k (beginW gives (y.x.ws i)).has).j = 2 then 1 else 0), y.ms + (if (stepW y.x.hd y.x.nx (beginW gives (y.x.ws i)).k (beginW gives (y.x.ws i)).has).j = 3 then 1 else 0)⟩ := by
  obtain ⟨⟨hd, nx, ws⟩, sw, ms⟩ := y
  simp only at hg ⊢
  have hws : (begin1 ⟨⟨hd, nx, ws⟩, sw, ms⟩ i gives).x.ws i = beginW gives (ws i) := put_same _ _ _
  have hne : ∀ g m, (beginW gives (ws i)).k = .take2 g m → g.2 ≠ 0 := by
    intro g m e
    refine hg g m ?_
    rcases hw : ws i with ⟨k, hs⟩
    rw [hw] at e
    cases k with
    | idle => cases hs <;> cases gives <;> simp [beginW] at e
    | _ => exact e
  have hid : (beginW gives (ws i)).k ≠ .idle := by
    rcases hw : ws i with ⟨k, hs⟩
    cases k with
    | idle => cases hs <;> cases gives <;> simp [beginW]
    | _ => simp [beginW]
  rcases hr : beginW gives (ws i) with ⟨k, hs⟩
  rw [hr] at hws hne hid
  unfold access
  rw [hws]
  cases k with
  | idle => exact absurd rfl hid
  | take0 =>
    simp only [begin1, stepW, Wk.isTake, if_true, tkN]
    by_cases h0 : hd.2 = 0
    · simp [h0, Wk.isIdle, put_put]
    · simp [h0, Wk.isIdle, put_put]
  | take1 g => simp [begin1, stepW, Wk.isTake, tkN, Wk.isIdle, put_put]
  | take2 g m =>
    have h2 := hne g m rfl
    simp only [begin1, stepW, Wk.isTake, if_true, tkN]
    by_cases h0 : hd = g
    · simp [h0, h2, Wk.isIdle, put_put]
    · simp [h0, Wk.isIdle, put_put]
  | give0 s => simp [begin1, stepW, Wk.isTake, gvN, put_put]
  | give1 s g => simp [begin1, stepW, Wk.isTake, gvN, put_put]
  | give2 s g =>
    simp only [begin1, stepW, Wk.isTake, gvN]
    by_cases h0 : hd = g
    · simp [h0, put_put]
    · simp [h0, put_put]

theorem upd_sw (c : Nat → Int) (j : Nat) (a : Nat) (h : c 2 = a) : upd c j (c j + 1) 2 = ((a + (if j = 2 then 1 else 0) : Nat) : Int) := by
  by_cases e : j = 2
  · subst e; rw [upd_same, h]; simp
  · rw [upd_other _ _ (fun h => e h.symm), h]; simp [e]
theorem upd_ms (c : Nat → Int) (j : Nat) (a : Nat) (h : c 3 = a) : upd c j (c j + 1) 3 = ((a + (if j = 3 then 1 else 0) : Nat) : Int) := by
  by_cases e : j = 3
  · subst e; rw [upd_same, h]; simp
  · rw [upd_other _ _ (fun h => e h.symm), h]; simp [e]

/-- What a step leaves: of any worker. -/
theorem playStep_any {w : World} {pb p g n cap S M m b q : Nat} {av hv : Value} {c f : Nat → Int} {hd : Nat × Nat} {nx : Nat → Nat} {k : Wk} {hs : List Nat} (gives : Bool)
    (hS : S ≤ 48) (hn : 1 < n) (hn2 : ∀ s, s < S → 1 + 1 + s * 7 < n) (A : SA w p g n cap 1 S M m c f hd nx) (PB : PlB w pb p S av) (W : WkM w b q S hv k hs) (hf : k.fit S M) (hlt : ∀ s ∈ hs, s < S) (hlen : hs.length ≤ 48) (hM : M ≤ 10000) (hm2 : m ≤ 100000) :
    Calls Try.prog 19 #[.pointer (some ⟨pb, 0, none⟩), .pointer (some ⟨b, 0, none⟩), .bool gives] w fun e w' =>
      e = .returned (.bool true) ∧ PlayedW pb p g n cap S M m b q av hv (upd c (stepW hd nx (beginW gives ⟨k, hs⟩).k (beginW gives ⟨k, hs⟩).has).j (c (stepW hd nx (beginW gives ⟨k, hs⟩).k (beginW gives ⟨k, hs⟩).has).j + 1)) k (stepW hd nx (beginW gives ⟨k, hs⟩).k (beginW gives ⟨k, hs⟩).has).k (stepW hd nx (beginW gives ⟨k, hs⟩).k (beginW gives ⟨k, hs⟩).has).hs (stepW hd nx (beginW gives ⟨k, hs⟩).k (beginW gives ⟨k, hs⟩).has).hd (stepW hd nx (beginW gives ⟨k, hs⟩).k (beginW gives ⟨k, hs⟩).has).nx w w' := by
  cases k with
  | take0 => exact playStep_take gives hS hn hn2 A PB W rfl hf hlen hM hm2
  | take1 g => exact playStep_take gives hS hn hn2 A PB W rfl hf hlen hM hm2
  | take2 g m => exact playStep_take gives hS hn hn2 A PB W rfl hf hlen hM hm2
  | give0 s => exact playStep_give gives hS hn hn2 A PB W rfl hf hlen hM hm2
  | give1 s g => exact playStep_give gives hS hn hn2 A PB W rfl hf hlen hM hm2
  | give2 s g => exact playStep_give gives hS hn hn2 A PB W rfl hf hlen hM hm2
  | idle =>
    cases hs with
    | nil =>
      cases gives
      · exact playStep_idle1 hS hn hn2 A PB W hlen hM hm2
      · obtain ⟨a, cp, e, _⟩ := W.has.shape
        subst e
        exact playStep_idle2 hS hn hn2 A PB W hlen hM hm2
    | cons s hs =>
      cases gives
      · exact playStep_idle1 hS hn hn2 A PB W hlen hM hm2
      · obtain ⟨hb, off, cp, e, _⟩ := W.has.open_ (by simp)
        subst e
        exact playStep_idle3 hS hn hn2 A PB W (hlt s (List.mem_cons_self ..)) rfl hlen hM hm2
end Go.Proofs.Ytgjlilcljefbfaa
