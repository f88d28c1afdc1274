/- Workers' steps as functions: all stays right, nobody begins anew but for another one's sake, and who is alone ends. -/
import Derived.Test.YtgjlilcljefbfaaSlotA
namespace Go.Proofs.Ytgjlilcljefbfaa

/-- The memory, all workers, and how many swaps told true, and false. -/
structure Sm where
  x : Sl
  sw : Nat
  ms : Nat

/-- A worker's next access. -/
def access (y : Sm) (i : Nat) : Sm :=
  match y.x.ws i with
  | ⟨.idle, _⟩ => y
  | ⟨.take0, hs⟩ => if y.x.hd.2 = 0 then ⟨{ y.x with ws := put y.x.ws i ⟨.idle, hs⟩ }, y.sw, y.ms⟩ else ⟨{ y.x with ws := put y.x.ws i ⟨.take1 y.x.hd, hs⟩ }, y.sw, y.ms⟩
  | ⟨.take1 g, hs⟩ => ⟨{ y.x with ws := put y.x.ws i ⟨.take2 g (y.x.nx (g.2 - 1)), hs⟩ }, y.sw, y.ms⟩
  | ⟨.take2 g m, hs⟩ => if y.x.hd = g then ⟨⟨(g.1 + 1, m), y.x.nx, put y.x.ws i ⟨.idle, hs ++ [g.2 - 1]⟩⟩, y.sw + 1, y.ms⟩ else ⟨{ y.x with ws := put y.x.ws i ⟨.take0, hs⟩ }, y.sw, y.ms + 1⟩
  | ⟨.give0 s, hs⟩ => ⟨{ y.x with ws := put y.x.ws i ⟨.give1 s y.x.hd, hs⟩ }, y.sw, y.ms⟩
  | ⟨.give1 s g, hs⟩ => ⟨⟨y.x.hd, put y.x.nx s g.2, put y.x.ws i ⟨.give2 s g, hs⟩⟩, y.sw, y.ms⟩
  | ⟨.give2 s g, hs⟩ => if y.x.hd = g then ⟨⟨(g.1 + 1, s + 1), y.x.nx, put y.x.ws i ⟨.idle, hs⟩⟩, y.sw + 1, y.ms⟩ else ⟨{ y.x with ws := put y.x.ws i ⟨.give0 s, hs⟩ }, y.sw, y.ms + 1⟩

/-- A worker that is idle begins. -/
def beginW (gives : Bool) (r : Wr) : Wr :=
  match r with
  | ⟨.idle, s :: hs⟩ => if gives then ⟨.give0 s, hs⟩ else ⟨.take0, s :: hs⟩
  | ⟨.idle, []⟩ => ⟨.take0, []⟩
  | r => r
def begin1 (y : Sm) (i : Nat) (gives : Bool) : Sm := ⟨{ y.x with ws := put y.x.ws i (beginW gives (y.x.ws i)) }, y.sw, y.ms⟩

theorem put_self {α : Type} (f : Nat → α) (k : Nat) : put f k (f k) = f := by
  funext j
  by_cases h : j = k
  · subst h; simp [put]
  · simp [put, h]

section
variable {S n i : Nat} {y : Sm} {L : List Nat}
theorem access_ok (h : SlOk S n y.x L) (hi : i < n) : ∃ L', SlOk S n (access y i).x L' := by
  unfold access
  split
  · exact ⟨L, h⟩
  · rename_i hs hw
    split
    · exact ⟨L, h.take_none hi hw⟩
    · rename_i h0; exact ⟨L, h.take_head hi hw h0⟩
  · rename_i g hs hw; exact ⟨L, h.take_next hi hw⟩
  · rename_i g m hs hw
    split
    · rename_i e
      subst e
      obtain ⟨L', _, h'⟩ := h.take_hit hi hw
      exact ⟨L', h'⟩
    · exact ⟨L, h.take_miss hi hw⟩
  · rename_i s hs hw; exact ⟨L, h.give_head hi hw⟩
  · rename_i s g hs hw; exact ⟨L, h.give_next hi hw⟩
  · rename_i s g hs hw
    split
    · rename_i e
      subst e
      exact ⟨_, h.give_hit hi hw⟩
    · exact ⟨L, h.give_miss hi hw⟩

theorem begin_ok (h : SlOk S n y.x L) (hi : i < n) (gives : Bool) : SlOk S n (begin1 y i gives).x L := by
  unfold begin1
  rcases hw : y.x.ws i with ⟨k, hs⟩
  cases k with
  | idle =>
    cases hs with
    | nil => exact h.begin_take hi hw
    | cons s hs =>
      cases gives
      · exact h.begin_take hi hw
      · exact h.begin_give hi hw
  | _ =>
    simp only [beginW]
    rw [← hw, put_self]
    exact h
end

/-- Does one go by a head that isn't there any more? -/
def Wk.stale (hd : Nat × Nat) (k : Wk) : Nat := match k.by? with
  | some g => if g = hd then 0 else 1
  | none => 0
def stales (hd : Nat × Nat) (ws : Nat → Wr) : Nat → Nat
  | 0 => 0
  | n + 1 => stales hd ws n + (ws n).k.stale hd

theorem stale_le (hd : Nat × Nat) (k : Wk) : k.stale hd ≤ 1 := by
  unfold Wk.stale
  split
  · split <;> omega
  · omega
theorem stales_put_ge (hd : Nat × Nat) (ws : Nat → Wr) (i : Nat) (r : Wr) : ∀ n, n ≤ i → stales hd (put ws i r) n = stales hd ws n
  | 0, _ => rfl
  | n + 1, h => by rw [stales, stales, stales_put_ge hd ws i r n (by omega), put_other _ _ (by omega)]
theorem stales_put (hd : Nat × Nat) (ws : Nat → Wr) (i : Nat) (r : Wr) : ∀ n, i < n → stales hd (put ws i r) n + (ws i).k.stale hd = stales hd ws n + r.k.stale hd
  | 0, h => by omega
  | n + 1, h => by
    by_cases e : i = n
    · subst e
      rw [stales, stales, stales_put_ge hd ws i r i (Nat.le_refl _), put_same]
      omega
    · have := stales_put hd ws i r n (by omega)
      rw [stales, stales, put_other _ _ (fun h => e h.symm)]
      omega
theorem stales_le (hd : Nat × Nat) (ws : Nat → Wr) : ∀ n, stales hd ws n ≤ n
  | 0 => Nat.le_refl _
  | n + 1 => by have := stales_le hd ws n; have := stale_le hd (ws n).k; rw [stales]; omega
theorem stales_lt (hd : Nat × Nat) (ws : Nat → Wr) {i : Nat} (h0 : (ws i).k.stale hd = 0) : ∀ {n}, i < n → stales hd ws n ≤ n - 1
  | 0, h => by omega
  | n + 1, h => by
    rw [stales]
    by_cases e : i = n
    · subst e; rw [h0]; have := stales_le hd ws i; omega
    · have := stales_lt hd ws h0 (n := n) (by omega); have := stale_le hd (ws n).k; omega

/-- No more misses than hits, times the other workers. -/
def MissOk (n : Nat) (y : Sm) : Prop := y.ms + stales y.x.hd y.x.ws n ≤ y.sw * (n - 1)

section
variable {n i : Nat} {y : Sm}
theorem MissOk.keep (h : MissOk n y) (hi : i < n) {r : Wr} {nx : Nat → Nat} (hr : r.k.stale y.x.hd ≤ (y.x.ws i).k.stale y.x.hd) : MissOk n ⟨⟨y.x.hd, nx, put y.x.ws i r⟩, y.sw, y.ms⟩ := by
  have := stales_put y.x.hd y.x.ws i r n hi
  unfold MissOk at h ⊢
  simp only
  omega
theorem MissOk.miss (h : MissOk n y) (hi : i < n) {r : Wr} (hr : r.k.stale y.x.hd = 0) (h1 : (y.x.ws i).k.stale y.x.hd = 1) : MissOk n ⟨{ y.x with ws := put y.x.ws i r }, y.sw, y.ms + 1⟩ := by
  have := stales_put y.x.hd y.x.ws i r n hi
  unfold MissOk at h ⊢
  simp only
  omega
theorem MissOk.hit (h : MissOk n y) (hi : i < n) {r : Wr} {hd : Nat × Nat} {nx : Nat → Nat} (hr : r.k.by? = none) : MissOk n ⟨⟨hd, nx, put y.x.ws i r⟩, y.sw + 1, y.ms⟩ := by
  have := stales_lt hd (put y.x.ws i r) (i := i) (by rw [put_same]; simp [Wk.stale, hr]) hi
  unfold MissOk at h ⊢
  simp only
  rw [Nat.add_mul]
  omega

theorem access_miss (h : MissOk n y) (hi : i < n) : MissOk n (access y i) := by
  unfold access
  split
  · exact h
  · rename_i hs hw
    split
    · exact h.keep hi (by simp [Wk.stale, Wk.by?])
    · exact h.keep hi (by simp [Wk.stale, Wk.by?])
  · rename_i g hs hw; exact h.keep hi (by rw [hw]; exact Nat.le_refl _)
  · rename_i g m hs hw
    split
    · exact h.hit hi rfl
    · rename_i e
      exact h.miss hi rfl (by rw [hw]; simp only [Wk.stale, Wk.by?]; rw [if_neg (fun h => e h.symm)])
  · rename_i s hs hw; exact h.keep hi (by simp [Wk.stale, Wk.by?])
  · rename_i s g hs hw; exact h.keep hi (by rw [hw]; exact Nat.le_refl _)
  · rename_i s g hs hw
    split
    · exact h.hit hi rfl
    · rename_i e
      exact h.miss hi rfl (by rw [hw]; simp only [Wk.stale, Wk.by?]; rw [if_neg (fun h => e h.symm)])
theorem begin_miss (h : MissOk n y) (hi : i < n) (gives : Bool) : MissOk n (begin1 y i gives) := by
  refine h.keep hi ?_
  rcases hw : y.x.ws i with ⟨k, hs⟩
  cases k with
  | idle =>
    cases hs with
    | nil => exact Nat.le_refl _
    | cons s hs => cases gives <;> exact Nat.le_refl _
  | _ => exact Nat.le_refl _
end

/-- How many accesses of its own one has, alone, till it ends: no more than that. -/
def Wk.left (hd : Nat × Nat) : Wk → Nat
  | .idle => 0
  | .take0 => 3
  | .take1 g => if hd = g then 2 else 5
  | .take2 g _ => if hd = g then 1 else 4
  | .give0 _ => 3
  | .give1 _ g => if hd = g then 2 else 5
  | .give2 _ g => if hd = g then 1 else 4

theorem left_le (hd : Nat × Nat) (k : Wk) : k.left hd ≤ 5 := by
  cases k <;> simp only [Wk.left] <;> (try split) <;> omega

theorem access_left (y : Sm) (i : Nat) (h : (y.x.ws i).k ≠ .idle) : ((access y i).x.ws i).k.left (access y i).x.hd < (y.x.ws i).k.left y.x.hd := by
  unfold access
  split
  · rename_i hs hw; rw [hw] at h; exact absurd rfl h
  · rename_i hs hw
    rw [hw]
    split
    · show (put y.x.ws i _ i).k.left _ < _
      rw [put_same]; simp [Wk.left]
    · show (put y.x.ws i _ i).k.left _ < _
      rw [put_same]; simp [Wk.left]
  · rename_i g hs hw
    rw [hw]
    show (put y.x.ws i _ i).k.left _ < _
    rw [put_same]; simp only [Wk.left]; split <;> omega
  · rename_i g m hs hw
    rw [hw]
    split
    · rename_i e
      show (put y.x.ws i _ i).k.left _ < _
      rw [put_same]; simp [Wk.left, e]
    · rename_i e
      show (put y.x.ws i _ i).k.left _ < _
      rw [put_same]; simp [Wk.left, e]
  · rename_i s hs hw
    rw [hw]
    show (put y.x.ws i _ i).k.left _ < _
    rw [put_same]; simp [Wk.left]
  · rename_i s g hs hw
    rw [hw]
    show (put y.x.ws i _ i).k.left _ < _
    rw [put_same]; simp only [Wk.left]; split <;> omega
  · rename_i s g hs hw
    rw [hw]
    split
    · rename_i e
      show (put y.x.ws i _ i).k.left _ < _
      rw [put_same]; simp [Wk.left, e]
    · rename_i e
      show (put y.x.ws i _ i).k.left _ < _
      rw [put_same]; simp [Wk.left, e]
/-- At first: all slots are free, rising; nobody is in the midst of anything. -/
def first (S : Nat) : Sl := ⟨(0, if S = 0 then 0 else 1), fun s => if s + 1 < S then s + 2 else 0, fun _ => ⟨.idle, []⟩⟩

theorem chain_range (S : Nat) : ∀ m k, k + m = S → Chain (fun s => if s + 1 < S then s + 2 else 0) (if m = 0 then 0 else k + 1) (List.range' k m)
  | 0, _, _ => rfl
  | m + 1, k, h => by
    refine ⟨by rw [if_neg (Nat.succ_ne_zero m)], ?_⟩
    have := chain_range S m (k + 1) (by omega)
    have e : (if k + 1 < S then k + 2 else 0) = (if m = 0 then 0 else k + 1 + 1) := by
      by_cases hm : m = 0
      · rw [if_pos hm, if_neg (by omega)]
      · rw [if_neg hm, if_pos (by omega)]
    simp only [e]
    exact this

theorem first_ok (S n : Nat) : SlOk S n (first S) (List.range S) := by
  have hh : ∀ s m, heldBy (first S).ws s m = 0 := by
    intro s m
    induction m with
    | zero => rfl
    | succ m ih => rw [heldBy, ih]; rfl
  refine ⟨?_, fun s hs => ?_, fun s hs => ?_, fun i _ => trivial⟩
  · rw [List.range_eq_range']
    exact chain_range S S 0 (by omega)
  · rw [hh, List.Nodup.count List.nodup_range, if_pos (List.mem_range.2 hs)]
  · rw [hh, List.count_eq_zero.2 (fun h => by have := List.mem_range.1 h; omega)]
theorem first_miss (S n : Nat) : MissOk n ⟨first S, 0, 0⟩ := by
  have : ∀ m, stales (first S).hd (first S).ws m = 0 := by
    intro m
    induction m with
    | zero => rfl
    | succ m ih => rw [stales, ih]; rfl
  unfold MissOk
  simp only [this]
  omega
end Go.Proofs.Ytgjlilcljefbfaa
