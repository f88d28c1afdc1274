/- PtrSeen: its closure, whatever call comes; the days of pens, and what a look tells, plainly. -/
import Derived.Test.YtipjbgkfhkidkaaPtrM
namespace Go.Proofs.Ytipjbgkfhkidkaa
open Go.RowKit

set_option maxRecDepth 100000

theorem do_any {w0 w : World} {p g m mb lb tb sb wb : Nat} {x : Sx} {o : Op4} (h : SM w0 p g m (LM p mb lb) tb sb wb x x w) (ho : o.fit) (hg : ∀ q, q < 2 → x.g q ≤ 10000) (hm : m ≤ 10000) :
    Calls Try.prog 34 #[.agg #[.int .i64 o.k, .int .i64 o.p, .int .i64 o.i, .int .i64 o.x], .pointer (some ⟨tb, 0, none⟩), .pointer (some ⟨sb, 0, none⟩), .pointer (some ⟨mb, 0, none⟩), .pointer (some ⟨wb, 0, none⟩), .pointer (some ⟨lb, 0, none⟩)] w (Done4 w0 p g m (LM p mb lb) tb sb wb (doS x o) w) := by
  obtain ⟨k, pe, i, X⟩ := o
  obtain ⟨hk, hp, hi, hX⟩ := ho
  simp only at hk hp hi hX ⊢
  unfold doS
  simp only
  by_cases k1 : k = 1
  · subst k1
    rw [if_pos rfl]
    cases hs : x.s (lowB pe)
    · by_cases h0 : 0 ≤ X
      · by_cases h1 : X ≤ 65535
        · rw [if_pos ⟨rfl, h0, h1⟩]
          exact do_w h hX hs h0 h1 hm
        · rw [if_neg (fun e => h1 e.2.2)]
          exact do_n3 h hX hs h0 (by omega)
      · rw [if_neg (fun e => h0 e.2.1)]
        exact do_n2 h hX hs (by omega)
    · rw [if_neg (fun e => by cases e.1)]
      exact do_n1 h hX hs
  · rw [if_neg k1]
    by_cases k2 : k = 2
    · subst k2
      rw [if_pos rfl]
      exact do_c h hX hm
    · rw [if_neg k2]
      by_cases k3 : k = 3
      · subst k3
        cases hs : x.s (lowB pe)
        · rw [if_neg (fun e => by cases e.2)]
          exact do_n4 h hX hs
        · rw [if_pos ⟨rfl, rfl⟩]
          exact do_e h hX hs (hg _ (lowB_lt _)) hm
      · rw [if_neg (fun e => k3 e.1)]
        exact do_n5 h hX (by simpa using k1) (by simpa using k2) (by simpa using k3)

/-- So many calls, one behind the other. -/
def runS (x : Sx) (q : Nat → Op4) : Nat → Sx
  | 0 => x
  | k + 1 => doS (runS x q k) (q k)
/-- Those that don't write into the cell. -/
def skipB (i : Nat) (o : Op4) : Bool := decide (o.k = 1 ∧ 2 * lowB o.p + lowB o.i = i)
def runT (x : Sx) (i : Nat) (q : Nat → Op4) : Nat → Sx
  | 0 => x
  | k + 1 => if skipB i (q k) then runT x i q k else doS (runT x i q k) (q k)
/-- What the cell meant. -/
def couldT (x : Sx) (i : Nat) (q : Nat → Op4) : Nat → List Int
  | 0 => [x.mean i]
  | k + 1 => if skipB i (q k) then couldT x i q k else couldT x i q k ++ [(doS (runT x i q k) (q k)).mean i]

theorem doS_g (x : Sx) (o : Op4) (r : Nat) : (doS x o).g r ≤ x.g r + 1 := by
  unfold doS
  split
  · split <;> simp [Sx.write]
  · split
    · simp [Sx.commit]
    · split
      · simp only [Sx.end_, Sx.clean]
        split
        · rename_i h; subst h; omega
        · omega
      · omega
theorem runS_g (x : Sx) (q : Nat → Op4) (k r : Nat) : (runS x q k).g r ≤ x.g r + k := by
  induction k with
  | zero => exact Nat.le_refl _
  | succ k ih => have := doS_g (runS x q k) (q k) r; simp only [runS]; omega
theorem runT_g (x : Sx) (i : Nat) (q : Nat → Op4) (k r : Nat) : (runT x i q k).g r ≤ x.g r + k := by
  induction k with
  | zero => exact Nat.le_refl _
  | succ k ih =>
    simp only [runT]
    split
    · omega
    · have := doS_g (runT x i q k) (q k) r; omega

/-- What a look tells behind its second step, by what it loaded. -/
def lookV (o0 n0 : Int) (g0 : Nat) (q : Nat) (x : Sx) : Int := if g0 < x.g q ∨ (g0 = x.g q ∧ x.s q = true) then n0 else o0

/-- While others go on: either all is as it was, or the new number could be meant. -/
def LkI (o0 n0 : Int) (g0 i : Nat) (x : Sx) (l : List Int) : Prop :=
  (x.wr i = true ∧ x.o i = o0 ∧ x.n i = n0 ∧ x.g (i / 2) = g0 ∧ x.s (i / 2) = false ∧ o0 ∈ l) ∨ (n0 ∈ l ∧ (g0 < x.g (i / 2) ∨ (g0 = x.g (i / 2) ∧ x.s (i / 2) = true)))
theorem LkI.end_ {o0 n0 : Int} {g0 i : Nat} {x : Sx} {l : List Int} (h : LkI o0 n0 g0 i x l) : lookV o0 n0 g0 (i / 2) x ∈ l := by
  unfold lookV
  rcases h with ⟨_, _, _, h4, h5, h6⟩ | ⟨h1, h2⟩
  · rw [if_neg (by rintro (e | e); omega; rw [h5] at e; cases e.2)]; exact h6
  · rw [if_pos h2]; exact h1
theorem LkI.start {i : Nat} {x : Sx} (hw : x.wr i = true) : LkI (x.o i) (x.n i) (x.g (i / 2)) i x [x.mean i] := by
  unfold LkI Sx.mean
  rw [hw]
  cases x.s (i / 2)
  · left; simp
  · right; simp
theorem LkI.grow {o0 n0 : Int} {g0 i : Nat} {x : Sx} {l : List Int} (h : LkI o0 n0 g0 i x l) (v : Int) : LkI o0 n0 g0 i x (l ++ [v]) := by
  rcases h with ⟨h1, h2, h3, h4, h5, h6⟩ | ⟨h1, h2⟩
  · exact .inl ⟨h1, h2, h3, h4, h5, List.mem_append.2 (.inl h6)⟩
  · exact .inr ⟨List.mem_append.2 (.inl h1), h2⟩
theorem LkI.step {o0 n0 : Int} {g0 i : Nat} {x : Sx} {l : List Int} {o : Op4} (h : LkI o0 n0 g0 i x l) (hs : skipB i o = false) (hi : i < 4) : LkI o0 n0 g0 i (doS x o) (l ++ [(doS x o).mean i]) := by
  have hi2 : i / 2 < 2 := by omega
  have hq := lowB_lt o.p
  unfold doS
  by_cases k1 : o.k = 1
  · simp only [if_pos k1]
    split
    · have hne : 2 * lowB o.p + lowB o.i ≠ i := by
        intro e
        unfold skipB at hs
        exact (of_decide_eq_false hs) ⟨k1, e⟩
      have hne' : ¬ i = 2 * lowB o.p + lowB o.i := fun e => hne e.symm
      refine LkI.grow ?_ _
      rcases h with ⟨h1, h2, h3, h4, h5, h6⟩ | ⟨h1, h2⟩
      · exact .inl ⟨by simp [Sx.write, hne', h1], by simp [Sx.write, hne', h2], by simp [Sx.write, hne', h3], h4, h5, h6⟩
      · exact .inr ⟨h1, h2⟩
    · exact h.grow _
  · simp only [if_neg k1]
    by_cases k2 : o.k = 2
    · simp only [if_pos k2]
      by_cases e : lowB o.p = i / 2
      · rw [e]
        right
        rcases h with ⟨h1, h2, h3, h4, h5, h6⟩ | ⟨h1, h2⟩
        · refine ⟨List.mem_append.2 (.inr ?_), .inr ⟨h4.symm, by simp [Sx.commit]⟩⟩
          simp [Sx.mean, Sx.commit, h3]
        · refine ⟨List.mem_append.2 (.inl h1), ?_⟩
          rcases h2 with h2 | h2
          · exact .inl h2
          · exact .inr ⟨h2.1, by simp [Sx.commit]⟩
      · have e' : ¬ i / 2 = lowB o.p := fun h => e h.symm
        refine LkI.grow ?_ _
        rcases h with ⟨h1, h2, h3, h4, h5, h6⟩ | ⟨h1, h2⟩
        · exact .inl ⟨h1, h2, h3, h4, by simp [Sx.commit, e', h5], h6⟩
        · exact .inr ⟨h1, by simpa [Sx.commit, e'] using h2⟩
    · simp only [if_neg k2]
      split
      · rename_i h3'
        refine LkI.grow ?_ _
        by_cases e : lowB o.p = i / 2
        · rcases h with ⟨h1, h2, h3, h4, h5, h6⟩ | ⟨h1, h2⟩
          · rw [e, h5] at h3'; cases h3'.2
          · refine .inr ⟨h1, .inl ?_⟩
            rw [e]
            simp only [Sx.end_, Sx.clean, if_true]
            omega
        · have e' : ¬ i / 2 = lowB o.p := fun h => e h.symm
          have hc1 : ¬ i = 2 * lowB o.p := by omega
          have hc2 : ¬ i = 2 * lowB o.p + 1 := by omega
          rcases h with ⟨h1, h2, h3, h4, h5, h6⟩ | ⟨h1, h2⟩
          · exact .inl ⟨by simp [Sx.end_, Sx.clean, hc1, hc2, h1], h2, h3, by simp [Sx.end_, Sx.clean, e', h4], by simp [Sx.end_, Sx.clean, e', h5], h6⟩
          · exact .inr ⟨h1, by simpa [Sx.end_, Sx.clean, e'] using h2⟩
      · exact h.grow _
theorem LkI.run {x : Sx} {i : Nat} (hi : i < 4) (hw : x.wr i = true) (q : Nat → Op4) (k : Nat) : LkI (x.o i) (x.n i) (x.g (i / 2)) i (runT x i q k) (couldT x i q k) := by
  induction k with
  | zero => exact LkI.start hw
  | succ k ih =>
    simp only [runT, couldT]
    cases hs : skipB i (q k)
    · simp only [Bool.false_eq_true, if_false]; exact ih.step hs hi
    · simp only [if_true]; exact ih
end Go.Proofs.Ytipjbgkfhkidkaa
