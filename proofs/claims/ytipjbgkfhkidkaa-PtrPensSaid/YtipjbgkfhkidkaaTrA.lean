/- Accesses, plainly: what calls make of numbers and of a row, and that such a row is good. -/
import Derived.Test.YtipjbgkfhkidkaaCellD
namespace Go.Proofs.Ytipjbgkfhkidkaa
open Go.RowKit

/-- An access, or a call: a store or a load, its cell, its number. -/
structure AccV where
  s : Bool
  c : Int
  v : Int
deriving DecidableEq

def AccV.cells (x : AccV) : List Value := [.bool x.s, .int .i64 x.c, .int .u64 x.v]
def AccV.fit (x : AccV) : Prop := (-9223372036854775808 ≤ x.c ∧ x.c ≤ 9223372036854775807) ∧ (0 ≤ x.v ∧ x.v ≤ 18446744073709551615)

/-- The cells of a row of accesses. -/
def flatA : List AccV → List Value
  | [] => []
  | x :: xs => x.cells ++ flatA xs

theorem flatA_append (xs ys : List AccV) : flatA (xs ++ ys) = flatA xs ++ flatA ys := by
  induction xs with
  | nil => rfl
  | cons x xs ih => simp [flatA, ih]
theorem flatA_one (x : AccV) : flatA [x] = x.cells := by simp [flatA]
theorem flatA_length (xs : List AccV) : (flatA xs).length = xs.length * 3 := by
  induction xs with
  | nil => rfl
  | cons x xs ih => simp [flatA, AccV.cells, ih]; omega
theorem flatA_get (xs : List AccV) {k : Nat} {x : AccV} (h : xs[k]? = some x) :
    (flatA xs)[k * 3]? = some (.bool x.s) ∧ (flatA xs)[k * 3 + 1]? = some (.int .i64 x.c) ∧ (flatA xs)[k * 3 + 2]? = some (.int .u64 x.v) := by
  induction xs generalizing k with
  | nil => simp at h
  | cons y ys ih =>
    cases k with
    | zero =>
      simp at h
      subst h
      simp [flatA, AccV.cells]
    | succ k =>
      have := ih (k := k) (by simpa using h)
      have e : ∀ j, (k + 1) * 3 + j = k * 3 + j + 1 + 1 + 1 := by intro j; omega
      have e0 := e 0
      simp only [Nat.add_zero] at e0
      simp only [flatA, AccV.cells, List.cons_append, List.nil_append, e0, List.getElem?_cons_succ]
      exact this
theorem flatA_one_cell (xs : List AccV) : ∀ u ∈ flatA xs, u.oneCell' = true := by
  induction xs with
  | nil => simp [flatA]
  | cons x xs ih =>
    intro u hu
    simp [flatA, AccV.cells] at hu
    rcases hu with rfl | rfl | rfl | hu
    · rfl
    · rfl
    · rfl
    · exact ih u hu

/-- What a load tells. -/
def readN (n : Nat) (f : Nat → Int) (i : Int) : Int := if 0 ≤ i ∧ i < n then f i.toNat else 0
/-- What an access makes of the numbers. -/
def stepF (n : Nat) (f : Nat → Int) (o : AccV) : Nat → Int := if o.s = true ∧ 0 ≤ o.c ∧ o.c < n then upd f o.c.toNat o.v else f
/-- What a call adds to the row. -/
def rowOf (n : Nat) (f : Nat → Int) (o : AccV) : List AccV := if 0 ≤ o.c ∧ o.c < n then [if o.s then o else ⟨false, o.c, f o.c.toNat⟩] else []
/-- Was the access as it should? -/
def okA (n : Nat) (f : Nat → Int) (x : AccV) : Bool := x.s || readN n f x.c == x.v
def playL (n : Nat) (f : Nat → Int) (xs : List AccV) : Nat → Int := xs.foldl (stepF n) f
/-- All accesses of a row are as they should. -/
def GoodL (n : Nat) (f : Nat → Int) (xs : List AccV) : Prop := ∀ k x, xs[k]? = some x → okA n (playL n f (xs.take k)) x = true
/-- A trace's numbers and its row, behind a call. -/
def stT (n : Nat) (s : (Nat → Int) × List AccV) (o : AccV) : (Nat → Int) × List AccV := (stepF n s.1 o, s.2 ++ rowOf n s.1 o)
def playT (n : Nat) (f : Nat → Int) (os : List AccV) : (Nat → Int) × List AccV := os.foldl (stT n) (f, [])

theorem playL_snoc (n : Nat) (f : Nat → Int) (xs : List AccV) (x : AccV) : playL n f (xs ++ [x]) = stepF n (playL n f xs) x := by simp [playL]
theorem playL_take (n : Nat) (f : Nat → Int) (xs : List AccV) {k : Nat} {x : AccV} (h : xs[k]? = some x) : playL n f (xs.take (k + 1)) = stepF n (playL n f (xs.take k)) x := by
  rw [List.take_add_one, h]; exact playL_snoc n f _ x
theorem playT_take (n : Nat) (f : Nat → Int) (os : List AccV) {k : Nat} {x : AccV} (h : os[k]? = some x) : playT n f (os.take (k + 1)) = stT n (playT n f (os.take k)) x := by
  rw [List.take_add_one, h]; simp [playT]

theorem GoodL.snoc {n : Nat} {f : Nat → Int} {xs : List AccV} {x : AccV} (h : GoodL n f xs) (hx : okA n (playL n f xs) x = true) : GoodL n f (xs ++ [x]) := by
  intro k y hy
  by_cases hk : k < xs.length
  · rw [List.getElem?_append_left hk] at hy
    rw [List.take_append_of_le_length (by omega)]
    exact h k y hy
  · have hl := (List.getElem?_eq_some_iff.1 hy).1
    simp at hl
    have e : k = xs.length := by omega
    subst e
    simp at hy
    subst hy
    simpa using hx

theorem playT_inv (n : Nat) (f : Nat → Int) (os : List AccV) : GoodL n f (playT n f os).2 ∧ playL n f (playT n f os).2 = (playT n f os).1 ∧ (playT n f os).2.length ≤ os.length ∧ (∀ x ∈ (playT n f os).2, 0 ≤ x.c ∧ x.c < n) := by
  have main : ∀ (os : List AccV) (s : (Nat → Int) × List AccV), GoodL n f s.2 → playL n f s.2 = s.1 → (∀ x ∈ s.2, 0 ≤ x.c ∧ x.c < n) →
      GoodL n f (os.foldl (stT n) s).2 ∧ playL n f (os.foldl (stT n) s).2 = (os.foldl (stT n) s).1 ∧ (os.foldl (stT n) s).2.length ≤ s.2.length + os.length ∧ (∀ x ∈ (os.foldl (stT n) s).2, 0 ≤ x.c ∧ x.c < n) := by
    intro os
    induction os with
    | nil => intro s h1 h2 h3; exact ⟨h1, h2, by simp, h3⟩
    | cons o os ih =>
      intro s h1 h2 h3
      have := ih (stT n s o) ?_ ?_ ?_
      · refine ⟨this.1, this.2.1, ?_, this.2.2.2⟩
        have h4 := this.2.2.1
        have h5 : (stT n s o).2.length ≤ s.2.length + 1 := by
          simp only [stT, rowOf]; split <;> simp
        simp only [List.foldl_cons, List.length_cons]
        omega
      · simp only [stT, rowOf]
        split
        · rename_i hr
          refine h1.snoc ?_
          rw [h2]
          cases hs : o.s
          · simp [okA, readN, hr]
          · simp [okA, hs]
        · simpa using h1
      · simp only [stT, rowOf]
        split
        · rename_i hr
          rw [playL_snoc, h2]
          cases hs : o.s
          · simp [stepF, hs]
          · simp [stepF, hs]
        · rename_i hr
          simp only [List.append_nil, h2, stepF]
          rw [if_neg (fun h => hr h.2)]
      · intro x hx
        simp only [stT, rowOf] at hx
        rcases List.mem_append.1 hx with hx | hx
        · exact h3 x hx
        · split at hx
          · rename_i hr
            cases hs : o.s <;> simp [hs] at hx <;> subst hx <;> exact hr
          · simp at hx
  have := main os (f, []) (by intro k x hx; simp at hx) rfl (by simp)
  simpa [playT] using this

theorem playT_num (n : Nat) (f : Nat → Int) (os : List AccV) : (playT n f os).1 = playL n f os := by
  have main : ∀ (os : List AccV) (s : (Nat → Int) × List AccV), (os.foldl (stT n) s).1 = os.foldl (stepF n) s.1 := by
    intro os
    induction os with
    | nil => intro s; rfl
    | cons o os ih => intro s; exact ih _
  exact main os (f, [])
theorem playT_fit (n : Nat) (f : Nat → Int) (os : List AccV) (h : ∀ o ∈ os, o.fit) : ∀ x ∈ (playT n f os).2, x.s = true → x.fit := by
  have main : ∀ (os : List AccV) (s : (Nat → Int) × List AccV), (∀ o ∈ os, o.fit) → (∀ x ∈ s.2, x.s = true → x.fit) → ∀ x ∈ (os.foldl (stT n) s).2, x.s = true → x.fit := by
    intro os
    induction os with
    | nil => intro s _ h2; exact h2
    | cons o os ih =>
      intro s h1 h2
      refine ih _ (fun o ho => h1 o (List.mem_cons_of_mem _ ho)) ?_
      intro x hx hs
      rcases List.mem_append.1 hx with hx | hx
      · exact h2 x hx hs
      · unfold rowOf at hx
        split at hx
        · cases ho : o.s <;> simp [ho] at hx <;> subst hx
          · cases hs
          · exact h1 _ (List.mem_cons_self ..)
        · simp at hx
  exact main os (f, []) h (by simp)
end Go.Proofs.Ytipjbgkfhkidkaa
