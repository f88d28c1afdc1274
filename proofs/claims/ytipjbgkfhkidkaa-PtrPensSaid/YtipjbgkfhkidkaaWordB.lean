/- Contracts of package word: Right, Plain. -/
import Derived.Test.YtipjbgkfhkidkaaWordA
namespace Go.Proofs.Ytipjbgkfhkidkaa
open Go.RowKit

theorem isThread_any (x : Int) (w : World) :
    Calls Try.prog 62 #[.int .i64 x] w fun e w' => e = .returned (.bool (isTh x)) ∧ w = w' := by
  by_cases h0 : 0 ≤ x
  · by_cases h1 : x ≤ 8
    · have hr : isTh x = true := by simp [isTh, h0, h1]
      rw [hr]; clear hr
      go_enter Try.func62, Try.ntmps62
      go_wp2
      go_ret
      exact ⟨rfl, rfl⟩
    · have hr : isTh x = false := by simp [isTh, h1]
      rw [hr]; clear hr
      go_enter Try.func62, Try.ntmps62
      go_wp2
      go_ret
      exact ⟨rfl, rfl⟩
  · have hr : isTh x = false := by simp [isTh, h0]
    rw [hr]; clear hr
    go_enter Try.func62, Try.ntmps62
    go_wp2
    go_ret
    exact ⟨rfl, rfl⟩

theorem isTag_any (x : Int) (w : World) :
    Calls Try.prog 60 #[.int .i64 x] w fun e w' => e = .returned (.bool (isTg x)) ∧ w = w' := by
  by_cases h0 : 0 ≤ x
  · by_cases h1 : x ≤ 16777215
    · have hr : isTg x = true := by simp [isTg, h0, h1]
      rw [hr]; clear hr
      go_enter Try.func60, Try.ntmps60
      go_wp2
      go_ret
      exact ⟨rfl, rfl⟩
    · have hr : isTg x = false := by simp [isTg, h1]
      rw [hr]; clear hr
      go_enter Try.func60, Try.ntmps60
      go_wp2
      go_ret
      exact ⟨rfl, rfl⟩
  · have hr : isTg x = false := by simp [isTg, h0]
    rw [hr]; clear hr
    go_enter Try.func60, Try.ntmps60
    go_wp2
    go_ret
    exact ⟨rfl, rfl⟩

/-- A word as a value. -/
abbrev vW (o n th tg : Int) : Value := .agg #[.int .i64 o, .int .i64 n, .int .i64 th, .int .i64 tg]

/-- Is it right? -/
def rightW (o n th tg : Int) : Bool :=
  if th = 0 then decide (n = o ∧ tg = 0 ∧ 0 ≤ n ∧ n ≤ 65535) else decide (0 ≤ o ∧ o ≤ 65535 ∧ 0 ≤ n ∧ n ≤ 65535 ∧ 0 ≤ th ∧ th ≤ 8 ∧ 0 ≤ tg ∧ tg ≤ 16777215)

set_option maxHeartbeats 400000 in
theorem wright_any (o n th tg : Int) (w : World) :
    Calls Try.prog 54 #[vW o n th tg] w fun e w' => e = .returned (.bool (rightW o n th tg)) ∧ Below w.heap.size w w' := by
  by_cases h0 : th = 0
  · subst h0
    by_cases h1 : n = o
    · subst h1
      by_cases h2 : tg = 0
      · subst h2
        have hr : rightW n n 0 0 = isIx n := by simp [rightW, isIx]
        rw [hr]; clear hr
        go_enter Try.func54, Try.ntmps54
        go_wp2_with (go_at_call 61; refine (isIndex_any _ _).mono ?_; rintro e w' ⟨rfl, rfl⟩)
        go_ret
        exact ⟨rfl, (Below.refl _ _).alloc (Nat.le_refl _) _⟩
      · have hr : rightW n n 0 tg = false := by simp [rightW, h2]
        rw [hr]; clear hr
        have h3 : (tg == 0) = false := by simpa using h2
        go_enter Try.func54, Try.ntmps54
        go_wp2_with (go_at_call 61; refine (isIndex_any _ _).mono ?_; rintro e w' ⟨rfl, rfl⟩)
        go_ret
        exact ⟨rfl, (Below.refl _ _).alloc (Nat.le_refl _) _⟩
    · have hr : rightW o n 0 tg = false := by simp [rightW, h1]
      rw [hr]; clear hr
      have h3 : (n == o) = false := by simpa using h1
      go_enter Try.func54, Try.ntmps54
      go_wp2_with (go_at_call 61; refine (isIndex_any _ _).mono ?_; rintro e w' ⟨rfl, rfl⟩)
      go_ret
      exact ⟨rfl, (Below.refl _ _).alloc (Nat.le_refl _) _⟩
  · have hr : rightW o n th tg = (isIx o && isIx n && isTh th && isTg tg) := by
      simp only [rightW, isIx, isTh, isTg, if_neg h0, ← Bool.decide_and]; congr 1; simp only [and_assoc]
    rw [hr]; clear hr
    have h3 : (th == 0) = false := by simpa using h0
    go_enter Try.func54, Try.ntmps54
    go_wp2_with (first | (go_at_call 61; refine (isIndex_any _ _).mono ?_; rintro e w' ⟨rfl, rfl⟩) | (go_at_call 62; refine (isThread_any _ _).mono ?_; rintro e w' ⟨rfl, rfl⟩) | (go_at_call 60; refine (isTag_any _ _).mono ?_; rintro e w' ⟨rfl, rfl⟩))
    all_goals (go_ret; exact ⟨by simp_all, (Below.refl _ _).alloc (Nat.le_refl _) _⟩)
end Go.Proofs.Ytipjbgkfhkidkaa
