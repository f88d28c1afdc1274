/- Contracts of package word: Of, State, Tag, Means. -/
import Derived.Test.YtipjbgkfhkidkaaWordC
namespace Go.Proofs.Ytipjbgkfhkidkaa
open Go.RowKit

/-- x, cut to an index. -/
def cutI (x : Int) : Int := if x < 0 then 0 else if x ≤ 65535 then x else 65535

theorem of_any (x : Int) (w : World) :
    Calls Try.prog 43 #[.int .i64 x] w fun e w' => e = .returned (vW (cutI x) (cutI x) 0 0) ∧ Below w.heap.size w w' := by
  by_cases h0 : x < 0
  · have hr : cutI x = 0 := by simp [cutI, h0]
    rw [hr]; clear hr
    go_enter Try.func43, Try.ntmps43
    go_wp2
    exact bodyPost_ret (v := vW 0 0 0 0) (by simp [results, Try.results43, go_sem]) rfl ⟨rfl, (Below.refl _ _).alloc (Nat.le_refl _) _⟩
  · by_cases h1 : x ≤ 65535
    · have hr : cutI x = x := by simp [cutI, h0, h1]
      rw [hr]; clear hr
      go_enter Try.func43, Try.ntmps43
      go_wp2
      exact bodyPost_ret (v := vW x x 0 0) (by simp [results, Try.results43, go_sem]) rfl ⟨rfl, (Below.refl _ _).alloc (Nat.le_refl _) _⟩
    · have hr : cutI x = 65535 := by simp [cutI, h0, h1]
      rw [hr]; clear hr
      go_enter Try.func43, Try.ntmps43
      go_wp2
      exact bodyPost_ret (v := vW 65535 65535 0 0) (by simp [results, Try.results43, go_sem]) rfl ⟨rfl, (Below.refl _ _).alloc (Nat.le_refl _) _⟩

/-- The bits of a state. -/
def stateV (t : Int) (d : Bool) : Int := t * 2 + if d then 1 else 0

theorem wstate_yes (t : Int) (d : Bool) (w : World) (h1 : 0 ≤ t) (h2 : t ≤ 16777215) :
    Calls Try.prog 51 #[.int .i64 t, .bool d] w fun e w' => e = .returned (.tuple #[.int .u64 (stateV t d), .int .i64 0]) ∧ w = w' := by
  have hr : isTg t = true := by simp [isTg, h1, h2]
  cases d
  · go_enter Try.func51, Try.ntmps51
    go_wp2_with (go_at_call 60; refine (isTag_any _ _).mono ?_; rintro e w' ⟨rfl, rfl⟩)
    go_ret2
    exact ⟨ret_u64e (by simp [stateV]) 0, rfl⟩
  · have q := or_1 t h1 h2
    go_enter Try.func51, Try.ntmps51
    go_wp2_with (go_at_call 60; refine (isTag_any _ _).mono ?_; rintro e w' ⟨rfl, rfl⟩)
    go_ret2
    exact ⟨ret_u64e (by simp [stateV]) 0, rfl⟩

theorem state_no (t : Int) (d : Bool) (w : World) (h : t < 0 ∨ 16777215 < t) :
    Calls Try.prog 51 #[.int .i64 t, .bool d] w fun e w' => e = .returned (.tuple #[.int .u64 0, .int .i64 11]) ∧ w = w' := by
  have hr : isTg t = false := by simp [isTg]; omega
  clear h
  go_enter Try.func51, Try.ntmps51
  go_wp2_with (go_at_call 60; refine (isTag_any _ _).mono ?_; rintro e w' ⟨rfl, rfl⟩)
  go_ret2
  exact ⟨rfl, rfl⟩

theorem tag_yes (v : Int) (w : World) (h1 : 0 ≤ v) (h2 : v < 33554432) :
    Calls Try.prog 55 #[.int .u64 v] w fun e w' => e = .returned (.tuple #[.int .i64 (v / 2), .bool (v % 2 != 0), .int .i64 0]) ∧ w = w' := by
  have q1 := andNot_state v h1 (by omega)
  have q2 := and_1 v h1 (by omega)
  have q3 : v / 33554432 * 33554432 = 0 := by omega
  rw [q3] at q1; clear q3
  go_enter Try.func55, Try.ntmps55
  go_wp2
  go_ret3
  exact ⟨rfl, rfl⟩

theorem tag_no (v : Int) (w : World) (h1 : 33554432 ≤ v) (h2 : v ≤ 18446744073709551615) :
    Calls Try.prog 55 #[.int .u64 v] w fun e w' => e = .returned (.tuple #[.int .i64 0, .bool false, .int .i64 21]) ∧ w = w' := by
  have q1 := andNot_state v (by omega) (by omega)
  have q3 : (v / 33554432 * 33554432 != 0) = true := by rw [bne_iff_ne]; omega
  go_enter Try.func55, Try.ntmps55
  go_wp2
  go_ret3
  exact ⟨rfl, rfl⟩

/-- What a word means, by a state. -/
def meansW (o n th tg t : Int) (d : Bool) : Int := if (rightW o n th tg && th == 0) || decide (tg < t) || (t == tg && d) then n else o

set_option maxHeartbeats 400000 in
theorem means_any (o n th tg t : Int) (d : Bool) (w : World) :
    Calls Try.prog 56 #[vW o n th tg, .int .i64 t, .bool d] w fun e w' => e = .returned (.int .i64 (meansW o n th tg t d)) ∧ Below w.heap.size w w' := by
  by_cases h1 : (rightW o n th tg && th == 0) = true
  · have hr : meansW o n th tg t d = n := by simp only [meansW, h1]; rfl
    rw [hr]; clear hr
    go_enter Try.func56, Try.ntmps56
    go_wp2_with (go_at_call 45; refine (plain_any _ _ _ _ _).mono ?_; rintro e w1 ⟨rfl, hb⟩; obtain ⟨hc, hf⟩ := bcellW hb; rw [h1])
    go_ret
    exact ⟨rfl, ((Below.refl _ _).alloc (Nat.le_refl _) _).trans (hb.mono (by simp))⟩
  · have h1 : (rightW o n th tg && th == 0) = false := by simpa using h1
    by_cases h2 : tg < t
    · have hr : meansW o n th tg t d = n := by simp [meansW, h2]
      rw [hr]; clear hr
      go_enter Try.func56, Try.ntmps56
      go_wp2_with (go_at_call 45; refine (plain_any _ _ _ _ _).mono ?_; rintro e w1 ⟨rfl, hb⟩; obtain ⟨hc, hf⟩ := bcellW hb; rw [h1])
      go_ret
      exact ⟨rfl, ((Below.refl _ _).alloc (Nat.le_refl _) _).trans (hb.mono (by simp))⟩
    · by_cases h3 : t = tg
      · subst h3
        cases d
        · have hr : meansW o n th t t false = o := by simp only [meansW, h1]; simp
          rw [hr]; clear hr
          go_enter Try.func56, Try.ntmps56
          go_wp2_with (go_at_call 45; refine (plain_any _ _ _ _ _).mono ?_; rintro e w1 ⟨rfl, hb⟩; obtain ⟨hc, hf⟩ := bcellW hb; rw [h1])
          go_ret
          exact ⟨rfl, ((Below.refl _ _).alloc (Nat.le_refl _) _).trans (hb.mono (by simp))⟩
        · have hr : meansW o n th t t true = n := by simp [meansW]
          rw [hr]; clear hr
          go_enter Try.func56, Try.ntmps56
          go_wp2_with (go_at_call 45; refine (plain_any _ _ _ _ _).mono ?_; rintro e w1 ⟨rfl, hb⟩; obtain ⟨hc, hf⟩ := bcellW hb; rw [h1])
          go_ret
          exact ⟨rfl, ((Below.refl _ _).alloc (Nat.le_refl _) _).trans (hb.mono (by simp))⟩
      · have h4 : (t == tg) = false := by simpa using h3
        have hr : meansW o n th tg t d = o := by simp [meansW, h1, h2, h4]
        rw [hr]; clear hr
        go_enter Try.func56, Try.ntmps56
        go_wp2_with (go_at_call 45; refine (plain_any _ _ _ _ _).mono ?_; rintro e w1 ⟨rfl, hb⟩; obtain ⟨hc, hf⟩ := bcellW hb; rw [h1])
        go_ret
        exact ⟨rfl, ((Below.refl _ _).alloc (Nat.le_refl _) _).trans (hb.mono (by simp))⟩

end Go.Proofs.Ytipjbgkfhkidkaa
