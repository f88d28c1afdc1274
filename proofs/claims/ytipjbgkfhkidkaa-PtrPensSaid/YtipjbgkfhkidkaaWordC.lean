/- Contracts of package word: Plain, Pack, Unpack. -/
import Derived.Test.YtipjbgkfhkidkaaWordB
import Derived.Test.YtipjbgkfhkidkaaWordM
namespace Go.Proofs.Ytipjbgkfhkidkaa
open Go.RowKit

theorem right_bd {o n th tg : Int} (h : rightW o n th tg = true) : 0 ≤ o ∧ o ≤ 65535 ∧ 0 ≤ n ∧ n ≤ 65535 ∧ 0 ≤ th ∧ th ≤ 8 ∧ 0 ≤ tg ∧ tg ≤ 16777215 := by
  unfold rightW at h; split at h <;> (have := of_decide_eq_true h; omega)

theorem ret_u64e {a b : Int} (h : a = b) (c : Int) : Ending.returned (.tuple #[.int .u64 a, .int .i64 c]) = .returned (.tuple #[.int .u64 b, .int .i64 c]) := by rw [h]

set_option maxHeartbeats 400000 in
theorem plain_any (o n th tg : Int) (w : World) :
    Calls Try.prog 45 #[vW o n th tg] w fun e w' => e = .returned (.bool (rightW o n th tg && th == 0)) ∧ Below w.heap.size w w' := by
  go_enter Try.func45, Try.ntmps45
  go_wp2_with (go_at_call 54; refine (wright_any _ _ _ _ _).mono ?_; rintro e w1 ⟨rfl, hb⟩; obtain ⟨hc, hf⟩ := bcellW hb)
  all_goals (go_ret; exact ⟨by simp_all, ((Below.refl _ _).alloc (Nat.le_refl _) _).trans (hb.mono (by simp))⟩)

set_option maxHeartbeats 400000 in
theorem pack_yes (o n th tg : Int) (w : World) (h : rightW o n th tg = true) :
    Calls Try.prog 53 #[vW o n th tg] w fun e w' => e = .returned (.tuple #[.int .u64 (((tg * 256 + th) * 65536 + o) * 65536 + n), .int .i64 0]) ∧ Below w.heap.size w w' := by
  obtain ⟨h1, h2, h3, h4, h5, h6, h7, h8⟩ := right_bd h
  go_enter Try.func53, Try.ntmps53
  go_wp2_with (go_at_call 54; refine (wright_any _ _ _ _ _).mono ?_; rintro e w1 ⟨rfl, hb⟩; obtain ⟨hc, hf⟩ := bcellW hb)
  go_ret2
  exact ⟨ret_u64e (pack_bits o n th tg h1 h2 h3 h4 h5 h6 h7 h8) 0, ((Below.refl _ _).alloc (Nat.le_refl _) _).trans (hb.mono (by simp))⟩

set_option maxHeartbeats 400000 in
theorem pack_no (o n th tg : Int) (w : World) (h : rightW o n th tg = false) :
    Calls Try.prog 53 #[vW o n th tg] w fun e w' => e = .returned (.tuple #[.int .u64 0, .int .i64 11]) ∧ Below w.heap.size w w' := by
  go_enter Try.func53, Try.ntmps53
  go_wp2_with (go_at_call 54; refine (wright_any _ _ _ _ _).mono ?_; rintro e w1 ⟨rfl, hb⟩; obtain ⟨hc, hf⟩ := bcellW hb)
  go_ret2
  exact ⟨rfl, ((Below.refl _ _).alloc (Nat.le_refl _) _).trans (hb.mono (by simp))⟩

/-- The word that the bits v tell, if it is right. -/
def rightV (v : Int) : Bool := rightW (v / 65536 % 65536) (v % 65536) (v / 4294967296 % 256) (v / 1099511627776)

set_option maxHeartbeats 400000 in
theorem unpack_yes (v : Int) (w : World) (h1 : 0 ≤ v) (h2 : v ≤ 18446744073709551615) (h : rightV v = true) :
    Calls Try.prog 52 #[.int .u64 v] w fun e w' => e = .returned (.tuple #[vW (v / 65536 % 65536) (v % 65536) (v / 4294967296 % 256) (v / 1099511627776), .int .i64 0]) ∧ Below w.heap.size w w' := by
  unfold rightV at h
  have q1 := and_65535 v h1 (by omega)
  have q2 := and_65535 (v / 65536) (by omega) (by omega)
  have q3 := and_255 (v / 4294967296) (by omega) (by omega)
  go_enter Try.func52, Try.ntmps52
  go_wp2_with (go_at_call 54; refine (wright_any _ _ _ _ _).mono ?_; rintro e w1 ⟨rfl, hb⟩; obtain ⟨hc, hf⟩ := bcellW hb)
  have c0 : (w1.cell? ⟨w.heap.size, 0, none⟩).isSome = true := by rw [hc _ _ (by simp; omega)]; simp [go_sem]
  have c1 : (w1.cell? ⟨w.heap.size, 1, none⟩).isSome = true := by rw [hc _ _ (by simp; omega)]; simp [go_sem]
  have c2 : (w1.cell? ⟨w.heap.size, 2, none⟩).isSome = true := by rw [hc _ _ (by simp; omega)]; simp [go_sem]
  have c3 : (w1.cell? ⟨w.heap.size, 3, none⟩).isSome = true := by rw [hc _ _ (by simp; omega)]; simp [go_sem]
  clear hc hf
  exact bodyPost_ret (v := .tuple #[vW (v / 65536 % 65536) (v % 65536) (v / 4294967296 % 256) (v / 1099511627776), .int .i64 0]) (by simp [results, Try.results52, go_sem, c0, c1, c2, c3]) rfl ⟨rfl, (((((((Below.refl _ _).alloc (Nat.le_refl _) _).alloc (by simp) _).trans (hb.mono (by simp; omega))).setCell (by simp) _).setCell (by simp) _).setCell (by simp) _).setCell (by simp) _⟩

set_option maxHeartbeats 400000 in
theorem unpack_no (v : Int) (w : World) (h1 : 0 ≤ v) (h2 : v ≤ 18446744073709551615) (h : rightV v = false) :
    Calls Try.prog 52 #[.int .u64 v] w fun e w' => e = .returned (.tuple #[vW 0 0 0 0, .int .i64 21]) ∧ Below w.heap.size w w' := by
  unfold rightV at h
  have q1 := and_65535 v h1 (by omega)
  have q2 := and_65535 (v / 65536) (by omega) (by omega)
  have q3 := and_255 (v / 4294967296) (by omega) (by omega)
  go_enter Try.func52, Try.ntmps52
  go_wp2_with (go_at_call 54; refine (wright_any _ _ _ _ _).mono ?_; rintro e w1 ⟨rfl, hb⟩; obtain ⟨hc, hf⟩ := bcellW hb)
  have c0 : (w1.cell? ⟨w.heap.size, 0, none⟩).isSome = true := by rw [hc _ _ (by simp; omega)]; simp [go_sem]
  have c1 : (w1.cell? ⟨w.heap.size, 1, none⟩).isSome = true := by rw [hc _ _ (by simp; omega)]; simp [go_sem]
  have c2 : (w1.cell? ⟨w.heap.size, 2, none⟩).isSome = true := by rw [hc _ _ (by simp; omega)]; simp [go_sem]
  have c3 : (w1.cell? ⟨w.heap.size, 3, none⟩).isSome = true := by rw [hc _ _ (by simp; omega)]; simp [go_sem]
  clear hc hf
  exact bodyPost_ret (v := .tuple #[vW 0 0 0 0, .int .i64 21]) (by simp [results, Try.results52, go_sem, c0, c1, c2, c3]) rfl ⟨rfl, (((((((Below.refl _ _).alloc (Nat.le_refl _) _).alloc (by simp) _).trans (hb.mono (by simp; omega))).setCell (by simp) _).setCell (by simp) _).setCell (by simp) _).setCell (by simp) _⟩

end Go.Proofs.Ytipjbgkfhkidkaa
