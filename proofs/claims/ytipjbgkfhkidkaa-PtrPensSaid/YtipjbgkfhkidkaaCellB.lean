/- Contracts of an arena's accesses. -/
import Derived.Test.YtipjbgkfhkidkaaCellA
namespace Go.Proofs.Ytipjbgkfhkidkaa
open Go.RowKit

section
variable {p g n cap k : Nat} {c f : Nat → Int} {w : World}

theorem load_yes (A : Ar w p g n cap c f) (hk : k < n) {m : Nat} (hm : CB c m) (hb : m ≤ 1000000) :
    Calls Try.prog 31 #[.pointer (some ⟨p, 0, none⟩), .int .i64 (k : Int)] w fun e w' => e = .returned (.tuple #[.int .u64 (f k), .int .i64 0]) ∧ Ar w' p g n cap (upd c 0 (c 0 + 1)) f ∧ Only p g w w' := by
  have hx := hm 0
  have hx1 : 0 ≤ c 0 := hx.1
  have hx2 : c 0 ≤ 1000000 := by omega
  clear hx hm hb
  have hne := A.ne_
  have h0 := A.c0
  have h1 := A.c1
  have hf := A.fz 1
  have hc := A.cell hk
  have hA := Lib.hid A; clear A
  go_enter Try.func31, Try.ntmps31
  go_wp2_with (refine (at_yes _ _ _ _ _ _ h0 hk).mono ?_; rintro e w1 ⟨rfl, rfl⟩)
  go_ret2
  exact ⟨rfl, hA.out.count (j := 0) (by omega) _, (Only.refl _ _ _).set_p _⟩

theorem load_no (A : Ar w p g n cap c f) {i : Int} (hi : i < 0 ∨ (n : Int) ≤ i) :
    Calls Try.prog 31 #[.pointer (some ⟨p, 0, none⟩), .int .i64 i] w fun e w' => e = .returned (.tuple #[.int .u64 0, .int .i64 20]) ∧ w = w' := by
  have h0 := A.c0
  go_enter Try.func31, Try.ntmps31
  go_wp2_with (refine (at_no _ _ _ _ _ _ h0 hi).mono ?_; rintro e w1 ⟨rfl, rfl⟩)
  go_ret2
  exact ⟨rfl, rfl⟩

theorem store_yes (A : Ar w p g n cap c f) (hk : k < n) {v : Int} (hv0 : 0 ≤ v) (hv1 : v ≤ 18446744073709551615) {m : Nat} (hm : CB c m) (hb : m ≤ 1000000) :
    Calls Try.prog 11 #[.pointer (some ⟨p, 0, none⟩), .int .i64 (k : Int), .int .u64 v] w fun e w' => e = .returned (.int .i64 0) ∧ Ar w' p g n cap (upd c 1 (c 1 + 1)) (upd f k v) ∧ Only p g w w' := by
  have hx := hm 1
  have hx1 : 0 ≤ c 1 := hx.1
  have hx2 : c 1 ≤ 1000000 := by omega
  clear hx hm hb
  have hne := A.ne_
  have h0 := A.c0
  have h1 := A.c2
  have hf := A.fz 2
  have hfg := A.fzg k
  have hc := A.cell hk
  have hA := Lib.hid A; clear A
  go_enter Try.func11, Try.ntmps11
  go_wp2_with (refine (at_yes _ _ _ _ _ _ h0 hk).mono ?_; rintro e w1 ⟨rfl, rfl⟩)
  go_ret
  exact ⟨rfl, (hA.out.count (j := 1) (by omega) _).set_ hk hv0 hv1, ((Only.refl _ _ _).set_p _).set_g _⟩

theorem store_no (A : Ar w p g n cap c f) {i : Int} (hi : i < 0 ∨ (n : Int) ≤ i) (v : Int) :
    Calls Try.prog 11 #[.pointer (some ⟨p, 0, none⟩), .int .i64 i, .int .u64 v] w fun e w' => e = .returned (.int .i64 20) ∧ w = w' := by
  have h0 := A.c0
  go_enter Try.func11, Try.ntmps11
  go_wp2_with (refine (at_no _ _ _ _ _ _ h0 hi).mono ?_; rintro e w1 ⟨rfl, rfl⟩)
  go_ret
  exact ⟨rfl, rfl⟩

/-- The sum of two numbers of 64 bits without a sign. -/
def sumU (a b : Int) : Int := IntKind.u64.wrap (a + b)
theorem sumU_fit (a b : Int) : 0 ≤ sumU a b ∧ sumU a b ≤ 18446744073709551615 := by
  unfold sumU
  rw [IntKind.wrap_u64]
  omega

theorem counts_any (A : Ar w p g n cap c f) :
    Calls Try.prog 30 #[.pointer (some ⟨p, 0, none⟩)] w fun e w' => e = .returned (.agg #[.int .i64 (c 0), .int .i64 (c 1), .int .i64 (c 2), .int .i64 (c 3), .int .i64 (c 4)]) ∧ Below w.heap.size w w' := by
  have h1 := A.c1
  have h2 := A.c2
  have h3 := A.c3
  have h4 := A.c4
  have h5 := A.c5
  have hp := A.p_lt
  go_enter Try.func30, Try.ntmps30
  go_wp2
  exact bodyPost_ret (v := .agg #[.int .i64 (c 0), .int .i64 (c 1), .int .i64 (c 2), .int .i64 (c 3), .int .i64 (c 4)]) (by simp [results, Try.results30, go_sem]) rfl ⟨rfl, (Below.refl _ _).alloc (Nat.le_refl _) _⟩
end
end Go.Proofs.Ytipjbgkfhkidkaa
