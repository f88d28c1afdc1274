/- Contracts of an arena's accesses. -/
import Derived.Test.YtjnnohajmblfkaaCellA
namespace Go.Proofs.Ytjnnohajmblfkaa
open Go.RowKit

section
variable {p g n cap k : Nat} {c f : Nat → Int} {w : World}

theorem load_yes (A : Ar w p g n cap c f) (hk : k < n) {m : Nat} (hm : CB c m) (hb : m ≤ 1000000) :
    Calls Try.prog 18 #[.pointer (some ⟨p, 0, none⟩), .int .i64 (k : Int)] w fun e w' => e = .returned (.tuple #[.int .u64 (f k), .int .i64 0]) ∧ Ar w' p g n cap (upd c 0 (c 0 + 1)) f ∧ Only p g w w' := by
  have hx := hm 0
  have hx1 : 0 ≤ c 0 := hx.1
  have hx2 : c 0 ≤ 1000000 := by omega
  clear hx hm hb
  have hne := A.ne_
  have h0 := A.c0
  have h1 := A.c1
  have hf := A.fz 1
  have hc := A.cell hk
  have hA := Lib.hid A; clear A
  go_enter Try.func18, Try.ntmps18
  go_wp2_with (refine (at_yes _ _ _ _ _ _ h0 hk).mono ?_; rintro e w1 ⟨rfl, rfl⟩)
  go_ret2
  exact ⟨rfl, hA.out.count (j := 0) (by omega) _, (Only.refl _ _ _).set_p _⟩

theorem load_no (A : Ar w p g n cap c f) {i : Int} (hi : i < 0 ∨ (n : Int) ≤ i) :
    Calls Try.prog 18 #[.pointer (some ⟨p, 0, none⟩), .int .i64 i] w fun e w' => e = .returned (.tuple #[.int .u64 0, .int .i64 20]) ∧ w = w' := by
  have h0 := A.c0
  go_enter Try.func18, Try.ntmps18
  go_wp2_with (refine (at_no _ _ _ _ _ _ h0 hi).mono ?_; rintro e w1 ⟨rfl, rfl⟩)
  go_ret2
  exact ⟨rfl, rfl⟩

theorem store_yes (A : Ar w p g n cap c f) (hk : k < n) {v : Int} (hv0 : 0 ≤ v) (hv1 : v ≤ 18446744073709551615) {m : Nat} (hm : CB c m) (hb : m ≤ 1000000) :
    Calls Try.prog 20 #[.pointer (some ⟨p, 0, none⟩), .int .i64 (k : Int), .int .u64 v] w fun e w' => e = .returned (.int .i64 0) ∧ Ar w' p g n cap (upd c 1 (c 1 + 1)) (upd f k v) ∧ Only p g w w' := by
  have hx := hm 1
  have hx1 : 0 ≤ c 1 := hx.1
  have hx2 : c 1 ≤ 1000000 := by omega
  clear hx hm hb
  have hne := A.ne_
  have h0 := A.c0
  have h1 := A.c2
  have hf := A.fz 2
  have hfg := A.fzg k
  have hc := A.cell hk
  have hA := Lib.hid A; clear A
  go_enter Try.func20, Try.ntmps20
  go_wp2_with (refine (at_yes _ _ _ _ _ _ h0 hk).mono ?_; rintro e w1 ⟨rfl, rfl⟩)
  go_ret
  exact ⟨rfl, (hA.out.count (j := 1) (by omega) _).set_ hk hv0 hv1, ((Only.refl _ _ _).set_p _).set_g _⟩

theorem store_no (A : Ar w p g n cap c f) {i : Int} (hi : i < 0 ∨ (n : Int) ≤ i) (v : Int) :
    Calls Try.prog 20 #[.pointer (some ⟨p, 0, none⟩), .int .i64 i, .int .u64 v] w fun e w' => e = .returned (.int .i64 20) ∧ w = w' := by
  have h0 := A.c0
  go_enter Try.func20, Try.ntmps20
  go_wp2_with (refine (at_no _ _ _ _ _ _ h0 hi).mono ?_; rintro e w1 ⟨rfl, rfl⟩)
  go_ret
  exact ⟨rfl, rfl⟩

/-- The sum of two numbers of 64 bits without a sign. -/
def sumU (a b : Int) : Int := IntKind.u64.wrap (a + b)
theorem sumU_fit (a b : Int) : 0 ≤ sumU a b ∧ sumU a b ≤ 18446744073709551615 := by
  unfold sumU
  rw [IntKind.wrap_u64]
  omega

end
end Go.Proofs.Ytjnnohajmblfkaa
