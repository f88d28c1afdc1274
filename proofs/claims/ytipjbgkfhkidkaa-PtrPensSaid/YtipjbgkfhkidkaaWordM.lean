/- Bits as sums: plain lemmas. -/
import Derived.WalkKit
import Derived.Laws.BitsAllLaws
namespace Go.Proofs.Ytipjbgkfhkidkaa

theorem or_nat (i k x y : Nat) (hk : 2 ^ i = k) (hy : y < k) (hm : x * k + y < 18446744073709551616) :
    bits .or .u64 ((x * k : Nat) : Int) (y : Int) = ((x * k + y : Nat) : Int) := by
  subst hk
  rw [u64_or_nat _ _ (by omega) (by omega), nat_join i _ _ (by simp) hy]

theorem pack_bits (o n th tg : Int) (h1 : 0 ≤ o) (h2 : o ≤ 65535) (h3 : 0 ≤ n) (h4 : n ≤ 65535) (h5 : 0 ≤ th) (h6 : th ≤ 8) (h7 : 0 ≤ tg) (h8 : tg ≤ 16777215) :
    bits .or .u64 (bits .or .u64 (bits .or .u64 (tg * 1099511627776) (th * 4294967296)) (o * 65536)) n = ((tg * 256 + th) * 65536 + o) * 65536 + n := by
  obtain ⟨o, rfl⟩ := Int.eq_ofNat_of_zero_le h1
  obtain ⟨n, rfl⟩ := Int.eq_ofNat_of_zero_le h3
  obtain ⟨th, rfl⟩ := Int.eq_ofNat_of_zero_le h5
  obtain ⟨tg, rfl⟩ := Int.eq_ofNat_of_zero_le h7
  have e1 := or_nat 40 1099511627776 tg (th * 4294967296) rfl (by omega) (by omega)
  have e2 := or_nat 32 4294967296 (tg * 256 + th) (o * 65536) rfl (by omega) (by omega)
  have e3 := or_nat 16 65536 ((tg * 256 + th) * 65536 + o) n rfl (by omega) (by omega)
  have f1 : (tg : Int) * 1099511627776 = ((tg * 1099511627776 : Nat) : Int) := by omega
  have f2 : (th : Int) * 4294967296 = ((th * 4294967296 : Nat) : Int) := by omega
  have f3 : (o : Int) * 65536 = ((o * 65536 : Nat) : Int) := by omega
  have g1 : tg * 1099511627776 + th * 4294967296 = (tg * 256 + th) * 4294967296 := by omega
  have g2 : (tg * 256 + th) * 4294967296 + o * 65536 = ((tg * 256 + th) * 65536 + o) * 65536 := by rw [show (4294967296 : Nat) = 65536 * 65536 from rfl, ← Nat.mul_assoc, ← Nat.add_mul]
  rw [f1, f2, f3, e1, g1, e2, g2, e3]
  omega

theorem or_1 (t : Int) (h1 : 0 ≤ t) (h2 : t ≤ 16777215) : bits .or .u64 (t * 2) 1 = t * 2 + 1 := by
  obtain ⟨t, rfl⟩ := Int.eq_ofNat_of_zero_le h1
  have e := or_nat 1 2 t 1 rfl (by omega) (by omega)
  rw [show (t : Int) * 2 = ((t * 2 : Nat) : Int) by omega]
  refine Eq.trans e ?_
  omega

theorem and_nat (i k m x : Nat) (hk : 2 ^ i = k) (hm : k = m + 1) (hx : x < 18446744073709551616) (hi : m < 18446744073709551616) :
    bits .and .u64 (x : Int) (m : Int) = ((x % k : Nat) : Int) := by
  rw [u64_and_nat _ _ hx hi]
  subst hk
  have : m = 2 ^ i - 1 := by omega
  rw [this, Nat.and_two_pow_sub_one_eq_mod]

theorem and_65535 (v : Int) (h1 : 0 ≤ v) (h2 : v < 18446744073709551616) : bits .and .u64 v 65535 = v % 65536 := by
  obtain ⟨x, rfl⟩ := Int.eq_ofNat_of_zero_le h1
  exact and_nat 16 65536 65535 x rfl rfl (by omega) (by omega)
theorem and_255 (v : Int) (h1 : 0 ≤ v) (h2 : v < 18446744073709551616) : bits .and .u64 v 255 = v % 256 := by
  obtain ⟨x, rfl⟩ := Int.eq_ofNat_of_zero_le h1
  exact and_nat 8 256 255 x rfl rfl (by omega) (by omega)
theorem and_1 (v : Int) (h1 : 0 ≤ v) (h2 : v < 18446744073709551616) : bits .and .u64 v 1 = v % 2 := by
  obtain ⟨x, rfl⟩ := Int.eq_ofNat_of_zero_le h1
  exact and_nat 1 2 1 x rfl rfl (by omega) (by omega)

theorem andNot_state (v : Int) (h1 : 0 ≤ v) (h2 : v < 18446744073709551616) : bits .andNot .u64 v 33554431 = v / 33554432 * 33554432 := by
  obtain ⟨x, rfl⟩ := Int.eq_ofNat_of_zero_le h1
  have e := u64_andNot_nat x 33554431 (by omega) (by omega)
  have f : x &&& (18446744073709551615 - 33554431) = x / 33554432 * 33554432 := by
    have hx : x < 2 ^ 64 := by omega
    rw [show (18446744073709551615 - 33554431 : Nat) = 2 ^ 25 * (2 ^ 39 - 1) from rfl]
    apply Nat.eq_of_testBit_eq
    intro j
    rw [Nat.testBit_and, Nat.testBit_two_pow_mul, show x / 33554432 * 33554432 = 2 ^ 25 * (x / 2 ^ 25) by omega, Nat.testBit_two_pow_mul, Nat.testBit_div_two_pow, Nat.testBit_two_pow_sub_one]
    by_cases hj : 25 ≤ j
    · by_cases hj2 : j - 25 < 39
      · simp [hj, hj2]
      · have : x.testBit j = false := Nat.testBit_lt_two_pow (Nat.lt_of_lt_of_le hx (Nat.pow_le_pow_right (by omega) (by omega)))
        simp [hj, hj2, this]
    · simp [hj]
  rw [f] at e
  refine Eq.trans e ?_
  omega
end Go.Proofs.Ytipjbgkfhkidkaa
