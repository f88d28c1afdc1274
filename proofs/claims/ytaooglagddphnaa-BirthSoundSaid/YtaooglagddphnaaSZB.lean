/- ZB: what BiPSound leans on. Printed by wip/tools/slim13.py. -/
import Derived.Test.YtaooglagddphnaaRows
import Derived.WalkKit
import Derived.ProofKit
import Derived.OpenShut
import Derived.WalkSpells
import Derived.WalkLawsBesides
import Derived.Laws.BitsAllLaws
import Derived.Lib.Hide
import Derived.Test.YtaooglagddphnaaSZA
import Derived.ArgAppend

/- Contracts of package word's small functions. -/
namespace Go.Proofs.Ytaooglagddphnaa
open Go.RowKit

theorem bcellW {W w1 : World} (hb : Below W.heap.size W w1) : (∀ b o, b < W.heap.size → w1.cell? ⟨b, o, none⟩ = W.cell? ⟨b, o, none⟩) ∧ (∀ b o, b < W.heap.size → w1.frozen? ⟨b, o, none⟩ = W.frozen? ⟨b, o, none⟩) :=
  ⟨fun b o h => hb.cell (p := ⟨b, o, none⟩) h, fun b o h => hb.frozen (p := ⟨b, o, none⟩) h⟩

def isIx (x : Int) : Bool := decide (0 ≤ x ∧ x ≤ 65535)
def isTh (x : Int) : Bool := decide (0 ≤ x ∧ x ≤ 8)
def isTg (x : Int) : Bool := decide (0 ≤ x ∧ x ≤ 16777215)

theorem isIndex_any (x : Int) (w : World) :
    Calls Try.prog 147 #[.int .i64 x] w fun e w' => e = .returned (.bool (isIx x)) ∧ w = w' := by
  by_cases h0 : 0 ≤ x
  · by_cases h1 : x ≤ 65535
    · have hr : isIx x = true := by simp [isIx, h0, h1]
      rw [hr]; clear hr
      go_enter Try.func147, Try.ntmps147
      go_wp2
      go_ret
      exact ⟨rfl, rfl⟩
    · have hr : isIx x = false := by simp [isIx, h1]
      rw [hr]; clear hr
      go_enter Try.func147, Try.ntmps147
      go_wp2
      go_ret
      exact ⟨rfl, rfl⟩
  · have hr : isIx x = false := by simp [isIx, h0]
    rw [hr]; clear hr
    go_enter Try.func147, Try.ntmps147
    go_wp2
    go_ret
    exact ⟨rfl, rfl⟩
end Go.Proofs.Ytaooglagddphnaa

/- Contracts of package word: Right, Plain. -/
namespace Go.Proofs.Ytaooglagddphnaa
open Go.RowKit

theorem isThread_any (x : Int) (w : World) :
    Calls Try.prog 148 #[.int .i64 x] w fun e w' => e = .returned (.bool (isTh x)) ∧ w = w' := by
  by_cases h0 : 0 ≤ x
  · by_cases h1 : x ≤ 8
    · have hr : isTh x = true := by simp [isTh, h0, h1]
      rw [hr]; clear hr
      go_enter Try.func148, Try.ntmps148
      go_wp2
      go_ret
      exact ⟨rfl, rfl⟩
    · have hr : isTh x = false := by simp [isTh, h1]
      rw [hr]; clear hr
      go_enter Try.func148, Try.ntmps148
      go_wp2
      go_ret
      exact ⟨rfl, rfl⟩
  · have hr : isTh x = false := by simp [isTh, h0]
    rw [hr]; clear hr
    go_enter Try.func148, Try.ntmps148
    go_wp2
    go_ret
    exact ⟨rfl, rfl⟩

theorem isTag_any (x : Int) (w : World) :
    Calls Try.prog 149 #[.int .i64 x] w fun e w' => e = .returned (.bool (isTg x)) ∧ w = w' := by
  by_cases h0 : 0 ≤ x
  · by_cases h1 : x ≤ 16777215
    · have hr : isTg x = true := by simp [isTg, h0, h1]
      rw [hr]; clear hr
      go_enter Try.func149, Try.ntmps149
      go_wp2
      go_ret
      exact ⟨rfl, rfl⟩
    · have hr : isTg x = false := by simp [isTg, h1]
      rw [hr]; clear hr
      go_enter Try.func149, Try.ntmps149
      go_wp2
      go_ret
      exact ⟨rfl, rfl⟩
  · have hr : isTg x = false := by simp [isTg, h0]
    rw [hr]; clear hr
    go_enter Try.func149, Try.ntmps149
    go_wp2
    go_ret
    exact ⟨rfl, rfl⟩

/-- A word as a value. -/
abbrev vW (o n th tg : Int) : Value := .agg #[.int .i64 o, .int .i64 n, .int .i64 th, .int .i64 tg]

/-- Is it right? -/
def rightW (o n th tg : Int) : Bool :=
  if th = 0 then decide (n = o ∧ tg = 0 ∧ 0 ≤ n ∧ n ≤ 65535) else decide (0 ≤ o ∧ o ≤ 65535 ∧ 0 ≤ n ∧ n ≤ 65535 ∧ 0 ≤ th ∧ th ≤ 8 ∧ 0 ≤ tg ∧ tg ≤ 16777215)

set_option maxHeartbeats 400000 in
theorem wright_any (o n th tg : Int) (w : World) :
    Calls Try.prog 145 #[vW o n th tg] w fun e w' => e = .returned (.bool (rightW o n th tg)) ∧ Below w.heap.size w w' := by
  by_cases h0 : th = 0
  · subst h0
    by_cases h1 : n = o
    · subst h1
      by_cases h2 : tg = 0
      · subst h2
        have hr : rightW n n 0 0 = isIx n := by simp [rightW, isIx]
        rw [hr]; clear hr
        go_enter Try.func145, Try.ntmps145
        go_wp2_with (go_at_call 147; refine (isIndex_any _ _).mono ?_; rintro e w' ⟨rfl, rfl⟩)
        go_ret
        exact ⟨rfl, (Below.refl _ _).alloc (Nat.le_refl _) _⟩
      · have hr : rightW n n 0 tg = false := by simp [rightW, h2]
        rw [hr]; clear hr
        have h3 : (tg == 0) = false := by simpa using h2
        go_enter Try.func145, Try.ntmps145
        go_wp2_with (go_at_call 147; refine (isIndex_any _ _).mono ?_; rintro e w' ⟨rfl, rfl⟩)
        go_ret
        exact ⟨rfl, (Below.refl _ _).alloc (Nat.le_refl _) _⟩
    · have hr : rightW o n 0 tg = false := by simp [rightW, h1]
      rw [hr]; clear hr
      have h3 : (n == o) = false := by simpa using h1
      go_enter Try.func145, Try.ntmps145
      go_wp2_with (go_at_call 147; refine (isIndex_any _ _).mono ?_; rintro e w' ⟨rfl, rfl⟩)
      go_ret
      exact ⟨rfl, (Below.refl _ _).alloc (Nat.le_refl _) _⟩
  · have hr : rightW o n th tg = (isIx o && isIx n && isTh th && isTg tg) := by
      simp only [rightW, isIx, isTh, isTg, if_neg h0, ← Bool.decide_and]; congr 1; simp only [and_assoc]
    rw [hr]; clear hr
    have h3 : (th == 0) = false := by simpa using h0
    go_enter Try.func145, Try.ntmps145
    go_wp2_with (first | (go_at_call 147; refine (isIndex_any _ _).mono ?_; rintro e w' ⟨rfl, rfl⟩) | (go_at_call 148; refine (isThread_any _ _).mono ?_; rintro e w' ⟨rfl, rfl⟩) | (go_at_call 149; refine (isTag_any _ _).mono ?_; rintro e w' ⟨rfl, rfl⟩))
    all_goals (go_ret; exact ⟨by simp_all, (Below.refl _ _).alloc (Nat.le_refl _) _⟩)
end Go.Proofs.Ytaooglagddphnaa

/- Bits as sums: plain lemmas. -/
namespace Go.Proofs.Ytaooglagddphnaa

theorem or_nat (i k x y : Nat) (hk : 2 ^ i = k) (hy : y < k) (hm : x * k + y < 18446744073709551616) :
    bits .or .u64 ((x * k : Nat) : Int) (y : Int) = ((x * k + y : Nat) : Int) := by
  subst hk
  rw [u64_or_nat _ _ (by omega) (by omega), nat_join i _ _ (by simp) hy]

theorem pack_bits (o n th tg : Int) (h1 : 0 ≤ o) (h2 : o ≤ 65535) (h3 : 0 ≤ n) (h4 : n ≤ 65535) (h5 : 0 ≤ th) (h6 : th ≤ 8) (h7 : 0 ≤ tg) (h8 : tg ≤ 16777215) :
    bits .or .u64 (bits .or .u64 (bits .or .u64 (tg * 1099511627776) (th * 4294967296)) (o * 65536)) n = ((tg * 256 + th) * 65536 + o) * 65536 + n := by
  obtain ⟨o, rfl⟩ := Int.eq_ofNat_of_zero_le h1
  obtain ⟨n, rfl⟩ := Int.eq_ofNat_of_zero_le h3
  obtain ⟨th, rfl⟩ := Int.eq_ofNat_of_zero_le h5
  obtain ⟨tg, rfl⟩ := Int.eq_ofNat_of_zero_le h7
  have e1 := or_nat 40 1099511627776 tg (th * 4294967296) rfl (by omega) (by omega)
  have e2 := or_nat 32 4294967296 (tg * 256 + th) (o * 65536) rfl (by omega) (by omega)
  have e3 := or_nat 16 65536 ((tg * 256 + th) * 65536 + o) n rfl (by omega) (by omega)
  have f1 : (tg : Int) * 1099511627776 = ((tg * 1099511627776 : Nat) : Int) := by omega
  have f2 : (th : Int) * 4294967296 = ((th * 4294967296 : Nat) : Int) := by omega
  have f3 : (o : Int) * 65536 = ((o * 65536 : Nat) : Int) := by omega
  have g1 : tg * 1099511627776 + th * 4294967296 = (tg * 256 + th) * 4294967296 := by omega
  have g2 : (tg * 256 + th) * 4294967296 + o * 65536 = ((tg * 256 + th) * 65536 + o) * 65536 := by rw [show (4294967296 : Nat) = 65536 * 65536 from rfl, ← Nat.mul_assoc, ← Nat.add_mul]
  rw [f1, f2, f3, e1, g1, e2, g2, e3]
  omega

theorem and_nat (i k m x : Nat) (hk : 2 ^ i = k) (hm : k = m + 1) (hx : x < 18446744073709551616) (hi : m < 18446744073709551616) :
    bits .and .u64 (x : Int) (m : Int) = ((x % k : Nat) : Int) := by
  rw [u64_and_nat _ _ hx hi]
  subst hk
  have : m = 2 ^ i - 1 := by omega
  rw [this, Nat.and_two_pow_sub_one_eq_mod]

theorem and_65535 (v : Int) (h1 : 0 ≤ v) (h2 : v < 18446744073709551616) : bits .and .u64 v 65535 = v % 65536 := by
  obtain ⟨x, rfl⟩ := Int.eq_ofNat_of_zero_le h1
  exact and_nat 16 65536 65535 x rfl rfl (by omega) (by omega)
theorem and_255 (v : Int) (h1 : 0 ≤ v) (h2 : v < 18446744073709551616) : bits .and .u64 v 255 = v % 256 := by
  obtain ⟨x, rfl⟩ := Int.eq_ofNat_of_zero_le h1
  exact and_nat 8 256 255 x rfl rfl (by omega) (by omega)
end Go.Proofs.Ytaooglagddphnaa

/- Contracts of package word: Plain, Pack, Unpack. -/
namespace Go.Proofs.Ytaooglagddphnaa
open Go.RowKit

theorem right_bd {o n th tg : Int} (h : rightW o n th tg = true) : 0 ≤ o ∧ o ≤ 65535 ∧ 0 ≤ n ∧ n ≤ 65535 ∧ 0 ≤ th ∧ th ≤ 8 ∧ 0 ≤ tg ∧ tg ≤ 16777215 := by
  unfold rightW at h; split at h <;> (have := of_decide_eq_true h; omega)

theorem ret_u64e {a b : Int} (h : a = b) (c : Int) : Ending.returned (.tuple #[.int .u64 a, .int .i64 c]) = .returned (.tuple #[.int .u64 b, .int .i64 c]) := by rw [h]

set_option maxHeartbeats 400000 in
theorem pack_yes (o n th tg : Int) (w : World) (h : rightW o n th tg = true) :
    Calls Try.prog 141 #[vW o n th tg] w fun e w' => e = .returned (.tuple #[.int .u64 (((tg * 256 + th) * 65536 + o) * 65536 + n), .int .i64 0]) ∧ Below w.heap.size w w' := by
  obtain ⟨h1, h2, h3, h4, h5, h6, h7, h8⟩ := right_bd h
  go_enter Try.func141, Try.ntmps141
  go_wp2_with (go_at_call 145; refine (wright_any _ _ _ _ _).mono ?_; rintro e w1 ⟨rfl, hb⟩; obtain ⟨hc, hf⟩ := bcellW hb)
  go_ret2
  exact ⟨ret_u64e (pack_bits o n th tg h1 h2 h3 h4 h5 h6 h7 h8) 0, ((Below.refl _ _).alloc (Nat.le_refl _) _).trans (hb.mono (by simp))⟩

/-- The word that the bits v tell, if it is right. -/
def rightV (v : Int) : Bool := rightW (v / 65536 % 65536) (v % 65536) (v / 4294967296 % 256) (v / 1099511627776)

set_option maxHeartbeats 400000 in
theorem unpack_yes (v : Int) (w : World) (h1 : 0 ≤ v) (h2 : v ≤ 18446744073709551615) (h : rightV v = true) :
    Calls Try.prog 140 #[.int .u64 v] w fun e w' => e = .returned (.tuple #[vW (v / 65536 % 65536) (v % 65536) (v / 4294967296 % 256) (v / 1099511627776), .int .i64 0]) ∧ Below w.heap.size w w' := by
  unfold rightV at h
  have q1 := and_65535 v h1 (by omega)
  have q2 := and_65535 (v / 65536) (by omega) (by omega)
  have q3 := and_255 (v / 4294967296) (by omega) (by omega)
  go_enter Try.func140, Try.ntmps140
  go_wp2_with (go_at_call 145; refine (wright_any _ _ _ _ _).mono ?_; rintro e w1 ⟨rfl, hb⟩; obtain ⟨hc, hf⟩ := bcellW hb)
  have c0 : (w1.cell? ⟨w.heap.size, 0, none⟩).isSome = true := by rw [hc _ _ (by simp; omega)]; simp [go_sem]
  have c1 : (w1.cell? ⟨w.heap.size, 1, none⟩).isSome = true := by rw [hc _ _ (by simp; omega)]; simp [go_sem]
  have c2 : (w1.cell? ⟨w.heap.size, 2, none⟩).isSome = true := by rw [hc _ _ (by simp; omega)]; simp [go_sem]
  have c3 : (w1.cell? ⟨w.heap.size, 3, none⟩).isSome = true := by rw [hc _ _ (by simp; omega)]; simp [go_sem]
  clear hc hf
  exact bodyPost_ret (v := .tuple #[vW (v / 65536 % 65536) (v % 65536) (v / 4294967296 % 256) (v / 1099511627776), .int .i64 0]) (by simp [results, Try.results140, go_sem, c0, c1, c2, c3]) rfl ⟨rfl, (((((((Below.refl _ _).alloc (Nat.le_refl _) _).alloc (by simp) _).trans (hb.mono (by simp; omega))).setCell (by simp) _).setCell (by simp) _).setCell (by simp) _).setCell (by simp) _⟩

end Go.Proofs.Ytaooglagddphnaa

/- Contracts of package word: Of, State, Tag, Means. -/
namespace Go.Proofs.Ytaooglagddphnaa
open Go.RowKit

/-- x, cut to an index. -/
def cutI (x : Int) : Int := if x < 0 then 0 else if x ≤ 65535 then x else 65535

theorem of_any (x : Int) (w : World) :
    Calls Try.prog 130 #[.int .i64 x] w fun e w' => e = .returned (vW (cutI x) (cutI x) 0 0) ∧ Below w.heap.size w w' := by
  by_cases h0 : x < 0
  · have hr : cutI x = 0 := by simp [cutI, h0]
    rw [hr]; clear hr
    go_enter Try.func130, Try.ntmps130
    go_wp2
    exact bodyPost_ret (v := vW 0 0 0 0) (by simp [results, Try.results130, go_sem]) rfl ⟨rfl, (Below.refl _ _).alloc (Nat.le_refl _) _⟩
  · by_cases h1 : x ≤ 65535
    · have hr : cutI x = x := by simp [cutI, h0, h1]
      rw [hr]; clear hr
      go_enter Try.func130, Try.ntmps130
      go_wp2
      exact bodyPost_ret (v := vW x x 0 0) (by simp [results, Try.results130, go_sem]) rfl ⟨rfl, (Below.refl _ _).alloc (Nat.le_refl _) _⟩
    · have hr : cutI x = 65535 := by simp [cutI, h0, h1]
      rw [hr]; clear hr
      go_enter Try.func130, Try.ntmps130
      go_wp2
      exact bodyPost_ret (v := vW 65535 65535 0 0) (by simp [results, Try.results130, go_sem]) rfl ⟨rfl, (Below.refl _ _).alloc (Nat.le_refl _) _⟩

end Go.Proofs.Ytaooglagddphnaa

/- Contracts of the document's own answers for layer 1. -/
namespace Go.Proofs.Ytaooglagddphnaa
open Go.RowKit

theorem rightW_eq (o n th tg : Int) : rightW o n th tg = decide ((th = 0 → n = o ∧ tg = 0) ∧ 0 ≤ o ∧ o ≤ 65535 ∧ 0 ≤ n ∧ n ≤ 65535 ∧ 0 ≤ th ∧ th ≤ 8 ∧ 0 ≤ tg ∧ tg ≤ 16777215) := by
  unfold rightW; split <;> (rw [decide_eq_decide]; omega)

set_option maxHeartbeats 1000000 in
theorem rparts_any (v : Int) (w : World) (h1 : 0 ≤ v) (h2 : v ≤ 18446744073709551615) :
    Calls Try.prog 131 #[.int .u64 v] w fun e w' => e = .returned (vW (v / 65536 % 65536) (v % 65536) (v / 4294967296 % 256) (v / 1099511627776)) ∧ Below w.heap.size w w' := by
  go_enter Try.func131, Try.ntmps131
  go_wp2
  have e1 : v / 65536 / 65536 = v / 4294967296 := by omega
  have e2 : v / 65536 / 65536 / 256 = v / 1099511627776 := by omega
  rw [← e2, ← e1]
  exact bodyPost_ret (v := vW (v / 65536 % 65536) (v % 65536) (v / 65536 / 65536 % 256) (v / 65536 / 65536 / 256)) (by simp [results, Try.results131, go_sem]) rfl ⟨rfl, ((Below.refl _ _).alloc (Nat.le_refl _) _).alloc (by simp) _⟩

end Go.Proofs.Ytaooglagddphnaa

/- Contract of the fixed answers of layer 1's statements. -/
namespace Go.Proofs.Ytaooglagddphnaa
open Go.RowKit

end Go.Proofs.Ytaooglagddphnaa

/- More contracts for layer 1's statements. -/
namespace Go.Proofs.Ytaooglagddphnaa
open Go.RowKit

/-- The bits of a word. -/
def bitsW (o n th tg : Int) : Int := ((tg * 256 + th) * 65536 + o) * 65536 + n

theorem bitsW_parts {o n th tg : Int} (h : rightW o n th tg = true) :
    0 ≤ bitsW o n th tg ∧ bitsW o n th tg ≤ 18446744073709551615 ∧ bitsW o n th tg / 65536 % 65536 = o ∧ bitsW o n th tg % 65536 = n ∧ bitsW o n th tg / 4294967296 % 256 = th ∧ bitsW o n th tg / 1099511627776 = tg := by
  obtain ⟨h1, h2, h3, h4, h5, h6, h7, h8⟩ := right_bd h
  have e : bitsW o n th tg = tg * 1099511627776 + th * 4294967296 + o * 65536 + n := by unfold bitsW; omega
  rw [e]; clear e
  refine ⟨?_, ?_, ?_, ?_, ?_, ?_⟩ <;> omega

theorem pack_w (o n th tg : Int) (w : World) (h : rightW o n th tg = true) :
    Calls Try.prog 141 #[vW o n th tg] w fun e w' => e = .returned (.tuple #[.int .u64 (bitsW o n th tg), .int .i64 0]) ∧ Below w.heap.size w w' :=
  pack_yes o n th tg w h
theorem unpack_w (o n th tg : Int) (w : World) (h : rightW o n th tg = true) :
    Calls Try.prog 140 #[.int .u64 (bitsW o n th tg)] w fun e w' => e = .returned (.tuple #[vW o n th tg, .int .i64 0]) ∧ Below w.heap.size w w' := by
  obtain ⟨h1, h2, h3, h4, h5, h6⟩ := bitsW_parts h
  have k := unpack_yes (bitsW o n th tg) w h1 h2 (by unfold rightV; rw [h3, h4, h5, h6]; exact h)
  rw [h3, h4, h5, h6] at k
  exact k

theorem bitsW_of (v : Int) : bitsW (v / 65536 % 65536) (v % 65536) (v / 4294967296 % 256) (v / 1099511627776) = v := by
  unfold bitsW
  have e1 : v / 4294967296 = v / 65536 / 65536 := by omega
  have e2 : v / 1099511627776 = v / 65536 / 65536 / 256 := by omega
  rw [e1, e2]
  generalize hx : v / 65536 = x
  generalize hy : x / 65536 = y
  omega

end Go.Proofs.Ytaooglagddphnaa

/- Accesses, plainly: what calls make of numbers and of a row, and that such a row is good. -/
namespace Go.Proofs.Ytaooglagddphnaa
open Go.RowKit

end Go.Proofs.Ytaooglagddphnaa

/- Words for a trace in memory: its own block, its arena, its row; and what a call of it may have turned. -/
namespace Go.Proofs.Ytaooglagddphnaa
open Go.RowKit



end Go.Proofs.Ytaooglagddphnaa

/- Plain memories: contracts of their calls; a lay in a block of its own. -/
namespace Go.Proofs.Ytaooglagddphnaa
open Go.RowKit

set_option maxRecDepth 100000

theorem methp_store (k : Nat) (v : Value) (W : World) : Sem.run Try.prog (method (k + 1) 84 v "Store") W = .ok (166, v) W := by kernel_rfl
theorem methp_load (k : Nat) (v : Value) (W : World) : Sem.run Try.prog (method (k + 1) 84 v "Load") W = .ok (165, v) W := by kernel_rfl

theorem nilp_store (k : Nat) (v : Value) (W : World) : Sem.run Try.prog (nilAhead (k + 1) 84 v "Store") W = .ok (some false) W := by kernel_rfl
theorem nilp_load (k : Nat) (v : Value) (W : World) : Sem.run Try.prog (nilAhead (k + 1) 84 v "Load") W = .ok (some false) W := by kernel_rfl

/-- A plain memory's value. -/
abbrev pmV (p : Nat) : Value := .agg #[.pointer (some ⟨p, 0, none⟩)]
theorem pm_of (p : Nat) (w : World) : Calls Try.prog 32 #[.pointer (some ⟨p, 0, none⟩)] w fun e w' => e = .returned (pmV p) ∧ Below w.heap.size w w' := by
  unfold pmV
  go_enter Try.func32, Try.ntmps32
  go_wp2_with fail
  exact bodyPost_ret (v := .agg #[.pointer (some ⟨p, 0, none⟩)]) (by simp [results, Try.results32, go_sem]) rfl ⟨rfl, (Below.refl _ _).alloc (Nat.le_refl _) _⟩

section
variable {w : World} {p g n cap k m : Nat} {c f : Nat → Int}
theorem pm_load (A : Ar w p g n cap c f) (hk : k < n) (hm : CB c m) (hb : m ≤ 100000000) :
    Calls Try.prog 165 #[pmV p, .int .i64 (k : Int)] w fun e w' => e = .returned (.int .u64 (f k)) ∧ Ar w' p g n cap (upd c 0 (c 0 + 1)) f ∧ Only p g w w' := by
  unfold pmV
  have HA := Lib.hid A; clear A
  have HM := Lib.hid hm; clear hm
  go_enter Try.func165, Try.ntmps165
  go_wp2_with fail
  refine (load_yes (HA.out.alloc _) hk HM.out hb).mono ?_; rintro e w1 ⟨rfl, A1, O1⟩
  go_wp2_with fail
  go_ret
  exact ⟨rfl, A1, ((Only.refl _ _ _).alloc _).trans O1⟩
theorem pm_store (A : Ar w p g n cap c f) (hk : k < n) {x : Int} (hx0 : 0 ≤ x) (hx1 : x ≤ 18446744073709551615) (hm : CB c m) (hb : m ≤ 100000000) :
    Calls Try.prog 166 #[pmV p, .int .i64 (k : Int), .int .u64 x] w fun e w' => e = .returned (.tuple #[]) ∧ Ar w' p g n cap (upd c 1 (c 1 + 1)) (upd f k x) ∧ Only p g w w' := by
  unfold pmV
  have HA := Lib.hid A; clear A
  have HM := Lib.hid hm; clear hm
  go_enter Try.func166, Try.ntmps166
  go_wp2_with fail
  refine (store_yes (HA.out.alloc _) hk hx0 hx1 HM.out hb).mono ?_; rintro e w1 ⟨rfl, A1, O1⟩
  go_wp2_with fail
  go_end0
  exact ⟨rfl, A1, ((Only.refl _ _ _).alloc _).trans O1⟩
end

section
variable {w : World} {q p g n cap : Nat} {c f : Nat → Int}
theorem Ar.q_far (A : Ar w p g n cap c f) (h1 : q ≠ p) (h2 : q ≠ g) {j : Nat} (u : Value) : Ar (w.setCell ⟨q, j, none⟩ u) p g n cap c f := by
  obtain ⟨zs, hz, he⟩ := A.cells
  exact ⟨A.own.far (fun e => h1 e.symm) _, ⟨zs, hz.far (fun e => h2 e.symm) _, he⟩, A.le, A.few, A.fit⟩
end
/-- A store into a block that is new. -/
theorem Only.set_new {p g : Nat} {a w : World} (h : Only p g a w) {q : Nat} (hq : a.heap.size ≤ q) {j : Nat} (u : Value) : Only p g a (w.setCell ⟨q, j, none⟩ u) :=
  ⟨h.os, h.tape, h.output, by simpa [World.setCell] using h.size, fun i hi h1 h2 => (Below.heap_setCell w ⟨q, j, none⟩ u i (by simp only; omega)).trans (h.block i hi h1 h2)⟩
/-- Four cells, stored one behind the other. -/
theorem Blk.four {w : World} {g : Nat} {t : TypeId} {x0 x1 x2 x3 : Value} (h : Blk w g t #[x0, x1, x2, x3]) (a b c d : Value) : Blk ((((w.setCell ⟨g, 0, none⟩ a).setCell ⟨g, 1, none⟩ b).setCell ⟨g, 2, none⟩ c).setCell ⟨g, 3, none⟩ d) g t #[a, b, c, d] :=
  (((h.set_ 0 a).set_ 1 b).set_ 2 c).set_ 3 d
theorem Blk.cells4 {w : World} {g : Nat} {t : TypeId} {a b c d : Value} (h : Blk w g t #[a, b, c, d]) : w.cell? ⟨g, 0, none⟩ = some a ∧ w.cell? ⟨g, 1, none⟩ = some b ∧ w.cell? ⟨g, 2, none⟩ = some c ∧ w.cell? ⟨g, 3, none⟩ = some d :=
  ⟨h.cell 0, h.cell 1, h.cell 2, h.cell 3⟩

/-- A lay in a block of its own. -/
def LyB (w : World) (b : Nat) (V : Int) (S : Nat) (T : Int) : Prop := Blk w b 23 #[.int .i64 V, .int .i64 S, .int .i64 T]
section
variable {w w' : World} {b p g n cap : Nat} {V T : Int} {S : Nat} {c f : Nat → Int}
theorem LyB.below (h : LyB w b V S T) (hb : Below w.heap.size w w') : LyB w' b V S T := Blk.below h hb (Blk.lt h)
theorem LyB.drew (h : LyB w b V S T) : LyB w.drew b V S T := h
theorem LyB.ne_p (h : LyB w b V S T) (A : Ar w p g n cap c f) : b ≠ p := Blk.ne_ h A.own (by decide)
theorem LyB.ne_g (h : LyB w b V S T) (A : Ar w p g n cap c f) : b ≠ g := by
  obtain ⟨zs, hz, _⟩ := A.cells
  exact Blk.ne_ h hz (by decide)
theorem LyB.only (h : LyB w b V S T) (A : Ar w p g n cap c f) (ho : Only p g w w') : LyB w' b V S T := Blk.only h ho (h.ne_p A) (h.ne_g A)
theorem LyB.cells (h : LyB w b V S T) : w.cell? ⟨b, 0, none⟩ = some (.int .i64 V) ∧ w.cell? ⟨b, 1, none⟩ = some (.int .i64 S) ∧ w.cell? ⟨b, 2, none⟩ = some (.int .i64 T) := ⟨Blk.cell h 0, Blk.cell h 1, Blk.cell h 2⟩
theorem LyB.lt (h : LyB w b V S T) : b < w.heap.size := Blk.lt h
end

end Go.Proofs.Ytaooglagddphnaa

/- Pointer cells: what their bits tell; contracts of read and New. -/
namespace Go.Proofs.Ytaooglagddphnaa
open Go.RowKit

set_option maxRecDepth 100000

/-- What bits tell: a word's parts, or those of the plain word of 0. -/
def rO (v : Int) : Int := if rightV v then v / 65536 % 65536 else 0
def rN (v : Int) : Int := if rightV v then v % 65536 else 0
def rT (v : Int) : Int := if rightV v then v / 4294967296 % 256 else 0
def rG (v : Int) : Int := if rightV v then v / 1099511627776 else 0
structure IsW (v o n th tg : Int) : Prop where
  o : rO v = o
  n : rN v = n
  th : rT v = th
  tg : rG v = tg
theorem isW_any (v : Int) : IsW v (rO v) (rN v) (rT v) (rG v) := ⟨rfl, rfl, rfl, rfl⟩
theorem IsW.right {v o n th tg : Int} (h : IsW v o n th tg) : rightW o n th tg = true := by
  obtain ⟨rfl, rfl, rfl, rfl⟩ := h
  unfold rO rN rT rG
  cases hv : rightV v
  · rfl
  · exact hv
theorem isW_bits {o n th tg : Int} (h : rightW o n th tg = true) : IsW (bitsW o n th tg) o n th tg ∧ rightV (bitsW o n th tg) = true := by
  obtain ⟨_, _, h3, h4, h5, h6⟩ := bitsW_parts h
  have hv : rightV (bitsW o n th tg) = true := by unfold rightV; rw [h3, h4, h5, h6]; exact h
  exact ⟨⟨by simp only [rO, hv, if_true, h3], by simp only [rN, hv, if_true, h4], by simp only [rT, hv, if_true, h5], by simp only [rG, hv, if_true, h6]⟩, hv⟩
theorem IsW.bits {v o n th tg : Int} (h : IsW v o n th tg) (hv : rightV v = true) : v = bitsW o n th tg := by
  obtain ⟨rfl, rfl, rfl, rfl⟩ := h
  simp only [rO, rN, rT, rG, hv, if_true]
  exact (bitsW_of v).symm
end Go.Proofs.Ytaooglagddphnaa

/- Contracts of New, of what a word means, and of Means. -/
namespace Go.Proofs.Ytaooglagddphnaa
open Go.RowKit

set_option maxRecDepth 100000

/-- The second of two blocks that are new. -/
theorem new_next (w : World) (t1 t2 : TypeId) (c1 c2 : Array Value) : Blk ((w.alloc (.cells c1 t1)).alloc (.cells c2 t2)) (w.heap.size + 1) t2 c2 := by
  have := Blk.new (w.alloc (.cells c1 t1)) t2 c2
  simpa using this

end Go.Proofs.Ytaooglagddphnaa

/- Contracts of Means. -/
namespace Go.Proofs.Ytaooglagddphnaa
open Go.RowKit

set_option maxRecDepth 100000


end Go.Proofs.Ytaooglagddphnaa

/- Contracts of what a pen writes and cleans. -/
namespace Go.Proofs.Ytaooglagddphnaa
open Go.RowKit

set_option maxRecDepth 100000

/-- A pen's value. -/
abbrev vP (th tg : Int) : Value := .agg #[.int .i64 th, .int .i64 tg]
/-- What Old is behind a pen's write. -/
def wrO (o x th0 tg0 th tg : Int) : Int := if th0 = th ∧ tg0 = tg then o else x

theorem Blk.ne_p {w : World} {p g n cap q : Nat} {c f : Nat → Int} {ty : TypeId} {cs : Array Value} (h : Blk w q ty cs) (A : Ar w p g n cap c f) (h1 : ty ≠ 118) : q ≠ p := h.ne_ A.own h1
theorem Blk.ne_g {w : World} {p g n cap q : Nat} {c f : Nat → Int} {ty : TypeId} {cs : Array Value} (h : Blk w q ty cs) (A : Ar w p g n cap c f) (h1 : ty ≠ 51) : q ≠ g := by
  obtain ⟨zs, hz, _⟩ := A.cells
  exact h.ne_ hz h1
theorem Blk.arena {w w' : World} {p g n cap q : Nat} {c f : Nat → Int} {ty : TypeId} {cs : Array Value} (h : Blk w q ty cs) (A : Ar w p g n cap c f) (ho : Only p g w w') (h1 : ty ≠ 118) (h2 : ty ≠ 51) : Blk w' q ty cs := h.only ho (h.ne_p A h1) (h.ne_g A h2)
theorem Blk.later {w w' : World} {q : Nat} {ty : TypeId} {cs : Array Value} (h : Blk w q ty cs) (hb : Below w.heap.size w w') : Blk w' q ty cs := h.below hb h.lt

section
variable {w : World} {p g n cap k m t pb xb : Nat} {c f : Nat → Int} {o x th0 tg0 th tg V T y : Int} {S : Nat}

theorem writeC (hP : Blk w pb 30 #[.int .i64 th, .int .i64 tg]) (hX : Blk w xb 3 #[.int .i64 y]) :
    Calls Try.prog 138 #[vW o x th0 tg0, .pointer (some ⟨pb, 0, none⟩), .pointer (some ⟨xb, 0, none⟩)] w fun e w' => e = .returned (vW (wrO o x th0 tg0 th tg) y th tg) ∧ Below w.heap.size w w' := by
  have p0 := hP.cell 0
  have p1 := hP.cell 1
  have x0 := hX.cell 0
  have pl := hP.lt
  have xl := hX.lt
  clear hP hX
  by_cases h1 : th0 = th
  · subst h1
    by_cases h2 : tg0 = tg
    · subst h2
      have hr : wrO o x th0 tg0 th0 tg0 = o := if_pos ⟨rfl, rfl⟩
      rw [hr]; clear hr
      go_enter Try.func138, Try.ntmps138
      go_wp2_with fail
      exact bodyPost_ret (v := vW o y th0 tg0) (by simp [results, Try.results138, go_sem]) rfl ⟨rfl, ((Below.refl _ _).alloc (Nat.le_refl _) _).alloc (by simp) _⟩
    · have hr : wrO o x th0 tg0 th0 tg = x := if_neg fun e => h2 e.2
      rw [hr]; clear hr
      go_enter Try.func138, Try.ntmps138
      go_wp2_with fail
      exact bodyPost_ret (v := vW x y th0 tg) (by simp [results, Try.results138, go_sem]) rfl ⟨rfl, ((Below.refl _ _).alloc (Nat.le_refl _) _).alloc (by simp) _⟩
  · have hr : wrO o x th0 tg0 th tg = x := if_neg fun e => h1 e.1
    rw [hr]; clear hr
    go_enter Try.func138, Try.ntmps138
    go_wp2_with fail
    exact bodyPost_ret (v := vW x y th tg) (by simp [results, Try.results138, go_sem]) rfl ⟨rfl, ((Below.refl _ _).alloc (Nat.le_refl _) _).alloc (by simp) _⟩
theorem cleanC : 
    Calls Try.prog 129 #[vW o x th0 tg0] w fun e w' => e = .returned (vW (cutI x) (cutI x) 0 0) ∧ Below w.heap.size w w' := by
  go_enter Try.func129, Try.ntmps129
  go_wp2_with fail
  refine (of_any x _).mono ?_; rintro e w1 ⟨rfl, hb1⟩
  have B1 : Blk w1 (w.heap.size + 1) 186 #[.int .i64 0, .int .i64 0, .int .i64 0, .int .i64 0] := (new_next w _ _ _ _).below hb1 (by simp)
  have hl := B1.lt
  have hp := B1.frozen
  have d0 := B1.cell 0
  have d1 := B1.cell 1
  have d2 := B1.cell 2
  have d3 := B1.cell 3
  have f0 := hp 0
  have f1 := hp 1
  have f2 := hp 2
  have f3 := hp 3
  clear hp
  have HB := Lib.hid B1
  have B0 := Lib.hid (keepL (((Below.refl w.heap.size w).alloc (Nat.le_refl _) _).alloc (by simp) _) hb1)
  clear hb1 B1
  go_wp2_with fail
  obtain ⟨b0, b1, b2, b3⟩ := (HB.out.four (.int .i64 (cutI x)) (.int .i64 (cutI x)) (.int .i64 0) (.int .i64 0)).cells4
  exact bodyPost_ret (v := vW (cutI x) (cutI x) 0 0) (by simp [results, Try.results129, go_sem, b0, b1, b2, b3]) rfl ⟨rfl, (((B0.out.setCell (by simp) _).setCell (by simp) _).setCell (by simp) _).setCell (by simp) _⟩

theorem unpack_is {v : Int} (h : IsW v o x th tg) (hv : rightV v = true) :
    Calls Try.prog 140 #[.int .u64 v] w fun e w' => e = .returned (.tuple #[vW o x th tg, .int .i64 0]) ∧ Below w.heap.size w w' := by
  have e := h.bits hv
  have hR := h.right
  clear h hv
  subst e
  exact unpack_w o x th tg w hR

set_option maxHeartbeats 1000000 in
theorem change_write (hP : Blk w pb 30 #[.int .i64 th, .int .i64 tg]) (hX : Blk w xb 3 #[.int .i64 y]) (A : Ar w p g n cap c f) (hk : k < n) (hI : IsW (f k) o x th0 tg0) (hv : rightV (f k) = true) (hr : rightW (wrO o x th0 tg0 th tg) y th tg = true) (hm : CB c m) (hb : m ≤ 99999990) :
    Calls Try.prog 128 #[.iface 84 (pmV p), .int .i64 (k : Int), .func (.func 138) #[] #[.pointer (some ⟨pb, 0, none⟩), .pointer (some ⟨xb, 0, none⟩)]] w fun e w' =>
      e = .returned (.tuple #[]) ∧ Ar w' p g n cap (upd (upd c 0 (c 0 + 1)) 1 (upd c 0 (c 0 + 1) 1 + 1)) (upd f k (bitsW (wrO o x th0 tg0 th tg) y th tg)) ∧ Only p g w w' := by
  have ml := methp_load
  have nl := nilp_load
  have ms := methp_store
  have ns := nilp_store
  obtain ⟨bd0, bd1, _⟩ := bitsW_parts hr
  have HA := Lib.hid A
  have HM := Lib.hid hm
  have HI := Lib.hid hI
  have HV := Lib.hid hv
  have HR := Lib.hid hr
  have HP := Lib.hid hP
  have HX := Lib.hid hX
  clear A hm hI hv hr hP hX
  go_enter Try.func128, Try.ntmps128
  go_wp2_with fail
  refine (pm_load HA.out hk HM.out (by omega)).mono ?_; rintro e w1 ⟨rfl, A1, O1⟩
  have HP1 := Lib.hid (HP.out.arena HA.out O1 (by decide) (by decide))
  have HX1 := Lib.hid (HX.out.arena HA.out O1 (by decide) (by decide))
  have HA1 := Lib.hid A1
  have HO1 := Lib.hid O1
  clear A1 O1
  go_wp2_with fail
  refine (unpack_is HI.out HV.out).mono ?_; rintro e w2 ⟨rfl, hb2⟩
  have HP2 := Lib.hid (HP1.out.later hb2)
  have HX2 := Lib.hid (HX1.out.later hb2)
  have HA2 := Lib.hid (HA1.out.below hb2 (Nat.le_refl _))
  have HO2 := Lib.hid (HO1.out.trans (Only.of_below hb2))
  clear hb2
  go_wp2_with fail
  refine (writeC (HP2.out.alloc _) (HX2.out.alloc _)).mono ?_; rintro e w3 ⟨rfl, hb3⟩
  have HA3 := Lib.hid ((HA2.out.alloc _).below hb3 (Nat.le_refl _))
  have HO3 := Lib.hid ((HO2.out.alloc _).trans (Only.of_below hb3))
  clear hb3
  go_wp2_with fail
  refine (pack_w _ _ _ _ _ HR.out).mono ?_; rintro e w4 ⟨rfl, hb4⟩
  have HA4 := Lib.hid (HA3.out.below hb4 (Nat.le_refl _))
  have HO4 := Lib.hid (HO3.out.trans (Only.of_below hb4))
  clear hb4
  go_wp2_with fail
  refine (pm_store HA4.out hk bd0 bd1 (HM.out.upd 0) (by omega)).mono ?_; rintro e w5 ⟨rfl, A5, O5⟩
  go_wp2_with fail
  go_end0
  exact ⟨rfl, A5, HO4.out.trans O5⟩
end
end Go.Proofs.Ytaooglagddphnaa

/- Contracts of Write, Clean, Begin, Commit and End. -/
namespace Go.Proofs.Ytaooglagddphnaa
open Go.RowKit

set_option maxRecDepth 100000

theorem cutI_in {x : Int} (h1 : 0 ≤ x) (h2 : x ≤ 65535) : cutI x = x := by unfold cutI; rw [if_neg (by omega), if_pos h2]
theorem right_plain {x : Int} (h1 : 0 ≤ x) (h2 : x ≤ 65535) : rightW x x 0 0 = true := by rw [rightW_eq]; exact decide_eq_true (by omega)

section
variable {w : World} {p g n cap k m t pb xb : Nat} {c f : Nat → Int} {o x th0 tg0 th tg V T y : Int} {S : Nat}

set_option maxHeartbeats 1000000 in
theorem change_clean (A : Ar w p g n cap c f) (hk : k < n) (hI : IsW (f k) o x th0 tg0) (hv : rightV (f k) = true) (hm : CB c m) (hb : m ≤ 99999990) :
    Calls Try.prog 128 #[.iface 84 (pmV p), .int .i64 (k : Int), .func (.func 129) #[] #[]] w fun e w' =>
      e = .returned (.tuple #[]) ∧ Ar w' p g n cap (upd (upd c 0 (c 0 + 1)) 1 (upd c 0 (c 0 + 1) 1 + 1)) (upd f k (bitsW x x 0 0)) ∧ Only p g w w' := by
  have ml := methp_load
  have nl := nilp_load
  have ms := methp_store
  have ns := nilp_store
  obtain ⟨h1, h2, h3, h4, h5, h6, h7, h8⟩ := right_bd hI.right
  have hr := right_plain h3 h4
  have HC := Lib.hid (cutI_in h3 h4)
  obtain ⟨bd0, bd1, _⟩ := bitsW_parts hr
  have HA := Lib.hid A
  have HM := Lib.hid hm
  have HI := Lib.hid hI
  have HV := Lib.hid hv
  have HR := Lib.hid hr
  clear A hm hI hv hr h1 h2 h5 h6 h7 h8
  go_enter Try.func128, Try.ntmps128
  go_wp2_with fail
  refine (pm_load HA.out hk HM.out (by omega)).mono ?_; rintro e w1 ⟨rfl, A1, O1⟩
  have HA1 := Lib.hid A1
  have HO1 := Lib.hid O1
  clear A1 O1
  go_wp2_with fail
  refine (unpack_is HI.out HV.out).mono ?_; rintro e w2 ⟨rfl, hb2⟩
  have HA2 := Lib.hid (HA1.out.below hb2 (Nat.le_refl _))
  have HO2 := Lib.hid (HO1.out.trans (Only.of_below hb2))
  clear hb2
  go_wp2_with fail
  refine (cleanC (o := o) (x := x) (th0 := th0) (tg0 := tg0)).mono ?_; rintro e w3 ⟨rfl, hb3⟩; rw [HC.out]
  have HA3 := Lib.hid ((HA2.out.alloc _).below hb3 (Nat.le_refl _))
  have HO3 := Lib.hid ((HO2.out.alloc _).trans (Only.of_below hb3))
  clear hb3
  go_wp2_with fail
  refine (pack_w _ _ _ _ _ HR.out).mono ?_; rintro e w4 ⟨rfl, hb4⟩
  have HA4 := Lib.hid (HA3.out.below hb4 (Nat.le_refl _))
  have HO4 := Lib.hid (HO3.out.trans (Only.of_below hb4))
  clear hb4
  go_wp2_with fail
  refine (pm_store HA4.out hk bd0 bd1 (HM.out.upd 0) (by omega)).mono ?_; rintro e w5 ⟨rfl, A5, O5⟩
  go_wp2_with fail
  go_end0
  exact ⟨rfl, A5, HO4.out.trans O5⟩

theorem write_yes (A : Ar w p g n cap c f) (hk : k < n) (hI : IsW (f k) o x th0 tg0) (hv : rightV (f k) = true) (hr : rightW (wrO o x th0 tg0 th tg) y th tg = true) (hm : CB c m) (hb : m ≤ 99999990) :
    Calls Try.prog 126 #[vP th tg, .iface 84 (pmV p), .int .i64 (k : Int), .int .i64 y] w fun e w' =>
      e = .returned (.tuple #[]) ∧ Ar w' p g n cap (upd (upd c 0 (c 0 + 1)) 1 (upd c 0 (c 0 + 1) 1 + 1)) (upd f k (bitsW (wrO o x th0 tg0 th tg) y th tg)) ∧ Only p g w w' := by
  have HA := Lib.hid A
  have HM := Lib.hid hm
  have HI := Lib.hid hI
  have HV := Lib.hid hv
  have HR := Lib.hid hr
  clear A hm hI hv hr
  go_enter Try.func126, Try.ntmps126
  go_wp2_with fail
  refine (change_write ((Blk.new w 30 #[.int .i64 th, .int .i64 tg]).alloc _) (new_next w _ _ _ _) ((HA.out.alloc _).alloc _) hk HI.out HV.out HR.out HM.out hb).mono ?_; rintro e w1 ⟨rfl, A1, O1⟩
  go_wp2_with fail
  go_end0
  exact ⟨rfl, A1, (((Only.refl p g w).alloc _).alloc _).trans O1⟩

theorem clean_yes (A : Ar w p g n cap c f) (hk : k < n) (hI : IsW (f k) o x th0 tg0) (hv : rightV (f k) = true) (hm : CB c m) (hb : m ≤ 99999990) :
    Calls Try.prog 110 #[vP th tg, .iface 84 (pmV p), .int .i64 (k : Int)] w fun e w' =>
      e = .returned (.tuple #[]) ∧ Ar w' p g n cap (upd (upd c 0 (c 0 + 1)) 1 (upd c 0 (c 0 + 1) 1 + 1)) (upd f k (bitsW x x 0 0)) ∧ Only p g w w' := by
  have HA := Lib.hid A
  have HM := Lib.hid hm
  have HI := Lib.hid hI
  have HV := Lib.hid hv
  clear A hm hI hv
  go_enter Try.func110, Try.ntmps110
  go_wp2_with fail
  refine (change_clean (HA.out.alloc _) hk HI.out HV.out HM.out hb).mono ?_; rintro e w1 ⟨rfl, A1, O1⟩
  go_wp2_with fail
  go_end0
  exact ⟨rfl, A1, ((Only.refl p g w).alloc _).trans O1⟩

end
end Go.Proofs.Ytaooglagddphnaa

/- Lists of numbers in slices that may be cut ahead: what they hold, and what append makes of them. -/
namespace Go.Proofs.Ytaooglagddphnaa
open Go.RowKit

set_option maxRecDepth 100000

theorem info_i : (Try.prog.info? 3).map (fun i => (i.zero, i.size, i.bytes)) = some (some (.int .i64 0), 1, 8) := by kernel_rfl

/-- The block of a slice that has room for anything. -/
def bk : Value → Option Nat
  | .slice (some a) _ (_ + 1) => some a.block
  | _ => none
theorem bk_some {b off n cap : Nat} (h : 0 < cap) : bk (.slice (some ⟨b, off, none⟩) n cap) = some b := by
  cases cap with
  | zero => omega
  | succ c => rfl
theorem bk_zero (a : Option Addr) (n : Nat) : bk (.slice a n 0) = none := by cases a <;> rfl

/-- A slice holds these numbers. -/
def LI (w : World) (v : Value) (l : List Nat) : Prop :=
  ∃ a cap, v = .slice a l.length cap ∧ cap ≤ maxLen ∧ l.length ≤ cap ∧ (a = none → cap = 0) ∧
    (0 < cap → ∃ b off zs, a = some ⟨b, off, none⟩ ∧ Blk w b 3 zs ∧ off + cap ≤ zs.size ∧ ∀ (k x : Nat), l[k]? = some x → zs[off + k]? = some (.int .i64 (x : Int)))

section
variable {w w' : World} {v : Value} {l : List Nat}
theorem LI.nil (w : World) : LI w (.slice none 0 0) [] := ⟨none, 0, rfl, by simp [maxLen], Nat.le_refl _, fun _ => rfl, fun h => absurd h (Nat.lt_irrefl _)⟩
theorem LI.keep (h : LI w v l) (hb : ∀ b, bk v = some b → w'.heap[b]? = w.heap[b]?) : LI w' v l := by
  obtain ⟨a, cap, rfl, h1, h2, h3, h4⟩ := h
  refine ⟨a, cap, rfl, h1, h2, h3, fun hc => ?_⟩
  obtain ⟨b, off, zs, rfl, hz, rest⟩ := h4 hc
  exact ⟨b, off, zs, rfl, (hb b (bk_some hc)).trans hz, rest⟩
theorem LI.lt (h : LI w v l) : ∀ b, bk v = some b → b < w.heap.size := by
  intro b hb
  obtain ⟨a, cap, rfl, h1, h2, h3, h4⟩ := h
  rcases Nat.eq_zero_or_pos cap with rfl | hc
  · rw [bk_zero] at hb; cases hb
  · obtain ⟨b', off, zs, rfl, hz, rest⟩ := h4 hc
    rw [bk_some hc] at hb
    cases hb
    exact hz.lt
theorem LI.alloc (h : LI w v l) (o : Obj) : LI (w.alloc o) v l := h.keep fun b hb => Below.heap_alloc w o b (h.lt b hb)
theorem LI.drew (h : LI w v l) : LI w.drew v l := h
theorem LI.below (h : LI w v l) (hb : Below w.heap.size w w') : LI w' v l := h.keep fun b hb' => hb.block b (h.lt b hb')
theorem LI.only {p g : Nat} (h : LI w v l) (ho : Only p g w w') (h1 : bk v ≠ some p) (h2 : bk v ≠ some g) : LI w' v l :=
  h.keep fun b hb => ho.block b (h.lt b hb) (by rintro rfl; exact h1 hb) (by rintro rfl; exact h2 hb)
/-- It isn't a block of another type. -/
theorem LI.ne_blk (h : LI w v l) {i : Nat} {ty : TypeId} {cs : Array Value} (hi : Blk w i ty cs) (hty : 3 ≠ ty) : bk v ≠ some i := by
  intro e
  obtain ⟨a, cap, rfl, h1, h2, h3, h4⟩ := h
  rcases Nat.eq_zero_or_pos cap with rfl | hc
  · rw [bk_zero] at e; cases e
  · obtain ⟨b', off, zs, rfl, hz, rest⟩ := h4 hc
    rw [bk_some hc] at e
    cases e
    exact hz.ne_ hi hty rfl
theorem LI.onlyA {p g n cap : Nat} {c f : Nat → Int} (h : LI w v l) (A : Ar w p g n cap c f) (ho : Only p g w w') : LI w' v l := by
  obtain ⟨zs, hz, _⟩ := A.cells
  exact h.only ho (h.ne_blk A.own (by decide)) (h.ne_blk hz (by decide))
theorem LI.shape (h : LI w v l) : ∃ a cap, v = .slice a l.length cap ∧ l.length ≤ cap ∧ cap ≤ maxLen := by
  obtain ⟨a, cap, rfl, h1, h2, _⟩ := h
  exact ⟨a, cap, rfl, h2, h1⟩
theorem LI.of_owns {base : Nat} {v : Value} (h : w.ownsRow base 3 1 v l.length (l.map fun s : Nat => Value.int .i64 (s : Int))) : LI w v l ∧ ∀ b, bk v = some b → base ≤ b := by
  rcases h.2 with ⟨rfl, h0⟩ | ⟨g, cap, cur, rfl, hg, hh, hnc, hcm, hcs, htake⟩
  · have : l = [] := List.eq_nil_of_length_eq_zero h0
    subst this
    exact ⟨LI.nil w, fun b hb => by simp [bk] at hb⟩
  · refine ⟨⟨some ⟨g, 0, none⟩, cap, rfl, hcm, hnc, (by intro e; cases e), fun hc => ⟨g, 0, cur, rfl, hh, by omega, fun k x hk => ?_⟩⟩, fun b hb => ?_⟩
    · have hk' := (List.getElem?_eq_some_iff.1 hk).1
      have h1 : (cur.toList.take (l.length * 1))[k]? = some (.int .i64 (x : Int)) := by rw [htake]; simp [hk]
      rw [List.getElem?_take_of_lt (by omega)] at h1
      simpa using h1
    · rcases Nat.eq_zero_or_pos cap with rfl | hc
      · rw [bk_zero] at hb; cases hb
      · rw [bk_some hc] at hb; cases hb; exact hg
end

/-- append of one number. -/
theorem wpList_append_li (w : World) {ops : Array Oper} {rest : List Oper} {o : Oper} {a : Act} {Q : Exit → Act → World → Prop} (hgd : o.guard = none) (s x : Operand)
    (ho : o.op = .call { callee := .builtin .append, args := #[s, x], argTypes := #[60, 60] })
    {v : Value} {l : List Nat} (hs : a.eval s = v) (h : LI w v l) (ad : Addr) (c z : Nat) (hx : a.eval x = .slice (some ad) 1 c) (hc : w.cell? (ad.add 0) = some (.int .i64 (z : Int))) (hl : l.length ≤ 100000)
    (hK : ∀ v' w', LI w' v' (l ++ [z]) → w.grownBy w' (bk v) → (bk v' = bk v ∨ ∃ k, bk v' = some k ∧ w.heap.size ≤ k) → wpList Try.prog ops Q rest (a.put o.dst v') w') : wpList Try.prog ops Q (o :: rest) a w := by
  obtain ⟨i0, hi0, hz0, hz1, hz2⟩ := info_parts info_i
  have hnews : ∀ (j : Nat) (u : Value), [Value.int .i64 (z : Int)][j]? = some u → w.cell? (ad.add j) = some u := by
    intro j u hj
    match j, hj with
    | 0, hj => simp at hj; subst hj; exact hc
  have hone : ∀ u ∈ [Value.int .i64 (z : Int)], u.oneCell' = true := by simp; rfl
  obtain ⟨ao, cap, rfl, h1, h2, h3, h4⟩ := h
  have fresh : ∀ v' w', w'.ownsRow w.heap.size 3 1 v' (l.length + 1) ((l.map fun s : Nat => Value.int .i64 (s : Int)) ++ [.int .i64 (z : Int)]) → w.grownBy w' none → wpList Try.prog ops Q rest (a.put o.dst v') w' := by
    intro v' w' hown hgrow
    have hown' : w'.ownsRow w.heap.size 3 1 v' (l ++ [z]).length ((l ++ [z]).map fun s : Nat => Value.int .i64 (s : Int)) := by simpa using hown
    obtain ⟨hli, hb⟩ := LI.of_owns hown'
    refine hK v' w' hli ⟨hgrow.os, hgrow.tape, hgrow.output, hgrow.size, fun k hk _ => hgrow.block k hk (by simp)⟩ ?_
    cases e : bk v' with
    | none =>
      exfalso
      obtain ⟨a', cap', rfl, g1, g2, g3, g4⟩ := hli
      obtain ⟨b', off', zs', rfl, _⟩ := g4 (by simp at g2; omega)
      rw [bk_some (by simp at g2; omega)] at e
      cases e
    | some k => exact .inr ⟨k, rfl, hb k e⟩
  rcases Nat.eq_zero_or_pos cap with rfl | hcap
  · have hl0 : l = [] := List.eq_nil_of_length_eq_zero (by omega)
    subst hl0
    exact wpList_append_grows w hgd s x 60 ho 3 i0 _ 1 8 Try.underlying60 hi0 hz0 hz1 hz2 rfl (by omega) ao 0 0 [] hs (fun _ => ⟨rfl, rfl⟩) rfl (fun b _ j u hj => by simp at hj)
      ad 1 c [.int .i64 (z : Int)] hx rfl hnews hone (by omega) (by simp [maxLen]) (by omega) (fun v' w' h1 h2 => fresh v' w' (by simpa using h1) h2)
  · obtain ⟨b, off, zs, rfl, hz, hsz, hel⟩ := h4 hcap
    refine wpList_append_arg w hgd s x 60 ho 3 i0 _ 1 8 Try.underlying60 hi0 hz0 hz1 hz2 rfl (by omega) b off l.length cap (l.map fun s : Nat => Value.int .i64 (s : Int)) hs (by simp) ?_
      ad 1 c [.int .i64 (z : Int)] hx rfl hnews hone ?_ (by simp only [maxLen]; omega) (by omega) ?_ ?_
    · intro j u hj
      obtain ⟨x', hx', rfl⟩ : ∃ x', l[j]? = some x' ∧ u = .int .i64 (x' : Int) := by
        simp only [List.getElem?_map, Option.map_eq_some_iff] at hj
        obtain ⟨y, hy, e⟩ := hj
        exact ⟨y, hy, e.symm⟩
      exact (hz.cell _).trans (hel j x' hx')
    · intro hroom j hj
      have : j = 0 := by simpa using hj
      subst this
      refine ⟨?_, hz.frozen _⟩
      rw [hz.cell, Array.getElem?_eq_getElem (by omega)]
      rfl
    · intro hroom
      refine hK _ _ ?_ ?_ (.inl ?_)
      · refine ⟨some ⟨b, off, none⟩, cap, by simp, h1, by simp; omega, (by intro e; cases e), fun _ => ⟨b, off, _, rfl, hz.set_ (off + l.length * 1) (.int .i64 (z : Int)), by simp; omega, fun k y hk => ?_⟩⟩
        by_cases e : k = l.length
        · subst e
          have : y = z := by simpa using hk.symm
          subst this
          rw [Nat.mul_one, Array.getElem?_setIfInBounds_self_of_lt (by omega)]
        · have hlt : k < l.length := by have := (List.getElem?_eq_some_iff.1 hk).1; simp at this; omega
          rw [List.getElem?_append_left hlt] at hk
          rw [Array.getElem?_setIfInBounds_ne (by omega)]
          exact hel k y hk
      · rw [bk_some hcap]
        exact ⟨rfl, rfl, rfl, by simp [World.setCells, World.setCell], fun k hk hne => Below.heap_setCell w ⟨b, off + l.length * 1, none⟩ _ k (by rintro rfl; exact hne rfl)⟩
      · rw [bk_some hcap, bk_some hcap]
    · exact fun hgrow v' w' h1 h2 => fresh v' w' h1 h2

/-- How long a slice is. -/
def lenV : Value → Nat
  | .slice _ n _ => n
  | _ => 0

theorem cell_new1 (w : World) (x : Value) (t : TypeId) : (w.alloc (.cells #[x] t)).cell? ((⟨w.heap.size, 0, none⟩ : Addr).add 0) = some x := by
  rw [Addr.add_lit]; exact (Blk.new w t #[x]).cell 0

section
variable {w w' w0 : World} {r : Option Nat} {i p g n cap : Nat} {t : TypeId} {cs : Array Value} {c f : Nat → Int}
theorem Blk.grown (h : Blk w i t cs) (hg : w.grownBy w' r) (hne : r ≠ some i) : Blk w' i t cs := (hg.block i h.lt (fun e => hne e.symm)).trans h
theorem Ar.grown (A : Ar w p g n cap c f) (hg : w.grownBy w' r) (h1 : r ≠ some p) (h2 : r ≠ some g) : Ar w' p g n cap c f := by
  obtain ⟨zs, hz, he⟩ := A.cells
  exact ⟨A.own.grown hg h1, ⟨zs, hz.grown hg h2, he⟩, A.le, A.few, A.fit⟩
theorem Only.grown (h : Only p g w0 w) (hg : w.grownBy w' r) (hr : ∀ i, r = some i → w0.heap.size ≤ i) : Only p g w0 w' :=
  ⟨hg.os.trans h.os, hg.tape.trans h.tape, hg.output.trans h.output, Nat.le_trans h.size hg.size, fun i hi h1 h2 => (hg.block i (Nat.lt_of_lt_of_le hi h.size) (fun e => by have := hr i e.symm; omega)).trans (h.block i hi h1 h2)⟩
end

end Go.Proofs.Ytaooglagddphnaa

/- Lists of plain numbers in slices of uint64. Printed by wip/tools/liu.py. -/
namespace Go.Proofs.Ytaooglagddphnaa
open Go.RowKit

set_option maxRecDepth 100000


end Go.Proofs.Ytaooglagddphnaa
