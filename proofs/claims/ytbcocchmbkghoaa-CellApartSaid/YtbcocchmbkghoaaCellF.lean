/- A slice of calls that came in, and what playing them makes of an arena; the walk of the inner function of CellCopies. -/
import Derived.Test.YtbcocchmbkghoaaCellE
namespace Go.Proofs.Ytbcocchmbkghoaa
open Go.RowKit

/-- One call: its kind, its cell, and two numbers. -/
structure OpV where
  k : Int
  i : Int
  a : Int
  v : Int

/-- What the walk is told of a slice of calls that came in. -/
def IsOps (w : World) (a : Option Addr) (len : Nat) (q : Nat → OpV) : Prop :=
  0 < len → ∃ b off, a = some ⟨b, off, none⟩ ∧ ∀ k, k < len →
    w.cell? ⟨b, off + k * 4, none⟩ = some (.int .i64 (q k).k) ∧ w.cell? ⟨b, off + k * 4 + 1, none⟩ = some (.int .i64 (q k).i) ∧
    w.cell? ⟨b, off + k * 4 + 2, none⟩ = some (.int .u64 (q k).a) ∧ w.cell? ⟨b, off + k * 4 + 3, none⟩ = some (.int .u64 (q k).v) ∧
    (-9223372036854775808 ≤ (q k).k ∧ (q k).k ≤ 9223372036854775807) ∧ (-9223372036854775808 ≤ (q k).i ∧ (q k).i ≤ 9223372036854775807) ∧
    (0 ≤ (q k).a ∧ (q k).a ≤ 18446744073709551615) ∧ (0 ≤ (q k).v ∧ (q k).v ≤ 18446744073709551615)

abbrev St := (Nat → Int) × (Nat → Int)

/-- What one access makes of counts and numbers. -/
def stLoad (n : Nat) (i : Int) (s : St) : St := if 0 ≤ i ∧ i < n then (upd s.1 0 (s.1 0 + 1), s.2) else s
def stStore (n : Nat) (i v : Int) (s : St) : St := if 0 ≤ i ∧ i < n then (upd s.1 1 (s.1 1 + 1), upd s.2 i.toNat v) else s
def stSwap (n : Nat) (i a v : Int) (s : St) : St :=
  if 0 ≤ i ∧ i < n then (if s.2 i.toNat = a then (upd s.1 2 (s.1 2 + 1), upd s.2 i.toNat v) else (upd s.1 3 (s.1 3 + 1), s.2)) else s
def stAdd (n : Nat) (i v : Int) (s : St) : St := if 0 ≤ i ∧ i < n then (upd s.1 4 (s.1 4 + 1), upd s.2 i.toNat (sumU (s.2 i.toNat) v)) else s

/-- An access, whatever it answered. -/
def Stepped (p g n cap m : Nat) (s' : St) (w : World) (e : Ending) (w' : World) : Prop := ∃ r, e = .returned r ∧ Ar w' p g n cap s'.1 s'.2 ∧ CB s'.1 (m + 1) ∧ Only p g w w'

section
variable {p g n cap : Nat} {s : St} {w : World}
theorem load_st (A : Ar w p g n cap s.1 s.2) (i : Int) {m : Nat} (hm : CB s.1 m) (hb : m ≤ 1000000) :
    Calls Try.prog 14 #[.pointer (some ⟨p, 0, none⟩), .int .i64 i] w (Stepped p g n cap m (stLoad n i s) w) := by
  by_cases h : 0 ≤ i ∧ i < n
  · obtain ⟨k, rfl⟩ := Int.eq_ofNat_of_zero_le h.1
    have hk : k < n := by omega
    have e : stLoad n k s = (upd s.1 0 (s.1 0 + 1), s.2) := by unfold stLoad; rw [if_pos h]
    rw [e]
    exact (load_yes A hk hm hb).mono fun _ _ ⟨he, hA, hO⟩ => ⟨_, he, hA, hm.upd 0, hO⟩
  · have e : stLoad n i s = s := by unfold stLoad; rw [if_neg h]
    rw [e]
    exact (load_no A (by omega)).mono fun _ _ ⟨he, hw⟩ => ⟨_, he, hw ▸ A, hm.more (by omega), hw ▸ Only.refl _ _ _⟩
theorem store_st (A : Ar w p g n cap s.1 s.2) (i v : Int) (hv : 0 ≤ v ∧ v ≤ 18446744073709551615) {m : Nat} (hm : CB s.1 m) (hb : m ≤ 1000000) :
    Calls Try.prog 12 #[.pointer (some ⟨p, 0, none⟩), .int .i64 i, .int .u64 v] w (Stepped p g n cap m (stStore n i v s) w) := by
  by_cases h : 0 ≤ i ∧ i < n
  · obtain ⟨k, rfl⟩ := Int.eq_ofNat_of_zero_le h.1
    have hk : k < n := by omega
    have e : stStore n k v s = (upd s.1 1 (s.1 1 + 1), upd s.2 k v) := by unfold stStore; rw [if_pos h]; rfl
    rw [e]
    exact (store_yes A hk hv.1 hv.2 hm hb).mono fun _ _ ⟨he, hA, hO⟩ => ⟨_, he, hA, hm.upd 1, hO⟩
  · have e : stStore n i v s = s := by unfold stStore; rw [if_neg h]
    rw [e]
    exact (store_no A (by omega) v).mono fun _ _ ⟨he, hw⟩ => ⟨_, he, hw ▸ A, hm.more (by omega), hw ▸ Only.refl _ _ _⟩
theorem swap_st (A : Ar w p g n cap s.1 s.2) (i a v : Int) (hv : 0 ≤ v ∧ v ≤ 18446744073709551615) {m : Nat} (hm : CB s.1 m) (hb : m ≤ 1000000) :
    Calls Try.prog 15 #[.pointer (some ⟨p, 0, none⟩), .int .i64 i, .int .u64 a, .int .u64 v] w (Stepped p g n cap m (stSwap n i a v s) w) := by
  by_cases h : 0 ≤ i ∧ i < n
  · obtain ⟨k, rfl⟩ := Int.eq_ofNat_of_zero_le h.1
    have hk : k < n := by omega
    by_cases hx : s.2 k = a
    · have e : stSwap n k a v s = (upd s.1 2 (s.1 2 + 1), upd s.2 k v) := by unfold stSwap; rw [if_pos h, if_pos (show s.2 ((k : Int)).toNat = a from hx)]; rfl
      rw [e]
      exact (swap_hit A hk (beq_iff_eq.2 hx) hv.1 hv.2 hm hb).mono fun _ _ ⟨he, hA, hO⟩ => ⟨_, he, hA, hm.upd 2, hO⟩
    · have e : stSwap n k a v s = (upd s.1 3 (s.1 3 + 1), s.2) := by unfold stSwap; rw [if_pos h, if_neg (show ¬ s.2 ((k : Int)).toNat = a from hx)]
      rw [e]
      exact (swap_miss A hk (beq_eq_false_iff_ne.2 hx) hm hb).mono fun _ _ ⟨he, hA, hO⟩ => ⟨_, he, hA, hm.upd 3, hO⟩
  · have e : stSwap n i a v s = s := by unfold stSwap; rw [if_neg h]
    rw [e]
    exact (swap_no A (by omega) a v).mono fun _ _ ⟨he, hw⟩ => ⟨_, he, hw ▸ A, hm.more (by omega), hw ▸ Only.refl _ _ _⟩
theorem add_st (A : Ar w p g n cap s.1 s.2) (i v : Int) {m : Nat} (hm : CB s.1 m) (hb : m ≤ 1000000) :
    Calls Try.prog 16 #[.pointer (some ⟨p, 0, none⟩), .int .i64 i, .int .u64 v] w (Stepped p g n cap m (stAdd n i v s) w) := by
  by_cases h : 0 ≤ i ∧ i < n
  · obtain ⟨k, rfl⟩ := Int.eq_ofNat_of_zero_le h.1
    have hk : k < n := by omega
    have e : stAdd n k v s = (upd s.1 4 (s.1 4 + 1), upd s.2 k (sumU (s.2 k) v)) := by unfold stAdd; rw [if_pos h]; rfl
    rw [e]
    exact (add_yes A hk hm hb).mono fun _ _ ⟨he, hA, hO⟩ => ⟨_, he, hA, hm.upd 4, hO⟩
  · have e : stAdd n i v s = s := by unfold stAdd; rw [if_neg h]
    rw [e]
    exact (add_no A (by omega) v).mono fun _ _ ⟨he, hw⟩ => ⟨_, he, hw ▸ A, hm.more (by omega), hw ▸ Only.refl _ _ _⟩
end

theorem same_self (n : Nat) (f : Nat → Int) : sameB n f f = true := by unfold sameB; exact decide_eq_true fun _ _ => rfl

def stepC (n : Nat) (o : OpV) (s : St) : St :=
  if o.k = 2 then stStore n o.i o.v s else if o.k = 3 then stSwap n o.i o.a o.v s else if o.k = 4 then stAdd n o.i o.v s else s

def playC (n : Nat) (q : Nat → OpV) : Nat → St → St
  | 0, s => s
  | k + 1, s => stepC n (q k) (playC n q k s)

def DoRel (w : World) (p g n cap : Nat) (q : Nat → OpV) (len m : Nat) (s : St) (i : Value) (wr : World) : Prop :=
  ∃ k : Nat, k ≤ len ∧ i = .int .i64 k ∧ Ar wr p g n cap (playC n q k s).1 (playC n q k s).2 ∧ CB (playC n q k s).1 (m + k) ∧ Only p g w wr

set_option maxHeartbeats 4000000 in
theorem do_any {w0 : World} {p g n cap : Nat} {s : St} (w : World) (a : Option Addr) (len cp : Nat) (q : Nat → OpV) (hq : IsOps w0 a len q) (A : Ar w p g n cap s.1 s.2)
    (B : Below w0.heap.size w0 w) (hp : w0.heap.size ≤ p) (hg : w0.heap.size ≤ g) {m : Nat} (hm : CB s.1 m) (hb : m ≤ 1000) (hl : len ≤ 60) :
    Calls Try.prog 18 #[.pointer (some ⟨p, 0, none⟩), .slice a len cp] w fun e w' => e = .returned (.tuple #[]) ∧ Ar w' p g n cap (playC n q len s).1 (playC n q len s).2 ∧ CB (playC n q len s).1 (m + len) ∧ Only p g w w' := by
  have HQ := Lib.hid hq; clear hq
  go_enter Try.func18, Try.ntmps18
  go_wp2_with fail
  go_loopw [8] (fun i wr => DoRel w p g n cap q len m s i wr) (fun i _ => len - (intOf i).toNat)
  case atStart => exact ⟨0, Nat.zero_le _, rfl, A, hm, Only.refl _ _ _⟩
  case round =>
    have HB := Lib.hid B; clear B
    clear A hm
    obtain ⟨k, hk, rfl, A, hm, O⟩ := hrel
    by_cases hlt : k < len
    · obtain ⟨b, off, rfl, hcells⟩ := HQ.out (by omega)
      obtain ⟨x0, x1, x2, x3, f0, f1, f2, f3⟩ := hcells k hlt
      clear hcells
      have Bw : Below w0.heap.size w0 wr := O.below HB.out HB.out.size hp hg
      have y0 := cell_later Bw x0
      have y1 := cell_later Bw x1
      have y2 := cell_later Bw x2
      have y3 := cell_later Bw x3
      clear x0 x1 x2 x3
      have A' := A.alloc (.cells #[.int .i64 (q k).k, .int .i64 (q k).i, .int .u64 (q k).a, .int .u64 (q k).v] 34)
      have O' := O.alloc (.cells #[.int .i64 (q k).k, .int .i64 (q k).i, .int .u64 (q k).a, .int .u64 (q k).v] 34)
      by_cases t2 : (q k).k = 2
      · have HS : Hid (playC n q (k + 1) s = stStore n (q k).i (q k).v (playC n q k s)) := by show stepC _ _ _ = _; unfold stepC; rw [if_pos t2]
        have e2 : ((q k).k == 2) = true := beq_iff_eq.2 t2
        clear t2
        go_wp2_with (refine (store_st A' (q k).i (q k).v f3 hm (by omega)).mono ?_; rintro e w3 ⟨r, rfl, A3, m3, O3⟩)
        exact ⟨⟨k + 1, by omega, by go_num, by rw [HS.out]; exact A3, by rw [HS.out]; exact m3, O'.trans O3⟩, by simp [intOf]; omega⟩
      · have e2 : ((q k).k == 2) = false := beq_eq_false_iff_ne.2 t2
        by_cases t3 : (q k).k = 3
        · have HS : Hid (playC n q (k + 1) s = stSwap n (q k).i (q k).a (q k).v (playC n q k s)) := by show stepC _ _ _ = _; unfold stepC; rw [if_neg t2, if_pos t3]
          have e3 : ((q k).k == 3) = true := beq_iff_eq.2 t3
          clear t2 t3
          go_wp2_with (refine (swap_st A' (q k).i (q k).a (q k).v f3 hm (by omega)).mono ?_; rintro e w3 ⟨r, rfl, A3, m3, O3⟩)
          exact ⟨⟨k + 1, by omega, by go_num, by rw [HS.out]; exact A3, by rw [HS.out]; exact m3, O'.trans O3⟩, by simp [intOf]; omega⟩
        · have e3 : ((q k).k == 3) = false := beq_eq_false_iff_ne.2 t3
          by_cases t4 : (q k).k = 4
          · have HS : Hid (playC n q (k + 1) s = stAdd n (q k).i (q k).v (playC n q k s)) := by show stepC _ _ _ = _; unfold stepC; rw [if_neg t2, if_neg t3, if_pos t4]
            have e4 : ((q k).k == 4) = true := beq_iff_eq.2 t4
            clear t2 t3 t4
            go_wp2_with (refine (add_st A' (q k).i (q k).v hm (by omega)).mono ?_; rintro e w3 ⟨r, rfl, A3, m3, O3⟩)
            exact ⟨⟨k + 1, by omega, by go_num, by rw [HS.out]; exact A3, by rw [HS.out]; exact m3, O'.trans O3⟩, by simp [intOf]; omega⟩
          · have HS : Hid (playC n q (k + 1) s = playC n q k s) := by show stepC _ _ _ = _; unfold stepC; rw [if_neg t2, if_neg t3, if_neg t4]
            have e4 : ((q k).k == 4) = false := beq_eq_false_iff_ne.2 t4
            clear t2 t3 t4
            go_wp2_with fail
            exact ⟨⟨k + 1, by omega, by go_num, by rw [HS.out]; exact A', by rw [HS.out]; exact hm.more (by omega), O'⟩, by simp [intOf]; omega⟩
    · have hkl : k = len := by omega
      have HK := Lib.hid hkl; clear hkl
      go_wp2_with fail
      go_end0
      have hkl := HK.out
      subst hkl
      exact ⟨rfl, A, hm, O⟩
end Go.Proofs.Ytbcocchmbkghoaa
