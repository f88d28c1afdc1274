/- Walk of CellOnce. -/
import Derived.Test.YtbcocchmbkghoaaCellE
namespace Go.Proofs.Ytbcocchmbkghoaa
open Go.RowKit

/-- What the walk is told of a slice of integers that came in. -/
def IsRow (k : IntKind) (w : World) (a : Option Addr) (len cap : Nat) (zs : List Int) : Prop :=
  (a = none ∧ len = 0 ∧ cap = 0 ∧ zs = []) ∨
  ∃ x, a = some x ∧ len ≤ cap ∧ cap ≤ maxLen ∧ zs.length = cap ∧ (∀ i, i < zs.length → w.cell? (x.add i) = some (.int k (zs.getD i 0))) ∧ ∀ n ∈ zs, (Lit.int k n).wf = true

theorem isRow_at64 {w : World} {a : Option Addr} {len cap : Nat} {zs : List Int} (h : IsRow .u64 w a len cap zs) {k : Nat} (hk : k < len) :
    ∃ (b off : Nat) (z : Int), a = some ⟨b, off, none⟩ ∧ w.cell? ⟨b, off + k, none⟩ = some (.int .u64 z) ∧ 0 ≤ z ∧ z ≤ 18446744073709551615 := by
  rcases h with ⟨_, h0, _⟩ | ⟨x, rfl, hl, _, hz, hcell, hwz⟩
  · omega
  · obtain ⟨b, off, spot⟩ := x
    have hc := hcell k (by omega)
    have hc0 := hcell 0 (by omega)
    have hspot : spot = none := by simpa [Addr.add] using World.cell?_spot hc0
    subst hspot
    have r := range_u64 hwz k
    rw [Addr.add_lit] at hc
    refine ⟨b, off, zs.getD k 0, rfl, hc, ?_, ?_⟩
    · simpa using r.1
    · simpa using r.2

set_option maxHeartbeats 4000000 in
theorem cellOnce_long (v : Int) (a : Option Addr) (len cap : Nat) (w : World) (h60 : (60 : Int) < (len : Int)) :
    Calls Try.prog 5 #[.int .u64 v, .slice a len cap] w fun e w' => e = .returned (.bool true) ∧ Below w.heap.size w w' := by
  go_enter Try.func5, Try.ntmps5
  go_wp2_with fail
  refine (awake_any _).mono ?_; rintro e w3 ⟨rfl, hb3⟩
  go_wp2_with fail
  go_ret
  exact ⟨rfl, hb3⟩

/-- What holds at each round's head. -/
def OnceRel (v : Int) (len : Nat) (w : World) (done i : Value) (wr : World) : Prop :=
  ∃ (k : Nat) (s : Bool) (c f : Nat → Int), k ≤ len ∧ i = .int .i64 k ∧ done = .bool s ∧ (f 0 == v) = !s ∧ CB c (k + 1) ∧ Ar wr (w.heap.size + 1) w.heap.size 1 1 c f ∧ Below w.heap.size w wr

set_option maxRecDepth 100000 in
set_option maxHeartbeats 8000000 in
theorem cellOnce_main (v : Int) (hv0 : 0 ≤ v) (hv1 : v ≤ 18446744073709551615) (a : Option Addr) (len cap : Nat) (zs : List Int) (w : World) (h60 : (len : Int) ≤ 60) (hs : IsRow .u64 w a len cap zs) :
    Calls Try.prog 5 #[.int .u64 v, .slice a len cap] w fun e w' => e = .returned (.bool true) ∧ Below w.heap.size w w' := by
  have HS := Lib.hid hs; clear hs
  go_enter Try.func5, Try.ntmps5
  go_wp2_with fail
  refine (new_yes 1 _ (by omega)).mono ?_; rintro e w1 ⟨rfl, A1, B1⟩
  go_wp2_with fail
  refine (store_yes A1 (k := 0) (by omega) hv0 hv1 few0 (by omega)).mono ?_; rintro e w2 ⟨rfl, A2, O2⟩
  go_wp2_with fail
  have B2 : Below w.heap.size w w2 := O2.below B1 B1.size (by omega) (by omega)
  clear B1 O2 A1
  go_loopw [7, 34] (fun done i wr => OnceRel v len w done i wr) (fun _ i _ => len - (intOf i).toNat)
  case atStart => exact ⟨0, false, _, _, Nat.zero_le _, rfl, rfl, by simp [upd_same], few0.upd 1, A2, B2⟩
  case round =>
    clear B2 A2
    obtain ⟨k, s, c, f, hk, rfl, rfl, hf, hm, A, B⟩ := hrel
    have HF := Lib.hid hf; clear hf
    by_cases hlt : k < len
    · obtain ⟨b, off, z, rfl, hcz, hz1, hz2⟩ := isRow_at64 HS.out hlt
      have hcw : wr.cell? ⟨b, off + k, none⟩ = some (.int .u64 z) := cell_later B hcz
      clear hcz
      by_cases hzv : z = v
      · have e1 : (z == v) = true := beq_iff_eq.2 hzv
        clear hzv
        go_wp2_with fail
        exact ⟨⟨k + 1, s, c, f, by omega, by go_num, rfl, HF.out, hm.more (by omega), A, B⟩, by simp [intOf]; omega⟩
      · have e1 : (z == v) = false := beq_eq_false_iff_ne.2 hzv
        have HZ := Lib.hid e1
        clear hzv
        cases s
        · go_wp2_with (refine (swap_hit A (k := 0) (by omega) HF.out hz1 hz2 hm (by omega)).mono ?_; rintro e w3 ⟨rfl, A3, O3⟩)
          exact ⟨⟨k + 1, true, _, _, by omega, by go_num, rfl, by rw [upd_same]; exact HZ.out, hm.upd 2, A3, O3.below B B.size (by omega) (by omega)⟩, by simp [intOf]; omega⟩
        · go_wp2_with (refine (swap_miss A (k := 0) (by omega) HF.out hm (by omega)).mono ?_; rintro e w3 ⟨rfl, A3, O3⟩)
          exact ⟨⟨k + 1, true, _, _, by omega, by go_num, rfl, HF.out, hm.upd 3, A3, O3.below B B.size (by omega) (by omega)⟩, by simp [intOf]; omega⟩
    · go_wp2_with (refine (awake_any _).mono ?_; rintro e w9 ⟨rfl, hb9⟩)
      go_ret
      exact ⟨rfl, keepB B hb9⟩

theorem cellOnce_walk (v : Int) (hv0 : 0 ≤ v) (hv1 : v ≤ 18446744073709551615) (a : Option Addr) (len cap : Nat) (zs : List Int) (w : World) (hs : IsRow .u64 w a len cap zs) :
    Calls Try.prog 5 #[.int .u64 v, .slice a len cap] w fun e w' => e = .returned (.bool true) ∧ Below w.heap.size w w' := by
  by_cases h60 : (60 : Int) < (len : Int)
  · exact cellOnce_long v a len cap w h60
  · exact cellOnce_main v hv0 hv1 a len cap zs w (by omega) hs
end Go.Proofs.Ytbcocchmbkghoaa
