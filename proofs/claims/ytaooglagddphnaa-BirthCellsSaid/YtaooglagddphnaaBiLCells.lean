/- The walk of BirthCells. -/
import Derived.Test.YtaooglagddphnaaBiW
namespace Go.Proofs.Ytaooglagddphnaa
open Go.RowKit

set_option maxRecDepth 100000

section
/-- Behind so many cells. -/
def CK15 (w0 : World) (V S T : Int) (p gb cap dl : Nat) (d : Nat → Nat) (n : Nat) (i : Value) (W : World) : Prop :=
  ∃ k, k ≤ n ∧ i = .int .i64 ((k : Nat) : Int) ∧ EM W V S T p gb cap (12000 + k) (bcX V S T dl d (nN V S + 1)) ∧ Only p gb w0 W
set_option maxHeartbeats 4000000 in
theorem lcells (V S T : Int) (da : Option Addr) (dl dc : Nat) (d : Nat → Nat) (w : World) (hD : IsNum w da dl d) :
    Calls Try.prog 7 #[vL V S T, .slice da dl dc] w fun e w' => e = .returned (.bool true) ∧ Below w.heap.size w w' := by
  have HB0 : Hid (Below w.heap.size w (w.alloc (.cells #[.int .i64 V, .int .i64 S, .int .i64 T] 23))) := Lib.hid ((Below.refl _ _).alloc (Nat.le_refl _) _)
  have HL0 : Hid (Blk (w.alloc (.cells #[.int .i64 V, .int .i64 S, .int .i64 T] 23)) w.heap.size 23 #[.int .i64 V, .int .i64 S, .int .i64 T]) := Lib.hid (Blk.new _ _ _)
  have HD0 := Lib.hid hD
  clear hD
  generalize hlb : w.heap.size = lb at HL0
  have HLB := Lib.hid hlb
  by_cases hr : rtB V S T = true
  · have HR := Lib.hid (rtB_yes hr)
    have HRB := Lib.hid hr
    clear hr
    by_cases h256 : 256 < dl
    · have hI : (256 : Int) < (dl : Int) := by omega
      have H256 := Lib.hid h256
      clear h256
      go_enter Try.func7, Try.ntmps7
      go_wp2_with fail
      clear hlb
      generalize w.alloc (.cells #[.int .i64 V, .int .i64 S, .int .i64 T] 23) = w1 at HB0 HL0 ⊢
      refine (new_many HR.out H256.out).mono ?_; rintro e w2 ⟨rfl, hb2⟩
      have HL2 := Lib.hid (HL0.out.below hb2 HL0.out.lt)
      have HB2 := Lib.hid (HB0.out.trans (hb2.mono HB0.out.size))
      clear HL0 HB0 hb2
      have l0 : w2.cell? ⟨lb, 0, none⟩ = some (.int .i64 V) := HL2.out.cell 0
      have l1 : w2.cell? ⟨lb, 1, none⟩ = some (.int .i64 S) := HL2.out.cell 1
      have l2 : w2.cell? ⟨lb, 2, none⟩ = some (.int .i64 T) := HL2.out.cell 2
      have llt := HL2.out.lt
      go_wp2_with fail
      refine (ref15 V S T _).mono ?_; rintro e w3 ⟨rfl, hb3⟩
      have HB3 := Lib.hid (HB2.out.trans (hb3.mono HB2.out.size))
      clear HL2 HB2 hb3 l0 l1 l2 llt
      go_wp2_with fail
      refine (rright_any V S T _).mono ?_; rintro e w4 ⟨rfl, hb4⟩; rw [HRB.out]
      have HB4 := Lib.hid (HB3.out.trans (hb4.mono HB3.out.size))
      clear HB3 hb4
      go_wp2_with fail
      refine (awake15 _).mono ?_; rintro e w5 ⟨rfl, hb5⟩
      have HB5 := Lib.hid (HB4.out.trans (hb5.mono HB4.out.size))
      go_wp2_with fail
      go_ret
      exact ⟨rfl, by rw [← HLB.out]; exact HB5.out⟩
    · have hI : ¬ (256 : Int) < (dl : Int) := by omega
      have H256 : Hid (dl ≤ 256) := Lib.hid (by omega)
      have hd : ∀ j, j < dl → d j ≤ 18446744073709551615 := fun j hj => by
        obtain ⟨_, _, _, h⟩ := HD0.out (by omega)
        exact (h j hj).2
      have HDD := Lib.hid hd
      clear h256 hd
      go_enter Try.func7, Try.ntmps7
      go_wp2_with fail
      clear hlb
      generalize w.alloc (.cells #[.int .i64 V, .int .i64 S, .int .i64 T] 23) = w1 at HB0 HL0 ⊢
      refine (new_born HR.out (HD0.out.below HB0.out) H256.out).mono ?_; rintro e w2 ⟨p, gb, cap, rfl, hE, hp, hg, hb2⟩
      have HL2 := Lib.hid (HL0.out.below hb2 HL0.out.lt)
      have HB2 := Lib.hid (HB0.out.trans (hb2.mono HB0.out.size))
      have HE2 := Lib.hid hE
      have HPG : Hid (w.heap.size ≤ p ∧ w.heap.size ≤ gb) := Lib.hid ⟨Nat.le_trans HB0.out.size hp, Nat.le_trans HB0.out.size hg⟩
      clear HL0 HB0 hb2 hE hp hg
      have l0 : w2.cell? ⟨lb, 0, none⟩ = some (.int .i64 V) := HL2.out.cell 0
      have l1 : w2.cell? ⟨lb, 1, none⟩ = some (.int .i64 S) := HL2.out.cell 1
      have l2 : w2.cell? ⟨lb, 2, none⟩ = some (.int .i64 T) := HL2.out.cell 2
      have llt := HL2.out.lt
      go_wp2_with fail
      refine (ref15 V S T _).mono ?_; rintro e w3 ⟨rfl, hb3⟩
      have HL3 := Lib.hid (HL2.out.below hb3 HL2.out.lt)
      have HB3 := Lib.hid (HB2.out.trans (hb3.mono HB2.out.size))
      have HE3 := Lib.hid (HE2.out.below hb3)
      clear HL2 HB2 HE2 hb3 l0 l1 l2 llt
      go_wp2_with fail
      refine (rright_any V S T _).mono ?_; rintro e w4 ⟨rfl, hb4⟩; rw [HRB.out]
      have HL4 := Lib.hid (HL3.out.below hb4 HL3.out.lt)
      have HB4 := Lib.hid (HB3.out.trans (hb4.mono HB3.out.size))
      have HE4 := Lib.hid (HE3.out.below hb4)
      clear HL3 HB3 HE3 hb4
      have l0 : w4.cell? ⟨lb, 0, none⟩ = some (.int .i64 V) := HL4.out.cell 0
      have l1 : w4.cell? ⟨lb, 1, none⟩ = some (.int .i64 S) := HL4.out.cell 1
      have l2 : w4.cell? ⟨lb, 2, none⟩ = some (.int .i64 T) := HL4.out.cell 2
      have llt := HL4.out.lt
      go_wp2_with fail
      refine (ref15 V S T _).mono ?_; rintro e w5 ⟨rfl, hb5⟩
      have HB5 := Lib.hid (HB4.out.trans (hb5.mono HB4.out.size))
      have HE5 := Lib.hid (HE4.out.below hb5)
      clear HL4 HB4 HE4 hb5 l0 l1 l2 llt
      go_wp2_with fail
      refine (cells15 HR.out (HD0.out.below HB5.out) H256.out).mono ?_; rintro e w6 ⟨cb, cc, rfl, hcb, hcl, hcv, hb6⟩
      have HB6 := Lib.hid (HB5.out.trans (hb6.mono HB5.out.size))
      have HE6 := Lib.hid (HE5.out.below hb6)
      have HCB : Hid (w5.heap.size ≤ cb ∧ cb < w6.heap.size) := Lib.hid ⟨hcb, hcl⟩
      have HPN : Hid (cb ≠ p ∧ cb ≠ gb) := Lib.hid ⟨fun e => by have := HE5.out.p_lt; omega, fun e => by have := HE5.out.g_lt; omega⟩
      have HCV := Lib.hid hcv
      clear HB5 HE5 hcb hcl hcv hb6
      obtain ⟨n, hn⟩ : ∃ k, cellsE V S T = k := ⟨_, rfl⟩
      have HN := Lib.hid hn
      rw [hn] at HCV ⊢
      clear hn
      have hne : ((n : Int) != (n : Int)) = false := by simp
      go_wp2_with fail
      refine (em_alen HE6.out).mono ?_; rintro e w7 ⟨rfl, rfl⟩; rw [HN.out]
      have n3 : n ≤ 16384 := by rw [← HN.out]; exact (cells_small HR.out).1
      have nI : (n : Int) ≤ 16384 := by omega
      have HREL : Hid (CK15 w6 V S T p gb cap dl d n (.int .i64 0) w6) := Lib.hid ⟨0, Nat.zero_le _, rfl, HE6.out, Only.refl _ _ _⟩
      clear HE6
      go_wp2_with fail
      go_loopw [64] (fun i wr => CK15 w6 V S T p gb cap dl d n i wr) (fun i _ => n - (intOf i).toNat)
      case atStart => exact HREL.out
      case round =>
        clear HREL
        obtain ⟨k, hk, rfl, hE, hO⟩ := hrel
        have HE := Lib.hid hE
        have HO := Lib.hid hO
        clear hE hO
        by_cases hkn : k < n
        · have kI : (k : Int) < (n : Int) := by omega
          have k0 : (0 : Int) ≤ (k : Int) := by omega
          obtain ⟨X, hX⟩ : ∃ X, bcF V S T dl d k = X := ⟨_, rfl⟩
          have hc : wr.cell? ⟨cb, k, none⟩ = some (.int .u64 X) := by
            rw [← hX, ← HCV.out k hkn]
            exact cell_heap13b (HO.out.block cb HCB.out.2 HPN.out.1 HPN.out.2)
          have hxx : (X != X) = false := by simp
          have HX : Hid (bcX V S T dl d (nN V S + 1) k = X) := Lib.hid (by rw [bcX_cell (by rw [HN.out]; exact hkn) HR.out, hX])
          have hlt := block_lt hc
          clear hX
          go_wp2_with fail
          refine (em_aload HE.out (by rw [HN.out]; exact hkn) (by omega) rfl).mono ?_; rintro e w8 ⟨rfl, hE8, hO8⟩; rw [HX.out]
          have HE8 := Lib.hid hE8
          have HO8 := Lib.hid (HO.out.trans hO8)
          clear HE HO hE8 hO8 hc hlt
          go_wp2_with fail
          go_round
          case rel => exact ⟨k + 1, hkn, by go_num, HE8.out, HO8.out⟩
          case measure => simp [intOf]; omega
        · have ek : k = n := by omega
          subst ek
          have kN : ¬ (k : Int) < (k : Int) := by omega
          go_wp2_with fail
          refine (awake15 _).mono ?_; rintro e w8 ⟨rfl, hb8⟩
          have HB8 := Lib.hid ((Only.below HB6.out HO.out HB6.out.size HPG.out.1 HPG.out.2).trans (hb8.mono (Only.below HB6.out HO.out HB6.out.size HPG.out.1 HPG.out.2).size))
          clear hb8
          go_wp2_with fail
          go_ret
          exact ⟨rfl, by rw [← HLB.out]; exact HB8.out⟩
  · have hr : rtB V S T = false := by simpa using hr
    have HRB := Lib.hid hr
    clear hr
    go_enter Try.func7, Try.ntmps7
    go_wp2_with fail
    clear hlb
    generalize w.alloc (.cells #[.int .i64 V, .int .i64 S, .int .i64 T] 23) = w1 at HB0 HL0 ⊢
    refine (new_range HRB.out).mono ?_; rintro e w2 ⟨rfl, hb2⟩
    have HL2 := Lib.hid (HL0.out.below hb2 HL0.out.lt)
    have HB2 := Lib.hid (HB0.out.trans (hb2.mono HB0.out.size))
    clear HL0 HB0 hb2
    have l0 : w2.cell? ⟨lb, 0, none⟩ = some (.int .i64 V) := HL2.out.cell 0
    have l1 : w2.cell? ⟨lb, 1, none⟩ = some (.int .i64 S) := HL2.out.cell 1
    have l2 : w2.cell? ⟨lb, 2, none⟩ = some (.int .i64 T) := HL2.out.cell 2
    have llt := HL2.out.lt
    go_wp2_with fail
    refine (ref15 V S T _).mono ?_; rintro e w3 ⟨rfl, hb3⟩
    have HB3 := Lib.hid (HB2.out.trans (hb3.mono HB2.out.size))
    clear HL2 HB2 hb3 l0 l1 l2 llt
    go_wp2_with fail
    refine (rright_any V S T _).mono ?_; rintro e w4 ⟨rfl, hb4⟩; rw [HRB.out]
    have HB4 := Lib.hid (HB3.out.trans (hb4.mono HB3.out.size))
    clear HB3 hb4
    go_wp2_with fail
    refine (awake15 _).mono ?_; rintro e w5 ⟨rfl, hb5⟩
    have HB5 := Lib.hid (HB4.out.trans (hb5.mono HB4.out.size))
    go_wp2_with fail
    go_ret
    exact ⟨rfl, by rw [← HLB.out]; exact HB5.out⟩
end

end Go.Proofs.Ytaooglagddphnaa
