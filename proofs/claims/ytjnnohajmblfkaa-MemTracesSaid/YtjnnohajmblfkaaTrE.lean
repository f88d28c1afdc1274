/- The contract of Replay on a plain memory. -/
import Derived.Test.YtjnnohajmblfkaaTrD
namespace Go.Proofs.Ytjnnohajmblfkaa
open Go.RowKit

/-- The accesses of a slice, readable. -/
def Acc (w : World) (b off : Nat) (xs : List AccV) : Prop :=
  ∀ k x, xs[k]? = some x → w.cell? ⟨b, off + k * 3, none⟩ = some (.bool x.s) ∧ w.cell? ⟨b, off + k * 3 + 1, none⟩ = some (.int .i64 x.c) ∧ w.cell? ⟨b, off + k * 3 + 2, none⟩ = some (.int .u64 x.v)
def IsAcc (w : World) (a : Option Addr) (xs : List AccV) : Prop := xs ≠ [] → ∃ b off, a = some ⟨b, off, none⟩ ∧ Acc w b off xs

def RepRel (p g n cap m : Nat) (f : Nat → Int) (xs : List AccV) (w : World) (i : Value) (wr : World) : Prop :=
  ∃ (k : Nat) (c : Nat → Int), k ≤ xs.length ∧ i = .int .i64 k ∧ Ar wr p g n cap c (playL n f (xs.take k)) ∧ CB c (m + k) ∧ Only p g w wr ∧ ∀ j x, j < k → xs[j]? = some x → okA n (playL n f (xs.take j)) x = true

/-- What Replay leaves. -/
def Replayed (p g n cap m : Nat) (f : Nat → Int) (xs : List AccV) (w : World) (e : Ending) (w' : World) : Prop :=
  ∃ (k : Nat) (c : Nat → Int), k ≤ xs.length ∧ e = .returned (.tuple #[.int .i64 k, .bool (decide (k = xs.length))]) ∧ Ar w' p g n cap c (playL n f (xs.take k)) ∧ CB c (m + xs.length) ∧ Only p g w w' ∧
    (∀ j x, j < k → xs[j]? = some x → okA n (playL n f (xs.take j)) x = true) ∧ (∀ x, xs[k]? = some x → okA n (playL n f (xs.take k)) x = false)

theorem only_cell {p g h o : Nat} {W w1 : World} {u : Value} (ho : Only p g W w1) (hp : h ≠ p) (hg : h ≠ g) (hc : W.cell? ⟨h, o, none⟩ = some u) : w1.cell? ⟨h, o, none⟩ = some u := by
  have hl : h < W.heap.size := World.block_lt_of_cell? _ _ hc
  exact (World.cell?_of_block (a := ⟨h, o, none⟩) (ho.block h hl hp hg)).trans hc

theorem meth_store (k : Nat) (v : Value) (W : World) : Sem.run Try.prog (method (k + 1) 47 v "Store") W = .ok (64, v) W := by kernel_rfl
theorem meth_load (k : Nat) (v : Value) (W : World) : Sem.run Try.prog (method (k + 1) 47 v "Load") W = .ok (19, v) W := by kernel_rfl

set_option maxHeartbeats 4000000 in
set_option maxRecDepth 100000 in
theorem replay_any {p g n cap m : Nat} {c f : Nat → Int} {xs : List AccV} {w : World} (a : Option Addr) (cp : Nat) (A : Ar w p g n cap c f) (hm : CB c m) (hb : m ≤ 100000) (hl : xs.length ≤ 100000)
    (hx : ∀ w', Only p g w w' → IsAcc w' a xs) (hfit : ∀ x ∈ xs, x.s = true → x.fit) :
    Calls Try.prog 16 #[.iface 47 (plainV p), .slice a xs.length cp] w (Replayed p g n cap m f xs w) := by
  have ms := meth_store
  have ml := meth_load
  have HX := Lib.hid hx; clear hx
  have HF := Lib.hid hfit; clear hfit
  have HA := Lib.hid A; clear A
  have HM := Lib.hid hm; clear hm
  go_enter Try.func16, Try.ntmps16
  go_wp2_with fail
  go_loopw [10] (fun i wr => RepRel p g n cap m f xs w i wr) (fun i _ => xs.length - (intOf i).toNat)
  case atStart => exact ⟨0, c, Nat.zero_le _, rfl, HA.out, HM.out, Only.refl _ _ _, fun j x hj => absurd hj (Nat.not_lt_zero _)⟩
  case round =>
    clear HA HM
    obtain ⟨k, c, hk, rfl, A, hm, O, hok⟩ := hrel
    by_cases hlt : k < xs.length
    · obtain ⟨b, off, rfl, hcells⟩ := HX.out wr O (by intro h; rw [h] at hlt; exact absurd hlt (Nat.not_lt_zero _))
      obtain ⟨x, hxk⟩ : ∃ x, xs[k]? = some x := ⟨_, List.getElem?_eq_getElem hlt⟩
      obtain ⟨x0, x1, x2⟩ := hcells k x hxk
      clear hcells
      have hmem : x ∈ xs := List.mem_of_getElem? hxk
      have HK := Lib.hid hxk; clear hxk
      have HOK := Lib.hid hok; clear hok
      have HA := Lib.hid A; clear A
      have HM := Lib.hid hm; clear hm
      have HO := Lib.hid O; clear O
      by_cases hs : x.s = true
      · have hfx := HF.out x hmem hs
        have HS := Lib.hid hs
        rw [hs] at x0
        have HFX := Lib.hid hfx; clear hfx hs
        go_wp2_with fail
        refine (pstore_st (HA.out.alloc _) HS.out HFX.out HM.out (by omega)).mono ?_; rintro e w3 ⟨c', rfl, A3, m3, O3⟩
        have HR : Hid (RepRel p g n cap m f xs w (.int .i64 ((k : Int) + 1)) w3) := by
          refine ⟨k + 1, c', by omega, by go_num, ?_, m3.more (by omega), (HO.out.alloc _).trans O3, fun j y hj hy => ?_⟩
          · rw [playL_take n f xs HK.out]; exact A3
          · by_cases e : j = k
            · subst e
              have := HK.out
              rw [this] at hy
              cases hy
              simp [okA, HS.out]
            · exact HOK.out j y (by omega) hy
        clear A3 m3 O3
        go_wp2_with fail
        exact ⟨HR.out, by simp [intOf]; omega⟩
      · have hs' : x.s = false := by simpa using hs
        have HS := Lib.hid hs'
        clear hs
        rw [hs'] at x0
        clear hs'
        go_wp2_with fail
        have A0 := HA.out.alloc (.cells #[.bool false, .int .i64 x.c, .int .u64 x.v] 37)
        have X0 := Blk.new wr 37 #[.bool false, .int .i64 x.c, .int .u64 x.v]
        have O0 := HO.out.alloc (.cells #[.bool false, .int .i64 x.c, .int .u64 x.v] 37)
        have hp : wr.heap.size ≠ p := by have := HA.out.p_lt; omega
        have hg : wr.heap.size ≠ g := by have := HA.out.g_lt; omega
        generalize wr.alloc (.cells #[.bool false, .int .i64 x.c, .int .u64 x.v] 37) = W at A0 X0 O0 ⊢
        generalize wr.heap.size = h at X0 hp hg ⊢
        have z1 : W.cell? ⟨h, 1, none⟩ = some (.int .i64 x.c) := X0.cell 1
        have z2 : W.cell? ⟨h, 2, none⟩ = some (.int .u64 x.v) := X0.cell 2
        have HA0 := Lib.hid A0; clear A0 X0 HA
        have HO0 := Lib.hid O0; clear O0
        clear x0 x1 x2 HO
        go_region_held3 (fun w' => w'.cell? ⟨h, 1, none⟩ = some (.int .i64 x.c) ∧ w'.cell? ⟨h, 2, none⟩ = some (.int .u64 x.v))
          (first | assumption | exact ⟨z1, z2⟩ | exact (And.imp (only_cell O3 hp hg) (only_cell O3 hp hg)) (by assumption))
          (first | ((with_reducible refine (pload_st HA0.out.drew x.c HM.out (by omega)).mono ?_); rintro e w3 ⟨c', rfl, A3, m3, O3⟩))
        have HO3 : Hid (Only p g w w3) := HO0.out.drew.trans O3
        have HA3 := Lib.hid A3; clear A3 O3
        by_cases hv : readN n (playL n f (xs.take k)) x.c = x.v
        · have HR : Hid (RepRel p g n cap m f xs w (.int .i64 ((k : Int) + 1)) w3) := by
            refine ⟨k + 1, c', by omega, by go_num, ?_, m3.more (by omega), HO3.out, fun j y hj hy => ?_⟩
            · rw [playL_take n f xs HK.out]
              simp only [stepF, HS.out, Bool.false_eq_true, false_and, if_false]
              exact HA3.out
            · by_cases e : j = k
              · subst e
                have := HK.out
                rw [this] at hy
                cases hy
                simp [okA, hv]
              · exact HOK.out j y (by omega) hy
          have e1 : (readN n (playL n f (xs.take k)) x.c != x.v) = false := by simp [bne, hv]
          clear hv m3
          go_wp2_with fail
          exact ⟨HR.out, by simp [intOf]; omega⟩
        · have HR : Hid (Replayed p g n cap m f xs w (.returned (.tuple #[.int .i64 k, .bool false])) w3) := by
            refine ⟨k, c', hk, ?_, HA3.out, m3.more (by omega), HO3.out, HOK.out, fun y hy => ?_⟩
            · have : ¬ k = xs.length := by omega
              simp [this]
            · have := HK.out
              rw [this] at hy
              cases hy
              simp [okA, HS.out, hv]
          have e1 : (readN n (playL n f (xs.take k)) x.c != x.v) = true := by simp [bne, hv]
          clear hv m3
          go_wp2_with fail
          go_ret2
          exact HR.out
    · have hkl : k = xs.length := by omega
      have HE : Hid (Replayed p g n cap m f xs w (.returned (.tuple #[.int .i64 xs.length, .bool true])) wr) := by
        refine ⟨k, c, hk, ?_, A, hm.more (by omega), O, hok, fun x hx => ?_⟩
        · simp [hkl]
        · rw [hkl, List.getElem?_eq_none (Nat.le_refl _)] at hx; cases hx
      clear A hm O hok hkl
      go_wp2_with fail
      go_ret2
      exact HE.out
end Go.Proofs.Ytjnnohajmblfkaa
