/- Contracts of New, of the two calls of package slices, of Copy and of Equal. -/
import Derived.Test.YtjnnohajmblfkaaCellB
import Derived.Deep.OwnRows
import Derived.Maps.AppendAt
import Derived.OwnWalk
import Derived.BigQuiet
import Derived.Deep.QuietTactic
import Derived.Deep.RegionHeld3
namespace Go.Proofs.Ytjnnohajmblfkaa
open Go.RowKit

theorem info_u64 : (Try.prog.info? 32).map (fun i => (i.zero, i.size, i.bytes)) = some (some (.int .u64 0), 1, 8) := by kernel_rfl

def zeroF : Nat → Int := fun _ => 0

theorem zeros_at (n k : Nat) (hk : k < n) : (madeCells #[Value.int .u64 0] n)[k]? = some (.int .u64 0) := by
  have h := toList_madeCells_one (.int .u64 0) n
  rw [← Array.getElem?_toList, h]
  simp [hk]

set_option maxHeartbeats 1000000 in
theorem new_yes (n : Nat) (w : World) (hn : n ≤ 16384) :
    Calls Try.prog 21 #[.int .i64 (n : Int)] w fun e w' => e = .returned (.tuple #[.pointer (some ⟨w.heap.size + 1, 0, none⟩), .int .i64 0]) ∧ Ar w' (w.heap.size + 1) w.heap.size n n zeroF zeroF ∧ Below w.heap.size w w' := by
  have hmk := run_make_row' (P := Try.prog) 22 32 (.int .u64 0) 8 Try.underlying22 info_u64 rfl .i64 .i64 n (by omega) (by omega)
  go_enter Try.func21, Try.ntmps21
  go_wp2
  go_ret2
  refine ⟨by simp, ⟨?_, ⟨_, (Blk.new w _ _).alloc _, fun k hk => zeros_at n k hk⟩, Nat.le_refl _, hn, fun k _ => by simp [zeroF]⟩, ((Below.refl _ _).alloc (Nat.le_refl _) _).alloc (by simp) _⟩
  have := Blk.new (w.alloc (.cells (madeCells #[Value.int .u64 0] n) 32)) 61 #[.slice (some ⟨w.heap.size, 0, none⟩) n n, .int .i64 0, .int .i64 0, .int .i64 0, .int .i64 0, .int .i64 0]
  simpa [zeroF] using this

theorem new_no (i : Int) (w : World) (hi : i < 0 ∨ 16384 < i) :
    Calls Try.prog 21 #[.int .i64 i] w fun e w' => e = .returned (.tuple #[.pointer none, .int .i64 11]) ∧ w = w' := by
  by_cases h : i < 0
  · clear hi
    go_enter Try.func21, Try.ntmps21
    go_wp2
    go_ret2
    exact ⟨rfl, rfl⟩
  · have h' : 16384 < i := by omega
    clear hi
    go_enter Try.func21, Try.ntmps21
    go_wp2
    go_ret2
    exact ⟨rfl, rfl⟩

/-- What a clone of n numbers leaves. -/
def Cloned (n : Nat) (f : Nat → Int) (w : World) (e : Ending) (w' : World) : Prop :=
  ∃ g cap, e = .returned (.slice (some ⟨g, 0, none⟩) n cap) ∧ w.heap.size ≤ g ∧ n ≤ cap ∧ (∃ zs : Array Value, Blk w' g 32 zs ∧ ∀ k, k < n → zs[k]? = some (.int .u64 (f k))) ∧ Below w.heap.size w w'

set_option maxHeartbeats 1000000 in
theorem clone_any (g n cap : Nat) (f : Nat → Int) (w : World) (hn : n ≤ 16384) (zs : Array Value) (hz : Blk w g 32 zs) (he : ∀ k, k < n → zs[k]? = some (.int .u64 (f k))) :
    Calls Try.prog 22 #[.slice (some ⟨g, 0, none⟩) n cap] w (Cloned n f w) := by
  obtain ⟨i0, hi0, hz0, hz1, hz2⟩ := info_parts info_u64
  have hnil : ∀ (w : World) (a : Option Addr) (n c n' c' : Nat), (binOp .eql 22 (.slice a n c) (.slice none n' c')).run Try.prog w = .ok (.bool a.isNone) w := fun w a n c n' c' => Lib.run_eql_slice_nil w _ _ a n c n' c' Try.underlying22
  have hE := Lib.hid he; clear he
  go_enter Try.func22, Try.ntmps22
  go_wp2_with (at_builtin
               refine wpList_append_own_at _ rfl (.tmp 5) (.tmp 6) 22 rfl w.heap.size 32 i0 _ 1 8 Try.underlying22 hi0 hz0 hz1 hz2 rfl (by omega) _ 0 [] rfl
                 (World.ownsRow_made w #[] 0 (Nat.le_refl _) (Nat.zero_le _) rfl) ⟨g, 0, none⟩ n cap ((List.range n).map fun k => Value.int .u64 (f k)) rfl (by simp) ?c1 ?c2 (by simp only [maxLen]; omega) (by omega) (by simp) ?_)
  case c1 =>
    intro j u hu
    have hj : j < n := by simpa using (List.getElem?_eq_some_iff.1 hu).1
    have e : u = .int .u64 (f j) := by simpa [hj] using hu.symm
    subst e
    have := (hz.alloc (.cells #[] 32)).cell j
    rw [hE.out j hj] at this
    rw [Addr.add_lit, Nat.zero_add]
    exact this
  case c2 => intro u hu; obtain ⟨x, _, rfl⟩ := List.mem_map.1 hu; rfl
  intro v' w1 hown hgrow hv _
  go_wp2
  go_ret
  have hb : Below w.heap.size w w1 := ((Below.refl _ w).alloc (Nat.le_refl _) _).grown hgrow (by simp) (by intro k hk; simp [Value.ownBlock] at hk; omega)
  obtain ⟨hl, hcase⟩ := hown
  rcases hcase with ⟨h0, hn0⟩ | ⟨g', cap', cur, rfl, hg', hh, hnc, _, hcs, htake⟩
  · exact absurd h0 hv
  · refine ⟨g', cap', by simp, hg', by omega, ⟨cur, hh, fun k hk => ?_⟩, hb⟩
    have h1 : (cur.toList.take (n * 1))[k]? = some (.int .u64 (f k)) := by rw [htake]; simp [hk]
    rw [List.getElem?_take_of_lt (by omega)] at h1
    simpa using h1

/-- Are the first n numbers the same? -/
def sameB (n : Nat) (f h : Nat → Int) : Bool := decide (∀ k, k < n → f k = h k)

set_option maxHeartbeats 2000000 in
theorem equal_any (g g' n c d : Nat) (f h : Nat → Int) (w : World) (hn : n ≤ 16384) (hf : ∀ k, k < n → w.cell? ⟨g, k, none⟩ = some (.int .u64 (f k))) (hh : ∀ k, k < n → w.cell? ⟨g', k, none⟩ = some (.int .u64 (h k))) :
    Calls Try.prog 24 #[.slice (some ⟨g, 0, none⟩) n c, .slice (some ⟨g', 0, none⟩) n d] w fun e w' => e = .returned (.bool (sameB n f h)) ∧ ∃ m, w' = w.drewN m := by
  have HF := Lib.hid hf; clear hf
  have HH := Lib.hid hh; clear hh
  go_enter Try.func24, Try.ntmps24
  go_wp2_with fail
  go_loopw [13] (fun i wr => ∃ k q : Nat, k ≤ n ∧ i = .int .i64 k ∧ wr = w.drewN q ∧ ∀ j, j < k → f j = h j) (fun i _ => n - (intOf i).toNat)
  case atStart => exact ⟨0, 0, Nat.zero_le _, rfl, rfl, fun j hj => absurd hj (Nat.not_lt_zero _)⟩
  case round =>
    obtain ⟨k, q, hk, rfl, rfl, heq⟩ := hrel
    have HQ := Lib.hid heq; clear heq
    by_cases hlt : k < n
    · have g1 : w.cell? ⟨g, k, none⟩ = some (.int .u64 (f k)) := HF.out k hlt
      have g2 : w.cell? ⟨g', k, none⟩ = some (.int .u64 (h k)) := HH.out k hlt
      have i0 : (0 : Int) ≤ (k : Int) := Int.natCast_nonneg _
      have i1 : (k : Int) < (n : Int) := by omega
      by_cases hxy : f k = h k
      · have e1 : (f k != h k) = false := by simp [bne, hxy]
        have HXY := Lib.hid hxy; clear hxy
        go_wp2_with fail
        go_quiet (fail)
        go_wp2_with fail
        go_roundw
        case rel =>
          refine ⟨k + 1, _, by omega, by go_num, rfl, fun j hj => ?_⟩
          by_cases e : j = k
          · subst e; exact HXY.out
          · exact HQ.out j (by omega)
        case measure => simp [intOf]; omega
      · have e1 : (f k != h k) = true := by simp [bne, hxy]
        have HR : Hid (sameB n f h = false) := by unfold sameB; exact decide_eq_false fun hall => hxy (hall k hlt)
        clear hxy
        go_wp2_with fail
        go_quiet (fail)
        go_wp2_with fail
        go_ret
        (rename_i nq; exact ⟨by rw [HR.out]; rfl, q + nq, World.drewN_drewN _ _ _⟩)
    · have HR : Hid (sameB n f h = true) := by unfold sameB; exact decide_eq_true fun j hj => HQ.out j (by omega)
      go_wp2_with fail
      go_ret
      exact ⟨by rw [HR.out]; rfl, q, rfl⟩
end Go.Proofs.Ytjnnohajmblfkaa
