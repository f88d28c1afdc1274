/- Contracts of New, of the two calls of package slices, of Copy and of Equal. -/
import Derived.Test.YtipjbgkfhkidkaaCellB
import Derived.Deep.OwnRows
import Derived.Maps.AppendAt
import Derived.OwnWalk
import Derived.BigQuiet
import Derived.Deep.QuietTactic
import Derived.Deep.RegionHeld3
namespace Go.Proofs.Ytipjbgkfhkidkaa
open Go.RowKit

theorem info_u64 : (Try.prog.info? 37).map (fun i => (i.zero, i.size, i.bytes)) = some (some (.int .u64 0), 1, 8) := by kernel_rfl

def zeroF : Nat → Int := fun _ => 0

theorem zeros_at (n k : Nat) (hk : k < n) : (madeCells #[Value.int .u64 0] n)[k]? = some (.int .u64 0) := by
  have h := toList_madeCells_one (.int .u64 0) n
  rw [← Array.getElem?_toList, h]
  simp [hk]

set_option maxHeartbeats 1000000 in
theorem new_yes (n : Nat) (w : World) (hn : n ≤ 16384) :
    Calls Try.prog 35 #[.int .i64 (n : Int)] w fun e w' => e = .returned (.tuple #[.pointer (some ⟨w.heap.size + 1, 0, none⟩), .int .i64 0]) ∧ Ar w' (w.heap.size + 1) w.heap.size n n zeroF zeroF ∧ Below w.heap.size w w' := by
  have hmk := run_make_row' (P := Try.prog) 86 37 (.int .u64 0) 8 Try.underlying86 info_u64 rfl .i64 .i64 n (by omega) (by omega)
  go_enter Try.func35, Try.ntmps35
  go_wp2
  go_ret2
  refine ⟨by simp, ⟨?_, ⟨_, (Blk.new w _ _).alloc _, fun k hk => zeros_at n k hk⟩, Nat.le_refl _, hn, fun k _ => by simp [zeroF]⟩, ((Below.refl _ _).alloc (Nat.le_refl _) _).alloc (by simp) _⟩
  have := Blk.new (w.alloc (.cells (madeCells #[Value.int .u64 0] n) 37)) 88 #[.slice (some ⟨w.heap.size, 0, none⟩) n n, .int .i64 0, .int .i64 0, .int .i64 0, .int .i64 0, .int .i64 0]
  simpa [zeroF] using this

theorem new_no (i : Int) (w : World) (hi : i < 0 ∨ 16384 < i) :
    Calls Try.prog 35 #[.int .i64 i] w fun e w' => e = .returned (.tuple #[.pointer none, .int .i64 11]) ∧ w = w' := by
  by_cases h : i < 0
  · clear hi
    go_enter Try.func35, Try.ntmps35
    go_wp2
    go_ret2
    exact ⟨rfl, rfl⟩
  · have h' : 16384 < i := by omega
    clear hi
    go_enter Try.func35, Try.ntmps35
    go_wp2
    go_ret2
    exact ⟨rfl, rfl⟩

/-- What a clone of n numbers leaves. -/
def Cloned (n : Nat) (f : Nat → Int) (w : World) (e : Ending) (w' : World) : Prop :=
  ∃ g cap, e = .returned (.slice (some ⟨g, 0, none⟩) n cap) ∧ w.heap.size ≤ g ∧ n ≤ cap ∧ (∃ zs : Array Value, Blk w' g 37 zs ∧ ∀ k, k < n → zs[k]? = some (.int .u64 (f k))) ∧ Below w.heap.size w w'

/-- Are the first n numbers the same? -/
def sameB (n : Nat) (f h : Nat → Int) : Bool := decide (∀ k, k < n → f k = h k)

end Go.Proofs.Ytipjbgkfhkidkaa
