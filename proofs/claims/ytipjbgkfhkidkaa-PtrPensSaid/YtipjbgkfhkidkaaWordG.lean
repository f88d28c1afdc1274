/- More contracts for layer 1's statements. -/
import Derived.Test.YtipjbgkfhkidkaaWordF
import Derived.Lib.Hide
namespace Go.Proofs.Ytipjbgkfhkidkaa
open Go.RowKit

/-- The bits of a word. -/
def bitsW (o n th tg : Int) : Int := ((tg * 256 + th) * 65536 + o) * 65536 + n

theorem bitsW_parts {o n th tg : Int} (h : rightW o n th tg = true) :
    0 ≤ bitsW o n th tg ∧ bitsW o n th tg ≤ 18446744073709551615 ∧ bitsW o n th tg / 65536 % 65536 = o ∧ bitsW o n th tg % 65536 = n ∧ bitsW o n th tg / 4294967296 % 256 = th ∧ bitsW o n th tg / 1099511627776 = tg := by
  obtain ⟨h1, h2, h3, h4, h5, h6, h7, h8⟩ := right_bd h
  have e : bitsW o n th tg = tg * 1099511627776 + th * 4294967296 + o * 65536 + n := by unfold bitsW; omega
  rw [e]; clear e
  refine ⟨?_, ?_, ?_, ?_, ?_, ?_⟩ <;> omega

theorem pack_w (o n th tg : Int) (w : World) (h : rightW o n th tg = true) :
    Calls Try.prog 53 #[vW o n th tg] w fun e w' => e = .returned (.tuple #[.int .u64 (bitsW o n th tg), .int .i64 0]) ∧ Below w.heap.size w w' :=
  pack_yes o n th tg w h
theorem rbits_w (o n th tg : Int) (w : World) (h : rightW o n th tg = true) :
    Calls Try.prog 32 #[vW o n th tg] w fun e w' => e = .returned (.int .u64 (bitsW o n th tg)) ∧ Below w.heap.size w w' :=
  rbits_any o n th tg w h
theorem unpack_w (o n th tg : Int) (w : World) (h : rightW o n th tg = true) :
    Calls Try.prog 52 #[.int .u64 (bitsW o n th tg)] w fun e w' => e = .returned (.tuple #[vW o n th tg, .int .i64 0]) ∧ Below w.heap.size w w' := by
  obtain ⟨h1, h2, h3, h4, h5, h6⟩ := bitsW_parts h
  have k := unpack_yes (bitsW o n th tg) w h1 h2 (by unfold rightV; rw [h3, h4, h5, h6]; exact h)
  rw [h3, h4, h5, h6] at k
  exact k

theorem rparts_w (o n th tg : Int) (w : World) (h : rightW o n th tg = true) :
    Calls Try.prog 21 #[.int .u64 (bitsW o n th tg)] w fun e w' => e = .returned (vW o n th tg) ∧ Below w.heap.size w w' := by
  obtain ⟨h1, h2, h3, h4, h5, h6⟩ := bitsW_parts h
  have k := rparts_any (bitsW o n th tg) w h1 h2
  rw [h3, h4, h5, h6] at k
  exact k
theorem bitsW_of (v : Int) : bitsW (v / 65536 % 65536) (v % 65536) (v / 4294967296 % 256) (v / 1099511627776) = v := by
  unfold bitsW
  have e1 : v / 4294967296 = v / 65536 / 65536 := by omega
  have e2 : v / 1099511627776 = v / 65536 / 65536 / 256 := by omega
  rw [e1, e2]
  generalize hx : v / 65536 = x
  generalize hy : x / 65536 = y
  omega

theorem keepW {w0 W w1 : World} (h : Below w0.heap.size w0 W) (hb : Below W.heap.size W w1) : Below w0.heap.size w0 w1 := h.trans (hb.mono h.size)
end Go.Proofs.Ytipjbgkfhkidkaa
