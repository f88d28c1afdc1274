/- Walk of ValEquals: its four forms joined. -/
import Derived.Test.YtonnbckjlfadcaaDoorValLEqualsnn
import Derived.Test.YtonnbckjlfadcaaDoorValLEqualsni
import Derived.Test.YtonnbckjlfadcaaDoorValLEqualsin
import Derived.Test.YtonnbckjlfadcaaDoorValLEqualsii
namespace Go.Proofs.YtonnbckjlfadcaaDoor
open Go.RowKit

theorem valEquals_long (x y : Raw) (a : Option Addr) (n c : Nat) (w : World) (h : (40 : Int) < (n : Int)) :
    Calls Tryd.prog 5 #[x.val, y.val, .slice a n c] w fun e w' => e = .returned (.bool true) ∧ Below w.heap.size w w' := by
  obtain ⟨xk, xn, xs, xr⟩ := x
  obtain ⟨yk, yn, ys, yr⟩ := y
  simp only [Raw.val, Raw.cs]
  go_enter Tryd.func5, Tryd.ntmps5
  go_wp2_with fail
  refine (awake_any _).mono ?_; rintro e w3 ⟨rfl, hb3⟩
  go_wp2_with fail
  go_ret
  exact ⟨rfl, keepB (((Below.refl _ _).alloc (Nat.le_refl _) _).alloc (by simp) _) hb3⟩

theorem valEquals_walk (x y : Raw) (a : Option Addr) (n c : Nat) (q : Nat → Raw) (w : World) (hq : IsRaws w a n q) :
    Calls Tryd.prog 5 #[x.val, y.val, .slice a n c] w fun e w' => e = .returned (.bool true) ∧ Below w.heap.size w w' := by
  by_cases h : (40 : Int) < (n : Int)
  · exact valEquals_long x y a n c w h
  · have hx := Tr.val_kind (.one x.atom)
    have hy := Tr.val_kind (.one y.atom)
    simp only [Tr.val] at hx hy
    rcases hx with hx | ⟨ux, zx, hx⟩
    · rcases hy with hy | ⟨uy, zy, hy⟩
      · exact valEquals_nn x y a n c q w (by omega) hq hx hy
      · exact valEquals_ni x y uy zy a n c q w (by omega) hq hx hy
    · rcases hy with hy | ⟨uy, zy, hy⟩
      · exact valEquals_in x y ux zx a n c q w (by omega) hq hx hy
      · exact valEquals_ii x y ux zx uy zy a n c q w (by omega) hq hx hy
end Go.Proofs.YtonnbckjlfadcaaDoor
