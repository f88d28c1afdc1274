/- What the laws share. Printed by wip/tools/edl.py. -/
import Derived.Test.YtahabfjngeicmaaEkP
import Derived.Test.YtahabfjngeicmaaEkR
namespace Go.Proofs.Ytahabfjngeicmaa
open Go.RowKit

set_option maxRecDepth 100000

theorem LW11.next2 {w0 w w' : World} {base q p gb cap m m' : Nat} {V S T : Int} {f f' : Nat → Int} {vl : Value} {ls : List E1} (h : LW11 w0 w base q V S T p gb cap m f vl ls) (hm : EM w' V S T p gb cap m' f') (ho : Only p gb w w') : LW11 w0 w' base q V S T p gb cap m' f' vl ls := ⟨h.pw.next hm ho, Only.below h.be ho h.pw.size h.pw.bp h.pw.bg, fun i cs hz => Blk.em (h.ke i cs hz) h.pw.em ho (by decide) (by decide)⟩
/-- In EdgeTurns' loop over the list. -/
def Tn11 (w0 : World) (base q : Nat) (V S T : Int) (p gb cap M n : Nat) (vl : Value) (ls : List E1) (i : Value) (W : World) : Prop :=
  ∃ k f, k ≤ n ∧ i = .int .i64 ((k : Nat) : Int) ∧ LW11 w0 W base q V S T p gb cap (M + 20 * k) f vl ls ∧ ER V S T f ls
/-- Between two calls of a law. -/
def Lp11 (w0 : World) (base q : Nat) (V S T : Int) (p gb cap c ol : Nat) (i : Value) (W : World) : Prop :=
  ∃ k f vl ls, k ≤ ol ∧ i = .int .i64 ((k : Nat) : Int) ∧ LW11 w0 W base q V S T p gb cap (c * k) f vl ls ∧ ER V S T f ls ∧ ls.length ≤ k
end Go.Proofs.Ytahabfjngeicmaa
