/- Short words for the program's own objects. -/
import Derived.Test.YtfpnjpbpfgjakaaGreatOZB
namespace Go.Proofs.YtfpnjpbpfgjakaaGreat
abbrev I4 (p : Nat) : Value := .iface 85 (pmV p)
abbrev I5 (V S T : Int) (p : Nat) : Obj := .cells #[I V, I S, I T, I4 p, I 1, I 0] 48
abbrev I6 (V S T : Int) (p : Nat) : Obj := .cells #[I V, I S, I T, I4 p, I 1, I 0] 50
abbrev I7 (V S T : Int) (p : Nat) : Obj := .cells #[I V, I S, I T, I4 p, I 1, I 0, I V, I S, I T, I4 p] 54
abbrev I8 (V S T : Int) (p : Nat) : Obj := .cells #[I V, I S, I T, I4 p, I 1, I 0, I V, I S, I T, I4 p] 56
abbrev I9 (V S T : Int) (p : Nat) : Obj := .cells #[I V, I S, I T, I4 p, I 1, I 0, I V, I S, I T, I4 p] 58
end Go.Proofs.YtfpnjpbpfgjakaaGreat
