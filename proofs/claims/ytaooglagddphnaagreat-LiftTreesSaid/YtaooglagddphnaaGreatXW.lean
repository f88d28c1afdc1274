/- Short words for the program's own objects. -/
import Derived.Test.YtaooglagddphnaaGreatXZB
namespace Go.Proofs.YtaooglagddphnaaGreat
abbrev I4 (p : Nat) : Value := .iface 84 (pmV p)
abbrev I5 (V S T : Int) (p : Nat) : Obj := .cells #[I V, I S, I T, I4 p, I 1, I 0] 43
abbrev I6 (V S T : Int) (p : Nat) : Obj := .cells #[I V, I S, I T, I4 p, I 1, I 0] 45
abbrev I7 (V S T : Int) (p : Nat) : Obj := .cells #[I V, I S, I T, I4 p, I 1, I 0, I V, I S, I T, I4 p] 49
abbrev I8 (V S T : Int) (p : Nat) : Obj := .cells #[I V, I S, I T, I4 p, I 1, I 0, I V, I S, I T, I4 p] 51
abbrev I9 (V S T : Int) (p : Nat) : Obj := .cells #[I V, I S, I T, I4 p, I 1, I 0, I V, I S, I T, I4 p] 999999
end Go.Proofs.YtaooglagddphnaaGreat
