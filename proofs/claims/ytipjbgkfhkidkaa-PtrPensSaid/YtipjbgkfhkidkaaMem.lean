/- Words for memory, at a seat that has the arena's texts: what these lack. (Stands for Mem there.) -/
import Derived.Test.YtipjbgkfhkidkaaCellD
namespace Go.Proofs.Ytipjbgkfhkidkaa
open Go.RowKit

theorem Only.wide {p g : Nat} {a w : World} (h : Only p p a w) : Only p g a w := ⟨h.os, h.tape, h.output, h.size, fun i hi h1 _ => h.block i hi h1 h1⟩
end Go.Proofs.Ytipjbgkfhkidkaa
