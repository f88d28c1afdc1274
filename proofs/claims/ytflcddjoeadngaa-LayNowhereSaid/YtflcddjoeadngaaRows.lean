/-
  No cell of these rows narrows 'for every input' (looked for: loops, veiled, ifaces, maps, wideKeys, modest, calm, conditions, laid).
  DERIVED. THE GIVEN ROWS OF THIS SEAT. 5 by the template 'for every input the law returns true; each argument reads behind the call as it read before'; 0 by the template 'total and deterministic' (their statements: YtflcddjoeadngaaTotals.lean).
  GIVEN WITH THE SEED: the statements are not yours to turn. If you find one false, say at which input.
  Laid BY PROGRAM, IN A SANDBOX (cutbox-rows.mjs): the forced cells as the released guide's own fill.sh prints them over the translation 509885f40c00399f… (all of the seat's roots in one cut). By AI agents, Wed Nov 11 2026. No macro, syntax, notation, axiom, sorry.
-/
import Derived.Test.YtflcddjoeadngaaChecked
import GoSem.Claim
import GoSem.ClaimJoined
import GoSem.ClaimMapViews
import Derived.JoinedTies
import Derived.KernelRfl
namespace Go.Proofs.Ytflcddjoeadngaa
/- THE CELL 'sum', in the pinned program and in every row, IS THE sha256 OF THE DUMP (.gsa) THAT YtflcddjoeadngaaProg.lean LOADS. Nothing in Lean hashes anything: it is a label: what it is worth is what the hold of that sum in a sandbox is worth. -/
noncomputable def Try.pinned : Pinned := { name := "ytflcddjoeadngaa", sum := "509885f40c00399fd45dd38f80481d74fe4f71d2cdc2a7ee91d604935db36b14", checked := Try.checked }
namespace Rows
def none {H : Type} : Left H := { results := [], args := [] }

/-- 'tombololaw05.LayNodes': WHATEVER THE INPUT: true; the input reads as it did. -/
def layNodesSpec : ChangeSpec := { name := "layNodes", fn := fun _ => fun
  | [d1, d2] => { results := [.lit (.bool true)], args := [d1, d2] }
  | _ => none }
def layNodesRow : OpenClaim := { program := "ytflcddjoeadngaa", sum := "509885f40c00399fd45dd38f80481d74fe4f71d2cdc2a7ee91d604935db36b14", func := "tombolo/tombololaw05.LayNodes", spec := "layNodes", apart := false }
def LayNodesSaid : Prop := layNodesRow.holds Try.pinned (OpenSpec.ofChange layNodesSpec)

/-- ITS FALSE NEIGHBOUR: 'it returns false'. Refute it at one input. -/
def layNodesWrong : ChangeSpec := { name := "layNodes", fn := fun _ => fun
  | [d1, d2] => { results := [.lit (.bool false)], args := [d1, d2] }
  | _ => none }
def LayNodesWrongFalsely : Prop := layNodesRow.holds Try.pinned (OpenSpec.ofChange layNodesWrong)

/-- 'tombololaw05.LayCells': WHATEVER THE INPUT: true; the input reads as it did. -/
def layCellsSpec : ChangeSpec := { name := "layCells", fn := fun _ => fun
  | [d] => { results := [.lit (.bool true)], args := [d] }
  | _ => none }
def layCellsRow : OpenClaim := { program := "ytflcddjoeadngaa", sum := "509885f40c00399fd45dd38f80481d74fe4f71d2cdc2a7ee91d604935db36b14", func := "tombolo/tombololaw05.LayCells", spec := "layCells", apart := false }
def LayCellsSaid : Prop := layCellsRow.holds Try.pinned (OpenSpec.ofChange layCellsSpec)

/-- ITS FALSE NEIGHBOUR: 'it returns false'. Refute it at one input. -/
def layCellsWrong : ChangeSpec := { name := "layCells", fn := fun _ => fun
  | [d] => { results := [.lit (.bool false)], args := [d] }
  | _ => none }
def LayCellsWrongFalsely : Prop := layCellsRow.holds Try.pinned (OpenSpec.ofChange layCellsWrong)

/-- 'tombololaw05.LayNowhere': WHATEVER THE INPUT: true; the input reads as it did. -/
def layNowhereSpec : ChangeSpec := { name := "layNowhere", fn := fun _ => fun
  | [d1, d2, d3] => { results := [.lit (.bool true)], args := [d1, d2, d3] }
  | _ => none }
def layNowhereRow : OpenClaim := { program := "ytflcddjoeadngaa", sum := "509885f40c00399fd45dd38f80481d74fe4f71d2cdc2a7ee91d604935db36b14", func := "tombolo/tombololaw05.LayNowhere", spec := "layNowhere", unfollowed := true, recurses := true, apart := false }
def LayNowhereSaid : Prop := layNowhereRow.holds Try.pinned (OpenSpec.ofChange layNowhereSpec)

/-- ITS FALSE NEIGHBOUR: 'it returns false'. Refute it at one input. -/
def layNowhereWrong : ChangeSpec := { name := "layNowhere", fn := fun _ => fun
  | [d1, d2, d3] => { results := [.lit (.bool false)], args := [d1, d2, d3] }
  | _ => none }
def LayNowhereWrongFalsely : Prop := layNowhereRow.holds Try.pinned (OpenSpec.ofChange layNowhereWrong)

/-- 'tombololaw05.LayApart': WHATEVER THE INPUT: true; the input reads as it did. -/
def layApartSpec : ChangeSpec := { name := "layApart", fn := fun _ => fun
  | [d1, d2] => { results := [.lit (.bool true)], args := [d1, d2] }
  | _ => none }
def layApartRow : OpenClaim := { program := "ytflcddjoeadngaa", sum := "509885f40c00399fd45dd38f80481d74fe4f71d2cdc2a7ee91d604935db36b14", func := "tombolo/tombololaw05.LayApart", spec := "layApart", apart := false }
def LayApartSaid : Prop := layApartRow.holds Try.pinned (OpenSpec.ofChange layApartSpec)

/-- ITS FALSE NEIGHBOUR: 'it returns false'. Refute it at one input. -/
def layApartWrong : ChangeSpec := { name := "layApart", fn := fun _ => fun
  | [d1, d2] => { results := [.lit (.bool false)], args := [d1, d2] }
  | _ => none }
def LayApartWrongFalsely : Prop := layApartRow.holds Try.pinned (OpenSpec.ofChange layApartWrong)

/-- 'tombololaw05.LayCounts': WHATEVER THE INPUT: true; the input reads as it did. -/
def layCountsSpec : ChangeSpec := { name := "layCounts", fn := fun _ => fun
  | [d] => { results := [.lit (.bool true)], args := [d] }
  | _ => none }
def layCountsRow : OpenClaim := { program := "ytflcddjoeadngaa", sum := "509885f40c00399fd45dd38f80481d74fe4f71d2cdc2a7ee91d604935db36b14", func := "tombolo/tombololaw05.LayCounts", spec := "layCounts", apart := false }
def LayCountsSaid : Prop := layCountsRow.holds Try.pinned (OpenSpec.ofChange layCountsSpec)

/-- ITS FALSE NEIGHBOUR: 'it returns false'. Refute it at one input. -/
def layCountsWrong : ChangeSpec := { name := "layCounts", fn := fun _ => fun
  | [d] => { results := [.lit (.bool false)], args := [d] }
  | _ => none }
def LayCountsWrongFalsely : Prop := layCountsRow.holds Try.pinned (OpenSpec.ofChange layCountsWrong)

/- THE SECOND FORM. 'bulk': how many values and letters a reading holds, each counted each time it is reached (what is shared counts as often as it is met; a slice's spare places count too). A statement '..UptoSaid' is the law's where the arguments, and the package variables that the reading takes, are together of bulk at most 1048576: NARROWER than '..Said'. Prove '..Said' where nothing that the law and all that it calls make is longer than what came in: it says more and counts as full. Else prove '..UptoSaid'. A law counts once. -/
mutual
def uptoBulk {H : Type} : DataW H → Nat
  | .lit (.string bytes) => bytes.length + 1
  | .lit _ => 1
  | .nil => 1
  | .ptr d => uptoBulk d + 1
  | .slice elems spare => uptoBulkAll elems + uptoBulkAll spare + 1
  | .agg parts => uptoBulkAll parts + 1
  | .iface _ d => uptoBulk d + 1
  | .map entries => uptoBulkEntries entries + 1
  | .held _ => 1
def uptoBulkAll {H : Type} : List (DataW H) → Nat
  | [] => 0
  | d :: r => uptoBulk d + uptoBulkAll r
def uptoBulkEntries {H : Type} : List (Lit × DataW H) → Nat
  | [] => 0
  | x :: r => uptoBulkEntry x + uptoBulkEntries r
def uptoBulkEntry {H : Type} : Lit × DataW H → Nat
  | (.string bytes, d) => bytes.length + uptoBulk d + 1
  | (_, d) => uptoBulk d + 1
 end
def uptoSmall : (H : Type) → List (DataW H) → Bool := fun _ ds => decide (uptoBulkAll ds ≤ 1048576)
def OpenSpec.upto (s : _root_.Go.ChangeSpec) : _root_.Go.OpenSpec := { _root_.Go.OpenSpec.ofChange s with cond := some uptoSmall }

/-- 'tombololaw05.LayNodes', WHERE WHAT IT READS IS OF BULK AT MOST 1048576: true; the input reads as it did. -/
def layNodesUptoRow : OpenClaim := { program := "ytflcddjoeadngaa", sum := "509885f40c00399fd45dd38f80481d74fe4f71d2cdc2a7ee91d604935db36b14", func := "tombolo/tombololaw05.LayNodes", spec := "layNodes", apart := false, narrowed := true }
def LayNodesUptoSaid : Prop := layNodesUptoRow.holds Try.pinned (OpenSpec.upto layNodesSpec)

/-- 'tombololaw05.LayCells', WHERE WHAT IT READS IS OF BULK AT MOST 1048576: true; the input reads as it did. -/
def layCellsUptoRow : OpenClaim := { program := "ytflcddjoeadngaa", sum := "509885f40c00399fd45dd38f80481d74fe4f71d2cdc2a7ee91d604935db36b14", func := "tombolo/tombololaw05.LayCells", spec := "layCells", apart := false, narrowed := true }
def LayCellsUptoSaid : Prop := layCellsUptoRow.holds Try.pinned (OpenSpec.upto layCellsSpec)

/-- 'tombololaw05.LayNowhere', WHERE WHAT IT READS IS OF BULK AT MOST 1048576: true; the input reads as it did. -/
def layNowhereUptoRow : OpenClaim := { program := "ytflcddjoeadngaa", sum := "509885f40c00399fd45dd38f80481d74fe4f71d2cdc2a7ee91d604935db36b14", func := "tombolo/tombololaw05.LayNowhere", spec := "layNowhere", unfollowed := true, recurses := true, apart := false, narrowed := true }
def LayNowhereUptoSaid : Prop := layNowhereUptoRow.holds Try.pinned (OpenSpec.upto layNowhereSpec)

/-- 'tombololaw05.LayApart', WHERE WHAT IT READS IS OF BULK AT MOST 1048576: true; the input reads as it did. -/
def layApartUptoRow : OpenClaim := { program := "ytflcddjoeadngaa", sum := "509885f40c00399fd45dd38f80481d74fe4f71d2cdc2a7ee91d604935db36b14", func := "tombolo/tombololaw05.LayApart", spec := "layApart", apart := false, narrowed := true }
def LayApartUptoSaid : Prop := layApartUptoRow.holds Try.pinned (OpenSpec.upto layApartSpec)

/-- 'tombololaw05.LayCounts', WHERE WHAT IT READS IS OF BULK AT MOST 1048576: true; the input reads as it did. -/
def layCountsUptoRow : OpenClaim := { program := "ytflcddjoeadngaa", sum := "509885f40c00399fd45dd38f80481d74fe4f71d2cdc2a7ee91d604935db36b14", func := "tombolo/tombololaw05.LayCounts", spec := "layCounts", apart := false, narrowed := true }
def LayCountsUptoSaid : Prop := layCountsUptoRow.holds Try.pinned (OpenSpec.upto layCountsSpec)

end Rows
end Go.Proofs.Ytflcddjoeadngaa
