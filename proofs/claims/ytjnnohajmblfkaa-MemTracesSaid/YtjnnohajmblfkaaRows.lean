/-
  No cell of these rows narrows 'for every input' (looked for: loops, veiled, ifaces, maps, wideKeys, modest, calm, conditions, laid).
  DERIVED. THE GIVEN ROWS OF THIS SEAT. 4 by the template 'for every input the law returns true; each argument reads behind the call as it read before'; 0 by the template 'total and deterministic' (their statements: YtjnnohajmblfkaaTotals.lean).
  GIVEN WITH THE SEED: the statements are not yours to turn. If you find one false, say at which input.
  Laid BY PROGRAM, IN A SANDBOX (cutbox-rows.mjs): the forced cells as the released guide's own fill.sh prints them over the translation d3560cbd3f74e08c… (all of the seat's roots in one cut). By AI agents, Wed Nov 11 2026. No macro, syntax, notation, axiom, sorry.
-/
import Derived.Test.YtjnnohajmblfkaaChecked
import GoSem.Claim
import GoSem.ClaimJoined
import GoSem.ClaimMapViews
import Derived.JoinedTies
import Derived.KernelRfl
namespace Go.Proofs.Ytjnnohajmblfkaa
/- THE CELL 'sum', in the pinned program and in every row, IS THE sha256 OF THE DUMP (.gsa) THAT YtjnnohajmblfkaaProg.lean LOADS. Nothing in Lean hashes anything: it is a label: what it is worth is what the hold of that sum in a sandbox is worth. -/
noncomputable def Try.pinned : Pinned := { name := "ytjnnohajmblfkaa", sum := "d3560cbd3f74e08c1b006bed24126a38ca31a3e4ccd4cd67f2d4dd04d242743f", checked := Try.checked }
namespace Rows
def none {H : Type} : Left H := { results := [], args := [] }

/-- 'tombololaw06.MemTraces': WHATEVER THE INPUT: true; the input reads as it did. -/
def memTracesSpec : ChangeSpec := { name := "memTraces", fn := fun _ => fun
  | [d1, d2] => { results := [.lit (.bool true)], args := [d1, d2] }
  | _ => none }
def memTracesRow : OpenClaim := { program := "ytjnnohajmblfkaa", sum := "d3560cbd3f74e08c1b006bed24126a38ca31a3e4ccd4cd67f2d4dd04d242743f", func := "tombolo/tombololaw06.MemTraces", spec := "memTraces", unfollowed := true, recurses := true, apart := false }
def MemTracesSaid : Prop := memTracesRow.holds Try.pinned (OpenSpec.ofChange memTracesSpec)

/-- ITS FALSE NEIGHBOUR: 'it returns false'. Refute it at one input. -/
def memTracesWrong : ChangeSpec := { name := "memTraces", fn := fun _ => fun
  | [d1, d2] => { results := [.lit (.bool false)], args := [d1, d2] }
  | _ => none }
def MemTracesWrongFalsely : Prop := memTracesRow.holds Try.pinned (OpenSpec.ofChange memTracesWrong)

/-- 'tombololaw06.MemReplays': WHATEVER THE INPUT: true; the input reads as it did. -/
def memReplaysSpec : ChangeSpec := { name := "memReplays", fn := fun _ => fun
  | [d1, d2] => { results := [.lit (.bool true)], args := [d1, d2] }
  | _ => none }
def memReplaysRow : OpenClaim := { program := "ytjnnohajmblfkaa", sum := "d3560cbd3f74e08c1b006bed24126a38ca31a3e4ccd4cd67f2d4dd04d242743f", func := "tombolo/tombololaw06.MemReplays", spec := "memReplays", unfollowed := true, recurses := true, apart := false }
def MemReplaysSaid : Prop := memReplaysRow.holds Try.pinned (OpenSpec.ofChange memReplaysSpec)

/-- ITS FALSE NEIGHBOUR: 'it returns false'. Refute it at one input. -/
def memReplaysWrong : ChangeSpec := { name := "memReplays", fn := fun _ => fun
  | [d1, d2] => { results := [.lit (.bool false)], args := [d1, d2] }
  | _ => none }
def MemReplaysWrongFalsely : Prop := memReplaysRow.holds Try.pinned (OpenSpec.ofChange memReplaysWrong)

/-- 'tombololaw06.MemStops': WHATEVER THE INPUT: true; the input reads as it did. -/
def memStopsSpec : ChangeSpec := { name := "memStops", fn := fun _ => fun
  | [d1, d2] => { results := [.lit (.bool true)], args := [d1, d2] }
  | _ => none }
def memStopsRow : OpenClaim := { program := "ytjnnohajmblfkaa", sum := "d3560cbd3f74e08c1b006bed24126a38ca31a3e4ccd4cd67f2d4dd04d242743f", func := "tombolo/tombololaw06.MemStops", spec := "memStops", unfollowed := true, recurses := true, apart := false }
def MemStopsSaid : Prop := memStopsRow.holds Try.pinned (OpenSpec.ofChange memStopsSpec)

/-- ITS FALSE NEIGHBOUR: 'it returns false'. Refute it at one input. -/
def memStopsWrong : ChangeSpec := { name := "memStops", fn := fun _ => fun
  | [d1, d2] => { results := [.lit (.bool false)], args := [d1, d2] }
  | _ => none }
def MemStopsWrongFalsely : Prop := memStopsRow.holds Try.pinned (OpenSpec.ofChange memStopsWrong)

/-- 'tombololaw06.MemApart': WHATEVER THE INPUT: true; the input reads as it did. -/
def memApartSpec : ChangeSpec := { name := "memApart", fn := fun _ => fun
  | [d1, d2, d3] => { results := [.lit (.bool true)], args := [d1, d2, d3] }
  | _ => none }
def memApartRow : OpenClaim := { program := "ytjnnohajmblfkaa", sum := "d3560cbd3f74e08c1b006bed24126a38ca31a3e4ccd4cd67f2d4dd04d242743f", func := "tombolo/tombololaw06.MemApart", spec := "memApart", unfollowed := true, recurses := true, apart := false }
def MemApartSaid : Prop := memApartRow.holds Try.pinned (OpenSpec.ofChange memApartSpec)

/-- ITS FALSE NEIGHBOUR: 'it returns false'. Refute it at one input. -/
def memApartWrong : ChangeSpec := { name := "memApart", fn := fun _ => fun
  | [d1, d2, d3] => { results := [.lit (.bool false)], args := [d1, d2, d3] }
  | _ => none }
def MemApartWrongFalsely : Prop := memApartRow.holds Try.pinned (OpenSpec.ofChange memApartWrong)

/- THE SECOND FORM. 'bulk': how many values and letters a reading holds, each counted each time it is reached (what is shared counts as often as it is met; a slice's spare places count too). A statement '..UptoSaid' is the law's where the arguments, and the package variables that the reading takes, are together of bulk at most 1048576: NARROWER than '..Said'. Prove '..Said' where nothing that the law and all that it calls make is longer than what came in: it says more and counts as full. Else prove '..UptoSaid'. A law counts once. -/
mutual
def uptoBulk {H : Type} : DataW H → Nat
  | .lit (.string bytes) => bytes.length + 1
  | .lit _ => 1
  | .nil => 1
  | .ptr d => uptoBulk d + 1
  | .slice elems spare => uptoBulkAll elems + uptoBulkAll spare + 1
  | .agg parts => uptoBulkAll parts + 1
  | .iface _ d => uptoBulk d + 1
  | .map entries => uptoBulkEntries entries + 1
  | .held _ => 1
def uptoBulkAll {H : Type} : List (DataW H) → Nat
  | [] => 0
  | d :: r => uptoBulk d + uptoBulkAll r
def uptoBulkEntries {H : Type} : List (Lit × DataW H) → Nat
  | [] => 0
  | x :: r => uptoBulkEntry x + uptoBulkEntries r
def uptoBulkEntry {H : Type} : Lit × DataW H → Nat
  | (.string bytes, d) => bytes.length + uptoBulk d + 1
  | (_, d) => uptoBulk d + 1
 end
def uptoSmall : (H : Type) → List (DataW H) → Bool := fun _ ds => decide (uptoBulkAll ds ≤ 1048576)
def OpenSpec.upto (s : _root_.Go.ChangeSpec) : _root_.Go.OpenSpec := { _root_.Go.OpenSpec.ofChange s with cond := some uptoSmall }

/-- 'tombololaw06.MemTraces', WHERE WHAT IT READS IS OF BULK AT MOST 1048576: true; the input reads as it did. -/
def memTracesUptoRow : OpenClaim := { program := "ytjnnohajmblfkaa", sum := "d3560cbd3f74e08c1b006bed24126a38ca31a3e4ccd4cd67f2d4dd04d242743f", func := "tombolo/tombololaw06.MemTraces", spec := "memTraces", unfollowed := true, recurses := true, apart := false, narrowed := true }
def MemTracesUptoSaid : Prop := memTracesUptoRow.holds Try.pinned (OpenSpec.upto memTracesSpec)

/-- 'tombololaw06.MemReplays', WHERE WHAT IT READS IS OF BULK AT MOST 1048576: true; the input reads as it did. -/
def memReplaysUptoRow : OpenClaim := { program := "ytjnnohajmblfkaa", sum := "d3560cbd3f74e08c1b006bed24126a38ca31a3e4ccd4cd67f2d4dd04d242743f", func := "tombolo/tombololaw06.MemReplays", spec := "memReplays", unfollowed := true, recurses := true, apart := false, narrowed := true }
def MemReplaysUptoSaid : Prop := memReplaysUptoRow.holds Try.pinned (OpenSpec.upto memReplaysSpec)

/-- 'tombololaw06.MemStops', WHERE WHAT IT READS IS OF BULK AT MOST 1048576: true; the input reads as it did. -/
def memStopsUptoRow : OpenClaim := { program := "ytjnnohajmblfkaa", sum := "d3560cbd3f74e08c1b006bed24126a38ca31a3e4ccd4cd67f2d4dd04d242743f", func := "tombolo/tombololaw06.MemStops", spec := "memStops", unfollowed := true, recurses := true, apart := false, narrowed := true }
def MemStopsUptoSaid : Prop := memStopsUptoRow.holds Try.pinned (OpenSpec.upto memStopsSpec)

/-- 'tombololaw06.MemApart', WHERE WHAT IT READS IS OF BULK AT MOST 1048576: true; the input reads as it did. -/
def memApartUptoRow : OpenClaim := { program := "ytjnnohajmblfkaa", sum := "d3560cbd3f74e08c1b006bed24126a38ca31a3e4ccd4cd67f2d4dd04d242743f", func := "tombolo/tombololaw06.MemApart", spec := "memApart", unfollowed := true, recurses := true, apart := false, narrowed := true }
def MemApartUptoSaid : Prop := memApartUptoRow.holds Try.pinned (OpenSpec.upto memApartSpec)

end Rows
end Go.Proofs.Ytjnnohajmblfkaa
