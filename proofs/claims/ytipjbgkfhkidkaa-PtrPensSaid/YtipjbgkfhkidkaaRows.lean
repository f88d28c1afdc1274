/-
  No cell of these rows narrows 'for every input' (looked for: loops, veiled, ifaces, maps, wideKeys, modest, calm, conditions, laid).
  DERIVED. THE GIVEN ROWS OF THIS SEAT. 4 by the template 'for every input the law returns true; each argument reads behind the call as it read before'; 0 by the template 'total and deterministic' (their statements: YtipjbgkfhkidkaaTotals.lean).
  GIVEN WITH THE SEED: the statements are not yours to turn. If you find one false, say at which input.
  Laid BY PROGRAM, IN A SANDBOX (cutbox-rows.mjs): the forced cells as the released guide's own fill.sh prints them over the translation a9961b78d48504f4… (all of the seat's roots in one cut). By AI agents, Wed Nov 11 2026. No macro, syntax, notation, axiom, sorry.
-/
import Derived.Test.YtipjbgkfhkidkaaChecked
import GoSem.Claim
import GoSem.ClaimJoined
import GoSem.ClaimMapViews
import Derived.JoinedTies
import Derived.KernelRfl
namespace Go.Proofs.Ytipjbgkfhkidkaa
/- THE CELL 'sum', in the pinned program and in every row, IS THE sha256 OF THE DUMP (.gsa) THAT YtipjbgkfhkidkaaProg.lean LOADS. Nothing in Lean hashes anything: it is a label: what it is worth is what the hold of that sum in a sandbox is worth. -/
noncomputable def Try.pinned : Pinned := { name := "ytipjbgkfhkidkaa", sum := "a9961b78d48504f4a0c2b1dfa23bb507ab90f192c0b96d18d5bc85ec985fa6fc", checked := Try.checked }
namespace Rows
def none {H : Type} : Left H := { results := [], args := [] }

/-- 'tombololaw08.PtrPens': WHATEVER THE INPUT: true; the input reads as it did. -/
def ptrPensSpec : ChangeSpec := { name := "ptrPens", fn := fun _ => fun
  | [d1, d2] => { results := [.lit (.bool true)], args := [d1, d2] }
  | _ => none }
def ptrPensRow : OpenClaim := { program := "ytipjbgkfhkidkaa", sum := "a9961b78d48504f4a0c2b1dfa23bb507ab90f192c0b96d18d5bc85ec985fa6fc", func := "tombolo/tombololaw08.PtrPens", spec := "ptrPens", unfollowed := true, recurses := true, apart := false }
def PtrPensSaid : Prop := ptrPensRow.holds Try.pinned (OpenSpec.ofChange ptrPensSpec)

/-- ITS FALSE NEIGHBOUR: 'it returns false'. Refute it at one input. -/
def ptrPensWrong : ChangeSpec := { name := "ptrPens", fn := fun _ => fun
  | [d1, d2] => { results := [.lit (.bool false)], args := [d1, d2] }
  | _ => none }
def PtrPensWrongFalsely : Prop := ptrPensRow.holds Try.pinned (OpenSpec.ofChange ptrPensWrong)

/-- 'tombololaw08.PtrLooks': WHATEVER THE INPUT: true; the input reads as it did. -/
def ptrLooksSpec : ChangeSpec := { name := "ptrLooks", fn := fun _ => fun
  | [d1, d2, d3] => { results := [.lit (.bool true)], args := [d1, d2, d3] }
  | _ => none }
def ptrLooksRow : OpenClaim := { program := "ytipjbgkfhkidkaa", sum := "a9961b78d48504f4a0c2b1dfa23bb507ab90f192c0b96d18d5bc85ec985fa6fc", func := "tombolo/tombololaw08.PtrLooks", spec := "ptrLooks", unfollowed := true, recurses := true, apart := false }
def PtrLooksSaid : Prop := ptrLooksRow.holds Try.pinned (OpenSpec.ofChange ptrLooksSpec)

/-- ITS FALSE NEIGHBOUR: 'it returns false'. Refute it at one input. -/
def ptrLooksWrong : ChangeSpec := { name := "ptrLooks", fn := fun _ => fun
  | [d1, d2, d3] => { results := [.lit (.bool false)], args := [d1, d2, d3] }
  | _ => none }
def PtrLooksWrongFalsely : Prop := ptrLooksRow.holds Try.pinned (OpenSpec.ofChange ptrLooksWrong)

/-- 'tombololaw08.PtrWrites': WHATEVER THE INPUT: true; the input reads as it did. -/
def ptrWritesSpec : ChangeSpec := { name := "ptrWrites", fn := fun _ => fun
  | [d1, d2, d3] => { results := [.lit (.bool true)], args := [d1, d2, d3] }
  | _ => none }
def ptrWritesRow : OpenClaim := { program := "ytipjbgkfhkidkaa", sum := "a9961b78d48504f4a0c2b1dfa23bb507ab90f192c0b96d18d5bc85ec985fa6fc", func := "tombolo/tombololaw08.PtrWrites", spec := "ptrWrites", unfollowed := true, recurses := true, apart := false }
def PtrWritesSaid : Prop := ptrWritesRow.holds Try.pinned (OpenSpec.ofChange ptrWritesSpec)

/-- ITS FALSE NEIGHBOUR: 'it returns false'. Refute it at one input. -/
def ptrWritesWrong : ChangeSpec := { name := "ptrWrites", fn := fun _ => fun
  | [d1, d2, d3] => { results := [.lit (.bool false)], args := [d1, d2, d3] }
  | _ => none }
def PtrWritesWrongFalsely : Prop := ptrWritesRow.holds Try.pinned (OpenSpec.ofChange ptrWritesWrong)

/-- 'tombololaw08.PtrSeen': WHATEVER THE INPUT: true; the input reads as it did. -/
def ptrSeenSpec : ChangeSpec := { name := "ptrSeen", fn := fun _ => fun
  | [d1, d2, d3] => { results := [.lit (.bool true)], args := [d1, d2, d3] }
  | _ => none }
def ptrSeenRow : OpenClaim := { program := "ytipjbgkfhkidkaa", sum := "a9961b78d48504f4a0c2b1dfa23bb507ab90f192c0b96d18d5bc85ec985fa6fc", func := "tombolo/tombololaw08.PtrSeen", spec := "ptrSeen", unfollowed := true, recurses := true, apart := false }
def PtrSeenSaid : Prop := ptrSeenRow.holds Try.pinned (OpenSpec.ofChange ptrSeenSpec)

/-- ITS FALSE NEIGHBOUR: 'it returns false'. Refute it at one input. -/
def ptrSeenWrong : ChangeSpec := { name := "ptrSeen", fn := fun _ => fun
  | [d1, d2, d3] => { results := [.lit (.bool false)], args := [d1, d2, d3] }
  | _ => none }
def PtrSeenWrongFalsely : Prop := ptrSeenRow.holds Try.pinned (OpenSpec.ofChange ptrSeenWrong)

/- THE SECOND FORM. 'bulk': how many values and letters a reading holds, each counted each time it is reached (what is shared counts as often as it is met; a slice's spare places count too). A statement '..UptoSaid' is the law's where the arguments, and the package variables that the reading takes, are together of bulk at most 1048576: NARROWER than '..Said'. Prove '..Said' where nothing that the law and all that it calls make is longer than what came in: it says more and counts as full. Else prove '..UptoSaid'. A law counts once. -/
mutual
def uptoBulk {H : Type} : DataW H → Nat
  | .lit (.string bytes) => bytes.length + 1
  | .lit _ => 1
  | .nil => 1
  | .ptr d => uptoBulk d + 1
  | .slice elems spare => uptoBulkAll elems + uptoBulkAll spare + 1
  | .agg parts => uptoBulkAll parts + 1
  | .iface _ d => uptoBulk d + 1
  | .map entries => uptoBulkEntries entries + 1
  | .held _ => 1
def uptoBulkAll {H : Type} : List (DataW H) → Nat
  | [] => 0
  | d :: r => uptoBulk d + uptoBulkAll r
def uptoBulkEntries {H : Type} : List (Lit × DataW H) → Nat
  | [] => 0
  | x :: r => uptoBulkEntry x + uptoBulkEntries r
def uptoBulkEntry {H : Type} : Lit × DataW H → Nat
  | (.string bytes, d) => bytes.length + uptoBulk d + 1
  | (_, d) => uptoBulk d + 1
 end
def uptoSmall : (H : Type) → List (DataW H) → Bool := fun _ ds => decide (uptoBulkAll ds ≤ 1048576)
def OpenSpec.upto (s : _root_.Go.ChangeSpec) : _root_.Go.OpenSpec := { _root_.Go.OpenSpec.ofChange s with cond := some uptoSmall }

/-- 'tombololaw08.PtrPens', WHERE WHAT IT READS IS OF BULK AT MOST 1048576: true; the input reads as it did. -/
def ptrPensUptoRow : OpenClaim := { program := "ytipjbgkfhkidkaa", sum := "a9961b78d48504f4a0c2b1dfa23bb507ab90f192c0b96d18d5bc85ec985fa6fc", func := "tombolo/tombololaw08.PtrPens", spec := "ptrPens", unfollowed := true, recurses := true, apart := false, narrowed := true }
def PtrPensUptoSaid : Prop := ptrPensUptoRow.holds Try.pinned (OpenSpec.upto ptrPensSpec)

/-- 'tombololaw08.PtrLooks', WHERE WHAT IT READS IS OF BULK AT MOST 1048576: true; the input reads as it did. -/
def ptrLooksUptoRow : OpenClaim := { program := "ytipjbgkfhkidkaa", sum := "a9961b78d48504f4a0c2b1dfa23bb507ab90f192c0b96d18d5bc85ec985fa6fc", func := "tombolo/tombololaw08.PtrLooks", spec := "ptrLooks", unfollowed := true, recurses := true, apart := false, narrowed := true }
def PtrLooksUptoSaid : Prop := ptrLooksUptoRow.holds Try.pinned (OpenSpec.upto ptrLooksSpec)

/-- 'tombololaw08.PtrWrites', WHERE WHAT IT READS IS OF BULK AT MOST 1048576: true; the input reads as it did. -/
def ptrWritesUptoRow : OpenClaim := { program := "ytipjbgkfhkidkaa", sum := "a9961b78d48504f4a0c2b1dfa23bb507ab90f192c0b96d18d5bc85ec985fa6fc", func := "tombolo/tombololaw08.PtrWrites", spec := "ptrWrites", unfollowed := true, recurses := true, apart := false, narrowed := true }
def PtrWritesUptoSaid : Prop := ptrWritesUptoRow.holds Try.pinned (OpenSpec.upto ptrWritesSpec)

/-- 'tombololaw08.PtrSeen', WHERE WHAT IT READS IS OF BULK AT MOST 1048576: true; the input reads as it did. -/
def ptrSeenUptoRow : OpenClaim := { program := "ytipjbgkfhkidkaa", sum := "a9961b78d48504f4a0c2b1dfa23bb507ab90f192c0b96d18d5bc85ec985fa6fc", func := "tombolo/tombololaw08.PtrSeen", spec := "ptrSeen", unfollowed := true, recurses := true, apart := false, narrowed := true }
def PtrSeenUptoSaid : Prop := ptrSeenUptoRow.holds Try.pinned (OpenSpec.upto ptrSeenSpec)

end Rows
end Go.Proofs.Ytipjbgkfhkidkaa
