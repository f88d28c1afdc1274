/-
  No cell of these rows narrows 'for every input' (looked for: loops, veiled, ifaces, maps, wideKeys, modest, calm, conditions, laid).
  DERIVED. THE GIVEN ROWS OF THIS SEAT. 4 by the template 'for every input the law returns true; each argument reads behind the call as it read before'; 0 by the template 'total and deterministic' (their statements: YtgjlilcljefbfaaTotals.lean).
  GIVEN WITH THE SEED: the statements are not yours to turn. If you find one false, say at which input.
  Laid BY PROGRAM, IN A SANDBOX (cutbox-rows.mjs): the forced cells as the released guide's own fill.sh prints them over the translation 15efe4b6f52f114a… (all of the seat's roots in one cut). By AI agents, Wed Nov 11 2026. No macro, syntax, notation, axiom, sorry.
-/
import Derived.Test.YtgjlilcljefbfaaChecked
import GoSem.Claim
import GoSem.ClaimJoined
import GoSem.ClaimMapViews
import Derived.JoinedTies
import Derived.KernelRfl
namespace Go.Proofs.Ytgjlilcljefbfaa
/- THE CELL 'sum', in the pinned program and in every row, IS THE sha256 OF THE DUMP (.gsa) THAT YtgjlilcljefbfaaProg.lean LOADS. Nothing in Lean hashes anything: it is a label: what it is worth is what the hold of that sum in a sandbox is worth. -/
noncomputable def Try.pinned : Pinned := { name := "ytgjlilcljefbfaa", sum := "15efe4b6f52f114a37b327d3d57e80d43e3f470a0e4b7d2edbb618ea329270db", checked := Try.checked }
namespace Rows
def none {H : Type} : Left H := { results := [], args := [] }

/-- 'tombololaw07.SlotSeries': WHATEVER THE INPUT: true; the input reads as it did. -/
def slotSeriesSpec : ChangeSpec := { name := "slotSeries", fn := fun _ => fun
  | [d1, d2] => { results := [.lit (.bool true)], args := [d1, d2] }
  | _ => none }
def slotSeriesRow : OpenClaim := { program := "ytgjlilcljefbfaa", sum := "15efe4b6f52f114a37b327d3d57e80d43e3f470a0e4b7d2edbb618ea329270db", func := "tombolo/tombololaw07.SlotSeries", spec := "slotSeries", unfollowed := true, recurses := true, apart := false }
def SlotSeriesSaid : Prop := slotSeriesRow.holds Try.pinned (OpenSpec.ofChange slotSeriesSpec)

/-- ITS FALSE NEIGHBOUR: 'it returns false'. Refute it at one input. -/
def slotSeriesWrong : ChangeSpec := { name := "slotSeries", fn := fun _ => fun
  | [d1, d2] => { results := [.lit (.bool false)], args := [d1, d2] }
  | _ => none }
def SlotSeriesWrongFalsely : Prop := slotSeriesRow.holds Try.pinned (OpenSpec.ofChange slotSeriesWrong)

/-- 'tombololaw07.SlotMixed': WHATEVER THE INPUT: true; the input reads as it did. -/
def slotMixedSpec : ChangeSpec := { name := "slotMixed", fn := fun _ => fun
  | [d1, d2, d3] => { results := [.lit (.bool true)], args := [d1, d2, d3] }
  | _ => none }
def slotMixedRow : OpenClaim := { program := "ytgjlilcljefbfaa", sum := "15efe4b6f52f114a37b327d3d57e80d43e3f470a0e4b7d2edbb618ea329270db", func := "tombolo/tombololaw07.SlotMixed", spec := "slotMixed", unfollowed := true, recurses := true, apart := false }
def SlotMixedSaid : Prop := slotMixedRow.holds Try.pinned (OpenSpec.ofChange slotMixedSpec)

/-- ITS FALSE NEIGHBOUR: 'it returns false'. Refute it at one input. -/
def slotMixedWrong : ChangeSpec := { name := "slotMixed", fn := fun _ => fun
  | [d1, d2, d3] => { results := [.lit (.bool false)], args := [d1, d2, d3] }
  | _ => none }
def SlotMixedWrongFalsely : Prop := slotMixedRow.holds Try.pinned (OpenSpec.ofChange slotMixedWrong)

/-- 'tombololaw07.SlotMisses': WHATEVER THE INPUT: true; the input reads as it did. -/
def slotMissesSpec : ChangeSpec := { name := "slotMisses", fn := fun _ => fun
  | [d1, d2, d3] => { results := [.lit (.bool true)], args := [d1, d2, d3] }
  | _ => none }
def slotMissesRow : OpenClaim := { program := "ytgjlilcljefbfaa", sum := "15efe4b6f52f114a37b327d3d57e80d43e3f470a0e4b7d2edbb618ea329270db", func := "tombolo/tombololaw07.SlotMisses", spec := "slotMisses", unfollowed := true, recurses := true, apart := false }
def SlotMissesSaid : Prop := slotMissesRow.holds Try.pinned (OpenSpec.ofChange slotMissesSpec)

/-- ITS FALSE NEIGHBOUR: 'it returns false'. Refute it at one input. -/
def slotMissesWrong : ChangeSpec := { name := "slotMisses", fn := fun _ => fun
  | [d1, d2, d3] => { results := [.lit (.bool false)], args := [d1, d2, d3] }
  | _ => none }
def SlotMissesWrongFalsely : Prop := slotMissesRow.holds Try.pinned (OpenSpec.ofChange slotMissesWrong)

/-- 'tombololaw07.SlotRows': WHATEVER THE INPUT: true; the input reads as it did. -/
def slotRowsSpec : ChangeSpec := { name := "slotRows", fn := fun _ => fun
  | [d1, d2, d3] => { results := [.lit (.bool true)], args := [d1, d2, d3] }
  | _ => none }
def slotRowsRow : OpenClaim := { program := "ytgjlilcljefbfaa", sum := "15efe4b6f52f114a37b327d3d57e80d43e3f470a0e4b7d2edbb618ea329270db", func := "tombolo/tombololaw07.SlotRows", spec := "slotRows", unfollowed := true, recurses := true, apart := false }
def SlotRowsSaid : Prop := slotRowsRow.holds Try.pinned (OpenSpec.ofChange slotRowsSpec)

/-- ITS FALSE NEIGHBOUR: 'it returns false'. Refute it at one input. -/
def slotRowsWrong : ChangeSpec := { name := "slotRows", fn := fun _ => fun
  | [d1, d2, d3] => { results := [.lit (.bool false)], args := [d1, d2, d3] }
  | _ => none }
def SlotRowsWrongFalsely : Prop := slotRowsRow.holds Try.pinned (OpenSpec.ofChange slotRowsWrong)

/- THE SECOND FORM. 'bulk': how many values and letters a reading holds, each counted each time it is reached (what is shared counts as often as it is met; a slice's spare places count too). A statement '..UptoSaid' is the law's where the arguments, and the package variables that the reading takes, are together of bulk at most 1048576: NARROWER than '..Said'. Prove '..Said' where nothing that the law and all that it calls make is longer than what came in: it says more and counts as full. Else prove '..UptoSaid'. A law counts once. -/
mutual
def uptoBulk {H : Type} : DataW H → Nat
  | .lit (.string bytes) => bytes.length + 1
  | .lit _ => 1
  | .nil => 1
  | .ptr d => uptoBulk d + 1
  | .slice elems spare => uptoBulkAll elems + uptoBulkAll spare + 1
  | .agg parts => uptoBulkAll parts + 1
  | .iface _ d => uptoBulk d + 1
  | .map entries => uptoBulkEntries entries + 1
  | .held _ => 1
def uptoBulkAll {H : Type} : List (DataW H) → Nat
  | [] => 0
  | d :: r => uptoBulk d + uptoBulkAll r
def uptoBulkEntries {H : Type} : List (Lit × DataW H) → Nat
  | [] => 0
  | x :: r => uptoBulkEntry x + uptoBulkEntries r
def uptoBulkEntry {H : Type} : Lit × DataW H → Nat
  | (.string bytes, d) => bytes.length + uptoBulk d + 1
  | (_, d) => uptoBulk d + 1
 end
def uptoSmall : (H : Type) → List (DataW H) → Bool := fun _ ds => decide (uptoBulkAll ds ≤ 1048576)
def OpenSpec.upto (s : _root_.Go.ChangeSpec) : _root_.Go.OpenSpec := { _root_.Go.OpenSpec.ofChange s with cond := some uptoSmall }

/-- 'tombololaw07.SlotSeries', WHERE WHAT IT READS IS OF BULK AT MOST 1048576: true; the input reads as it did. -/
def slotSeriesUptoRow : OpenClaim := { program := "ytgjlilcljefbfaa", sum := "15efe4b6f52f114a37b327d3d57e80d43e3f470a0e4b7d2edbb618ea329270db", func := "tombolo/tombololaw07.SlotSeries", spec := "slotSeries", unfollowed := true, recurses := true, apart := false, narrowed := true }
def SlotSeriesUptoSaid : Prop := slotSeriesUptoRow.holds Try.pinned (OpenSpec.upto slotSeriesSpec)

/-- 'tombololaw07.SlotMixed', WHERE WHAT IT READS IS OF BULK AT MOST 1048576: true; the input reads as it did. -/
def slotMixedUptoRow : OpenClaim := { program := "ytgjlilcljefbfaa", sum := "15efe4b6f52f114a37b327d3d57e80d43e3f470a0e4b7d2edbb618ea329270db", func := "tombolo/tombololaw07.SlotMixed", spec := "slotMixed", unfollowed := true, recurses := true, apart := false, narrowed := true }
def SlotMixedUptoSaid : Prop := slotMixedUptoRow.holds Try.pinned (OpenSpec.upto slotMixedSpec)

/-- 'tombololaw07.SlotMisses', WHERE WHAT IT READS IS OF BULK AT MOST 1048576: true; the input reads as it did. -/
def slotMissesUptoRow : OpenClaim := { program := "ytgjlilcljefbfaa", sum := "15efe4b6f52f114a37b327d3d57e80d43e3f470a0e4b7d2edbb618ea329270db", func := "tombolo/tombololaw07.SlotMisses", spec := "slotMisses", unfollowed := true, recurses := true, apart := false, narrowed := true }
def SlotMissesUptoSaid : Prop := slotMissesUptoRow.holds Try.pinned (OpenSpec.upto slotMissesSpec)

/-- 'tombololaw07.SlotRows', WHERE WHAT IT READS IS OF BULK AT MOST 1048576: true; the input reads as it did. -/
def slotRowsUptoRow : OpenClaim := { program := "ytgjlilcljefbfaa", sum := "15efe4b6f52f114a37b327d3d57e80d43e3f470a0e4b7d2edbb618ea329270db", func := "tombolo/tombololaw07.SlotRows", spec := "slotRows", unfollowed := true, recurses := true, apart := false, narrowed := true }
def SlotRowsUptoSaid : Prop := slotRowsUptoRow.holds Try.pinned (OpenSpec.upto slotRowsSpec)

end Rows
end Go.Proofs.Ytgjlilcljefbfaa
