/-
  No cell of these rows narrows 'for every input' (looked for: loops, veiled, ifaces, maps, wideKeys, modest, calm, conditions, laid).
  DERIVED. THE GIVEN ROWS OF THIS SEAT. 5 by the template 'for every input the law returns true; each argument reads behind the call as it read before'; 0 by the template 'total and deterministic' (their statements: YtahabfjngeicmaaTotals.lean).
  GIVEN WITH THE SEED: the statements are not yours to turn. If you find one false, say at which input.
  Laid BY PROGRAM, IN A SANDBOX (cutbox-rows.mjs): the forced cells as the released guide's own fill.sh prints them over the translation a7dc2a7e87f31c05… (all of the seat's roots in one cut). By AI agents, Wed Nov 11 2026. No macro, syntax, notation, axiom, sorry.
-/
import Derived.Test.YtahabfjngeicmaaChecked
import GoSem.Claim
import GoSem.ClaimJoined
import GoSem.ClaimMapViews
import Derived.JoinedTies
import Derived.KernelRfl
namespace Go.Proofs.Ytahabfjngeicmaa
/- THE CELL 'sum', in the pinned program and in every row, IS THE sha256 OF THE DUMP (.gsa) THAT YtahabfjngeicmaaProg.lean LOADS. Nothing in Lean hashes anything: it is a label: what it is worth is what the hold of that sum in a sandbox is worth. -/
noncomputable def Try.pinned : Pinned := { name := "ytahabfjngeicmaa", sum := "a7dc2a7e87f31c058a3846313aa740042a2ff0545a07d3aed1ac4fa2803beed9", checked := Try.checked }
namespace Rows
def none {H : Type} : Left H := { results := [], args := [] }

/-- 'tombololaw10.TourBack': WHATEVER THE INPUT: true; the input reads as it did. -/
def tourBackSpec : ChangeSpec := { name := "tourBack", fn := fun _ => fun
  | [d1, d2] => { results := [.lit (.bool true)], args := [d1, d2] }
  | _ => none }
def tourBackRow : OpenClaim := { program := "ytahabfjngeicmaa", sum := "a7dc2a7e87f31c058a3846313aa740042a2ff0545a07d3aed1ac4fa2803beed9", func := "tombolo/tombololaw10.TourBack", spec := "tourBack", unfollowed := true, recurses := true, apart := false }
def TourBackSaid : Prop := tourBackRow.holds Try.pinned (OpenSpec.ofChange tourBackSpec)

/-- ITS FALSE NEIGHBOUR: 'it returns false'. Refute it at one input. -/
def tourBackWrong : ChangeSpec := { name := "tourBack", fn := fun _ => fun
  | [d1, d2] => { results := [.lit (.bool false)], args := [d1, d2] }
  | _ => none }
def TourBackWrongFalsely : Prop := tourBackRow.holds Try.pinned (OpenSpec.ofChange tourBackWrong)

/-- 'tombololaw11.EdgePlays': WHATEVER THE INPUT: true; the input reads as it did. -/
def edgePlaysSpec : ChangeSpec := { name := "edgePlays", fn := fun _ => fun
  | [d1, d2] => { results := [.lit (.bool true)], args := [d1, d2] }
  | _ => none }
def edgePlaysRow : OpenClaim := { program := "ytahabfjngeicmaa", sum := "a7dc2a7e87f31c058a3846313aa740042a2ff0545a07d3aed1ac4fa2803beed9", func := "tombolo/tombololaw11.EdgePlays", spec := "edgePlays", unfollowed := true, recurses := true, apart := false }
def EdgePlaysSaid : Prop := edgePlaysRow.holds Try.pinned (OpenSpec.ofChange edgePlaysSpec)

/-- ITS FALSE NEIGHBOUR: 'it returns false'. Refute it at one input. -/
def edgePlaysWrong : ChangeSpec := { name := "edgePlays", fn := fun _ => fun
  | [d1, d2] => { results := [.lit (.bool false)], args := [d1, d2] }
  | _ => none }
def EdgePlaysWrongFalsely : Prop := edgePlaysRow.holds Try.pinned (OpenSpec.ofChange edgePlaysWrong)

/-- 'tombololaw11.EdgeAll': WHATEVER THE INPUT: true; the input reads as it did. -/
def edgeAllSpec : ChangeSpec := { name := "edgeAll", fn := fun _ => fun
  | [d1, d2] => { results := [.lit (.bool true)], args := [d1, d2] }
  | _ => none }
def edgeAllRow : OpenClaim := { program := "ytahabfjngeicmaa", sum := "a7dc2a7e87f31c058a3846313aa740042a2ff0545a07d3aed1ac4fa2803beed9", func := "tombolo/tombololaw11.EdgeAll", spec := "edgeAll", unfollowed := true, recurses := true, apart := false }
def EdgeAllSaid : Prop := edgeAllRow.holds Try.pinned (OpenSpec.ofChange edgeAllSpec)

/-- ITS FALSE NEIGHBOUR: 'it returns false'. Refute it at one input. -/
def edgeAllWrong : ChangeSpec := { name := "edgeAll", fn := fun _ => fun
  | [d1, d2] => { results := [.lit (.bool false)], args := [d1, d2] }
  | _ => none }
def EdgeAllWrongFalsely : Prop := edgeAllRow.holds Try.pinned (OpenSpec.ofChange edgeAllWrong)

/-- 'tombololaw11.EdgeApart': WHATEVER THE INPUT: true; the input reads as it did. -/
def edgeApartSpec : ChangeSpec := { name := "edgeApart", fn := fun _ => fun
  | [d1, d2, d3] => { results := [.lit (.bool true)], args := [d1, d2, d3] }
  | _ => none }
def edgeApartRow : OpenClaim := { program := "ytahabfjngeicmaa", sum := "a7dc2a7e87f31c058a3846313aa740042a2ff0545a07d3aed1ac4fa2803beed9", func := "tombolo/tombololaw11.EdgeApart", spec := "edgeApart", unfollowed := true, recurses := true, apart := false }
def EdgeApartSaid : Prop := edgeApartRow.holds Try.pinned (OpenSpec.ofChange edgeApartSpec)

/-- ITS FALSE NEIGHBOUR: 'it returns false'. Refute it at one input. -/
def edgeApartWrong : ChangeSpec := { name := "edgeApart", fn := fun _ => fun
  | [d1, d2, d3] => { results := [.lit (.bool false)], args := [d1, d2, d3] }
  | _ => none }
def EdgeApartWrongFalsely : Prop := edgeApartRow.holds Try.pinned (OpenSpec.ofChange edgeApartWrong)

/-- 'tombololaw11.EdgeTurns': WHATEVER THE INPUT: true; the input reads as it did. -/
def edgeTurnsSpec : ChangeSpec := { name := "edgeTurns", fn := fun _ => fun
  | [d1, d2, d3] => { results := [.lit (.bool true)], args := [d1, d2, d3] }
  | _ => none }
def edgeTurnsRow : OpenClaim := { program := "ytahabfjngeicmaa", sum := "a7dc2a7e87f31c058a3846313aa740042a2ff0545a07d3aed1ac4fa2803beed9", func := "tombolo/tombololaw11.EdgeTurns", spec := "edgeTurns", unfollowed := true, recurses := true, apart := false }
def EdgeTurnsSaid : Prop := edgeTurnsRow.holds Try.pinned (OpenSpec.ofChange edgeTurnsSpec)

/-- ITS FALSE NEIGHBOUR: 'it returns false'. Refute it at one input. -/
def edgeTurnsWrong : ChangeSpec := { name := "edgeTurns", fn := fun _ => fun
  | [d1, d2, d3] => { results := [.lit (.bool false)], args := [d1, d2, d3] }
  | _ => none }
def EdgeTurnsWrongFalsely : Prop := edgeTurnsRow.holds Try.pinned (OpenSpec.ofChange edgeTurnsWrong)

/- THE SECOND FORM. 'bulk': how many values and letters a reading holds, each counted each time it is reached (what is shared counts as often as it is met; a slice's spare places count too). A statement '..UptoSaid' is the law's where the arguments, and the package variables that the reading takes, are together of bulk at most 1048576: NARROWER than '..Said'. Prove '..Said' where nothing that the law and all that it calls make is longer than what came in: it says more and counts as full. Else prove '..UptoSaid'. A law counts once. -/
mutual
def uptoBulk {H : Type} : DataW H → Nat
  | .lit (.string bytes) => bytes.length + 1
  | .lit _ => 1
  | .nil => 1
  | .ptr d => uptoBulk d + 1
  | .slice elems spare => uptoBulkAll elems + uptoBulkAll spare + 1
  | .agg parts => uptoBulkAll parts + 1
  | .iface _ d => uptoBulk d + 1
  | .map entries => uptoBulkEntries entries + 1
  | .held _ => 1
def uptoBulkAll {H : Type} : List (DataW H) → Nat
  | [] => 0
  | d :: r => uptoBulk d + uptoBulkAll r
def uptoBulkEntries {H : Type} : List (Lit × DataW H) → Nat
  | [] => 0
  | x :: r => uptoBulkEntry x + uptoBulkEntries r
def uptoBulkEntry {H : Type} : Lit × DataW H → Nat
  | (.string bytes, d) => bytes.length + uptoBulk d + 1
  | (_, d) => uptoBulk d + 1
 end
def uptoSmall : (H : Type) → List (DataW H) → Bool := fun _ ds => decide (uptoBulkAll ds ≤ 1048576)
def OpenSpec.upto (s : _root_.Go.ChangeSpec) : _root_.Go.OpenSpec := { _root_.Go.OpenSpec.ofChange s with cond := some uptoSmall }

/-- 'tombololaw10.TourBack', WHERE WHAT IT READS IS OF BULK AT MOST 1048576: true; the input reads as it did. -/
def tourBackUptoRow : OpenClaim := { program := "ytahabfjngeicmaa", sum := "a7dc2a7e87f31c058a3846313aa740042a2ff0545a07d3aed1ac4fa2803beed9", func := "tombolo/tombololaw10.TourBack", spec := "tourBack", unfollowed := true, recurses := true, apart := false, narrowed := true }
def TourBackUptoSaid : Prop := tourBackUptoRow.holds Try.pinned (OpenSpec.upto tourBackSpec)

/-- 'tombololaw11.EdgePlays', WHERE WHAT IT READS IS OF BULK AT MOST 1048576: true; the input reads as it did. -/
def edgePlaysUptoRow : OpenClaim := { program := "ytahabfjngeicmaa", sum := "a7dc2a7e87f31c058a3846313aa740042a2ff0545a07d3aed1ac4fa2803beed9", func := "tombolo/tombololaw11.EdgePlays", spec := "edgePlays", unfollowed := true, recurses := true, apart := false, narrowed := true }
def EdgePlaysUptoSaid : Prop := edgePlaysUptoRow.holds Try.pinned (OpenSpec.upto edgePlaysSpec)

/-- 'tombololaw11.EdgeAll', WHERE WHAT IT READS IS OF BULK AT MOST 1048576: true; the input reads as it did. -/
def edgeAllUptoRow : OpenClaim := { program := "ytahabfjngeicmaa", sum := "a7dc2a7e87f31c058a3846313aa740042a2ff0545a07d3aed1ac4fa2803beed9", func := "tombolo/tombololaw11.EdgeAll", spec := "edgeAll", unfollowed := true, recurses := true, apart := false, narrowed := true }
def EdgeAllUptoSaid : Prop := edgeAllUptoRow.holds Try.pinned (OpenSpec.upto edgeAllSpec)

/-- 'tombololaw11.EdgeApart', WHERE WHAT IT READS IS OF BULK AT MOST 1048576: true; the input reads as it did. -/
def edgeApartUptoRow : OpenClaim := { program := "ytahabfjngeicmaa", sum := "a7dc2a7e87f31c058a3846313aa740042a2ff0545a07d3aed1ac4fa2803beed9", func := "tombolo/tombololaw11.EdgeApart", spec := "edgeApart", unfollowed := true, recurses := true, apart := false, narrowed := true }
def EdgeApartUptoSaid : Prop := edgeApartUptoRow.holds Try.pinned (OpenSpec.upto edgeApartSpec)

/-- 'tombololaw11.EdgeTurns', WHERE WHAT IT READS IS OF BULK AT MOST 1048576: true; the input reads as it did. -/
def edgeTurnsUptoRow : OpenClaim := { program := "ytahabfjngeicmaa", sum := "a7dc2a7e87f31c058a3846313aa740042a2ff0545a07d3aed1ac4fa2803beed9", func := "tombolo/tombololaw11.EdgeTurns", spec := "edgeTurns", unfollowed := true, recurses := true, apart := false, narrowed := true }
def EdgeTurnsUptoSaid : Prop := edgeTurnsUptoRow.holds Try.pinned (OpenSpec.upto edgeTurnsSpec)

end Rows
end Go.Proofs.Ytahabfjngeicmaa
