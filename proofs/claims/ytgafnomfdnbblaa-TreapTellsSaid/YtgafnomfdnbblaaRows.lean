/-
  No cell of these rows narrows 'for every input' (looked for: loops, veiled, ifaces, maps, wideKeys, modest, calm, conditions, laid).
  DERIVED. THE GIVEN ROWS OF THIS SEAT. 5 by the template 'for every input the law returns true; each argument reads behind the call as it read before'; 0 by the template 'total and deterministic' (their statements: YtgafnomfdnbblaaTotals.lean).
  GIVEN WITH THE SEED: the statements are not yours to turn. If you find one false, say at which input.
  Laid BY PROGRAM, IN A SANDBOX (cutbox-rows.mjs): the forced cells as the released guide's own fill.sh prints them over the translation f74326a41cca2fa4… (all of the seat's roots in one cut). By AI agents, Wed Nov 11 2026. No macro, syntax, notation, axiom, sorry.
-/
import Derived.Test.YtgafnomfdnbblaaChecked
import GoSem.Claim
import GoSem.ClaimJoined
import GoSem.ClaimMapViews
import Derived.JoinedTies
import Derived.KernelRfl
namespace Go.Proofs.Ytgafnomfdnbblaa
/- THE CELL 'sum', in the pinned program and in every row, IS THE sha256 OF THE DUMP (.gsa) THAT YtgafnomfdnbblaaProg.lean LOADS. Nothing in Lean hashes anything: it is a label: what it is worth is what the hold of that sum in a sandbox is worth. -/
noncomputable def Try.pinned : Pinned := { name := "ytgafnomfdnbblaa", sum := "f74326a41cca2fa408dc68093c8a47e0387fbdacb18a4aa1d3f1027a8e548bac", checked := Try.checked }
namespace Rows
def none {H : Type} : Left H := { results := [], args := [] }

/-- 'tombololaw09.TreapPlays': WHATEVER THE INPUT: true; the input reads as it did. -/
def treapPlaysSpec : ChangeSpec := { name := "treapPlays", fn := fun _ => fun
  | [d] => { results := [.lit (.bool true)], args := [d] }
  | _ => none }
def treapPlaysRow : OpenClaim := { program := "ytgafnomfdnbblaa", sum := "f74326a41cca2fa408dc68093c8a47e0387fbdacb18a4aa1d3f1027a8e548bac", func := "tombolo/tombololaw09.TreapPlays", spec := "treapPlays", unfollowed := true, recurses := true, apart := false }
def TreapPlaysSaid : Prop := treapPlaysRow.holds Try.pinned (OpenSpec.ofChange treapPlaysSpec)

/-- ITS FALSE NEIGHBOUR: 'it returns false'. Refute it at one input. -/
def treapPlaysWrong : ChangeSpec := { name := "treapPlays", fn := fun _ => fun
  | [d] => { results := [.lit (.bool false)], args := [d] }
  | _ => none }
def TreapPlaysWrongFalsely : Prop := treapPlaysRow.holds Try.pinned (OpenSpec.ofChange treapPlaysWrong)

/-- 'tombololaw09.TreapTells': WHATEVER THE INPUT: true; the input reads as it did. -/
def treapTellsSpec : ChangeSpec := { name := "treapTells", fn := fun _ => fun
  | [d] => { results := [.lit (.bool true)], args := [d] }
  | _ => none }
def treapTellsRow : OpenClaim := { program := "ytgafnomfdnbblaa", sum := "f74326a41cca2fa408dc68093c8a47e0387fbdacb18a4aa1d3f1027a8e548bac", func := "tombolo/tombololaw09.TreapTells", spec := "treapTells", unfollowed := true, recurses := true, apart := false }
def TreapTellsSaid : Prop := treapTellsRow.holds Try.pinned (OpenSpec.ofChange treapTellsSpec)

/-- ITS FALSE NEIGHBOUR: 'it returns false'. Refute it at one input. -/
def treapTellsWrong : ChangeSpec := { name := "treapTells", fn := fun _ => fun
  | [d] => { results := [.lit (.bool false)], args := [d] }
  | _ => none }
def TreapTellsWrongFalsely : Prop := treapTellsRow.holds Try.pinned (OpenSpec.ofChange treapTellsWrong)

/-- 'tombololaw09.TreapBack': WHATEVER THE INPUT: true; the input reads as it did. -/
def treapBackSpec : ChangeSpec := { name := "treapBack", fn := fun _ => fun
  | [d1, d2, d3] => { results := [.lit (.bool true)], args := [d1, d2, d3] }
  | _ => none }
def treapBackRow : OpenClaim := { program := "ytgafnomfdnbblaa", sum := "f74326a41cca2fa408dc68093c8a47e0387fbdacb18a4aa1d3f1027a8e548bac", func := "tombolo/tombololaw09.TreapBack", spec := "treapBack", unfollowed := true, recurses := true, apart := false }
def TreapBackSaid : Prop := treapBackRow.holds Try.pinned (OpenSpec.ofChange treapBackSpec)

/-- ITS FALSE NEIGHBOUR: 'it returns false'. Refute it at one input. -/
def treapBackWrong : ChangeSpec := { name := "treapBack", fn := fun _ => fun
  | [d1, d2, d3] => { results := [.lit (.bool false)], args := [d1, d2, d3] }
  | _ => none }
def TreapBackWrongFalsely : Prop := treapBackRow.holds Try.pinned (OpenSpec.ofChange treapBackWrong)

/-- 'tombololaw09.TreapSame': WHATEVER THE INPUT: true; the input reads as it did. -/
def treapSameSpec : ChangeSpec := { name := "treapSame", fn := fun _ => fun
  | [d] => { results := [.lit (.bool true)], args := [d] }
  | _ => none }
def treapSameRow : OpenClaim := { program := "ytgafnomfdnbblaa", sum := "f74326a41cca2fa408dc68093c8a47e0387fbdacb18a4aa1d3f1027a8e548bac", func := "tombolo/tombololaw09.TreapSame", spec := "treapSame", unfollowed := true, recurses := true, apart := false }
def TreapSameSaid : Prop := treapSameRow.holds Try.pinned (OpenSpec.ofChange treapSameSpec)

/-- ITS FALSE NEIGHBOUR: 'it returns false'. Refute it at one input. -/
def treapSameWrong : ChangeSpec := { name := "treapSame", fn := fun _ => fun
  | [d] => { results := [.lit (.bool false)], args := [d] }
  | _ => none }
def TreapSameWrongFalsely : Prop := treapSameRow.holds Try.pinned (OpenSpec.ofChange treapSameWrong)

/-- 'tombololaw09.TreapFirst': WHATEVER THE INPUT: true; the input reads as it did. -/
def treapFirstSpec : ChangeSpec := { name := "treapFirst", fn := fun _ => fun
  | [d1, d2] => { results := [.lit (.bool true)], args := [d1, d2] }
  | _ => none }
def treapFirstRow : OpenClaim := { program := "ytgafnomfdnbblaa", sum := "f74326a41cca2fa408dc68093c8a47e0387fbdacb18a4aa1d3f1027a8e548bac", func := "tombolo/tombololaw09.TreapFirst", spec := "treapFirst", unfollowed := true, recurses := true, apart := false }
def TreapFirstSaid : Prop := treapFirstRow.holds Try.pinned (OpenSpec.ofChange treapFirstSpec)

/-- ITS FALSE NEIGHBOUR: 'it returns false'. Refute it at one input. -/
def treapFirstWrong : ChangeSpec := { name := "treapFirst", fn := fun _ => fun
  | [d1, d2] => { results := [.lit (.bool false)], args := [d1, d2] }
  | _ => none }
def TreapFirstWrongFalsely : Prop := treapFirstRow.holds Try.pinned (OpenSpec.ofChange treapFirstWrong)

/- THE SECOND FORM. 'bulk': how many values and letters a reading holds, each counted each time it is reached (what is shared counts as often as it is met; a slice's spare places count too). A statement '..UptoSaid' is the law's where the arguments, and the package variables that the reading takes, are together of bulk at most 1048576: NARROWER than '..Said'. Prove '..Said' where nothing that the law and all that it calls make is longer than what came in: it says more and counts as full. Else prove '..UptoSaid'. A law counts once. -/
mutual
def uptoBulk {H : Type} : DataW H → Nat
  | .lit (.string bytes) => bytes.length + 1
  | .lit _ => 1
  | .nil => 1
  | .ptr d => uptoBulk d + 1
  | .slice elems spare => uptoBulkAll elems + uptoBulkAll spare + 1
  | .agg parts => uptoBulkAll parts + 1
  | .iface _ d => uptoBulk d + 1
  | .map entries => uptoBulkEntries entries + 1
  | .held _ => 1
def uptoBulkAll {H : Type} : List (DataW H) → Nat
  | [] => 0
  | d :: r => uptoBulk d + uptoBulkAll r
def uptoBulkEntries {H : Type} : List (Lit × DataW H) → Nat
  | [] => 0
  | x :: r => uptoBulkEntry x + uptoBulkEntries r
def uptoBulkEntry {H : Type} : Lit × DataW H → Nat
  | (.string bytes, d) => bytes.length + uptoBulk d + 1
  | (_, d) => uptoBulk d + 1
 end
def uptoSmall : (H : Type) → List (DataW H) → Bool := fun _ ds => decide (uptoBulkAll ds ≤ 1048576)
def OpenSpec.upto (s : _root_.Go.ChangeSpec) : _root_.Go.OpenSpec := { _root_.Go.OpenSpec.ofChange s with cond := some uptoSmall }

/-- 'tombololaw09.TreapPlays', WHERE WHAT IT READS IS OF BULK AT MOST 1048576: true; the input reads as it did. -/
def treapPlaysUptoRow : OpenClaim := { program := "ytgafnomfdnbblaa", sum := "f74326a41cca2fa408dc68093c8a47e0387fbdacb18a4aa1d3f1027a8e548bac", func := "tombolo/tombololaw09.TreapPlays", spec := "treapPlays", unfollowed := true, recurses := true, apart := false, narrowed := true }
def TreapPlaysUptoSaid : Prop := treapPlaysUptoRow.holds Try.pinned (OpenSpec.upto treapPlaysSpec)

/-- 'tombololaw09.TreapTells', WHERE WHAT IT READS IS OF BULK AT MOST 1048576: true; the input reads as it did. -/
def treapTellsUptoRow : OpenClaim := { program := "ytgafnomfdnbblaa", sum := "f74326a41cca2fa408dc68093c8a47e0387fbdacb18a4aa1d3f1027a8e548bac", func := "tombolo/tombololaw09.TreapTells", spec := "treapTells", unfollowed := true, recurses := true, apart := false, narrowed := true }
def TreapTellsUptoSaid : Prop := treapTellsUptoRow.holds Try.pinned (OpenSpec.upto treapTellsSpec)

/-- 'tombololaw09.TreapBack', WHERE WHAT IT READS IS OF BULK AT MOST 1048576: true; the input reads as it did. -/
def treapBackUptoRow : OpenClaim := { program := "ytgafnomfdnbblaa", sum := "f74326a41cca2fa408dc68093c8a47e0387fbdacb18a4aa1d3f1027a8e548bac", func := "tombolo/tombololaw09.TreapBack", spec := "treapBack", unfollowed := true, recurses := true, apart := false, narrowed := true }
def TreapBackUptoSaid : Prop := treapBackUptoRow.holds Try.pinned (OpenSpec.upto treapBackSpec)

/-- 'tombololaw09.TreapSame', WHERE WHAT IT READS IS OF BULK AT MOST 1048576: true; the input reads as it did. -/
def treapSameUptoRow : OpenClaim := { program := "ytgafnomfdnbblaa", sum := "f74326a41cca2fa408dc68093c8a47e0387fbdacb18a4aa1d3f1027a8e548bac", func := "tombolo/tombololaw09.TreapSame", spec := "treapSame", unfollowed := true, recurses := true, apart := false, narrowed := true }
def TreapSameUptoSaid : Prop := treapSameUptoRow.holds Try.pinned (OpenSpec.upto treapSameSpec)

/-- 'tombololaw09.TreapFirst', WHERE WHAT IT READS IS OF BULK AT MOST 1048576: true; the input reads as it did. -/
def treapFirstUptoRow : OpenClaim := { program := "ytgafnomfdnbblaa", sum := "f74326a41cca2fa408dc68093c8a47e0387fbdacb18a4aa1d3f1027a8e548bac", func := "tombolo/tombololaw09.TreapFirst", spec := "treapFirst", unfollowed := true, recurses := true, apart := false, narrowed := true }
def TreapFirstUptoSaid : Prop := treapFirstUptoRow.holds Try.pinned (OpenSpec.upto treapFirstSpec)

end Rows
end Go.Proofs.Ytgafnomfdnbblaa
