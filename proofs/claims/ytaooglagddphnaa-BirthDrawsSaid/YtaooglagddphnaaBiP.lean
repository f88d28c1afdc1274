/- Draws that came in, opened. -/
import Derived.Test.YtaooglagddphnaaZF
import Derived.Lib.SmallJoins
import Derived.Deep.Slices
import Derived.Deep.Fields
import Derived.ChangeSame
import Derived.OpenShut
namespace Go.Proofs.Ytaooglagddphnaa
open Go.RowKit Go.ChangeShapes Go.WideShapes Go.Deep

theorem open_num15 {H : Type} {enc : TypeId × Value → H} {w : World} {base fuel : Nat} {held : Bool} {v : Value} {x : DataW H × List MemPlace}
    (h : DataW.trod enc Try.prog w base (fun _ => true) held fuel 62 [v] = some x) : ∃ a len cap f, v = .slice a len cap ∧ IsNum w a len f := by
  rcases open_ints Try.underlying62 Try.underlying51 (by kernel_rfl) h with ⟨hcs, _⟩ | ⟨y, l, c, zs, hcs, _, hl, hm, hz, _, hcell, hwz⟩
  · simp at hcs
    exact ⟨none, 0, 0, fun _ => 0, hcs, fun h => absurd h (Nat.lt_irrefl _)⟩
  · simp at hcs
    subst hcs
    refine ⟨some y, l, c, fun k => (zs.getD k 0).toNat, rfl, fun h0 => ?_⟩
    obtain ⟨b, off, spot⟩ := y
    simp at hz
    have hc0 := hcell 0 (by omega)
    have hspot : spot = none := by simpa [Addr.add] using World.cell?_spot hc0
    subst hspot
    refine ⟨b, off, rfl, fun k hk => ?_⟩
    have hc := hcell k (by omega)
    have r := range_u64 hwz k
    rw [Addr.add_lit] at hc
    have r1 : 0 ≤ zs.getD k 0 := by simpa using r.1
    have r2 : zs.getD k 0 ≤ 18446744073709551615 := by simpa using r.2
    refine ⟨?_, (by show (zs.getD k 0).toNat ≤ _; omega)⟩
    rw [hc]
    show _ = some (Value.int .u64 ((zs.getD k 0).toNat : Int))
    rw [Int.toNat_of_nonneg r1]
end Go.Proofs.Ytaooglagddphnaa
