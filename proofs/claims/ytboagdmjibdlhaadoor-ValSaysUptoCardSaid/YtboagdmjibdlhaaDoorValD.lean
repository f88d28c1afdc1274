/- Contracts of a walk's leave, enter and next. -/
import Derived.Test.YtboagdmjibdlhaaDoorValC
import Derived.StillTailTactics
namespace Go.Proofs.YtboagdmjibdlhaaDoor
open Go.RowKit

section
variable {B p q cap m : Nat} {w : World}

set_option maxRecDepth 100000 in
theorem leave_over {f : Fr} (A : Wk w B p q cap m [f]) :
    Calls Tryd.prog 43 #[.pointer (some ⟨p, 0, none⟩)] w fun e w' => e = .returned (.int .i64 0) ∧ w = w' := by
  have h0 : w.cell? ⟨p, 0, none⟩ = some (.slice (some ⟨q, 0, none⟩) 1 cap) := A.c0
  go_enter Tryd.func43, Tryd.ntmps43
  go_wp2
  go_ret
  exact ⟨rfl, rfl⟩

set_option maxRecDepth 100000 in
theorem leave_closed {f g : Fr} {r : List Fr} (A : Wk w B p q cap m (f :: g :: r)) (hk : f.k = f.n) :
    Calls Tryd.prog 43 #[.pointer (some ⟨p, 0, none⟩)] w fun e w' => e = .returned (.int .i64 3) ∧ Wk w' B p q cap (min m r.length) (g :: r) ∧ Only p q w w' := by
  have h0 : w.cell? ⟨p, 0, none⟩ = some (.slice (some ⟨q, 0, none⟩) (r.length + 2) cap) := A.c0
  have h1 := A.c1
  have f0 := A.fz 0
  have f1 := A.fz 1
  have e1 : (((r.length + 2 : Nat) : Int) == 1) = false := beq_eq_false_iff_ne.2 (by omega)
  have hb := A.big
  have hl : r.length + 2 ≤ cap := hb.1
  have hm := hb.2
  have hA := Lib.hid A; clear A
  have hK := Lib.hid hk; clear hk
  generalize hn : r.length = n at *
  have w1 : IntKind.i64.wrap ((n : Int) + 2 - 1) = (n : Int) + 1 := by unfold maxLen at hm; rw [IntKind.wrap_i64]; omega
  have b0 : (0 : Int) ≤ (n : Int) + 1 := by omega
  have b1 : (n : Int) + 1 ≤ (cap : Int) := by omega
  go_enter Tryd.func43, Tryd.ntmps43
  go_wp2_with fail
  go_still_tail 14, (by kernel_rfl)
  change wpList _ _ _ _ _ w.drew
  go_wp2_with fail
  have k2 : Blk (w.setCell ⟨p, 0, none⟩ (.slice (some ⟨q, 0, none⟩) (n + 1) cap)).drew p 79 #[.slice (some ⟨q, 0, none⟩) (n + 1) cap, .int .i64 (m : Int)] := hA.out.own.set_ 0 _
  have o2 : Only p p w (w.setCell ⟨p, 0, none⟩ (.slice (some ⟨q, 0, none⟩) (n + 1) cap)).drew := (Only.set_p (Only.refl _ _ _) _).drew
  clear h0 h1 f0 f1
  generalize (w.setCell ⟨p, 0, none⟩ (.slice (some ⟨q, 0, none⟩) (n + 1) cap)).drew = w2 at *
  have h0 := k2.cell 0
  have h1 := k2.cell 1
  simp at h0 h1
  have f1 := k2.frozen 1
  have K2 := Lib.hid k2; clear k2
  have O2 := Lib.hid o2; clear o2
  have w2' : IntKind.i64.wrap (n : Int) = (n : Int) := by unfold maxLen at hm; rw [IntKind.wrap_i64]; omega
  have fin : Hid (∀ mm : Nat, mm = min m n → Wk (w2.setCell ⟨p, 1, none⟩ (.int .i64 (mm : Int))).drew B p q cap (min m n) (g :: r) ∧ Only p q w (w2.setCell ⟨p, 1, none⟩ (.int .i64 (mm : Int))).drew) := by
    rintro mm rfl
    have A := hA.out
    have O3 : Only p p w (w2.setCell ⟨p, 1, none⟩ (.int .i64 ((min m n : Nat) : Int))).drew := (Only.set_p O2.out _).drew
    have hq : p ≠ q := A.pq
    refine ⟨⟨?_, ?_, ?_, ?_, ?_, ?_, A.base⟩, O3.wide⟩
    · have := (K2.out.set_ 1 (.int .i64 ((min m n : Nat) : Int))).drew
      simpa [hn] using this
    · have hp := A.path
      rw [show (f :: g :: r).length = n + 2 by simp [hn]] at hp
      refine row_shorter hp (by simp [hn]) ?_ (O3.block q A.q_lt hq.symm hq.symm)
      have e : (f :: g :: r).reverse.flatMap Fr.flat = (g :: r).reverse.flatMap Fr.flat ++ f.flat := by simp
      have l : ((g :: r).reverse.flatMap Fr.flat).length = (g :: r).length * 2 := by rw [flat_length]; simp
      rw [e, ← l, List.take_left]
    · simp [hn]; omega
    · exact A.nest.2.2.2.keep (A.keeps O3.wide)
    · have := A.few
      rw [rem_close hK.out] at this
      simp at this ⊢
      omega
    · simp [hn]; omega
  clear hA O2 K2
  by_cases hmn : (n : Int) < (m : Int)
  · go_still_tail 14, (by kernel_rfl)
    change wpList _ _ _ _ _ w2.drew
    go_wp2_with fail
    go_ret
    exact ⟨rfl, fin.out n (by omega)⟩
  · go_still_tail 14, (by kernel_rfl)
    change wpList _ _ _ _ _ w2.drew
    go_wp2_with fail
    go_ret
    exact ⟨rfl, fin.out m (by omega)⟩
end
end Go.Proofs.YtboagdmjibdlhaaDoor
