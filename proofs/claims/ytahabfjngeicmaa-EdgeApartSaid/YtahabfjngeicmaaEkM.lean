/- An edge, and its slot, built; a list of one. -/
import Derived.Test.YtahabfjngeicmaaEkK
namespace Go.Proofs.Ytahabfjngeicmaa
open Go.RowKit

set_option maxRecDepth 100000

section
variable {w : World} {s a b l : Int} {t : Bool}
abbrev vOne (s a b l : Int) (t : Bool) : Value := .agg #[.int .i64 s, .int .i64 a, .int .i64 b, .int .i64 l, .bool t]
theorem run_b79 : (Instr.build 79 #[(0, .int .i64 s), (1, .agg #[.int .i64 a, .int .i64 b, .int .i64 l, .bool t])]).run Try.prog w = .ok (vOne s a b l t) w := by kernel_rfl
theorem run_bs : (Instr.buildSlice 68 1 #[(0, vOne s a b l t)]).run Try.prog w = .ok (.slice (some ⟨w.heap.size, 0, none⟩) 1 1) (w.alloc (.cells #[.int .i64 s, .int .i64 a, .int .i64 b, .int .i64 l, .bool t] 79)) := by kernel_rfl
theorem exec_b79 {ρ : Operand → Value} {oi : Oper} {x y : Operand} (hop : oi.op = .build 79 #[(0, x), (1, y)]) (hx : ρ x = .int .i64 s) (hy : ρ y = .agg #[.int .i64 a, .int .i64 b, .int .i64 l, .bool t]) : (execOp ρ oi).run Try.prog w = .ok (.value (vOne s a b l t)) w := by
  unfold execOp
  rw [hop]
  simp only [List.map_toArray, List.map_cons, List.map_nil, hx, hy, Sem.run_bind, Sem.run_pure, run_b79, Result.andThen_ok]
theorem step_bs {ops : Array Oper} {o : Oper} {a9 : Act} {K : Act → World → Prop} {Q : Exit → Act → World → Prop} {E : Prop} {x : Operand} (hgd : o.guard = none)
    (ho : o.op = .buildSlice 68 1 #[(0, x)]) (hx : a9.eval x = vOne s a b l t)
    (hK : K (a9.put o.dst (.slice (some ⟨w.heap.size, 0, none⟩) 1 1)) (w.alloc (.cells #[.int .i64 s, .int .i64 a, .int .i64 b, .int .i64 l, .bool t] 79))) :
    if Region.wanted o (yielded ops a9.tmps) = true then Oper.wp Try.prog o a9 w K Q else E := by
  have hw : Region.wanted o (yielded ops a9.tmps) = true := by simp [Region.wanted, hgd]
  rw [if_pos hw]
  unfold Oper.wp execOp
  simp only [ho, List.map_toArray, List.map_cons, List.map_nil, hx, Sem.run_bind, Sem.run_pure, run_bs, Result.andThen_ok]
  exact hK
end
end Go.Proofs.Ytahabfjngeicmaa
