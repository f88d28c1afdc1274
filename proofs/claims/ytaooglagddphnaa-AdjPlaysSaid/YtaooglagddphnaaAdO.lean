/- The law's play: its memory, its maps. -/
import Derived.Test.YtaooglagddphnaaAdN
namespace Go.Proofs.Ytaooglagddphnaa
open Go.RowKit

set_option maxRecDepth 100000

/-- A play's block. -/
def PB12 (w : World) (q eb lb : Nat) (V S T : Int) (p : Nat) : Prop := Blk w q 45 #[.int .i64 V, .int .i64 S, .int .i64 T, .int .i64 V, .int .i64 S, .int .i64 T, .iface 84 (pmV p), .int .i64 1, .int .i64 0, .int .i64 V, .int .i64 S, .int .i64 T, .iface 84 (pmV p), .map (some eb), .map (some lb)]
/-- Where its blocks lie. -/
structure BO12 (base q p gb eb lb : Nat) : Prop where
  q : base ≤ q
  p : base ≤ p
  g : base ≤ gb
  e : base ≤ eb
  l : base ≤ lb
  ne : eb ≠ lb
/-- A play in memory. -/
structure PS12 (w0 W : World) (base q eb lb : Nat) (V S T : Int) (p gb cap m n nl : Nat) (f : Nat → Int) (mk : Nat → Nat) (ts : List Tp) (G : Value → Value → Prop) (D : Nat → Nat → List Nat) : Prop where
  pb : PB12 W q eb lb V S T p
  ta : TA W V S T p gb cap m f mk ts
  fe : FM 3 W eb n G
  fl : LM W lb nl D base
  be : Below base w0 W
  bo : BO12 base q p gb eb lb
  kb : ∀ (i : Nat) (ty : TypeId) (cs : Array Value), Blk w0 i ty cs → ty ≠ 118 → ty ≠ 51 → Blk W i ty cs
section
variable {w w' w0 : World} {base q eb lb p gb cap m m' n nl n' : Nat} {V S T : Int} {f f' : Nat → Int} {mk mk' : Nat → Nat} {ts ts' : List Tp} {G G' : Value → Value → Prop} {D D' : Nat → Nat → List Nat}
theorem PB12.lt (h : PB12 w q eb lb V S T p) : q < w.heap.size := Blk.lt h
theorem PB12.below (h : PB12 w q eb lb V S T p) (hb : Below w.heap.size w w') : PB12 w' q eb lb V S T p := Blk.below h hb (Blk.lt h)
theorem PB12.cells (h : PB12 w q eb lb V S T p) : w.cell? ⟨q, 0, none⟩ = some (.int .i64 V) ∧ w.cell? ⟨q, 1, none⟩ = some (.int .i64 S) ∧ w.cell? ⟨q, 2, none⟩ = some (.int .i64 T) ∧ w.cell? ⟨q, 3, none⟩ = some (.int .i64 V) ∧ w.cell? ⟨q, 4, none⟩ = some (.int .i64 S) ∧ w.cell? ⟨q, 5, none⟩ = some (.int .i64 T) ∧ w.cell? ⟨q, 6, none⟩ = some (.iface 84 (pmV p)) ∧
    w.cell? ⟨q, 7, none⟩ = some (.int .i64 1) ∧ w.cell? ⟨q, 8, none⟩ = some (.int .i64 0) ∧ w.cell? ⟨q, 9, none⟩ = some (.int .i64 V) ∧ w.cell? ⟨q, 10, none⟩ = some (.int .i64 S) ∧ w.cell? ⟨q, 11, none⟩ = some (.int .i64 T) ∧ w.cell? ⟨q, 12, none⟩ = some (.iface 84 (pmV p)) ∧ w.cell? ⟨q, 13, none⟩ = some (.map (some eb)) ∧ w.cell? ⟨q, 14, none⟩ = some (.map (some lb)) :=
  ⟨Blk.cell h 0, Blk.cell h 1, Blk.cell h 2, Blk.cell h 3, Blk.cell h 4, Blk.cell h 5, Blk.cell h 6, Blk.cell h 7, Blk.cell h 8, Blk.cell h 9, Blk.cell h 10, Blk.cell h 11, Blk.cell h 12, Blk.cell h 13, Blk.cell h 14⟩
theorem PB12.rule (q eb lb : Nat) (V S T : Int) (p : Nat) : ∀ W : World, PB12 W q eb lb V S T p → W.cell? ⟨q, 0, none⟩ = some (.int .i64 V) ∧ W.cell? ⟨q, 1, none⟩ = some (.int .i64 S) ∧ W.cell? ⟨q, 2, none⟩ = some (.int .i64 T) ∧ W.cell? ⟨q, 3, none⟩ = some (.int .i64 V) ∧ W.cell? ⟨q, 4, none⟩ = some (.int .i64 S) ∧ W.cell? ⟨q, 5, none⟩ = some (.int .i64 T) ∧ W.cell? ⟨q, 6, none⟩ = some (.iface 84 (pmV p)) ∧
    W.cell? ⟨q, 7, none⟩ = some (.int .i64 1) ∧ W.cell? ⟨q, 8, none⟩ = some (.int .i64 0) ∧ W.cell? ⟨q, 9, none⟩ = some (.int .i64 V) ∧ W.cell? ⟨q, 10, none⟩ = some (.int .i64 S) ∧ W.cell? ⟨q, 11, none⟩ = some (.int .i64 T) ∧ W.cell? ⟨q, 12, none⟩ = some (.iface 84 (pmV p)) ∧ W.cell? ⟨q, 13, none⟩ = some (.map (some eb)) ∧ W.cell? ⟨q, 14, none⟩ = some (.map (some lb)) := fun _ h => h.cells
theorem PS12.below (h : PS12 w0 w base q eb lb V S T p gb cap m n nl f mk ts G D) (hb : Below w.heap.size w w') : PS12 w0 w' base q eb lb V S T p gb cap m n nl f mk ts G D :=
  ⟨h.pb.below hb, h.ta.below hb, h.fe.keep (hb.block eb h.fe.lt), h.fl.below hb, h.be.trans (hb.mono (Nat.le_trans h.bo.q (Nat.le_of_lt h.pb.lt))), h.bo, fun i ty cs hz h1 h2 => (h.kb i ty cs hz h1 h2).below hb (h.kb i ty cs hz h1 h2).lt⟩
theorem PS12.drew (h : PS12 w0 w base q eb lb V S T p gb cap m n nl f mk ts G D) : PS12 w0 w.drew base q eb lb V S T p gb cap m n nl f mk ts G D := h.below (Below.refl _ _).drew
theorem PS12.alloc (h : PS12 w0 w base q eb lb V S T p gb cap m n nl f mk ts G D) (o : Obj) : PS12 w0 (w.alloc o) base q eb lb V S T p gb cap m n nl f mk ts G D := h.below ((Below.refl _ _).alloc (Nat.le_refl _) o)
theorem PS12.next (h : PS12 w0 w base q eb lb V S T p gb cap m n nl f mk ts G D) (hm : TA w' V S T p gb cap m' f' mk' ts') (ho : Only p gb w w') : PS12 w0 w' base q eb lb V S T p gb cap m' n nl f' mk' ts' G D := by
  obtain ⟨_, _, _, B, _⟩ := h.ta.em
  obtain ⟨zs, hz, _⟩ := B.cells
  exact ⟨Blk.ta h.pb h.ta ho (by decide) (by decide), hm, h.fe.keep (ho.block eb h.fe.lt (h.fe.ne_blk B.own) (h.fe.ne_blk hz)), h.fl.ta h.ta ho, Only.below h.be ho (Nat.le_trans h.bo.q (Nat.le_of_lt h.pb.lt)) h.bo.p h.bo.g, h.bo, fun i ty cs hz h1 h2 => Blk.ta (h.kb i ty cs hz h1 h2) h.ta ho h1 h2⟩
theorem PS12.more (h : PS12 w0 w base q eb lb V S T p gb cap m n nl f mk ts G D) (hm : m ≤ m') (hn : n ≤ n') {nl' : Nat} (hl : nl ≤ nl') : PS12 w0 w base q eb lb V S T p gb cap m' n' nl' f mk ts G D := ⟨h.pb, h.ta.more hm, h.fe.more hn, h.fl.more hl, h.be, h.bo, h.kb⟩
theorem PS12.bsz (h : PS12 w0 w base q eb lb V S T p gb cap m n nl f mk ts G D) : base ≤ w.heap.size := Nat.le_trans h.bo.q (Nat.le_of_lt h.pb.lt)
/-- The lists' map turned. -/
theorem PS12.lists (h : PS12 w0 w base q eb lb V S T p gb cap m n nl f mk ts G D) (hl : LM w' lb n' D' base) (hg : w.grownBy w' (some lb)) : PS12 w0 w' base q eb lb V S T p gb cap m n n' f mk ts G D' := by
  obtain ⟨_, _, _, B, _⟩ := h.ta.em
  obtain ⟨zs, hz, _⟩ := B.cells
  have ne : ∀ {i : Nat} {ty : TypeId} {cs : Array Value}, Blk w i ty cs → some lb ≠ some i := fun hi e => h.fl.ne_blk hi (by injection e)
  exact ⟨Blk.grown h.pb hg (ne h.pb), h.ta.grown hg (ne B.own) (ne hz), h.fe.keep (hg.block eb h.fe.lt fun e => h.bo.ne (by injection e)), hl, h.be.grown hg h.bsz (fun i e => by injection e with e; rw [← e]; exact h.bo.l), h.bo, fun i ty cs hz h1 h2 => Blk.grown (h.kb i ty cs hz h1 h2) hg (ne (h.kb i ty cs hz h1 h2))⟩
/-- The edges' map turned. -/
theorem PS12.edges (h : PS12 w0 w base q eb lb V S T p gb cap m n nl f mk ts G D) (hl : FM 3 w' eb n' G') (hg : w.grownBy w' (some eb)) : PS12 w0 w' base q eb lb V S T p gb cap m n' nl f mk ts G' D := by
  obtain ⟨_, _, _, B, _⟩ := h.ta.em
  obtain ⟨zs, hz, _⟩ := B.cells
  have ne : ∀ {i : Nat} {ty : TypeId} {cs : Array Value}, Blk w i ty cs → some eb ≠ some i := fun hi e => h.fe.ne_blk hi (by injection e)
  exact ⟨Blk.grown h.pb hg (ne h.pb), h.ta.grown hg (ne B.own) (ne hz), hl, h.fl.grown hg (fun e => h.bo.ne (by injection e)) fun i zs hz => ne hz, h.be.grown hg h.bsz (fun i e => by injection e with e; rw [← e]; exact h.bo.e), h.bo, fun i ty cs hz h1 h2 => Blk.grown (h.kb i ty cs hz h1 h2) hg (ne (h.kb i ty cs hz h1 h2))⟩
/-- Told from here on; and from there on again. -/
theorem PS12.here (h : PS12 w0 w base q eb lb V S T p gb cap m n nl f mk ts G D) : PS12 w w base q eb lb V S T p gb cap m n nl f mk ts G D := ⟨h.pb, h.ta, h.fe, h.fl, Below.refl _ _, h.bo, fun _ _ _ hz _ _ => hz⟩
theorem PS12.over (h : PS12 w0 w base q eb lb V S T p gb cap m n nl f mk ts G D) {m' n' nl' : Nat} {f' : Nat → Int} {mk' : Nat → Nat} {ts' : List Tp} {G' : Value → Value → Prop} {D' : Nat → Nat → List Nat} (h2 : PS12 w w' base q eb lb V S T p gb cap m' n' nl' f' mk' ts' G' D') : PS12 w0 w' base q eb lb V S T p gb cap m' n' nl' f' mk' ts' G' D' :=
  ⟨h2.pb, h2.ta, h2.fe, h2.fl, h.be.trans h2.be, h2.bo, fun i ty cs hz h3 h4 => h2.kb i ty cs (h.kb i ty cs hz h3 h4) h3 h4⟩
end
theorem wpList_delete12 {w : World} {ops : Array Oper} {rest : List Oper} {o : Oper} {a : Act} {Q : Exit → Act → World → Prop} (hg : o.guard = none) (m x : Operand) (t k : TypeId) (hop : o.op = Op.call { callee := Callee.builtin Builtin.delete, args := #[m, x], argTypes := #[t, k] }) {b : Nat} {key : Value}
    (hm : a.eval m = .map (some b)) (hx : a.eval x = key) {w' : World} (hrun : ∀ ty, (Builtin.delete_ #[t, k] ty #[.map (some b), key]).run Try.prog w = .ok (.tuple #[]) w') (hK : wpList Try.prog ops Q rest (a.put o.dst (.tuple #[])) w') : wpList Try.prog ops Q (o :: rest) a w := by
  refine wpList_plain hg fun K hK' => ?_
  unfold Oper.wp execOp
  simp only [hop, resolve, invoke, builtin, Sem.run_bind, Sem.run_pure, Result.andThen_ok, List.map_toArray, List.map_cons, List.map_nil, hm, hx, hrun]
  exact hK' _ _ hK
end Go.Proofs.Ytaooglagddphnaa
