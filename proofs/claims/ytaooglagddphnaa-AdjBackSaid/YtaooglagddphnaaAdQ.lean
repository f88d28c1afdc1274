/- A step of the law: its state. Printed by wip/tools/adq.py. -/
import Derived.Test.YtaooglagddphnaaAdP
import Derived.Deep.RegionHeld3
namespace Go.Proofs.Ytaooglagddphnaa
open Go.RowKit

set_option maxRecDepth 100000

section
variable {α : Type} {a b : α} {l : List α} {i : Nat}
theorem sq1 : l.toArray.setIfInBounds i a = (l.set i a).toArray := List.setIfInBounds_toArray ..
theorem sq2 : (a :: l).set 0 b = b :: l := rfl
theorem sq3 : (a :: l).set (i + 1) b = a :: l.set i b := rfl
theorem sq4 {h : i < l.toArray.size} : l.toArray[i] = l[i]'(by simpa using h) := rfl
theorem sq5 {h : 0 < (a :: l).length} : (a :: l)[0] = a := rfl
theorem sq6 {h : i + 1 < (a :: l).length} : (a :: l)[i + 1] = l[i]'(by simpa using h) := rfl
end
section
variable {P : Program} {ops : Array Oper} {Q : Exit → Act → World → Prop} {md : Region.Mode} {S : World → Prop}
/-- An operation that isn't run comes up first. -/
theorem tkF {i : Nat} {oi : Oper} {fuel : Nat} {listed : Array Bool} {a : Act} {w : World} (hi : ops[i]? = some oi) (h : wpAnyH P md ops Q S fuel (listed.setIfInBounds i true) (a.put oi.dst undef) w) (hs : Region.noSelect ops = true := by kernel_rfl) (hf : Region.free md ops listed i = true := by kernel_rfl) (hr : (Region.ready md ops listed).contains i = true := by kernel_rfl) (hQ : ∀ c a w, Q (.panic c) (a.put oi.dst undef) w → Q (.panic c) a w := by exact fun _ _ _ h => h) (hg : Region.wanted oi (yielded ops a.tmps) = false := by rfl) (hS : S w := by assumption) : wpAnyH P md ops Q S (fuel + 1) listed a w :=
  wpAnyH_take hi hs hf hr hQ (Or.inr ⟨hg, rfl⟩) hS h
/-- One that is run and leaves memory as it is. -/
theorem tkN {i : Nat} {oi : Oper} {v : Value} {fuel : Nat} {listed : Array Bool} {a : Act} {w : World} (hi : ops[i]? = some oi) (hy : ∀ w, S w → (execOp a.eval oi).run P w = .ok (.value v) w) (h : wpAnyH P md ops Q S fuel (listed.setIfInBounds i true) (a.put oi.dst v) w) (hs : Region.noSelect ops = true := by kernel_rfl) (hf : Region.free md ops listed i = true := by kernel_rfl) (hr : (Region.ready md ops listed).contains i = true := by kernel_rfl) (hQ : ∀ c a w, Q (.panic c) (a.put oi.dst v) w → Q (.panic c) a w := by exact fun _ _ _ h => h) (hg : Region.wanted oi (yielded ops a.tmps) = true := by rfl) (hS : S w := by assumption) : wpAnyH P md ops Q S (fuel + 1) listed a w :=
  wpAnyH_take hi hs hf hr hQ (Or.inl ⟨hg, hy⟩) hS h
end
/-- A call's value. -/
abbrev vO12 (kd s u v l : Int) : Value := .agg #[.int .i64 kd, .int .i64 s, .int .i64 u, .int .i64 v, .int .i64 l]
/-- In a step: its boxes. -/
structure SX12 (w0 W : World) (base q eb lb ob lo : Nat) (V S T : Int) (p gb cap m n : Nat) (f : Nat → Int) (mk : Nat → Nat) (ts : List Tp) (bs : List E1) (qq : Nat → Nat → List Nat) (kd s u v l : Int) : Prop where
  pm : PM12 w0 W base q eb lb V S T p gb cap m n f mk ts bs qq
  fo : Blk W ob 47 #[.int .i64 kd, .int .i64 s, .int .i64 u, .int .i64 v, .int .i64 l]
  fl : Blk W lo 23 #[.int .i64 V, .int .i64 S, .int .i64 T]
/-- What its regions read. -/
structure SQ12 (W : World) (ob lo q eb lb p : Nat) (V S T kd s u v l : Int) : Prop where
  fo : Blk W ob 47 #[.int .i64 kd, .int .i64 s, .int .i64 u, .int .i64 v, .int .i64 l]
  fl : Blk W lo 23 #[.int .i64 V, .int .i64 S, .int .i64 T]
  fq : PB12 W q eb lb V S T p
/-- What a step leaves. -/
def StD12 (w0 : World) (base q eb lb : Nat) (V S T : Int) (p gb cap m n : Nat) (ts : List Tp) (bs : List E1) (qq : Nat → Nat → List Nat) (kd s u v l : Int) (e : Ending) (w' : World) : Prop :=
  e = .returned (.tuple #[]) ∧ ∃ f' mk' bs' qq', PM12 w0 w' base q eb lb V S T p gb cap (m + 72 + 32 * nN V S) (n + 4) f' mk' ts bs' qq' ∧ ER V S T f' bs' ∧
    (kd = 1 → bs' = bs ∧ qq' = qq ∨ ∃ s9 u9 v9 l9 : Nat, s = s9 ∧ u = u9 ∧ v = v9 ∧ l = l9 ∧ (l9 : Int) < lv V ∧ (∀ x ∈ bs, x.s ≠ s9) ∧ bs' = bs ++ [⟨s9, min u9 v9, max u9 v9, l9, false⟩] ∧ qq' = add2 qq s9 (min u9 v9) (max u9 v9) l9)
section
variable {w w' w0 : World} {base q eb lb ob lo p gb cap m m' n n' : Nat} {V S T kd s u v l : Int} {f : Nat → Int} {mk : Nat → Nat} {ts : List Tp} {bs : List E1} {qq : Nat → Nat → List Nat}
theorem PM12.below (h : PM12 w0 w base q eb lb V S T p gb cap m n f mk ts bs qq) (hb : Below w.heap.size w w') : PM12 w0 w' base q eb lb V S T p gb cap m n f mk ts bs qq := ⟨h.ps.below hb, h.lq, h.mq, h.lk⟩
theorem PM12.alloc (h : PM12 w0 w base q eb lb V S T p gb cap m n f mk ts bs qq) (o : Obj) : PM12 w0 (w.alloc o) base q eb lb V S T p gb cap m n f mk ts bs qq := h.below ((Below.refl _ _).alloc (Nat.le_refl _) o)
theorem PM12.drew (h : PM12 w0 w base q eb lb V S T p gb cap m n f mk ts bs qq) : PM12 w0 w.drew base q eb lb V S T p gb cap m n f mk ts bs qq := h.below (Below.refl _ _).drew
theorem PM12.next (h : PM12 w0 w base q eb lb V S T p gb cap m n f mk ts bs qq) (hm : TA w' V S T p gb cap m' f mk ts) (ho : Only p gb w w') : PM12 w0 w' base q eb lb V S T p gb cap m' n f mk ts bs qq := ⟨h.ps.next hm ho, h.lq, h.mq, h.lk⟩
theorem PM12.more (h : PM12 w0 w base q eb lb V S T p gb cap m n f mk ts bs qq) (hm : m ≤ m') (hn : n ≤ n') : PM12 w0 w base q eb lb V S T p gb cap m' n' f mk ts bs qq := ⟨h.ps.more hm hn hn, h.lq, h.mq, h.lk⟩
theorem SX12.below (h : SX12 w0 w base q eb lb ob lo V S T p gb cap m n f mk ts bs qq kd s u v l) (hb : Below w.heap.size w w') : SX12 w0 w' base q eb lb ob lo V S T p gb cap m n f mk ts bs qq kd s u v l := ⟨h.pm.below hb, h.fo.below hb h.fo.lt, h.fl.below hb h.fl.lt⟩
theorem SX12.drew (h : SX12 w0 w base q eb lb ob lo V S T p gb cap m n f mk ts bs qq kd s u v l) : SX12 w0 w.drew base q eb lb ob lo V S T p gb cap m n f mk ts bs qq kd s u v l := h.below (Below.refl _ _).drew
theorem SX12.next (h : SX12 w0 w base q eb lb ob lo V S T p gb cap m n f mk ts bs qq kd s u v l) (hm : TA w' V S T p gb cap m' f mk ts) (ho : Only p gb w w') : SX12 w0 w' base q eb lb ob lo V S T p gb cap m' n f mk ts bs qq kd s u v l := ⟨h.pm.next hm ho, Blk.ta h.fo h.pm.ps.ta ho (by decide) (by decide), Blk.ta h.fl h.pm.ps.ta ho (by decide) (by decide)⟩
theorem SX12.sq (h : SX12 w0 w base q eb lb ob lo V S T p gb cap m n f mk ts bs qq kd s u v l) : SQ12 w ob lo q eb lb p V S T kd s u v l := ⟨h.fo, h.fl, h.pm.ps.pb⟩
theorem SX12.lt (h : SX12 w0 w base q eb lb ob lo V S T p gb cap m n f mk ts bs qq kd s u v l) : ob < w.heap.size ∧ lo < w.heap.size ∧ q < w.heap.size := ⟨h.fo.lt, h.fl.lt, h.pm.ps.pb.lt⟩
theorem SQ12.rule (ob lo q eb lb p : Nat) (V S T kd s u v l : Int) : ∀ W : World, SQ12 W ob lo q eb lb p V S T kd s u v l →
    (W.cell? ⟨ob, 0, none⟩ = some (.int .i64 kd) ∧ W.cell? ⟨ob, 1, none⟩ = some (.int .i64 s) ∧ W.cell? ⟨ob, 2, none⟩ = some (.int .i64 u) ∧ W.cell? ⟨ob, 3, none⟩ = some (.int .i64 v) ∧ W.cell? ⟨ob, 4, none⟩ = some (.int .i64 l)) ∧
    (W.cell? ⟨lo, 0, none⟩ = some (.int .i64 V) ∧ W.cell? ⟨lo, 1, none⟩ = some (.int .i64 S) ∧ W.cell? ⟨lo, 2, none⟩ = some (.int .i64 T)) ∧
    (W.cell? ⟨q, 0, none⟩ = some (.int .i64 V) ∧ W.cell? ⟨q, 1, none⟩ = some (.int .i64 S) ∧ W.cell? ⟨q, 2, none⟩ = some (.int .i64 T) ∧ W.cell? ⟨q, 3, none⟩ = some (.int .i64 V) ∧ W.cell? ⟨q, 4, none⟩ = some (.int .i64 S) ∧ W.cell? ⟨q, 5, none⟩ = some (.int .i64 T) ∧ W.cell? ⟨q, 6, none⟩ = some (.iface 84 (pmV p)) ∧
    W.cell? ⟨q, 7, none⟩ = some (.int .i64 1) ∧ W.cell? ⟨q, 8, none⟩ = some (.int .i64 0) ∧ W.cell? ⟨q, 9, none⟩ = some (.int .i64 V) ∧ W.cell? ⟨q, 10, none⟩ = some (.int .i64 S) ∧ W.cell? ⟨q, 11, none⟩ = some (.int .i64 T) ∧ W.cell? ⟨q, 12, none⟩ = some (.iface 84 (pmV p)) ∧ W.cell? ⟨q, 13, none⟩ = some (.map (some eb)) ∧ W.cell? ⟨q, 14, none⟩ = some (.map (some lb))) :=
  fun _ h => ⟨⟨h.fo.cell 0, h.fo.cell 1, h.fo.cell 2, h.fo.cell 3, h.fo.cell 4⟩, ⟨h.fl.cell 0, h.fl.cell 1, h.fl.cell 2⟩, h.fq.cells⟩
theorem SX12.stays (h : SX12 w0 w base q eb lb ob lo V S T p gb cap m n f mk ts bs qq kd s u v l) (hE : ER V S T f bs) : StD12 w0 base q eb lb V S T p gb cap m n ts bs qq kd s u v l (.returned (.tuple #[])) w :=
  ⟨rfl, f, mk, bs, qq, h.pm.more (by omega) (by omega), hE, fun _ => .inl ⟨rfl, rfl⟩⟩
end
end Go.Proofs.Ytaooglagddphnaa
