/- ZE: what BiPSound leans on. Printed by wip/tools/slim13.py. -/
import Derived.Test.YtaooglagddphnaaSZC
import Derived.Test.YtaooglagddphnaaSZB
import Derived.Maps.AppendAt
import Derived.RangeFuncNested
import Derived.RangeFuncBound
import Derived.RangeFuncCalls
import Derived.RangeFuncLeaves
import Derived.Shelf.Abstract
import Derived.Shelf.RegionOpen
import Derived.OwnWalkIn
import Derived.TacticsInMore
import Derived.LoopNIn
import Derived.LoopIn
import Derived.Laws.MakeOwn

/- Contract of Split. Printed by wip/tools/trpq.py. -/
namespace Go.Proofs.Ytaooglagddphnaa
open Go.RowKit Go.Shelf

attribute [local go_sem] Oper.semAt_some
set_option maxRecDepth 100000


end Go.Proofs.Ytaooglagddphnaa

/- Contract of Merge. Printed by wip/tools/trpr.py. -/
namespace Go.Proofs.Ytaooglagddphnaa
open Go.RowKit Go.Shelf

attribute [local go_sem] Oper.semAt_some
set_option maxRecDepth 100000


end Go.Proofs.Ytaooglagddphnaa

/- Contract of List. Printed by wip/tools/trps.py. -/
namespace Go.Proofs.Ytaooglagddphnaa
open Go.RowKit

set_option maxRecDepth 100000


end Go.Proofs.Ytaooglagddphnaa

/- The reference: contracts of above and Root. Printed by wip/tools/trpt.py. -/
namespace Go.Proofs.Ytaooglagddphnaa
open Go.RowKit

set_option maxRecDepth 100000

/-- Rows of numbers in memory, by their place: priorities, marks, vertices. -/
def AP (W : World) (b n : Nat) (pri : Nat → Nat) : Prop := ∃ zs, Blk W b 51 zs ∧ ∀ k, k ≤ n → zs[k]? = some (.int .u64 (pri k : Int))
def AM (W : World) (b n : Nat) (mk : Nat → Nat) : Prop := ∃ zs, Blk W b 3 zs ∧ zs.size = n + 1 ∧ ∀ k, k ≤ n → zs[k]? = some (.int .i64 (mk k : Int))
def AV (W : World) (b n : Nat) (vx : Nat → Bool) : Prop := ∃ zs, Blk W b 4 zs ∧ ∀ k, k ≤ n → zs[k]? = some (.bool (vx k))
section
variable {w w' W : World} {b n : Nat} {pri mk : Nat → Nat} {vx : Nat → Bool}
theorem AP.cell (h : AP W b n pri) {k : Nat} (hk : k ≤ n) : W.cell? ⟨b, k, none⟩ = some (.int .u64 (pri k : Int)) := by obtain ⟨zs, hz, he⟩ := h; exact (hz.cell k).trans (he k hk)
theorem AM.cell (h : AM W b n mk) {k : Nat} (hk : k ≤ n) : W.cell? ⟨b, k, none⟩ = some (.int .i64 (mk k : Int)) := by obtain ⟨zs, hz, _, he⟩ := h; exact (hz.cell k).trans (he k hk)
theorem AV.cell (h : AV W b n vx) {k : Nat} (hk : k ≤ n) : W.cell? ⟨b, k, none⟩ = some (.bool (vx k)) := by obtain ⟨zs, hz, he⟩ := h; exact (hz.cell k).trans (he k hk)
theorem AP.lt (h : AP W b n pri) : b < W.heap.size := by obtain ⟨zs, hz, _⟩ := h; exact hz.lt
theorem AM.lt (h : AM W b n mk) : b < W.heap.size := by obtain ⟨zs, hz, _⟩ := h; exact hz.lt
theorem AV.lt (h : AV W b n vx) : b < W.heap.size := by obtain ⟨zs, hz, _⟩ := h; exact hz.lt
theorem AP.keep (h : AP w b n pri) (e : w'.heap[b]? = w.heap[b]?) : AP w' b n pri := by obtain ⟨zs, hz, he⟩ := h; exact ⟨zs, e.trans hz, he⟩
theorem AM.keep (h : AM w b n mk) (e : w'.heap[b]? = w.heap[b]?) : AM w' b n mk := by obtain ⟨zs, hz, he⟩ := h; exact ⟨zs, e.trans hz, he⟩
theorem AV.keep (h : AV w b n vx) (e : w'.heap[b]? = w.heap[b]?) : AV w' b n vx := by obtain ⟨zs, hz, he⟩ := h; exact ⟨zs, e.trans hz, he⟩
theorem AP.below (h : AP w b n pri) (hb : Below w.heap.size w w') : AP w' b n pri := h.keep (hb.block b h.lt)
theorem AM.below (h : AM w b n mk) (hb : Below w.heap.size w w') : AM w' b n mk := h.keep (hb.block b h.lt)
theorem AV.below (h : AV w b n vx) (hb : Below w.heap.size w w') : AV w' b n vx := h.keep (hb.block b h.lt)
theorem below_drewN {B : Nat} {a : World} (h : Below B a w) (k : Nat) : Below B a (w.drewN k) := ⟨h.os, h.tape, h.output, h.size, h.block⟩
theorem above_any (h : AP w b n pri) {x y cp : Nat} (hx : x ≤ n) (hy : y ≤ n) (vr vm vv : Value) :
    Calls Try.prog 142 #[.agg #[vr, .slice (some ⟨b, 0, none⟩) (n + 1) cp, vm, vv], .int .i64 (x : Int), .int .i64 (y : Int)] w fun e w' => e = .returned (.bool (ab pri x y)) ∧ Below w.heap.size w w' := by
  have cx := h.cell hx
  have cy := h.cell hy
  have hlt := h.lt
  obtain ⟨P, hP⟩ : ∃ P, pri x = P := ⟨_, rfl⟩
  obtain ⟨Q, hQ⟩ : ∃ Q, pri y = Q := ⟨_, rfl⟩
  have hab : ab pri x y = decide (Q < P ∨ (P = Q ∧ x < y)) := by unfold ab; rw [hP, hQ]
  rw [hab]
  rw [hP] at cx
  rw [hQ] at cy
  have hxI : (x : Int) < (n : Int) + 1 := by omega
  have hyI : (y : Int) < (n : Int) + 1 := by omega
  clear hP hQ hab h hx hy
  rcases Nat.lt_trichotomy Q P with h | h | h
  · rw [decide_eq_true (.inl h : Q < P ∨ (P = Q ∧ x < y))]
    have hI : (Q : Int) < (P : Int) := by omega
    go_enter Try.func142, Try.ntmps142
    go_wp2_with fail
    go_quiet (fail)
    go_wp2_with fail
    go_ret
    exact ⟨rfl, below_drewN ((Below.refl _ _).alloc (Nat.le_refl _) _) _⟩
  · subst h
    rw [show decide (Q < Q ∨ (Q = Q ∧ x < y)) = decide (x < y) by simp]
    go_enter Try.func142, Try.ntmps142
    go_wp2_with fail
    go_quiet (fail)
    go_wp2_with fail
    go_ret
    exact ⟨rfl, below_drewN ((Below.refl _ _).alloc (Nat.le_refl _) _) _⟩
  · rw [decide_eq_false (by omega : ¬ (Q < P ∨ (P = Q ∧ x < y)))]
    have hI : (P : Int) < (Q : Int) := by omega
    have hJ : ((P : Int) == (Q : Int)) = false := beq_eq_false_iff_ne.2 (by omega)
    go_enter Try.func142, Try.ntmps142
    go_wp2_with fail
    go_quiet (fail)
    go_wp2_with fail
    go_ret
    exact ⟨(by show Ending.returned (.bool (decide (Q < P))) = _; rw [decide_eq_false (by omega)]), below_drewN ((Below.refl _ _).alloc (Nat.le_refl _) _) _⟩
end

end Go.Proofs.Ytaooglagddphnaa

/- The reference: contract of Root. Printed by wip/tools/trpu.py. -/
namespace Go.Proofs.Ytaooglagddphnaa
open Go.RowKit

set_option maxRecDepth 100000

/-- A forest's value; its variable. -/
abbrev vF (vr : Value) (pb n cp : Nat) (vm vv : Value) : Value := .agg #[vr, .slice (some ⟨pb, 0, none⟩) (n + 1) cp, vm, vv]
def FB (W : World) (b : Nat) (vr : Value) (pb n cp : Nat) (vm vv : Value) : Prop := Blk W b 173 #[vr, .slice (some ⟨pb, 0, none⟩) (n + 1) cp, vm, vv]
/-- .. beside two numbers of a row. -/
structure RS (W : World) (b : Nat) (vr : Value) (pb n cp : Nat) (vm vv : Value) (rb i1 i2 x y : Nat) : Prop where
  f : FB W b vr pb n cp vm vv
  r : ∃ zs, Blk W rb 3 zs ∧ zs[i1]? = some (.int .i64 (x : Int)) ∧ zs[i2]? = some (.int .i64 (y : Int))
section
variable {w w' W : World} {b pb n cp : Nat} {vr vm vv : Value} {pri : Nat → Nat}
theorem RS.below {rb i1 i2 x y : Nat} (h : RS w b vr pb n cp vm vv rb i1 i2 x y) (hb : Below w.heap.size w w') : RS w' b vr pb n cp vm vv rb i1 i2 x y := by
  obtain ⟨f, zs, hz, h1, h2⟩ := h
  exact ⟨Blk.below f hb (Blk.lt f), zs, hz.below hb hz.lt, h1, h2⟩
theorem RS.drew {rb i1 i2 x y : Nat} (h : RS w b vr pb n cp vm vv rb i1 i2 x y) : RS w.drew b vr pb n cp vm vv rb i1 i2 x y := ⟨h.f, h.r⟩
theorem rs_rule (b : Nat) (vr : Value) (pb n cp : Nat) (vm vv : Value) (rb i1 i2 x y : Nat) : ∀ W : World, RS W b vr pb n cp vm vv rb i1 i2 x y → W.cell? ⟨b, 0, none⟩ = some vr ∧ W.cell? ⟨b, 1, none⟩ = some (.slice (some ⟨pb, 0, none⟩) (n + 1) cp) ∧ W.cell? ⟨b, 2, none⟩ = some vm ∧ W.cell? ⟨b, 3, none⟩ = some vv ∧ W.cell? ⟨rb, i1, none⟩ = some (.int .i64 (x : Int)) ∧ W.cell? ⟨rb, i2, none⟩ = some (.int .i64 (y : Int)) := fun W h => by
  obtain ⟨f, zs, hz, h1, h2⟩ := h
  exact ⟨Blk.cell f 0, Blk.cell f 1, Blk.cell f 2, Blk.cell f 3, (hz.cell _).trans h1, (hz.cell _).trans h2⟩
/-- A row's two numbers. -/
theorem LI.two {v : Value} {l : List Nat} (h : LI w v l) {i j : Nat} (hi : i < l.length) (hj : j < l.length) : ∃ rb off cap, v = .slice (some ⟨rb, off, none⟩) l.length cap ∧ l.length ≤ cap ∧ rb < w.heap.size ∧ ∃ zs, Blk w rb 3 zs ∧ zs[off + i]? = some (.int .i64 ((l[i]?.getD 0 : Nat) : Int)) ∧ zs[off + j]? = some (.int .i64 ((l[j]?.getD 0 : Nat) : Int)) := by
  obtain ⟨a, cap, rfl, h1, h2, h3, h4⟩ := h
  obtain ⟨b, off, zs, rfl, hz, hs, hx⟩ := h4 (by omega)
  exact ⟨b, off, cap, rfl, h2, hz.lt, zs, hz, hx i _ (by rw [List.getElem?_eq_getElem hi]; rfl), hx j _ (by rw [List.getElem?_eq_getElem hj]; rfl)⟩

/-- The place of the highest node of a row, as it is sought. -/
def TopRel (d len i a : Nat) : Prop := a < len ∧ i ≤ len ∧ ((i ≤ d ∧ a ≤ i) ∨ (d < i ∧ a = d))
theorem top_next {l r : Tp} {x d len i a : Nat} (hp : Hp pri (.node l x r)) (hd : l.row.length = d) (hl : (Tp.node l x r).row.length = len) (h : TopRel d len i a) (hi : i < len) :
    TopRel d len (i + 1) (if ab pri ((Tp.node l x r).row[i]?.getD 0) ((Tp.node l x r).row[a]?.getD 0) then i else a) := by
  obtain ⟨h1, h2, h3⟩ := h
  have hx : (Tp.node l x r).row[d]?.getD 0 = x := by rw [Tp.row_node, ← hd]; simp
  have hab : ∀ k, k < len → k ≠ d → ab pri x ((Tp.node l x r).row[k]?.getD 0) = true := fun k hk hne => by
    have hk' : k < (Tp.node l x r).row.length := by omega
    rw [List.getElem?_eq_getElem hk']
    simp only [Option.getD_some]
    have hm := List.getElem_mem hk'
    have hk2 := hk'
    rw [Tp.row_node] at hk2
    have hcases : k < d ∨ d < k := by omega
    rcases hcases with hc | hc
    · have : (Tp.node l x r).row[k]'hk' = l.row[k]'(by omega) := by simp only [Tp.row_node]; rw [List.getElem_append_left]
      rw [this]; exact hp.1 _ (List.getElem_mem _)
    · have : (Tp.node l x r).row[k]'hk' = r.row[k - d - 1]'(by simp at hk2; omega) := by
        simp only [Tp.row_node]
        rw [List.getElem_append_right (by omega)]
        rw [List.getElem_cons]
        rw [dif_neg (by omega)]
        congr 1
        omega
      rw [this]; exact hp.2.1 _ (List.getElem_mem _)
  refine ⟨by split <;> omega, by omega, ?_⟩
  rcases h3 with ⟨h3, h4⟩ | ⟨h3, h4⟩
  · by_cases hid : i = d
    · right
      refine ⟨by omega, ?_⟩
      subst hid
      by_cases ha : a = i
      · subst ha; split <;> rfl
      · rw [if_pos (by rw [hx]; exact hab a h1 ha)]
    · left
      exact ⟨by omega, by split <;> omega⟩
  · right
    refine ⟨by omega, ?_⟩
    subst h4
    rw [if_neg]
    rw [hx, ab_asymm (hab i hi (by omega))]
    decide

end

end Go.Proofs.Ytaooglagddphnaa

/- The reference: contract of tree. Printed by wip/tools/trpv.py. -/
namespace Go.Proofs.Ytaooglagddphnaa
open Go.RowKit

set_option maxRecDepth 100000

theorem or_i64 {a b : Nat} (ha : a < 4) (hb : b < 4) : bits .or .i64 (a : Int) (b : Int) = ((a ||| b : Nat) : Int) := by
  have key : ∀ a < 4, ∀ b < 4, bits .or .i64 ((a : Nat) : Int) ((b : Nat) : Int) = ((a ||| b : Nat) : Int) := by decide
  exact key a ha b hb

/-- What nodes must have: parent, left, right, size, vertices, marks, all. -/
abbrev Rec7 := Nat → Nat → Nat
def row7 (a b c d e f g : Nat) : Nat → Nat
  | 0 => a
  | 1 => b
  | 2 => c
  | 3 => d
  | 4 => e
  | 5 => f
  | _ => g
def recT (vx : Nat → Bool) (mk : Nat → Nat) : Nat → Tp → Rec7 → Rec7
  | _, .nil, rc => rc
  | par, .node l x r, rc => fun y => if y = x then row7 par l.root r.root (Tp.node l x r).row.length (cntV vx (Tp.node l x r).row) (mk x) (allM mk (Tp.node l x r).row) else recT vx mk x r (recT vx mk x l rc) y
/-- Nodes in memory. -/
def OB (W : World) (ob n : Nat) (rc : Rec7) : Prop := ∃ zs, Blk W ob 177 zs ∧ zs.size = (n + 1) * 7 ∧ ∀ k j, k ≤ n → j < 7 → zs[k * 7 + j]? = some (.int .i64 (rc k j : Int))
/-- A node of one's own: its cells. -/
def NB (W : World) (nb a b c d e f g : Nat) : Prop := Blk W nb 177 #[.int .i64 (a : Int), .int .i64 (b : Int), .int .i64 (c : Int), .int .i64 (d : Int), .int .i64 (e : Int), .int .i64 (f : Int), .int .i64 (g : Int)]
section
variable {w w' W : World} {b pb n cp mb cm vb cv ob nb : Nat} {vr vm vv : Value} {pri mk : Nat → Nat} {vx : Nat → Bool} {rc : Rec7}
theorem OB.keep (h : OB w ob n rc) (e : w'.heap[ob]? = w.heap[ob]?) : OB w' ob n rc := by obtain ⟨zs, hz, h1, h2⟩ := h; exact ⟨zs, e.trans hz, h1, h2⟩
theorem OB.lt (h : OB w ob n rc) : ob < w.heap.size := by obtain ⟨zs, hz, _⟩ := h; exact hz.lt
theorem OB.below (h : OB w ob n rc) (hb : Below w.heap.size w w') : OB w' ob n rc := h.keep (hb.block ob h.lt)
theorem OB.drew (h : OB w ob n rc) : OB w.drew ob n rc := h
theorem OB.blk (h : OB w ob n rc) : ∃ cs, Blk w ob 177 cs := by obtain ⟨zs, hz, _⟩ := h; exact ⟨zs, hz⟩
/-- A node stored whole. -/
theorem OB.put (h : OB w ob n rc) {x a0 a1 a2 a3 a4 a5 a6 : Nat} (hx : x ≤ n) :
    OB (((((((w.setCell ⟨ob, x * 7, none⟩ (.int .i64 (a0 : Int))).setCell ⟨ob, x * 7 + 1, none⟩ (.int .i64 (a1 : Int))).setCell ⟨ob, x * 7 + 2, none⟩ (.int .i64 (a2 : Int))).setCell ⟨ob, x * 7 + 3, none⟩ (.int .i64 (a3 : Int))).setCell ⟨ob, x * 7 + 4, none⟩ (.int .i64 (a4 : Int))).setCell ⟨ob, x * 7 + 5, none⟩ (.int .i64 (a5 : Int))).setCell ⟨ob, x * 7 + 6, none⟩ (.int .i64 (a6 : Int))) ob n (fun y => if y = x then row7 a0 a1 a2 a3 a4 a5 a6 else rc y) := by
  obtain ⟨zs, hz, hs, he⟩ := h
  have hxs : x * 7 + 6 < zs.size := by rw [hs]; omega
  refine ⟨_, ((((((hz.set_ (x * 7) _).set_ (x * 7 + 1) _).set_ (x * 7 + 2) _).set_ (x * 7 + 3) _).set_ (x * 7 + 4) _).set_ (x * 7 + 5) _).set_ (x * 7 + 6) _, by simp [hs], fun k j hk hj => ?_⟩
  show _ = some (Value.int .i64 (((if k = x then row7 a0 a1 a2 a3 a4 a5 a6 else rc k) j : Nat) : Int))
  by_cases e : k = x
  · subst e
    rw [if_pos rfl]
    have : j = 0 ∨ j = 1 ∨ j = 2 ∨ j = 3 ∨ j = 4 ∨ j = 5 ∨ j = 6 := by omega
    rcases this with rfl | rfl | rfl | rfl | rfl | rfl | rfl <;> (simp only [Array.getElem?_setIfInBounds, Array.size_setIfInBounds]; simp [row7]; omega)
  · rw [if_neg e]
    simp only [Array.getElem?_setIfInBounds, Array.size_setIfInBounds]
    rw [if_neg (by omega), if_neg (by omega), if_neg (by omega), if_neg (by omega), if_neg (by omega), if_neg (by omega), if_neg (by omega)]
    exact he k j hk hj

/-- A forest in memory: what doesn't turn. -/
structure FS (W : World) (pb mb vb n : Nat) (pri mk : Nat → Nat) (vx : Nat → Bool) : Prop where
  p : AP W pb n pri
  m : AM W mb n mk
  v : AV W vb n vx
theorem FS.below (h : FS w pb mb vb n pri mk vx) (hb : Below w.heap.size w w') : FS w' pb mb vb n pri mk vx := ⟨h.p.below hb, h.m.below hb, h.v.below hb⟩
theorem FS.only (h : FS w pb mb vb n pri mk vx) {cs : Array Value} (hz : Blk w ob 177 cs) (ho : Only ob ob w w') : FS w' pb mb vb n pri mk vx := by
  obtain ⟨⟨z1, h1, e1⟩, ⟨z2, h2, e2⟩, ⟨z3, h3, e3⟩⟩ := h
  have n1 := h1.ne_ hz (by decide)
  have n2 := h2.ne_ hz (by decide)
  have n3 := h3.ne_ hz (by decide)
  exact ⟨⟨z1, h1.only ho n1 n1, e1⟩, ⟨z2, h2.only ho n2 n2, e2⟩, ⟨z3, h3.only ho n3 n3, e3⟩⟩
theorem FS.drew (h : FS w pb mb vb n pri mk vx) : FS w.drew pb mb vb n pri mk vx := h.below (Below.refl _ _).drew

/-- A slice cut behind at a place. -/
theorem LI.cutTo {w : World} {a : Option Addr} {n cap k : Nat} {l : List Nat} (h : LI w (.slice a n cap) l) (hk : k ≤ n) : LI w (.slice a k cap) (l.take k) := by
  obtain ⟨a', cap', e, h1, h2, h3, h4⟩ := h
  injection e with e1 e2 e3
  subst e1 e3
  have hlen : (l.take k).length = k := by rw [List.length_take]; omega
  refine ⟨a, cap, by rw [hlen], h1, by rw [hlen]; omega, h3, fun hc => ?_⟩
  obtain ⟨b, off, zs, rfl, hz, hs, hx⟩ := h4 hc
  exact ⟨b, off, zs, rfl, hz, hs, fun i y hi => hx i y (by rw [List.getElem?_take] at hi; split at hi; exact hi; cases hi)⟩

/-- A slice cut ahead at a place. -/
theorem LI.cutFrom {w : World} {b off n cap k : Nat} {l : List Nat} (h : LI w (.slice (some ⟨b, off, none⟩) n cap) l) (hk : k ≤ n) : LI w (.slice (if cap = k then some ⟨b, off, none⟩ else some ⟨b, off + k, none⟩) (n - k) (cap - k)) (l.drop k) := by
  obtain ⟨a', cap', e, h1, h2, h3, h4⟩ := h
  injection e with e1 e2 e3
  subst e1 e3
  have hlen : (l.drop k).length = n - k := by rw [List.length_drop]; omega
  refine ⟨if cap = k then some ⟨b, off, none⟩ else some ⟨b, off + k, none⟩, cap - k, by rw [hlen], by omega, by rw [hlen]; omega, (by intro e; split at e <;> cases e), fun hc => ?_⟩
  obtain ⟨b', off', zs, e, hz, hs, hx⟩ := h4 (by omega)
  cases e
  rw [if_neg (by omega)]
  refine ⟨b, off + k, zs, rfl, hz, by omega, fun i y hi => ?_⟩
  rw [List.getElem?_drop] at hi
  rw [show off + k + i = off + (k + i) by omega]
  exact hx _ _ hi

/-- What tree leaves. -/
def TreeD (ob n : Nat) (vx : Nat → Bool) (mk : Nat → Nat) (par : Nat) (t : Tp) (rc : Rec7) (w : World) (e : Ending) (w' : World) : Prop :=
  e = .returned (.int .i64 ((t.root : Nat) : Int)) ∧ OB w' ob n (recT vx mk par t rc) ∧ Only ob ob w w'

/-- A forest's variable, beside a node's. -/
structure SN (W : World) (b nb : Nat) (vr : Value) (pb n cp : Nat) (vm vv : Value) : Prop where
  f : FB W b vr pb n cp vm vv
  r : ∃ cs, Blk W nb 177 cs ∧ cs.size = 7
theorem SN.only (h : SN w b nb vr pb n cp vm vv) {cs : Array Value} (hz : Blk w ob 177 cs) (ho : Only ob ob w w') (hne : nb ≠ ob) : SN w' b nb vr pb n cp vm vv := by
  obtain ⟨f, c2, h2, h3⟩ := h
  have n1 := Blk.ne_ f hz (by decide)
  exact ⟨Blk.only f ho n1 n1, c2, h2.only ho hne hne, h3⟩
theorem SN.drew (h : SN w b nb vr pb n cp vm vv) : SN w.drew b nb vr pb n cp vm vv := ⟨h.f, h.r⟩
theorem SN.set (h : SN w b nb vr pb n cp vm vv) (i : Nat) (u : Value) : SN (w.setCell ⟨nb, i, none⟩ u) b nb vr pb n cp vm vv := by
  obtain ⟨f, c2, h2, h3⟩ := h
  exact ⟨Blk.far f (Blk.ne_ f h2 (by decide)) u, _, h2.set_ i u, by simpa using h3⟩
theorem sn_rule (b nb : Nat) (vr : Value) (pb n cp : Nat) (vm vv : Value) : ∀ W : World, SN W b nb vr pb n cp vm vv → W.cell? ⟨b, 0, none⟩ = some vr ∧ W.cell? ⟨b, 1, none⟩ = some (.slice (some ⟨pb, 0, none⟩) (n + 1) cp) ∧ W.cell? ⟨b, 2, none⟩ = some vm ∧ W.cell? ⟨b, 3, none⟩ = some vv ∧ W.cell? ⟨nb, 1, none⟩ = some (zAt W nb 1) ∧ W.cell? ⟨nb, 2, none⟩ = some (zAt W nb 2) ∧ W.frozen? ⟨nb, 1, none⟩ = false ∧ W.frozen? ⟨nb, 2, none⟩ = false := fun W h => by
  obtain ⟨f, cs, h2, h3⟩ := h
  have e1 : W.cell? ⟨nb, 1, none⟩ = some cs[1] := (h2.cell 1).trans (Array.getElem?_eq_getElem (by omega))
  have e2 : W.cell? ⟨nb, 2, none⟩ = some cs[2] := (h2.cell 2).trans (Array.getElem?_eq_getElem (by omega))
  exact ⟨Blk.cell f 0, Blk.cell f 1, Blk.cell f 2, Blk.cell f 3, by unfold zAt; rw [e1]; rfl, by unfold zAt; rw [e2]; rfl, h2.frozen 1, h2.frozen 2⟩

def T1Rel (w0 : World) (b : Nat) (vr : Value) (pb n cp : Nat) (vm vv : Value) (R : List Nat) (d : Nat) (at_ i : Value) (W : World) : Prop :=
  ∃ k a, TopRel d R.length k a ∧ at_ = .int .i64 ((a : Nat) : Int) ∧ i = .int .i64 ((k : Nat) : Int) ∧ FB W b vr pb n cp vm vv ∧ Below w0.heap.size w0 W
def T2Rel (w0 : World) (b nb : Nat) (vr : Value) (pb n cp : Nat) (vm vv : Value) (R : List Nat) (par : Nat) (vx : Nat → Bool) (mk : Nat → Nat) (x : Nat) (i : Value) (W : World) : Prop :=
  ∃ k, k ≤ R.length ∧ i = .int .i64 ((k : Nat) : Int) ∧ FB W b vr pb n cp vm vv ∧ NB W nb par 0 0 R.length (cntV vx (R.take k)) (mk x) (allM mk (R.take k)) ∧ Below w0.heap.size w0 W

set_option maxHeartbeats 8000000 in
theorem tree_any (hm : ∀ x, mk x < 4) : ∀ (t : Tp) (w : World) (v : Value) (par : Nat) (rc : Rec7) (vr : Value) (co : Nat), FS w pb mb vb n pri mk vx → OB w ob n rc → LI w v t.row → Hp pri t → (∀ y ∈ t.row, y ≤ n) → t.row.length ≤ 100000 → n ≤ 100000 → par ≤ n →
    Calls Try.prog 132 #[vF vr pb n cp (.slice (some ⟨mb, 0, none⟩) (n + 1) cm) (.slice (some ⟨vb, 0, none⟩) (n + 1) cv), v, .int .i64 (par : Int), .slice (some ⟨ob, 0, none⟩) (n + 1) co] w (TreeD ob n vx mk par t rc w)
  | .nil, w, v, par, rc, vr, co, hF, hO, hR, hp, hn, hl, hn1, hpar => by
    obtain ⟨a, c, rfl, _, _⟩ := hR.shape
    have e0 : (Tp.nil.row).length = 0 := rfl
    rw [e0]
    have HO := Lib.hid hO
    clear hR hF hp hn hl hO
    go_enter Try.func132, Try.ntmps132
    go_wp2_with fail
    go_ret
    exact ⟨rfl, HO.out.below ((Below.refl _ _).alloc (Nat.le_refl _) _), (Only.refl _ _ _).alloc _⟩
  | .node l x r, w, v, par, rc, vr, co, hF, hO, hR, hp, hn, hl, hn1, hpar => by
    have HIL := Lib.hid (fun w' v' => tree_any hm l w' v' x rc vr co)
    have HIR := Lib.hid (fun w' v' => tree_any hm r w' v' x (recT vx mk x l rc) vr co)
    obtain ⟨R, hRR⟩ : ∃ R, (Tp.node l x r).row = R := ⟨_, rfl⟩
    have HPP := Lib.hid hp
    have HTN : Hid (∀ d i a, l.row.length = d → TopRel d R.length i a → i < R.length → TopRel d R.length (i + 1) (if ab pri (R[i]?.getD 0) (R[a]?.getD 0) then i else a)) := Lib.hid fun d i a hd h hi => by
      have := top_next (len := R.length) hp hd (by rw [hRR]) h hi
      rw [hRR] at this; exact this
    obtain ⟨d, hd⟩ : ∃ d, l.row.length = d := ⟨_, rfl⟩
    have HT2 : Hid (∀ i a, TopRel d R.length i a → i < R.length → TopRel d R.length (i + 1) (if ab pri (R[i]?.getD 0) (R[a]?.getD 0) then i else a)) := Lib.hid fun i a => HTN.out d i a hd
    have HXD : Hid (R[d]?.getD 0 = x) := Lib.hid (by rw [← hRR, Tp.row_node, ← hd]; simp)
    have hdl : d < R.length := by rw [← hRR, Tp.row_node, ← hd]; simp
    have HSP : Hid (R = l.row ++ x :: r.row ∧ l.row.length = d) := Lib.hid ⟨hRR.symm, hd⟩
    obtain ⟨CV, hCV⟩ : ∃ CV, cntV vx R = CV := ⟨_, rfl⟩
    obtain ⟨AL, hAL⟩ : ∃ AL, allM mk R = AL := ⟨_, rfl⟩
    obtain ⟨lr, hlr⟩ : ∃ lr, l.root = lr := ⟨_, rfl⟩
    obtain ⟨rr, hrr⟩ : ∃ rr, r.root = rr := ⟨_, rfl⟩
    obtain ⟨MX, hMX⟩ : ∃ MX, mk x = MX := ⟨_, rfl⟩
    have HCV := Lib.hid hCV
    have HAL := Lib.hid hAL
    have HLR := Lib.hid hlr
    have HRR := Lib.hid hrr
    have HMX := Lib.hid hMX
    have HRC : Hid (recT vx mk par (.node l x r) rc = fun y => if y = x then row7 par lr rr R.length CV MX AL else recT vx mk x r (recT vx mk x l rc) y) := Lib.hid (by rw [← hCV, ← hAL, ← hlr, ← hrr, ← hMX, ← hRR]; rfl)
    have HTD : Hid (∀ W e W', e = .returned (.int .i64 (x : Int)) ∧ OB W' ob n (fun y => if y = x then row7 par lr rr R.length CV MX AL else recT vx mk x r (recT vx mk x l rc) y) ∧ Only ob ob W W' → TreeD ob n vx mk par (.node l x r) rc W e W') := Lib.hid fun W e W' h => ⟨h.1, by rw [HRC.out]; exact h.2.1, h.2.2⟩
    refine Calls.mono ?_ (fun e W' h => HTD.out w e W' h)
    rw [hRR] at hR hn hl
    have HN := Lib.hid hn
    have HLI := Lib.hid hR
    have HFS := Lib.hid hF
    have HOB := Lib.hid hO
    have HMK := Lib.hid hm
    have hlI : (R.length : Int) ≤ 100000 := by omega
    clear hp hRR hd HTN hn hF hO HTD HRC hm hCV hAL hlr hrr hMX
    obtain ⟨rb, off, vc, rfl, hcap, hrlt, hz0⟩ := hR.two hdl hdl
    have hl0 : ¬ (R.length : Int) = 0 := by omega
    have hl0b : ((R.length : Int) == 0) = false := beq_eq_false_iff_ne.2 hl0
    clear hR hz0
    go_enter Try.func132, Try.ntmps132
    go_wp2_with fail
    have HF : Hid (FB (w.alloc (.cells #[vr, .slice (some ⟨pb, 0, none⟩) (n + 1) cp, .slice (some ⟨mb, 0, none⟩) (n + 1) cm, .slice (some ⟨vb, 0, none⟩) (n + 1) cv] 173)) w.heap.size vr pb n cp (.slice (some ⟨mb, 0, none⟩) (n + 1) cm) (.slice (some ⟨vb, 0, none⟩) (n + 1) cv)) := Lib.hid (Blk.new _ _ _)
    have HB0 : Hid (Below w.heap.size w (w.alloc (.cells #[vr, .slice (some ⟨pb, 0, none⟩) (n + 1) cp, .slice (some ⟨mb, 0, none⟩) (n + 1) cm, .slice (some ⟨vb, 0, none⟩) (n + 1) cv] 173))) := Lib.hid ((Below.refl _ _).alloc (Nat.le_refl _) _)
    generalize w.alloc (.cells #[vr, .slice (some ⟨pb, 0, none⟩) (n + 1) cp, .slice (some ⟨mb, 0, none⟩) (n + 1) cm, .slice (some ⟨vb, 0, none⟩) (n + 1) cv] 173) = W0 at HF HB0 ⊢
    obtain ⟨VM, hVM⟩ : ∃ VM, Value.slice (some ⟨mb, 0, none⟩) (n + 1) cm = VM := ⟨_, rfl⟩
    obtain ⟨VV, hVV⟩ : ∃ VV, Value.slice (some ⟨vb, 0, none⟩) (n + 1) cv = VV := ⟨_, rfl⟩
    have HRel : Hid (T1Rel w w.heap.size vr pb n cp (.slice (some ⟨mb, 0, none⟩) (n + 1) cm) (.slice (some ⟨vb, 0, none⟩) (n + 1) cv) R d (.int .i64 0) (.int .i64 0) W0) := Lib.hid ⟨0, 0, ⟨by omega, by omega, .inl ⟨by omega, by omega⟩⟩, rfl, rfl, HF.out, HB0.out⟩
    generalize hwb : w.heap.size = b at HF HRel ⊢
    clear HF HB0 hVM hVV
    go_loopw [9, 10] (fun a i wr => T1Rel w b vr pb n cp (.slice (some ⟨mb, 0, none⟩) (n + 1) cm) (.slice (some ⟨vb, 0, none⟩) (n + 1) cv) R d a i wr) (fun _ i _ => R.length - (intOf i).toNat)
    case atStart => exact HRel.out
    case round =>
      clear HRel
      obtain ⟨k, a, htop, rfl, rfl, hF, hB⟩ := hrel
      have hB' : Below w.heap.size w wr := hB
      have HFS1 := Lib.hid (HFS.out.below hB')
      have HLI1 := Lib.hid (HLI.out.below hB')
      have HB := Lib.hid hB
      by_cases hkl : k < R.length
      · obtain ⟨rb', off', cap, e, hcap', hrlt', hzs⟩ := HLI1.out.two hkl htop.1
        injection e with e1 _ e3
        injection e1 with e1
        injection e1 with e1 e4 _
        subst e1 e3 e4
        obtain ⟨X, hX⟩ : ∃ X, R[k]?.getD 0 = X := ⟨_, rfl⟩
        obtain ⟨Y, hY⟩ : ∃ Y, R[a]?.getD 0 = Y := ⟨_, rfl⟩
        have HXN : Hid (X ≤ n) := Lib.hid (HN.out X (by rw [← hX, List.getElem?_eq_getElem hkl]; exact List.getElem_mem _))
        have HYN : Hid (Y ≤ n) := Lib.hid (HN.out Y (by rw [← hY, List.getElem?_eq_getElem htop.1]; exact List.getElem_mem _))
        have HT3 := Lib.hid (HT2.out k a htop hkl)
        rw [hX, hY] at hzs HT3
        have HRS : Hid (RS wr b vr pb n cp (.slice (some ⟨mb, 0, none⟩) (n + 1) cm) (.slice (some ⟨vb, 0, none⟩) (n + 1) cv) rb (off + k) (off + a) X Y) := Lib.hid ⟨hF, hzs⟩
        have hrs := rs_rule b vr pb n cp (.slice (some ⟨mb, 0, none⟩) (n + 1) cm) (.slice (some ⟨vb, 0, none⟩) (n + 1) cv) rb (off + k) (off + a) X Y
        obtain ⟨y0, y1, y2, y3, y4, y5⟩ := hrs wr HRS.out
        have hlt := Blk.lt hF
        have h0k : (0 : Int) ≤ (k : Int) := by omega
        have h1k : (k : Int) < (R.length : Int) := by omega
        have h0a : (0 : Int) ≤ (a : Int) := by omega
        have h1a : (a : Int) < (R.length : Int) := by have := htop.1; omega
        clear hF hB htop hzs hX hY hcap' hB'
        go_wp2_with fail
        have HRd := Lib.hid HRS.out.drew
        have HPd := Lib.hid HFS1.out.drew.p
        have HBd := Lib.hid HB.out.drew
        go_region_held3 (fun W => RS W b vr pb n cp (.slice (some ⟨mb, 0, none⟩) (n + 1) cm) (.slice (some ⟨vb, 0, none⟩) (n + 1) cv) rb (off + k) (off + a) X Y) (first | (with_reducible assumption) | (with_reducible exact RS.below (by assumption) hb1) | (with_reducible exact HRd.out))
          (first
            | (go_at_call 142; ((with_reducible refine (above_any HPd.out HXN.out HYN.out _ _ _).mono ?_); rintro e w2 ⟨rfl, hb1⟩; have HB2 := Lib.hid (keepL HBd.out hb1 HBd.out.size); have HR2 := Lib.hid (HRd.out.below hb1))))
        all_goals
          by_cases hab : ab pri X Y = true
          · rw [hab] at HT3 ⊢
            go_wp2_with fail
            go_roundw
            case rel => exact ⟨k + 1, k, HT3.out, rfl, by simp, HR2.out.f, HB2.out⟩
            case measure => simp [intOf]; omega
          · have hab' : ab pri X Y = false := by simpa using hab
            rw [hab'] at HT3 ⊢
            go_wp2_with fail
            go_roundw
            case rel => exact ⟨k + 1, a, HT3.out, rfl, by simp, HR2.out.f, HB2.out⟩
            case measure => simp [intOf]; omega
      · obtain ⟨h1, h2, h3⟩ := htop
        have ha : a = d := by omega
        subst ha
        have hxn : x ≤ n := HN.out x (by rw [HSP.out.1]; simp)
        have hc1 : wr.cell? ⟨rb, off + a, none⟩ = some (.int .i64 (x : Int)) := by
          obtain ⟨rb', off', cap, e, _, _, zs, hz, hz1, _⟩ := HLI1.out.two h1 h1
          injection e with e1 _ e3
          injection e1 with e1
          injection e1 with e1 e4 _
          subst e1 e3 e4
          rw [HXD.out] at hz1
          exact (hz.cell _).trans hz1
        have hcm := HFS1.out.m.cell hxn
        have h0a : (0 : Int) ≤ (a : Int) := by omega
        have h1a : (a : Int) < (R.length : Int) := by omega
        have hkI : ¬ (k : Int) < (R.length : Int) := by omega
        have hxI : (x : Int) < (n : Int) + 1 := by omega
        have hm4 : (mk x : Int) ≤ 3 := by have := HMK.out x; omega
        rw [HMX.out] at hcm hm4
        have c0 := Blk.cell hF 0
        have c2 : wr.cell? ⟨b, 2, none⟩ = some (.slice (some ⟨mb, 0, none⟩) (n + 1) cm) := Blk.cell hF 2
        have blt := Blk.lt hF
        have mlt := HFS1.out.m.lt
        have rlt : rb < wr.heap.size := by have := hB.size; omega
        have HFB := Lib.hid hF
        clear hF hB h2 h3 c0
        go_wp2_with fail
        have HNB : Hid (NB (wr.alloc (.cells #[.int .i64 (par : Int), .int .i64 0, .int .i64 0, .int .i64 (R.length : Int), .int .i64 0, .int .i64 (MX : Int), .int .i64 0] 177)) wr.heap.size par 0 0 R.length 0 MX 0) := Lib.hid (Blk.new _ _ _)
        have HRel2 : Hid (T2Rel w b wr.heap.size vr pb n cp (.slice (some ⟨mb, 0, none⟩) (n + 1) cm) (.slice (some ⟨vb, 0, none⟩) (n + 1) cv) R par vx mk x (.int .i64 0) (wr.alloc (.cells #[.int .i64 (par : Int), .int .i64 0, .int .i64 0, .int .i64 (R.length : Int), .int .i64 0, .int .i64 (MX : Int), .int .i64 0] 177))) := Lib.hid ⟨0, Nat.zero_le _, rfl, Blk.alloc HFB.out _, by rw [HMX.out]; exact HNB.out, by have := HB.out; exact this.alloc this.size _⟩
        have HNW : Hid (w.heap.size ≤ wr.heap.size ∧ b < wr.heap.size ∧ mb < w.heap.size ∧ vb < w.heap.size) := Lib.hid ⟨by have := HB.out.size; omega, blt, HFS.out.m.lt, HFS.out.v.lt⟩
        generalize hnb : wr.heap.size = nb at HRel2 HNW ⊢
        generalize wr.alloc (.cells #[.int .i64 (par : Int), .int .i64 0, .int .i64 0, .int .i64 (R.length : Int), .int .i64 0, .int .i64 (MX : Int), .int .i64 0] 177) = W1 at HRel2 ⊢
        clear HNB hc1 hcm c2 HFS1 HLI1 HB HFB hm4 blt mlt rlt
        go_loopw [13] (fun i wr => T2Rel w b nb vr pb n cp (.slice (some ⟨mb, 0, none⟩) (n + 1) cm) (.slice (some ⟨vb, 0, none⟩) (n + 1) cv) R par vx mk x i wr) (fun i _ => R.length - (intOf i).toNat)
        case atStart => exact HRel2.out
        case round =>
          clear HRel2
          obtain ⟨k2, hk2, rfl, hF, hNB, hB⟩ := hrel
          have hB' : Below w.heap.size w wr := hB
          have HFS1 := Lib.hid (HFS.out.below hB')
          have HLI1 := Lib.hid (HLI.out.below hB')
          have HB := Lib.hid hB'
          have HFB := Lib.hid hF
          have HNB := Lib.hid hNB
          have bc2 : wr.cell? ⟨b, 2, none⟩ = some (.slice (some ⟨mb, 0, none⟩) (n + 1) cm) := Blk.cell hF 2
          have bc3 : wr.cell? ⟨b, 3, none⟩ = some (.slice (some ⟨vb, 0, none⟩) (n + 1) cv) := Blk.cell hF 3
          have blt := Blk.lt hF
          have mlt := HFS1.out.m.lt
          have vlt := HFS1.out.v.lt
          have nlt := Blk.lt hNB
          have nfz := Blk.frozen hNB
          have rlt : rb < wr.heap.size := by have := hB.size; omega
          by_cases hkl2 : k2 < R.length
          · obtain ⟨Y, hY⟩ : ∃ Y, R[k2]?.getD 0 = Y := ⟨_, rfl⟩
            have hYn : Y ≤ n := HN.out Y (by rw [← hY, List.getElem?_eq_getElem hkl2]; exact List.getElem_mem _)
            have hTK : R.take (k2 + 1) = R.take k2 ++ [Y] := by
              rw [List.take_add_one, List.getElem?_eq_getElem hkl2]
              have : R[k2] = Y := by rw [← hY, List.getElem?_eq_getElem hkl2]; rfl
              rw [this]; rfl
            have hcy : wr.cell? ⟨rb, off + k2, none⟩ = some (.int .i64 (Y : Int)) := by
              obtain ⟨rb', off', cap, e, _, _, zs, hz, hz1, _⟩ := HLI1.out.two hkl2 hkl2
              injection e with e1 _ e3
              injection e1 with e1
              injection e1 with e1 e4 _
              subst e1 e3 e4
              rw [hY] at hz1
              exact (hz.cell _).trans hz1
            have hcv := HFS1.out.v.cell hYn
            have hcm := HFS1.out.m.cell hYn
            obtain ⟨CN, hCN⟩ : ∃ CN, cntV vx (R.take k2) = CN := ⟨_, rfl⟩
            obtain ⟨AN, hAN⟩ : ∃ AN, allM mk (R.take k2) = AN := ⟨_, rfl⟩
            obtain ⟨MY, hMY⟩ : ∃ MY, mk Y = MY := ⟨_, rfl⟩
            have hCNl : (CN : Int) ≤ 100000 := by have := cntV_le vx (R.take k2); rw [hCN, List.length_take] at this; omega
            have hor : bits .or .i64 (AN : Int) (MY : Int) = ((AN ||| MY : Nat) : Int) := or_i64 (by rw [← hAN]; exact allM_lt HMK.out _) (by rw [← hMY]; exact HMK.out Y)
            obtain ⟨AN2, hAN2⟩ : ∃ AN2, AN ||| MY = AN2 := ⟨_, rfl⟩
            have HAN : Hid (allM mk (R.take (k2 + 1)) = AN2) := Lib.hid (by rw [hTK, allM_app, hAN, ← hAN2, ← hMY]; simp [allM])
            rw [hAN2] at hor
            rw [hMY] at hcm
            rw [hCN, hAN] at hNB HNB
            have n4 : wr.cell? ⟨nb, 4, none⟩ = some (.int .i64 (CN : Int)) := Blk.cell hNB 4
            have n6 : wr.cell? ⟨nb, 6, none⟩ = some (.int .i64 (AN : Int)) := Blk.cell hNB 6
            have hrn : ¬ rb = nb := by have := HNW.out; omega
            have hmn : ¬ mb = nb := by have := HNW.out; omega
            have hbn : ¬ b = nb := by have := HNW.out; omega
            have h0k : (0 : Int) ≤ (k2 : Int) := by omega
            have h1k : (k2 : Int) < (R.length : Int) := by omega
            have h0y : (0 : Int) ≤ (Y : Int) := by omega
            have h1y : (Y : Int) < (n : Int) + 1 := by omega
            have HTK := Lib.hid hTK
            have HCN := Lib.hid hCN
            clear hF hNB hB hB' hTK hY hAN hMY hAN2 hYn hCN
            by_cases hvx : vx Y = true
            · rw [hvx] at hcv
              have HC2 : Hid (cntV vx (R.take (k2 + 1)) = CN + 1) := Lib.hid (by rw [HTK.out, cntV_app, HCN.out, cntV_cons, if_pos hvx]; rfl)
              clear hvx
              go_wp2_with fail
              go_quiet (fail)
              go_wp2_with fail
              go_region
              go_wp2_with fail
              go_roundw
              case rel => exact ⟨k2 + 1, by omega, by simp, Blk.far (Blk.far HFB.out hbn _) hbn _, by rw [HC2.out, HAN.out]; exact Blk.set_ (Blk.set_ HNB.out 4 _) 6 _, (((below_drewN HB.out _).setCell (p := ⟨nb, 4, none⟩) HNW.out.1 _).setCell (p := ⟨nb, 6, none⟩) HNW.out.1 _).drew⟩
              case measure => simp [intOf]; omega
            · have hvx' : vx Y = false := by simpa using hvx
              rw [hvx'] at hcv
              have HC2 : Hid (cntV vx (R.take (k2 + 1)) = CN) := Lib.hid (by rw [HTK.out, cntV_app, HCN.out, cntV_cons, if_neg hvx]; rfl)
              clear hvx hvx'
              go_wp2_with fail
              go_quiet (fail)
              go_wp2_with fail
              go_region
              go_wp2_with fail
              go_roundw
              case rel => exact ⟨k2 + 1, by omega, by simp, Blk.far HFB.out hbn _, by rw [HC2.out, HAN.out]; exact Blk.set_ HNB.out 6 _, (below_drewN HB.out _).setCell (p := ⟨nb, 6, none⟩) HNW.out.1 _⟩
              case measure => simp [intOf]; omega
          · have hk2' : k2 = R.length := by omega
            subst hk2'
            rw [List.take_length] at hNB HNB
            have HOB1 := Lib.hid (HOB.out.below hB')
            have hobw := HOB.out.lt
            have HLIl : Hid (LI wr (.slice (some ⟨rb, off, none⟩) a vc) l.row) := Lib.hid (by
              have h := HLI1.out.cutTo (k := a) (by omega)
              rw [HSP.out.1, ← HSP.out.2, List.take_left'] at h
              · rw [HSP.out.2] at h; exact h
              · rfl)
            have HP1 : Hid (Hp pri l) := Lib.hid HPP.out.2.2.1
            have HP2 : Hid (Hp pri r) := Lib.hid HPP.out.2.2.2
            have HN1 : Hid (∀ y ∈ l.row, y ≤ n) := Lib.hid fun y hy => HN.out y (by rw [HSP.out.1]; simp [hy])
            have HN2 : Hid (∀ y ∈ r.row, y ≤ n) := Lib.hid fun y hy => HN.out y (by rw [HSP.out.1]; simp [hy])
            have HL1 : Hid (l.row.length ≤ 100000) := Lib.hid (by rw [HSP.out.2]; omega)
            have HL2 : Hid (r.row.length ≤ 100000) := Lib.hid (by have := congrArg List.length HSP.out.1; simp at this; omega)
            have HXN : Hid (x ≤ n) := Lib.hid hxn
            have hnbo : nb ≠ ob := by have := HNW.out; omega
            rw [HCV.out, HAL.out, HMX.out] at hNB HNB
            have HSN : Hid (SN wr b nb vr pb n cp (.slice (some ⟨mb, 0, none⟩) (n + 1) cm) (.slice (some ⟨vb, 0, none⟩) (n + 1) cv)) := Lib.hid ⟨hF, _, hNB, rfl⟩
            have hsn := sn_rule b nb vr pb n cp (.slice (some ⟨mb, 0, none⟩) (n + 1) cm) (.slice (some ⟨vb, 0, none⟩) (n + 1) cv)
            obtain ⟨z0, z1, z2, z3, z4, z5, z6, z7⟩ := hsn wr HSN.out
            have hai : (a : Int) ≤ (vc : Int) := by omega
            have han : a ≤ vc := by omega
            have hrv : R.length ≤ vc := hcap
            have hl9 : ¬ (R.length : Int) < (R.length : Int) := by omega
            clear hF hNB hB hB' bc2 bc3 mlt vlt nfz
            go_wp2_with fail
            have HSd := Lib.hid HSN.out.drew
            have HNd := Lib.hid (Blk.drew HNB.out)
            have HFd := Lib.hid HFS1.out.drew
            have HOd := Lib.hid HOB1.out.drew
            have HLd := Lib.hid HLIl.out.drew
            have HLRd := Lib.hid HLI1.out.drew
            have HBd := Lib.hid HB.out.drew
            obtain ⟨zo, hzo⟩ := HOd.out.blk
            go_region_held3 (fun W => SN W b nb vr pb n cp (.slice (some ⟨mb, 0, none⟩) (n + 1) cm) (.slice (some ⟨vb, 0, none⟩) (n + 1) cv)) (first | (with_reducible assumption) | (with_reducible exact SN.set (by assumption) 1 _) | (with_reducible exact HSx.out) | (with_reducible exact HSd.out))
              (first
                | (go_at_call 132; ((with_reducible refine (HIL.out _ _ HFd.out HOd.out HLd.out HP1.out HN1.out HL1.out hn1 HXN.out).mono ?_); rintro e w2 ⟨rfl, hO2, O2⟩; rw [HLR.out]; have HSx := Lib.hid (SN.only HSd.out hzo O2 hnbo); have HN2x := Lib.hid (Blk.only HNd.out O2 hnbo hnbo); have HF2x := Lib.hid (HFd.out.only hzo O2); have HL2x := Lib.hid (HLRd.out.only O2 (HLRd.out.ne_blk hzo (by decide)) (HLRd.out.ne_blk hzo (by decide))); have HO2x := Lib.hid hO2; have HOO := Lib.hid ((Only.of_below (p := ob) (g := ob) HBd.out).trans O2))))
            all_goals
              have HZ : Hid (SN (w2.setCell ⟨nb, 1, none⟩ (.int .i64 (lr : Int))) b nb vr pb n cp (.slice (some ⟨mb, 0, none⟩) (n + 1) cm) (.slice (some ⟨vb, 0, none⟩) (n + 1) cv)) := Lib.hid (HSx.out.set 1 _)
              have HN3 := Lib.hid (Blk.set_ HN2x.out 1 (.int .i64 (lr : Int)))
              have HOn : Hid (Only nb nb w2 (w2.setCell ⟨nb, 1, none⟩ (.int .i64 (lr : Int)))) := Lib.hid ((Only.refl nb nb w2).set_p _)
              have HF3 := Lib.hid (HF2x.out.only HN2x.out HOn.out)
              have HL3 := Lib.hid (HL2x.out.only HOn.out (HL2x.out.ne_blk HN2x.out (by decide)) (HL2x.out.ne_blk HN2x.out (by decide)))
              have HO3 : Hid (OB (w2.setCell ⟨nb, 1, none⟩ (.int .i64 (lr : Int))) ob n (recT vx mk x l rc)) := Lib.hid (HO2x.out.keep (Below.heap_setCell w2 ⟨nb, 1, none⟩ _ ob (fun e => hnbo e.symm)))
              have HOO3 : Hid (Only ob ob w (w2.setCell ⟨nb, 1, none⟩ (.int .i64 (lr : Int)))) := Lib.hid (HOO.out.set_new HNW.out.1 _)
              clear HSx HN2x HOn HF2x HL2x HO2x HOO HSd HNd HFd HOd HLd HLRd HBd HLIl HLI1 HFS1 HOB1 HB HFB HNB HSN blt nlt rlt z0 z1 z2 z3 z4 z5 z6 z7 hzo
              generalize w2.setCell ⟨nb, 1, none⟩ (.int .i64 (lr : Int)) = Z at HZ HN3 HF3 HL3 HO3 HOO3 ⊢
              have HLIr : Hid (LI Z (.slice (if vc = a + 1 then some ⟨rb, off, none⟩ else some ⟨rb, off + (a + 1), none⟩) (R.length - (a + 1)) (vc - (a + 1))) r.row) := Lib.hid (by
                have h := HL3.out.cutFrom (k := a + 1) (by omega)
                rw [HSP.out.1, ← HSP.out.2] at h
                have e9 : (l.row ++ x :: r.row).drop (l.row.length + 1) = r.row := by
                  rw [show l.row ++ x :: r.row = (l.row ++ [x]) ++ r.row by simp, List.drop_left' (by simp)]
                rw [e9] at h
                rw [HSP.out.1, ← HSP.out.2]
                exact h)
              obtain ⟨z0, z1, z2, z3, z4, z5, z6, z7⟩ := hsn Z HZ.out
              have nlt := Blk.lt HN3.out
              have blt := Blk.lt HZ.out.f
              have ha1 : (0 : Int) ≤ (a : Int) + 1 := by omega
              have ha2 : (a : Int) + 1 ≤ (R.length : Int) := by omega
              have ha3 : a + 1 ≤ R.length := by omega
              have haw : IntKind.i64.wrap ((a : Int) + 1) = (a : Int) + 1 := IntWalk.i64_in _ (by omega)
              have hav : (a : Int) + 1 ≤ (vc : Int) := by omega
              by_cases hvc : vc = a + 1
              · replace HLIr := Lib.hid (by have h := HLIr.out; rw [if_pos hvc, show vc - (a + 1) = 0 by omega] at h; exact h)
                go_wp2_with fail
                have HSd := Lib.hid HZ.out.drew
                have HNd := Lib.hid (Blk.drew HN3.out)
                have HFd := Lib.hid HF3.out.drew
                have HOd := Lib.hid HO3.out.drew
                have HLd := Lib.hid HLIr.out.drew
                have HBd := Lib.hid HOO3.out.drew
                have HLRd := Lib.hid HL3.out.drew
                obtain ⟨zo, hzo⟩ := HOd.out.blk
                go_region_held3 (fun W => SN W b nb vr pb n cp (.slice (some ⟨mb, 0, none⟩) (n + 1) cm) (.slice (some ⟨vb, 0, none⟩) (n + 1) cv)) (first | (with_reducible assumption) | (with_reducible exact SN.set (by assumption) 2 _) | (with_reducible exact HSx.out) | (with_reducible exact HSd.out))
                  (first
                    | (go_at_call 132; (go_loud ((with_reducible refine (HIR.out _ _ HFd.out HOd.out HLd.out HP2.out HN2.out HL2.out hn1 HXN.out).mono ?_)); rintro e w2 ⟨rfl, hO2, O2⟩; rw [HRR.out]; have HSx := Lib.hid (SN.only HSd.out hzo O2 hnbo); have HN2x := Lib.hid (Blk.only HNd.out O2 hnbo hnbo); have HO2x := Lib.hid hO2; have HOO := Lib.hid (HBd.out.trans O2))))
                all_goals
                  have HN4 := Lib.hid (Blk.set_ HN2x.out 2 (.int .i64 (rr : Int)))
                  have HOn : Hid (Only nb nb w2 (w2.setCell ⟨nb, 2, none⟩ (.int .i64 (rr : Int)))) := Lib.hid ((Only.refl nb nb w2).set_p _)
                  have HO4 : Hid (OB (w2.setCell ⟨nb, 2, none⟩ (.int .i64 (rr : Int))) ob n (recT vx mk x r (recT vx mk x l rc))) := Lib.hid (HO2x.out.keep (Below.heap_setCell w2 ⟨nb, 2, none⟩ _ ob (fun e => hnbo e.symm)))
                  have HOO4 : Hid (Only ob ob w (w2.setCell ⟨nb, 2, none⟩ (.int .i64 (rr : Int)))) := Lib.hid (HOO.out.set_new HNW.out.1 _)
                  clear HSx HN2x HOn HO2x HOO HSd HNd HFd HOd HLd HLRd HBd HLIr HZ HN3 HF3 HL3 HO3 HOO3 nlt blt z0 z1 z2 z3 z4 z5 z6 z7 hzo hsn
                  generalize w2.setCell ⟨nb, 2, none⟩ (.int .i64 (rr : Int)) = Z2 at HN4 HO4 HOO4 ⊢
                  have n0 : Z2.cell? ⟨nb, 0, none⟩ = some (.int .i64 (par : Int)) := Blk.cell HN4.out 0
                  have n1 : Z2.cell? ⟨nb, 1, none⟩ = some (.int .i64 (lr : Int)) := Blk.cell HN4.out 1
                  have n2 : Z2.cell? ⟨nb, 2, none⟩ = some (.int .i64 (rr : Int)) := Blk.cell HN4.out 2
                  have n3 : Z2.cell? ⟨nb, 3, none⟩ = some (.int .i64 (R.length : Int)) := Blk.cell HN4.out 3
                  have n4 : Z2.cell? ⟨nb, 4, none⟩ = some (.int .i64 (CV : Int)) := Blk.cell HN4.out 4
                  have n5 : Z2.cell? ⟨nb, 5, none⟩ = some (.int .i64 (MX : Int)) := Blk.cell HN4.out 5
                  have n6 : Z2.cell? ⟨nb, 6, none⟩ = some (.int .i64 (AL : Int)) := Blk.cell HN4.out 6
                  have nlt := Blk.lt HN4.out
                  have oc : ∀ j, j < 7 → Z2.cell? ⟨ob, x * 7 + j, none⟩ = some (.int .i64 ((recT vx mk x r (recT vx mk x l rc) x j : Nat) : Int)) ∧ Z2.frozen? ⟨ob, x * 7 + j, none⟩ = false := fun j hj => by
                    obtain ⟨zs, hz, _, he⟩ := HO4.out
                    exact ⟨(hz.cell _).trans (he x j HXN.out hj), hz.frozen _⟩
                  obtain ⟨p0, q0⟩ := oc 0 (by omega)
                  obtain ⟨p1, q1⟩ := oc 1 (by omega)
                  obtain ⟨p2, q2⟩ := oc 2 (by omega)
                  obtain ⟨p3, q3⟩ := oc 3 (by omega)
                  obtain ⟨p4, q4⟩ := oc 4 (by omega)
                  obtain ⟨p5, q5⟩ := oc 5 (by omega)
                  obtain ⟨p6, q6⟩ := oc 6 (by omega)
                  rw [Nat.add_zero] at p0 q0
                  have olt := HO4.out.lt
                  have hx0 : (0 : Int) ≤ (x : Int) := by omega
                  clear oc
                  go_wp2_with fail
                  go_ret
                  exact ⟨rfl, HO4.out.put HXN.out, (((((((HOO4.out.set_p _).set_p _).set_p _).set_p _).set_p _).set_p _).set_p _)⟩
              · replace HLIr := Lib.hid (by have h := HLIr.out; rw [if_neg hvc] at h; exact h)
                go_wp2_with fail
                have HSd := Lib.hid HZ.out.drew
                have HNd := Lib.hid (Blk.drew HN3.out)
                have HFd := Lib.hid HF3.out.drew
                have HOd := Lib.hid HO3.out.drew
                have HLd := Lib.hid HLIr.out.drew
                have HBd := Lib.hid HOO3.out.drew
                have HLRd := Lib.hid HL3.out.drew
                obtain ⟨zo, hzo⟩ := HOd.out.blk
                go_region_held3 (fun W => SN W b nb vr pb n cp (.slice (some ⟨mb, 0, none⟩) (n + 1) cm) (.slice (some ⟨vb, 0, none⟩) (n + 1) cv)) (first | (with_reducible assumption) | (with_reducible exact SN.set (by assumption) 2 _) | (with_reducible exact HSx.out) | (with_reducible exact HSd.out))
                  (first
                    | (go_at_call 132; (go_loud ((with_reducible refine (HIR.out _ _ HFd.out HOd.out HLd.out HP2.out HN2.out HL2.out hn1 HXN.out).mono ?_)); rintro e w2 ⟨rfl, hO2, O2⟩; rw [HRR.out]; have HSx := Lib.hid (SN.only HSd.out hzo O2 hnbo); have HN2x := Lib.hid (Blk.only HNd.out O2 hnbo hnbo); have HO2x := Lib.hid hO2; have HOO := Lib.hid (HBd.out.trans O2))))
                all_goals
                  have HN4 := Lib.hid (Blk.set_ HN2x.out 2 (.int .i64 (rr : Int)))
                  have HOn : Hid (Only nb nb w2 (w2.setCell ⟨nb, 2, none⟩ (.int .i64 (rr : Int)))) := Lib.hid ((Only.refl nb nb w2).set_p _)
                  have HO4 : Hid (OB (w2.setCell ⟨nb, 2, none⟩ (.int .i64 (rr : Int))) ob n (recT vx mk x r (recT vx mk x l rc))) := Lib.hid (HO2x.out.keep (Below.heap_setCell w2 ⟨nb, 2, none⟩ _ ob (fun e => hnbo e.symm)))
                  have HOO4 : Hid (Only ob ob w (w2.setCell ⟨nb, 2, none⟩ (.int .i64 (rr : Int)))) := Lib.hid (HOO.out.set_new HNW.out.1 _)
                  clear HSx HN2x HOn HO2x HOO HSd HNd HFd HOd HLd HLRd HBd HLIr HZ HN3 HF3 HL3 HO3 HOO3 nlt blt z0 z1 z2 z3 z4 z5 z6 z7 hzo hsn
                  generalize w2.setCell ⟨nb, 2, none⟩ (.int .i64 (rr : Int)) = Z2 at HN4 HO4 HOO4 ⊢
                  have n0 : Z2.cell? ⟨nb, 0, none⟩ = some (.int .i64 (par : Int)) := Blk.cell HN4.out 0
                  have n1 : Z2.cell? ⟨nb, 1, none⟩ = some (.int .i64 (lr : Int)) := Blk.cell HN4.out 1
                  have n2 : Z2.cell? ⟨nb, 2, none⟩ = some (.int .i64 (rr : Int)) := Blk.cell HN4.out 2
                  have n3 : Z2.cell? ⟨nb, 3, none⟩ = some (.int .i64 (R.length : Int)) := Blk.cell HN4.out 3
                  have n4 : Z2.cell? ⟨nb, 4, none⟩ = some (.int .i64 (CV : Int)) := Blk.cell HN4.out 4
                  have n5 : Z2.cell? ⟨nb, 5, none⟩ = some (.int .i64 (MX : Int)) := Blk.cell HN4.out 5
                  have n6 : Z2.cell? ⟨nb, 6, none⟩ = some (.int .i64 (AL : Int)) := Blk.cell HN4.out 6
                  have nlt := Blk.lt HN4.out
                  have oc : ∀ j, j < 7 → Z2.cell? ⟨ob, x * 7 + j, none⟩ = some (.int .i64 ((recT vx mk x r (recT vx mk x l rc) x j : Nat) : Int)) ∧ Z2.frozen? ⟨ob, x * 7 + j, none⟩ = false := fun j hj => by
                    obtain ⟨zs, hz, _, he⟩ := HO4.out
                    exact ⟨(hz.cell _).trans (he x j HXN.out hj), hz.frozen _⟩
                  obtain ⟨p0, q0⟩ := oc 0 (by omega)
                  obtain ⟨p1, q1⟩ := oc 1 (by omega)
                  obtain ⟨p2, q2⟩ := oc 2 (by omega)
                  obtain ⟨p3, q3⟩ := oc 3 (by omega)
                  obtain ⟨p4, q4⟩ := oc 4 (by omega)
                  obtain ⟨p5, q5⟩ := oc 5 (by omega)
                  obtain ⟨p6, q6⟩ := oc 6 (by omega)
                  rw [Nat.add_zero] at p0 q0
                  have olt := HO4.out.lt
                  have hx0 : (0 : Int) ≤ (x : Int) := by omega
                  clear oc
                  go_wp2_with fail
                  go_ret
                  exact ⟨rfl, HO4.out.put HXN.out, (((((((HOO4.out.set_p _).set_p _).set_p _).set_p _).set_p _).set_p _).set_p _)⟩
end

end Go.Proofs.Ytaooglagddphnaa

/- Rows of rows in memory; the reference: contracts of Sum and Nodes. Printed by wip/tools/trpw.py. -/
namespace Go.Proofs.Ytaooglagddphnaa
open Go.RowKit

set_option maxRecDepth 100000

theorem info_li : (Try.prog.info? 60).map (fun i => (i.zero, i.size, i.bytes)) = some (some (.slice none 0 0), 1, 24) := by kernel_rfl
theorem info_nd : (Try.prog.info? 177).map (fun i => (i.zero, i.size, i.bytes)) = some (some (.agg #[.int .i64 0, .int .i64 0, .int .i64 0, .int .i64 0, .int .i64 0, .int .i64 0, .int .i64 0]), 7, 56) := by kernel_rfl

/-- A row of slices, grown by the call. -/
def RowV (w : World) (base : Nat) (v : Value) (xs : List Value) : Prop := w.ownsRow base 60 1 v xs.length xs
section
variable {w w' : World} {base : Nat} {v : Value} {xs : List Value}
theorem RowV.nil (w : World) (base : Nat) : RowV w base (.slice none 0 0) [] := World.ownsRow_nil _ _ _ _
theorem RowV.kept_of (h : RowV w base v xs) (hb : ∀ i, v.ownBlock = some i → w'.heap[i]? = w.heap[i]?) : RowV w' base v xs := by
  refine ⟨h.1, ?_⟩
  rcases h.2 with hn | ⟨g, cap, cur, rfl, hg, hgg, rest⟩
  · exact .inl hn
  · exact .inr ⟨g, cap, cur, rfl, hg, (hb g rfl).trans hgg, rest⟩
theorem RowV.lt (h : RowV w base v xs) : ∀ k, v.ownBlock = some k → base ≤ k ∧ k < w.heap.size := World.ownsRow.lt h
theorem RowV.alloc (h : RowV w base v xs) (o : Obj) : RowV (w.alloc o) base v xs := World.ownsRow.alloc h o
theorem RowV.drew (h : RowV w base v xs) : RowV w.drew base v xs := h
theorem RowV.mono {base' : Nat} (h : RowV w base v xs) (hb : base' ≤ base) : RowV w base' v xs := by
  refine ⟨h.1, ?_⟩
  rcases h.2 with hn | ⟨g, cap, cur, rfl, hg, rest⟩
  · exact .inl hn
  · exact .inr ⟨g, cap, cur, rfl, Nat.le_trans hb hg, rest⟩
theorem RowV.below (h : RowV w base v xs) (hb : Below w.heap.size w w') : RowV w' base v xs := h.kept_of fun i hi => hb.block i (h.lt i hi).2
theorem RowV.shape (h : RowV w base v xs) : (v = .slice none 0 0 ∧ xs = []) ∨ ∃ g cap cs, v = .slice (some ⟨g, 0, none⟩) xs.length cap ∧ base ≤ g ∧ Blk w g 60 cs ∧ xs.length ≤ cap ∧ cap ≤ maxLen ∧ ∀ (k : Nat) (x : Value), xs[k]? = some x → cs[k]? = some x := by
  rcases h.2 with ⟨rfl, h0⟩ | ⟨g, cap, cur, rfl, hg, hgg, h1, h2, h3, h4⟩
  · exact .inl ⟨rfl, List.eq_nil_of_length_eq_zero h0⟩
  · refine .inr ⟨g, cap, cur, rfl, hg, hgg, h1, h2, fun k x hx => ?_⟩
    have hk := (List.getElem?_eq_some_iff.1 hx).1
    have he : cur[k]? = xs[k]? := by
      have e : cur.toList.take xs.length = xs := by simpa using h4
      have e2 := congrArg (fun l : List Value => l[k]?) e
      simp only [List.getElem?_take_of_lt hk, Array.getElem?_toList] at e2
      exact e2
    rw [he]; exact hx
theorem RowV.slice (h : RowV w base v xs) : ∃ a cap, v = .slice a xs.length cap := by
  rcases h.shape with ⟨rfl, rfl⟩ | ⟨g, cap, cs, rfl, _⟩
  · exact ⟨none, 0, rfl⟩
  · exact ⟨_, cap, rfl⟩
theorem RowV.ne_blk (h : RowV w base v xs) {i : Nat} {ty : TypeId} {cs : Array Value} (hi : Blk w i ty cs) (hty : 60 ≠ ty) : v.ownBlock ≠ some i := by
  intro e
  rcases h.shape with ⟨rfl, _⟩ | ⟨g, cap, zs, rfl, _, hz, _⟩
  · cases e
  · cases e; exact hz.ne_ hi hty rfl
theorem RowV.only {p g : Nat} (h : RowV w base v xs) (ho : Only p g w w') (h1 : v.ownBlock ≠ some p) (h2 : v.ownBlock ≠ some g) : RowV w' base v xs :=
  h.kept_of fun i hi => ho.block i (h.lt i hi).2 (fun e => h1 (e ▸ hi)) (fun e => h2 (e ▸ hi))
theorem wpList_append_row (w : World) {ops : Array Oper} {rest : List Oper} {o : Oper} {a : Act} {Q : Exit → Act → World → Prop} (hgd : o.guard = none) (s x : Operand)
    (ho : o.op = .call { callee := .builtin .append, args := #[s, x], argTypes := #[130, 130] })
    {v : Value} {xs : List Value} {base : Nat} (hs : a.eval s = v) (h : RowV w base v xs) (u : Value) (hu : u.oneCell' = true) (ad : Addr) (c : Nat) (hx : a.eval x = .slice (some ad) 1 c) (hc0 : w.cell? (ad.add 0) = some u) (hl : xs.length ≤ 100000) (hb : base ≤ w.heap.size)
    (hK : ∀ v' w', RowV w' base v' (xs ++ [u]) → w.grownBy w' v.ownBlock → wpList Try.prog ops Q rest (a.put o.dst v') w') : wpList Try.prog ops Q (o :: rest) a w := by
  obtain ⟨i0, hi0, hz0, hz1, hz2⟩ := info_parts info_li
  refine wpList_append_own_at w hgd s x 130 ho base 60 i0 _ 1 24 Try.underlying130 hi0 hz0 hz1 hz2 rfl (by omega) v xs.length xs hs h ad 1 c [u] hx rfl ?_ ?_ (by simp only [maxLen]; omega) (by omega) hb ?_
  · intro j u' hj
    match j, hj with
    | 0, hj => simp at hj; subst hj; exact hc0
    | j + 1, hj => simp at hj
  · intro u' hu'; simp at hu'; subst hu'; exact hu
  · intro v' w' h1 h2 _ _
    refine hK v' w' ?_ h2
    unfold RowV
    rw [List.length_append, List.length_singleton]
    exact h1
end

/-- Each row is in its slice, and none is where the marks are. -/
def RowsOk (W : World) (mb : Nat) (vs : List Value) (ts : List Tp) : Prop := vs.length = ts.length ∧ ∀ (i : Nat) (v : Value) (t : Tp), vs[i]? = some v → ts[i]? = some t → LI W v t.row ∧ bk v ≠ some mb
theorem RowsOk.keep {w w' : World} {mb : Nat} {vs : List Value} {ts : List Tp} (h : RowsOk w mb vs ts) (hk : ∀ v t, v ∈ vs → t ∈ ts → LI w v t.row → bk v ≠ some mb → LI w' v t.row) : RowsOk w' mb vs ts :=
  ⟨h.1, fun i v t h1 h2 => ⟨hk v t (List.mem_of_getElem? h1) (List.mem_of_getElem? h2) (h.2 i v t h1 h2).1 (h.2 i v t h1 h2).2, (h.2 i v t h1 h2).2⟩⟩
theorem RowsOk.below {w w' : World} {mb : Nat} {vs : List Value} {ts : List Tp} (h : RowsOk w mb vs ts) (hb : Below w.heap.size w w') : RowsOk w' mb vs ts := h.keep fun _ _ _ _ h1 _ => h1.below hb
theorem RowsOk.only {w w' : World} {mb p g : Nat} {vs : List Value} {ts : List Tp} {t1 t2 : TypeId} {c1 c2 : Array Value} (h : RowsOk w mb vs ts) (ho : Only p g w w') (h1 : Blk w p t1 c1) (h2 : Blk w g t2 c2) (n1 : 3 ≠ t1) (n2 : 3 ≠ t2) : RowsOk w' mb vs ts :=
  h.keep fun _ _ _ _ hl _ => hl.only ho (hl.ne_blk h1 n1) (hl.ne_blk h2 n2)

section
variable {w w' W : World}
theorem rsum_any {p a b n v o al : Nat} (hn : n ≤ 65535) (hv : v ≤ 65535) (ho : o ≤ 3) (ha : al ≤ 3) (w : World) :
    Calls Try.prog 118 #[.agg #[.int .i64 (p : Int), .int .i64 (a : Int), .int .i64 (b : Int), .int .i64 (n : Int), .int .i64 (v : Int), .int .i64 (o : Int), .int .i64 (al : Int)]] w fun e w' => e = .returned (.int .u64 (sumW n v o al : Int)) ∧ Below w.heap.size w w' := by
  have hnI : (n : Int) ≤ 65535 := by omega
  have hvI : (v : Int) ≤ 65535 := by omega
  have hoI : (o : Int) ≤ 3 := by omega
  have haI : (al : Int) ≤ 3 := by omega
  have e : (((al : Int) * 4 + (o : Int)) * 65536 + (v : Int)) * 65536 + (n : Int) = (sumW n v o al : Int) := by unfold sumW; omega
  obtain ⟨s, hs⟩ : ∃ s, sumW n v o al = s := ⟨_, rfl⟩
  rw [hs] at e ⊢
  have HE := Lib.hid e
  clear hs e hn hv ho ha
  go_enter Try.func118, Try.ntmps118
  go_wp2_with fail
  go_ret
  exact ⟨by rw [← HE.out]; rfl, (Below.refl _ _).alloc (Nat.le_refl _) _⟩

/-- What all nodes must have. -/
def recF (vx : Nat → Bool) (mk : Nat → Nat) (ts : List Tp) (rc : Rec7) : Rec7 := ts.foldl (fun rc t => recT vx mk 0 t rc) rc
theorem recT_other {vx : Nat → Bool} {mk : Nat → Nat} : ∀ {t : Tp} {par : Nat} {rc : Rec7} {y : Nat}, y ∉ t.row → recT vx mk par t rc y = rc y
  | .nil, _, _, _, _ => rfl
  | .node l x r, par, rc, y, h => by
    rw [Tp.row_node, List.mem_append, not_or, List.mem_cons, not_or] at h
    simp only [recT]
    rw [if_neg h.2.1, recT_other h.2.2, recT_other h.1]
theorem recF_other {vx : Nat → Bool} {mk : Nat → Nat} : ∀ {ts : List Tp} {rc : Rec7} {y : Nat}, (∀ t ∈ ts, y ∉ t.row) → recF vx mk ts rc y = rc y
  | [], _, _, _ => rfl
  | t :: ts, rc, y, h => by
    show recF vx mk ts (recT vx mk 0 t rc) y = rc y
    rw [recF_other fun t' ht => h t' (List.mem_cons_of_mem _ ht), recT_other (h t (List.mem_cons_self ..))]
/-- What is told of a node is what its cells have. -/
def NodeIs (g : Mg9) (rc : Rec7) (y : Nat) : Prop := g y 2 = rc y 0 ∧ g y 3 = rc y 1 ∧ g y 4 = rc y 2 ∧ g y 6 = sumW (rc y 3) (rc y 4) (rc y 5) (rc y 6) ∧ rc y 3 ≤ 65535 ∧ rc y 4 ≤ 65535 ∧ rc y 5 ≤ 3 ∧ rc y 6 ≤ 3
theorem recT_is {vx : Nat → Bool} {mk : Nat → Nat} (hm : ∀ x, mk x < 4) {g : Mg9} : ∀ {t : Tp} {par : Nat} {rc : Rec7}, Loose vx mk g t → (t.root ≠ 0 → g t.root 2 = par) → t.row.Nodup → (∀ y ∈ t.row, y ≠ 0) → t.size < 65536 → ∀ y ∈ t.row, NodeIs g (recT vx mk par t rc) y
  | .nil, _, _, _, _, _, _, _, y, h => by simp [Tp.row] at h
  | .node l x r, par, rc, hl, hp, hn, h0, hz, y, h => by
    have hn' := hn
    rw [Tp.row_node, List.nodup_append] at hn
    obtain ⟨nl, nr, nd⟩ := hn
    rw [List.nodup_cons] at nr
    obtain ⟨a, b, c, d, e, hll, hlr⟩ := hl
    have hx0 : x ≠ 0 := h0 x (by simp [Tp.row])
    rw [Tp.size_node] at hz
    have key : ∀ rc', recT vx mk par (.node l x r) rc x = rc' → True := fun _ _ => trivial
    by_cases hyx : y = x
    · subst hyx
      have h1 : recT vx mk par (.node l y r) rc y = row7 par l.root r.root (Tp.node l y r).row.length (cntV vx (Tp.node l y r).row) (mk y) (allM mk (Tp.node l y r).row) := by simp only [recT, if_true]
      have hlen : (Tp.node l y r).row.length = l.size + 1 + r.size := Tp.size_node l y r
      have hcv := cntV_le vx (Tp.node l y r).row
      have hal := allM_lt hm (Tp.node l y r).row
      have hmy := hm y
      unfold NodeIs
      rw [h1]
      exact ⟨hp hx0, a, b, c, by show (Tp.node l y r).row.length ≤ 65535; omega, by show cntV vx (Tp.node l y r).row ≤ 65535; omega, by show mk y ≤ 3; omega, by show allM mk (Tp.node l y r).row ≤ 3; omega⟩
    · have e1 : recT vx mk par (.node l x r) rc y = recT vx mk x r (recT vx mk x l rc) y := by simp only [recT]; rw [if_neg hyx]
      rw [Tp.row_node] at h
      rcases List.mem_append.1 h with h | h
      · have hyr : y ∉ r.row := fun h2 => nd y h y (by simp [h2]) rfl
        have := recT_is hm (rc := rc) hll (fun h => d h) nl (fun z hz => h0 z (by simp [Tp.row, hz])) (by omega) y h
        unfold NodeIs at this ⊢
        rw [e1, recT_other hyr]; exact this
      · rcases List.mem_cons.1 h with rfl | h
        · exact absurd rfl hyx
        · have := recT_is hm (rc := recT vx mk x l rc) hlr (fun h => e h) nr.2 (fun z hz => h0 z (by simp [Tp.row, hz])) (by omega) y h
          unfold NodeIs at this ⊢
          rw [e1]; exact this
theorem recF_is {vx : Nat → Bool} {mk : Nat → Nat} (hm : ∀ x, mk x < 4) {g : Mg9} : ∀ {ts : List Tp} {rc : Rec7}, (∀ t ∈ ts, Stands vx mk g t ∧ t.size < 65536 ∧ ∀ y ∈ t.row, y ≠ 0) → (ts.flatMap Tp.row).Nodup → ∀ t ∈ ts, ∀ y ∈ t.row, NodeIs g (recF vx mk ts rc) y
  | [], _, _, _, t, ht, _, _ => by simp at ht
  | t0 :: ts, rc, h, hn, t, ht, y, hy => by
    rw [List.flatMap_cons, List.nodup_append] at hn
    obtain ⟨n1, n2, n3⟩ := hn
    show NodeIs g (recF vx mk ts (recT vx mk 0 t0 rc)) y
    rcases List.mem_cons.1 ht with rfl | ht
    · have h1 := h t (List.mem_cons_self ..)
      have h2 := recT_is hm (rc := rc) h1.1.1 h1.1.2 n1 h1.2.2 h1.2.1 y hy
      have h3 : recF vx mk ts (recT vx mk 0 t rc) y = recT vx mk 0 t rc y := recF_other fun t' ht' hy' => n3 y hy y (List.mem_flatMap.2 ⟨t', ht', hy'⟩) rfl
      unfold NodeIs at h2 ⊢
      rw [h3]; exact h2
    · exact recF_is hm (fun t' ht' => h t' (List.mem_cons_of_mem _ ht')) n2 t ht y hy
end

end Go.Proofs.Ytaooglagddphnaa

/- The reference: contract of Nodes. Printed by wip/tools/trpx.py. -/
namespace Go.Proofs.Ytaooglagddphnaa
open Go.RowKit

set_option maxRecDepth 100000

abbrev zeroN : Value := .agg #[.int .i64 0, .int .i64 0, .int .i64 0, .int .i64 0, .int .i64 0, .int .i64 0, .int .i64 0]
theorem made_nodes (n : Nat) (hn : n ≤ 100000) (w : World) : (Instr.makeSlice 174 (.int .i64 ((n : Int) + 1)) (.int .i64 ((n : Int) + 1))).run Try.prog w = .ok (.slice (some ⟨w.heap.size, 0, none⟩) (n + 1) (n + 1)) (w.alloc (.cells (madeCells zeroN.cells ((n + 1) * 7)) 177)) := by
  obtain ⟨i0, hi0, hz0, hz1, hz2⟩ := info_parts info_nd
  have h := run_make (P := Try.prog) w 174 177 i0 zeroN Try.underlying174 hi0 hz0 .i64 .i64 ((n : Int) + 1) ((n : Int) + 1) (by omega) (Int.le_refl _) (by rw [hz2]; omega) (by omega)
  rw [show ((n : Int) + 1).toNat = n + 1 by omega, hz1] at h
  exact h
theorem made_zero (n k : Nat) (hk : k < n) : (madeCells zeroN.cells n)[k]? = some (.int .i64 0) := by
  unfold madeCells
  simp only [Array.getElem?_map, Array.getElem?_range, if_pos hk, Option.map_some]
  have h7 : ∀ j, j < 7 → (zeroN.cells)[j]! = .int .i64 0 := by
    intro j hj
    have : j = 0 ∨ j = 1 ∨ j = 2 ∨ j = 3 ∨ j = 4 ∨ j = 5 ∨ j = 6 := by omega
    rcases this with rfl | rfl | rfl | rfl | rfl | rfl | rfl <;> rfl
  rw [show zeroN.cells.size = 7 from rfl]
  rw [h7 _ (Nat.mod_lt _ (by omega))]
theorem OB.made (w : World) (n : Nat) : OB (w.alloc (.cells (madeCells zeroN.cells ((n + 1) * 7)) 177)) w.heap.size n (fun _ _ => 0) :=
  ⟨_, Blk.new _ _ _, size_madeCells _ _, fun k j hk hj => made_zero _ _ (by omega)⟩

/-- A forest's variable, beside a row's place. -/
structure SR (W : World) (b : Nat) (vr : Value) (pb n cp : Nat) (vm vv : Value) (rg k : Nat) (u : Value) : Prop where
  f : FB W b vr pb n cp vm vv
  r : ∃ cs, Blk W rg 60 cs ∧ cs[k]? = some u
section
variable {w w' W w0 : World} {b pb n cp mb cm vb cv ob rg k base : Nat} {vr vm vv u : Value} {pri mk : Nat → Nat} {vx : Nat → Bool} {rc : Rec7}
theorem SR.drew (h : SR w b vr pb n cp vm vv rg k u) : SR w.drew b vr pb n cp vm vv rg k u := ⟨h.f, h.r⟩
theorem SR.only {cs : Array Value} (h : SR w b vr pb n cp vm vv rg k u) (hz : Blk w ob 177 cs) (ho : Only ob ob w w') : SR w' b vr pb n cp vm vv rg k u := by
  obtain ⟨f, c2, h2, h3⟩ := h
  have n1 := Blk.ne_ f hz (by decide)
  have n2 := h2.ne_ hz (by decide)
  exact ⟨Blk.only f ho n1 n1, c2, h2.only ho n2 n2, h3⟩
theorem sr_rule (b : Nat) (vr : Value) (pb n cp : Nat) (vm vv : Value) (rg k : Nat) (u : Value) : ∀ W : World, SR W b vr pb n cp vm vv rg k u → W.cell? ⟨b, 0, none⟩ = some vr ∧ W.cell? ⟨b, 1, none⟩ = some (.slice (some ⟨pb, 0, none⟩) (n + 1) cp) ∧ W.cell? ⟨b, 2, none⟩ = some vm ∧ W.cell? ⟨b, 3, none⟩ = some vv ∧ W.cell? ⟨rg, k, none⟩ = some u := fun W h => by
  obtain ⟨f, cs, h2, h3⟩ := h
  exact ⟨Blk.cell f 0, Blk.cell f 1, Blk.cell f 2, Blk.cell f 3, (h2.cell k).trans h3⟩

def NdRel (w0 : World) (b ob base : Nat) (vr : Value) (pb mb vb n cp : Nat) (vm vv : Value) (pri mk : Nat → Nat) (vx : Nat → Bool) (vs : List Value) (ts : List Tp) (i : Value) (W : World) : Prop :=
  ∃ k, k ≤ ts.length ∧ i = .int .i64 ((k : Nat) : Int) ∧ FB W b vr pb n cp vm vv ∧ OB W ob n (recF vx mk (ts.take k) (fun _ _ => 0)) ∧ FS W pb mb vb n pri mk vx ∧ RowV W base vr vs ∧ RowsOk W mb vs ts ∧ Only ob ob w0 W

theorem tree_zero (hm : ∀ x, mk x < 4) (t : Tp) (w : World) (v : Value) (rc : Rec7) (vr : Value) (co : Nat) (hF : FS w pb mb vb n pri mk vx) (hO : OB w ob n rc) (hR : LI w v t.row) (hp : Hp pri t) (hy : ∀ y ∈ t.row, y ≤ n) (hl : t.row.length ≤ 100000) (hn : n ≤ 100000) :
    Calls Try.prog 132 #[vF vr pb n cp (.slice (some ⟨mb, 0, none⟩) (n + 1) cm) (.slice (some ⟨vb, 0, none⟩) (n + 1) cv), v, .int .i64 0, .slice (some ⟨ob, 0, none⟩) (n + 1) co] w (TreeD ob n vx mk 0 t rc w) := tree_any hm t w v 0 rc vr co hF hO hR hp hy hl hn (Nat.zero_le _)

/-- What Nodes leaves. -/
def NodesD (n : Nat) (rc : Rec7) (w : World) (e : Ending) (w' : World) : Prop :=
  ∃ ob co, e = .returned (.slice (some ⟨ob, 0, none⟩) (n + 1) co) ∧ w.heap.size ≤ ob ∧ OB w' ob n rc ∧ Below w.heap.size w w'

set_option maxHeartbeats 4000000 in
theorem nodesF_any (hm : ∀ x, mk x < 4) (hF : FS w pb mb vb n pri mk vx) {vs : List Value} {ts : List Tp} (hV : RowV w base vr vs) (hR : RowsOk w mb vs ts) (hT : ∀ t ∈ ts, Hp pri t ∧ (∀ y ∈ t.row, y ≤ n) ∧ t.row.length ≤ 100000) (hn : n ≤ 100000) (hts : ts.length ≤ 100000) :
    Calls Try.prog 117 #[vF vr pb n cp (.slice (some ⟨mb, 0, none⟩) (n + 1) cm) (.slice (some ⟨vb, 0, none⟩) (n + 1) cv)] w (NodesD n (recF vx mk ts (fun _ _ => 0)) w) := by
  have hmk := made_nodes n hn
  have HMK := Lib.hid hm
  have HF := Lib.hid hF
  have HV := Lib.hid hV
  have HR := Lib.hid hR
  have HT := Lib.hid hT
  have hlen : vs.length = ts.length := hR.1
  have nI : (n : Int) ≤ 100000 := by omega
  obtain ⟨av, vc, rfl⟩ := hV.slice
  rw [hlen] at HV
  rw [hlen]
  have HLEN := Lib.hid hlen
  clear hlen
  obtain ⟨N9, hN9⟩ : ∃ N9, ts.length = N9 := ⟨_, rfl⟩
  rw [hN9] at HV hts HLEN
  rw [hN9]
  have HN9 := Lib.hid hN9
  clear hm hF hV hR hT hN9
  go_enter Try.func117, Try.ntmps117
  go_wp2_with fail
  have HFB : Hid (FB (w.alloc (.cells #[.slice av N9 vc, .slice (some ⟨pb, 0, none⟩) (n + 1) cp, .slice (some ⟨mb, 0, none⟩) (n + 1) cm, .slice (some ⟨vb, 0, none⟩) (n + 1) cv] 173)) w.heap.size (.slice av N9 vc) pb n cp (.slice (some ⟨mb, 0, none⟩) (n + 1) cm) (.slice (some ⟨vb, 0, none⟩) (n + 1) cv)) := Lib.hid (Blk.new _ _ _)
  have HB0 : Hid (Below w.heap.size w (w.alloc (.cells #[.slice av N9 vc, .slice (some ⟨pb, 0, none⟩) (n + 1) cp, .slice (some ⟨mb, 0, none⟩) (n + 1) cm, .slice (some ⟨vb, 0, none⟩) (n + 1) cv] 173))) := Lib.hid ((Below.refl _ _).alloc (Nat.le_refl _) _)
  have HOB : Hid (OB ((w.alloc (.cells #[.slice av N9 vc, .slice (some ⟨pb, 0, none⟩) (n + 1) cp, .slice (some ⟨mb, 0, none⟩) (n + 1) cm, .slice (some ⟨vb, 0, none⟩) (n + 1) cv] 173)).alloc (.cells (madeCells #[.int .i64 0, .int .i64 0, .int .i64 0, .int .i64 0, .int .i64 0, .int .i64 0, .int .i64 0] ((n + 1) * 7)) 177)) (w.heap.size + 1) n (fun _ _ => 0)) := Lib.hid (by have := OB.made (w.alloc (.cells #[.slice av N9 vc, .slice (some ⟨pb, 0, none⟩) (n + 1) cp, .slice (some ⟨mb, 0, none⟩) (n + 1) cm, .slice (some ⟨vb, 0, none⟩) (n + 1) cv] 173)) n; rw [World.size_alloc] at this; exact this)
  have HFS1 := Lib.hid ((HF.out.below HB0.out).below ((Below.refl _ _).alloc (Nat.le_refl _) (.cells (madeCells #[.int .i64 0, .int .i64 0, .int .i64 0, .int .i64 0, .int .i64 0, .int .i64 0, .int .i64 0] ((n + 1) * 7)) 177)))
  have HV1 := Lib.hid ((HV.out.below HB0.out).alloc (.cells (madeCells #[.int .i64 0, .int .i64 0, .int .i64 0, .int .i64 0, .int .i64 0, .int .i64 0, .int .i64 0] ((n + 1) * 7)) 177))
  have HR1 := Lib.hid ((HR.out.below HB0.out).below ((Below.refl _ _).alloc (Nat.le_refl _) (.cells (madeCells #[.int .i64 0, .int .i64 0, .int .i64 0, .int .i64 0, .int .i64 0, .int .i64 0, .int .i64 0] ((n + 1) * 7)) 177)))
  have HB1 := Lib.hid (HB0.out.alloc HB0.out.size (.cells (madeCells #[.int .i64 0, .int .i64 0, .int .i64 0, .int .i64 0, .int .i64 0, .int .i64 0, .int .i64 0] ((n + 1) * 7)) 177))
  have HFB1 := Lib.hid (Blk.alloc HFB.out (.cells (madeCells #[.int .i64 0, .int .i64 0, .int .i64 0, .int .i64 0, .int .i64 0, .int .i64 0, .int .i64 0] ((n + 1) * 7)) 177))
  generalize hwb : w.heap.size = b at HFB1 HOB ⊢
  generalize (w.alloc (.cells #[.slice av N9 vc, .slice (some ⟨pb, 0, none⟩) (n + 1) cp, .slice (some ⟨mb, 0, none⟩) (n + 1) cm, .slice (some ⟨vb, 0, none⟩) (n + 1) cv] 173)).alloc (.cells (madeCells #[.int .i64 0, .int .i64 0, .int .i64 0, .int .i64 0, .int .i64 0, .int .i64 0, .int .i64 0] ((n + 1) * 7)) 177) = W1 at HOB HFS1 HV1 HR1 HB1 HFB1 ⊢
  have HRel : Hid (NdRel W1 b (b + 1) base (.slice av N9 vc) pb mb vb n cp (.slice (some ⟨mb, 0, none⟩) (n + 1) cm) (.slice (some ⟨vb, 0, none⟩) (n + 1) cv) pri mk vx vs ts (.int .i64 0) W1) := Lib.hid ⟨0, Nat.zero_le _, rfl, HFB1.out, HOB.out, HFS1.out, HV1.out, HR1.out, Only.refl _ _ _⟩
  clear HF HV HR HFB HB0 HOB HFS1 HV1 HR1 HFB1 hmk
  go_loopw [4] (fun i wr => NdRel W1 b (b + 1) base (.slice av N9 vc) pb mb vb n cp (.slice (some ⟨mb, 0, none⟩) (n + 1) cm) (.slice (some ⟨vb, 0, none⟩) (n + 1) cv) pri mk vx vs ts i wr) (fun i _ => N9 - (intOf i).toNat)
  case atStart => exact HRel.out
  case round =>
    clear HRel
    obtain ⟨k, hk, rfl, hF, hO, hS, hV, hR, hOn⟩ := hrel
    have HFB := Lib.hid hF
    have HO := Lib.hid hO
    have HS := Lib.hid hS
    have HV := Lib.hid hV
    have HR := Lib.hid hR
    have HON := Lib.hid hOn
    have c0 : wr.cell? ⟨b, 0, none⟩ = some (.slice av N9 vc) := Blk.cell hF 0
    have blt := Blk.lt hF
    rw [HN9.out] at hk
    by_cases hkl : k < N9
    · obtain ⟨t, ht⟩ : ∃ t, ts[k]? = some t := ⟨_, List.getElem?_eq_getElem (by rw [HN9.out]; exact hkl)⟩
      obtain ⟨u, hu⟩ : ∃ u, vs[k]? = some u := ⟨_, List.getElem?_eq_getElem (by have := HLEN.out; omega)⟩
      have htm := List.mem_of_getElem? ht
      have HLI := Lib.hid (hR.2 k u t hu ht).1
      have HTT := Lib.hid (HT.out t htm)
      have HTK : Hid (recF vx mk (ts.take (k + 1)) (fun _ _ => 0) = recT vx mk 0 t (recF vx mk (ts.take k) (fun _ _ => 0))) := Lib.hid (by
        rw [List.take_add_one, ht]
        unfold recF
        rw [List.foldl_append]; rfl)
      rcases hV.shape with ⟨_, h0⟩ | ⟨rg, cap, cs, e, _, hz, hcl, _, hcs⟩
      · exfalso; have hlen := HLEN.out; rw [h0] at hlen; simp at hlen; omega
      · injection e with e1 e2 e3
        clear e2
        subst e1 e3
        have hcu := hcs k u hu
        have HSR : Hid (SR wr b (.slice (some ⟨rg, 0, none⟩) N9 vc) pb n cp (.slice (some ⟨mb, 0, none⟩) (n + 1) cm) (.slice (some ⟨vb, 0, none⟩) (n + 1) cv) rg k u) := Lib.hid ⟨hF, cs, hz, hcu⟩
        have hsr := sr_rule b (.slice (some ⟨rg, 0, none⟩) N9 vc) pb n cp (.slice (some ⟨mb, 0, none⟩) (n + 1) cm) (.slice (some ⟨vb, 0, none⟩) (n + 1) cv) rg k u
        obtain ⟨y0, y1, y2, y3, y4⟩ := hsr wr HSR.out
        have h0k : (0 : Int) ≤ (k : Int) := by omega
        have h1k : (k : Int) < (N9 : Int) := by omega
        clear hF hO hS hV hR hOn hz hcs hcu htm c0 hu ht hcl
        go_wp2_with fail
        have HSd := Lib.hid HSR.out.drew
        have HFd := Lib.hid HS.out.drew
        have HOd := Lib.hid HO.out.drew
        have HLd := Lib.hid HLI.out.drew
        have HVd := Lib.hid HV.out.drew
        have HRd := Lib.hid (HR.out.below (Below.refl _ _).drew)
        have HNd := Lib.hid HON.out.drew
        obtain ⟨zo, hzo⟩ := HOd.out.blk
        go_region_held3 (fun W => SR W b (.slice (some ⟨rg, 0, none⟩) N9 vc) pb n cp (.slice (some ⟨mb, 0, none⟩) (n + 1) cm) (.slice (some ⟨vb, 0, none⟩) (n + 1) cv) rg k u) (first | (with_reducible assumption) | (with_reducible exact HSx.out) | (with_reducible exact HSd.out))
          (first
            | (go_at_call 132; (go_loud ((with_reducible refine (tree_zero HMK.out t _ u _ _ _ HFd.out HOd.out HLd.out HTT.out.1 HTT.out.2.1 HTT.out.2.2 hn).mono ?_)); rintro e w2 ⟨rfl, hO2, O2⟩; have HSx := Lib.hid (SR.only HSd.out hzo O2); have HO2 := Lib.hid hO2; have HF2 := Lib.hid (HFd.out.only hzo O2); have HV2 := Lib.hid (HVd.out.only O2 (HVd.out.ne_blk hzo (by decide)) (HVd.out.ne_blk hzo (by decide))); have HR2 := Lib.hid (HRd.out.only O2 hzo hzo (by decide) (by decide)); have HN2 := Lib.hid (HNd.out.trans O2))))
        all_goals
          go_wp2_with fail
          go_roundw
          case rel => exact ⟨k + 1, (by rw [HN9.out]; exact hkl), by simp, HSx.out.f, by rw [HTK.out]; exact HO2.out, HF2.out, HV2.out, HR2.out, HN2.out⟩
          case measure => simp [intOf]; omega
    · have hk2 : k = N9 := by omega
      subst hk2
      have hO9 := HO.out
      rw [← HN9.out, List.take_length] at hO9
      replace HO := Lib.hid hO9
      clear hO9
      clear hF hO hS hV hR hOn
      go_wp2_with fail
      go_ret
      exact ⟨_, _, rfl, by omega, HO.out, HON.out.below HB1.out HB1.out.size (by omega) (by omega)⟩
end

end Go.Proofs.Ytaooglagddphnaa

/- The law's play in memory; contracts of row and without. Printed by wip/tools/trpy.py. -/
namespace Go.Proofs.Ytaooglagddphnaa
open Go.RowKit

set_option maxRecDepth 100000

/-- Where a play lies. -/
structure PK9 where
  V : Int
  S : Int
  T : Int
  q : Nat
  p : Nat
  gb : Nat
  cap : Nat
  pb : Nat
  mb : Nat
  vb : Nat
  cp : Nat
  cm : Nat
  cv : Nat
  base : Nat
theorem cntV_vx {vx vx' : Nat → Bool} : ∀ {l : List Nat}, (∀ x ∈ l, vx' x = vx x) → cntV vx' l = cntV vx l
  | [], _ => rfl
  | x :: l, h => by rw [cntV_cons, cntV_cons, h x (by simp), cntV_vx fun y hy => h y (by simp [hy])]
theorem Loose.vx {vx vx' : Nat → Bool} {mk : Nat → Nat} {g : Mg9} : ∀ {t : Tp}, Loose vx mk g t → (∀ x ∈ t.row, vx' x = vx x) → Loose vx' mk g t
  | .nil, _, _ => trivial
  | .node l x r, h, h1 => by
    obtain ⟨a, b, c, d, e, hl, hr⟩ := h
    exact ⟨a, b, by rw [c, sumT_node, sumT_node, cntV_vx h1], d, e, Loose.vx hl fun y hy => h1 y (by simp [Tp.row, hy]), Loose.vx hr fun y hy => h1 y (by simp [Tp.row, hy])⟩
/-- .. and what is right of it. -/
structure FI (V S : Int) (g : Mg9) (mk : Nat → Nat) (ts : List Tp) : Prop where
  hm : ∀ x, mk x < 4
  st : ∀ t ∈ ts, Stands (vxN V) mk g t ∧ Hp (fun z => g z 5) t ∧ t ≠ .nil
  nd : (ts.flatMap Tp.row).Nodup
  al : ∀ x, (x ≠ 0 ∧ x ≤ nN V S) ↔ ∃ t ∈ ts, x ∈ t.row

section
variable {w w' W : World} {K : PK9} {m m' : Nat} {g g' : Mg9} {mk : Nat → Nat} {ts : List Tp} {vr : Value} {vs : List Value}
theorem flat_len {V S : Int} (h : FI V S g mk ts) : (ts.flatMap Tp.row).length ≤ nN V S := by
  have h1 : (ts.flatMap Tp.row) ⊆ List.range' 1 (nN V S) := fun x hx => by
    obtain ⟨t, ht, hx⟩ := List.mem_flatMap.1 hx
    have := (h.al x).2 ⟨t, ht, hx⟩
    exact List.mem_range'.2 ⟨x - 1, by omega, by omega⟩
  have := h.nd.length_le_of_subset h1
  simpa using this
theorem FI.nodes {V S : Int} (h : FI V S g mk ts) {t : Tp} (ht : t ∈ ts) : ∀ y ∈ t.row, y ≠ 0 ∧ y ≤ nN V S := fun y hy => (h.al y).2 ⟨t, ht, hy⟩
theorem FI.one {V S : Int} (h : FI V S g mk ts) {t : Tp} (ht : t ∈ ts) : t.row.Nodup := by
  have := h.nd
  obtain ⟨a, b, rfl⟩ := List.append_of_mem ht
  rw [List.flatMap_append, List.flatMap_cons, List.nodup_append, List.nodup_append] at this
  exact this.2.1.1

/-- A list without two places. -/
def wo {α : Type} (i k : Nat) : Nat → List α → List α
  | _, [] => []
  | j, x :: l => if j ≠ i ∧ j ≠ k then x :: wo i k (j + 1) l else wo i k (j + 1) l
end

end Go.Proofs.Ytaooglagddphnaa

/- The law's play: contracts of without and parent. Printed by wip/tools/trpz.py. -/
namespace Go.Proofs.Ytaooglagddphnaa
open Go.RowKit

set_option maxRecDepth 100000


end Go.Proofs.Ytaooglagddphnaa
